/- slices.Reverse of a row of numbers of one's own. -/
import Derived.Test.YtemidicgipebjaaGreatMapG
import Derived.Deep.RegionHeld3
import Derived.BigQuiet
namespace Go.Proofs.YtemidicgipebjaaGreat
set_option linter.unusedSimpArgs false
open Go.RowKit

/-- behind k rounds -/
def revA (xs : List Int) (k : Nat) : List Int := (List.range xs.length).map (fun m => if m < k ∨ xs.length ≤ m + k then xs.getD (xs.length - 1 - m) 0 else xs.getD m 0)
theorem revA_len (xs : List Int) (k : Nat) : (revA xs k).length = xs.length := by simp [revA]
theorem revA_at (xs : List Int) {k m : Nat} (hm : m < xs.length) : (revA xs k)[m]? = some (if m < k ∨ xs.length ≤ m + k then xs.getD (xs.length - 1 - m) 0 else xs.getD m 0) := by simp [revA, hm]
theorem revA_zero (xs : List Int) : revA xs 0 = xs := by
  apply List.ext_getElem?
  intro m
  rcases Nat.lt_or_ge m xs.length with h | h
  · rw [revA_at xs h, if_neg (by omega)]
    simp [h]
  · rw [List.getElem?_eq_none (by rw [revA_len]; exact h), List.getElem?_eq_none h]
theorem revA_end (xs : List Int) {k : Nat} (hk : xs.length ≤ 2 * k + 1) : revA xs k = xs.reverse := by
  apply List.ext_getElem?
  intro m
  rcases Nat.lt_or_ge m xs.length with h | h
  · rw [revA_at xs h, List.getElem?_reverse h]
    have h2 : xs.length - 1 - m < xs.length := by omega
    split
    · simp [h2]
    · have : xs.length - 1 - m = m := by omega
      rw [this]
      simp [h]
  · rw [List.getElem?_eq_none (by rw [revA_len]; exact h), List.getElem?_eq_none (by simpa using h)]
theorem revA_step (xs : List Int) {k : Nat} (hk : 2 * k + 1 < xs.length) : ((revA xs k).set k (xs.getD (xs.length - 1 - k) 0)).set (xs.length - 1 - k) (xs.getD k 0) = revA xs (k + 1) := by
  apply List.ext_getElem?
  intro m
  rcases Nat.lt_or_ge m xs.length with h | h
  · rw [revA_at xs h, List.getElem?_set, List.getElem?_set, revA_at xs h]
    simp only [List.length_set, revA_len]
    by_cases h1 : xs.length - 1 - k = m
    · rw [if_pos h1, if_pos (by omega), if_pos (by omega)]
      congr 2
      omega
    · rw [if_neg h1]
      by_cases h2 : k = m
      · rw [if_pos h2, if_pos (by omega), if_pos (by omega), h2]
      · rw [if_neg h2]
        by_cases h3 : m < k ∨ xs.length ≤ m + k
        · rw [if_pos h3, if_pos (by omega)]
        · rw [if_neg h3, if_neg (by omega)]
  · rw [List.getElem?_eq_none (by simp [revA_len]; exact h), List.getElem?_eq_none (by rw [revA_len]; exact h)]

set_option maxRecDepth 100000 in
set_option maxHeartbeats 1000000 in
theorem rev_calls {v : Value} {xs : List Int} (w : World) (hr : w.ownsRow 0 3 1 v xs.length (xs.map (Value.int .i64))) (hn : xs.length ≤ 1000000) :
    Calls Tryz.prog 135 #[v] w fun e w' => (∃ u, e = .returned u) ∧ w'.ownsRow 0 3 1 v xs.length (xs.reverse.map (Value.int .i64)) ∧ Keep (fun b => v.ownBlock = some b) w w' := by
  obtain ⟨ao, cap, rfl⟩ := row_shape hr
  have H := hid hr
  clear hr
  go_enter Tryz.func135, Tryz.ntmps135
  go_wp2_with fail
  go_loopw [2, 3] (fun i j wr => ∃ k : Nat, 2 * k ≤ xs.length + 1 ∧ i = .int .i64 k ∧ j = .int .i64 ((xs.length : Int) - 1 - k) ∧ Hid (wr.ownsRow 0 3 1 (.slice ao xs.length cap) xs.length ((revA xs k).map (Value.int .i64))) ∧ Hid (Keep (fun b => (Value.slice ao xs.length cap).ownBlock = some b) w wr)) (fun i _ _ => xs.length - (intOf i).toNat)
  case atStart => exact ⟨0, by omega, rfl, by simp, hid (by rw [revA_zero]; exact H.out), hid (Keep.refl _ _)⟩
  case round =>
    obtain ⟨k, hk, rfl, rfl, hR, hK⟩ := hrel
    by_cases h1 : 2 * k + 1 < xs.length
    · have hkl : k < xs.length := by omega
      have hjl : xs.length - 1 - k < xs.length := by omega
      obtain ⟨gb, cp, hg, hb0, hlt⟩ := hR.out.form (by omega)
      injection hg with hg1 hg2 hg3
      subst hg1 hg3
      have q1 : wr.cell? ⟨gb, k, none⟩ = some (.int .i64 (xs.getD k 0)) := row_cell hR.out (by rw [List.getElem?_map, revA_at xs hkl, if_neg (by omega)]; rfl)
      have q2 : wr.cell? ⟨gb, xs.length - 1 - k, none⟩ = some (.int .i64 (xs.getD (xs.length - 1 - k) 0)) := row_cell hR.out (by rw [List.getElem?_map, revA_at xs hjl, if_neg (by omega)]; rfl)
      have f1 : wr.frozen? ⟨gb, k, none⟩ = false := row_free hR.out k
      have f2 : wr.frozen? ⟨gb, xs.length - 1 - k, none⟩ = false := row_free hR.out _
      have HS := hid (revA_step xs h1)
      have hr1 := row_set hR.out k (.int .i64 (xs.getD (xs.length - 1 - k) 0))
      have hr2 := row_set hr1 (xs.length - 1 - k) (.int .i64 (xs.getD k 0))
      rw [← List.map_set, ← List.map_set, HS.out] at hr2
      have HR2 := hid hr2
      have HK2 := hid ((hK.out.trans (Keep.set (S := fun b => (Value.slice (some ⟨gb, 0, none⟩) xs.length cap).ownBlock = some b) rfl wr k (.int .i64 (xs.getD (xs.length - 1 - k) 0))) (fun _ _ e => e)).trans (Keep.set (S := fun b => (Value.slice (some ⟨gb, 0, none⟩) xs.length cap).ownBlock = some b) rfl _ (xs.length - 1 - k) (.int .i64 (xs.getD k 0))) (fun _ _ e => e))
      obtain ⟨j, hj⟩ : ∃ j : Nat, xs.length - 1 - k = j := ⟨_, rfl⟩
      have hji : ((xs.length : Int) - 1 - k) = (j : Int) := by omega
      have hkj : k < j := by omega
      rw [hji]
      rw [hj] at q2 f2 HR2 HK2 hjl
      generalize xs.getD k 0 = a1 at *
      generalize hbb : xs.getD j 0 = a2 at *
      clear HS hr1 hr2 hR hK hbb
      go_wp2_with fail
      refine wp_region_held_drew (S := fun _ => True) (by kernel_rfl) trivial (fun hHeld => ?_)
      refine wpAnyH_take (i := 0) (v := ?v1) rfl (by kernel_rfl) (by kernel_rfl) (by kernel_rfl) (fun _ _ _ h => h) (Or.inl ⟨by rfl, ?hy1⟩) (by assumption) ?_
      case hy1 => (intro w hSw; go_simp <;> (try with_reducible rfl))
      simp only [Act.put, List.setIfInBounds_toArray, List.set_cons_zero, List.set_cons_succ, List.getElem_toArray, List.getElem_cons_succ, List.getElem_cons_zero]
      refine wpAnyH_take (i := 1) (v := ?v2) rfl (by kernel_rfl) (by kernel_rfl) (by kernel_rfl) (fun _ _ _ h => h) (Or.inl ⟨by rfl, ?hy2⟩) (by assumption) ?_
      case hy2 => (intro w hSw; go_simp <;> (try with_reducible rfl))
      simp only [Act.put, List.setIfInBounds_toArray, List.set_cons_zero, List.set_cons_succ, List.getElem_toArray, List.getElem_cons_succ, List.getElem_cons_zero]
      refine wpAnyH_take (i := 2) (v := ?v3) rfl (by kernel_rfl) (by kernel_rfl) (by kernel_rfl) (fun _ _ _ h => h) (Or.inl ⟨by rfl, ?hy3⟩) (by assumption) ?_
      case hy3 => (intro w hSw; go_simp <;> (try with_reducible rfl))
      simp only [Act.put, List.setIfInBounds_toArray, List.set_cons_zero, List.set_cons_succ, List.getElem_toArray, List.getElem_cons_succ, List.getElem_cons_zero]
      refine wpAnyH_take (i := 3) (v := ?v4) rfl (by kernel_rfl) (by kernel_rfl) (by kernel_rfl) (fun _ _ _ h => h) (Or.inl ⟨by rfl, ?hy4⟩) (by assumption) ?_
      case hy4 => (intro w hSw; go_simp <;> (try with_reducible rfl))
      simp only [Act.put, List.setIfInBounds_toArray, List.set_cons_zero, List.set_cons_succ, List.getElem_toArray, List.getElem_cons_succ, List.getElem_cons_zero]
      refine wpAnyH_take (i := 4) (v := ?v5) rfl (by kernel_rfl) (by kernel_rfl) (by kernel_rfl) (fun _ _ _ h => h) (Or.inl ⟨by rfl, ?hy5⟩) (by assumption) ?_
      case hy5 => (intro w hSw; go_simp <;> (try with_reducible rfl))
      simp only [Act.put, List.setIfInBounds_toArray, List.set_cons_zero, List.set_cons_succ, List.getElem_toArray, List.getElem_cons_succ, List.getElem_cons_zero]
      refine wpAnyH_take (i := 5) (v := ?v6) rfl (by kernel_rfl) (by kernel_rfl) (by kernel_rfl) (fun _ _ _ h => h) (Or.inl ⟨by rfl, ?hy6⟩) (by assumption) ?_
      case hy6 => (intro w hSw; go_simp <;> (try with_reducible rfl))
      simp only [Act.put, List.setIfInBounds_toArray, List.set_cons_zero, List.set_cons_succ, List.getElem_toArray, List.getElem_cons_succ, List.getElem_cons_zero]
      refine wpAnyH_take (i := 6) (v := ?v7) rfl (by kernel_rfl) (by kernel_rfl) (by kernel_rfl) (fun _ _ _ h => h) (Or.inl ⟨by rfl, ?hy7⟩) (by assumption) ?_
      case hy7 => (intro w hSw; go_simp <;> (try with_reducible rfl))
      simp only [Act.put, List.setIfInBounds_toArray, List.set_cons_zero, List.set_cons_succ, List.getElem_toArray, List.getElem_cons_succ, List.getElem_cons_zero]
      refine wpAnyH_take (i := 8) (v := ?v8) rfl (by kernel_rfl) (by kernel_rfl) (by kernel_rfl) (fun _ _ _ h => h) (Or.inl ⟨by rfl, ?hy8⟩) (by assumption) ?_
      case hy8 => (intro w hSw; go_simp <;> (try with_reducible rfl))
      simp only [Act.put, List.setIfInBounds_toArray, List.set_cons_zero, List.set_cons_succ, List.getElem_toArray, List.getElem_cons_succ, List.getElem_cons_zero]
      refine wpAnyH_take (i := 9) (v := ?v9) rfl (by kernel_rfl) (by kernel_rfl) (by kernel_rfl) (fun _ _ _ h => h) (Or.inl ⟨by rfl, ?hy9⟩) (by assumption) ?_
      case hy9 => (intro w hSw; go_simp <;> (try with_reducible rfl))
      simp only [Act.put, List.setIfInBounds_toArray, List.set_cons_zero, List.set_cons_succ, List.getElem_toArray, List.getElem_cons_succ, List.getElem_cons_zero]
      refine wpAnyH_take (i := 10) (v := ?v10) rfl (by kernel_rfl) (by kernel_rfl) (by kernel_rfl) (fun _ _ _ h => h) (Or.inl ⟨by rfl, ?hy10⟩) (by assumption) ?_
      case hy10 => (intro w hSw; go_simp <;> (try with_reducible rfl))
      simp only [Act.put, List.setIfInBounds_toArray, List.set_cons_zero, List.set_cons_succ, List.getElem_toArray, List.getElem_cons_succ, List.getElem_cons_zero]
      refine wpAnyH_ready (rs := [7, 11]) (by kernel_rfl) (by simp) ?_
      refine AllReadyH.cons rfl (fun K hK => ?_) (AllReadyH.cons rfl (fun K hK => ?_) AllReadyH.nil)
      go_simp
      refine hK.out _ _ trivial (fun _ => ?_)
      clear hK K
      refine wpAnyH_ready (rs := [11]) (by kernel_rfl) (by simp) ?_
      refine AllReadyH.cons rfl (fun K hK => ?_) AllReadyH.nil
      go_simp
      refine hK.out _ _ trivial (fun _ => ?_)
      clear hK K
      rotate_left 1
      go_simp
      refine hK.out _ _ trivial (fun _ => ?_)
      clear hK K
      refine wpAnyH_ready (rs := [7]) (by kernel_rfl) (by simp) ?_
      refine AllReadyH.cons rfl (fun K hK => ?_) AllReadyH.nil
      go_simp
      refine hK.out _ _ trivial (fun _ => ?_)
      clear hK K
      rotate_left 1
      all_goals
        refine wpAnyH_take (i := 12) (v := ?_) rfl (by kernel_rfl) (by kernel_rfl) (by kernel_rfl) (fun _ _ _ h => h) (Or.inl ⟨by rfl, ?_⟩) (by assumption) ?_
        rotate_left 1
        · (intro w hSw; go_simp <;> (try with_reducible rfl))
        simp only [Act.put, List.setIfInBounds_toArray, List.set_cons_zero, List.set_cons_succ, List.getElem_toArray, List.getElem_cons_succ, List.getElem_cons_zero]
        refine wpAnyH_ready (rs := [13]) (by kernel_rfl) (by simp) ?_
        refine AllReadyH.cons rfl (fun K hK => ?_) AllReadyH.nil
        go_simp
        refine hK.out _ _ trivial (fun _ => ?_)
        clear hK K
        refine wpAnyH_take (i := 14) (v := ?_) rfl (by kernel_rfl) (by kernel_rfl) (by kernel_rfl) (fun _ _ _ h => h) (Or.inl ⟨by rfl, ?_⟩) (by assumption) ?_
        rotate_left 1
        · (intro w hSw; go_simp <;> (try with_reducible rfl))
        simp only [Act.put, List.setIfInBounds_toArray, List.set_cons_zero, List.set_cons_succ, List.getElem_toArray, List.getElem_cons_succ, List.getElem_cons_zero]
        refine wpAnyH_ready (rs := [15]) (by kernel_rfl) (by simp) ?_
        refine AllReadyH.cons rfl (fun K hK => ?_) AllReadyH.nil
        go_simp
        refine hK.out _ _ trivial (fun _ => ?_)
        clear hK K
        refine wpAnyH_done (by kernel_rfl) ?_ _
        go_wp2_with fail
        refine ⟨⟨k + 1, by omega, by simp, by simp; omega, ?_, ?_⟩, by simp [intOf]; omega⟩
        · exact hid (row_keep HR2.out (fun _ _ => rfl))
        · exact hid (HK2.out.trans (Keep.drew _ _) (fun _ _ e => e))
    · have d1 : decide ((k : Int) < (xs.length : Int) - 1 - (k : Int)) = false := decide_eq_false (by omega)
      go_wp2_with fail
      go_end0
      refine ⟨⟨_, rfl⟩, ?_, hK.out⟩
      have := hR.out
      rw [revA_end xs (by omega)] at this
      exact this

end Go.Proofs.YtemidicgipebjaaGreat
