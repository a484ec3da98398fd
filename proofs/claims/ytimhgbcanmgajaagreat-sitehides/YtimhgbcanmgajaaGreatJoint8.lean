/- slices.Reverse of a row of numbers of one's own. What a dict has at a name, and how many. -/
import Derived.Test.YtimhgbcanmgajaaGreatJoint2
import Derived.Test.YtimhgbcanmgajaaGreatMapG
import Derived.Deep.RegionHeld3
import Derived.BigQuiet
import Derived.Test.YtimhgbcanmgajaaGreatJoint7
import Derived.Test.YtimhgbcanmgajaaGreatJoint6
namespace Go.Proofs.YtimhgbcanmgajaaGreat
set_option linter.unusedSimpArgs false
open Go.RowKit

/-- behind k rounds -/
def revA (xs : List Int) (k : Nat) : List Int := (List.range xs.length).map (fun m => if m < k ∨ xs.length ≤ m + k then xs.getD (xs.length - 1 - m) 0 else xs.getD m 0)
theorem revA_len (xs : List Int) (k : Nat) : (revA xs k).length = xs.length := by simp [revA]
theorem revA_at (xs : List Int) {k m : Nat} (hm : m < xs.length) : (revA xs k)[m]? = some (if m < k ∨ xs.length ≤ m + k then xs.getD (xs.length - 1 - m) 0 else xs.getD m 0) := by simp [revA, hm]
theorem revA_zero (xs : List Int) : revA xs 0 = xs := by
  apply List.ext_getElem?
  intro m
  rcases Nat.lt_or_ge m xs.length with h | h
  · rw [revA_at xs h, if_neg (by omega)]
    simp [h]
  · rw [List.getElem?_eq_none (by rw [revA_len]; exact h), List.getElem?_eq_none h]
theorem revA_end (xs : List Int) {k : Nat} (hk : xs.length ≤ 2 * k + 1) : revA xs k = xs.reverse := by
  apply List.ext_getElem?
  intro m
  rcases Nat.lt_or_ge m xs.length with h | h
  · rw [revA_at xs h, List.getElem?_reverse h]
    have h2 : xs.length - 1 - m < xs.length := by omega
    split
    · simp [h2]
    · have : xs.length - 1 - m = m := by omega
      rw [this]
      simp [h]
  · rw [List.getElem?_eq_none (by rw [revA_len]; exact h), List.getElem?_eq_none (by simpa using h)]
theorem revA_step (xs : List Int) {k : Nat} (hk : 2 * k + 1 < xs.length) : ((revA xs k).set k (xs.getD (xs.length - 1 - k) 0)).set (xs.length - 1 - k) (xs.getD k 0) = revA xs (k + 1) := by
  apply List.ext_getElem?
  intro m
  rcases Nat.lt_or_ge m xs.length with h | h
  · rw [revA_at xs h, List.getElem?_set, List.getElem?_set, revA_at xs h]
    simp only [List.length_set, revA_len]
    by_cases h1 : xs.length - 1 - k = m
    · rw [if_pos h1, if_pos (by omega), if_pos (by omega)]
      congr 2
      omega
    · rw [if_neg h1]
      by_cases h2 : k = m
      · rw [if_pos h2, if_pos (by omega), if_pos (by omega), h2]
      · rw [if_neg h2]
        by_cases h3 : m < k ∨ xs.length ≤ m + k
        · rw [if_pos h3, if_pos (by omega)]
        · rw [if_neg h3, if_neg (by omega)]
  · rw [List.getElem?_eq_none (by simp [revA_len]; exact h), List.getElem?_eq_none (by rw [revA_len]; exact h)]

set_option maxRecDepth 100000 in
set_option maxHeartbeats 1000000 in
theorem rev_calls {v : Value} {xs : List Int} (w : World) (hr : w.ownsRow 0 3 1 v xs.length (xs.map (Value.int .i64))) (hn : xs.length ≤ 1000000) :
    Calls Tryz.prog 174 #[v] w fun e w' => (∃ u, e = .returned u) ∧ w'.ownsRow 0 3 1 v xs.length (xs.reverse.map (Value.int .i64)) ∧ Keep (fun b => v.ownBlock = some b) w w' := by
  obtain ⟨ao, cap, rfl⟩ := row_shape hr
  have H := hid hr
  clear hr
  go_enter Tryz.func174, Tryz.ntmps174
  go_wp2_with fail
  go_loopw [2, 3] (fun i j wr => ∃ k : Nat, 2 * k ≤ xs.length + 1 ∧ i = .int .i64 k ∧ j = .int .i64 ((xs.length : Int) - 1 - k) ∧ Hid (wr.ownsRow 0 3 1 (.slice ao xs.length cap) xs.length ((revA xs k).map (Value.int .i64))) ∧ Hid (Keep (fun b => (Value.slice ao xs.length cap).ownBlock = some b) w wr)) (fun i _ _ => xs.length - (intOf i).toNat)
  case atStart => exact ⟨0, by omega, rfl, by simp, hid (by rw [revA_zero]; exact H.out), hid (Keep.refl _ _)⟩
  case round =>
    obtain ⟨k, hk, rfl, rfl, hR, hK⟩ := hrel
    by_cases h1 : 2 * k + 1 < xs.length
    · have hkl : k < xs.length := by omega
      have hjl : xs.length - 1 - k < xs.length := by omega
      obtain ⟨gb, cp, hg, hb0, hlt⟩ := hR.out.form (by omega)
      injection hg with hg1 hg2 hg3
      subst hg1 hg3
      have q1 : wr.cell? ⟨gb, k, none⟩ = some (.int .i64 (xs.getD k 0)) := row_cell hR.out (by rw [List.getElem?_map, revA_at xs hkl, if_neg (by omega)]; rfl)
      have q2 : wr.cell? ⟨gb, xs.length - 1 - k, none⟩ = some (.int .i64 (xs.getD (xs.length - 1 - k) 0)) := row_cell hR.out (by rw [List.getElem?_map, revA_at xs hjl, if_neg (by omega)]; rfl)
      have f1 : wr.frozen? ⟨gb, k, none⟩ = false := row_free hR.out k
      have f2 : wr.frozen? ⟨gb, xs.length - 1 - k, none⟩ = false := row_free hR.out _
      have HS := hid (revA_step xs h1)
      have hr1 := row_set hR.out k (.int .i64 (xs.getD (xs.length - 1 - k) 0))
      have hr2 := row_set hr1 (xs.length - 1 - k) (.int .i64 (xs.getD k 0))
      rw [← List.map_set, ← List.map_set, HS.out] at hr2
      have HR2 := hid hr2
      have HK2 := hid ((hK.out.trans (Keep.set (S := fun b => (Value.slice (some ⟨gb, 0, none⟩) xs.length cap).ownBlock = some b) rfl wr k (.int .i64 (xs.getD (xs.length - 1 - k) 0))) (fun _ _ e => e)).trans (Keep.set (S := fun b => (Value.slice (some ⟨gb, 0, none⟩) xs.length cap).ownBlock = some b) rfl _ (xs.length - 1 - k) (.int .i64 (xs.getD k 0))) (fun _ _ e => e))
      obtain ⟨j, hj⟩ : ∃ j : Nat, xs.length - 1 - k = j := ⟨_, rfl⟩
      have hji : ((xs.length : Int) - 1 - k) = (j : Int) := by omega
      have hkj : k < j := by omega
      rw [hji]
      rw [hj] at q2 f2 HR2 HK2 hjl
      generalize xs.getD k 0 = a1 at *
      generalize hbb : xs.getD j 0 = a2 at *
      clear HS hr1 hr2 hR hK hbb
      go_wp2_with fail
      refine wp_region_held_drew (S := fun _ => True) (by kernel_rfl) trivial (fun hHeld => ?_)
      refine tkk 0 ?_
      refine tkk 1 ?_
      refine tkk 2 ?_
      refine tkk 3 ?_
      refine tkk 4 ?_
      refine tkk 5 ?_
      refine tkk 6 ?_
      refine tkk 8 ?_
      refine tkk 9 ?_
      refine tkk 10 ?_
      refine wpAnyH_ready (rs := [7, 11]) (by kernel_rfl) (by simp) ?_
      refine AllReadyH.cons rfl (fun K hK => ?_) (AllReadyH.cons rfl (fun K hK => ?_) AllReadyH.nil)
      go_simp
      refine hK.out _ _ trivial (fun _ => ?_)
      clear hK K
      refine rdy 11 (fun K hK => ?_)
      go_simp
      refine hK.out _ _ trivial (fun _ => ?_)
      clear hK K
      rotate_left 1
      go_simp
      refine hK.out _ _ trivial (fun _ => ?_)
      clear hK K
      refine rdy 7 (fun K hK => ?_)
      go_simp
      refine hK.out _ _ trivial (fun _ => ?_)
      clear hK K
      rotate_left 1
      all_goals
        refine tkk 12 ?_
        refine rdy 13 (fun K hK => ?_)
        go_simp
        refine hK.out _ _ trivial (fun _ => ?_)
        clear hK K
        refine tkk 14 ?_
        refine rdy 15 (fun K hK => ?_)
        go_simp
        refine hK.out _ _ trivial (fun _ => ?_)
        clear hK K
        refine wpAnyH_done (by kernel_rfl) ?_ _
        go_wp2_with fail
        refine ⟨⟨k + 1, by omega, by simp, by simp; omega, ?_, ?_⟩, by simp [intOf]; omega⟩
        · exact hid (row_keep HR2.out (fun _ _ => rfl))
        · exact hid (HK2.out.trans (Keep.drew _ _) (fun _ _ e => e))
    · have d1 : decide ((k : Int) < (xs.length : Int) - 1 - (k : Int)) = false := decide_eq_false (by omega)
      go_wp2_with fail
      go_end0
      refine ⟨⟨_, rfl⟩, ?_, hK.out⟩
      have := hR.out
      rw [revA_end xs (by omega)] at this
      exact this

end Go.Proofs.YtimhgbcanmgajaaGreat

namespace Go.Proofs.YtimhgbcanmgajaaGreat
set_option linter.unusedSimpArgs false
set_option maxRecDepth 100000
open Go.RowKit

def vlV (v : Vl) : Value := .agg #[.int .i64 v.1, .int .i64 v.2.1, .string v.2.2]
/-- a place's cells -/
theorem PlAt.place {p m i : Nat} {v : Value} {L : Pls} {o : Option Ent} {w : World} (h : PlAt p v m L w) (hi : L[i]? = some o) :
    ∃ g cap, v = .slice (some ⟨g, 0, none⟩) L.length cap ∧ g < w.heap.size ∧ (∀ j, j < 5 → w.cell? ⟨g, i * 5 + j, none⟩ = (cellsO o)[j]?) ∧ ∀ j, w.frozen? ⟨g, j, none⟩ = false := by
  have hl : i < L.length := (List.getElem?_eq_some_iff.1 hi).1
  obtain ⟨g, cap, rfl, _, hg⟩ := h.row.form (by omega)
  refine ⟨g, cap, rfl, hg, fun j hj => ?_, fun j => row_free h.row j⟩
  have e := cellsP_at hi hj
  have hj' : j < (cellsO o).length := by rw [cellsO_len]; exact hj
  rw [List.getElem?_eq_getElem hj'] at e ⊢
  exact row_cell h.row e

theorem value_has {p m i : Nat} {v : Value} {L : Pls} (w : World) (h : PlAt p v m L w) (s : ByteArray) (hs : s.size ≤ 1000000) (hp : posL L s = some i) :
    Calls Tryz.prog 208 #[.pointer (some ⟨p, 0, none⟩), .string s] w fun e w' => e = .returned (.tuple #[vlV (gotV (live L) s), .bool true]) ∧ Below w.heap.size w w' := by
  obtain ⟨u, hu, hlk⟩ := posL_at hp
  have hg : gotV (live L) s = u := by unfold gotV; rw [hlk]; rfl
  rw [hg]
  have hil := posL_lt hp
  obtain ⟨g, cap, rfl, hgs, hc, _⟩ := h.place hu
  obtain ⟨d0, d1⟩ := h.cells
  have H := hid h
  have hsl : s.size ≤ maxLen := by unfold maxLen; omega
  have hpm := h.lt (.inl rfl)
  have hF : posF L s = some (i : Int) := by unfold posF; rw [hp]; rfl
  have A := (Below.refl w.heap.size w).alloc (Nat.le_refl _) (Obj.cells #[.int .i64 0, .int .i64 0, .string ⟨#[]⟩] 37)
  have HM := hid (h.on A).map
  have HA := hid A
  have v2 : w.cell? ⟨g, i * 5 + 2, none⟩ = some (.int .i64 u.1) := hc 2 (by omega)
  have v3 : w.cell? ⟨g, i * 5 + 2 + 1, none⟩ = some (.int .i64 u.2.1) := hc 3 (by omega)
  have v4 : w.cell? ⟨g, i * 5 + 2 + 2, none⟩ = some (.string u.2.2) := hc 4 (by omega)
  have SL := hid (slot_new w rfl 37)
  clear h hg A hc hlk hu
  go_enter Tryz.func208, Tryz.ntmps208
  go_wp2_with (first | (at_lookup; refine wp_mlook rfl _ _ rfl m _ _ s rfl HM.out rfl hsl ?_; rw [hF]) | fail)
  exact bodyPost_ret (ret_ve rfl rfl ⟨by simp, by simp, by simp⟩) rfl ⟨rfl, (Below.refl _ _).alloc (Nat.le_refl _) _⟩
theorem value_none {p m : Nat} {v : Value} {L : Pls} (w : World) (h : PlAt p v m L w) (s : ByteArray) (hs : s.size ≤ 1000000) (hp : posL L s = none) :
    Calls Tryz.prog 208 #[.pointer (some ⟨p, 0, none⟩), .string s] w fun e w' => e = .returned (.tuple #[vlV vl0, .bool false]) ∧ Below w.heap.size w w' := by
  obtain ⟨d0, d1⟩ := h.cells
  have hsl : s.size ≤ maxLen := by unfold maxLen; omega
  have hpm := h.lt (.inl rfl)
  have hF : posF L s = none := by unfold posF; rw [hp]; rfl
  have A := (Below.refl w.heap.size w).alloc (Nat.le_refl _) (Obj.cells #[.int .i64 0, .int .i64 0, .string ⟨#[]⟩] 37)
  have HM := hid (h.on A).map
  clear h A
  go_enter Tryz.func208, Tryz.ntmps208
  go_wp2_with (first | (at_lookup; refine wp_mlook rfl _ _ rfl m _ _ s rfl HM.out rfl hsl ?_; rw [hF]) | fail)
  exact bodyPost_ret (ret_ve rfl rfl ⟨by simp [vl0], by simp [vl0], by simp [vl0]⟩) rfl ⟨rfl, (Below.refl _ _).alloc (Nat.le_refl _) _⟩
theorem value_calls {p m : Nat} {v : Value} {L : Pls} (w : World) (h : PlAt p v m L w) (s : ByteArray) (hs : s.size ≤ 1000000) :
    Calls Tryz.prog 208 #[.pointer (some ⟨p, 0, none⟩), .string s] w fun e w' => e = .returned (.tuple #[vlV (gotV (live L) s), .bool (hasL (live L) s)]) ∧ Below w.heap.size w w' := by
  cases hp : posL L s with
  | some i =>
    have : hasL (live L) s = true := by rw [← posL_has, hp]; rfl
    rw [this]; exact value_has w h s hs hp
  | none =>
    have : hasL (live L) s = false := by rw [← posL_has, hp]; rfl
    rw [this, show gotV (live L) s = vl0 from by unfold gotV; rw [posL_none hp]; rfl]; exact value_none w h s hs hp
theorem get_calls {S : Nat → Prop} {d n : Nat} {l : List Ent} (w : World) (h : DcS S d n l w) (s : ByteArray) (hs : s.size ≤ 1000000) :
    Calls Tryz.prog 205 #[.pointer (some ⟨d, 0, none⟩), .string s] w fun e w' => e = .returned (.tuple #[vlV (gotV l s), .bool (hasL l s)]) ∧ Below w.heap.size w w' := by
  have A := (Below.refl w.heap.size w).alloc (Nat.le_refl _) (Obj.cells #[.int .i64 0, .int .i64 0, .string ⟨#[]⟩] 37)
  have HD := hid (h.on A)
  obtain ⟨p, v, m, L, h1, h2, rfl, h4, h5, h6⟩ := h
  have c0 : w.cell? ⟨d, 0, none⟩ = some (.pointer (some ⟨p, 0, none⟩)) := by rw [blk_cell h1]; rfl
  have hd := blk_lt h1
  have HP := hid (h2.on A)
  have hS := hid (slot_new w rfl 37)
  have HA := hid A
  have HV := hid (value_calls _ HP.out s hs)
  unfold vlV at HV ⊢
  clear h1 h2 A h5 h6
  go_enter Tryz.func205, Tryz.ntmps205
  go_wp2_with fail
  refine (made_calls _ HD.out).mono ?_
  rintro e1 w1 ⟨rfl, rfl⟩
  go_wp2_with fail
  refine HV.out.mono ?_
  rintro e2 w2 ⟨rfl, b2⟩
  have HS2 := hid (slot_on hS.out b2)
  have HB := hid (below_on HA.out b2)
  clear b2 hS HA HV HD HP
  obtain ⟨g0, g1, g2, g3, g4, g5, g6⟩ := HS2.out
  go_wp2_with fail
  exact bodyPost_ret (ret_ve rfl rfl (put3_cells HS2.out _ _ _)) rfl ⟨rfl, put3 HB.out (by simp) _ _ _⟩
theorem dclen_calls {S : Nat → Prop} {d n : Nat} {l : List Ent} (w : World) (h : DcS S d n l w) :
    Calls Tryz.prog 206 #[.pointer (some ⟨d, 0, none⟩)] w fun e w' => e = .returned (.int .i64 (l.length : Int)) ∧ w' = w := by
  have HD := hid h
  obtain ⟨p, v, m, L, h1, h2, rfl, h4, h5, h6⟩ := h
  have c0 : w.cell? ⟨d, 0, none⟩ = some (.pointer (some ⟨p, 0, none⟩)) := by rw [blk_cell h1]; rfl
  have HP := hid h2
  clear h1 h2 h5 h6
  go_enter Tryz.func206, Tryz.ntmps206
  go_wp2_with fail
  refine (made_calls _ HD.out).mono ?_
  rintro e1 w1 ⟨rfl, rfl⟩
  go_wp2_with fail
  refine (dccount_calls _ HP.out).mono ?_
  rintro e1 w1 ⟨rfl, rfl⟩
  go_wp2_with fail
  go_ret
  exact ⟨rfl, rfl⟩

end Go.Proofs.YtimhgbcanmgajaaGreat
