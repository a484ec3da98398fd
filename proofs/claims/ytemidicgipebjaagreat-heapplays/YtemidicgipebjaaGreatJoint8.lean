/- A shape more: in the list, in its parent's map. slices.Reverse of a row of numbers of one's own. Delete, Clone, Key and Names, as a dict has them. -/
import Derived.Test.YtemidicgipebjaaGreatJoint2
import Derived.Test.YtemidicgipebjaaGreatShMem
import Derived.Test.YtemidicgipebjaaGreatJoint7
import Derived.Deep.RegionHeld3
import Derived.Test.YtemidicgipebjaaGreatMapG
import Derived.BigQuiet
import Derived.Test.YtemidicgipebjaaGreatDcDrop
namespace Go.Proofs.YtemidicgipebjaaGreat
set_option linter.unusedSimpArgs false
open Go.RowKit

theorem elOne : Elem 171 143 1 8 := elem_of (z0 := .pointer none) (by kernel_rfl) (by kernel_rfl) rfl
set_option maxHeartbeats 1000000 in
theorem put_full {t m M n sg : Nat} {v : Value} {xs : List Value} (w : World) (hb : Blk t 173 #[.int .i64 (M : Int), .map (some m), v] w) (hr : w.ownsRow 0 143 1 v n xs) (hn : M ≤ n) :
    Calls Tryz.prog 130 #[.pointer (some ⟨t, 0, none⟩), .pointer (some ⟨sg, 0, none⟩)] w fun e w' => e = .returned (.int .i64 0) ∧ Below w.heap.size w w' := by
  obtain ⟨ao, cap, rfl⟩ := row_shape hr
  have c0 : w.cell? ⟨t, 0, none⟩ = some (.int .i64 (M : Int)) := by rw [blk_cell hb]; rfl
  have c2 : w.cell? ⟨t, 2, none⟩ = some (.slice ao n cap) := by rw [blk_cell hb]; rfl
  have d1 : decide ((M : Int) ≤ (n : Int)) = true := decide_eq_true (by omega)
  clear hb hr
  go_enter Tryz.func130, Tryz.ntmps130
  go_wp2_with fail
  refine wp_region_held_drew (S := fun a => a.cell? ⟨t, 0, none⟩ = some (.int .i64 (M : Int)) ∧ a.cell? ⟨t, 2, none⟩ = some (.slice ao n cap)) (by kernel_rfl) ⟨c0, c2⟩ (fun hHeld => ?_)
  refine tkk 0 ?_
  refine tkk 1 ?_
  refine tkk 2 ?_
  refine tkk 3 ?_
  refine tkk 4 ?_
  refine tkk 5 ?_
  refine tkk 6 ?_
  refine tkk 7 ?_
  refine tkk 8 ?_
  refine tkk 9 ?_
  refine wpAnyH_done (by kernel_rfl) ?_ _
  go_wp2_with fail
  go_ret
  exact ⟨rfl, (Below.refl _ _).drew⟩
set_option maxHeartbeats 1000000 in
theorem put_new {t m M n sg : Nat} {v : Value} {xs : List Value} (w : World) (hb : Blk t 173 #[.int .i64 (M : Int), .map (some m), v] w) (hr : w.ownsRow 0 143 1 v n xs) (hn : n < M) (hM : M ≤ 150) :
    Calls Tryz.prog 130 #[.pointer (some ⟨t, 0, none⟩), .pointer (some ⟨sg, 0, none⟩)] w fun e w' => e = .returned (.int .i64 ((n : Int) + 1)) ∧ ∃ v', Blk t 173 #[.int .i64 (M : Int), .map (some m), v'] w' ∧ w'.ownsRow 0 143 1 v' (n + 1) (xs ++ [.pointer (some ⟨sg, 0, none⟩)]) ∧
      Keep (fun b => b = t ∨ v.ownBlock = some b) w w' ∧ ∀ g, v'.ownBlock = some g → v.ownBlock = some g ∨ w.heap.size ≤ g := by
  have hrt : ∀ b, v.ownBlock = some b → b ≠ t := fun b hv e => by
    obtain ⟨cur, hc⟩ := row_lt hr hv
    exact absurd (blk_type (e ▸ hc) hb) (by decide)
  obtain ⟨ao, cap, rfl⟩ := row_shape hr
  have c0 : w.cell? ⟨t, 0, none⟩ = some (.int .i64 (M : Int)) := by rw [blk_cell hb]; rfl
  have c2 : w.cell? ⟨t, 2, none⟩ = some (.slice ao n cap) := by rw [blk_cell hb]; rfl
  have htl := blk_lt hb
  have d1 : decide ((M : Int) ≤ (n : Int)) = false := decide_eq_false (by omega)
  have HB := hid hb
  have HR := hid hr
  have HT := hid hrt
  clear hb hr hrt
  go_enter Tryz.func130, Tryz.ntmps130
  go_wp2_with fail
  refine wp_region_held_drew (S := fun a => a.cell? ⟨t, 0, none⟩ = some (.int .i64 (M : Int)) ∧ a.cell? ⟨t, 2, none⟩ = some (.slice ao n cap)) (by kernel_rfl) ⟨c0, c2⟩ (fun hHeld => ?_)
  refine tkk 0 ?_
  refine tkk 1 ?_
  refine tkk 2 ?_
  refine tkk 3 ?_
  refine tkk 4 ?_
  refine tkk 5 ?_
  refine tkk 6 ?_
  refine tkk 7 ?_
  refine tkk 8 ?_
  refine tkk 9 ?_
  refine wpAnyH_done (by kernel_rfl) ?_ _
  have HB1 := hid (blk_on HB.out (Below.refl _ w).drew)
  have HR1 := hid (row_keep (c := w.drew) HR.out (fun _ _ => rfl))
  have HK1 := hid (Keep.drew (fun b => b = t ∨ (Value.slice ao n cap).ownBlock = some b) w)
  have c21 : w.drew.cell? ⟨t, 2, none⟩ = some (.slice ao n cap) := c2
  have HS1 := hid (show w.drew.heap.size = w.heap.size from rfl)
  have ht1 : t < w.drew.heap.size := htl
  generalize w.drew = w1 at *
  have HAPP := hid (show ∀ g cp w4, w4.ownsRow 0 143 1 (.slice (some ⟨g, 0, none⟩) (n + 1) cp) (n + 1) (xs ++ [.pointer (some ⟨sg, 0, none⟩)]) → w1.grownBy w4 (Value.slice ao n cap).ownBlock → ((Value.slice ao n cap).ownBlock = some g ∨ w1.heap.size ≤ g) →
      Blk t 173 #[.int .i64 (M : Int), .map (some m), .slice ao n cap] w4 ∧ Blk t 173 #[.int .i64 (M : Int), .map (some m), .slice (some ⟨g, 0, none⟩) (n + 1) cp] (w4.setCell ⟨t, 2, none⟩ (.slice (some ⟨g, 0, none⟩) (n + 1) cp)) ∧
      (w4.setCell ⟨t, 2, none⟩ (.slice (some ⟨g, 0, none⟩) (n + 1) cp)).ownsRow 0 143 1 (.slice (some ⟨g, 0, none⟩) (n + 1) cp) (n + 1) (xs ++ [.pointer (some ⟨sg, 0, none⟩)]) ∧ Keep (fun b => b = t ∨ (Value.slice ao n cap).ownBlock = some b) w (w4.setCell ⟨t, 2, none⟩ (.slice (some ⟨g, 0, none⟩) (n + 1) cp)) from by
    intro g cp w4 h1 h2 h3
    have hb4 : Blk t 173 #[.int .i64 (M : Int), .map (some m), .slice ao n cap] w4 := (h2.block t ht1 (fun e => HT.out t e.symm rfl)).trans HB1.out
    refine ⟨hb4, blk_set hb4 2 _, ?_, (HK1.out.trans (Keep.grown h2 (fun k hk => .inr hk)) (fun _ _ e => e)).trans (Keep.set (S := fun b => b = t ∨ (Value.slice ao n cap).ownBlock = some b) (.inl rfl) w4 2 _) (fun _ _ e => e)⟩
    refine row_keep h1 (fun k hk => ?_)
    simp [Value.ownBlock] at hk
    subst hk
    obtain ⟨cur, hc⟩ := row_lt h1 (g := g) rfl
    refine (Keep.set (S := fun b => b = t) rfl w4 2 _).block g (blk_lt hc) (fun e => ?_)
    rcases h3 with h | h
    · exact HT.out g h e
    · omega)
  clear c0 c2 hHeld
  go_wp2_with (first | (at_builtin; refine row_app elOne (by decide) (by decide) rfl _ _ rfl n xs [.pointer (some ⟨sg, 0, none⟩)] rfl (by intro u hu; simp at hu; subst hu; rfl) (.slice ao n cap) (by rfl) HR1.out w1.heap.size (by rfl) rfl (by omega) ?_; intro g cp w4 hown hgrow hat; have R := hid (HAPP.out _ _ _ hown hgrow hat); have HAT := hid hat; have q1 : w4.cell? ⟨t, 2, none⟩ = some (.slice ao n cap) := (by rw [blk_cell R.out.1]; rfl); have q2 : w4.frozen? ⟨t, 2, none⟩ = false := blk_free R.out.1 2; clear hown hgrow hat) | fail)
  go_ret
  refine ⟨by simp, _, R.out.2.1, R.out.2.2.1, R.out.2.2.2, ?_⟩
  intro g' hg'
  simp [Value.ownBlock] at hg'
  subst hg'
  rcases HAT.out with h | h
  · exact .inl h
  · exact .inr (by have := HS1.out; omega)
set_option maxHeartbeats 1000000 in
/-- a number more in a shape's map, which is made if there is none -/
theorem lead_calls {g c : Nat} {a1 a2 a3 : Value} {nm : Option Nat} {f : Int → Option Int} {x y : Int} (w : World) (hb : Blk g 142 #[a1, a2, a3, .map nm] w) (hm : ∀ k, nm = some k → MapI k f c w) (hn : nm = none → (∀ z, f z = none) ∧ c = 0) (hc : c ≤ 1000) (hx : I64 x) (hy : I64 y) (hf : f x = none) :
    Calls Tryz.prog 136 #[.pointer (some ⟨g, 0, none⟩), .int .i64 x, .int .i64 y] w fun e w' => (∃ u, e = .returned u) ∧ ∃ k, Blk g 142 #[a1, a2, a3, .map (some k)] w' ∧ MapI k (putFI f x y) (c + 1) w' ∧ Keep (fun b => b = g ∨ nm = some b) w w' ∧ (nm = some k ∨ (nm = none ∧ w.heap.size ≤ k)) := by
  have hmk : ∀ w, (Instr.makeMap 140 none).run Tryz.prog w = .ok (.map (some w.heap.size)) (w.alloc (.map #[] 0)) := fun w => by simp [Instr.makeMap]
  have hql : ∀ (r : Option Nat) w, (binOp .eql 140 (.map r) (.map none)).run Tryz.prog w = .ok (.bool r.isNone) w := fun r w => run_eql_map_nil w _ _ _ r underMi
  have q0 : w.cell? ⟨g, 3, none⟩ = some (.map nm) := by rw [blk_cell hb]; rfl
  have q1 : w.frozen? ⟨g, 3, none⟩ = false := blk_free hb 3
  have hgl := blk_lt hb
  cases nm with
  | some k =>
    have HM := hid (hm k rfl)
    have HB := hid hb
    have hne : g ≠ k := fun e => blk_map (e ▸ hb) (hm k rfl)
    clear hm hn hb
    go_enter Tryz.func136, Tryz.ntmps136
    go_wp2_with (first | (at_mapUpdate; refine gi_put underMi rfl _ _ _ rfl k _ _ x y rfl HM.out (by unfold maxLen; omega) rfl hx rfl hy.wf ?_; intro w1 hM1 g1; have HM1 := hid hM1; have HG1 := hid g1; clear hM1 g1) | fail)
    go_end0
    have k1 : Keep (fun b => b = g ∨ some k = some b) w w1 := Keep.grown HG1.out (fun j hj => .inr hj)
    have hM1 := HM1.out
    rw [hf] at hM1
    exact ⟨⟨_, rfl⟩, k, (HG1.out.block g hgl (fun e => hne (Option.some.inj e))).trans HB.out, hM1, by simpa using k1, by simp⟩
  | none =>
    obtain ⟨hn1, rfl⟩ := hn rfl
    have HB := hid hb
    have b1 := blk_set hb 3 (.map (some w.heap.size))
    have b2 := blk_on b1 ((Below.refl _ (w.setCell ⟨g, 3, none⟩ (.map (some w.heap.size)))).alloc (Nat.le_refl _) (.map #[] 0))
    have hs0 : (w.setCell ⟨g, 3, none⟩ (.map (some w.heap.size))).heap.size = w.heap.size := by simp [World.setCell]
    have hm0 := mapI_ext (mapI_new (w.setCell ⟨g, 3, none⟩ (.map (some w.heap.size)))) (fun z => (hn1 z).symm)
    rw [hs0] at hm0
    have HM := hid hm0
    have HK := hid ((Keep.set (S := fun b => b = g ∨ none = some b) (.inl rfl) w 3 (.map (some w.heap.size))).trans (Keep.alloc (fun b => b = g ∨ none = some b) _ (.map #[] 0)) (fun _ _ e => e))
    have HB2 := hid b2
    have hgl2 := hid (blk_lt b2)
    have q2 : ((w.setCell ⟨g, 3, none⟩ (.map (some w.heap.size))).alloc (.map #[] 0)).cell? ⟨g, 3, none⟩ = some (.map (some w.heap.size)) := by rw [blk_cell b2]; rfl
    clear hs0 hm0
    clear hm hn hb b1 b2
    go_enter Tryz.func136, Tryz.ntmps136
    go_wp2_with (first | (at_mapUpdate; refine gi_put underMi rfl _ _ _ rfl w.heap.size _ _ x y rfl HM.out (by unfold maxLen; omega) rfl hx rfl hy.wf ?_; intro w1 hM1 g1; have HM1 := hid hM1; have HG1 := hid g1; clear hM1 g1) | fail)
    go_end0
    have k1 : Keep (fun b => b = g ∨ none = some b) w w1 := HK.out.trans (T := fun b => b = w.heap.size) (Keep.grown HG1.out (fun j hj => (Option.some.inj hj).symm)) (fun i hi e => by omega)
    have hM1 := HM1.out
    rw [hf] at hM1
    refine ⟨⟨_, rfl⟩, w.heap.size, (HG1.out.block g hgl2.out (fun e => ?_)).trans HB2.out, hM1, by simpa using k1, by simp⟩
    have := Option.some.inj e
    omega

end Go.Proofs.YtemidicgipebjaaGreat

namespace Go.Proofs.YtemidicgipebjaaGreat
set_option linter.unusedSimpArgs false
open Go.RowKit

/-- behind k rounds -/
def revA (xs : List Int) (k : Nat) : List Int := (List.range xs.length).map (fun m => if m < k ∨ xs.length ≤ m + k then xs.getD (xs.length - 1 - m) 0 else xs.getD m 0)
theorem revA_len (xs : List Int) (k : Nat) : (revA xs k).length = xs.length := by simp [revA]
theorem revA_at (xs : List Int) {k m : Nat} (hm : m < xs.length) : (revA xs k)[m]? = some (if m < k ∨ xs.length ≤ m + k then xs.getD (xs.length - 1 - m) 0 else xs.getD m 0) := by simp [revA, hm]
theorem revA_zero (xs : List Int) : revA xs 0 = xs := by
  apply List.ext_getElem?
  intro m
  rcases Nat.lt_or_ge m xs.length with h | h
  · rw [revA_at xs h, if_neg (by omega)]
    simp [h]
  · rw [List.getElem?_eq_none (by rw [revA_len]; exact h), List.getElem?_eq_none h]
theorem revA_end (xs : List Int) {k : Nat} (hk : xs.length ≤ 2 * k + 1) : revA xs k = xs.reverse := by
  apply List.ext_getElem?
  intro m
  rcases Nat.lt_or_ge m xs.length with h | h
  · rw [revA_at xs h, List.getElem?_reverse h]
    have h2 : xs.length - 1 - m < xs.length := by omega
    split
    · simp [h2]
    · have : xs.length - 1 - m = m := by omega
      rw [this]
      simp [h]
  · rw [List.getElem?_eq_none (by rw [revA_len]; exact h), List.getElem?_eq_none (by simpa using h)]
theorem revA_step (xs : List Int) {k : Nat} (hk : 2 * k + 1 < xs.length) : ((revA xs k).set k (xs.getD (xs.length - 1 - k) 0)).set (xs.length - 1 - k) (xs.getD k 0) = revA xs (k + 1) := by
  apply List.ext_getElem?
  intro m
  rcases Nat.lt_or_ge m xs.length with h | h
  · rw [revA_at xs h, List.getElem?_set, List.getElem?_set, revA_at xs h]
    simp only [List.length_set, revA_len]
    by_cases h1 : xs.length - 1 - k = m
    · rw [if_pos h1, if_pos (by omega), if_pos (by omega)]
      congr 2
      omega
    · rw [if_neg h1]
      by_cases h2 : k = m
      · rw [if_pos h2, if_pos (by omega), if_pos (by omega), h2]
      · rw [if_neg h2]
        by_cases h3 : m < k ∨ xs.length ≤ m + k
        · rw [if_pos h3, if_pos (by omega)]
        · rw [if_neg h3, if_neg (by omega)]
  · rw [List.getElem?_eq_none (by simp [revA_len]; exact h), List.getElem?_eq_none (by rw [revA_len]; exact h)]

set_option maxRecDepth 100000 in
set_option maxHeartbeats 1000000 in
theorem rev_calls {v : Value} {xs : List Int} (w : World) (hr : w.ownsRow 0 3 1 v xs.length (xs.map (Value.int .i64))) (hn : xs.length ≤ 1000000) :
    Calls Tryz.prog 135 #[v] w fun e w' => (∃ u, e = .returned u) ∧ w'.ownsRow 0 3 1 v xs.length (xs.reverse.map (Value.int .i64)) ∧ Keep (fun b => v.ownBlock = some b) w w' := by
  obtain ⟨ao, cap, rfl⟩ := row_shape hr
  have H := hid hr
  clear hr
  go_enter Tryz.func135, Tryz.ntmps135
  go_wp2_with fail
  go_loopw [2, 3] (fun i j wr => ∃ k : Nat, 2 * k ≤ xs.length + 1 ∧ i = .int .i64 k ∧ j = .int .i64 ((xs.length : Int) - 1 - k) ∧ Hid (wr.ownsRow 0 3 1 (.slice ao xs.length cap) xs.length ((revA xs k).map (Value.int .i64))) ∧ Hid (Keep (fun b => (Value.slice ao xs.length cap).ownBlock = some b) w wr)) (fun i _ _ => xs.length - (intOf i).toNat)
  case atStart => exact ⟨0, by omega, rfl, by simp, hid (by rw [revA_zero]; exact H.out), hid (Keep.refl _ _)⟩
  case round =>
    obtain ⟨k, hk, rfl, rfl, hR, hK⟩ := hrel
    by_cases h1 : 2 * k + 1 < xs.length
    · have hkl : k < xs.length := by omega
      have hjl : xs.length - 1 - k < xs.length := by omega
      obtain ⟨gb, cp, hg, hb0, hlt⟩ := hR.out.form (by omega)
      injection hg with hg1 hg2 hg3
      subst hg1 hg3
      have q1 : wr.cell? ⟨gb, k, none⟩ = some (.int .i64 (xs.getD k 0)) := row_cell hR.out (by rw [List.getElem?_map, revA_at xs hkl, if_neg (by omega)]; rfl)
      have q2 : wr.cell? ⟨gb, xs.length - 1 - k, none⟩ = some (.int .i64 (xs.getD (xs.length - 1 - k) 0)) := row_cell hR.out (by rw [List.getElem?_map, revA_at xs hjl, if_neg (by omega)]; rfl)
      have f1 : wr.frozen? ⟨gb, k, none⟩ = false := row_free hR.out k
      have f2 : wr.frozen? ⟨gb, xs.length - 1 - k, none⟩ = false := row_free hR.out _
      have HS := hid (revA_step xs h1)
      have hr1 := row_set hR.out k (.int .i64 (xs.getD (xs.length - 1 - k) 0))
      have hr2 := row_set hr1 (xs.length - 1 - k) (.int .i64 (xs.getD k 0))
      rw [← List.map_set, ← List.map_set, HS.out] at hr2
      have HR2 := hid hr2
      have HK2 := hid ((hK.out.trans (Keep.set (S := fun b => (Value.slice (some ⟨gb, 0, none⟩) xs.length cap).ownBlock = some b) rfl wr k (.int .i64 (xs.getD (xs.length - 1 - k) 0))) (fun _ _ e => e)).trans (Keep.set (S := fun b => (Value.slice (some ⟨gb, 0, none⟩) xs.length cap).ownBlock = some b) rfl _ (xs.length - 1 - k) (.int .i64 (xs.getD k 0))) (fun _ _ e => e))
      obtain ⟨j, hj⟩ : ∃ j : Nat, xs.length - 1 - k = j := ⟨_, rfl⟩
      have hji : ((xs.length : Int) - 1 - k) = (j : Int) := by omega
      have hkj : k < j := by omega
      rw [hji]
      rw [hj] at q2 f2 HR2 HK2 hjl
      generalize xs.getD k 0 = a1 at *
      generalize hbb : xs.getD j 0 = a2 at *
      clear HS hr1 hr2 hR hK hbb
      go_wp2_with fail
      refine wp_region_held_drew (S := fun _ => True) (by kernel_rfl) trivial (fun hHeld => ?_)
      refine tkk 0 ?_
      refine tkk 1 ?_
      refine tkk 2 ?_
      refine tkk 3 ?_
      refine tkk 4 ?_
      refine tkk 5 ?_
      refine tkk 6 ?_
      refine tkk 8 ?_
      refine tkk 9 ?_
      refine tkk 10 ?_
      refine wpAnyH_ready (rs := [7, 11]) (by kernel_rfl) (by simp) ?_
      refine AllReadyH.cons rfl (fun K hK => ?_) (AllReadyH.cons rfl (fun K hK => ?_) AllReadyH.nil)
      go_simp
      refine hK.out _ _ trivial (fun _ => ?_)
      clear hK K
      refine rdy 11 (fun K hK => ?_)
      go_simp
      refine hK.out _ _ trivial (fun _ => ?_)
      clear hK K
      rotate_left 1
      go_simp
      refine hK.out _ _ trivial (fun _ => ?_)
      clear hK K
      refine rdy 7 (fun K hK => ?_)
      go_simp
      refine hK.out _ _ trivial (fun _ => ?_)
      clear hK K
      rotate_left 1
      all_goals
        refine tkk 12 ?_
        refine rdy 13 (fun K hK => ?_)
        go_simp
        refine hK.out _ _ trivial (fun _ => ?_)
        clear hK K
        refine tkk 14 ?_
        refine rdy 15 (fun K hK => ?_)
        go_simp
        refine hK.out _ _ trivial (fun _ => ?_)
        clear hK K
        refine wpAnyH_done (by kernel_rfl) ?_ _
        go_wp2_with fail
        refine ⟨⟨k + 1, by omega, by simp, by simp; omega, ?_, ?_⟩, by simp [intOf]; omega⟩
        · exact hid (row_keep HR2.out (fun _ _ => rfl))
        · exact hid (HK2.out.trans (Keep.drew _ _) (fun _ _ e => e))
    · have d1 : decide ((k : Int) < (xs.length : Int) - 1 - (k : Int)) = false := decide_eq_false (by omega)
      go_wp2_with fail
      go_end0
      refine ⟨⟨_, rfl⟩, ?_, hK.out⟩
      have := hR.out
      rw [revA_end xs (by omega)] at this
      exact this

end Go.Proofs.YtemidicgipebjaaGreat

namespace Go.Proofs.YtemidicgipebjaaGreat
set_option linter.unusedSimpArgs false
set_option maxRecDepth 100000
open Go.RowKit

set_option maxHeartbeats 1000000 in
theorem ddel_calls {S : Nat → Prop} {d n : Nat} {l : List Ent} (w : World) (h : DcS S d n l w) (hn : n ≤ 1000000) (s : ByteArray) (hs : s.size ≤ 1000000) :
    Calls Tryz.prog 93 #[.pointer (some ⟨d, 0, none⟩), .string s] w fun e w' => e = .returned (.bool (hasL l s)) ∧
      DcS (Up S w) d n (dropL l s) w' ∧ Keep S w w' := by
  have HD := hid h
  obtain ⟨p, v, m, L, h1, h2, rfl, h4, h5, h6⟩ := h
  have c0 : w.cell? ⟨d, 0, none⟩ = some (.pointer (some ⟨p, 0, none⟩)) := by rw [blk_cell h1]; rfl
  have HF := hid (blk_far h1 h2 (by decide) (by decide))
  have HB := hid h1
  have HS := hid (drop_calls _ h2 s hs (by omega))
  clear h1 h2
  go_enter Tryz.func93, Tryz.ntmps93
  go_wp2_with fail
  refine (made_calls _ HD.out).mono ?_
  rintro e1 w1 ⟨rfl, rfl⟩
  go_wp2_with fail
  refine HS.out.mono ?_
  rintro e2 w2 ⟨rfl, v', m', L', g1, g2, g3, g4, g5⟩
  have RR := hid (show DcS (Up S w1) d n (dropL (live L) s) w2 from ⟨p, v', m', L', blk_keep HB.out g4 HF.out, g1, g2, by omega, .inl h5, fun b hb => by
    rcases g5 b hb with h | h
    · exact .inl (h6 b h)
    · exact .inr h⟩)
  have RK := hid (g4.mono (T := S) (fun b _ hb => h6 b hb))
  clear g1 g2 g4 g5
  go_wp2_with fail
  go_ret
  exact ⟨rfl, RR.out, RK.out⟩

/-- the i-th of those that are left -/
theorem nth_skip {L : Pls} {j r : Nat} (h : L[j]? = some none) : (live (L.drop j))[r]? = (live (L.drop (j + 1)))[r]? := by
  obtain ⟨hl, he⟩ := List.getElem?_eq_some_iff.1 h
  rw [List.drop_eq_getElem_cons hl, he]; rfl
theorem nth_here {L : Pls} {j : Nat} {e : Ent} (h : L[j]? = some (some e)) : live (L.drop j) = e :: live (L.drop (j + 1)) := by
  obtain ⟨hl, he⟩ := List.getElem?_eq_some_iff.1 h
  rw [List.drop_eq_getElem_cons hl, he]; rfl

set_option maxHeartbeats 2000000 in
theorem nth_calls {p m i : Nat} {v : Value} {L : Pls} {x : Ent} (w : World) (h : PlAt p v m L w) (hf : L.length ≤ 1000000) (hi : (live L)[i]? = some x) :
    Calls Tryz.prog 172 #[.pointer (some ⟨p, 0, none⟩), .int .i64 (i : Int)] w fun e w' => e = .returned (.string x.1) ∧ Below w.heap.size w w' := by
  have hil : i < (live L).length := (List.getElem?_eq_some_iff.1 hi).1
  have hll := live_len L
  obtain ⟨ao, cap, rfl⟩ := row_shape h.row
  have hpm := h.lt (.inl rfl)
  have HO := hid (holes_calls _ h hf)
  have HP := hid h
  obtain ⟨N, hN⟩ : ∃ N, L.length - (live L).length = N := ⟨_, rfl⟩
  rw [hN] at HO
  obtain ⟨d0, d1⟩ := h.cells
  clear h
  go_enter Tryz.func172, Tryz.ntmps172
  go_wp2_with fail
  refine HO.out.mono ?_
  rintro e1 w1 ⟨rfl, b1⟩
  have c0 : w1.cell? ⟨p, 0, none⟩ = some (.slice ao L.length cap) := (b1.cell (p := ⟨p, 0, none⟩) hpm).trans d0
  have HB := hid b1
  by_cases h0 : N = 0
  · subst h0
    have hfl : L = (live L).map some := full_some (by omega)
    have hx : L[i]? = some (some x) := by rw [hfl]; simp [hi]
    obtain ⟨g, cap', he, hgs, hc, _⟩ := (HP.out.on b1).place hx
    injection he with he1 he2 he3
    subst he1 he3
    have c1 : w1.cell? ⟨g, i * 5 + 1, none⟩ = some (.string x.1) := hc 1 (by omega)
    have hiL : i < L.length := by omega
    clear hc b1 hfl hN hx
    go_wp2_with fail
    go_ret
    exact ⟨rfl, HB.out⟩
  · have hb0 : decide ((N : Int) = 0) = false := decide_eq_false (by omega)
    have HI := hid hi
    clear b1 hi hN
    go_wp2_with fail
    go_loopw [1, 23] (fun a b wr => ∃ (j r : Nat), j ≤ L.length ∧ b = .int .i64 j ∧ a = .int .i64 r ∧ Hid ((live (L.drop j))[r]? = some x) ∧ r ≤ 1000000 ∧ Hid (Below w.heap.size w wr)) (fun _ b _ => L.length - (intOf b).toNat)
    case atStart => exact ⟨0, i, Nat.zero_le _, rfl, rfl, HI, by omega, HB⟩
    case round =>
      obtain ⟨j, r, hj, rfl, rfl, hX, hr, hB⟩ := hrel
      have hjl : j < L.length := by
        rcases Nat.lt_or_ge j L.length with h | h
        · exact h
        · have := hX.out
          rw [List.drop_eq_nil_of_le h] at this
          simp [live] at this
      obtain ⟨o, ho⟩ : ∃ o, L[j]? = some o := ⟨L[j], List.getElem?_eq_getElem hjl⟩
      obtain ⟨g, cap', he, hgs, hc, _⟩ := (HP.out.on hB.out).place ho
      injection he with he1 he2 he3
      subst he1 he3
      cases o with
      | none =>
        have c1 : wr.cell? ⟨g, j * 5, none⟩ = some (.bool false) := hc 0 (by omega)
        have c2 : wr.cell? ⟨g, j * 5 + 1, none⟩ = some (.string ⟨#[]⟩) := hc 1 (by omega)
        have c3 : wr.cell? ⟨g, j * 5 + 2, none⟩ = some (.int .i64 0) := hc 2 (by omega)
        have c4 : wr.cell? ⟨g, j * 5 + 3, none⟩ = some (.int .i64 0) := hc 3 (by omega)
        have c5 : wr.cell? ⟨g, j * 5 + 4, none⟩ = some (.string ⟨#[]⟩) := hc 4 (by omega)
        have hX2 := hid ((nth_skip ho).symm.trans hX.out)
        clear hc
        go_wp2_with fail
        exact ⟨⟨j + 1, r, by omega, by simp, rfl, hX2, hr, hid (below_on hB.out ((Below.refl _ _).alloc (Nat.le_refl _) _))⟩, by simp [intOf]; omega⟩
      | some e =>
        have c1 : wr.cell? ⟨g, j * 5, none⟩ = some (.bool true) := hc 0 (by omega)
        have c2 : wr.cell? ⟨g, j * 5 + 1, none⟩ = some (.string e.1) := hc 1 (by omega)
        have c3 : wr.cell? ⟨g, j * 5 + 2, none⟩ = some (.int .i64 e.2.1) := hc 2 (by omega)
        have c4 : wr.cell? ⟨g, j * 5 + 3, none⟩ = some (.int .i64 e.2.2.1) := hc 3 (by omega)
        have c5 : wr.cell? ⟨g, j * 5 + 4, none⟩ = some (.string e.2.2.2) := hc 4 (by omega)
        have hX2 := hX.out
        rw [nth_here ho] at hX2
        clear hc
        cases r with
        | zero =>
          have hex : e = x := by simpa using hX2
          subst hex
          clear hX2
          go_wp2_with fail
          go_ret
          exact ⟨rfl, below_on hB.out ((Below.refl _ _).alloc (Nat.le_refl _) _)⟩
        | succ r =>
          have hX3 := hid (show (live (L.drop (j + 1)))[r]? = some x by simpa using hX2)
          have hr0 : decide (((r + 1 : Nat) : Int) = 0) = false := decide_eq_false (by omega)
          have er : ((r + 1 : Nat) : Int) - 1 = (r : Int) := by omega
          clear hX2
          go_wp2_with fail
          exact ⟨⟨j + 1, r, by omega, by simp, rfl, hX3, by omega, hid (below_on hB.out ((Below.refl _ _).alloc (Nat.le_refl _) _))⟩, by simp [intOf]; omega⟩

/-- the name of the i-th, or none -/
def keyAt (l : List Ent) (i : Int) : Option ByteArray := if 0 ≤ i ∧ i < l.length then (l[i.toNat]?).map (·.1) else none
theorem key_none {S : Nat → Prop} {d n : Nat} {l : List Ent} (w : World) (h : DcS S d n l w) (i : Int) (hi : ¬ (0 ≤ i ∧ i < l.length)) :
    Calls Tryz.prog 170 #[.pointer (some ⟨d, 0, none⟩), .int .i64 i] w fun e w' => e = .returned (.tuple #[.string ⟨#[]⟩, .bool false]) ∧ w' = w := by
  have HL := hid (len_calls w h)
  clear h
  by_cases h0 : i < 0
  · clear hi
    go_enter Tryz.func170, Tryz.ntmps170
    go_wp2_with fail
    go_ret2
    exact ⟨rfl, rfl⟩
  · have h1 : decide (i < 0) = false := decide_eq_false h0
    have h2 : decide ((l.length : Int) ≤ i) = true := decide_eq_true (by omega)
    clear hi h0
    go_enter Tryz.func170, Tryz.ntmps170
    go_wp2_with fail
    refine HL.out.mono ?_
    rintro e1 w1 ⟨rfl, rfl⟩
    go_wp2_with fail
    go_ret2
    exact ⟨rfl, rfl⟩
theorem key_some {S : Nat → Prop} {d n i : Nat} {l : List Ent} {x : Ent} (w : World) (h : DcS S d n l w) (hn : n ≤ 1000000) (hi : l[i]? = some x) :
    Calls Tryz.prog 170 #[.pointer (some ⟨d, 0, none⟩), .int .i64 (i : Int)] w fun e w' => e = .returned (.tuple #[.string x.1, .bool true]) ∧ Below w.heap.size w w' := by
  have HL := hid (len_calls w h)
  obtain ⟨p, v, m, L, h1, h2, rfl, h4, h5, h6⟩ := h
  have c0 : w.cell? ⟨d, 0, none⟩ = some (.pointer (some ⟨p, 0, none⟩)) := by rw [blk_cell h1]; rfl
  have HN := hid (nth_calls w h2 (by omega) hi)
  have hil : i < (live L).length := (List.getElem?_eq_some_iff.1 hi).1
  have q2 : decide (((live L).length : Int) ≤ (i : Int)) = false := decide_eq_false (by omega)
  clear h1 h2 hi
  go_enter Tryz.func170, Tryz.ntmps170
  go_wp2_with fail
  refine HL.out.mono ?_
  rintro e1 w1 ⟨rfl, rfl⟩
  go_wp2_with fail
  refine HN.out.mono ?_
  rintro e1 w2 ⟨rfl, b2⟩
  have HB := hid b2
  clear b2 HN
  go_wp2_with fail
  go_ret2
  exact ⟨rfl, HB.out⟩

/-- texts of one's own, from block lo on -/
def StrsOwn (lo : Nat) (v : Value) (l : List ByteArray) (w : World) : Prop := w.ownsRow 0 9 1 v l.length (l.map Value.string) ∧ ∀ g, v.ownBlock = some g → lo ≤ g
theorem strsOwn_on {lo : Nat} {v : Value} {l : List ByteArray} {a c : World} (h : StrsOwn lo v l a) (k : Below a.heap.size a c) : StrsOwn lo v l c :=
  ⟨row_keep h.1 (fun g hg => k.block g (by obtain ⟨cur, hc⟩ := row_lt h.1 hg; exact blk_lt hc)), h.2⟩
theorem strsOwn_keep {S : Nat → Prop} {lo : Nat} {v : Value} {l : List ByteArray} {a c : World} (h : StrsOwn lo v l a) (k : Keep S a c) (hS : ∀ g, v.ownBlock = some g → ¬ S g) : StrsOwn lo v l c :=
  ⟨row_keep h.1 (fun g hg => k.block g (by obtain ⟨cur, hc⟩ := row_lt h.1 hg; exact blk_lt hc) (hS g hg)), h.2⟩
/-- one text more -/
theorem strs_app {ops : Array Oper} {rest : List Oper} {o : Oper} {a : Act} {Q : Exit → Act → World → Prop} {w : World} (hgd : o.guard = none) (s x : Operand)
    (ho : o.op = .call { callee := .builtin .append, args := #[s, x], argTypes := #[62, 62] })
    (lo : Nat) (l : List ByteArray) (t : ByteArray) (v : Value) (hs : a.eval s = v) (hown : StrsOwn lo v l w)
    (nb : Nat) (hx : a.eval x = .slice (some ⟨nb, 0, none⟩) 1 1) (hnb : nb = w.heap.size) (hlen : l.length ≤ 1000000) (hlo : lo ≤ w.heap.size)
    (h : ∀ g cap w', StrsOwn lo (.slice (some ⟨g, 0, none⟩) (l.length + 1) cap) (l ++ [t]) w' → w.grownBy w' v.ownBlock → (v.ownBlock = some g ∨ w.heap.size ≤ g) → wpList Tryz.prog ops Q rest (a.put o.dst (.slice (some ⟨g, 0, none⟩) (l.length + 1) cap)) w') :
    wpList Tryz.prog ops Q (o :: rest) a (w.alloc (.cells #[.string t] 9)) := by
  subst hnb
  obtain ⟨i0, hi, hz0, hz1, hz2⟩ := infoS
  have A := (Below.refl w.heap.size w).alloc (Nat.le_refl _) (.cells #[.string t] 9)
  refine wpList_append_lies _ hgd s x 62 ho 0 9 i0 _ 1 16 underS hi hz0 hz1 hz2 rfl (by decide) v l.length _ hs (strsOwn_on hown A).1 ⟨w.heap.size, 0, none⟩ 1 1 [.string t] hx rfl (World.news_of_block (heap_alloc_new w (.cells #[.string t] 9))) ?_ (by decide) (by unfold maxLen; omega) (by omega) (Nat.zero_le _) (w.heap.size + 1) (by simp) ?_
  · intro u hu
    simp at hu
    subst hu; rfl
  · intro g cap w' hown' hgrow hat hlt
    refine h g cap w' ⟨by simpa using hown', fun k hk => ?_⟩ ?_ ?_
    · simp [Value.ownBlock] at hk
      subst hk
      rcases hat with h1 | h1
      · exact hown.2 _ h1
      · omega
    · refine ⟨hgrow.os.trans A.os, hgrow.tape.trans A.tape, hgrow.output.trans A.output, Nat.le_trans A.size hgrow.size, fun k hk hne => ?_⟩
      rw [hgrow.block k (by simp; omega) hne, A.block k hk]
    · rcases hat with h1 | h1
      · exact .inl h1
      · exact .inr (by omega)

end Go.Proofs.YtemidicgipebjaaGreat
