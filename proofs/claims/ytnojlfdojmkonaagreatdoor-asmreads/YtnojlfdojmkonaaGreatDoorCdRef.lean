/- What instructions take and lay, and what comes behind: the document's word. -/
import Derived.Test.YtnojlfdojmkonaaGreatDoorJoint5
namespace Go.Proofs.YtnojlfdojmkonaaGreatDoor
set_option linter.unusedSimpArgs false
set_option linter.unusedVariables false
set_option maxRecDepth 100000
open Go.RowKit

theorem dgoes_calls (o : Int) (w : World) : Calls Tryz.prog 43 #[.int .i64 o] w fun e w' => e = .returned (.bool (goB o)) ∧ w = w' := by
  by_cases h1 : 22 ≤ o
  · have H := hid (show goB o = decide (o ≤ 25) by
      rw [Bool.eq_iff_iff]
      simp [goB]
      omega)
    go_enter Tryz.func43, Tryz.ntmps43
    go_wp2_with fail
    go_ret
    exact ⟨by rw [H.out]; rfl, rfl⟩
  · have H := hid (show goB o = false by
      rw [Bool.eq_false_iff]
      simp [goB]
      omega)
    go_enter Tryz.func43, Tryz.ntmps43
    go_wp2_with fail
    go_ret
    exact ⟨by rw [H.out]; rfl, rfl⟩
theorem dbuilt_calls (o : Int) (w : World) : Calls Tryz.prog 84 #[.int .i64 o] w fun e w' => (∃ s : ByteArray, e = .returned (.tuple #[.string s, .int .i64 (bltN o)])) ∧ Below w.heap.size w w' := by
  by_cases h : 1 ≤ o ∧ o ≤ 7
  · obtain rfl | rfl | rfl | rfl | rfl | rfl | rfl : o = 1 ∨ o = 2 ∨ o = 3 ∨ o = 4 ∨ o = 5 ∨ o = 6 ∨ o = 7 := by omega
    all_goals
      clear h
      go_enter Tryz.func84, Tryz.ntmps84
      go_wp2_with fail
      go_ret2
      exact ⟨⟨_, rfl⟩, box_below _ _⟩
  · have H := hid (show bltN o = 0 by unfold bltN; rw [if_neg (by omega), if_neg h])
    by_cases h1 : o < 1
    · go_enter Tryz.func84, Tryz.ntmps84
      go_wp2_with fail
      go_ret2
      exact ⟨⟨_, by rw [H.out]; rfl⟩, box_below _ _⟩
    · have h2 : 7 < o := by omega
      clear h
      go_enter Tryz.func84, Tryz.ntmps84
      go_wp2_with fail
      go_ret2
      exact ⟨⟨_, by rw [H.out]; rfl⟩, box_below _ _⟩
set_option maxHeartbeats 3200000 in
theorem deffect_calls (o a b : Int) (w : World) : Calls Tryz.prog 64 #[.agg #[.int .i64 o, .int .i64 a, .int .i64 b]] w fun e w' => e = .returned (.tuple #[.int .i64 (effI o a).1, .int .i64 (effI o a).2]) ∧ Below w.heap.size w w' := by
  have AL := hid (box_below w (.cells #[.int .i64 o, .int .i64 a, .int .i64 b] 67))
  have BL := hid (blk_new w 67 #[.int .i64 o, .int .i64 a, .int .i64 b])
  have hsz : (w.alloc (.cells #[.int .i64 o, .int .i64 a, .int .i64 b] 67)).heap.size = w.heap.size + 1 := by simp
  generalize hW : w.alloc (.cells #[.int .i64 o, .int .i64 a, .int .i64 b] 67) = w1 at *
  have c0 : w1.cell? ⟨w.heap.size, 0, none⟩ = some (.int .i64 o) := blk_cellZ BL.out 0 rfl
  have c1 : w1.cell? ⟨w.heap.size, 1, none⟩ = some (.int .i64 a) := blk_cellZ BL.out 1 rfl
  by_cases h1 : o = 2 ∨ o = 3 ∨ o = 4 ∨ o = 5 ∨ o = 6 ∨ o = 7 ∨ o = 8 ∨ o = 10 ∨ o = 12 ∨ o = 9 ∨ o = 11 ∨ o = 18 ∨ o = 23 ∨ o = 24 ∨ o = 25 ∨ o = 30 ∨ o = 31 ∨ o = 32 ∨ o = 13 ∨ o = 16 ∨ o = 21 ∨ o = 14 ∨ o = 20 ∨ o = 15 ∨ o = 19 ∨ o = 17 ∨ o = 27
  · rcases h1 with rfl | rfl | rfl | rfl | rfl | rfl | rfl | rfl | rfl | rfl | rfl | rfl | rfl | rfl | rfl | rfl | rfl | rfl | rfl | rfl | rfl | rfl | rfl | rfl | rfl | rfl | rfl
    all_goals
      go_enter Tryz.func64, Tryz.ntmps64
      go_wp2_with fail
      go_ret2
      exact ⟨rfl, AL.out⟩
  by_cases h26 : o = 26
  · subst h26
    have HX := hid (show effI 26 a = if 0 ≤ a ∧ a ≤ 6 then (a + 1, 1) else (0, 0) from rfl)
    by_cases ha : 0 ≤ a
    · by_cases hb : a ≤ 6
      · have H := hid (HX.out.trans (if_pos ⟨ha, hb⟩))
        go_enter Tryz.func64, Tryz.ntmps64
        go_wp2_with fail
        go_ret2
        exact ⟨by rw [H.out]; rfl, AL.out⟩
      · have H := hid (HX.out.trans (if_neg (by omega)))
        go_enter Tryz.func64, Tryz.ntmps64
        go_wp2_with fail
        go_ret2
        exact ⟨by rw [H.out]; rfl, AL.out⟩
    · have H := hid (HX.out.trans (if_neg (by omega)))
      go_enter Tryz.func64, Tryz.ntmps64
      go_wp2_with fail
      go_ret2
      exact ⟨by rw [H.out]; rfl, AL.out⟩
  by_cases h28 : o = 28
  · subst h28
    have HX := hid (show effI 28 a = if 0 ≤ a ∧ a ≤ 6 then (a + 2, 1) else (0, 0) from rfl)
    by_cases ha : 0 ≤ a
    · by_cases hb : a ≤ 6
      · have H := hid (HX.out.trans (if_pos ⟨ha, hb⟩))
        go_enter Tryz.func64, Tryz.ntmps64
        go_wp2_with fail
        go_ret2
        exact ⟨by rw [H.out]; rfl, AL.out⟩
      · have H := hid (HX.out.trans (if_neg (by omega)))
        go_enter Tryz.func64, Tryz.ntmps64
        go_wp2_with fail
        go_ret2
        exact ⟨by rw [H.out]; rfl, AL.out⟩
    · have H := hid (HX.out.trans (if_neg (by omega)))
      go_enter Tryz.func64, Tryz.ntmps64
      go_wp2_with fail
      go_ret2
      exact ⟨by rw [H.out]; rfl, AL.out⟩
  by_cases h29 : o = 29
  · subst h29
    have HX := hid (show effI 29 a = if 1 ≤ a ∧ a ≤ 7 then (bltN a, 1) else (0, 0) from rfl)
    have hbl : (1 ≤ a ∧ a ≤ 7 → 0 < bltN a) ∧ (¬ (1 ≤ a ∧ a ≤ 7) → bltN a = 0) ∧ bltN a ≤ 2 ∧ 0 ≤ bltN a := by
      unfold bltN
      split
      · omega
      · split <;> omega
    go_enter Tryz.func64, Tryz.ntmps64
    go_wp2_with fail
    refine (dbuilt_calls a _).mono ?_
    rintro e w2 ⟨⟨z, rfl⟩, b2⟩
    have B2 := hid (AL.out.trans (b2.mono (by omega)))
    clear b2
    generalize bltN a = X at *
    by_cases ha : 1 ≤ a ∧ a ≤ 7
    · have H := hid (HX.out.trans (if_pos ha))
      have hx := hbl.1 ha
      clear ha hbl
      go_wp2_with fail
      go_ret2
      exact ⟨by rw [H.out]; rfl, B2.out⟩
    · have H := hid (HX.out.trans (if_neg ha))
      obtain rfl := hbl.2.1 ha
      clear ha hbl
      go_wp2_with fail
      go_ret2
      exact ⟨by rw [H.out]; rfl, B2.out⟩
  have H := hid (show effI o a = (0, 0) by
    unfold effI effP
    rw [if_neg h26, if_neg h28, if_neg h29, if_neg (by omega), if_neg (by omega), if_neg (by omega), if_neg (by omega), if_neg (by omega), if_neg (by omega), if_neg (by omega)])
  have e2 : (o == 2) = false := beq_eq_false_iff_ne.2 (by omega)
  have e3 : (o == 3) = false := beq_eq_false_iff_ne.2 (by omega)
  have e4 : (o == 4) = false := beq_eq_false_iff_ne.2 (by omega)
  have e5 : (o == 5) = false := beq_eq_false_iff_ne.2 (by omega)
  have e6 : (o == 6) = false := beq_eq_false_iff_ne.2 (by omega)
  have e7 : (o == 7) = false := beq_eq_false_iff_ne.2 (by omega)
  have e8 : (o == 8) = false := beq_eq_false_iff_ne.2 (by omega)
  have e10 : (o == 10) = false := beq_eq_false_iff_ne.2 (by omega)
  have e12 : (o == 12) = false := beq_eq_false_iff_ne.2 (by omega)
  have e9 : (o == 9) = false := beq_eq_false_iff_ne.2 (by omega)
  have e11 : (o == 11) = false := beq_eq_false_iff_ne.2 (by omega)
  have e18 : (o == 18) = false := beq_eq_false_iff_ne.2 (by omega)
  have e23 : (o == 23) = false := beq_eq_false_iff_ne.2 (by omega)
  have e24 : (o == 24) = false := beq_eq_false_iff_ne.2 (by omega)
  have e25 : (o == 25) = false := beq_eq_false_iff_ne.2 (by omega)
  have e30 : (o == 30) = false := beq_eq_false_iff_ne.2 (by omega)
  have e31 : (o == 31) = false := beq_eq_false_iff_ne.2 (by omega)
  have e32 : (o == 32) = false := beq_eq_false_iff_ne.2 (by omega)
  have e13 : (o == 13) = false := beq_eq_false_iff_ne.2 (by omega)
  have e16 : (o == 16) = false := beq_eq_false_iff_ne.2 (by omega)
  have e21 : (o == 21) = false := beq_eq_false_iff_ne.2 (by omega)
  have e14 : (o == 14) = false := beq_eq_false_iff_ne.2 (by omega)
  have e20 : (o == 20) = false := beq_eq_false_iff_ne.2 (by omega)
  have e15 : (o == 15) = false := beq_eq_false_iff_ne.2 (by omega)
  have e19 : (o == 19) = false := beq_eq_false_iff_ne.2 (by omega)
  have e17 : (o == 17) = false := beq_eq_false_iff_ne.2 (by omega)
  have e27 : (o == 27) = false := beq_eq_false_iff_ne.2 (by omega)
  have e29 : (o == 29) = false := beq_eq_false_iff_ne.2 (by omega)
  have e26 : (o == 26) = false := beq_eq_false_iff_ne.2 (by omega)
  have e28 : (o == 28) = false := beq_eq_false_iff_ne.2 (by omega)
  clear h1 h26 h28 h29
  go_enter Tryz.func64, Tryz.ntmps64
  go_wp2_with fail
  go_ret2
  exact ⟨by rw [H.out]; rfl, AL.out⟩

set_option maxHeartbeats 3200000 in
theorem dtargets_calls (B : Nat) (c : Cd) (iv : Value) (k : Int) (w : World) (hB : B ≤ w.heap.size) (hI : InsIn B w iv c.ins) (hl : c.ins.length ≤ 1000000) :
    Calls Tryz.prog 65 #[cdV c iv, .int .i64 k] w fun e w' => ∃ v, e = .returned v ∧ TgN w.heap.size v (tgT c.ins k) w' ∧ Below w.heap.size w w' := by
  obtain ⟨p, l, s, d, is⟩ := c
  simp only [cdV] at *
  obtain ⟨ao, cap, rfl⟩ := insIn_shape hI
  have AL := hid (box_below w (.cells #[.int .i64 p, .int .i64 l, .int .i64 s, .int .i64 d, .slice ao is.length cap] 45))
  have BL := hid (blk_new w 45 #[.int .i64 p, .int .i64 l, .int .i64 s, .int .i64 d, .slice ao is.length cap])
  by_cases hk0 : k < 0
  · have H := hid (tgT_neg (is := is) hk0)
    go_enter Tryz.func65, Tryz.ntmps65
    go_wp2_with fail
    go_ret
    exact ⟨_, rfl, by rw [H.out]; exact .inl ⟨rfl, rfl⟩, AL.out⟩
  obtain ⟨j, rfl⟩ : ∃ j : Nat, k = (j : Int) := ⟨k.toNat, by omega⟩
  have c4 := blk_cellZ BL.out 4 rfl
  have hI1 := hid (insIn_on hI (AL.out.mono hB))
  have hsz : (w.alloc (.cells #[.int .i64 p, .int .i64 l, .int .i64 s, .int .i64 d, .slice ao is.length cap] 45)).heap.size = w.heap.size + 1 := by simp
  clear hI
  generalize hW : w.alloc (.cells #[.int .i64 p, .int .i64 l, .int .i64 s, .int .i64 d, .slice ao is.length cap] 45) = w1 at *
  rcases Nat.lt_or_ge j is.length with hj | hj
  rotate_left 1
  · have H := hid (tgT_big hj)
    have hj' : (is.length : Int) ≤ (j : Int) := by omega
    clear hj
    go_enter Tryz.func65, Tryz.ntmps65
    go_wp2_with fail
    go_ret
    exact ⟨_, rfl, by rw [H.out]; exact .inl ⟨rfl, rfl⟩, AL.out⟩
  obtain ⟨x, hx⟩ : ∃ x, is[j]? = some x := ⟨_, List.getElem?_eq_getElem hj⟩
  obtain ⟨b, off, rfl, hb, i0, i1, i2⟩ := insIn_at hI1.out hx
  have H := hid (tgT_at hx)
  obtain ⟨o, a, bb⟩ := x
  have hj' : (j : Int) < (is.length : Int) := by omega
  have hlj : j < 1000000 := by omega
  clear hk0
  have BL2 := hid (blk_new w1 67 #[.int .i64 o, .int .i64 a, .int .i64 bb])
  have AL2 := hid (AL.out.trans ((box_below w1 (.cells #[.int .i64 o, .int .i64 a, .int .i64 bb] 67)).mono (by omega)))
  have e0 := blk_cellZ BL2.out 0 rfl
  have e1 := blk_cellZ BL2.out 1 rfl
  have hz2 : w.heap.size ≤ (w1.alloc (.cells #[.int .i64 o, .int .i64 a, .int .i64 bb] 67)).heap.size := by simp; omega
  simp only at i0 i1 i2
  rw [hsz] at BL2 e0 e1
  have e0 : (w1.alloc (.cells #[.int .i64 o, .int .i64 a, .int .i64 bb] 67)).cell? ⟨w.heap.size + 1, 0, none⟩ = some (.int .i64 o) := e0
  have e1 : (w1.alloc (.cells #[.int .i64 o, .int .i64 a, .int .i64 bb] 67)).cell? ⟨w.heap.size + 1, 1, none⟩ = some (.int .i64 a) := e1
  by_cases h32 : o = 32
  · subst h32
    go_enter Tryz.func65, Tryz.ntmps65
    go_wp2_with fail
    go_ret
    exact ⟨_, rfl, by rw [H.out]; exact .inl ⟨rfl, rfl⟩, AL.out⟩
  have b32 : (o == 32) = false := beq_eq_false_iff_ne.2 h32
  by_cases h22 : o = 22
  · subst h22
    go_enter Tryz.func65, Tryz.ntmps65
    go_upto_region 4 with fail
    generalize hW2 : w1.alloc (.cells #[.int .i64 22, .int .i64 a, .int .i64 bb] 67) = w2 at *
    have N := hid (blk_new w2 3 #[.int .i64 a])
    have AL3 := hid (AL2.out.trans ((box_below w2 (.cells #[.int .i64 a] 3)).mono hz2))
    go_wp2_with fail
    go_ret
    exact ⟨_, rfl, by rw [H.out]; exact .inr ⟨_, rfl, hz2, N.out⟩, AL3.out⟩
  have b22 : (o == 22) = false := beq_eq_false_iff_ne.2 h22
  by_cases hg : goB o = true
  · replace H := hid (H.out.trans (show tgI o a j = [(j : Int) + 1, a] by unfold tgI; rw [if_neg h32, if_neg h22, if_pos hg]))
    have G := hid (dgoes_calls o)
    rw [hg] at G
    clear h32 h22
    go_enter Tryz.func65, Tryz.ntmps65
    go_upto_region 4 with fail
    generalize hW2 : w1.alloc (.cells #[.int .i64 o, .int .i64 a, .int .i64 bb] 67) = w2 at *
    have N := hid (blk_new w2 3 #[.int .i64 ((j : Int) + 1), .int .i64 a])
    have AL3 := hid (AL2.out.trans ((box_below w2 (.cells #[.int .i64 ((j : Int) + 1), .int .i64 a] 3)).mono hz2))
    go_wp2_with fail
    refine (G.out _).mono ?_
    rintro e w3 ⟨rfl, rfl⟩
    go_wp2_with fail
    go_ret
    exact ⟨_, rfl, by rw [H.out]; exact .inr ⟨_, rfl, hz2, N.out⟩, AL3.out⟩
  · have hg : goB o = false := by simpa using hg
    replace H := hid (H.out.trans (show tgI o a j = [(j : Int) + 1] by unfold tgI; rw [if_neg h32, if_neg h22, if_neg (by rw [hg]; decide)]))
    have G := hid (dgoes_calls o)
    rw [hg] at G
    clear h32 h22
    go_enter Tryz.func65, Tryz.ntmps65
    go_upto_region 4 with fail
    generalize hW2 : w1.alloc (.cells #[.int .i64 o, .int .i64 a, .int .i64 bb] 67) = w2 at *
    have N := hid (blk_new w2 3 #[.int .i64 ((j : Int) + 1)])
    have AL3 := hid (AL2.out.trans ((box_below w2 (.cells #[.int .i64 ((j : Int) + 1)] 3)).mono hz2))
    go_wp2_with fail
    refine (G.out _).mono ?_
    rintro e w3 ⟨rfl, rfl⟩
    go_wp2_with fail
    go_ret
    exact ⟨_, rfl, by rw [H.out]; exact .inr ⟨_, rfl, hz2, N.out⟩, AL3.out⟩

end Go.Proofs.YtnojlfdojmkonaaGreatDoor
