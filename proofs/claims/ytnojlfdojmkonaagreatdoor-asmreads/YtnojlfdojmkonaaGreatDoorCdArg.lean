/- May an instruction's A be: the document's word. -/
import Derived.Test.YtnojlfdojmkonaaGreatDoorJoint6
import Derived.Deep.Cut
import Derived.Deep.CutRange
import Derived.Deep.DeepCutAuto
import Derived.Deep.CutBlock
namespace Go.Proofs.YtnojlfdojmkonaaGreatDoor
set_option linter.unusedSimpArgs false
set_option linter.unusedVariables false
set_option maxRecDepth 100000
open Go.RowKit

def argB (G P C l n o a : Int) : Bool := inZ o 1 32 && inZ a (spanP G P C l n o).1 (spanP G P C l n o).2
set_option maxHeartbeats 6400000 in
theorem darg_calls (G p l s d o a b : Int) (pa ca ia : Option Addr) (pn pc cn cc n ic : Nat) (w : World) (hG : 0 ≤ G ∧ G ≤ 1000) (hl : 0 ≤ l ∧ l ≤ 1000) (hp : pn ≤ 1000000) (hc : cn ≤ 1000000) (hn : n ≤ 1000000) :
    Calls Tryz.prog 42 #[.agg #[.int .i64 G, .slice pa pn pc, .slice ca cn cc], .agg #[.int .i64 p, .int .i64 l, .int .i64 s, .int .i64 d, .slice ia n ic], .agg #[.int .i64 o, .int .i64 a, .int .i64 b]] w fun e w' =>
      e = .returned (.bool (argB G pn cn l n o a)) ∧ Below w.heap.size w w' := by
  have A1 := hid (box_below w (.cells #[.int .i64 G, .slice pa pn pc, .slice ca cn cc] 25))
  have B1 := hid (blk_new w 25 #[.int .i64 G, .slice pa pn pc, .slice ca cn cc])
  have hs1 : (w.alloc (.cells #[.int .i64 G, .slice pa pn pc, .slice ca cn cc] 25)).heap.size = w.heap.size + 1 := by simp
  generalize hW1 : w.alloc (.cells #[.int .i64 G, .slice pa pn pc, .slice ca cn cc] 25) = w1 at *
  have A2 := hid (A1.out.trans ((box_below w1 (.cells #[.int .i64 p, .int .i64 l, .int .i64 s, .int .i64 d, .slice ia n ic] 45)).mono (by omega)))
  have B2 := hid (blk_new w1 45 #[.int .i64 p, .int .i64 l, .int .i64 s, .int .i64 d, .slice ia n ic])
  replace B1 := hid (blk_on B1.out (box_below w1 (.cells #[.int .i64 p, .int .i64 l, .int .i64 s, .int .i64 d, .slice ia n ic] 45)))
  rw [hs1] at B2
  have hs2 : (w1.alloc (.cells #[.int .i64 p, .int .i64 l, .int .i64 s, .int .i64 d, .slice ia n ic] 45)).heap.size = w.heap.size + 2 := by simp; omega
  generalize hW2 : w1.alloc (.cells #[.int .i64 p, .int .i64 l, .int .i64 s, .int .i64 d, .slice ia n ic] 45) = w2 at *
  have A3 := hid (A2.out.trans ((box_below w2 (.cells #[.int .i64 o, .int .i64 a, .int .i64 b] 67)).mono (by omega)))
  have B3 := hid (blk_new w2 67 #[.int .i64 o, .int .i64 a, .int .i64 b])
  replace B1 := hid (blk_on B1.out (box_below w2 (.cells #[.int .i64 o, .int .i64 a, .int .i64 b] 67)))
  replace B2 := hid (blk_on B2.out (box_below w2 (.cells #[.int .i64 o, .int .i64 a, .int .i64 b] 67)))
  rw [hs2] at B3
  generalize hW3 : w2.alloc (.cells #[.int .i64 o, .int .i64 a, .int .i64 b] 67) = w3 at *
  have p0 : w3.cell? ⟨w.heap.size, 0, none⟩ = some (.int .i64 G) := blk_cellZ B1.out 0 rfl
  have p1 : w3.cell? ⟨w.heap.size, 1, none⟩ = some (.slice pa pn pc) := blk_cellZ B1.out 1 rfl
  have p2 : w3.cell? ⟨w.heap.size, 2, none⟩ = some (.slice ca cn cc) := blk_cellZ B1.out 2 rfl
  have c1 : w3.cell? ⟨w.heap.size + 1, 1, none⟩ = some (.int .i64 l) := blk_cellZ B2.out 1 rfl
  have c4 : w3.cell? ⟨w.heap.size + 1, 4, none⟩ = some (.slice ia n ic) := blk_cellZ B2.out 4 rfl
  have x0 : w3.cell? ⟨w.heap.size + 2, 0, none⟩ = some (.int .i64 o) := blk_cellZ B3.out 0 rfl
  have x1 : w3.cell? ⟨w.heap.size + 2, 1, none⟩ = some (.int .i64 a) := blk_cellZ B3.out 1 rfl
  clear A1 B1 B2 B3 A2
  have H := hid (show argB G pn cn l n o a = (inZ o 1 32 && (decide ((spanP G pn cn l n o).1 ≤ a) && decide (a ≤ (spanP G pn cn l n o).2))) from rfl)
  by_cases ho : 1 ≤ o ∧ o ≤ 32
  rotate_left 1
  · have H0 := hid (show argB G pn cn l n o a = false by
      rw [H.out, show inZ o 1 32 = false from Bool.eq_false_iff.2 fun h => ho (inZ_iff.1 h)]
      rfl)
    clear H
    have e1 : (o == 1) = false := beq_eq_false_iff_ne.2 (by omega)
    have e2 : (o == 2) = false := beq_eq_false_iff_ne.2 (by omega)
    have e3 : (o == 3) = false := beq_eq_false_iff_ne.2 (by omega)
    have e4 : (o == 4) = false := beq_eq_false_iff_ne.2 (by omega)
    have e5 : (o == 5) = false := beq_eq_false_iff_ne.2 (by omega)
    have e6 : (o == 6) = false := beq_eq_false_iff_ne.2 (by omega)
    have e7 : (o == 7) = false := beq_eq_false_iff_ne.2 (by omega)
    have e8 : (o == 8) = false := beq_eq_false_iff_ne.2 (by omega)
    have e9 : (o == 9) = false := beq_eq_false_iff_ne.2 (by omega)
    have e10 : (o == 10) = false := beq_eq_false_iff_ne.2 (by omega)
    have e11 : (o == 11) = false := beq_eq_false_iff_ne.2 (by omega)
    have e12 : (o == 12) = false := beq_eq_false_iff_ne.2 (by omega)
    have e13 : (o == 13) = false := beq_eq_false_iff_ne.2 (by omega)
    have e14 : (o == 14) = false := beq_eq_false_iff_ne.2 (by omega)
    have e15 : (o == 15) = false := beq_eq_false_iff_ne.2 (by omega)
    have e16 : (o == 16) = false := beq_eq_false_iff_ne.2 (by omega)
    have e17 : (o == 17) = false := beq_eq_false_iff_ne.2 (by omega)
    have e18 : (o == 18) = false := beq_eq_false_iff_ne.2 (by omega)
    have e19 : (o == 19) = false := beq_eq_false_iff_ne.2 (by omega)
    have e20 : (o == 20) = false := beq_eq_false_iff_ne.2 (by omega)
    have e21 : (o == 21) = false := beq_eq_false_iff_ne.2 (by omega)
    have e22 : (o == 22) = false := beq_eq_false_iff_ne.2 (by omega)
    have e23 : (o == 23) = false := beq_eq_false_iff_ne.2 (by omega)
    have e24 : (o == 24) = false := beq_eq_false_iff_ne.2 (by omega)
    have e25 : (o == 25) = false := beq_eq_false_iff_ne.2 (by omega)
    have e26 : (o == 26) = false := beq_eq_false_iff_ne.2 (by omega)
    have e27 : (o == 27) = false := beq_eq_false_iff_ne.2 (by omega)
    have e28 : (o == 28) = false := beq_eq_false_iff_ne.2 (by omega)
    have e29 : (o == 29) = false := beq_eq_false_iff_ne.2 (by omega)
    have e30 : (o == 30) = false := beq_eq_false_iff_ne.2 (by omega)
    have e31 : (o == 31) = false := beq_eq_false_iff_ne.2 (by omega)
    have e32 : (o == 32) = false := beq_eq_false_iff_ne.2 (by omega)
    clear ho
    go_enter Tryz.func42, Tryz.ntmps42
    go_wp2_with fail
    go_ret
    exact ⟨by rw [H0.out]; rfl, A3.out⟩
  have SP := hid (show ∀ x, spanP G pn cn l n o = x → spanP G pn cn l n o = x from fun _ h => h)
  replace H := hid (H.out.trans (by rw [show inZ o 1 32 = true from inZ_iff.2 ho, Bool.true_and]))
  go_enter Tryz.func42, Tryz.ntmps42
  go_upto_block 0 with fail
  go_cut [7, 8] (fun u v wx => u = .int .i64 (spanP G pn cn l n o).1 ∧ v = .int .i64 (spanP G pn cn l n o).2 ∧ wx = w3)
  case first =>
    clear H SP
    have ways : o = 1 ∨ o = 2 ∨ o = 3 ∨ o = 4 ∨ o = 5 ∨ o = 6 ∨ o = 7 ∨ o = 8 ∨ o = 9 ∨ o = 10 ∨ o = 11 ∨ o = 12 ∨ o = 13 ∨ o = 14 ∨ o = 15 ∨ o = 16 ∨ o = 17 ∨ o = 18 ∨ o = 19 ∨ o = 20 ∨ o = 21 ∨ o = 22 ∨ o = 23 ∨ o = 24 ∨ o = 25 ∨ o = 26 ∨ o = 27 ∨ o = 28 ∨ o = 29 ∨ o = 30 ∨ o = 31 ∨ o = 32 := by omega
    clear ho
    rcases ways with rfl | rfl | rfl | rfl | rfl | rfl | rfl | rfl | rfl | rfl | rfl | rfl | rfl | rfl | rfl | rfl | rfl | rfl | rfl | rfl | rfl | rfl | rfl | rfl | rfl | rfl | rfl | rfl | rfl | rfl | rfl | rfl
    all_goals
      as_aux_lemma =>
        go_wp2_with fail
        go_meet
        exact ⟨rfl, by first | rfl | (congr 1; go_num), rfl⟩
  case rest =>
    obtain ⟨rfl, rfl, rfl⟩ := hcut
    rename World => w3
    clear SP p0 p1 p2 c1 c4 x0
    generalize spanP G pn cn l n o = S at *
    obtain ⟨lo, hi⟩ := S
    simp only at H ⊢
    by_cases hlo : lo ≤ a
    · replace H := hid (H.out.trans (by rw [decide_eq_true hlo, Bool.true_and]))
      go_wp2_with fail
      go_ret
      exact ⟨by rw [H.out]; rfl, A3.out⟩
    · replace H := hid (H.out.trans (by rw [decide_eq_false hlo, Bool.false_and]))
      go_wp2_with fail
      go_ret
      exact ⟨by rw [H.out]; rfl, A3.out⟩

end Go.Proofs.YtnojlfdojmkonaaGreatDoor
