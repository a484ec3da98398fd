/- Which numbers an instruction may have: the program's word. May an instruction be: the program's word. May a code be, but for its depths: the program's word. -/
import Derived.Test.YtnojlfdojmkonaaGreatDoorJoint2
import Derived.Test.YtnojlfdojmkonaaGreatDoorJoint5
namespace Go.Proofs.YtnojlfdojmkonaaGreatDoor
set_option linter.unusedSimpArgs false
set_option maxRecDepth 100000
open Go.RowKit

def inZ (n lo hi : Int) : Bool := decide (lo ≤ n) && decide (n ≤ hi)
def siteB (o : Int) : Bool := (o == 13) || ((o == 14) || ((o == 15) || (o == 27)))
def spanP (G P C l n o : Int) : Int × Int :=
  if o = 1 then (1, 1000) else if o = 3 then (0, 1) else if o = 4 then (-4611686018427387904, 4611686018427387903)
  else if o = 5 ∨ o = 13 ∨ o = 14 ∨ o = 15 ∨ o = 27 ∨ o = 18 then (0, P - 1) else if o = 7 then (0, C - 1)
  else if o = 8 ∨ o = 9 then (0, l - 1) else if o = 10 ∨ o = 11 then (0, G - 1) else if o = 20 then (1, 2) else if o = 21 then (1, 11)
  else if o = 22 ∨ o = 23 ∨ o = 24 ∨ o = 25 then (0, n - 1) else if o = 26 ∨ o = 28 then (0, 6) else if o = 29 then (1, 7) else (0, 0)
theorem cdwithin_calls (n lo hi : Int) (w : World) : Calls Tryz.prog 45 #[.int .i64 n, .int .i64 lo, .int .i64 hi] w fun e w' => e = .returned (.bool (inZ n lo hi)) ∧ w = w' := by
  have H := hid (show inZ n lo hi = (decide (lo ≤ n) && decide (n ≤ hi)) from rfl)
  by_cases h1 : lo ≤ n
  · go_enter Tryz.func45, Tryz.ntmps45
    go_wp2_with fail
    go_ret
    exact ⟨by rw [H.out]; simp [h1], rfl⟩
  · go_enter Tryz.func45, Tryz.ntmps45
    go_wp2_with fail
    go_ret
    exact ⟨by rw [H.out, show decide (lo ≤ n) = false from decide_eq_false (by omega)]; rfl, rfl⟩
theorem site_calls (o : Int) (w : World) : Calls Tryz.prog 67 #[.int .i64 o] w fun e w' => e = .returned (.bool (siteB o)) ∧ w = w' := by
  by_cases h1 : o = 13 ∨ o = 14 ∨ o = 15
  · rcases h1 with rfl | rfl | rfl
    all_goals
      go_enter Tryz.func67, Tryz.ntmps67
      go_wp2_with fail
      go_ret
      exact ⟨rfl, rfl⟩
  · have e1 : (o == 13) = false := beq_eq_false_iff_ne.2 (by omega)
    have e2 : (o == 14) = false := beq_eq_false_iff_ne.2 (by omega)
    have e3 : (o == 15) = false := beq_eq_false_iff_ne.2 (by omega)
    have H := hid (show siteB o = (o == 27) by unfold siteB; rw [e1, e2, e3]; rfl)
    clear h1
    go_enter Tryz.func67, Tryz.ntmps67
    go_wp2_with fail
    go_ret
    exact ⟨by rw [H.out]; rfl, rfl⟩
set_option maxHeartbeats 3200000 in
theorem span_calls (G p l s d o : Int) (pa ca ia : Option Addr) (pn pc cn cc n ic : Nat) (w : World) (hG : 0 ≤ G ∧ G ≤ 1000) (hl : 0 ≤ l ∧ l ≤ 1000) (hp : pn ≤ 1000000) (hc : cn ≤ 1000000) (hn : n ≤ 1000000) :
    Calls Tryz.prog 66 #[.agg #[.int .i64 G, .slice pa pn pc, .slice ca cn cc], .agg #[.int .i64 p, .int .i64 l, .int .i64 s, .int .i64 d, .slice ia n ic], .int .i64 o] w fun e w' =>
      e = .returned (.tuple #[.int .i64 (spanP G pn cn l n o).1, .int .i64 (spanP G pn cn l n o).2]) ∧ Below w.heap.size w w' := by
  have A1 := hid (box_below w (.cells #[.int .i64 G, .slice pa pn pc, .slice ca cn cc] 25))
  have B1 := hid (blk_new w 25 #[.int .i64 G, .slice pa pn pc, .slice ca cn cc])
  have hs1 : (w.alloc (.cells #[.int .i64 G, .slice pa pn pc, .slice ca cn cc] 25)).heap.size = w.heap.size + 1 := by simp
  generalize hW1 : w.alloc (.cells #[.int .i64 G, .slice pa pn pc, .slice ca cn cc] 25) = w1 at *
  have A2 := hid (A1.out.trans ((box_below w1 (.cells #[.int .i64 p, .int .i64 l, .int .i64 s, .int .i64 d, .slice ia n ic] 45)).mono (by omega)))
  have B2 := hid (blk_new w1 45 #[.int .i64 p, .int .i64 l, .int .i64 s, .int .i64 d, .slice ia n ic])
  replace B1 := hid (blk_on B1.out (box_below w1 (.cells #[.int .i64 p, .int .i64 l, .int .i64 s, .int .i64 d, .slice ia n ic] 45)))
  rw [hs1] at B2
  generalize hW2 : w1.alloc (.cells #[.int .i64 p, .int .i64 l, .int .i64 s, .int .i64 d, .slice ia n ic] 45) = w2 at *
  have p0 : w2.cell? ⟨w.heap.size, 0, none⟩ = some (.int .i64 G) := blk_cellZ B1.out 0 rfl
  have p1 : w2.cell? ⟨w.heap.size, 1, none⟩ = some (.slice pa pn pc) := blk_cellZ B1.out 1 rfl
  have p2 : w2.cell? ⟨w.heap.size, 2, none⟩ = some (.slice ca cn cc) := blk_cellZ B1.out 2 rfl
  have c1 : w2.cell? ⟨w.heap.size + 1, 1, none⟩ = some (.int .i64 l) := blk_cellZ B2.out 1 rfl
  have c4 : w2.cell? ⟨w.heap.size + 1, 4, none⟩ = some (.slice ia n ic) := blk_cellZ B2.out 4 rfl
  clear A1 B1 B2
  by_cases h1 : o = 1 ∨ o = 3 ∨ o = 4 ∨ o = 20 ∨ o = 21 ∨ o = 26 ∨ o = 28 ∨ o = 29
  · rcases h1 with rfl | rfl | rfl | rfl | rfl | rfl | rfl | rfl
    all_goals
      go_enter Tryz.func66, Tryz.ntmps66
      go_wp2_with fail
      go_ret2
      exact ⟨rfl, A2.out⟩
  by_cases h2 : o = 5 ∨ o = 13 ∨ o = 14 ∨ o = 15 ∨ o = 27 ∨ o = 18
  · rcases h2 with rfl | rfl | rfl | rfl | rfl | rfl
    all_goals
      go_enter Tryz.func66, Tryz.ntmps66
      go_wp2_with fail
      refine wp_region_held_drew (S := fun aZ => aZ.cell? ⟨w.heap.size, 1, none⟩ = some (.slice pa pn pc)) (by kernel_rfl) ?_ (fun hHeld => ?_)
      · go_simp
      refine tkk 0 ?_
      refine tkk 1 ?_
      refine tkk 2 ?_
      refine tk 3 (v := .int .i64 ((pn : Int) - 1)) ?_ ?_
      · (intro w hSw; go_simp <;> (first | with_reducible rfl | (rw [IntKind.wrap_i64]; omega) | omega))
      refine tkk 4 ?_
      refine tkk 5 ?_
      refine wpAnyH_done (by kernel_rfl) ?_ _
      go_wp2_with fail
      go_ret2
      exact ⟨rfl, A2.out.drew⟩
  by_cases h3 : o = 7
  · subst h3
    go_enter Tryz.func66, Tryz.ntmps66
    go_wp2_with fail
    refine wp_region_held_drew (S := fun aZ => aZ.cell? ⟨w.heap.size, 2, none⟩ = some (.slice ca cn cc)) (by kernel_rfl) ?_ (fun hHeld => ?_)
    · go_simp
    refine tkk 0 ?_
    refine tkk 1 ?_
    refine tkk 2 ?_
    refine tk 3 (v := .int .i64 ((cn : Int) - 1)) ?_ ?_
    · (intro w hSw; go_simp <;> (first | with_reducible rfl | (rw [IntKind.wrap_i64]; omega) | omega))
    refine tkk 4 ?_
    refine tkk 5 ?_
    refine wpAnyH_done (by kernel_rfl) ?_ _
    go_wp2_with fail
    go_ret2
    exact ⟨rfl, A2.out.drew⟩
  by_cases h4 : o = 8 ∨ o = 9
  · rcases h4 with rfl | rfl
    all_goals
      go_enter Tryz.func66, Tryz.ntmps66
      go_wp2_with fail
      refine wp_region_held_drew (S := fun aZ => aZ.cell? ⟨w.heap.size + 1, 1, none⟩ = some (.int .i64 l)) (by kernel_rfl) ?_ (fun hHeld => ?_)
      · go_simp
      refine tkk 0 ?_
      refine tkk 1 ?_
      refine tk 2 (v := .int .i64 (l - 1)) ?_ ?_
      · (intro w hSw; go_simp <;> (first | with_reducible rfl | (rw [IntKind.wrap_i64]; omega) | omega))
      refine tkk 3 ?_
      refine tkk 4 ?_
      refine wpAnyH_done (by kernel_rfl) ?_ _
      go_wp2_with fail
      go_ret2
      exact ⟨rfl, A2.out.drew⟩
  by_cases h5 : o = 10 ∨ o = 11
  · rcases h5 with rfl | rfl
    all_goals
      go_enter Tryz.func66, Tryz.ntmps66
      go_wp2_with fail
      refine wp_region_held_drew (S := fun aZ => aZ.cell? ⟨w.heap.size, 0, none⟩ = some (.int .i64 G)) (by kernel_rfl) ?_ (fun hHeld => ?_)
      · go_simp
      refine tkk 0 ?_
      refine tkk 1 ?_
      refine tk 2 (v := .int .i64 (G - 1)) ?_ ?_
      · (intro w hSw; go_simp <;> (first | with_reducible rfl | (rw [IntKind.wrap_i64]; omega) | omega))
      refine tkk 3 ?_
      refine tkk 4 ?_
      refine wpAnyH_done (by kernel_rfl) ?_ _
      go_wp2_with fail
      go_ret2
      exact ⟨rfl, A2.out.drew⟩
  by_cases h6 : o = 22 ∨ o = 23 ∨ o = 24 ∨ o = 25
  · rcases h6 with rfl | rfl | rfl | rfl
    all_goals
      go_enter Tryz.func66, Tryz.ntmps66
      go_wp2_with fail
      refine wp_region_held_drew (S := fun aZ => aZ.cell? ⟨w.heap.size + 1, 4, none⟩ = some (.slice ia n ic)) (by kernel_rfl) ?_ (fun hHeld => ?_)
      · go_simp
      refine tkk 0 ?_
      refine tkk 1 ?_
      refine tkk 2 ?_
      refine tk 3 (v := .int .i64 ((n : Int) - 1)) ?_ ?_
      · (intro w hSw; go_simp <;> (first | with_reducible rfl | (rw [IntKind.wrap_i64]; omega) | omega))
      refine tkk 4 ?_
      refine tkk 5 ?_
      refine wpAnyH_done (by kernel_rfl) ?_ _
      go_wp2_with fail
      go_ret2
      exact ⟨rfl, A2.out.drew⟩
  have H := hid (show spanP G pn cn l n o = (0, 0) by
    unfold spanP
    rw [if_neg (by omega), if_neg (by omega), if_neg (by omega), if_neg h2, if_neg h3, if_neg h4, if_neg h5, if_neg (by omega), if_neg (by omega), if_neg h6, if_neg (by omega), if_neg (by omega)])
  have e1 : (o == 1) = false := beq_eq_false_iff_ne.2 (by omega)
  have e3 : (o == 3) = false := beq_eq_false_iff_ne.2 (by omega)
  have e4 : (o == 4) = false := beq_eq_false_iff_ne.2 (by omega)
  have e5 : (o == 5) = false := beq_eq_false_iff_ne.2 (by omega)
  have e13 : (o == 13) = false := beq_eq_false_iff_ne.2 (by omega)
  have e14 : (o == 14) = false := beq_eq_false_iff_ne.2 (by omega)
  have e15 : (o == 15) = false := beq_eq_false_iff_ne.2 (by omega)
  have e27 : (o == 27) = false := beq_eq_false_iff_ne.2 (by omega)
  have e18 : (o == 18) = false := beq_eq_false_iff_ne.2 (by omega)
  have e7 : (o == 7) = false := beq_eq_false_iff_ne.2 (by omega)
  have e8 : (o == 8) = false := beq_eq_false_iff_ne.2 (by omega)
  have e9 : (o == 9) = false := beq_eq_false_iff_ne.2 (by omega)
  have e10 : (o == 10) = false := beq_eq_false_iff_ne.2 (by omega)
  have e11 : (o == 11) = false := beq_eq_false_iff_ne.2 (by omega)
  have e20 : (o == 20) = false := beq_eq_false_iff_ne.2 (by omega)
  have e21 : (o == 21) = false := beq_eq_false_iff_ne.2 (by omega)
  have e22 : (o == 22) = false := beq_eq_false_iff_ne.2 (by omega)
  have e23 : (o == 23) = false := beq_eq_false_iff_ne.2 (by omega)
  have e24 : (o == 24) = false := beq_eq_false_iff_ne.2 (by omega)
  have e25 : (o == 25) = false := beq_eq_false_iff_ne.2 (by omega)
  have e26 : (o == 26) = false := beq_eq_false_iff_ne.2 (by omega)
  have e28 : (o == 28) = false := beq_eq_false_iff_ne.2 (by omega)
  have e29 : (o == 29) = false := beq_eq_false_iff_ne.2 (by omega)
  clear h1 h2 h3 h4 h5 h6
  go_enter Tryz.func66, Tryz.ntmps66
  go_wp2_with fail
  go_ret2
  exact ⟨by rw [H.out]; rfl, A2.out⟩

end Go.Proofs.YtnojlfdojmkonaaGreatDoor

namespace Go.Proofs.YtnojlfdojmkonaaGreatDoor
set_option linter.unusedSimpArgs false
set_option maxRecDepth 100000
open Go.RowKit

def rightI (G P C l s n o a b : Int) : Bool := inZ o 1 32 && (inZ a (spanP G P C l n o).1 (spanP G P C l n o).2 && if siteB o = true then inZ b 0 (s - 1) else b == 0)
set_option maxHeartbeats 3200000 in
theorem instr_calls (G p l s d o a b : Int) (pa ca ia : Option Addr) (pn pc cn cc n ic : Nat) (w : World) (hG : 0 ≤ G ∧ G ≤ 1000) (hl : 0 ≤ l ∧ l ≤ 1000) (hs : 0 ≤ s ∧ s ≤ 10000) (hp : pn ≤ 1000000) (hc : cn ≤ 1000000) (hn : n ≤ 1000000) :
    Calls Tryz.prog 46 #[.agg #[.int .i64 G, .slice pa pn pc, .slice ca cn cc], .agg #[.int .i64 p, .int .i64 l, .int .i64 s, .int .i64 d, .slice ia n ic], .agg #[.int .i64 o, .int .i64 a, .int .i64 b]] w fun e w' =>
      e = .returned (.bool (rightI G pn cn l s n o a b)) ∧ Below w.heap.size w w' := by
  have H := hid (show rightI G pn cn l s n o a b = (inZ o 1 32 && (inZ a (spanP G pn cn l n o).1 (spanP G pn cn l n o).2 && if siteB o = true then inZ b 0 (s - 1) else b == 0)) from rfl)
  have SP := hid (fun W => span_calls G p l s d o pa ca ia pn pc cn cc n ic W hG hl hp hc hn)
  generalize spanP G pn cn l n o = E at *
  have A1 := hid (box_below w (.cells #[.int .i64 G, .slice pa pn pc, .slice ca cn cc] 25))
  have B1 := hid (blk_new w 25 #[.int .i64 G, .slice pa pn pc, .slice ca cn cc])
  have hs1 : (w.alloc (.cells #[.int .i64 G, .slice pa pn pc, .slice ca cn cc] 25)).heap.size = w.heap.size + 1 := by simp
  generalize hW1 : w.alloc (.cells #[.int .i64 G, .slice pa pn pc, .slice ca cn cc] 25) = w1 at *
  have X2 := box_below w1 (.cells #[.int .i64 p, .int .i64 l, .int .i64 s, .int .i64 d, .slice ia n ic] 45)
  have A2 := hid (A1.out.trans (X2.mono (by omega)))
  have B2 := hid (blk_new w1 45 #[.int .i64 p, .int .i64 l, .int .i64 s, .int .i64 d, .slice ia n ic])
  replace B1 := hid (blk_on B1.out X2)
  clear X2
  rw [hs1] at B2
  have hs2 : (w1.alloc (.cells #[.int .i64 p, .int .i64 l, .int .i64 s, .int .i64 d, .slice ia n ic] 45)).heap.size = w.heap.size + 2 := by simp; omega
  generalize hW2 : w1.alloc (.cells #[.int .i64 p, .int .i64 l, .int .i64 s, .int .i64 d, .slice ia n ic] 45) = w2 at *
  have X3 := box_below w2 (.cells #[.int .i64 o, .int .i64 a, .int .i64 b] 67)
  have A3 := hid (A2.out.trans (X3.mono (by omega)))
  have B3 := hid (blk_new w2 67 #[.int .i64 o, .int .i64 a, .int .i64 b])
  replace B1 := hid (blk_on B1.out X3)
  replace B2 := hid (blk_on B2.out X3)
  clear X3
  rw [hs2] at B3
  have hs3 : (w2.alloc (.cells #[.int .i64 o, .int .i64 a, .int .i64 b] 67)).heap.size = w.heap.size + 3 := by simp; omega
  generalize hW3 : w2.alloc (.cells #[.int .i64 o, .int .i64 a, .int .i64 b] 67) = w3 at *
  have p0 : w3.cell? ⟨w.heap.size, 0, none⟩ = some (.int .i64 G) := blk_cellZ B1.out 0 rfl
  have p1 : w3.cell? ⟨w.heap.size, 1, none⟩ = some (.slice pa pn pc) := blk_cellZ B1.out 1 rfl
  have p2 : w3.cell? ⟨w.heap.size, 2, none⟩ = some (.slice ca cn cc) := blk_cellZ B1.out 2 rfl
  have c0 : w3.cell? ⟨w.heap.size + 1, 0, none⟩ = some (.int .i64 p) := blk_cellZ B2.out 0 rfl
  have c1 : w3.cell? ⟨w.heap.size + 1, 1, none⟩ = some (.int .i64 l) := blk_cellZ B2.out 1 rfl
  have c2 : w3.cell? ⟨w.heap.size + 1, 2, none⟩ = some (.int .i64 s) := blk_cellZ B2.out 2 rfl
  have c3 : w3.cell? ⟨w.heap.size + 1, 3, none⟩ = some (.int .i64 d) := blk_cellZ B2.out 3 rfl
  have c4 : w3.cell? ⟨w.heap.size + 1, 4, none⟩ = some (.slice ia n ic) := blk_cellZ B2.out 4 rfl
  have i0 : w3.cell? ⟨w.heap.size + 2, 0, none⟩ = some (.int .i64 o) := blk_cellZ B3.out 0 rfl
  have i1 : w3.cell? ⟨w.heap.size + 2, 1, none⟩ = some (.int .i64 a) := blk_cellZ B3.out 1 rfl
  have i2 : w3.cell? ⟨w.heap.size + 2, 2, none⟩ = some (.int .i64 b) := blk_cellZ B3.out 2 rfl
  clear A1 A2 B1 B2 B3
  have W1 := hid (cdwithin_calls o 1 32)
  cases h1 : inZ o 1 32 with
  | false =>
    rw [h1] at H W1
    go_enter Tryz.func46, Tryz.ntmps46
    go_wp2_with fail
    refine (W1.out _).mono ?_
    rintro e w4 ⟨rfl, rfl⟩
    go_wp2_with fail
    go_ret
    exact ⟨by rw [H.out]; rfl, A3.out⟩
  | true =>
  rw [h1] at H W1
  clear h1
  have W2 := hid (cdwithin_calls a E.1 E.2)
  have W3 := hid (site_calls o)
  have W4 := hid (cdwithin_calls b 0 (s - 1))
  cases h2 : inZ a E.1 E.2 with
  | false =>
    rw [h2] at H W2
    clear h2 W3 W4
    go_enter Tryz.func46, Tryz.ntmps46
    go_wp2_with fail
    refine (W1.out _).mono ?_
    rintro e w4 ⟨rfl, rfl⟩
    go_wp2_with fail
    refine (SP.out _).mono ?_
    rintro e w4 ⟨rfl, b4⟩
    replace i1 := cellB b4 (by simp; omega) i1
    have B4 := hid (A3.out.trans (b4.mono (by omega)))
    clear b4 i0 i2 c0 c1 c2 c3 c4 p0 p1 p2
    go_wp2_with fail
    refine (W2.out _).mono ?_
    rintro e w5 ⟨rfl, rfl⟩
    go_wp2_with fail
    go_ret
    exact ⟨by rw [H.out]; rfl, B4.out⟩
  | true =>
  rw [h2] at H W2
  clear h2
  cases h3 : siteB o with
  | false =>
    rw [h3] at H W3
    clear h3 W4
    go_enter Tryz.func46, Tryz.ntmps46
    go_wp2_with fail
    refine (W1.out _).mono ?_
    rintro e w4 ⟨rfl, rfl⟩
    go_wp2_with fail
    refine (SP.out _).mono ?_
    rintro e w4 ⟨rfl, b4⟩
    replace i0 := cellB b4 (by simp; omega) i0
    replace i1 := cellB b4 (by simp; omega) i1
    replace i2 := cellB b4 (by simp; omega) i2
    have B4 := hid (A3.out.trans (b4.mono (by omega)))
    clear b4 c0 c1 c2 c3 c4 p0 p1 p2
    go_wp2_with fail
    refine (W2.out _).mono ?_
    rintro e w5 ⟨rfl, rfl⟩
    go_wp2_with fail
    refine (W3.out _).mono ?_
    rintro e w5 ⟨rfl, rfl⟩
    go_wp2_with fail
    go_ret
    exact ⟨by rw [H.out]; rfl, B4.out⟩
  | true =>
    rw [h3] at H W3
    clear h3
    go_enter Tryz.func46, Tryz.ntmps46
    go_wp2_with fail
    refine (W1.out _).mono ?_
    rintro e w4 ⟨rfl, rfl⟩
    go_wp2_with fail
    refine (SP.out _).mono ?_
    rintro e w4 ⟨rfl, b4⟩
    replace i0 := cellB b4 (by simp; omega) i0
    replace i1 := cellB b4 (by simp; omega) i1
    replace i2 := cellB b4 (by simp; omega) i2
    replace c2 := cellB b4 (by simp; omega) c2
    have B4 := hid (A3.out.trans (b4.mono (by omega)))
    clear b4 c0 c1 c3 c4 p0 p1 p2
    go_wp2_with fail
    refine (W2.out _).mono ?_
    rintro e w5 ⟨rfl, rfl⟩
    go_wp2_with fail
    refine (W3.out _).mono ?_
    rintro e w5 ⟨rfl, rfl⟩
    go_wp2_with fail
    refine (W4.out _).mono ?_
    rintro e w5 ⟨rfl, rfl⟩
    go_wp2_with fail
    go_ret
    exact ⟨by rw [H.out]; rfl, B4.out⟩

end Go.Proofs.YtnojlfdojmkonaaGreatDoor

namespace Go.Proofs.YtnojlfdojmkonaaGreatDoor
set_option linter.unusedSimpArgs false
set_option maxRecDepth 100000
open Go.RowKit

def opA (is : List In) (k : Nat) : Int := match is[k]? with | none => 0 | some x => x.1
def okI (G P C : Int) (c : Cd) (k : Nat) (x : In) : Bool := rightI G P C c.l c.s c.ins.length x.1 x.2.1 x.2.2 && !(goB x.1 && (decide (x.2.1 ≤ k) && !(opA c.ins x.2.1.toNat == 1)))
def okAll (G P C : Int) (c : Cd) : Nat → List In → Bool
  | _, [] => true
  | k, x :: r => okI G P C c k x && okAll G P C c (k + 1) r
def rightC (G P C : Int) (c : Cd) : Bool := inZ c.p 0 6 && (inZ c.l c.p 24 && (inZ c.s 0 4000 && (inZ c.d 0 64 && (inZ c.ins.length 1 4000 && okAll G P C c 0 c.ins))))
theorem inZ_iff {n lo hi : Int} : inZ n lo hi = true ↔ lo ≤ n ∧ n ≤ hi := by simp [inZ]
/-- a program's and a code's box, side by side -/
def Bx (g : Nat) (G p l s d : Int) (pv cv iv : Value) (w : World) : Prop :=
  w.cell? ⟨g, 0, none⟩ = some (.int .i64 G) ∧ w.cell? ⟨g, 1, none⟩ = some pv ∧ w.cell? ⟨g, 2, none⟩ = some cv ∧ w.cell? ⟨g + 1, 0, none⟩ = some (.int .i64 p) ∧ w.cell? ⟨g + 1, 1, none⟩ = some (.int .i64 l) ∧ w.cell? ⟨g + 1, 2, none⟩ = some (.int .i64 s) ∧ w.cell? ⟨g + 1, 3, none⟩ = some (.int .i64 d) ∧ w.cell? ⟨g + 1, 4, none⟩ = some iv
theorem bx_on {g B : Nat} {G p l s d : Int} {pv cv iv : Value} {a c : World} (h : Bx g G p l s d pv cv iv a) (q : Below B a c) (hg : g + 1 < B) : Bx g G p l s d pv cv iv c := by
  obtain ⟨a0, a1, a2, a3, a4, a5, a6, a7⟩ := h
  have h0 : g < B := by omega
  exact ⟨cellB q h0 a0, cellB q h0 a1, cellB q h0 a2, cellB q hg a3, cellB q hg a4, cellB q hg a5, cellB q hg a6, cellB q hg a7⟩
theorem bx_new (w : World) (G p l s d : Int) (pv cv iv : Value) {T T' : TypeId} : Bx w.heap.size G p l s d pv cv iv ((w.alloc (.cells #[.int .i64 G, pv, cv] T)).alloc (.cells #[.int .i64 p, .int .i64 l, .int .i64 s, .int .i64 d, iv] T')) := by
  have B1 := blk_new w T #[.int .i64 G, pv, cv]
  have hs1 : (w.alloc (.cells #[.int .i64 G, pv, cv] T)).heap.size = w.heap.size + 1 := by simp
  generalize w.alloc (.cells #[.int .i64 G, pv, cv] T) = w1 at *
  have X2 := box_below w1 (.cells #[.int .i64 p, .int .i64 l, .int .i64 s, .int .i64 d, iv] T')
  have B2 := blk_new w1 T' #[.int .i64 p, .int .i64 l, .int .i64 s, .int .i64 d, iv]
  rw [hs1] at B2
  replace B1 := blk_on B1 X2
  exact ⟨blk_cellZ B1 0 rfl, blk_cellZ B1 1 rfl, blk_cellZ B1 2 rfl, blk_cellZ B2 0 rfl, blk_cellZ B2 1 rfl, blk_cellZ B2 2 rfl, blk_cellZ B2 3 rfl, blk_cellZ B2 4 rfl⟩
theorem two_below (w : World) (o o' : Obj) : Below w.heap.size w ((w.alloc o).alloc o') := (box_below w o).trans ((box_below _ o').mono (by simp))
theorem in_cells (w : World) (o a b : Int) (T : TypeId) : InAt w.heap.size 0 (o, a, b) (w.alloc (.cells #[.int .i64 o, .int .i64 a, .int .i64 b] T)) :=
  ⟨blk_cellZ (blk_new w T _) 0 rfl, blk_cellZ (blk_new w T _) 1 rfl, blk_cellZ (blk_new w T _) 2 rfl⟩
theorem inAt_on {b o B : Nat} {x : In} {a c : World} (h : InAt b o x a) (q : Below B a c) (hb : b < B) : InAt b o x c := ⟨cellB q hb h.1, cellB q hb h.2.1, cellB q hb h.2.2⟩
theorem span_goes {G P C l n o : Int} (h : goB o = true) : spanP G P C l n o = (0, n - 1) := by
  have : o = 22 ∨ o = 23 ∨ o = 24 ∨ o = 25 := by simpa [goB] using h
  rcases this with rfl | rfl | rfl | rfl <;> rfl
set_option maxHeartbeats 3200000 in
theorem rcode_calls (B : Nat) (G : Int) (c : Cd) (iv : Value) (pa ca : Option Addr) (pn pc cn cc : Nat) (w : World) (hB : B ≤ w.heap.size) (hI : InsIn B w iv c.ins) (hG : 0 ≤ G ∧ G ≤ 1000) (hp : pn ≤ 1000000) (hc : cn ≤ 1000000) (hn : c.ins.length ≤ 1000000) :
    Calls Tryz.prog 28 #[.agg #[.int .i64 G, .slice pa pn pc, .slice ca cn cc], cdV c iv] w fun e w' => e = .returned (.bool (rightC G pn cn c)) ∧ Below w.heap.size w w' := by
  have H := hid (show rightC G pn cn c = (inZ c.p 0 6 && (inZ c.l c.p 24 && (inZ c.s 0 4000 && (inZ c.d 0 64 && (inZ c.ins.length 1 4000 && okAll G pn cn c 0 c.ins))))) from rfl)
  have OK := hid (show ∀ k x, okI G pn cn c k x = (rightI G pn cn c.l c.s c.ins.length x.1 x.2.1 x.2.2 && !(goB x.1 && (decide (x.2.1 ≤ k) && !(opA c.ins x.2.1.toNat == 1)))) from fun _ _ => rfl)
  have OA := hid (show ∀ k x r, okAll G pn cn c k (x :: r) = (okI G pn cn c k x && okAll G pn cn c (k + 1) r) from fun _ _ _ => rfl)
  have ON := hid (show ∀ k, okAll G pn cn c k [] = true from fun _ => rfl)
  generalize rightC G pn cn c = RC at *
  generalize okI G pn cn c = ok1 at *
  generalize okAll G pn cn c = okA at *
  obtain ⟨p, l, s, d, is⟩ := c
  simp only [cdV] at *
  obtain ⟨ia, ic, rfl⟩ := insIn_shape hI
  have AL := hid (two_below w (.cells #[.int .i64 G, .slice pa pn pc, .slice ca cn cc] 25) (.cells #[.int .i64 p, .int .i64 l, .int .i64 s, .int .i64 d, .slice ia is.length ic] 45))
  have BX := hid (bx_new w G p l s d (.slice pa pn pc) (.slice ca cn cc) (.slice ia is.length ic) (T := 25) (T' := 45))
  have hsz : ((w.alloc (.cells #[.int .i64 G, .slice pa pn pc, .slice ca cn cc] 25)).alloc (.cells #[.int .i64 p, .int .i64 l, .int .i64 s, .int .i64 d, .slice ia is.length ic] 45)).heap.size = w.heap.size + 2 := by simp
  generalize hW : (w.alloc (.cells #[.int .i64 G, .slice pa pn pc, .slice ca cn cc] 25)).alloc (.cells #[.int .i64 p, .int .i64 l, .int .i64 s, .int .i64 d, .slice ia is.length ic] 45) = w2 at *
  have HI := hid (insIn_on hI (AL.out.mono hB))
  clear hI
  obtain ⟨p0, p1, p2, c0, c1, c2, c3, c4⟩ := BX.out
  have W1 := hid (cdwithin_calls p 0 6)
  have W2 := hid (cdwithin_calls l p 24)
  have W3 := hid (cdwithin_calls s 0 4000)
  have W4 := hid (cdwithin_calls d 0 64)
  have W5 := hid (cdwithin_calls is.length 1 4000)
  cases h1 : inZ p 0 6 with
  | false =>
    rw [h1] at H W1
    go_enter Tryz.func28, Tryz.ntmps28
    go_wp2_with fail
    refine (W1.out _).mono ?_
    rintro e w4 ⟨rfl, rfl⟩
    go_wp2_with fail
    go_ret
    exact ⟨by rw [H.out]; rfl, AL.out⟩
  | true =>
  rw [h1] at H W1
  have g1 := inZ_iff.1 h1
  clear h1
  cases h2 : inZ l p 24 with
  | false =>
    rw [h2] at H W2
    go_enter Tryz.func28, Tryz.ntmps28
    go_wp2_with fail
    refine (W1.out _).mono ?_
    rintro e w4 ⟨rfl, rfl⟩
    go_wp2_with fail
    refine (W2.out _).mono ?_
    rintro e w4 ⟨rfl, rfl⟩
    go_wp2_with fail
    go_ret
    exact ⟨by rw [H.out]; rfl, AL.out⟩
  | true =>
  rw [h2] at H W2
  have g2 := inZ_iff.1 h2
  clear h2
  cases h3 : inZ s 0 4000 with
  | false =>
    rw [h3] at H W3
    go_enter Tryz.func28, Tryz.ntmps28
    go_wp2_with fail
    refine (W1.out _).mono ?_
    rintro e w4 ⟨rfl, rfl⟩
    go_wp2_with fail
    refine (W2.out _).mono ?_
    rintro e w4 ⟨rfl, rfl⟩
    go_wp2_with fail
    refine (W3.out _).mono ?_
    rintro e w4 ⟨rfl, rfl⟩
    go_wp2_with fail
    go_ret
    exact ⟨by rw [H.out]; rfl, AL.out⟩
  | true =>
  rw [h3] at H W3
  have g3 := inZ_iff.1 h3
  clear h3
  cases h4 : inZ d 0 64 with
  | false =>
    rw [h4] at H W4
    go_enter Tryz.func28, Tryz.ntmps28
    go_wp2_with fail
    refine (W1.out _).mono ?_
    rintro e w4 ⟨rfl, rfl⟩
    go_wp2_with fail
    refine (W2.out _).mono ?_
    rintro e w4 ⟨rfl, rfl⟩
    go_wp2_with fail
    refine (W3.out _).mono ?_
    rintro e w4 ⟨rfl, rfl⟩
    go_wp2_with fail
    refine (W4.out _).mono ?_
    rintro e w4 ⟨rfl, rfl⟩
    go_wp2_with fail
    go_ret
    exact ⟨by rw [H.out]; rfl, AL.out⟩
  | true =>
  rw [h4] at H W4
  clear h4
  cases h5 : inZ is.length 1 4000 with
  | false =>
    rw [h5] at H W5
    go_enter Tryz.func28, Tryz.ntmps28
    go_wp2_with fail
    refine (W1.out _).mono ?_
    rintro e w4 ⟨rfl, rfl⟩
    go_wp2_with fail
    refine (W2.out _).mono ?_
    rintro e w4 ⟨rfl, rfl⟩
    go_wp2_with fail
    refine (W3.out _).mono ?_
    rintro e w4 ⟨rfl, rfl⟩
    go_wp2_with fail
    refine (W4.out _).mono ?_
    rintro e w4 ⟨rfl, rfl⟩
    go_wp2_with fail
    refine (W5.out _).mono ?_
    rintro e w4 ⟨rfl, rfl⟩
    go_wp2_with fail
    go_ret
    exact ⟨by rw [H.out]; rfl, AL.out⟩
  | true =>
  rw [h5] at H W5
  clear h5
  replace H := hid (show RC = okA 0 is from H.out)
  have g2' : 0 ≤ l ∧ l ≤ 1000 := by omega
  have g3' : 0 ≤ s ∧ s ≤ 10000 := by omega
  clear g1 g2 g3
  go_enter Tryz.func28, Tryz.ntmps28
  go_wp2_with fail
  refine (W1.out _).mono ?_
  rintro e w4 ⟨rfl, rfl⟩
  go_wp2_with fail
  refine (W2.out _).mono ?_
  rintro e w4 ⟨rfl, rfl⟩
  go_wp2_with fail
  refine (W3.out _).mono ?_
  rintro e w4 ⟨rfl, rfl⟩
  go_wp2_with fail
  refine (W4.out _).mono ?_
  rintro e w4 ⟨rfl, rfl⟩
  go_wp2_with fail
  refine (W5.out _).mono ?_
  rintro e w4 ⟨rfl, rfl⟩
  go_wp2_with fail
  clear W1 W2 W3 W4 W5 p0 p1 p2 c0 c1 c2 c3 c4
  go_loopw [39] (fun iV wr => ∃ i : Nat, i ≤ is.length ∧ iV = .int .i64 i ∧ Hid (RC = okA i (is.drop i)) ∧ Hid (Below w2.heap.size w2 wr)) (fun iV _ => is.length - (intOf iV).toNat)
  case atStart => exact ⟨0, by omega, rfl, hid (by rw [H.out]; rfl), hid (Below.refl _ _)⟩
  case round =>
    obtain ⟨i, hi, rfl, hA, hW3⟩ := hrel
    have BX3 := hid (bx_on BX.out hW3.out (by omega))
    have HI3 := hid (insIn_on HI.out (hW3.out.mono (by omega)))
    by_cases hil : i < is.length
    · obtain ⟨x, hx⟩ : ∃ x, is[i]? = some x := ⟨_, List.getElem?_eq_getElem hil⟩
      have hdr : is.drop i = x :: is.drop (i + 1) := by
        rw [List.drop_eq_getElem_cons hil]
        congr 1
        exact Option.some.inj ((List.getElem?_eq_getElem hil).symm.trans hx)
      have hstep := hid (hA.out.trans ((congrArg (okA i) hdr).trans (OA.out _ _ _)))
      obtain ⟨o, a, b⟩ := x
      have OK1 := hid (OK.out i (o, a, b))
      obtain ⟨ib, off, hia, hib, i0, i1, i2⟩ := insIn_at HI3.out hx
      subst hia
      have n1 := hid (in_cells wr o a b 67)
      have X4 := hid (box_below wr (.cells #[.int .i64 o, .int .i64 a, .int .i64 b] 67))
      have hsw := hW3.out.size
      have BX4 := hid (bx_on BX3.out X4.out (by omega))
      have HI4 := hid (insIn_on HI3.out (X4.out.mono (by omega)))
      have hs4 : wr.heap.size + 1 = (wr.alloc (.cells #[.int .i64 o, .int .i64 a, .int .i64 b] 67)).heap.size := by simp
      have RI := hid (fun W => instr_calls G p l s d o a b pa ca (some ⟨ib, off, none⟩) pn pc cn cc is.length ic W hG g2' g3' hp hc hn)
      have GO := hid (goes_calls o)
      go_upto_region 8 with fail
      clear i0 i1 i2
      generalize hW4 : wr.alloc (.cells #[.int .i64 o, .int .i64 a, .int .i64 b] 67) = w4 at *
      obtain ⟨p0, p1, p2, c0, c1, c2, c3, c4⟩ := BX4.out
      obtain ⟨i0, i1, i2⟩ := n1.out
      simp only at i0 i1 i2
      have BW := hid (AL.out.trans ((hW3.out.mono (by omega)).trans (X4.out.mono (by omega))))
      have HB := hid (hW3.out.trans (X4.out.mono (by omega)))
      cases hR : rightI G pn cn l s is.length o a b with
      | false =>
        rw [hR] at RI
        have HF := hid (show RC = false by rw [hstep.out, OK1.out]; simp only [hR]; rfl)
        clear hR
        go_wp2_with fail
        refine (RI.out _).mono ?_
        rintro e w5 ⟨rfl, b5⟩
        have BW5 := hid (BW.out.trans (b5.mono (by omega)))
        clear b5
        go_wp2_with fail
        go_ret
        exact ⟨by rw [HF.out]; rfl, BW5.out⟩
      | true =>
        rw [hR] at RI
        replace OK1 := hid (show ok1 i (o, a, b) = !(goB o && (decide (a ≤ i) && !(opA is a.toNat == 1))) by rw [OK1.out]; simp only [hR]; rfl)
        have HR := hid hR
        clear hR
        go_wp2_with fail
        refine (RI.out _).mono ?_
        rintro e w5 ⟨rfl, b5⟩
        replace i0 := cellB b5 (by simp only; omega) i0
        replace i1 := cellB b5 (by simp only; omega) i1
        replace c4 := cellB b5 (by simp only; omega) c4
        have HI5 := hid (insIn_on HI4.out (b5.mono (by omega)))
        have BW5 := hid (BW.out.trans (b5.mono (by omega)))
        have HB5 := hid (HB.out.trans (b5.mono (by omega)))
        clear b5 RI p0 p1 p2 c0 c1 c2 c3 i2 BX3 BX4 HI3 HI4 X4 n1 BW HB
        go_wp2_with fail
        refine (GO.out _).mono ?_
        rintro e w6 ⟨rfl, rfl⟩
        cases hg : goB o with
        | false =>
          have HN := hid (show RC = okA (i + 1) (is.drop (i + 1)) by rw [hstep.out, OK1.out, hg]; rfl)
          clear hg
          go_wp2_with fail
          exact ⟨⟨i + 1, by omega, by simp, HN, HB5⟩, by simp [intOf]; omega⟩
        | true =>
          have hsp := span_goes (G := G) (P := pn) (C := cn) (l := l) (n := is.length) hg
          have hra : 0 ≤ a ∧ a ≤ (is.length : Int) - 1 := by
            have h := HR.out
            unfold rightI at h
            rw [hsp] at h
            simp only [Bool.and_eq_true] at h
            exact inZ_iff.1 h.2.1
          clear hsp HR
          obtain ⟨m, rfl⟩ : ∃ m : Nat, a = (m : Int) := ⟨a.toNat, by omega⟩
          by_cases hai : m ≤ i
          · obtain ⟨y, hy⟩ : ∃ y, is[m]? = some y := ⟨_, List.getElem?_eq_getElem (by omega)⟩
            obtain ⟨ib', off', he, hib', y0, y1, y2⟩ := insIn_at HI5.out hy
            obtain ⟨rfl, rfl⟩ : ib' = ib ∧ off' = off := by
              injection he with he
              injection he with he1 he2
              exact ⟨he1.symm, he2.symm⟩
            have hop : opA is (m : Int).toNat = y.1 := by unfold opA; rw [Int.toNat_natCast, hy]
            have hai' : (m : Int) ≤ (i : Int) := by omega
            obtain ⟨yo, ya, yb⟩ := y
            simp only at y0 hop
            clear y1 y2 he
            by_cases hyo : yo = 1
            · subst hyo
              have HN := hid (show RC = okA (i + 1) (is.drop (i + 1)) by rw [hstep.out, OK1.out, hg, hop, decide_eq_true hai']; rfl)
              clear hg hop hai'
              go_wp2_with fail
              exact ⟨⟨i + 1, by omega, by simp, HN, HB5⟩, by simp [intOf]; omega⟩
            · have hb1 : (yo == 1) = false := beq_eq_false_iff_ne.2 hyo
              have hb2 : (yo != 1) = true := by simpa using hyo
              have HN := hid (show RC = false by rw [hstep.out, OK1.out, hg, hop, decide_eq_true hai', hb1]; rfl)
              clear hg hop hai' hyo
              go_wp2_with fail
              go_ret
              exact ⟨by rw [HN.out]; rfl, BW5.out⟩
          · have hai' : ¬ (m : Int) ≤ (i : Int) := by omega
            have HN := hid (show RC = okA (i + 1) (is.drop (i + 1)) by rw [hstep.out, OK1.out, hg, decide_eq_false hai']; rfl)
            clear hg
            go_wp2_with fail
            exact ⟨⟨i + 1, by omega, by simp, HN, HB5⟩, by simp [intOf]; omega⟩
    · have hie : i = is.length := by omega
      subst hie
      replace hA := hid (show RC = true by rw [hA.out, List.drop_length, ON.out])
      go_wp2_with fail
      go_ret
      exact ⟨by rw [hA.out]; rfl, AL.out.trans (hW3.out.mono (by omega))⟩

end Go.Proofs.YtnojlfdojmkonaaGreatDoor
