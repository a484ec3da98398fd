/- Which numbers an instruction may have: the program's word. -/
import Derived.Test.YtnojlfdojmkonaaGreatDoorTk
import Derived.Test.YtnojlfdojmkonaaGreatDoorCdTgt
namespace Go.Proofs.YtnojlfdojmkonaaGreatDoor
set_option linter.unusedSimpArgs false
set_option maxRecDepth 100000
open Go.RowKit

def inZ (n lo hi : Int) : Bool := decide (lo ≤ n) && decide (n ≤ hi)
def siteB (o : Int) : Bool := (o == 13) || ((o == 14) || ((o == 15) || (o == 27)))
def spanP (G P C l n o : Int) : Int × Int :=
  if o = 1 then (1, 1000) else if o = 3 then (0, 1) else if o = 4 then (-4611686018427387904, 4611686018427387903)
  else if o = 5 ∨ o = 13 ∨ o = 14 ∨ o = 15 ∨ o = 27 ∨ o = 18 then (0, P - 1) else if o = 7 then (0, C - 1)
  else if o = 8 ∨ o = 9 then (0, l - 1) else if o = 10 ∨ o = 11 then (0, G - 1) else if o = 20 then (1, 2) else if o = 21 then (1, 11)
  else if o = 22 ∨ o = 23 ∨ o = 24 ∨ o = 25 then (0, n - 1) else if o = 26 ∨ o = 28 then (0, 6) else if o = 29 then (1, 7) else (0, 0)
theorem cdwithin_calls (n lo hi : Int) (w : World) : Calls Tryz.prog 45 #[.int .i64 n, .int .i64 lo, .int .i64 hi] w fun e w' => e = .returned (.bool (inZ n lo hi)) ∧ w = w' := by
  have H := hid (show inZ n lo hi = (decide (lo ≤ n) && decide (n ≤ hi)) from rfl)
  by_cases h1 : lo ≤ n
  · go_enter Tryz.func45, Tryz.ntmps45
    go_wp2_with fail
    go_ret
    exact ⟨by rw [H.out]; simp [h1], rfl⟩
  · go_enter Tryz.func45, Tryz.ntmps45
    go_wp2_with fail
    go_ret
    exact ⟨by rw [H.out, show decide (lo ≤ n) = false from decide_eq_false (by omega)]; rfl, rfl⟩
theorem site_calls (o : Int) (w : World) : Calls Tryz.prog 67 #[.int .i64 o] w fun e w' => e = .returned (.bool (siteB o)) ∧ w = w' := by
  by_cases h1 : o = 13 ∨ o = 14 ∨ o = 15
  · rcases h1 with rfl | rfl | rfl
    all_goals
      go_enter Tryz.func67, Tryz.ntmps67
      go_wp2_with fail
      go_ret
      exact ⟨rfl, rfl⟩
  · have e1 : (o == 13) = false := beq_eq_false_iff_ne.2 (by omega)
    have e2 : (o == 14) = false := beq_eq_false_iff_ne.2 (by omega)
    have e3 : (o == 15) = false := beq_eq_false_iff_ne.2 (by omega)
    have H := hid (show siteB o = (o == 27) by unfold siteB; rw [e1, e2, e3]; rfl)
    clear h1
    go_enter Tryz.func67, Tryz.ntmps67
    go_wp2_with fail
    go_ret
    exact ⟨by rw [H.out]; rfl, rfl⟩
set_option maxHeartbeats 3200000 in
theorem span_calls (G p l s d o : Int) (pa ca ia : Option Addr) (pn pc cn cc n ic : Nat) (w : World) (hG : 0 ≤ G ∧ G ≤ 1000) (hl : 0 ≤ l ∧ l ≤ 1000) (hp : pn ≤ 1000000) (hc : cn ≤ 1000000) (hn : n ≤ 1000000) :
    Calls Tryz.prog 66 #[.agg #[.int .i64 G, .slice pa pn pc, .slice ca cn cc], .agg #[.int .i64 p, .int .i64 l, .int .i64 s, .int .i64 d, .slice ia n ic], .int .i64 o] w fun e w' =>
      e = .returned (.tuple #[.int .i64 (spanP G pn cn l n o).1, .int .i64 (spanP G pn cn l n o).2]) ∧ Below w.heap.size w w' := by
  have A1 := hid (box_below w (.cells #[.int .i64 G, .slice pa pn pc, .slice ca cn cc] 25))
  have B1 := hid (blk_new w 25 #[.int .i64 G, .slice pa pn pc, .slice ca cn cc])
  have hs1 : (w.alloc (.cells #[.int .i64 G, .slice pa pn pc, .slice ca cn cc] 25)).heap.size = w.heap.size + 1 := by simp
  generalize hW1 : w.alloc (.cells #[.int .i64 G, .slice pa pn pc, .slice ca cn cc] 25) = w1 at *
  have A2 := hid (A1.out.trans ((box_below w1 (.cells #[.int .i64 p, .int .i64 l, .int .i64 s, .int .i64 d, .slice ia n ic] 45)).mono (by omega)))
  have B2 := hid (blk_new w1 45 #[.int .i64 p, .int .i64 l, .int .i64 s, .int .i64 d, .slice ia n ic])
  replace B1 := hid (blk_on B1.out (box_below w1 (.cells #[.int .i64 p, .int .i64 l, .int .i64 s, .int .i64 d, .slice ia n ic] 45)))
  rw [hs1] at B2
  generalize hW2 : w1.alloc (.cells #[.int .i64 p, .int .i64 l, .int .i64 s, .int .i64 d, .slice ia n ic] 45) = w2 at *
  have p0 : w2.cell? ⟨w.heap.size, 0, none⟩ = some (.int .i64 G) := blk_cellZ B1.out 0 rfl
  have p1 : w2.cell? ⟨w.heap.size, 1, none⟩ = some (.slice pa pn pc) := blk_cellZ B1.out 1 rfl
  have p2 : w2.cell? ⟨w.heap.size, 2, none⟩ = some (.slice ca cn cc) := blk_cellZ B1.out 2 rfl
  have c1 : w2.cell? ⟨w.heap.size + 1, 1, none⟩ = some (.int .i64 l) := blk_cellZ B2.out 1 rfl
  have c4 : w2.cell? ⟨w.heap.size + 1, 4, none⟩ = some (.slice ia n ic) := blk_cellZ B2.out 4 rfl
  clear A1 B1 B2
  by_cases h1 : o = 1 ∨ o = 3 ∨ o = 4 ∨ o = 20 ∨ o = 21 ∨ o = 26 ∨ o = 28 ∨ o = 29
  · rcases h1 with rfl | rfl | rfl | rfl | rfl | rfl | rfl | rfl
    all_goals
      go_enter Tryz.func66, Tryz.ntmps66
      go_wp2_with fail
      go_ret2
      exact ⟨rfl, A2.out⟩
  by_cases h2 : o = 5 ∨ o = 13 ∨ o = 14 ∨ o = 15 ∨ o = 27 ∨ o = 18
  · rcases h2 with rfl | rfl | rfl | rfl | rfl | rfl
    all_goals
      go_enter Tryz.func66, Tryz.ntmps66
      go_wp2_with fail
      refine wp_region_held_drew (S := fun aZ => aZ.cell? ⟨w.heap.size, 1, none⟩ = some (.slice pa pn pc)) (by kernel_rfl) ?_ (fun hHeld => ?_)
      · go_simp
      refine tkk 0 ?_
      refine tkk 1 ?_
      refine tkk 2 ?_
      refine tk 3 (v := .int .i64 ((pn : Int) - 1)) ?_ ?_
      · (intro w hSw; go_simp <;> (first | with_reducible rfl | (rw [IntKind.wrap_i64]; omega) | omega))
      refine tkk 4 ?_
      refine tkk 5 ?_
      refine wpAnyH_done (by kernel_rfl) ?_ _
      go_wp2_with fail
      go_ret2
      exact ⟨rfl, A2.out.drew⟩
  by_cases h3 : o = 7
  · subst h3
    go_enter Tryz.func66, Tryz.ntmps66
    go_wp2_with fail
    refine wp_region_held_drew (S := fun aZ => aZ.cell? ⟨w.heap.size, 2, none⟩ = some (.slice ca cn cc)) (by kernel_rfl) ?_ (fun hHeld => ?_)
    · go_simp
    refine tkk 0 ?_
    refine tkk 1 ?_
    refine tkk 2 ?_
    refine tk 3 (v := .int .i64 ((cn : Int) - 1)) ?_ ?_
    · (intro w hSw; go_simp <;> (first | with_reducible rfl | (rw [IntKind.wrap_i64]; omega) | omega))
    refine tkk 4 ?_
    refine tkk 5 ?_
    refine wpAnyH_done (by kernel_rfl) ?_ _
    go_wp2_with fail
    go_ret2
    exact ⟨rfl, A2.out.drew⟩
  by_cases h4 : o = 8 ∨ o = 9
  · rcases h4 with rfl | rfl
    all_goals
      go_enter Tryz.func66, Tryz.ntmps66
      go_wp2_with fail
      refine wp_region_held_drew (S := fun aZ => aZ.cell? ⟨w.heap.size + 1, 1, none⟩ = some (.int .i64 l)) (by kernel_rfl) ?_ (fun hHeld => ?_)
      · go_simp
      refine tkk 0 ?_
      refine tkk 1 ?_
      refine tk 2 (v := .int .i64 (l - 1)) ?_ ?_
      · (intro w hSw; go_simp <;> (first | with_reducible rfl | (rw [IntKind.wrap_i64]; omega) | omega))
      refine tkk 3 ?_
      refine tkk 4 ?_
      refine wpAnyH_done (by kernel_rfl) ?_ _
      go_wp2_with fail
      go_ret2
      exact ⟨rfl, A2.out.drew⟩
  by_cases h5 : o = 10 ∨ o = 11
  · rcases h5 with rfl | rfl
    all_goals
      go_enter Tryz.func66, Tryz.ntmps66
      go_wp2_with fail
      refine wp_region_held_drew (S := fun aZ => aZ.cell? ⟨w.heap.size, 0, none⟩ = some (.int .i64 G)) (by kernel_rfl) ?_ (fun hHeld => ?_)
      · go_simp
      refine tkk 0 ?_
      refine tkk 1 ?_
      refine tk 2 (v := .int .i64 (G - 1)) ?_ ?_
      · (intro w hSw; go_simp <;> (first | with_reducible rfl | (rw [IntKind.wrap_i64]; omega) | omega))
      refine tkk 3 ?_
      refine tkk 4 ?_
      refine wpAnyH_done (by kernel_rfl) ?_ _
      go_wp2_with fail
      go_ret2
      exact ⟨rfl, A2.out.drew⟩
  by_cases h6 : o = 22 ∨ o = 23 ∨ o = 24 ∨ o = 25
  · rcases h6 with rfl | rfl | rfl | rfl
    all_goals
      go_enter Tryz.func66, Tryz.ntmps66
      go_wp2_with fail
      refine wp_region_held_drew (S := fun aZ => aZ.cell? ⟨w.heap.size + 1, 4, none⟩ = some (.slice ia n ic)) (by kernel_rfl) ?_ (fun hHeld => ?_)
      · go_simp
      refine tkk 0 ?_
      refine tkk 1 ?_
      refine tkk 2 ?_
      refine tk 3 (v := .int .i64 ((n : Int) - 1)) ?_ ?_
      · (intro w hSw; go_simp <;> (first | with_reducible rfl | (rw [IntKind.wrap_i64]; omega) | omega))
      refine tkk 4 ?_
      refine tkk 5 ?_
      refine wpAnyH_done (by kernel_rfl) ?_ _
      go_wp2_with fail
      go_ret2
      exact ⟨rfl, A2.out.drew⟩
  have H := hid (show spanP G pn cn l n o = (0, 0) by
    unfold spanP
    rw [if_neg (by omega), if_neg (by omega), if_neg (by omega), if_neg h2, if_neg h3, if_neg h4, if_neg h5, if_neg (by omega), if_neg (by omega), if_neg h6, if_neg (by omega), if_neg (by omega)])
  have e1 : (o == 1) = false := beq_eq_false_iff_ne.2 (by omega)
  have e3 : (o == 3) = false := beq_eq_false_iff_ne.2 (by omega)
  have e4 : (o == 4) = false := beq_eq_false_iff_ne.2 (by omega)
  have e5 : (o == 5) = false := beq_eq_false_iff_ne.2 (by omega)
  have e13 : (o == 13) = false := beq_eq_false_iff_ne.2 (by omega)
  have e14 : (o == 14) = false := beq_eq_false_iff_ne.2 (by omega)
  have e15 : (o == 15) = false := beq_eq_false_iff_ne.2 (by omega)
  have e27 : (o == 27) = false := beq_eq_false_iff_ne.2 (by omega)
  have e18 : (o == 18) = false := beq_eq_false_iff_ne.2 (by omega)
  have e7 : (o == 7) = false := beq_eq_false_iff_ne.2 (by omega)
  have e8 : (o == 8) = false := beq_eq_false_iff_ne.2 (by omega)
  have e9 : (o == 9) = false := beq_eq_false_iff_ne.2 (by omega)
  have e10 : (o == 10) = false := beq_eq_false_iff_ne.2 (by omega)
  have e11 : (o == 11) = false := beq_eq_false_iff_ne.2 (by omega)
  have e20 : (o == 20) = false := beq_eq_false_iff_ne.2 (by omega)
  have e21 : (o == 21) = false := beq_eq_false_iff_ne.2 (by omega)
  have e22 : (o == 22) = false := beq_eq_false_iff_ne.2 (by omega)
  have e23 : (o == 23) = false := beq_eq_false_iff_ne.2 (by omega)
  have e24 : (o == 24) = false := beq_eq_false_iff_ne.2 (by omega)
  have e25 : (o == 25) = false := beq_eq_false_iff_ne.2 (by omega)
  have e26 : (o == 26) = false := beq_eq_false_iff_ne.2 (by omega)
  have e28 : (o == 28) = false := beq_eq_false_iff_ne.2 (by omega)
  have e29 : (o == 29) = false := beq_eq_false_iff_ne.2 (by omega)
  clear h1 h2 h3 h4 h5 h6
  go_enter Tryz.func66, Tryz.ntmps66
  go_wp2_with fail
  go_ret2
  exact ⟨by rw [H.out]; rfl, A2.out⟩

end Go.Proofs.YtnojlfdojmkonaaGreatDoor
