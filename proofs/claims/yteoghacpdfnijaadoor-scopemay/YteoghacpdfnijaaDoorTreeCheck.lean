/- Whether a tree may be a program. -/
import Derived.Test.YteoghacpdfnijaaDoorJoint7
namespace Go.Proofs.YteoghacpdfnijaaDoor
open Go.RowKit

set_option maxHeartbeats 1600000 in
theorem check_tree (x : Nd) (B : Nat) (w : World) (nv kv : Value) (hO : Hid (Ok B w)) (hN : Hid (NdIn B w x nv kv)) (hs : smallN x = true) (hc : countN x ≤ 1000000) :
    Calls Tryd.prog 20 #[.agg #[.int .i64 x.kind, .int .i64 x.op, .int .i64 x.num, .string x.str, nv, kv, .int .i64 x.pl]] w fun e w' =>
      e = .returned (.int .i64 (checkN x)) ∧ Below w.heap.size w w' := by
  obtain ⟨a1, q1, a2, q2, rfl, rfl⟩ := ndIn_shape hN.out
  have hal := (Below.refl w.heap.size w).alloc (Nat.le_refl _) (.cells #[.int .i64 x.kind, .int .i64 x.op, .int .i64 x.num, .string x.str, .slice a1 x.names.length q1, .slice a2 x.kids.length q2, .int .i64 x.pl] 25)
  have hB := hO.out.1
  have AL := hid hal
  have N := hid (ndIn_on (hal.mono hB) _ _ _ hN.out)
  have O := hid (ok_on hO.out (hal.mono hB))
  have X := hid (box_new w x.kind x.op x.num x.str (.slice a1 x.names.length q1) (.slice a2 x.kids.length q2) x.pl)
  have HS := hid hs
  have H := hid (show checkN x = if decide (12 < highN x) then 13 else if rightN x 3 then 0 else 2 by unfold checkN; simp only [decide_eq_true_eq])
  clear hal hN hO hs
  go_enter Tryd.func20, Tryd.ntmps20
  go_wp2_with fail
  refine (higher_calls x B _ _ _ 12 (by simp; omega) N hc (by omega)).mono ?_
  rintro e w1 ⟨rfl, b1⟩
  have B1 := hid (below_in AL.out (by simp) b1)
  have bq : Below B _ w1 := b1.mono (by simp; omega)
  have N1 := hid (ndIn_on bq _ _ _ N.out)
  have O1 := hid (ok_on O.out bq)
  obtain ⟨c0, c1, c2, c3, c4, c5, c6⟩ := box_cells (box_on X.out b1)
  clear b1 bq N O X AL
  generalize decide (12 < highN x) = hb at *
  cases hb
  · go_wp2_with fail
    refine ((right_calls x).2.2 B _ _ _ O1 N1 HS.out hc).mono ?_
    rintro e w2 ⟨rfl, b2⟩
    have B2 := hid (below_in B1.out (Nat.le_refl _) b2)
    clear b2 B1 N1 O1
    generalize rightN x 3 = rb at *
    cases rb
    · go_wp2_with fail
      go_ret
      exact ⟨by rw [H.out]; rfl, B2.out⟩
    · go_wp2_with fail
      go_ret
      exact ⟨by rw [H.out]; rfl, B2.out⟩
  · go_wp2_with fail
    go_ret
    exact ⟨by rw [H.out]; rfl, B1.out⟩

end Go.Proofs.YteoghacpdfnijaaDoor
