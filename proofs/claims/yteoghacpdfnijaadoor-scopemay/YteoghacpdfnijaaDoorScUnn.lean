/- A node of chapter 6 with the fields of a unit's. -/
import Derived.Test.YteoghacpdfnijaaDoorScRt
import Derived.Test.YteoghacpdfnijaaDoorRetNd
namespace Go.Proofs.YteoghacpdfnijaaDoor
set_option linter.unusedSimpArgs false
open Go.RowKit

theorem two_new (w : World) (T U : TypeId) (cs ds : Array Value) : Blk (w.heap.size + 1) U ds ((w.alloc (.cells cs T)).alloc (.cells ds U)) ∧ Below w.heap.size w ((w.alloc (.cells cs T)).alloc (.cells ds U)) := by
  have x := blk_new (w.alloc (.cells cs T)) U ds
  rw [World.size_alloc] at x
  exact ⟨x, ((Below.refl w.heap.size w).alloc (Nat.le_refl _) _).alloc (by simp) _⟩
set_option maxHeartbeats 1600000 in
theorem unnum_calls (k o n : Int) (s : ByteArray) (a1 a2 : Option Addr) (l1 q1 l2 q2 : Nat) (p : Int) (w : World) :
    Calls Tryd.prog 85 #[.agg #[.int .i64 k, .int .i64 o, .int .i64 n, .string s, .slice a1 l1 q1, .slice a2 l2 q2, .int .i64 p]] w fun e w' =>
      e = .returned (.agg #[.int .i64 (unK k), .int .i64 o, .int .i64 (unM k n), .string s, .slice a1 l1 q1, .slice a2 l2 q2, .int .i64 p]) ∧ Below w.heap.size w w' := by
  have ways : k = 18 ∨ k = 19 ∨ k = 20 ∨ k = 33 ∨ k = 34 ∨ (k ≠ 18 ∧ k ≠ 19 ∧ k ≠ 20 ∧ k ≠ 33 ∧ k ≠ 34) := by omega
  rcases ways with rfl | rfl | rfl | rfl | rfl | h
  iterate 5
    · go_enter Tryd.func85, Tryd.ntmps85
      go_wp2_with fail
      refine bodyPost_ret (ret_nd7 rfl rfl (two_new _ _ _ _ _).1) rfl ?_
      exact ⟨rfl, (two_new _ _ _ _ _).2⟩
  · obtain ⟨e1, e2⟩ := un_same (n := n) h
    rw [e1, e2]
    obtain ⟨h1, h2, h3, h4, h5⟩ := h
    go_enter Tryd.func85, Tryd.ntmps85
    go_wp2_with fail
    refine bodyPost_ret (ret_nd7 rfl rfl (two_new _ _ _ _ _).1) rfl ?_
    exact ⟨rfl, (two_new _ _ _ _ _).2⟩

end Go.Proofs.YteoghacpdfnijaaDoor
