/- The laws' own test: true. -/
import Derived.Test.YtkmbahnndbempaaVals
namespace Go.Proofs.Ytkmbahnndbempaa
open Go.RowKit

theorem works_calls (w : World) : Calls Try.prog 14 #[] w fun e w' => e = .returned (.bool true) ∧ Below w.heap.size w w' := by
  go_enter Try.func14, Try.ntmps14
  go_wp2_with fail
  refine (show_calls 0 0 (by omega) (by omega) _ _).mono ?_
  rintro e w1 ⟨rfl, b1⟩
  rw [show showB 0 0 _ = [110, 117, 108, 108] from rfl]
  go_wp2_with fail
  refine (truth_calls 0 0 _ _).mono ?_
  rintro e w2 ⟨rfl, b2⟩
  rw [show truthB 0 0 = false from rfl]
  go_wp2_with fail
  refine (truth_calls 2 0 _ _).mono ?_
  rintro e w3 ⟨rfl, b3⟩
  rw [show truthB 2 0 = true from rfl]
  go_wp2_with fail
  refine (right_calls 4 1 _ _).mono ?_
  rintro e w4 ⟨rfl, b4⟩
  go_wp2
  go_ret
  exact ⟨rfl, below_on b1 (below_on b2 (below_on b3 b4))⟩

end Go.Proofs.Ytkmbahnndbempaa
