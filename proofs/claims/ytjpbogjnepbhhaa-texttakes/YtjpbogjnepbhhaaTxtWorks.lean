/- A string is taken: what the laws' own test answers. -/
import Derived.Test.YtjpbogjnepbhhaaTxtTaken
namespace Go.Proofs.Ytjpbogjnepbhhaa
open Go.RowKit

theorem works_calls (w : World) : Calls Try.prog 7 #[] w fun e w' => e = .returned (.bool true) ∧ Below w.heap.size w w' := by
  have H1 : Hid (takeOut [34, 97, 92, 120, 48, 97, 34, 98] = ([97, 10], 7, 0)) := hid (by decide +kernel)
  have H2 : Hid (nameB [97, 95, 49] = true) := hid (by decide +kernel)
  go_enter Try.func7, Try.ntmps7
  go_wp2_with fail
  refine (take_calls ⟨#[34, 97, 92, 120, 48, 97, 34, 98]⟩ (by decide) _).mono ?_
  rintro e w1 ⟨rfl, b1⟩
  rw [H1.out]
  go_wp2_with fail
  refine (isname_calls ⟨#[97, 95, 49]⟩ _).mono ?_
  rintro e w2 ⟨rfl, rfl⟩
  rw [H2.out]
  go_wp2
  go_ret
  exact ⟨rfl, b1⟩

end Go.Proofs.Ytjpbogjnepbhhaa
