/- The law's own first look: works() answers true. -/
import Derived.Test.YtlgfbmfdkkbgaaaNumDigs
namespace Go.Proofs.Ytlgfbmfdkkbgaaa
open Go.RowKit

theorem read41 (w : World) : Calls Try.prog 24 #[.string ⟨#[52, 49]⟩] w fun e w' => e = .returned (.tuple #[.int .i64 41, .int .i64 0]) ∧ Grown w w' := by
  refine (read_calls ⟨#[52, 49]⟩ (by decide) w).mono ?_
  rintro e w' ⟨rfl, h⟩
  have hr : readOut (⟨#[52, 49]⟩ : ByteArray).data.toList = (41, 0) := by decide
  rw [hr]
  exact ⟨rfl, h⟩

theorem digits7 (w : World) : Calls Try.prog 26 #[.int .i64 (-7)] w fun e w' => e = .returned (.string ⟨#[45, 55]⟩) ∧ Grown w w' := by
  refine (digits_calls (-7) (by decide) (by decide) w).mono ?_
  rintro e w' ⟨rfl, h⟩
  have hr : (digs (-7)).toArray = #[45, 55] := by decide
  rw [hr]
  exact ⟨rfl, h⟩

theorem add1 (w : World) : Calls Try.prog 9 #[.int .i64 4611686018427387903, .int .i64 1] w fun e w' => e = .returned (.int .i64 (-4611686018427387904)) ∧ w = w' := by
  refine (add_calls _ _ w).mono ?_
  rintro e w' ⟨rfl, h⟩
  have hr : W63 (4611686018427387903 + 1) = -4611686018427387904 := by decide
  rw [hr]
  exact ⟨rfl, h⟩

theorem works_calls (w : World) : Calls Try.prog 19 #[] w fun e w' => e = .returned (.bool true) ∧ Grown w w' := by
  go_enter Try.func19, Try.ntmps19
  go_wp2_with fail
  refine (read41 _).mono ?_
  rintro e w1 ⟨rfl, g1⟩
  have G1 : Hid (Grown w w1) := g1
  clear g1
  go_wp2_with fail
  refine (add1 _).mono ?_
  rintro e w2 ⟨rfl, rfl⟩
  go_wp2_with fail
  refine (digits7 _).mono ?_
  rintro e w3 ⟨rfl, g3⟩
  have G3 : Hid (Grown w w3) := grown_trans G1.out g3
  clear g3
  go_wp2
  go_ret
  exact ⟨rfl, G3.out⟩

end Go.Proofs.Ytlgfbmfdkkbgaaa
