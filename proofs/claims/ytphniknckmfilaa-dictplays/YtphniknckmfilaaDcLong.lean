/- Which acts are too long. -/
import Derived.Test.YtphniknckmfilaaDcWorks
namespace Go.Proofs.Ytphniknckmfilaa
set_option linter.unusedSimpArgs false
open Go.RowKit

/-- an act: what is done, the name, the value -/
abbrev Ac := Int × ByteArray × Vl
def acC (a : Ac) : List Value := [.int .i64 a.1, .string a.2.1, .int .i64 a.2.2.1, .int .i64 a.2.2.2.1, .string a.2.2.2.2]
def longA (a : Ac) : Bool := decide (300 < a.2.1.size) || decide (300 < a.2.2.2.2.size)
theorem long_calls (a : Ac) (h1 : a.2.1.size ≤ maxLen) (h2 : a.2.2.2.2.size ≤ maxLen) (w : World) :
    Calls Try.prog 8 #[.agg #[.int .i64 a.1, .string a.2.1, .int .i64 a.2.2.1, .int .i64 a.2.2.2.1, .string a.2.2.2.2]] w fun e w' => e = .returned (.bool (longA a)) ∧ Below w.heap.size w w' := by
  obtain ⟨o, n, k, i, s⟩ := a
  simp only at h1 h2 ⊢
  by_cases c1 : 300 < n.size
  · have H : longA (o, n, k, i, s) = true := by simp [longA, c1]
    have d : decide ((300 : Int) < (n.size : Int)) = true := decide_eq_true (by omega)
    rw [H]
    go_enter Try.func8, Try.ntmps8
    go_wp2_with fail
    go_ret
    exact ⟨rfl, (Below.refl _ _).alloc (Nat.le_refl _) _⟩
  · have H : longA (o, n, k, i, s) = decide ((300 : Int) < (s.size : Int)) := by
      simp [longA, c1]
      constructor <;> omega
    have d : decide ((300 : Int) < (n.size : Int)) = false := decide_eq_false (by omega)
    rw [H]
    go_enter Try.func8, Try.ntmps8
    go_wp2_with fail
    go_ret
    exact ⟨rfl, (Below.refl _ _).alloc (Nat.le_refl _) _⟩

end Go.Proofs.Ytphniknckmfilaa
