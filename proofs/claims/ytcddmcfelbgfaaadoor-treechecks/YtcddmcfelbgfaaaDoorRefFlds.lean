/- Whether a node's own fields are those of its kind, as the document asks it (what it says). -/
import Derived.Test.YtcddmcfelbgfaaaDoorRefSigns
namespace Go.Proofs.YtcddmcfelbgfaaaDoor
open Go.RowKit


def fieldsB (k o n : Int) (s : ByteArray) (ns : List ByteArray) : Bool := opOk k o && (numOk k n && (strOk k s && nsOk k ns))
theorem empty_size (s : ByteArray) : s.toList.isEmpty = decide (s.size = 0) := by
  rw [Lib.toList_data]
  have e : s.size = s.data.toList.length := by simp
  rw [e]
  cases s.data.toList <;> simp
theorem sign_none (o : Int) : (signT o = []) ↔ ¬(1 ≤ o ∧ o ≤ 11) := by
  by_cases h : 0 ≤ o ∧ o ≤ 11
  · obtain rfl | rfl | rfl | rfl | rfl | rfl | rfl | rfl | rfl | rfl | rfl | rfl : o = 0 ∨ o = 1 ∨ o = 2 ∨ o = 3 ∨ o = 4 ∨ o = 5 ∨ o = 6 ∨ o = 7 ∨ o = 8 ∨ o = 9 ∨ o = 10 ∨ o = 11 := by omega
    all_goals decide
  · refine ⟨fun _ => by omega, fun _ => ?_⟩
    unfold signT
    by_cases h0 : o < 0
    · rw [if_pos h0]
    · rw [if_neg h0, List.getD_eq_getElem?_getD, List.getElem?_eq_none (by simp [tsgnL]; omega)]; rfl

theorem all_false {α : Type} {P : α → Bool} {l : List α} {j : Nat} (hj : j < l.length) (h : P l[j] = false) : l.all P = false := by
  rw [List.all_eq_false]; exact ⟨_, List.getElem_mem hj, by simp [h]⟩
theorem all_true {α : Type} {P : α → Bool} {l : List α} (h : ∀ (q : Nat) (hq : q < l.length), P l[q] = true) : l.all P = true := by
  rw [List.all_eq_true]
  intro x hx
  obtain ⟨q, hq, rfl⟩ := List.getElem_of_mem hx
  exact h q hq

end Go.Proofs.YtcddmcfelbgfaaaDoor
