/- Tokens that came in. -/
import Derived.Test.YtffijiabaeipaaaDoorLexSame
namespace Go.Proofs.YtffijiabaeipaaaDoor
open Go.RowKit

/-- the cells of a slice of tokens that came in -/
def LiesAt (b off : Nat) (l : List Tok) (w : World) : Prop := ∀ (i : Nat) (h : i < l.length),
  w.cell? ⟨b, off + i * 4, none⟩ = some (.int .i64 l[i].kind) ∧ w.cell? ⟨b, off + i * 4 + 1, none⟩ = some (.string l[i].text) ∧ w.cell? ⟨b, off + i * 4 + 2, none⟩ = some (.int .i64 l[i].num) ∧ w.cell? ⟨b, off + i * 4 + 3, none⟩ = some (.int .i64 l[i].pl)
theorem liesAt_on {b off : Nat} {l : List Tok} {a c : World} (h : LiesAt b off l a) (hb : b < a.heap.size) (k : Below a.heap.size a c) : LiesAt b off l c := fun i hi =>
  ⟨cell_stays k hb (h i hi).1, cell_stays k hb (h i hi).2.1, cell_stays k hb (h i hi).2.2.1, cell_stays k hb (h i hi).2.2.2⟩
/-- an argument that is a slice of tokens -/
def TokArg (v : Value) (l : List Tok) (w : World) : Prop :=
  (∃ ao cap, v = .slice ao 0 cap ∧ l = []) ∨ ∃ b off cap, v = .slice (some ⟨b, off, none⟩) l.length cap ∧ b < w.heap.size ∧ LiesAt b off l w
theorem tokArg_on {v : Value} {l : List Tok} {a c : World} (h : TokArg v l a) (k : Below a.heap.size a c) : TokArg v l c := by
  rcases h with h | ⟨b, off, cap, h1, h2, h3⟩
  · exact .inl h
  · exact .inr ⟨b, off, cap, h1, Nat.lt_of_lt_of_le h2 k.size, liesAt_on h3 h2 k⟩

/-- not too many, and none too long -/
def othersB (l : List Tok) : Bool := decide (l.length ≤ 611) && l.all fun t => decide (t.text.size ≤ 600)
theorem others_bad {l : List Tok} {j : Nat} (h : j < l.length) (hb : 610 < j ∨ 600 < l[j].text.size) : othersB l = false := by
  unfold othersB
  rw [Bool.and_eq_false_iff]
  rcases hb with hb | hb
  · left; exact decide_eq_false (by omega)
  · right
    rw [List.all_eq_false]
    exact ⟨l[j], List.getElem_mem h, by simp; omega⟩

theorem others_small {l : List Tok} (h : othersB l = true) : l.length ≤ 611 ∧ ∀ t ∈ l, t.text.size ≤ 600 := by
  unfold othersB at h
  rw [Bool.and_eq_true, decide_eq_true_iff, List.all_eq_true] at h
  exact ⟨h.1, fun t ht => of_decide_eq_true (h.2 t ht)⟩

end Go.Proofs.YtffijiabaeipaaaDoor
