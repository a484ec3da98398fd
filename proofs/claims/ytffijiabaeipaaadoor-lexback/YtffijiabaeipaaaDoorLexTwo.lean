/- Two lists of tokens side by side: which may be. -/
import Derived.Test.YtffijiabaeipaaaDoorLexOthers
import Derived.Test.YtffijiabaeipaaaDoorLexRight
import Derived.Test.YtffijiabaeipaaaDoorRefRight
namespace Go.Proofs.YtffijiabaeipaaaDoor
open Go.RowKit

theorem lies_on {g : Nat} {l : List Tok} {a c : World} (h : Lies g l a) (hb : g < a.heap.size) (k : Below a.heap.size a c) : Lies g l c := fun i hi =>
  ⟨cell_stays k hb (h i hi).1, cell_stays k hb (h i hi).2.1, cell_stays k hb (h i hi).2.2.1, cell_stays k hb (h i hi).2.2.2⟩
abbrev Two (b off g j : Nat) (l : List Tok) (t0 : Int) (t1 : ByteArray) (t2 t3 : Int) (w a : World) : Prop :=
  (g < a.heap.size ∧ b < a.heap.size ∧ Below w.heap.size w a ∧ Lies g l a) ∧ a.cell? ⟨b, off + j * 4, none⟩ = some (.int .i64 t0) ∧ a.cell? ⟨b, off + j * 4 + 1, none⟩ = some (.string t1) ∧ a.cell? ⟨b, off + j * 4 + 2, none⟩ = some (.int .i64 t2) ∧ a.cell? ⟨b, off + j * 4 + 3, none⟩ = some (.int .i64 t3) ∧ a.cell? ⟨g, j * 4, none⟩ = some (.int .i64 t0) ∧ a.cell? ⟨g, j * 4 + 1, none⟩ = some (.string t1) ∧ a.cell? ⟨g, j * 4 + 2, none⟩ = some (.int .i64 t2) ∧ a.cell? ⟨g, j * 4 + 3, none⟩ = some (.int .i64 t3)
theorem two_on {b off g j : Nat} {l : List Tok} {t0 : Int} {t1 : ByteArray} {t2 t3 : Int} {w a c : World} (h : Two b off g j l t0 t1 t2 t3 w a) (k : Below a.heap.size a c) : Two b off g j l t0 t1 t2 t3 w c := by
  obtain ⟨⟨h1, h2, h3, h4⟩, c0, c1, c2, c3, d0, d1, d2, d3⟩ := h
  exact ⟨⟨Nat.lt_of_lt_of_le h1 k.size, Nat.lt_of_lt_of_le h2 k.size, below_in h3 (Nat.le_refl _) k, lies_on h4 h1 k⟩, cell_stays k h2 c0, cell_stays k h2 c1, cell_stays k h2 c2, cell_stays k h2 c3, cell_stays k h1 d0, cell_stays k h1 d1, cell_stays k h1 d2, cell_stays k h1 d3⟩
theorem two_pos {b off g j : Nat} {l : List Tok} {t0 : Int} {t1 : ByteArray} {t2 t3 : Int} {w a : World} (h : Two b off g j l t0 t1 t2 t3 w a) : 0 < a.heap.size := by have := h.1.1; omega
theorem two_texts {b off g j : Nat} {l : List Tok} {t0 : Int} {t1 : ByteArray} {t2 t3 : Int} {w a : World} (SG : Texts 0 sgnL w) (h0 : 0 < w.heap.size) (h : Two b off g j l t0 t1 t2 t3 w a) : Hid (Texts 0 sgnL a) := texts_on SG h0 h.1.2.2.1

theorem tokArg_cases {v : Value} {l : List Tok} {w : World} (h : TokArg v l w) : (∃ ao cap, v = .slice ao 0 cap ∧ l = []) ∨ ∃ b off cap, v = .slice (some ⟨b, off, none⟩) l.length cap ∧ b < w.heap.size ∧ LiesAt b off l w ∧ l ≠ [] := by
  rcases h with h | ⟨b, off, cap, h1, h2, h3⟩
  · exact .inl h
  · by_cases h0 : l = []
    · subst h0; exact .inl ⟨_, _, h1, rfl⟩
    · exact .inr ⟨b, off, cap, h1, h2, h3, h0⟩

end Go.Proofs.YtffijiabaeipaaaDoor
