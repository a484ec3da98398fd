/- A block of a call's own that its answer, a value, goes into. -/
import Derived.Test.YtphniknckmfilaaProg
import Derived.Test.YtphniknckmfilaaGround
namespace Go.Proofs.Ytphniknckmfilaa
open Go.RowKit

theorem ret_v {fn : Func} {t : Tmp} (h : fn.results = #[.cell t 32]) {tmps : Array Value} {g : Nat} {w : World} {x y z : Value} (ht : tmps.getD t undef = .pointer (some ⟨g, 0, none⟩))
    (c : w.cell? ⟨g, 0, none⟩ = some x ∧ w.cell? ⟨g, 1, none⟩ = some y ∧ w.cell? ⟨g, 2, none⟩ = some z) :
    (results fn tmps).run Try.prog w = .ok (.agg #[x, y, z]) w := by
  rw [Array.getD_eq_getD_getElem?] at ht
  simp [results, h, ht, go_sem, asAddr, c.1, c.2.1, c.2.2]

theorem ret_ve {fn : Func} {t u : Tmp} (h : fn.results = #[.cell t 32, .tmp u]) {tmps : Array Value} {g : Nat} {w : World} {x y z : Value} (ht : tmps.getD t undef = .pointer (some ⟨g, 0, none⟩))
    (c : w.cell? ⟨g, 0, none⟩ = some x ∧ w.cell? ⟨g, 1, none⟩ = some y ∧ w.cell? ⟨g, 2, none⟩ = some z) :
    (results fn tmps).run Try.prog w = .ok (.tuple #[.agg #[x, y, z], tmps.getD u undef]) w := by
  rw [Array.getD_eq_getD_getElem?] at ht
  simp [results, h, ht, go_sem, asAddr, c.1, c.2.1, c.2.2]

/-- a fresh value stands at block g, and may be written -/
def Slot (g : Nat) (w : World) : Prop :=
  g < w.heap.size ∧ w.cell? ⟨g, 0, none⟩ = some (.int .i64 0) ∧ w.cell? ⟨g, 1, none⟩ = some (.int .i64 0) ∧ w.cell? ⟨g, 2, none⟩ = some (.string ⟨#[]⟩) ∧
    w.frozen? ⟨g, 0, none⟩ = false ∧ w.frozen? ⟨g, 1, none⟩ = false ∧ w.frozen? ⟨g, 2, none⟩ = false

theorem slot_on {g : Nat} {a b : World} (h : Slot g a) (k : Below a.heap.size a b) : Slot g b := by
  obtain ⟨h0, h1, h2, h3, h4, h5, h6⟩ := h
  exact ⟨Nat.lt_of_lt_of_le h0 k.size, (k.cell (p := ⟨g, 0, none⟩) h0).trans h1, (k.cell (p := ⟨g, 1, none⟩) h0).trans h2, (k.cell (p := ⟨g, 2, none⟩) h0).trans h3, (k.frozen (p := ⟨g, 0, none⟩) h0).trans h4, (k.frozen (p := ⟨g, 1, none⟩) h0).trans h5, (k.frozen (p := ⟨g, 2, none⟩) h0).trans h6⟩

theorem slot_new (w : World) {g : Nat} (hg : g = w.heap.size) (t : TypeId) : Slot g (w.alloc (Obj.cells #[.int .i64 0, .int .i64 0, .string ⟨#[]⟩] t)) := by
  subst hg
  refine ⟨by simp, by simp, by simp, by simp, by simp, by simp, by simp⟩

theorem put3 {B g : Nat} {w w1 : World} (h : Below B w w1) (hg : B ≤ g) (x y z : Value) :
    Below B w (((w1.setCell ⟨g, 0, none⟩ x).setCell ⟨g, 1, none⟩ y).setCell ⟨g, 2, none⟩ z) :=
  ((h.setCell hg _).setCell hg _).setCell hg _

theorem put3_cells {g : Nat} {w1 : World} (h : Slot g w1) (x y z : Value) :
    (((w1.setCell ⟨g, 0, none⟩ x).setCell ⟨g, 1, none⟩ y).setCell ⟨g, 2, none⟩ z).cell? ⟨g, 0, none⟩ = some x ∧
    (((w1.setCell ⟨g, 0, none⟩ x).setCell ⟨g, 1, none⟩ y).setCell ⟨g, 2, none⟩ z).cell? ⟨g, 1, none⟩ = some y ∧
    (((w1.setCell ⟨g, 0, none⟩ x).setCell ⟨g, 1, none⟩ y).setCell ⟨g, 2, none⟩ z).cell? ⟨g, 2, none⟩ = some z := by
  obtain ⟨h0, h1, h2, h3, h4, h5, h6⟩ := h
  refine ⟨?_, ?_, ?_⟩ <;> simp [go_sem, h1, h2, h3]

end Go.Proofs.Ytphniknckmfilaa
