/- Values in rows: three cells each. A block of a call's own that its answer, a value, goes into. -/
import Derived.Test.YtimhgbcanmgajaaGreatJoint2
import Derived.Test.YtimhgbcanmgajaaGreatJoint1
import Derived.Test.YtimhgbcanmgajaaGreatProg
namespace Go.Proofs.YtimhgbcanmgajaaGreat
set_option linter.unusedSimpArgs false
open Go.RowKit

def valC (v : Vl) : List Value := [.int .i64 v.1, .int .i64 v.2.1, .string v.2.2]
def namesC (l : List Ent) : List Value := l.map fun e => .string e.1
def valsC (l : List Ent) : List Value := l.flatMap fun e => valC e.2
theorem valsC_len : ∀ l : List Ent, (valsC l).length = l.length * 3
  | [] => rfl
  | e :: r => by
    have := valsC_len r
    show (valC e.2 ++ valsC r).length = _
    rw [List.length_append, this, List.length_cons, show (valC e.2).length = 3 from rfl]
    omega
theorem valsC_append (l m : List Ent) : valsC (l ++ m) = valsC l ++ valsC m := by simp [valsC]
theorem valsC_at : ∀ {l : List Ent} {i j : Nat} {e : Ent}, l[i]? = some e → j < 3 → (valsC l)[i * 3 + j]? = (valC e.2)[j]?
  | [], i, j, e, h, _ => by simp at h
  | x :: r, 0, j, e, h, hj => by
    simp at h
    subst h
    show (valC x.2 ++ valsC r)[0 * 3 + j]? = _
    rw [Nat.zero_mul, Nat.zero_add, List.getElem?_append_left (by simp [valC]; exact hj)]
  | x :: r, i + 1, j, e, h, hj => by
    show (valC x.2 ++ valsC r)[(i + 1) * 3 + j]? = _
    rw [List.getElem?_append_right (by simp [valC]; omega), show (i + 1) * 3 + j - (valC x.2).length = i * 3 + j by simp [valC]; omega]
    exact valsC_at (by simpa using h) hj
theorem valsC_set : ∀ {l : List Ent} {i : Nat} {s : ByteArray} (v : Vl), i < l.length →
    (((valsC l).set (i * 3) (.int .i64 v.1)).set (i * 3 + 1) (.int .i64 v.2.1)).set (i * 3 + 2) (.string v.2.2) = valsC (l.set i (s, v))
  | [], i, s, v, h => by simp at h
  | x :: r, 0, s, v, _ => rfl
  | x :: r, i + 1, s, v, h => by
    have ih := valsC_set (l := r) (i := i) (s := s) v (by simpa using h)
    show (((valC x.2 ++ valsC r).set ((i + 1) * 3) (.int .i64 v.1)).set ((i + 1) * 3 + 1) (.int .i64 v.2.1)).set ((i + 1) * 3 + 2) (.string v.2.2) = valC x.2 ++ valsC (r.set i (s, v))
    rw [← ih, show (i + 1) * 3 = i * 3 + 1 + 1 + 1 by omega, show i * 3 + 1 + 1 + 1 + 1 = (i * 3 + 1) + 1 + 1 + 1 by omega]
    rfl
theorem valC_one (v : Vl) : ∀ u ∈ valC v, u.oneCell' = true := by
  intro u hu
  simp [valC] at hu
  rcases hu with rfl | rfl | rfl <;> rfl


end Go.Proofs.YtimhgbcanmgajaaGreat

namespace Go.Proofs.YtimhgbcanmgajaaGreat
open Go.RowKit

theorem ret_v {fn : Func} {t : Tmp} (h : fn.results = #[.cell t 37]) {tmps : Array Value} {g : Nat} {w : World} {x y z : Value} (ht : tmps.getD t undef = .pointer (some ⟨g, 0, none⟩))
    (c : w.cell? ⟨g, 0, none⟩ = some x ∧ w.cell? ⟨g, 1, none⟩ = some y ∧ w.cell? ⟨g, 2, none⟩ = some z) :
    (results fn tmps).run Tryz.prog w = .ok (.agg #[x, y, z]) w := by
  rw [Array.getD_eq_getD_getElem?] at ht
  simp [results, h, ht, go_sem, asAddr, c.1, c.2.1, c.2.2]

theorem ret_ve {fn : Func} {t u : Tmp} (h : fn.results = #[.cell t 37, .tmp u]) {tmps : Array Value} {g : Nat} {w : World} {x y z : Value} (ht : tmps.getD t undef = .pointer (some ⟨g, 0, none⟩))
    (c : w.cell? ⟨g, 0, none⟩ = some x ∧ w.cell? ⟨g, 1, none⟩ = some y ∧ w.cell? ⟨g, 2, none⟩ = some z) :
    (results fn tmps).run Tryz.prog w = .ok (.tuple #[.agg #[x, y, z], tmps.getD u undef]) w := by
  rw [Array.getD_eq_getD_getElem?] at ht
  simp [results, h, ht, go_sem, asAddr, c.1, c.2.1, c.2.2]

/-- a fresh value stands at block g, and may be written -/
def Slot (g : Nat) (w : World) : Prop :=
  g < w.heap.size ∧ w.cell? ⟨g, 0, none⟩ = some (.int .i64 0) ∧ w.cell? ⟨g, 1, none⟩ = some (.int .i64 0) ∧ w.cell? ⟨g, 2, none⟩ = some (.string ⟨#[]⟩) ∧
    w.frozen? ⟨g, 0, none⟩ = false ∧ w.frozen? ⟨g, 1, none⟩ = false ∧ w.frozen? ⟨g, 2, none⟩ = false

theorem slot_on {g : Nat} {a b : World} (h : Slot g a) (k : Below a.heap.size a b) : Slot g b := by
  obtain ⟨h0, h1, h2, h3, h4, h5, h6⟩ := h
  exact ⟨Nat.lt_of_lt_of_le h0 k.size, (k.cell (p := ⟨g, 0, none⟩) h0).trans h1, (k.cell (p := ⟨g, 1, none⟩) h0).trans h2, (k.cell (p := ⟨g, 2, none⟩) h0).trans h3, (k.frozen (p := ⟨g, 0, none⟩) h0).trans h4, (k.frozen (p := ⟨g, 1, none⟩) h0).trans h5, (k.frozen (p := ⟨g, 2, none⟩) h0).trans h6⟩

theorem slot_new (w : World) {g : Nat} (hg : g = w.heap.size) (t : TypeId) : Slot g (w.alloc (Obj.cells #[.int .i64 0, .int .i64 0, .string ⟨#[]⟩] t)) := by
  subst hg
  refine ⟨by simp, by simp, by simp, by simp, by simp, by simp, by simp⟩

theorem put3 {B g : Nat} {w w1 : World} (h : Below B w w1) (hg : B ≤ g) (x y z : Value) :
    Below B w (((w1.setCell ⟨g, 0, none⟩ x).setCell ⟨g, 1, none⟩ y).setCell ⟨g, 2, none⟩ z) :=
  ((h.setCell hg _).setCell hg _).setCell hg _

theorem put3_cells {g : Nat} {w1 : World} (h : Slot g w1) (x y z : Value) :
    (((w1.setCell ⟨g, 0, none⟩ x).setCell ⟨g, 1, none⟩ y).setCell ⟨g, 2, none⟩ z).cell? ⟨g, 0, none⟩ = some x ∧
    (((w1.setCell ⟨g, 0, none⟩ x).setCell ⟨g, 1, none⟩ y).setCell ⟨g, 2, none⟩ z).cell? ⟨g, 1, none⟩ = some y ∧
    (((w1.setCell ⟨g, 0, none⟩ x).setCell ⟨g, 1, none⟩ y).setCell ⟨g, 2, none⟩ z).cell? ⟨g, 2, none⟩ = some z := by
  obtain ⟨h0, h1, h2, h3, h4, h5, h6⟩ := h
  refine ⟨?_, ?_, ?_⟩ <;> simp [go_sem, h1, h2, h3]

end Go.Proofs.YtimhgbcanmgajaaGreat
