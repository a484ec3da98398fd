/- A value, an act in a block; it stays there. -/
import Derived.Test.YtemidicgipebjaaGreatHpActs
import Derived.Test.YtemidicgipebjaaGreatHpSetP
import Derived.Test.YtemidicgipebjaaGreatRowApp
namespace Go.Proofs.YtemidicgipebjaaGreat
set_option linter.unusedSimpArgs false
set_option maxRecDepth 100000
open Go.RowKit

/-- a value stands at block g, and may be written -/
def Was (g : Nat) (z : Vl) (w : World) : Prop :=
  g < w.heap.size ∧ w.cell? ⟨g, 0, none⟩ = some (.int .i64 z.1) ∧ w.cell? ⟨g, 1, none⟩ = some (.int .i64 z.2.1) ∧ w.cell? ⟨g, 2, none⟩ = some (.string z.2.2) ∧
    w.frozen? ⟨g, 0, none⟩ = false ∧ w.frozen? ⟨g, 1, none⟩ = false ∧ w.frozen? ⟨g, 2, none⟩ = false
theorem was_on {g : Nat} {z : Vl} {a b : World} (h : Was g z a) (k : Below a.heap.size a b) : Was g z b := by
  obtain ⟨h0, h1, h2, h3, h4, h5, h6⟩ := h
  exact ⟨Nat.lt_of_lt_of_le h0 k.size, (k.cell (p := ⟨g, 0, none⟩) h0).trans h1, (k.cell (p := ⟨g, 1, none⟩) h0).trans h2, (k.cell (p := ⟨g, 2, none⟩) h0).trans h3, (k.frozen (p := ⟨g, 0, none⟩) h0).trans h4, (k.frozen (p := ⟨g, 1, none⟩) h0).trans h5, (k.frozen (p := ⟨g, 2, none⟩) h0).trans h6⟩
theorem was_keep {S : Nat → Prop} {g : Nat} {z : Vl} {a b : World} (h : Was g z a) (k : Keep S a b) (hs : ¬ S g) : Was g z b := by
  obtain ⟨h0, h1, h2, h3, h4, h5, h6⟩ := h
  have e := k.block g h0 hs
  have ef : ∀ i, b.frozen? ⟨g, i, none⟩ = a.frozen? ⟨g, i, none⟩ := fun i => World.frozen?_of_block (w := a) e
  exact ⟨Nat.lt_of_lt_of_le h0 k.size, cell_keep h1 h0 k hs, cell_keep h2 h0 k hs, cell_keep h3 h0 k hs, (ef 0).trans h4, (ef 1).trans h5, (ef 2).trans h6⟩
theorem was_new (w : World) {g : Nat} (hg : g = w.heap.size) (t : TypeId) (z : Vl) : Was g z (w.alloc (Obj.cells #[.int .i64 z.1, .int .i64 z.2.1, .string z.2.2] t)) := by
  subst hg
  refine ⟨by simp, by simp, by simp, by simp, by simp, by simp, by simp⟩
theorem was_put {g : Nat} {z : Vl} {w : World} (h : Was g z w) (u : Vl) : Was g u (((w.setCell ⟨g, 0, none⟩ (.int .i64 u.1)).setCell ⟨g, 1, none⟩ (.int .i64 u.2.1)).setCell ⟨g, 2, none⟩ (.string u.2.2)) := by
  obtain ⟨h0, h1, h2, h3, h4, h5, h6⟩ := h
  refine ⟨by simpa using h0, ?_, ?_, ?_, ?_, ?_, ?_⟩ <;> simp [go_sem, h1, h2, h3, h4, h5, h6]
/-- an act's cells, all of them -/
def BoxF (g : Nat) (a : AcH) (w : World) : Prop := g < w.heap.size ∧ w.cell? ⟨g, 0, none⟩ = some (.int .i64 a.1) ∧ w.cell? ⟨g, 1, none⟩ = some (.int .i64 a.2.1) ∧ w.cell? ⟨g, 2, none⟩ = some (.int .i64 a.2.2.1) ∧ w.cell? ⟨g, 3, none⟩ = some (.string a.2.2.2.1) ∧ w.cell? ⟨g, 4, none⟩ = some (.int .i64 a.2.2.2.2.1) ∧ w.cell? ⟨g, 5, none⟩ = some (.int .i64 a.2.2.2.2.2.1) ∧ w.cell? ⟨g, 6, none⟩ = some (.string a.2.2.2.2.2.2)
theorem boxF_on {B g : Nat} {a : AcH} {x y : World} (h : BoxF g a x) (k : Below B x y) (hg : g < B) : BoxF g a y := by
  obtain ⟨h0, h1, h2, h3, h4, h5, h6, h7⟩ := h
  have c := fun i => k.cell (p := ⟨g, i, none⟩) hg
  exact ⟨Nat.lt_of_lt_of_le h0 k.size, (c 0).trans h1, (c 1).trans h2, (c 2).trans h3, (c 3).trans h4, (c 4).trans h5, (c 5).trans h6, (c 6).trans h7⟩
theorem boxF_keep {S : Nat → Prop} {g : Nat} {a : AcH} {x y : World} (h : BoxF g a x) (k : Keep S x y) (hs : ¬ S g) : BoxF g a y := by
  obtain ⟨h0, h1, h2, h3, h4, h5, h6, h7⟩ := h
  exact ⟨Nat.lt_of_lt_of_le h0 k.size, cell_keep h1 h0 k hs, cell_keep h2 h0 k hs, cell_keep h3 h0 k hs, cell_keep h4 h0 k hs, cell_keep h5 h0 k hs, cell_keep h6 h0 k hs, cell_keep h7 h0 k hs⟩
theorem boxF_new (w : World) {g : Nat} (hg : g = w.heap.size) (a : AcH) : BoxF g a (w.alloc (acHO a)) := by
  subst hg
  refine ⟨by simp, by simp, by simp, by simp, by simp, by simp, by simp, by simp⟩
theorem bytes_inj {s t : ByteArray} (h : s.toList = t.toList) : s = t := ByteArray.ext (Array.toList_inj.1 (by rw [← Lib.toList_data, ← Lib.toList_data]; exact h))
theorem elStS : Elem 62 9 1 16 := elem_of (z0 := .string ⟨#[]⟩) (by kernel_rfl) (by kernel_rfl) (by kernel_rfl)
theorem count_le {K : Nat} {H : He} (W : WfH K H) (o : Int) : countH H o ≤ 32 := by
  unfold countH
  cases hg : getO H o with
  | none => simp
  | some x => exact (W.at' hg).few

end Go.Proofs.YtemidicgipebjaaGreat
