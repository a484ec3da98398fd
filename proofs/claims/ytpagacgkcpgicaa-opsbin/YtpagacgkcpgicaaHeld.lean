/- Values in blocks of a call's own, still there behind whatever it calls. -/
import Derived.Test.YtpagacgkcpgicaaProg
import Derived.Test.YtpagacgkcpgicaaGround
import Derived.Deep.RegionHeld3
namespace Go.Proofs.Ytpagacgkcpgicaa
open Go.RowKit

theorem cell_on {a b : World} (h : Below a.heap.size a b) {g i : Nat} {v : Value} (hg : g < a.heap.size) (hc : a.cell? ⟨g, i, none⟩ = some v) : b.cell? ⟨g, i, none⟩ = some v :=
  (h.cell (p := ⟨g, i, none⟩) hg).trans hc

theorem held_below {A B C : Prop} (h : A ∧ B ∧ C) : B := h.2.1

theorem held1 (w : World) (x y z : Value) (t : TypeId) :
    w.heap.size + 1 ≤ ((w.alloc (Obj.cells #[x, y, z] t)).drew).heap.size ∧ Below w.heap.size w (w.alloc (Obj.cells #[x, y, z] t)).drew ∧
    ((w.alloc (Obj.cells #[x, y, z] t)).drew).cell? ⟨w.heap.size, 0, none⟩ = some x ∧ ((w.alloc (Obj.cells #[x, y, z] t)).drew).cell? ⟨w.heap.size, 1, none⟩ = some y ∧ ((w.alloc (Obj.cells #[x, y, z] t)).drew).cell? ⟨w.heap.size, 2, none⟩ = some z :=
  ⟨by simp, ((Below.refl _ _).alloc (Nat.le_refl _) _).drew, by simp, by simp, by simp⟩

theorem held1_on {w a b : World} {x y z : Value} (h : w.heap.size + 1 ≤ a.heap.size ∧ Below w.heap.size w a ∧
      a.cell? ⟨w.heap.size, 0, none⟩ = some x ∧ a.cell? ⟨w.heap.size, 1, none⟩ = some y ∧ a.cell? ⟨w.heap.size, 2, none⟩ = some z) (k : Below a.heap.size a b) :
    w.heap.size + 1 ≤ b.heap.size ∧ Below w.heap.size w b ∧ b.cell? ⟨w.heap.size, 0, none⟩ = some x ∧ b.cell? ⟨w.heap.size, 1, none⟩ = some y ∧ b.cell? ⟨w.heap.size, 2, none⟩ = some z := by
  obtain ⟨h1, h2, h3, h4, h5⟩ := h
  exact ⟨Nat.le_trans h1 k.size, below_on h2 k, cell_on k (by omega) h3, cell_on k (by omega) h4, cell_on k (by omega) h5⟩

theorem held2 (w : World) (x y z x' y' z' : Value) (t t' : TypeId) :
    w.heap.size + 2 ≤ (((w.alloc (Obj.cells #[x, y, z] t)).alloc (Obj.cells #[x', y', z'] t')).drew).heap.size ∧ Below w.heap.size w ((w.alloc (Obj.cells #[x, y, z] t)).alloc (Obj.cells #[x', y', z'] t')).drew ∧
    (((w.alloc (Obj.cells #[x, y, z] t)).alloc (Obj.cells #[x', y', z'] t')).drew).cell? ⟨w.heap.size, 0, none⟩ = some x ∧ (((w.alloc (Obj.cells #[x, y, z] t)).alloc (Obj.cells #[x', y', z'] t')).drew).cell? ⟨w.heap.size, 1, none⟩ = some y ∧
    (((w.alloc (Obj.cells #[x, y, z] t)).alloc (Obj.cells #[x', y', z'] t')).drew).cell? ⟨w.heap.size, 2, none⟩ = some z ∧ (((w.alloc (Obj.cells #[x, y, z] t)).alloc (Obj.cells #[x', y', z'] t')).drew).cell? ⟨w.heap.size + 1, 0, none⟩ = some x' ∧
    (((w.alloc (Obj.cells #[x, y, z] t)).alloc (Obj.cells #[x', y', z'] t')).drew).cell? ⟨w.heap.size + 1, 1, none⟩ = some y' ∧ (((w.alloc (Obj.cells #[x, y, z] t)).alloc (Obj.cells #[x', y', z'] t')).drew).cell? ⟨w.heap.size + 1, 2, none⟩ = some z' :=
  ⟨by simp, (((Below.refl _ _).alloc (Nat.le_refl _) _).alloc (by simp) _).drew, by simp [World.cell?_alloc_past], by simp [World.cell?_alloc_past], by simp [World.cell?_alloc_past], by simp, by simp, by simp⟩

theorem held2_on {w a b : World} {x y z x' y' z' : Value} (h : w.heap.size + 2 ≤ a.heap.size ∧ Below w.heap.size w a ∧
      a.cell? ⟨w.heap.size, 0, none⟩ = some x ∧ a.cell? ⟨w.heap.size, 1, none⟩ = some y ∧ a.cell? ⟨w.heap.size, 2, none⟩ = some z ∧
      a.cell? ⟨w.heap.size + 1, 0, none⟩ = some x' ∧ a.cell? ⟨w.heap.size + 1, 1, none⟩ = some y' ∧ a.cell? ⟨w.heap.size + 1, 2, none⟩ = some z') (k : Below a.heap.size a b) :
    w.heap.size + 2 ≤ b.heap.size ∧ Below w.heap.size w b ∧ b.cell? ⟨w.heap.size, 0, none⟩ = some x ∧ b.cell? ⟨w.heap.size, 1, none⟩ = some y ∧ b.cell? ⟨w.heap.size, 2, none⟩ = some z ∧
      b.cell? ⟨w.heap.size + 1, 0, none⟩ = some x' ∧ b.cell? ⟨w.heap.size + 1, 1, none⟩ = some y' ∧ b.cell? ⟨w.heap.size + 1, 2, none⟩ = some z' := by
  obtain ⟨h1, h2, h3, h4, h5, h6, h7, h8⟩ := h
  exact ⟨Nat.le_trans h1 k.size, below_on h2 k, cell_on k (by omega) h3, cell_on k (by omega) h4, cell_on k (by omega) h5, cell_on k (by omega) h6, cell_on k (by omega) h7, cell_on k (by omega) h8⟩

theorem held1p (w : World) (x y z : Value) (t : TypeId) :
    w.heap.size + 1 ≤ ((w.alloc (Obj.cells #[x, y, z] t))).heap.size ∧ Below w.heap.size w (w.alloc (Obj.cells #[x, y, z] t)) ∧
    ((w.alloc (Obj.cells #[x, y, z] t))).cell? ⟨w.heap.size, 0, none⟩ = some x ∧ ((w.alloc (Obj.cells #[x, y, z] t))).cell? ⟨w.heap.size, 1, none⟩ = some y ∧ ((w.alloc (Obj.cells #[x, y, z] t))).cell? ⟨w.heap.size, 2, none⟩ = some z :=
  ⟨by simp, ((Below.refl _ _).alloc (Nat.le_refl _) _), by simp, by simp, by simp⟩

theorem held2p (w : World) (x y z x' y' z' : Value) (t t' : TypeId) :
    w.heap.size + 2 ≤ ((w.alloc (Obj.cells #[x, y, z] t)).alloc (Obj.cells #[x', y', z'] t')).heap.size ∧ Below w.heap.size w ((w.alloc (Obj.cells #[x, y, z] t)).alloc (Obj.cells #[x', y', z'] t')) ∧
    ((w.alloc (Obj.cells #[x, y, z] t)).alloc (Obj.cells #[x', y', z'] t')).cell? ⟨w.heap.size, 0, none⟩ = some x ∧ ((w.alloc (Obj.cells #[x, y, z] t)).alloc (Obj.cells #[x', y', z'] t')).cell? ⟨w.heap.size, 1, none⟩ = some y ∧
    ((w.alloc (Obj.cells #[x, y, z] t)).alloc (Obj.cells #[x', y', z'] t')).cell? ⟨w.heap.size, 2, none⟩ = some z ∧ ((w.alloc (Obj.cells #[x, y, z] t)).alloc (Obj.cells #[x', y', z'] t')).cell? ⟨w.heap.size + 1, 0, none⟩ = some x' ∧
    ((w.alloc (Obj.cells #[x, y, z] t)).alloc (Obj.cells #[x', y', z'] t')).cell? ⟨w.heap.size + 1, 1, none⟩ = some y' ∧ ((w.alloc (Obj.cells #[x, y, z] t)).alloc (Obj.cells #[x', y', z'] t')).cell? ⟨w.heap.size + 1, 2, none⟩ = some z' :=
  ⟨by simp, (((Below.refl _ _).alloc (Nat.le_refl _) _).alloc (by simp) _), by simp [World.cell?_alloc_past], by simp [World.cell?_alloc_past], by simp [World.cell?_alloc_past], by simp, by simp, by simp⟩

end Go.Proofs.Ytpagacgkcpgicaa
