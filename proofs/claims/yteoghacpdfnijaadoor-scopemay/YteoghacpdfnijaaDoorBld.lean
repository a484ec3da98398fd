/- strings.Builder, at the head of whatever block of the call's own: by itself, or embedded first in a struct. -/
import Derived.Test.YteoghacpdfnijaaDoorProg
import Derived.Test.YteoghacpdfnijaaDoorGround
import Derived.WalkKit
import Derived.WalkLawsBesides
import Derived.WalkSpells
import Derived.Outline
import Derived.Below
import Derived.Lib.Strings
import Derived.Lib.Builder
import Derived.Lib.AppendStr
import Derived.Lib.UnsafeStr
import Derived.Laws.Externs
namespace Go.Proofs.YteoghacpdfnijaaDoor
open Go.RowKit

/-- a builder at the head of block b (one of the call's own: from B on), of type T, that holds the bytes l; ext: what lies behind it in the block -/
structure Bld (T : TypeId) (ext : List Value) (B b : Nat) (p v : Value) (l : List UInt8) (w : World) : Prop where
  low : B ≤ b
  seen : p = .pointer none ∨ p = .pointer (some ⟨b, 0, none⟩)
  blk : w.heap[b]? = some (.cells (p :: v :: ext).toArray T (0, 0))
  own : w.ownsRow B 5 1 v l.length (Lib.byteCells l)
  ne : v.ownBlock ≠ some b
  nil : l = [] → v = .slice none 0 0

def Has (T : TypeId) (ext : List Value) (B b : Nat) (l : List UInt8) (w : World) : Prop := ∃ p v, Bld T ext B b p v l w

theorem Has.lt {T : TypeId} {ext : List Value} {B b : Nat} {l : List UInt8} {w : World} (h : Has T ext B b l w) : b < w.heap.size := by
  obtain ⟨p, v, h⟩ := h
  rcases Nat.lt_or_ge b w.heap.size with h' | h'
  · exact h'
  · have := h.blk
    simp [Array.getElem?_eq_none h'] at this

theorem Has.cell {T : TypeId} {ext : List Value} {B b : Nat} {l : List UInt8} {w : World} (h : Has T ext B b l w) {j : Nat} {x : Value} (hj : ext[j]? = some x) : w.cell? ⟨b, j + 2, none⟩ = some x := by
  obtain ⟨p, v, h⟩ := h
  rw [Lib.cell_of_heap h.blk]
  simpa using hj

theorem Has.free {T : TypeId} {ext : List Value} {B b : Nat} {l : List UInt8} {w : World} (h : Has T ext B b l w) (j : Nat) : w.frozen? ⟨b, j, none⟩ = false := by
  obtain ⟨p, v, h⟩ := h
  exact Lib.frozen_of_heap h.blk j

/-- another cell of the block is written -/
theorem Has.put {T : TypeId} {ext : List Value} {B b : Nat} {l : List UInt8} {w : World} (h : Has T ext B b l w) (j : Nat) (x : Value) : Has T (ext.set j x) B b l (w.setCell ⟨b, j + 2, none⟩ x) := by
  obtain ⟨p, v, h⟩ := h
  refine ⟨p, v, h.low, h.seen, ?_, ?_, h.ne, h.nil⟩
  · simp [World.setCell, Array.getElem?_modify, h.blk]
  · exact h.own.kept (row := some b) ⟨rfl, rfl, rfl, by simp [World.setCell], fun k _ hk => Below.heap_setCell _ _ _ _ (fun e => hk (by simp [e]))⟩ (Or.inr h.ne)

theorem Has.drew {T : TypeId} {ext : List Value} {B b : Nat} {l : List UInt8} {w : World} (h : Has T ext B b l w) : Has T ext B b l w.drew := by
  obtain ⟨p, v, h⟩ := h
  exact ⟨p, v, h.low, h.seen, h.blk, h.own, h.ne, h.nil⟩

/-- a new builder -/
theorem has_new (T : TypeId) (ext : List Value) (w : World) (cs : Array Value) (hc : cs = (.pointer none :: .slice none 0 0 :: ext).toArray) : Has T ext w.heap.size w.heap.size [] (w.alloc (.cells cs T)) := by
  subst hc
  exact ⟨.pointer none, .slice none 0 0, Nat.le_refl _, Or.inl rfl, heap_alloc_new w _, World.ownsRow_nil _ _ _ _, by simp [Value.ownBlock], fun _ => rfl⟩

/-- a block that holds no bytes -/
def NoBytes (w : World) (k : Nat) : Prop := ∀ cur fz, w.heap[k]? ≠ some (.cells cur 5 fz)
/-- old memory, and of what is newer all but the builder's own block and blocks of bytes, is as it was -/
structure Near (B b : Nat) (w w' : World) : Prop where
  below : Below B w w'
  rest : ∀ k, k < w.heap.size → k ≠ b → NoBytes w k → w'.heap[k]? = w.heap[k]?
theorem Near.refl (B b : Nat) (w : World) : Near B b w w := ⟨Below.refl _ _, fun _ _ _ _ => rfl⟩
theorem Near.trans {B b : Nat} {x y z : World} (h : Near B b x y) (k : Near B b y z) : Near B b x z :=
  ⟨h.below.trans k.below, fun i hi hb hn => (k.rest i (Nat.lt_of_lt_of_le hi h.below.size) hb (fun c f => by rw [h.rest i hi hb hn]; exact hn c f)).trans (h.rest i hi hb hn)⟩
theorem Near.ofBelow {B b : Nat} {x y : World} (h : Below x.heap.size x y) (hB : B ≤ x.heap.size) : Near B b x y := ⟨h.mono hB, fun k hk _ _ => h.block k hk⟩
theorem Near.setOwn {B b : Nat} (w : World) (h : B ≤ b) (j : Nat) (x : Value) : Near B b w (w.setCell ⟨b, j, none⟩ x) :=
  ⟨(Below.refl B w).setCell (p := ⟨b, j, none⟩) h _, fun _ _ hb _ => Below.heap_setCell _ _ _ _ hb⟩
theorem near_grown {B b : Nat} {w w' : World} {v : Value} {n : Nat} {xs : List Value} (hown : w.ownsRow B 5 1 v n xs) (hg : w.grownBy w' v.ownBlock) (hB : B ≤ w.heap.size) : Near B b w w' := by
  refine ⟨(Below.refl B w).grown hg hB (fun k hk => (hown.lt k hk).1), fun k hk _ hn => hg.block k hk ?_⟩
  intro e
  rcases hown.2 with ⟨hv, _⟩ | ⟨g, cap, cur, hv, _, hh, _⟩
  · subst hv; simp [Value.ownBlock] at e
  · subst hv
    have : k = g := by simpa [Value.ownBlock] using e
    subst this
    exact hn _ _ hh

theorem under_unsafe : Tryd.prog.underlying 122 = some .unsafePointer := by kernel_rfl

theorem info8 : ∃ i0, Tryd.prog.info? 5 = some i0 ∧ i0.zero = some (.int .u8 0) ∧ i0.size = 1 ∧ i0.bytes = 1 :=
  info_parts (show (Tryd.prog.info? 5).map (fun i => (i.zero, i.size, i.bytes)) = some (some (.int .u8 0), 1, 1) by kernel_rfl)
theorem under_str : Tryd.prog.underlying 9 = some .string := by kernel_rfl

/-- the new buffer lies in its cell -/
theorem bld_put {T : TypeId} {ext : List Value} {B b : Nat} {p v v' : Value} {l : List UInt8} {w : World} (hB : B ≤ b) (hs : p = .pointer none ∨ p = .pointer (some ⟨b, 0, none⟩)) (hb : w.heap[b]? = some (.cells (p :: v :: ext).toArray T (0, 0)))
    (hown : w.ownsRow B 5 1 v' l.length (Lib.byteCells l)) (hT : T ≠ 5) (hl : l ≠ []) : Has T ext B b l (w.setCell ⟨b, 1, none⟩ v') := by
  have hne := Lib.ownBlock_ne hown hb hT
  refine ⟨p, v', hB, hs, ?_, ?_, hne, fun h => absurd h hl⟩
  · simp [World.setCell, Array.getElem?_modify, hb]
  · exact hown.kept (row := some b) ⟨rfl, rfl, rfl, by simp [World.setCell], fun k _ hk => Below.heap_setCell _ _ _ _ (fun e => hk (by simp [e]))⟩ (Or.inr hne)

theorem lt_of_block {w : World} {b : Nat} {o : Obj} (h : w.heap[b]? = some o) : b < w.heap.size := by
  rcases Nat.lt_or_ge b w.heap.size with h' | h'
  · exact h'
  · simp [Array.getElem?_eq_none h'] at h

end Go.Proofs.YteoghacpdfnijaaDoor
