/- Nodes in memory. How high a tree is. How many nodes a tree has. -/
import Derived.Test.YtgdbaceehpcgbaaDoorProg
import Derived.Test.YtgdbaceehpcgbaaDoorJoint2
import Derived.Lib.Strings
import Derived.Lib.Builder
namespace Go.Proofs.YtgdbaceehpcgbaaDoor
open Go.RowKit

/-- texts in a row of cells -/
def StrsAt (b off : Nat) (l : List ByteArray) (w : World) : Prop := ∀ (i : Nat) (h : i < l.length), w.cell? ⟨b, off + i, none⟩ = some (.string l[i])
/-- a slice of texts, in a block below B -/
def StrsIn (B : Nat) (v : Value) (l : List ByteArray) (w : World) : Prop :=
  (∃ ao cap, v = .slice ao 0 cap ∧ l = []) ∨ ∃ b off cap, v = .slice (some ⟨b, off, none⟩) l.length cap ∧ b < B ∧ StrsAt b off l w ∧ l.length ≤ cap
/-- the seven cells of a node -/
def NodeAt (b o : Nat) (k op n : Int) (s : ByteArray) (nv kv : Value) (p : Int) (w : World) : Prop :=
  w.cell? ⟨b, o, none⟩ = some (.int .i64 k) ∧ w.cell? ⟨b, o + 1, none⟩ = some (.int .i64 op) ∧ w.cell? ⟨b, o + 2, none⟩ = some (.int .i64 n) ∧ w.cell? ⟨b, o + 3, none⟩ = some (.string s) ∧
    w.cell? ⟨b, o + 4, none⟩ = some nv ∧ w.cell? ⟨b, o + 5, none⟩ = some kv ∧ w.cell? ⟨b, o + 6, none⟩ = some (.int .i64 p)

mutual
/-- a node whose names and kids are nv and kv: all that they lead to lies in blocks below B -/
def NdIn (B : Nat) (w : World) : Nd → Value → Value → Prop
  | .mk _ _ _ _ ns ks _, nv, kv => StrsIn B nv ns w ∧ ((∃ ao cap, kv = .slice ao 0 cap ∧ ks = []) ∨ ∃ b off cap, kv = .slice (some ⟨b, off, none⟩) ks.length cap ∧ b < B ∧ NdsAt B w b ks off ∧ ks.length ≤ cap)
/-- nodes in a row of cells -/
def NdsAt (B : Nat) (w : World) (b : Nat) : List Nd → Nat → Prop
  | [], _ => True
  | .mk k op n s ns ks p :: r, off => (∃ nv kv, NodeAt b off k op n s nv kv p w ∧ NdIn B w (.mk k op n s ns ks p) nv kv) ∧ NdsAt B w b r (off + 7)
end

/-- a slice of nodes -/
def KidsIn (B : Nat) (w : World) (kv : Value) (ks : List Nd) : Prop :=
  (∃ ao cap, kv = .slice ao 0 cap ∧ ks = []) ∨ ∃ b off cap, kv = .slice (some ⟨b, off, none⟩) ks.length cap ∧ b < B ∧ NdsAt B w b ks off ∧ ks.length ≤ cap

theorem ndIn_mk {B : Nat} {w : World} {k o n : Int} {s : ByteArray} {ns : List ByteArray} {ks : List Nd} {p : Int} {nv kv : Value} : NdIn B w (.mk k o n s ns ks p) nv kv ↔ StrsIn B nv ns w ∧ KidsIn B w kv ks := by
  rw [NdIn]; rfl

theorem cell_keep {B : Nat} {a c : World} (k : Below B a c) {g i : Nat} {v : Value} (hg : g < B) (hc : a.cell? ⟨g, i, none⟩ = some v) : c.cell? ⟨g, i, none⟩ = some v :=
  (k.cell (p := ⟨g, i, none⟩) hg).trans hc

theorem strsIn_on {B : Nat} {v : Value} {l : List ByteArray} {a c : World} (h : StrsIn B v l a) (k : Below B a c) : StrsIn B v l c := by
  rcases h with h | ⟨b, off, cap, h1, h2, h3, h4⟩
  · exact .inl h
  · exact .inr ⟨b, off, cap, h1, h2, fun i hi => cell_keep k h2 (h3 i hi), h4⟩
theorem nodeAt_on {B b o : Nat} {k op n : Int} {s : ByteArray} {nv kv : Value} {p : Int} {a c : World} (h : NodeAt b o k op n s nv kv p a) (hb : b < B) (q : Below B a c) : NodeAt b o k op n s nv kv p c := by
  obtain ⟨h0, h1, h2, h3, h4, h5, h6⟩ := h
  exact ⟨cell_keep q hb h0, cell_keep q hb h1, cell_keep q hb h2, cell_keep q hb h3, cell_keep q hb h4, cell_keep q hb h5, cell_keep q hb h6⟩

mutual
theorem ndIn_on {B : Nat} {a c : World} (q : Below B a c) : ∀ (t : Nd) (nv kv : Value), NdIn B a t nv kv → NdIn B c t nv kv
  | .mk _ _ _ _ ns ks _, nv, kv, h => by
    rw [NdIn] at h ⊢
    obtain ⟨h1, h2⟩ := h
    refine ⟨strsIn_on h1 q, ?_⟩
    rcases h2 with h2 | ⟨b, off, cap, e, hb, h3, h4⟩
    · exact .inl h2
    · exact .inr ⟨b, off, cap, e, hb, ndsAt_on q hb ks off h3, h4⟩
theorem ndsAt_on {B : Nat} {a c : World} (q : Below B a c) {b : Nat} (hb : b < B) : ∀ (ks : List Nd) (off : Nat), NdsAt B a b ks off → NdsAt B c b ks off
  | [], _, _ => by rw [NdsAt]; trivial
  | .mk k op n s ns ks p :: r, off, h => by
    rw [NdsAt] at h ⊢
    obtain ⟨⟨nv, kv, h1, h2⟩, h3⟩ := h
    exact ⟨⟨nv, kv, nodeAt_on h1 hb q, ndIn_on q _ _ _ h2⟩, ndsAt_on q hb r _ h3⟩
end
theorem kidsIn_on {B : Nat} {a c : World} (q : Below B a c) {kv : Value} {ks : List Nd} (h : KidsIn B a kv ks) : KidsIn B c kv ks := by
  rcases h with h2 | ⟨b, off, cap, e, hb, h3, h4⟩
  · exact .inl h2
  · exact .inr ⟨b, off, cap, e, hb, ndsAt_on q hb ks off h3, h4⟩

/-- one of some nodes in a row -/
theorem ndsAt_get {B : Nat} {w : World} {b : Nat} : ∀ {ks : List Nd} {off : Nat}, NdsAt B w b ks off → ∀ (i : Nat) (h : i < ks.length),
    ∃ nv kv, NodeAt b (off + i * 7) ks[i].kind ks[i].op ks[i].num ks[i].str nv kv ks[i].pl w ∧ NdIn B w ks[i] nv kv
  | .mk k op n s ns ks p :: r, off, h, 0, hi => by
    rw [NdsAt] at h
    obtain ⟨⟨nv, kv, h1, h2⟩, _⟩ := h
    exact ⟨nv, kv, by simpa [Nd.kind, Nd.op, Nd.num, Nd.str, Nd.pl] using h1, h2⟩
  | .mk k op n s ns ks p :: r, off, h, i + 1, hi => by
    rw [NdsAt] at h
    obtain ⟨nv, kv, h1, h2⟩ := ndsAt_get h.2 i (by simpa using hi)
    refine ⟨nv, kv, ?_, by simpa using h2⟩
    have e : off + (i + 1) * 7 = off + 7 + i * 7 := by omega
    rw [e]
    simpa using h1

theorem kidsIn_cases {B : Nat} {w : World} {kv : Value} {ks : List Nd} (h : KidsIn B w kv ks) :
    ∃ ao cap, kv = .slice ao ks.length cap ∧ (ks = [] ∨ ∃ b off, ao = some ⟨b, off, none⟩ ∧ b < B ∧ NdsAt B w b ks off) := by
  rcases h with ⟨ao, cap, e1, e2⟩ | ⟨b, off, cap, e, hb, h3, _⟩
  · subst e2; exact ⟨ao, cap, e1, .inl rfl⟩
  · exact ⟨_, cap, e, .inr ⟨b, off, rfl, hb, h3⟩⟩
theorem strsIn_cases {B : Nat} {w : World} {v : Value} {l : List ByteArray} (h : StrsIn B v l w) :
    ∃ ao cap, v = .slice ao l.length cap ∧ (l = [] ∨ ∃ b off, ao = some ⟨b, off, none⟩ ∧ b < B ∧ StrsAt b off l w) := by
  rcases h with ⟨ao, cap, e1, e2⟩ | ⟨b, off, cap, e, hb, h3, _⟩
  · subst e2; exact ⟨ao, cap, e1, .inl rfl⟩
  · exact ⟨_, cap, e, .inr ⟨b, off, rfl, hb, h3⟩⟩

theorem strsIn_cap {B : Nat} {w : World} {a : Option Addr} {c q : Nat} {l : List ByteArray} (h : StrsIn B (.slice a c q) l w) : l = [] ∨ c ≤ q := by
  rcases h with ⟨_, _, _, h⟩ | ⟨b, off, cap, e, _, _, h4⟩
  · exact .inl h
  · injection e with _ e2 e3
    exact .inr (by omega)
theorem kidsIn_cap {B : Nat} {w : World} {a : Option Addr} {c q : Nat} {l : List Nd} (h : KidsIn B w (.slice a c q) l) : l = [] ∨ c ≤ q := by
  rcases h with ⟨_, _, _, h⟩ | ⟨b, off, cap, e, _, _, h4⟩
  · exact .inl h
  · injection e with _ e2 e3
    exact .inr (by omega)

/-- what lies in a node's two slices -/
theorem ndIn_shape {B : Nat} {w : World} {t : Nd} {nv kv : Value} (h : NdIn B w t nv kv) : ∃ a1 c1 a2 c2, nv = .slice a1 t.names.length c1 ∧ kv = .slice a2 t.kids.length c2 := by
  obtain ⟨k, o, n, s, ns, ks, p⟩ := t
  obtain ⟨h1, h2⟩ := ndIn_mk.1 h
  obtain ⟨a1, c1, e1, _⟩ := strsIn_cases h1
  obtain ⟨a2, c2, e2, _⟩ := kidsIn_cases h2
  exact ⟨a1, c1, a2, c2, e1, e2⟩

/-- a block of a call's own that holds a node -/
def Box (g : Nat) (k o n : Int) (s : ByteArray) (nv kv : Value) (p : Int) (w : World) : Prop :=
  w.heap[g]? = some (.cells #[.int .i64 k, .int .i64 o, .int .i64 n, .string s, nv, kv, .int .i64 p] 47 (0, 0))
theorem box_lt {g : Nat} {k o n : Int} {s : ByteArray} {nv kv : Value} {p : Int} {w : World} (h : Box g k o n s nv kv p w) : g < w.heap.size := by
  rcases Nat.lt_or_ge g w.heap.size with h' | h'
  · exact h'
  · simp [Box, Array.getElem?_eq_none h'] at h
theorem box_new (w : World) (k o n : Int) (s : ByteArray) (nv kv : Value) (p : Int) : Box w.heap.size k o n s nv kv p (w.alloc (.cells #[.int .i64 k, .int .i64 o, .int .i64 n, .string s, nv, kv, .int .i64 p] 47)) :=
  heap_alloc_new w _
theorem box_on {g : Nat} {k o n : Int} {s : ByteArray} {nv kv : Value} {p : Int} {a c : World} (h : Box g k o n s nv kv p a) (q : Below a.heap.size a c) : Box g k o n s nv kv p c :=
  (q.block g (box_lt h)).trans h
theorem box_cells {g : Nat} {k o n : Int} {s : ByteArray} {nv kv : Value} {p : Int} {w : World} (h : Box g k o n s nv kv p w) :
    w.cell? ⟨g, 0, none⟩ = some (.int .i64 k) ∧ w.cell? ⟨g, 1, none⟩ = some (.int .i64 o) ∧ w.cell? ⟨g, 2, none⟩ = some (.int .i64 n) ∧ w.cell? ⟨g, 3, none⟩ = some (.string s) ∧
      w.cell? ⟨g, 4, none⟩ = some nv ∧ w.cell? ⟨g, 5, none⟩ = some kv ∧ w.cell? ⟨g, 6, none⟩ = some (.int .i64 p) := by
  refine ⟨?_, ?_, ?_, ?_, ?_, ?_, ?_⟩ <;> (rw [Lib.cell_of_heap h]; rfl)

theorem box1_below (w : World) (x : Obj) : Below w.heap.size w (w.alloc x) := (Below.refl _ _).alloc (Nat.le_refl _) _
theorem box2_below (w : World) (x y : Obj) : Below w.heap.size w ((w.alloc x).alloc y) := ((Below.refl _ _).alloc (Nat.le_refl _) _).alloc (by simp) _
theorem boxes2 (w : World) (k o n : Int) (s : ByteArray) (nv kv : Value) (p k' o' n' : Int) (s' : ByteArray) (nv' kv' : Value) (p' : Int) :
    Box w.heap.size k o n s nv kv p ((w.alloc (.cells #[.int .i64 k, .int .i64 o, .int .i64 n, .string s, nv, kv, .int .i64 p] 47)).alloc (.cells #[.int .i64 k', .int .i64 o', .int .i64 n', .string s', nv', kv', .int .i64 p'] 47)) ∧
    Box (w.heap.size + 1) k' o' n' s' nv' kv' p' ((w.alloc (.cells #[.int .i64 k, .int .i64 o, .int .i64 n, .string s, nv, kv, .int .i64 p] 47)).alloc (.cells #[.int .i64 k', .int .i64 o', .int .i64 n', .string s', nv', kv', .int .i64 p'] 47)) := by
  refine ⟨box_on (box_new w k o n s nv kv p) ((Below.refl _ _).alloc (Nat.le_refl _) _), ?_⟩
  have := box_new (w.alloc (.cells #[.int .i64 k, .int .i64 o, .int .i64 n, .string s, nv, kv, .int .i64 p] 47)) k' o' n' s' nv' kv' p'
  simpa using this

end Go.Proofs.YtgdbaceehpcgbaaDoor

namespace Go.Proofs.YtgdbaceehpcgbaaDoor
open Go.RowKit

theorem take_one {α : Type} (l : List α) (i : Nat) (h : i < l.length) : l.take (i + 1) = l.take i ++ [l[i]] := by
  rw [List.take_succ_eq_append_getElem h]

end Go.Proofs.YtgdbaceehpcgbaaDoor

namespace Go.Proofs.YtgdbaceehpcgbaaDoor
open Go.RowKit

end Go.Proofs.YtgdbaceehpcgbaaDoor
