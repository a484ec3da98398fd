/- Whether two trees are alike, as the document asks it. Units, and the document's word on whether two are alike. -/
import Derived.Test.YtgdbaceehpcgbaaDoorJoint4
import Derived.Test.YtgdbaceehpcgbaaDoorJoint5
import Derived.Deep.RegionHeld3
import Derived.Test.YtgdbaceehpcgbaaDoorJoint7
namespace Go.Proofs.YtgdbaceehpcgbaaDoor
open Go.RowKit

theorem pairs_on {w a c : World} {b off b' off' : Nat} {k o n : Int} {s : ByteArray} {nv kv : Value} {p k' o' n' : Int} {s' : ByteArray} {nv' kv' : Value} {p' : Int} {x0 x1 x2 x6 y0 y1 y2 y6 : Int} {x3 y3 : ByteArray} {xn xk yn yk : Value}
    (h : (Below w.heap.size w a ∧ b < a.heap.size ∧ b' < a.heap.size ∧ Box w.heap.size k o n s nv kv p a ∧ Box (w.heap.size + 1) k' o' n' s' nv' kv' p' a) ∧ a.cell? ⟨w.heap.size, 5, none⟩ = some kv ∧ a.cell? ⟨w.heap.size + 1, 5, none⟩ = some kv' ∧ a.cell? ⟨b, off, none⟩ = some (.int .i64 x0) ∧ a.cell? ⟨b, off + 1, none⟩ = some (.int .i64 x1) ∧ a.cell? ⟨b, off + 2, none⟩ = some (.int .i64 x2) ∧ a.cell? ⟨b, off + 3, none⟩ = some (.string x3) ∧ a.cell? ⟨b, off + 4, none⟩ = some xn ∧ a.cell? ⟨b, off + 5, none⟩ = some xk ∧ a.cell? ⟨b, off + 6, none⟩ = some (.int .i64 x6) ∧ a.cell? ⟨b', off', none⟩ = some (.int .i64 y0) ∧ a.cell? ⟨b', off' + 1, none⟩ = some (.int .i64 y1) ∧ a.cell? ⟨b', off' + 2, none⟩ = some (.int .i64 y2) ∧ a.cell? ⟨b', off' + 3, none⟩ = some (.string y3) ∧ a.cell? ⟨b', off' + 4, none⟩ = some yn ∧ a.cell? ⟨b', off' + 5, none⟩ = some yk ∧ a.cell? ⟨b', off' + 6, none⟩ = some (.int .i64 y6)) (q : Below a.heap.size a c) :
    (Below w.heap.size w c ∧ b < c.heap.size ∧ b' < c.heap.size ∧ Box w.heap.size k o n s nv kv p c ∧ Box (w.heap.size + 1) k' o' n' s' nv' kv' p' c) ∧ c.cell? ⟨w.heap.size, 5, none⟩ = some kv ∧ c.cell? ⟨w.heap.size + 1, 5, none⟩ = some kv' ∧ c.cell? ⟨b, off, none⟩ = some (.int .i64 x0) ∧ c.cell? ⟨b, off + 1, none⟩ = some (.int .i64 x1) ∧ c.cell? ⟨b, off + 2, none⟩ = some (.int .i64 x2) ∧ c.cell? ⟨b, off + 3, none⟩ = some (.string x3) ∧ c.cell? ⟨b, off + 4, none⟩ = some xn ∧ c.cell? ⟨b, off + 5, none⟩ = some xk ∧ c.cell? ⟨b, off + 6, none⟩ = some (.int .i64 x6) ∧ c.cell? ⟨b', off', none⟩ = some (.int .i64 y0) ∧ c.cell? ⟨b', off' + 1, none⟩ = some (.int .i64 y1) ∧ c.cell? ⟨b', off' + 2, none⟩ = some (.int .i64 y2) ∧ c.cell? ⟨b', off' + 3, none⟩ = some (.string y3) ∧ c.cell? ⟨b', off' + 4, none⟩ = some yn ∧ c.cell? ⟨b', off' + 5, none⟩ = some yk ∧ c.cell? ⟨b', off' + 6, none⟩ = some (.int .i64 y6) := by
  obtain ⟨⟨h1, h2, h3, h4, h5⟩, d0, d1, e0, e1, e2, e3, e4, e5, e6, f0, f1, f2, f3, f4, f5, f6⟩ := h
  have g0 := box_lt h4
  have g1 := box_lt h5
  exact ⟨⟨below_in h1 (Nat.le_refl _) q, Nat.lt_of_lt_of_le h2 q.size, Nat.lt_of_lt_of_le h3 q.size, box_on h4 q, box_on h5 q⟩, cell_keep q g0 d0, cell_keep q g1 d1,
    cell_keep q h2 e0, cell_keep q h2 e1, cell_keep q h2 e2, cell_keep q h2 e3, cell_keep q h2 e4, cell_keep q h2 e5, cell_keep q h2 e6,
    cell_keep q h3 f0, cell_keep q h3 f1, cell_keep q h3 f2, cell_keep q h3 f3, cell_keep q h3 f4, cell_keep q h3 f5, cell_keep q h3 f6⟩

end Go.Proofs.YtgdbaceehpcgbaaDoor

namespace Go.Proofs.YtgdbaceehpcgbaaDoor
set_option linter.unusedSimpArgs false
open Go.RowKit

/-- a function: parameters, locals, body -/
abbrev Fq := Int × Int × List Nd
def FnAt (B b o : Nat) (f : Fq) (w : World) : Prop := ∃ kv, w.cell? ⟨b, o, none⟩ = some (.int .i64 f.1) ∧ w.cell? ⟨b, o + 1, none⟩ = some (.int .i64 f.2.1) ∧ w.cell? ⟨b, o + 2, none⟩ = some kv ∧ KidsIn B w kv f.2.2
/-- functions of a unit, all of it in blocks below B -/
def FnsIn (B : Nat) (w : World) (v : Value) (fs : List Fq) : Prop :=
  (∃ ao cap, v = .slice ao 0 cap ∧ fs = []) ∨ ∃ b off cap, v = .slice (some ⟨b, off, none⟩) fs.length cap ∧ b < B ∧ (∀ i f, fs[i]? = some f → FnAt B b (off + i * 3) f w) ∧ fs.length ≤ cap
theorem fnAt_on {B b o : Nat} {f : Fq} {a c : World} (h : FnAt B b o f a) (hb : b < B) (q : Below B a c) : FnAt B b o f c := by
  obtain ⟨kv, h1, h2, h3, h4⟩ := h
  exact ⟨kv, cell_keep q hb h1, cell_keep q hb h2, cell_keep q hb h3, kidsIn_on q h4⟩
theorem fnsIn_on {B : Nat} {v : Value} {fs : List Fq} {a c : World} (h : FnsIn B a v fs) (q : Below B a c) : FnsIn B c v fs := by
  rcases h with h | ⟨b, off, cap, h1, h2, h3, h4⟩
  · exact .inl h
  · exact .inr ⟨b, off, cap, h1, h2, fun i f hi => fnAt_on (h3 i f hi) h2 q, h4⟩
theorem fnsIn_shape {B : Nat} {v : Value} {fs : List Fq} {w : World} (h : FnsIn B w v fs) : ∃ ao cap, v = .slice ao fs.length cap := by
  rcases h with ⟨ao, cap, e, rfl⟩ | ⟨b, off, cap, e, _⟩
  · exact ⟨ao, cap, e⟩
  · exact ⟨_, cap, e⟩
theorem fnsIn_at {B : Nat} {ao : Option Addr} {cap i : Nat} {fs : List Fq} {f : Fq} {w : World} (h : FnsIn B w (.slice ao fs.length cap) fs) (hi : fs[i]? = some f) : ∃ b off, ao = some ⟨b, off, none⟩ ∧ b < B ∧ FnAt B b (off + i * 3) f w := by
  rcases h with ⟨ao', cap', e, rfl⟩ | ⟨b, off, cap', e, hb, h, _⟩
  · simp at hi
  · injection e with e1
    subst e1
    exact ⟨b, off, rfl, hb, h i f hi⟩
def sameF (a b : Fq) : Bool := (a.1 == b.1) && ((a.2.1 == b.2.1) && sameL a.2.2 b.2.2)
def sameFs : List Fq → List Fq → Bool
  | [], [] => true
  | a :: r, b :: q => sameF a b && sameFs r q
  | _, _ => false
def sameU (G : Int) (fs : List Fq) (G' : Int) (fs' : List Fq) : Bool := (G == G') && sameFs fs fs'
theorem sameFs_len : ∀ {l m : List Fq}, sameFs l m = true → l.length = m.length
  | [], [], _ => rfl
  | a :: l, b :: m, h => by
    unfold sameFs at h
    rw [Bool.and_eq_true] at h
    have := sameFs_len h.2
    simp [this]
  | [], b :: m, h => by simp [sameFs] at h
  | a :: l, [], h => by simp [sameFs] at h
theorem sameFs_all : ∀ {l m : List Fq}, l.length = m.length → (∀ (i : Nat) a b, l[i]? = some a → m[i]? = some b → sameF a b = true) → sameFs l m = true
  | [], [], _, _ => rfl
  | a :: l, b :: m, h, ha => by
    unfold sameFs
    rw [ha 0 a b rfl rfl, sameFs_all (by simpa using h) (fun i x y hx hy => ha (i + 1) x y (by simpa using hx) (by simpa using hy))]
    rfl
  | [], b :: m, h, _ => by simp at h
  | a :: l, [], h, _ => by simp at h
theorem sameFs_no : ∀ {l m : List Fq} {i : Nat} {a b : Fq}, l[i]? = some a → m[i]? = some b → sameF a b = false → sameFs l m = false
  | [], _, i, a, b, h, _, _ => by simp at h
  | x :: l, [], i, a, b, _, h, _ => by simp at h
  | x :: l, y :: m, 0, a, b, h1, h2, h => by
    simp at h1 h2
    subst h1 h2
    unfold sameFs
    rw [h]; rfl
  | x :: l, y :: m, i + 1, a, b, h1, h2, h => by
    unfold sameFs
    rw [sameFs_no (l := l) (m := m) (i := i) (by simpa using h1) (by simpa using h2) h, Bool.and_false]
theorem sameU_all : ∀ {l m : List Nd}, l.length = m.length → (∀ (i : Nat) a b, l[i]? = some a → m[i]? = some b → sameN a b = true) → sameL l m = true
  | [], [], _, _ => by rw [sameL]
  | a :: l, b :: m, h, ha => by
    rw [sameL, ha 0 a b rfl rfl, sameU_all (by simpa using h) (fun i x y hx hy => ha (i + 1) x y (by simpa using hx) (by simpa using hy))]
    rfl
  | [], b :: m, h, _ => by simp at h
  | a :: l, [], h, _ => by simp at h
theorem sameU_no : ∀ {l m : List Nd} {i : Nat} {a b : Nd}, l[i]? = some a → m[i]? = some b → sameN a b = false → sameL l m = false
  | [], _, i, a, b, h, _, _ => by simp at h
  | x :: l, [], i, a, b, _, h, _ => by simp at h
  | x :: l, y :: m, 0, a, b, h1, h2, h => by
    simp at h1 h2
    subst h1 h2
    rw [sameL, h]; rfl
  | x :: l, y :: m, i + 1, a, b, h1, h2, h => by
    rw [sameL, sameU_no (l := l) (m := m) (i := i) (by simpa using h1) (by simpa using h2) h, Bool.and_false]
theorem sameL_len {l m : List Nd} (h : l.length ≠ m.length) : sameL l m = false := by
  cases hs : sameL l m with
  | false => rfl
  | true => exact absurd (sameL_length l m hs) h
theorem sameFs_lenF {l m : List Fq} (h : l.length ≠ m.length) : sameFs l m = false := by
  cases hs : sameFs l m with
  | false => rfl
  | true => exact absurd (sameFs_len hs) h
/-- no node is too great -/
def FineU (fs : List Fq) : Prop := fs.length ≤ 1000000 ∧ ∀ f ∈ fs, f.2.2.length ≤ 1000000 ∧ ∀ x ∈ f.2.2, smallN x = true ∧ countN x ≤ 1000000

theorem two_fns (wr : World) (x y : Array Value) : Blk wr.heap.size 44 x ((wr.alloc (.cells x 44)).alloc (.cells y 44)).drew ∧ Blk (wr.heap.size + 1) 44 y ((wr.alloc (.cells x 44)).alloc (.cells y 44)).drew ∧ Below wr.heap.size wr ((wr.alloc (.cells x 44)).alloc (.cells y 44)).drew := by
  have b2 := blk_new (wr.alloc (.cells x 44)) 44 y
  rw [World.size_alloc] at b2
  exact ⟨blk_on (blk_new wr 44 x) ((Below.refl _ _).alloc (Nat.le_refl _) (.cells y 44)).drew, b2, (((Below.refl _ _).alloc (Nat.le_refl _) _).alloc (by simp) _).drew⟩
end Go.Proofs.YtgdbaceehpcgbaaDoor
