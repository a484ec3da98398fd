/- Nodes in memory. Which nodes are right, as a plain function. Where calls stand; signs and built-in calls. What the two listed variables, the tables of signs, give the walks; and that the start lays them so. -/
import Derived.Test.YtijbiedblahmhaaDoorProg
import Derived.Test.YtijbiedblahmhaaDoorJoint2
import Derived.Lib.Strings
import Derived.Lib.Builder
import Derived.Test.YtijbiedblahmhaaDoorRows
import Derived.ProofKit
import Derived.LaidMore
import Derived.OpenShut
import Derived.Stop.Joined
import Derived.KernelRfl
namespace Go.Proofs.YtijbiedblahmhaaDoor
open Go.RowKit

/-- texts in a row of cells -/
def StrsAt (b off : Nat) (l : List ByteArray) (w : World) : Prop := ∀ (i : Nat) (h : i < l.length), w.cell? ⟨b, off + i, none⟩ = some (.string l[i])
/-- a slice of texts, in a block below B -/
def StrsIn (B : Nat) (v : Value) (l : List ByteArray) (w : World) : Prop :=
  (∃ ao cap, v = .slice ao 0 cap ∧ l = []) ∨ ∃ b off cap, v = .slice (some ⟨b, off, none⟩) l.length cap ∧ b < B ∧ StrsAt b off l w ∧ l.length ≤ cap
/-- the seven cells of a node -/
def NodeAt (b o : Nat) (k op n : Int) (s : ByteArray) (nv kv : Value) (p : Int) (w : World) : Prop :=
  w.cell? ⟨b, o, none⟩ = some (.int .i64 k) ∧ w.cell? ⟨b, o + 1, none⟩ = some (.int .i64 op) ∧ w.cell? ⟨b, o + 2, none⟩ = some (.int .i64 n) ∧ w.cell? ⟨b, o + 3, none⟩ = some (.string s) ∧
    w.cell? ⟨b, o + 4, none⟩ = some nv ∧ w.cell? ⟨b, o + 5, none⟩ = some kv ∧ w.cell? ⟨b, o + 6, none⟩ = some (.int .i64 p)

mutual
/-- a node whose names and kids are nv and kv: all that they lead to lies in blocks below B -/
def NdIn (B : Nat) (w : World) : Nd → Value → Value → Prop
  | .mk _ _ _ _ ns ks _, nv, kv => StrsIn B nv ns w ∧ ((∃ ao cap, kv = .slice ao 0 cap ∧ ks = []) ∨ ∃ b off cap, kv = .slice (some ⟨b, off, none⟩) ks.length cap ∧ b < B ∧ NdsAt B w b ks off ∧ ks.length ≤ cap)
/-- nodes in a row of cells -/
def NdsAt (B : Nat) (w : World) (b : Nat) : List Nd → Nat → Prop
  | [], _ => True
  | .mk k op n s ns ks p :: r, off => (∃ nv kv, NodeAt b off k op n s nv kv p w ∧ NdIn B w (.mk k op n s ns ks p) nv kv) ∧ NdsAt B w b r (off + 7)
end

/-- a slice of nodes -/
def KidsIn (B : Nat) (w : World) (kv : Value) (ks : List Nd) : Prop :=
  (∃ ao cap, kv = .slice ao 0 cap ∧ ks = []) ∨ ∃ b off cap, kv = .slice (some ⟨b, off, none⟩) ks.length cap ∧ b < B ∧ NdsAt B w b ks off ∧ ks.length ≤ cap

theorem ndIn_mk {B : Nat} {w : World} {k o n : Int} {s : ByteArray} {ns : List ByteArray} {ks : List Nd} {p : Int} {nv kv : Value} : NdIn B w (.mk k o n s ns ks p) nv kv ↔ StrsIn B nv ns w ∧ KidsIn B w kv ks := by
  rw [NdIn]; rfl

theorem cell_keep {B : Nat} {a c : World} (k : Below B a c) {g i : Nat} {v : Value} (hg : g < B) (hc : a.cell? ⟨g, i, none⟩ = some v) : c.cell? ⟨g, i, none⟩ = some v :=
  (k.cell (p := ⟨g, i, none⟩) hg).trans hc

theorem strsIn_on {B : Nat} {v : Value} {l : List ByteArray} {a c : World} (h : StrsIn B v l a) (k : Below B a c) : StrsIn B v l c := by
  rcases h with h | ⟨b, off, cap, h1, h2, h3, h4⟩
  · exact .inl h
  · exact .inr ⟨b, off, cap, h1, h2, fun i hi => cell_keep k h2 (h3 i hi), h4⟩
theorem nodeAt_on {B b o : Nat} {k op n : Int} {s : ByteArray} {nv kv : Value} {p : Int} {a c : World} (h : NodeAt b o k op n s nv kv p a) (hb : b < B) (q : Below B a c) : NodeAt b o k op n s nv kv p c := by
  obtain ⟨h0, h1, h2, h3, h4, h5, h6⟩ := h
  exact ⟨cell_keep q hb h0, cell_keep q hb h1, cell_keep q hb h2, cell_keep q hb h3, cell_keep q hb h4, cell_keep q hb h5, cell_keep q hb h6⟩

mutual
theorem ndIn_on {B : Nat} {a c : World} (q : Below B a c) : ∀ (t : Nd) (nv kv : Value), NdIn B a t nv kv → NdIn B c t nv kv
  | .mk _ _ _ _ ns ks _, nv, kv, h => by
    rw [NdIn] at h ⊢
    obtain ⟨h1, h2⟩ := h
    refine ⟨strsIn_on h1 q, ?_⟩
    rcases h2 with h2 | ⟨b, off, cap, e, hb, h3, h4⟩
    · exact .inl h2
    · exact .inr ⟨b, off, cap, e, hb, ndsAt_on q hb ks off h3, h4⟩
theorem ndsAt_on {B : Nat} {a c : World} (q : Below B a c) {b : Nat} (hb : b < B) : ∀ (ks : List Nd) (off : Nat), NdsAt B a b ks off → NdsAt B c b ks off
  | [], _, _ => by rw [NdsAt]; trivial
  | .mk k op n s ns ks p :: r, off, h => by
    rw [NdsAt] at h ⊢
    obtain ⟨⟨nv, kv, h1, h2⟩, h3⟩ := h
    exact ⟨⟨nv, kv, nodeAt_on h1 hb q, ndIn_on q _ _ _ h2⟩, ndsAt_on q hb r _ h3⟩
end
theorem kidsIn_on {B : Nat} {a c : World} (q : Below B a c) {kv : Value} {ks : List Nd} (h : KidsIn B a kv ks) : KidsIn B c kv ks := by
  rcases h with h2 | ⟨b, off, cap, e, hb, h3, h4⟩
  · exact .inl h2
  · exact .inr ⟨b, off, cap, e, hb, ndsAt_on q hb ks off h3, h4⟩

/-- one of some nodes in a row -/
theorem ndsAt_get {B : Nat} {w : World} {b : Nat} : ∀ {ks : List Nd} {off : Nat}, NdsAt B w b ks off → ∀ (i : Nat) (h : i < ks.length),
    ∃ nv kv, NodeAt b (off + i * 7) ks[i].kind ks[i].op ks[i].num ks[i].str nv kv ks[i].pl w ∧ NdIn B w ks[i] nv kv
  | .mk k op n s ns ks p :: r, off, h, 0, hi => by
    rw [NdsAt] at h
    obtain ⟨⟨nv, kv, h1, h2⟩, _⟩ := h
    exact ⟨nv, kv, by simpa [Nd.kind, Nd.op, Nd.num, Nd.str, Nd.pl] using h1, h2⟩
  | .mk k op n s ns ks p :: r, off, h, i + 1, hi => by
    rw [NdsAt] at h
    obtain ⟨nv, kv, h1, h2⟩ := ndsAt_get h.2 i (by simpa using hi)
    refine ⟨nv, kv, ?_, by simpa using h2⟩
    have e : off + (i + 1) * 7 = off + 7 + i * 7 := by omega
    rw [e]
    simpa using h1

theorem kidsIn_cases {B : Nat} {w : World} {kv : Value} {ks : List Nd} (h : KidsIn B w kv ks) :
    ∃ ao cap, kv = .slice ao ks.length cap ∧ (ks = [] ∨ ∃ b off, ao = some ⟨b, off, none⟩ ∧ b < B ∧ NdsAt B w b ks off) := by
  rcases h with ⟨ao, cap, e1, e2⟩ | ⟨b, off, cap, e, hb, h3, _⟩
  · subst e2; exact ⟨ao, cap, e1, .inl rfl⟩
  · exact ⟨_, cap, e, .inr ⟨b, off, rfl, hb, h3⟩⟩
theorem strsIn_cases {B : Nat} {w : World} {v : Value} {l : List ByteArray} (h : StrsIn B v l w) :
    ∃ ao cap, v = .slice ao l.length cap ∧ (l = [] ∨ ∃ b off, ao = some ⟨b, off, none⟩ ∧ b < B ∧ StrsAt b off l w) := by
  rcases h with ⟨ao, cap, e1, e2⟩ | ⟨b, off, cap, e, hb, h3, _⟩
  · subst e2; exact ⟨ao, cap, e1, .inl rfl⟩
  · exact ⟨_, cap, e, .inr ⟨b, off, rfl, hb, h3⟩⟩

theorem strsIn_cap {B : Nat} {w : World} {a : Option Addr} {c q : Nat} {l : List ByteArray} (h : StrsIn B (.slice a c q) l w) : l = [] ∨ c ≤ q := by
  rcases h with ⟨_, _, _, h⟩ | ⟨b, off, cap, e, _, _, h4⟩
  · exact .inl h
  · injection e with _ e2 e3
    exact .inr (by omega)
theorem kidsIn_cap {B : Nat} {w : World} {a : Option Addr} {c q : Nat} {l : List Nd} (h : KidsIn B w (.slice a c q) l) : l = [] ∨ c ≤ q := by
  rcases h with ⟨_, _, _, h⟩ | ⟨b, off, cap, e, _, _, h4⟩
  · exact .inl h
  · injection e with _ e2 e3
    exact .inr (by omega)

/-- what lies in a node's two slices -/
theorem ndIn_shape {B : Nat} {w : World} {t : Nd} {nv kv : Value} (h : NdIn B w t nv kv) : ∃ a1 c1 a2 c2, nv = .slice a1 t.names.length c1 ∧ kv = .slice a2 t.kids.length c2 := by
  obtain ⟨k, o, n, s, ns, ks, p⟩ := t
  obtain ⟨h1, h2⟩ := ndIn_mk.1 h
  obtain ⟨a1, c1, e1, _⟩ := strsIn_cases h1
  obtain ⟨a2, c2, e2, _⟩ := kidsIn_cases h2
  exact ⟨a1, c1, a2, c2, e1, e2⟩

/-- a block of a call's own that holds a node -/
def Box (g : Nat) (k o n : Int) (s : ByteArray) (nv kv : Value) (p : Int) (w : World) : Prop :=
  w.heap[g]? = some (.cells #[.int .i64 k, .int .i64 o, .int .i64 n, .string s, nv, kv, .int .i64 p] 26 (0, 0))
theorem box_lt {g : Nat} {k o n : Int} {s : ByteArray} {nv kv : Value} {p : Int} {w : World} (h : Box g k o n s nv kv p w) : g < w.heap.size := by
  rcases Nat.lt_or_ge g w.heap.size with h' | h'
  · exact h'
  · simp [Box, Array.getElem?_eq_none h'] at h
theorem box_new (w : World) (k o n : Int) (s : ByteArray) (nv kv : Value) (p : Int) : Box w.heap.size k o n s nv kv p (w.alloc (.cells #[.int .i64 k, .int .i64 o, .int .i64 n, .string s, nv, kv, .int .i64 p] 26)) :=
  heap_alloc_new w _
theorem box_on {g : Nat} {k o n : Int} {s : ByteArray} {nv kv : Value} {p : Int} {a c : World} (h : Box g k o n s nv kv p a) (q : Below a.heap.size a c) : Box g k o n s nv kv p c :=
  (q.block g (box_lt h)).trans h
theorem box_cells {g : Nat} {k o n : Int} {s : ByteArray} {nv kv : Value} {p : Int} {w : World} (h : Box g k o n s nv kv p w) :
    w.cell? ⟨g, 0, none⟩ = some (.int .i64 k) ∧ w.cell? ⟨g, 1, none⟩ = some (.int .i64 o) ∧ w.cell? ⟨g, 2, none⟩ = some (.int .i64 n) ∧ w.cell? ⟨g, 3, none⟩ = some (.string s) ∧
      w.cell? ⟨g, 4, none⟩ = some nv ∧ w.cell? ⟨g, 5, none⟩ = some kv ∧ w.cell? ⟨g, 6, none⟩ = some (.int .i64 p) := by
  refine ⟨?_, ?_, ?_, ?_, ?_, ?_, ?_⟩ <;> (rw [Lib.cell_of_heap h]; rfl)

theorem box1_below (w : World) (x : Obj) : Below w.heap.size w (w.alloc x) := (Below.refl _ _).alloc (Nat.le_refl _) _
theorem box2_below (w : World) (x y : Obj) : Below w.heap.size w ((w.alloc x).alloc y) := ((Below.refl _ _).alloc (Nat.le_refl _) _).alloc (by simp) _
theorem boxes2 (w : World) (k o n : Int) (s : ByteArray) (nv kv : Value) (p k' o' n' : Int) (s' : ByteArray) (nv' kv' : Value) (p' : Int) :
    Box w.heap.size k o n s nv kv p ((w.alloc (.cells #[.int .i64 k, .int .i64 o, .int .i64 n, .string s, nv, kv, .int .i64 p] 26)).alloc (.cells #[.int .i64 k', .int .i64 o', .int .i64 n', .string s', nv', kv', .int .i64 p'] 26)) ∧
    Box (w.heap.size + 1) k' o' n' s' nv' kv' p' ((w.alloc (.cells #[.int .i64 k, .int .i64 o, .int .i64 n, .string s, nv, kv, .int .i64 p] 26)).alloc (.cells #[.int .i64 k', .int .i64 o', .int .i64 n', .string s', nv', kv', .int .i64 p'] 26)) := by
  refine ⟨box_on (box_new w k o n s nv kv p) ((Below.refl _ _).alloc (Nat.le_refl _) _), ?_⟩
  have := box_new (w.alloc (.cells #[.int .i64 k, .int .i64 o, .int .i64 n, .string s, nv, kv, .int .i64 p] 26)) k' o' n' s' nv' kv' p'
  simpa using this

end Go.Proofs.YtijbiedblahmhaaDoor

namespace Go.Proofs.YtijbiedblahmhaaDoor
open Go.RowKit

/-- signs between two, by their numbers -/
def tsgnL : List (List UInt8) := [[], [43], [45], [42], [47], [37], [60], [60, 61], [62], [62, 61], [61, 61], [33, 61]]
def signT (o : Int) : List UInt8 := if o < 0 then [] else tsgnL.getD o.toNat []
/-- built-in calls: name, and how many parts -/
def builtL : List (List UInt8 × Nat) := [([], 0), ([99, 111, 117, 110, 116], 1), ([107, 101, 121], 2), ([104, 97, 115], 2), ([112, 114, 111, 116, 111], 1), ([115, 101, 116, 112, 114, 111, 116, 111], 2), ([108, 101, 110], 1), ([115, 116, 114], 1)]
def builtT (o : Int) : List UInt8 × Nat := if o < 0 then ([], 0) else builtL.getD o.toNat ([], 0)
/-- how tight a sign is -/
def rankT (k o : Int) : Int :=
  if k = 12 then 1 else if k = 11 then 2 else if k = 10 then (if o = 10 ∨ o = 11 then 3 else if 6 ≤ o ∧ o ≤ 9 then 4 else if o = 1 ∨ o = 2 then 5 else if 3 ≤ o ∧ o ≤ 5 then 6 else 9)
  else if k = 9 then 7 else if 13 ≤ k ∧ k ≤ 16 then 8 else if 1 ≤ k ∧ k ≤ 20 then 9 else 0

/-- an expression 1, a statement that is no block 2, a block 3 -/
def isK (k : Int) : Nat := if 1 ≤ k ∧ k ≤ 17 then 1 else if k = 29 then 3 else if 21 ≤ k ∧ k ≤ 32 then 2 else 0
/-- what a kid is to be -/
def wantK (k : Int) (i : Nat) : Nat := if k = 8 ∨ k = 29 then 2 else if (k = 28 ∨ k = 30) ∧ 0 < i then 3 else 1

def properB (s : ByteArray) : Bool := nameB s.data.toList && !keyB s.data.toList
def propB (s : ByteArray) : Bool := nameB s.data.toList
def opOk (k o : Int) : Bool := if k = 9 then decide (1 ≤ o ∧ o ≤ 2) else if k = 10 then decide (1 ≤ o ∧ o ≤ 11) else if k = 17 then decide (1 ≤ o ∧ o ≤ 7) else decide (o = 0)
def numOk (k n : Int) : Bool := if k = 2 then decide (n = 0 ∨ n = 1) else if k = 3 then decide (0 ≤ n ∧ n ≤ 4611686018427387903) else decide (n = 0)
def strOk (k : Int) (s : ByteArray) : Bool :=
  if k = 4 then decide (s.size ≤ 256) else if k = 5 ∨ k = 21 ∨ k = 22 then properB s else if k = 13 ∨ k = 16 ∨ k = 23 ∨ k = 25 then propB s else decide (s.size = 0)
def nsOk (k : Int) (ns : List ByteArray) : Bool :=
  if k = 7 then decide (ns.length ≤ 40) && ns.all propB else if k = 8 then decide (ns.length ≤ 6) && ns.all properB else decide (ns.length = 0)
def cntOk (k o : Int) (m c : Nat) : Bool :=
  if 1 ≤ k ∧ k ≤ 6 then decide (c = 0) else if k = 7 then decide (c = m) else if k = 8 ∨ k = 29 then decide (c ≤ 40)
  else if k = 9 ∨ k = 13 ∨ k = 21 ∨ k = 22 ∨ k = 25 ∨ k = 27 ∨ k = 31 ∨ k = 32 then decide (c = 1)
  else if k = 10 ∨ k = 11 ∨ k = 12 ∨ k = 14 ∨ k = 23 ∨ k = 26 ∨ k = 30 then decide (c = 2)
  else if k = 15 ∨ k = 16 then decide (1 ≤ c ∧ c ≤ 7) else if k = 17 then decide (c = (builtT o).2) else if k = 24 ∨ k = 28 then decide (c = 3) else false
/-- a node's own fields, and how many kids it has, are those of its kind -/
def okB (k o n : Int) (s : ByteArray) (ns : List ByteArray) (c : Nat) : Bool := opOk k o && (numOk k n && (strOk k s && (nsOk k ns && cntOk k o ns.length c)))

mutual
/-- right as an expression (1), a statement (2), a block (3) -/
def rightN : Nd → Nat → Bool
  | .mk k o n s ns ks _, a => (isK k == a) && (okB k o n s ns ks.length && rightL ks k 0)
def rightL : List Nd → Int → Nat → Bool
  | [], _, _ => true
  | x :: r, k, i => rightN x (wantK k i) && rightL r k (i + 1)
end
theorem rightN_mk (k o n : Int) (s : ByteArray) (ns : List ByteArray) (ks : List Nd) (p : Int) (a : Nat) : rightN (.mk k o n s ns ks p) a = ((isK k == a) && (okB k o n s ns ks.length && rightL ks k 0)) := by rw [rightN]

/-- all kids are wanted alike -/
theorem rightL_all {k : Int} {a : Nat} (h : ∀ i, wantK k i = a) : ∀ (ks : List Nd) (i : Nat), rightL ks k i = !ks.any fun x => !rightN x a
  | [], i => by rw [rightL]; rfl
  | x :: r, i => by
    rw [rightL, h, rightL_all h r (i + 1), List.any_cons]
    cases rightN x a <;> simp

theorem isK_not3 {k : Int} (h : k ≠ 29) : (isK k == 3) = false := by
  unfold isK; rw [beq_eq_false_iff_ne]; grind
theorem isK_not1 {k : Int} (h : ¬(1 ≤ k ∧ k ≤ 17)) : (isK k == 1) = false := by
  unfold isK; rw [beq_eq_false_iff_ne]; grind
theorem isK_not2 {k : Int} (h : ¬(21 ≤ k ∧ k ≤ 32) ∨ k = 29) : (isK k == 2) = false := by
  unfold isK; rw [beq_eq_false_iff_ne]; grind

/-- what Check says -/
def checkN (t : Nd) : Int := if 12 < highN t then 13 else if rightN t 3 then 0 else 2

end Go.Proofs.YtijbiedblahmhaaDoor

namespace Go.Proofs.YtijbiedblahmhaaDoor
open Go.RowKit

/-- where a call stands: old memory below B, the table of signs in block 0 -/
def Ok (B : Nat) (w : World) : Prop := B ≤ w.heap.size ∧ 1 < B ∧ Texts 1 tsgnL w
theorem ok_on {B : Nat} {a c : World} (h : Ok B a) (q : Below B a c) : Ok B c :=
  ⟨Nat.le_trans h.1 q.size, h.2.1, fun i hi => cell_keep q h.2.1 (h.2.2 i hi)⟩

theorem sign_calls (o : Int) (B : Nat) (w : World) (hO : Hid (Ok B w)) :
    Calls Tryd.prog 84 #[.int .i64 o] w fun e w' => e = .returned (.string ⟨(signT o).toArray⟩) ∧ w = w' := by
  by_cases h0 : o < 0
  · have H := hid (show signT o = [] by unfold signT; rw [if_pos h0])
    go_enter Tryd.func84, Tryd.ntmps84
    go_wp2_with fail
    go_ret
    exact ⟨by rw [H.out]; rfl, rfl⟩
  have d0 : decide (o < 0) = false := decide_eq_false h0
  by_cases h1 : 12 ≤ o
  · have H := hid (show signT o = [] by
      unfold signT; rw [if_neg h0, List.getD_eq_getElem?_getD, List.getElem?_eq_none (by simp [tsgnL]; omega)]; rfl)
    go_enter Tryd.func84, Tryd.ntmps84
    go_wp2_with fail
    go_ret
    exact ⟨by rw [H.out]; rfl, rfl⟩
  have d1 : decide (12 ≤ o) = false := decide_eq_false h1
  obtain ⟨j, rfl⟩ : ∃ j : Nat, o = (j : Int) := ⟨o.toNat, by omega⟩
  have hj : j < tsgnL.length := by show j < 12; omega
  have c := hO.out.2.2 j hj
  have H := hid (show signT (j : Int) = tsgnL[j] by
    unfold signT; rw [if_neg h0, List.getD_eq_getElem?_getD, Int.toNat_natCast, List.getElem?_eq_getElem hj]; rfl)
  have hj12 : j < 12 := hj
  clear hO
  generalize tsgnL[j] = x at *
  go_enter Tryd.func84, Tryd.ntmps84
  go_wp2_with fail
  go_ret
  exact ⟨by rw [H.out]; rfl, rfl⟩

theorem built_calls (o : Int) (w : World) :
    Calls Tryd.prog 88 #[.int .i64 o] w fun e w' => e = .returned (.tuple #[.string ⟨(builtT o).1.toArray⟩, .int .i64 (builtT o).2]) ∧ w = w' := by
  by_cases h : 1 ≤ o ∧ o ≤ 7
  · obtain rfl | rfl | rfl | rfl | rfl | rfl | rfl : o = 1 ∨ o = 2 ∨ o = 3 ∨ o = 4 ∨ o = 5 ∨ o = 6 ∨ o = 7 := by omega
    all_goals
      clear h
      go_enter Tryd.func88, Tryd.ntmps88
      go_wp2_with fail
      go_ret2
      exact ⟨rfl, rfl⟩
  · have H := hid (show builtT o = ([], 0) by
      unfold builtT
      by_cases h0 : o < 0
      · rw [if_pos h0]
      · rw [if_neg h0]
        by_cases h1 : o = 0
        · subst h1; rfl
        · rw [List.getD_eq_getElem?_getD, List.getElem?_eq_none (by simp [builtL]; omega)]; rfl)
    have e1 : (o == 1) = false := beq_eq_false_iff_ne.2 (by omega)
    have e2 : (o == 2) = false := beq_eq_false_iff_ne.2 (by omega)
    have e3 : (o == 3) = false := beq_eq_false_iff_ne.2 (by omega)
    have e4 : (o == 4) = false := beq_eq_false_iff_ne.2 (by omega)
    have e5 : (o == 5) = false := beq_eq_false_iff_ne.2 (by omega)
    have e6 : (o == 6) = false := beq_eq_false_iff_ne.2 (by omega)
    have e7 : (o == 7) = false := beq_eq_false_iff_ne.2 (by omega)
    clear h
    go_enter Tryd.func88, Tryd.ntmps88
    go_wp2_with fail
    go_ret2
    exact ⟨by rw [H.out]; rfl, rfl⟩

theorem kids_at {B : Nat} {w : World} {a : Option Addr} {c q : Nat} {ks : List Nd} (h : KidsIn B w (.slice a c q) ks) (hl : ks ≠ []) : ∃ b off, a = some ⟨b, off, none⟩ ∧ b < B ∧ NdsAt B w b ks off := by
  rcases h with ⟨_, _, _, h⟩ | ⟨b, off, cap, e, hb, h, _⟩
  · exact absurd h hl
  · injection e with e1 e2 e3
    exact ⟨b, off, e1, hb, h⟩

theorem list_two {α : Type} {l : List α} (h : l.length = 2) : ∃ a b, l = [a, b] := by
  match l, h with
  | [a, b], _ => exact ⟨a, b, rfl⟩
theorem list_three {α : Type} {l : List α} (h : l.length = 3) : ∃ a b c, l = [a, b, c] := by
  match l, h with
  | [a, b, c], _ => exact ⟨a, b, c, rfl⟩
end Go.Proofs.YtijbiedblahmhaaDoor

namespace Go.Proofs.YtijbiedblahmhaaDoor
open Go.ChangeShapes Go.WideShapes Go.ChangeAt Go.RowKit

def laidS : List (String × DataW Unit) := [("proteus/lex.signs", Rows.laid_proteus_lex_signs), ("proteus/tree.signs", Rows.laid_proteus_tree_signs)]
theorem gSigns0 : Tryd.prog.globalNamed "proteus/lex.signs" = some 0 := by kernel_rfl
theorem tSigns0 : (Tryd.prog.globals[0]?).map (·.type) = some 72 := by kernel_rfl
theorem gSigns1 : Tryd.prog.globalNamed "proteus/tree.signs" = some 1 := by kernel_rfl
theorem tSigns1 : (Tryd.prog.globals[1]?).map (·.type) = some 96 := by kernel_rfl

set_option maxRecDepth 100000 in
theorem door_met (os : Os) (args : Array Value) : laidMetH Tryd.prog laidS ((World.doorLaid Tryd.prog 14 os).forCall (fun _ _ => 0) ⟨#[], args, []⟩).memory :=
  laidMetH_of_parts3 (fuel := 8) (laidMet_of_run' 8 (by kernel_rfl) (by kernel_rfl)) (by kernel_rfl) (by kernel_rfl)

set_option maxRecDepth 100000 in
theorem texts_of0 {W : World} {ps : List MemPlace} {r : List (String × DataW Unit)} (h : DataW.LaidVars Tryd.prog W (("proteus/lex.signs", Rows.laid_proteus_lex_signs) :: r) ps) : Texts 0 sgnL W ∧ ∃ q, DataW.LaidVars Tryd.prog W r q := by
  obtain ⟨g0, t0, cs0, f0, p0, q0, hg0, ht0, hv0, hd0, hr, _⟩ := h
  obtain rfl := Option.some.inj (gSigns0.symm.trans hg0)
  obtain rfl := Option.some.inj (tSigns0.symm.trans ht0)
  obtain ⟨xs, m1, rfl, hx1, hlen, hn3, hel⟩ := DataW.trod_array Tryd.underlying72 hd0
  have c9 : Tryd.prog.cellsOf 9 = 1 := by kernel_rfl
  have hmap : xs.map (·.1) = sgnL.map fun l => .lit (.string l) := by
    simp only [Prod.mk.injEq] at hx1
    have h1 : (DataW.agg (sgnL.map fun l => .lit (.string l)) : DataW Unit) = .agg (xs.map (·.1)) := hx1.1
    injection h1 with h2
    exact h2.symm
  have h25 : sgnL.length = 25 := rfl
  refine ⟨?_, q0, hr⟩
  intro i hi
  have h1 := hel i (by omega)
  have hxl : i < xs.length := by omega
  rw [List.getElem?_eq_getElem hxl, c9, Nat.mul_one] at h1
  obtain ⟨s, e1, e2, _⟩ := DataW.trod_string Tryd.underlying9 h1
  have h2 : (xs.map (·.1))[i]? = (sgnL.map fun l => (DataW.lit (.string l) : DataW Unit))[i]? := by rw [hmap]
  rw [List.getElem?_map, List.getElem?_map, List.getElem?_eq_getElem hxl, List.getElem?_eq_getElem hi, Option.map_some, Option.map_some, e2] at h2
  have h3 : s.data.toList = sgnL[i] := by simpa using h2
  rw [World.var?_cell hg0 hv0 i, ← h3]
  have h4 : cs0.toList[i]? = some (.string s) := by
    have := congrArg (fun l => l[0]?) e1
    simpa [List.getElem?_take, List.getElem?_drop] using this
  simpa using h4
set_option maxRecDepth 100000 in
theorem texts_of1 {W : World} {ps : List MemPlace} {r : List (String × DataW Unit)} (h : DataW.LaidVars Tryd.prog W (("proteus/tree.signs", Rows.laid_proteus_tree_signs) :: r) ps) : Texts 1 tsgnL W ∧ ∃ q, DataW.LaidVars Tryd.prog W r q := by
  obtain ⟨g0, t0, cs0, f0, p0, q0, hg0, ht0, hv0, hd0, hr, _⟩ := h
  obtain rfl := Option.some.inj (gSigns1.symm.trans hg0)
  obtain rfl := Option.some.inj (tSigns1.symm.trans ht0)
  obtain ⟨xs, m1, rfl, hx1, hlen, hn3, hel⟩ := DataW.trod_array Tryd.underlying96 hd0
  have c9 : Tryd.prog.cellsOf 9 = 1 := by kernel_rfl
  have hmap : xs.map (·.1) = tsgnL.map fun l => .lit (.string l) := by
    simp only [Prod.mk.injEq] at hx1
    have h1 : (DataW.agg (tsgnL.map fun l => .lit (.string l)) : DataW Unit) = .agg (xs.map (·.1)) := hx1.1
    injection h1 with h2
    exact h2.symm
  have h25 : tsgnL.length = 12 := rfl
  refine ⟨?_, q0, hr⟩
  intro i hi
  have h1 := hel i (by omega)
  have hxl : i < xs.length := by omega
  rw [List.getElem?_eq_getElem hxl, c9, Nat.mul_one] at h1
  obtain ⟨s, e1, e2, _⟩ := DataW.trod_string Tryd.underlying9 h1
  have h2 : (xs.map (·.1))[i]? = (tsgnL.map fun l => (DataW.lit (.string l) : DataW Unit))[i]? := by rw [hmap]
  rw [List.getElem?_map, List.getElem?_map, List.getElem?_eq_getElem hxl, List.getElem?_eq_getElem hi, Option.map_some, Option.map_some, e2] at h2
  have h3 : s.data.toList = tsgnL[i] := by simpa using h2
  rw [World.var?_cell hg0 hv0 i, ← h3]
  have h4 : cs0.toList[i]? = some (.string s) := by
    have := congrArg (fun l => l[0]?) e1
    simpa [List.getElem?_take, List.getElem?_drop] using this
  simpa using h4

theorem tokGo_len (s : ByteArray) : ∀ (f k : Nat) (acc : List Tok), acc.length ≤ 600 → (tokGo s f k acc).1.length ≤ 601
  | 0, _, _, _ => by simp [tokGo]
  | f + 1, k, acc, h => by
    unfold tokGo
    split
    · simp; omega
    · split
      · simp
      · split
        · simp
        · exact tokGo_len s f _ _ (by simp; omega)
theorem tokOut_len (s : ByteArray) : (tokOut s).1.length ≤ 601 := by
  unfold tokOut
  split
  · simp
  · exact tokGo_len s _ _ _ (by simp)
theorem lt_texts {W : World} {g : Nat} {L : List (List UInt8)} (h : Texts g L W) (hl : 0 < L.length) : g < W.heap.size := by
  rcases Nat.lt_or_ge g W.heap.size with h1 | h1
  · exact h1
  · have := h 0 hl
    simp [World.cell?, Array.getElem?_eq_none h1] at this
theorem of_laid {W : World} (h : laidMetH Tryd.prog laidS W) : 0 < W.heap.size ∧ 1 < W.heap.size ∧ Texts 0 sgnL W ∧ Texts 1 tsgnL W := by
  rw [MakeChecks.laidMetH_plain _ _ _ (by kernel_rfl)] at h
  obtain ⟨ps, hv, _, _⟩ := h
  obtain ⟨h0, q, hq⟩ := texts_of0 hv
  obtain ⟨h1, _⟩ := texts_of1 hq
  exact ⟨lt_texts h0 (by decide), lt_texts h1 (by decide), h0, h1⟩

end Go.Proofs.YtijbiedblahmhaaDoor
