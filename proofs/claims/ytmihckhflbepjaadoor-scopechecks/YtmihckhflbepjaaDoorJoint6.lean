/- strings.Builder, at the head of whatever block of the call's own: by itself, or embedded first in a struct. Which units may be, as the document says it; it is the same. -/
import Derived.Test.YtmihckhflbepjaaDoorProg
import Derived.Test.YtmihckhflbepjaaDoorJoint2
import Derived.WalkKit
import Derived.WalkLawsBesides
import Derived.WalkSpells
import Derived.Outline
import Derived.Below
import Derived.Lib.Strings
import Derived.Lib.Builder
import Derived.Lib.AppendStr
import Derived.Lib.UnsafeStr
import Derived.Laws.Externs
import Derived.Test.YtmihckhflbepjaaDoorScMay
namespace Go.Proofs.YtmihckhflbepjaaDoor
open Go.RowKit

/-- a builder at the head of block b (one of the call's own: from B on), of type T, that holds the bytes l; ext: what lies behind it in the block -/
structure Bld (T : TypeId) (ext : List Value) (B b : Nat) (p v : Value) (l : List UInt8) (w : World) : Prop where
  low : B ≤ b
  seen : p = .pointer none ∨ p = .pointer (some ⟨b, 0, none⟩)
  blk : w.heap[b]? = some (.cells (p :: v :: ext).toArray T (0, 0))
  own : w.ownsRow B 5 1 v l.length (Lib.byteCells l)
  ne : v.ownBlock ≠ some b
  nil : l = [] → v = .slice none 0 0

def Has (T : TypeId) (ext : List Value) (B b : Nat) (l : List UInt8) (w : World) : Prop := ∃ p v, Bld T ext B b p v l w

theorem Has.lt {T : TypeId} {ext : List Value} {B b : Nat} {l : List UInt8} {w : World} (h : Has T ext B b l w) : b < w.heap.size := by
  obtain ⟨p, v, h⟩ := h
  rcases Nat.lt_or_ge b w.heap.size with h' | h'
  · exact h'
  · have := h.blk
    simp [Array.getElem?_eq_none h'] at this

theorem Has.cell {T : TypeId} {ext : List Value} {B b : Nat} {l : List UInt8} {w : World} (h : Has T ext B b l w) {j : Nat} {x : Value} (hj : ext[j]? = some x) : w.cell? ⟨b, j + 2, none⟩ = some x := by
  obtain ⟨p, v, h⟩ := h
  rw [Lib.cell_of_heap h.blk]
  simpa using hj

theorem Has.free {T : TypeId} {ext : List Value} {B b : Nat} {l : List UInt8} {w : World} (h : Has T ext B b l w) (j : Nat) : w.frozen? ⟨b, j, none⟩ = false := by
  obtain ⟨p, v, h⟩ := h
  exact Lib.frozen_of_heap h.blk j

/-- another cell of the block is written -/
theorem Has.put {T : TypeId} {ext : List Value} {B b : Nat} {l : List UInt8} {w : World} (h : Has T ext B b l w) (j : Nat) (x : Value) : Has T (ext.set j x) B b l (w.setCell ⟨b, j + 2, none⟩ x) := by
  obtain ⟨p, v, h⟩ := h
  refine ⟨p, v, h.low, h.seen, ?_, ?_, h.ne, h.nil⟩
  · simp [World.setCell, Array.getElem?_modify, h.blk]
  · exact h.own.kept (row := some b) ⟨rfl, rfl, rfl, by simp [World.setCell], fun k _ hk => Below.heap_setCell _ _ _ _ (fun e => hk (by simp [e]))⟩ (Or.inr h.ne)

theorem Has.drew {T : TypeId} {ext : List Value} {B b : Nat} {l : List UInt8} {w : World} (h : Has T ext B b l w) : Has T ext B b l w.drew := by
  obtain ⟨p, v, h⟩ := h
  exact ⟨p, v, h.low, h.seen, h.blk, h.own, h.ne, h.nil⟩

/-- a new builder -/
theorem has_new (T : TypeId) (ext : List Value) (w : World) (cs : Array Value) (hc : cs = (.pointer none :: .slice none 0 0 :: ext).toArray) : Has T ext w.heap.size w.heap.size [] (w.alloc (.cells cs T)) := by
  subst hc
  exact ⟨.pointer none, .slice none 0 0, Nat.le_refl _, Or.inl rfl, heap_alloc_new w _, World.ownsRow_nil _ _ _ _, by simp [Value.ownBlock], fun _ => rfl⟩

/-- a block that holds no bytes -/
def NoBytes (w : World) (k : Nat) : Prop := ∀ cur fz, w.heap[k]? ≠ some (.cells cur 5 fz)
/-- old memory, and of what is newer all but the builder's own block and blocks of bytes, is as it was -/
structure Near (B b : Nat) (w w' : World) : Prop where
  below : Below B w w'
  rest : ∀ k, k < w.heap.size → k ≠ b → NoBytes w k → w'.heap[k]? = w.heap[k]?
theorem Near.refl (B b : Nat) (w : World) : Near B b w w := ⟨Below.refl _ _, fun _ _ _ _ => rfl⟩
theorem Near.trans {B b : Nat} {x y z : World} (h : Near B b x y) (k : Near B b y z) : Near B b x z :=
  ⟨h.below.trans k.below, fun i hi hb hn => (k.rest i (Nat.lt_of_lt_of_le hi h.below.size) hb (fun c f => by rw [h.rest i hi hb hn]; exact hn c f)).trans (h.rest i hi hb hn)⟩
theorem Near.ofBelow {B b : Nat} {x y : World} (h : Below x.heap.size x y) (hB : B ≤ x.heap.size) : Near B b x y := ⟨h.mono hB, fun k hk _ _ => h.block k hk⟩
theorem Near.setOwn {B b : Nat} (w : World) (h : B ≤ b) (j : Nat) (x : Value) : Near B b w (w.setCell ⟨b, j, none⟩ x) :=
  ⟨(Below.refl B w).setCell (p := ⟨b, j, none⟩) h _, fun _ _ hb _ => Below.heap_setCell _ _ _ _ hb⟩
theorem near_grown {B b : Nat} {w w' : World} {v : Value} {n : Nat} {xs : List Value} (hown : w.ownsRow B 5 1 v n xs) (hg : w.grownBy w' v.ownBlock) (hB : B ≤ w.heap.size) : Near B b w w' := by
  refine ⟨(Below.refl B w).grown hg hB (fun k hk => (hown.lt k hk).1), fun k hk _ hn => hg.block k hk ?_⟩
  intro e
  rcases hown.2 with ⟨hv, _⟩ | ⟨g, cap, cur, hv, _, hh, _⟩
  · subst hv; simp [Value.ownBlock] at e
  · subst hv
    have : k = g := by simpa [Value.ownBlock] using e
    subst this
    exact hn _ _ hh

theorem under_unsafe : Tryd.prog.underlying 122 = some .unsafePointer := by kernel_rfl

theorem info8 : ∃ i0, Tryd.prog.info? 5 = some i0 ∧ i0.zero = some (.int .u8 0) ∧ i0.size = 1 ∧ i0.bytes = 1 :=
  info_parts (show (Tryd.prog.info? 5).map (fun i => (i.zero, i.size, i.bytes)) = some (some (.int .u8 0), 1, 1) by kernel_rfl)
theorem under_str : Tryd.prog.underlying 9 = some .string := by kernel_rfl

/-- the new buffer lies in its cell -/
theorem bld_put {T : TypeId} {ext : List Value} {B b : Nat} {p v v' : Value} {l : List UInt8} {w : World} (hB : B ≤ b) (hs : p = .pointer none ∨ p = .pointer (some ⟨b, 0, none⟩)) (hb : w.heap[b]? = some (.cells (p :: v :: ext).toArray T (0, 0)))
    (hown : w.ownsRow B 5 1 v' l.length (Lib.byteCells l)) (hT : T ≠ 5) (hl : l ≠ []) : Has T ext B b l (w.setCell ⟨b, 1, none⟩ v') := by
  have hne := Lib.ownBlock_ne hown hb hT
  refine ⟨p, v', hB, hs, ?_, ?_, hne, fun h => absurd h hl⟩
  · simp [World.setCell, Array.getElem?_modify, hb]
  · exact hown.kept (row := some b) ⟨rfl, rfl, rfl, by simp [World.setCell], fun k _ hk => Below.heap_setCell _ _ _ _ (fun e => hk (by simp [e]))⟩ (Or.inr hne)

theorem lt_of_block {w : World} {b : Nat} {o : Obj} (h : w.heap[b]? = some o) : b < w.heap.size := by
  rcases Nat.lt_or_ge b w.heap.size with h' | h'
  · exact h'
  · simp [Array.getElem?_eq_none h'] at h

end Go.Proofs.YtmihckhflbepjaaDoor

namespace Go.Proofs.YtmihckhflbepjaaDoor
open Go.RowKit

def isD (k : Int) : Nat := if k = 29 then 3 else if k ≤ 20 then 1 else 2
def wantD (k : Int) (i : Nat) : Nat := if 0 < i ∧ (k = 28 ∨ k = 30) then 3 else if k = 29 then 2 else 1
def mostD (b : Bds) (k : Int) : Int := if k = 2 then 1 else if k = 3 then 4611686018427387903 else if k = 18 ∨ k = 33 then b.1 - 1 else if k = 19 ∨ k = 34 then b.2.1 - 1 else if k = 20 then b.2.2 - 1 else 0
def opD (k o : Int) : Bool := if k = 9 then decide (1 ≤ o ∧ o ≤ 2) else if k = 10 then decide (1 ≤ o ∧ o ≤ 11) else if k = 17 then decide (1 ≤ o ∧ o ≤ 7) else decide (o = 0)
def strD (k : Int) (s : ByteArray) : Bool := if k = 13 ∨ k = 16 ∨ k = 23 ∨ k = 25 then propB s else if k = 4 then decide (s.size ≤ 256) else decide (s.size = 0)
def nsD (k : Int) (ns : List ByteArray) : Bool := if k = 7 then decide (ns.length ≤ 40) && ns.all propB else decide (ns.length = 0)
def fldD (b : Bds) (k o n : Int) (s : ByteArray) (ns : List ByteArray) : Bool := withB n 0 (mostD b k) && (opD k o && (strD k s && nsD k ns))
def manyD (k o : Int) (m c : Nat) : Bool :=
  if k = 1 ∨ k = 2 ∨ k = 3 ∨ k = 4 ∨ k = 6 ∨ k = 18 ∨ k = 19 ∨ k = 20 then decide (c = 0) else if k = 7 then decide (c = m) else if k = 29 then decide (c ≤ 40)
  else if k = 9 ∨ k = 13 ∨ k = 25 ∨ k = 27 ∨ k = 31 ∨ k = 32 ∨ k = 33 ∨ k = 34 then decide (c = 1) else if k = 10 ∨ k = 11 ∨ k = 12 ∨ k = 14 ∨ k = 23 ∨ k = 26 ∨ k = 30 then decide (c = 2)
  else if k = 15 ∨ k = 16 then decide (1 ≤ c ∧ c ≤ 7) else if k = 17 then decide (c = (builtT o).2) else if k = 24 ∨ k = 28 then decide (c = 3) else false
mutual
def rightD (b : Bds) : Nd → Nat → Bool
  | .mk k o n s ns ks _, a => (isD k == a) && (manyD k o ns.length ks.length && (fldD b k o n s ns && rightDL b ks k 0))
def rightDL (b : Bds) : List Nd → Int → Nat → Bool
  | [], _, _ => true
  | x :: r, k, i => rightD b x (wantD k i) && rightDL b r k (i + 1)
end
/-- the kids' sorts are those that are wanted -/
def sortsL : List Nd → Int → Nat → Bool
  | [], _, _ => true
  | x :: r, k, i => (sortK x.kind == wantK k i) && sortsL r k (i + 1)
theorem stand_as (k : Int) {a : Nat} (ha : a = 1 ∨ a = 2 ∨ a = 3) : rightN (standK k) a = (sortK k == a) := by
  unfold standK sortK
  by_cases h1 : 1 ≤ k ∧ k ≤ 20
  · rw [if_pos h1]
    rcases ha with rfl | rfl | rfl <;> decide
  · rw [if_neg h1]
    by_cases h2 : k = 29
    · rw [if_pos h2]
      rcases ha with rfl | rfl | rfl <;> decide
    · rw [if_neg h2]
      rcases ha with rfl | rfl | rfl <;> decide
theorem want_3 (k : Int) (i : Nat) : wantK k i = 1 ∨ wantK k i = 2 ∨ wantK k i = 3 := by
  unfold wantK
  split
  · omega
  · split <;> omega
theorem stands_as : ∀ (l : List Nd) (k : Int) (i : Nat), rightL (standL l) k i = sortsL l k i
  | [], k, i => by rw [standL, List.map_nil, rightL, sortsL]
  | x :: r, k, i => by
    have h := stands_as r k (i + 1)
    unfold standL at h ⊢
    rw [List.map_cons, rightL, sortsL, h, stand_as _ (want_3 k i)]
theorem plain_is (k o n : Int) (s : ByteArray) (ns : List ByteArray) (ks : List Nd) (p : Int) :
    plainB (.mk k o n s ns ks p) = (decide (1 ≤ isK (unK k)) && (okB (unK k) o (unM k n) s ns ks.length && sortsL ks (unK k) 0)) := by
  have hl : ∀ a, rightN (lessN (.mk k o n s ns ks p)) a = ((isK (unK k) == a) && (okB (unK k) o (unM k n) s ns ks.length && sortsL ks (unK k) 0)) := fun a => by
    rw [lessN, rightN_mk, stands_as]
    simp [standL]
  generalize hX : (okB (unK k) o (unM k n) s ns ks.length && sortsL ks (unK k) 0) = X at *
  cases hb : (decide (1 ≤ isK (unK k)) && X) with
  | true =>
    rw [Bool.and_eq_true, decide_eq_true_eq] at hb
    have h3 : isK (unK k) ≤ 3 := by
      unfold isK
      split
      · omega
      · split
        · omega
        · split <;> omega
    refine plain_of (a := isK (unK k)) (by omega) ?_
    rw [hl, hb.2]
    simp
  | false =>
    cases hp : plainB (.mk k o n s ns ks p) with
    | false => rfl
    | true =>
      exfalso
      have hr : ∃ a, 1 ≤ a ∧ rightN (lessN (.mk k o n s ns ks p)) a = true := by
        unfold plainB at hp
        rw [beq_iff_eq] at hp
        generalize lessN (.mk k o n s ns ks p) = u at *
        have key : ∀ v : Nd, checkN v = 0 → rightN v 3 = true := fun v h => by
          unfold checkN at h
          split at h
          · cases h
          · split at h
            · assumption
            · cases h
        have h3 := key _ hp
        unfold wrapS wrapE at h3
        split at h3
        · split at h3
          · rename_i h4; cases h4
          · rw [rightN_mk, rightL, rightN_mk, rightL] at h3
            simp only [Bool.and_eq_true] at h3
            have h4 := h3.2.2.1.2.2
            rw [rightL, Bool.and_eq_true] at h4
            exact ⟨1, by omega, h4.1⟩
        · split at h3
          · exact ⟨3, by omega, h3⟩
          · rw [rightN_mk, rightL] at h3
            simp only [Bool.and_eq_true] at h3
            exact ⟨2, by omega, h3.2.2.1⟩
      obtain ⟨a, ha, hr⟩ := hr
      rw [hl, Bool.and_eq_true, beq_iff_eq] at hr
      rw [hr.2, Bool.and_true, decide_eq_false_iff_not] at hb
      omega
set_option maxHeartbeats 4000000 in
theorem own_same (b : Bds) (k o n : Int) (s : ByteArray) (ns : List ByteArray) (c : Nat) :
    (namedB b k n && (decide (1 ≤ isK (unK k)) && okB (unK k) o (unM k n) s ns c)) = (manyD k o ns.length c && fldD b k o n s ns) := by
  have ways : k ≤ 0 ∨ k = 1 ∨ k = 2 ∨ k = 3 ∨ k = 4 ∨ k = 5 ∨ k = 6 ∨ k = 7 ∨ k = 8 ∨ k = 9 ∨ k = 10 ∨ k = 11 ∨ k = 12 ∨ k = 13 ∨ k = 14 ∨ k = 15 ∨ k = 16 ∨ k = 17 ∨ k = 18 ∨ k = 19 ∨ k = 20 ∨ k = 21 ∨ k = 22 ∨ k = 23 ∨ k = 24 ∨ k = 25 ∨ k = 26 ∨ k = 27 ∨ k = 28 ∨ k = 29 ∨ k = 30 ∨ k = 31 ∨ k = 32 ∨ k = 33 ∨ k = 34 ∨ 35 ≤ k := by omega
  have bad : (k ≤ 0 ∨ 35 ≤ k) → isK (unK k) = 0 ∧ manyD k o ns.length c = false := fun h => by
    constructor
    · unfold isK unK
      rw [if_neg (by omega), if_neg (by omega), if_neg (by omega)]
    · unfold manyD
      rw [if_neg (by omega), if_neg (by omega), if_neg (by omega), if_neg (by omega), if_neg (by omega), if_neg (by omega), if_neg (by omega), if_neg (by omega)]
  rcases ways with h | rfl | rfl | rfl | rfl | rfl | rfl | rfl | rfl | rfl | rfl | rfl | rfl | rfl | rfl | rfl | rfl | rfl | rfl | rfl | rfl | rfl | rfl | rfl | rfl | rfl | rfl | rfl | rfl | rfl | rfl | rfl | rfl | rfl | rfl | h
  case inl => rw [(bad (.inl h)).1, (bad (.inl h)).2]; simp
  iterate 34
    · clear bad
      simp [namedB, isK, unK, unM, okB, opOk, numOk, strOk, nsOk, cntOk, manyD, fldD, mostD, opD, strD, nsD, withB]
      try grind
  rw [(bad (.inr h)).1, (bad (.inr h)).2]; simp

def sortsD : List Nd → Int → Nat → Bool
  | [], _, _ => true
  | x :: r, k, i => (sortK x.kind == wantD k i) && sortsD r k (i + 1)
theorem wantD_3 (k : Int) (i : Nat) : wantD k i = 1 ∨ wantD k i = 2 ∨ wantD k i = 3 := by
  unfold wantD
  split
  · omega
  · split <;> omega
theorem kind_in {b : Bds} {k n : Int} (h1 : namedB b k n = true) (h2 : 1 ≤ isK (unK k)) : (1 ≤ k ∧ k ≤ 34) ∧ k ≠ 8 := by
  constructor
  · unfold isK unK at h2
    by_cases h : 1 ≤ k ∧ k ≤ 34
    · exact h
    · rw [if_neg (by omega), if_neg (by omega), if_neg (by omega)] at h2
      omega
  · intro h
    subst h
    simp [namedB] at h1
theorem want_same {k : Int} (h8 : k ≠ 8) (i : Nat) : wantK (unK k) i = wantD k i := by
  unfold wantK wantD unK
  by_cases h1 : k = 18 ∨ k = 19 ∨ k = 20
  · rw [if_pos h1, if_neg (by omega), if_neg (by omega), if_neg (by omega), if_neg (by omega)]
  · rw [if_neg h1]
    by_cases h2 : k = 33 ∨ k = 34
    · rw [if_pos h2, if_neg (by omega), if_neg (by omega), if_neg (by omega), if_neg (by omega)]
    · rw [if_neg h2]
      by_cases h3 : k = 29
      · rw [if_pos (by omega), if_neg (by omega), if_pos h3]
      · rw [if_neg (by omega)]
        by_cases h4 : (k = 28 ∨ k = 30) ∧ 0 < i
        · rw [if_pos h4, if_pos ⟨h4.2, h4.1⟩]
        · rw [if_neg h4, if_neg (fun h => h4 ⟨h.2, h.1⟩), if_neg h3]
theorem sorts_same {k : Int} (h8 : k ≠ 8) : ∀ (l : List Nd) (i : Nat), sortsL l (unK k) i = sortsD l k i
  | [], i => rfl
  | x :: r, i => by rw [sortsL, sortsD, want_same h8, sorts_same h8 r (i + 1)]
theorem sort_same {k : Int} (hk : 1 ≤ k) : isD k = sortK k := by
  unfold isD sortK
  by_cases h1 : k = 29
  · rw [if_pos h1, if_neg (by omega), if_pos h1]
  · rw [if_neg h1]
    by_cases h2 : k ≤ 20
    · rw [if_pos h2, if_pos ⟨hk, h2⟩]
    · rw [if_neg h2, if_neg (by omega), if_neg h1]
mutual
theorem right_same (b : Bds) : ∀ (t : Nd) (a : Nat), rightD b t a = ((sortK t.kind == a) && rightU b t)
  | .mk k o n s ns ks p, a => by
    have hL := rightL_same b ks k 0
    rw [rightD, rightU, hL, plain_is]
    have hO := own_same b k o n s ns ks.length
    have e1 : ((isD k == a) && (manyD k o ns.length ks.length && (fldD b k o n s ns && (sortsD ks k 0 && rightUL b ks)))) = ((isD k == a) && ((manyD k o ns.length ks.length && fldD b k o n s ns) && (sortsD ks k 0 && rightUL b ks))) := by rw [Bool.and_assoc]
    have e2 : (namedB b k n && ((decide (1 ≤ isK (unK k)) && (okB (unK k) o (unM k n) s ns ks.length && sortsL ks (unK k) 0)) && rightUL b ks)) = ((namedB b k n && (decide (1 ≤ isK (unK k)) && okB (unK k) o (unM k n) s ns ks.length)) && (sortsL ks (unK k) 0 && rightUL b ks)) := by simp only [Bool.and_assoc]
    rw [e1, e2, hO]
    cases hM : (manyD k o ns.length ks.length && fldD b k o n s ns) with
    | false => simp
    | true =>
      rw [hM] at hO
      simp only [Bool.and_eq_true, decide_eq_true_eq] at hO
      obtain ⟨h1, h2⟩ := kind_in hO.1 hO.2.1
      rw [sorts_same h2, sort_same h1.1]
      rfl
theorem rightL_same (b : Bds) : ∀ (l : List Nd) (k : Int) (i : Nat), rightDL b l k i = (sortsD l k i && rightUL b l)
  | [], k, i => by rw [rightDL, sortsD, rightUL]; rfl
  | x :: r, k, i => by
    rw [rightDL, sortsD, rightUL, right_same b x, rightL_same b r k (i + 1)]
    cases (sortK x.kind == wantD k i) <;> cases rightU b x <;> simp
end
/-- a function, as the document asks -/
def bodyD (b : Bds) (l : List Nd) : Bool := decide (l.length ≤ 40) && l.all fun x => rightD b x 2
def roomD (i : Nat) (p l : Int) : Bool := decide (0 ≤ p) && (decide (p ≤ 6) && (decide (p ≤ l) && (decide (l ≤ 24) && !(decide (i = 0) && decide (0 < l)))))
theorem room_same (i : Nat) (p l : Int) : roomD i p l = roomB i p l := by
  unfold roomD roomB withB
  by_cases h : i = 0
  · subst h
    rw [Bool.eq_iff_iff]
    simp
    omega
  · rw [Bool.eq_iff_iff]
    simp [h]
    omega
theorem all_same (b : Bds) : ∀ (l : List Nd) (i : Nat), (l.all fun x => rightD b x 2) = (sortsL l 29 i && rightUL b l)
  | [], i => by rw [sortsL, rightUL]; rfl
  | x :: r, i => by
    rw [List.all_cons, all_same b r (i + 1), right_same, sortsL, rightUL]
    have : wantK 29 i = 2 := by unfold wantK; rw [if_pos (.inr rfl)]
    rw [this]
    cases (sortK x.kind == 2) <;> cases rightU b x <;> simp
theorem body_same (b : Bds) (l : List Nd) : bodyD b l = bodyU b l := by
  unfold bodyD bodyU
  rw [rightU, plain_is, all_same b l 0]
  have h1 : namedB b 29 0 = true := by simp [namedB]
  have h2 : decide (1 ≤ isK (unK 29)) = true := by decide
  have h3 : okB (unK 29) 0 (unM 29 0) ⟨#[]⟩ [] l.length = decide (l.length ≤ 40) := by
    simp [okB, unK, unM, opOk, numOk, strOk, nsOk, cntOk]
    intro _
    rfl
  rw [h1, h2, h3]
  simp [Bool.and_assoc, unK]

end Go.Proofs.YtmihckhflbepjaaDoor
