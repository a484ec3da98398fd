/- What all our texts stand on: hidden facts, and chains of calls that leave old memory alone. Nodes as plain data, and what the document says of them as plain functions. Which nodes are right, as a plain function. Whether a tree has few nodes, not too high, with short texts. -/
import Derived.WalkKit
import Derived.WalkLawsBesides
import Derived.WalkSpells
import Derived.Outline
import Derived.Below
import Derived.Test.YtgdbaceehpcgbaaDoorJoint1
namespace Go.Proofs.YtgdbaceehpcgbaaDoor
open Go.RowKit

theorem hid {p : Prop} (h : p) : Hid p := h

theorem below_on {a b c : World} (h : Below a.heap.size a b) (k : Below b.heap.size b c) : Below a.heap.size a c := h.trans (k.mono h.size)
theorem below_in {B : Nat} {a b c : World} (h : Below B a b) (hB : B ≤ a.heap.size) (k : Below b.heap.size b c) : Below B a c := h.trans (k.mono (Nat.le_trans hB h.size))

end Go.Proofs.YtgdbaceehpcgbaaDoor

namespace Go.Proofs.YtgdbaceehpcgbaaDoor
open Go.RowKit

/-- a node: kind, sign, number, text, names, kids, place -/
inductive Nd where
  | mk (kind op num : Int) (str : ByteArray) (names : List ByteArray) (kids : List Nd) (pl : Int) : Nd

def Nd.kind : Nd → Int | .mk k _ _ _ _ _ _ => k
def Nd.op : Nd → Int | .mk _ o _ _ _ _ _ => o
def Nd.num : Nd → Int | .mk _ _ n _ _ _ _ => n
def Nd.str : Nd → ByteArray | .mk _ _ _ s _ _ _ => s
def Nd.names : Nd → List ByteArray | .mk _ _ _ _ ns _ _ => ns
def Nd.kids : Nd → List Nd | .mk _ _ _ _ _ ks _ => ks
def Nd.pl : Nd → Int | .mk _ _ _ _ _ _ p => p

mutual
theorem Nd.ind {P : Nd → Prop} (h : ∀ k o n s ns ks p, (∀ x ∈ ks, P x) → P (.mk k o n s ns ks p)) : ∀ t, P t
  | .mk k o n s ns ks p => h k o n s ns ks p (Nd.indL h ks)
theorem Nd.indL {P : Nd → Prop} (h : ∀ k o n s ns ks p, (∀ x ∈ ks, P x) → P (.mk k o n s ns ks p)) : ∀ (ks : List Nd) (x : Nd), x ∈ ks → P x
  | [], x, hx => by cases hx
  | k :: ks, x, hx => by
    rcases List.mem_cons.1 hx with e | hx
    · rw [e]; exact Nd.ind h k
    · exact Nd.indL h ks x hx
end

/-! how high, and how many -/
mutual
def highN : Nd → Nat
  | .mk _ _ _ _ _ ks _ => highL ks + 1
def highL : List Nd → Nat
  | [] => 0
  | k :: ks => max (highN k) (highL ks)
end
mutual
def countN : Nd → Nat
  | .mk _ _ _ _ _ ks _ => countL ks + 1
def countL : List Nd → Nat
  | [] => 0
  | k :: ks => countN k + countL ks
end

theorem highL_snoc (l : List Nd) (x : Nd) : highL (l ++ [x]) = max (highL l) (highN x) := by
  induction l with
  | nil => simp [highL]
  | cons k ks ih => simp only [List.cons_append, highL, ih]; omega
theorem countL_snoc (l : List Nd) (x : Nd) : countL (l ++ [x]) = countL l + countN x := by
  induction l with
  | nil => simp [countL]
  | cons k ks ih => simp only [List.cons_append, countL, ih]; omega
theorem countL_append (l m : List Nd) : countL (l ++ m) = countL l + countL m := by
  induction l with
  | nil => simp [countL]
  | cons k ks ih => simp only [List.cons_append, countL, ih]; omega
theorem countN_pos (t : Nd) : 1 ≤ countN t := by cases t; simp [countN]
theorem highN_pos (t : Nd) : 1 ≤ highN t := by cases t; simp [highN]
theorem count_mem {x : Nd} : ∀ {l : List Nd}, x ∈ l → countN x ≤ countL l
  | k :: ks, h => by
    rcases List.mem_cons.1 h with e | h
    · rw [e]; simp [countL]
    · have := count_mem h; simp [countL]; omega
theorem high_mem {x : Nd} : ∀ {l : List Nd}, x ∈ l → highN x ≤ highL l
  | k :: ks, h => by
    rcases List.mem_cons.1 h with e | h
    · rw [e]; simp [highL]; omega
    · have := high_mem h; simp [highL]; omega
theorem length_count : ∀ l : List Nd, l.length ≤ countL l
  | [] => Nat.le_refl _
  | k :: ks => by have := length_count ks; have := countN_pos k; simp [countL]; omega
theorem countL_take (l : List Nd) (i : Nat) : countL (l.take i) ≤ countL l := by
  have : countL (l.take i ++ l.drop i) = countL (l.take i) + countL (l.drop i) := countL_append _ _
  rw [List.take_append_drop] at this
  omega
theorem high_le_count (t : Nd) : highN t ≤ countN t := by
  refine Nd.ind (P := fun t => highN t ≤ countN t) ?_ t
  intro k o n s ns ks p ih
  simp only [highN, countN]
  have : highL ks ≤ countL ks := by
    clear k o n s ns p
    induction ks with
    | nil => simp [highL]
    | cons x xs ih2 =>
      have h1 := ih x (by simp)
      have h2 := ih2 (fun y hy => ih y (by simp [hy]))
      simp [highL, countL]; omega
  omega

theorem highL_count : ∀ l : List Nd, highL l ≤ countL l
  | [] => Nat.le_refl _
  | k :: ks => by have := highL_count ks; have := high_le_count k; simp [highL, countL]; omega
theorem highL_append (l m : List Nd) : highL (l ++ m) = max (highL l) (highL m) := by
  induction l with
  | nil => simp [highL]
  | cons k ks ih => simp only [List.cons_append, highL, ih]; omega
theorem highL_take (l : List Nd) (i : Nat) : highL (l.take i) ≤ highL l := by
  have : highL (l.take i ++ l.drop i) = max (highL (l.take i)) (highL (l.drop i)) := highL_append _ _
  rw [List.take_append_drop] at this
  omega

/-! whether two are alike -/
def namesB (ns ns' : List ByteArray) : Bool := ns.map (·.data.toList) == ns'.map (·.data.toList)
/-- their own fields, and how many kids there are -/
def alikeB (k o n : Int) (s : ByteArray) (ns : List ByteArray) (c : Nat) (k' o' n' : Int) (s' : ByteArray) (ns' : List ByteArray) (c' : Nat) : Bool :=
  (k == k') && ((o == o') && ((n == n') && ((s.data.toList == s'.data.toList) && (namesB ns ns' && (c == c')))))
mutual
def sameN : Nd → Nd → Bool
  | .mk k o n s ns ks _, .mk k' o' n' s' ns' ks' _ => (k == k') && ((o == o') && ((n == n') && ((s.data.toList == s'.data.toList) && (namesB ns ns' && sameL ks ks'))))
def sameL : List Nd → List Nd → Bool
  | [], [] => true
  | a :: as', b :: bs => sameN a b && sameL as' bs
  | _, _ => false
end

theorem sameL_length : ∀ (l m : List Nd), sameL l m = true → l.length = m.length
  | [], [], _ => rfl
  | a :: l, b :: m, h => by
    rw [sameL, Bool.and_eq_true] at h
    have := sameL_length l m h.2
    simp [this]
  | [], b :: m, h => by simp [sameL] at h
  | a :: l, [], h => by simp [sameL] at h
theorem sameL_all : ∀ (l m : List Nd), l.length = m.length → (∀ (i : Nat) (h : i < l.length) (h' : i < m.length), sameN l[i] m[i] = true) → sameL l m = true
  | [], [], _, _ => by rw [sameL]
  | a :: l, b :: m, hl, h => by
    rw [sameL, Bool.and_eq_true]
    exact ⟨h 0 (by simp) (by simp), sameL_all l m (by simpa using hl) (fun i h1 h2 => h (i + 1) (by simpa using h1) (by simpa using h2))⟩
theorem sameL_not : ∀ (l m : List Nd) (i : Nat) (h : i < l.length) (h' : i < m.length), sameN l[i] m[i] = false → sameL l m = false
  | a :: l, b :: m, 0, _, _, h => by rw [sameL, Bool.and_eq_false_iff]; exact .inl h
  | a :: l, b :: m, i + 1, h1, h2, h => by
    rw [sameL, Bool.and_eq_false_iff]
    exact .inr (sameL_not l m i (by simpa using h1) (by simpa using h2) h)
theorem sameL_short (l m : List Nd) (h : l.length ≠ m.length) : sameL l m = false := by
  cases hq : sameL l m with
  | false => rfl
  | true => exact absurd (sameL_length l m hq) h
theorem sameN_mk (k o n : Int) (s : ByteArray) (ns : List ByteArray) (ks : List Nd) (p k' o' n' : Int) (s' : ByteArray) (ns' : List ByteArray) (ks' : List Nd) (p' : Int) :
    sameN (.mk k o n s ns ks p) (.mk k' o' n' s' ns' ks' p') = (alikeB k o n s ns ks.length k' o' n' s' ns' ks'.length && sameL ks ks') := by
  rw [sameN]
  unfold alikeB
  cases hq : sameL ks ks' with
  | false => simp
  | true => simp [sameL_length _ _ hq]

theorem names_short {l m : List ByteArray} (h : l.length ≠ m.length) : namesB l m = false := by
  unfold namesB
  rw [beq_eq_false_iff_ne]
  intro e
  exact h (by simpa using congrArg List.length e)
theorem names_all {l m : List ByteArray} (hl : l.length = m.length) (h : ∀ (i : Nat) (h : i < l.length) (h' : i < m.length), l[i].data.toList = m[i].data.toList) : namesB l m = true := by
  unfold namesB
  rw [beq_iff_eq]
  refine List.ext_getElem (by simpa using hl) ?_
  intro i h1 h2
  simpa using h i (by simpa using h1) (by simpa using h2)
theorem names_not {l m : List ByteArray} {i : Nat} (h : i < l.length) (h' : i < m.length) (hn : l[i].data.toList ≠ m[i].data.toList) : namesB l m = false := by
  unfold namesB
  rw [beq_eq_false_iff_ne]
  intro e
  have : (l.map (·.data.toList))[i]? = (m.map (·.data.toList))[i]? := by rw [e]
  rw [List.getElem?_eq_getElem (by simpa using h), List.getElem?_eq_getElem (by simpa using h')] at this
  exact hn (by simpa using this)

mutual
theorem sameN_refl : ∀ t : Nd, sameN t t = true
  | .mk k o n s ns ks p => by
    rw [sameN]
    simp [sameL_refl ks, namesB]
theorem sameL_refl : ∀ l : List Nd, sameL l l = true
  | [] => by rw [sameL]
  | a :: l => by rw [sameL, sameN_refl a, sameL_refl l]; rfl
end
theorem sameN_place (k o n : Int) (s : ByteArray) (ns : List ByteArray) (ks : List Nd) (p p' : Int) : sameN (.mk k o n s ns ks p) (.mk k o n s ns ks p') = true := by
  rw [sameN, sameL_refl]
  simp [namesB]

end Go.Proofs.YtgdbaceehpcgbaaDoor

namespace Go.Proofs.YtgdbaceehpcgbaaDoor
open Go.RowKit

/-- signs between two, by their numbers -/
def tsgnL : List (List UInt8) := [[], [43], [45], [42], [47], [37], [60], [60, 61], [62], [62, 61], [61, 61], [33, 61]]
def signT (o : Int) : List UInt8 := if o < 0 then [] else tsgnL.getD o.toNat []
/-- built-in calls: name, and how many parts -/
def builtL : List (List UInt8 × Nat) := [([], 0), ([99, 111, 117, 110, 116], 1), ([107, 101, 121], 2), ([104, 97, 115], 2), ([112, 114, 111, 116, 111], 1), ([115, 101, 116, 112, 114, 111, 116, 111], 2), ([108, 101, 110], 1), ([115, 116, 114], 1)]
def builtT (o : Int) : List UInt8 × Nat := if o < 0 then ([], 0) else builtL.getD o.toNat ([], 0)
/-- how tight a sign is -/
def rankT (k o : Int) : Int :=
  if k = 12 then 1 else if k = 11 then 2 else if k = 10 then (if o = 10 ∨ o = 11 then 3 else if 6 ≤ o ∧ o ≤ 9 then 4 else if o = 1 ∨ o = 2 then 5 else if 3 ≤ o ∧ o ≤ 5 then 6 else 9)
  else if k = 9 then 7 else if 13 ≤ k ∧ k ≤ 16 then 8 else if 1 ≤ k ∧ k ≤ 20 then 9 else 0

/-- an expression 1, a statement that is no block 2, a block 3 -/
def isK (k : Int) : Nat := if 1 ≤ k ∧ k ≤ 17 then 1 else if k = 29 then 3 else if 21 ≤ k ∧ k ≤ 32 then 2 else 0
/-- what a kid is to be -/
def wantK (k : Int) (i : Nat) : Nat := if k = 8 ∨ k = 29 then 2 else if (k = 28 ∨ k = 30) ∧ 0 < i then 3 else 1

def properB (s : ByteArray) : Bool := nameB s.data.toList && !keyB s.data.toList
def propB (s : ByteArray) : Bool := nameB s.data.toList
def opOk (k o : Int) : Bool := if k = 9 then decide (1 ≤ o ∧ o ≤ 2) else if k = 10 then decide (1 ≤ o ∧ o ≤ 11) else if k = 17 then decide (1 ≤ o ∧ o ≤ 7) else decide (o = 0)
def numOk (k n : Int) : Bool := if k = 2 then decide (n = 0 ∨ n = 1) else if k = 3 then decide (0 ≤ n ∧ n ≤ 4611686018427387903) else decide (n = 0)
def strOk (k : Int) (s : ByteArray) : Bool :=
  if k = 4 then decide (s.size ≤ 256) else if k = 5 ∨ k = 21 ∨ k = 22 then properB s else if k = 13 ∨ k = 16 ∨ k = 23 ∨ k = 25 then propB s else decide (s.size = 0)
def nsOk (k : Int) (ns : List ByteArray) : Bool :=
  if k = 7 then decide (ns.length ≤ 40) && ns.all propB else if k = 8 then decide (ns.length ≤ 6) && ns.all properB else decide (ns.length = 0)
def cntOk (k o : Int) (m c : Nat) : Bool :=
  if 1 ≤ k ∧ k ≤ 6 then decide (c = 0) else if k = 7 then decide (c = m) else if k = 8 ∨ k = 29 then decide (c ≤ 40)
  else if k = 9 ∨ k = 13 ∨ k = 21 ∨ k = 22 ∨ k = 25 ∨ k = 27 ∨ k = 31 ∨ k = 32 then decide (c = 1)
  else if k = 10 ∨ k = 11 ∨ k = 12 ∨ k = 14 ∨ k = 23 ∨ k = 26 ∨ k = 30 then decide (c = 2)
  else if k = 15 ∨ k = 16 then decide (1 ≤ c ∧ c ≤ 7) else if k = 17 then decide (c = (builtT o).2) else if k = 24 ∨ k = 28 then decide (c = 3) else false
/-- a node's own fields, and how many kids it has, are those of its kind -/
def okB (k o n : Int) (s : ByteArray) (ns : List ByteArray) (c : Nat) : Bool := opOk k o && (numOk k n && (strOk k s && (nsOk k ns && cntOk k o ns.length c)))

mutual
/-- right as an expression (1), a statement (2), a block (3) -/
def rightN : Nd → Nat → Bool
  | .mk k o n s ns ks _, a => (isK k == a) && (okB k o n s ns ks.length && rightL ks k 0)
def rightL : List Nd → Int → Nat → Bool
  | [], _, _ => true
  | x :: r, k, i => rightN x (wantK k i) && rightL r k (i + 1)
end
theorem rightN_mk (k o n : Int) (s : ByteArray) (ns : List ByteArray) (ks : List Nd) (p : Int) (a : Nat) : rightN (.mk k o n s ns ks p) a = ((isK k == a) && (okB k o n s ns ks.length && rightL ks k 0)) := by rw [rightN]

/-- all kids are wanted alike -/
theorem rightL_all {k : Int} {a : Nat} (h : ∀ i, wantK k i = a) : ∀ (ks : List Nd) (i : Nat), rightL ks k i = !ks.any fun x => !rightN x a
  | [], i => by rw [rightL]; rfl
  | x :: r, i => by
    rw [rightL, h, rightL_all h r (i + 1), List.any_cons]
    cases rightN x a <;> simp

theorem isK_not3 {k : Int} (h : k ≠ 29) : (isK k == 3) = false := by
  unfold isK; rw [beq_eq_false_iff_ne]; grind
theorem isK_not1 {k : Int} (h : ¬(1 ≤ k ∧ k ≤ 17)) : (isK k == 1) = false := by
  unfold isK; rw [beq_eq_false_iff_ne]; grind
theorem isK_not2 {k : Int} (h : ¬(21 ≤ k ∧ k ≤ 32) ∨ k = 29) : (isK k == 2) = false := by
  unfold isK; rw [beq_eq_false_iff_ne]; grind

/-- what Check says -/
def checkN (t : Nd) : Int := if 12 < highN t then 13 else if rightN t 3 then 0 else 2

end Go.Proofs.YtgdbaceehpcgbaaDoor

namespace Go.Proofs.YtgdbaceehpcgbaaDoor
open Go.RowKit

def longB (ns : List ByteArray) : Bool := ns.any fun x => decide (100 < x.size)
mutual
/-- how many nodes may come yet -/
def leftN : Nd → Int → Nat → Int
  | .mk _ _ _ s ns ks _, m, h => if h = 0 ∨ 600 < s.size ∨ 60 < ns.length then -1 else if longB ns then -1 else leftL ks (m - 1) (h - 1)
def leftL : List Nd → Int → Nat → Int
  | [], m, _ => m
  | x :: r, m, h => if m < 0 then m else leftL r (leftN x m h) h
end
mutual
/-- texts are short all along -/
def smallN : Nd → Bool
  | .mk _ _ _ s ns ks _ => decide (s.size ≤ 600) && (decide (ns.length ≤ 60) && (!longB ns && smallL ks))
def smallL : List Nd → Bool
  | [] => true
  | x :: r => smallN x && smallL r
end

theorem leftL_neg : ∀ (l : List Nd) (m : Int) (h : Nat), m < 0 → leftL l m h = m
  | [], m, h, _ => by rw [leftL]
  | x :: r, m, h, hm => by rw [leftL, if_pos hm]

mutual
theorem leftN_bounds : ∀ (t : Nd) (m : Int) (h : Nat), 0 ≤ m → -1 ≤ leftN t m h ∧ leftN t m h ≤ m - 1
  | .mk _ _ _ s ns ks _, m, h, hm => by
    rw [leftN]
    split
    · omega
    · split
      · omega
      · have := leftL_bounds ks (m - 1) (h - 1) (by omega)
        omega
theorem leftL_bounds : ∀ (l : List Nd) (m : Int) (h : Nat), -1 ≤ m → -1 ≤ leftL l m h ∧ leftL l m h ≤ m
  | [], m, h, hm => by rw [leftL]; omega
  | x :: r, m, h, hm => by
    rw [leftL]
    split
    · omega
    · have h1 := leftN_bounds x m h (by omega)
      have h2 := leftL_bounds r (leftN x m h) h h1.1
      omega
end

mutual
theorem leftN_count : ∀ (t : Nd) (m : Int) (h : Nat), 0 ≤ leftN t m h → leftN t m h = m - countN t ∧ highN t ≤ h ∧ smallN t = true
  | .mk _ _ _ s ns ks _, m, h, hm => by
    rw [leftN] at hm ⊢
    split at hm
    · omega
    · rename_i h1
      rw [if_neg h1]
      simp only [not_or] at h1
      split at hm
      · omega
      · rename_i h2
        rw [if_neg h2]
        obtain ⟨e1, e2, e3⟩ := leftL_count ks (m - 1) (h - 1) hm
        have h2' : longB ns = false := by simpa using h2
        refine ⟨by rw [countN]; omega, by rw [highN]; omega, ?_⟩
        rw [smallN, e3, h2', decide_eq_true (by omega), decide_eq_true (by omega)]; rfl
theorem leftL_count : ∀ (l : List Nd) (m : Int) (h : Nat), 0 ≤ leftL l m h → leftL l m h = m - countL l ∧ highL l ≤ h ∧ smallL l = true
  | [], m, h, hm => by rw [leftL] at hm ⊢; exact ⟨by rw [countL]; omega, by rw [highL]; omega, by rw [smallL]⟩
  | x :: r, m, h, hm => by
    rw [leftL] at hm ⊢
    split at hm
    · omega
    · rename_i h1
      rw [if_neg h1]
      obtain ⟨e1, e2, e3⟩ := leftL_count r (leftN x m h) h hm
      have h0 : 0 ≤ leftN x m h := by omega
      obtain ⟨f1, f2, f3⟩ := leftN_count x m h h0
      exact ⟨by rw [e1, f1, countL]; omega, by rw [highL]; omega, by rw [smallL, e3, f3]; rfl⟩
end

/-- few -/
def fewB (t : Nd) : Bool := decide (0 ≤ leftN t 300 40)
theorem few_count {t : Nd} (h : fewB t = true) : countN t ≤ 300 ∧ highN t ≤ 40 ∧ smallN t = true := by
  have h0 : 0 ≤ leftN t 300 40 := of_decide_eq_true h
  obtain ⟨e1, e2, e3⟩ := leftN_count t 300 40 h0
  exact ⟨by omega, e2, e3⟩

theorem long_yes {ns : List ByteArray} {j : Nat} (hj : j < ns.length) (h : 100 < ns[j].size) : longB ns = true := by
  unfold longB; rw [List.any_eq_true]; exact ⟨_, List.getElem_mem hj, by simpa using h⟩
theorem long_no {ns : List ByteArray} (h : ∀ (j : Nat) (hj : j < ns.length), ns[j].size ≤ 100) : longB ns = false := by
  unfold longB; rw [List.any_eq_false]
  intro x hx
  obtain ⟨j, hj, rfl⟩ := List.getElem_of_mem hx
  have := h j hj
  simp; omega

theorem small_mk {k o n : Int} {s : ByteArray} {ns : List ByteArray} {ks : List Nd} {p : Int} (h : smallN (.mk k o n s ns ks p) = true) : s.size ≤ 600 ∧ ns.length ≤ 60 ∧ (∀ x ∈ ns, x.size ≤ 100) ∧ ∀ x ∈ ks, smallN x = true := by
  rw [smallN] at h
  simp only [Bool.and_eq_true, decide_eq_true_eq, Bool.not_eq_true'] at h
  obtain ⟨h1, h2, h3, h4⟩ := h
  refine ⟨h1, h2, ?_, ?_⟩
  · intro x hx
    unfold longB at h3
    rw [List.any_eq_false] at h3
    have := h3 x hx
    simp at this; omega
  · clear h1 h2 h3
    induction ks with
    | nil => intro x hx; cases hx
    | cons y r ih =>
      rw [smallL, Bool.and_eq_true] at h4
      intro x hx
      rcases List.mem_cons.1 hx with e | hx
      · rw [e]; exact h4.1
      · exact ih h4.2 x hx

end Go.Proofs.YtgdbaceehpcgbaaDoor
