/- Nodes as plain data, and what the document says of them as plain functions. -/
import Derived.WalkKit
import Derived.Test.YteoghacpdfnijaaDoorLexPlain
namespace Go.Proofs.YteoghacpdfnijaaDoor
open Go.RowKit

/-- a node: kind, sign, number, text, names, kids, place -/
inductive Nd where
  | mk (kind op num : Int) (str : ByteArray) (names : List ByteArray) (kids : List Nd) (pl : Int) : Nd

def Nd.kind : Nd → Int | .mk k _ _ _ _ _ _ => k
def Nd.op : Nd → Int | .mk _ o _ _ _ _ _ => o
def Nd.num : Nd → Int | .mk _ _ n _ _ _ _ => n
def Nd.str : Nd → ByteArray | .mk _ _ _ s _ _ _ => s
def Nd.names : Nd → List ByteArray | .mk _ _ _ _ ns _ _ => ns
def Nd.kids : Nd → List Nd | .mk _ _ _ _ _ ks _ => ks
def Nd.pl : Nd → Int | .mk _ _ _ _ _ _ p => p

mutual
theorem Nd.ind {P : Nd → Prop} (h : ∀ k o n s ns ks p, (∀ x ∈ ks, P x) → P (.mk k o n s ns ks p)) : ∀ t, P t
  | .mk k o n s ns ks p => h k o n s ns ks p (Nd.indL h ks)
theorem Nd.indL {P : Nd → Prop} (h : ∀ k o n s ns ks p, (∀ x ∈ ks, P x) → P (.mk k o n s ns ks p)) : ∀ (ks : List Nd) (x : Nd), x ∈ ks → P x
  | [], x, hx => by cases hx
  | k :: ks, x, hx => by
    rcases List.mem_cons.1 hx with e | hx
    · rw [e]; exact Nd.ind h k
    · exact Nd.indL h ks x hx
end

/-! how high, and how many -/
mutual
def highN : Nd → Nat
  | .mk _ _ _ _ _ ks _ => highL ks + 1
def highL : List Nd → Nat
  | [] => 0
  | k :: ks => max (highN k) (highL ks)
end
mutual
def countN : Nd → Nat
  | .mk _ _ _ _ _ ks _ => countL ks + 1
def countL : List Nd → Nat
  | [] => 0
  | k :: ks => countN k + countL ks
end

theorem highL_snoc (l : List Nd) (x : Nd) : highL (l ++ [x]) = max (highL l) (highN x) := by
  induction l with
  | nil => simp [highL]
  | cons k ks ih => simp only [List.cons_append, highL, ih]; omega
theorem countL_snoc (l : List Nd) (x : Nd) : countL (l ++ [x]) = countL l + countN x := by
  induction l with
  | nil => simp [countL]
  | cons k ks ih => simp only [List.cons_append, countL, ih]; omega
theorem countL_append (l m : List Nd) : countL (l ++ m) = countL l + countL m := by
  induction l with
  | nil => simp [countL]
  | cons k ks ih => simp only [List.cons_append, countL, ih]; omega
theorem countN_pos (t : Nd) : 1 ≤ countN t := by cases t; simp [countN]
theorem highN_pos (t : Nd) : 1 ≤ highN t := by cases t; simp [highN]
theorem count_mem {x : Nd} : ∀ {l : List Nd}, x ∈ l → countN x ≤ countL l
  | k :: ks, h => by
    rcases List.mem_cons.1 h with e | h
    · rw [e]; simp [countL]
    · have := count_mem h; simp [countL]; omega
theorem high_mem {x : Nd} : ∀ {l : List Nd}, x ∈ l → highN x ≤ highL l
  | k :: ks, h => by
    rcases List.mem_cons.1 h with e | h
    · rw [e]; simp [highL]; omega
    · have := high_mem h; simp [highL]; omega
theorem length_count : ∀ l : List Nd, l.length ≤ countL l
  | [] => Nat.le_refl _
  | k :: ks => by have := length_count ks; have := countN_pos k; simp [countL]; omega
theorem countL_take (l : List Nd) (i : Nat) : countL (l.take i) ≤ countL l := by
  have : countL (l.take i ++ l.drop i) = countL (l.take i) + countL (l.drop i) := countL_append _ _
  rw [List.take_append_drop] at this
  omega
theorem high_le_count (t : Nd) : highN t ≤ countN t := by
  refine Nd.ind (P := fun t => highN t ≤ countN t) ?_ t
  intro k o n s ns ks p ih
  simp only [highN, countN]
  have : highL ks ≤ countL ks := by
    clear k o n s ns p
    induction ks with
    | nil => simp [highL]
    | cons x xs ih2 =>
      have h1 := ih x (by simp)
      have h2 := ih2 (fun y hy => ih y (by simp [hy]))
      simp [highL, countL]; omega
  omega

theorem highL_count : ∀ l : List Nd, highL l ≤ countL l
  | [] => Nat.le_refl _
  | k :: ks => by have := highL_count ks; have := high_le_count k; simp [highL, countL]; omega
theorem highL_append (l m : List Nd) : highL (l ++ m) = max (highL l) (highL m) := by
  induction l with
  | nil => simp [highL]
  | cons k ks ih => simp only [List.cons_append, highL, ih]; omega
theorem highL_take (l : List Nd) (i : Nat) : highL (l.take i) ≤ highL l := by
  have : highL (l.take i ++ l.drop i) = max (highL (l.take i)) (highL (l.drop i)) := highL_append _ _
  rw [List.take_append_drop] at this
  omega

/-! whether two are alike -/
def namesB (ns ns' : List ByteArray) : Bool := ns.map (·.data.toList) == ns'.map (·.data.toList)
/-- their own fields, and how many kids there are -/
def alikeB (k o n : Int) (s : ByteArray) (ns : List ByteArray) (c : Nat) (k' o' n' : Int) (s' : ByteArray) (ns' : List ByteArray) (c' : Nat) : Bool :=
  (k == k') && ((o == o') && ((n == n') && ((s.data.toList == s'.data.toList) && (namesB ns ns' && (c == c')))))
mutual
def sameN : Nd → Nd → Bool
  | .mk k o n s ns ks _, .mk k' o' n' s' ns' ks' _ => (k == k') && ((o == o') && ((n == n') && ((s.data.toList == s'.data.toList) && (namesB ns ns' && sameL ks ks'))))
def sameL : List Nd → List Nd → Bool
  | [], [] => true
  | a :: as', b :: bs => sameN a b && sameL as' bs
  | _, _ => false
end

theorem sameL_length : ∀ (l m : List Nd), sameL l m = true → l.length = m.length
  | [], [], _ => rfl
  | a :: l, b :: m, h => by
    rw [sameL, Bool.and_eq_true] at h
    have := sameL_length l m h.2
    simp [this]
  | [], b :: m, h => by simp [sameL] at h
  | a :: l, [], h => by simp [sameL] at h
theorem sameL_all : ∀ (l m : List Nd), l.length = m.length → (∀ (i : Nat) (h : i < l.length) (h' : i < m.length), sameN l[i] m[i] = true) → sameL l m = true
  | [], [], _, _ => by rw [sameL]
  | a :: l, b :: m, hl, h => by
    rw [sameL, Bool.and_eq_true]
    exact ⟨h 0 (by simp) (by simp), sameL_all l m (by simpa using hl) (fun i h1 h2 => h (i + 1) (by simpa using h1) (by simpa using h2))⟩
theorem sameL_not : ∀ (l m : List Nd) (i : Nat) (h : i < l.length) (h' : i < m.length), sameN l[i] m[i] = false → sameL l m = false
  | a :: l, b :: m, 0, _, _, h => by rw [sameL, Bool.and_eq_false_iff]; exact .inl h
  | a :: l, b :: m, i + 1, h1, h2, h => by
    rw [sameL, Bool.and_eq_false_iff]
    exact .inr (sameL_not l m i (by simpa using h1) (by simpa using h2) h)
theorem sameL_short (l m : List Nd) (h : l.length ≠ m.length) : sameL l m = false := by
  cases hq : sameL l m with
  | false => rfl
  | true => exact absurd (sameL_length l m hq) h
theorem sameN_mk (k o n : Int) (s : ByteArray) (ns : List ByteArray) (ks : List Nd) (p k' o' n' : Int) (s' : ByteArray) (ns' : List ByteArray) (ks' : List Nd) (p' : Int) :
    sameN (.mk k o n s ns ks p) (.mk k' o' n' s' ns' ks' p') = (alikeB k o n s ns ks.length k' o' n' s' ns' ks'.length && sameL ks ks') := by
  rw [sameN]
  unfold alikeB
  cases hq : sameL ks ks' with
  | false => simp
  | true => simp [sameL_length _ _ hq]

theorem names_short {l m : List ByteArray} (h : l.length ≠ m.length) : namesB l m = false := by
  unfold namesB
  rw [beq_eq_false_iff_ne]
  intro e
  exact h (by simpa using congrArg List.length e)
theorem names_all {l m : List ByteArray} (hl : l.length = m.length) (h : ∀ (i : Nat) (h : i < l.length) (h' : i < m.length), l[i].data.toList = m[i].data.toList) : namesB l m = true := by
  unfold namesB
  rw [beq_iff_eq]
  refine List.ext_getElem (by simpa using hl) ?_
  intro i h1 h2
  simpa using h i (by simpa using h1) (by simpa using h2)
theorem names_not {l m : List ByteArray} {i : Nat} (h : i < l.length) (h' : i < m.length) (hn : l[i].data.toList ≠ m[i].data.toList) : namesB l m = false := by
  unfold namesB
  rw [beq_eq_false_iff_ne]
  intro e
  have : (l.map (·.data.toList))[i]? = (m.map (·.data.toList))[i]? := by rw [e]
  rw [List.getElem?_eq_getElem (by simpa using h), List.getElem?_eq_getElem (by simpa using h')] at this
  exact hn (by simpa using this)

mutual
theorem sameN_refl : ∀ t : Nd, sameN t t = true
  | .mk k o n s ns ks p => by
    rw [sameN]
    simp [sameL_refl ks, namesB]
theorem sameL_refl : ∀ l : List Nd, sameL l l = true
  | [] => by rw [sameL]
  | a :: l => by rw [sameL, sameN_refl a, sameL_refl l]; rfl
end
theorem sameN_place (k o n : Int) (s : ByteArray) (ns : List ByteArray) (ks : List Nd) (p p' : Int) : sameN (.mk k o n s ns ks p) (.mk k o n s ns ks p') = true := by
  rw [sameN, sameL_refl]
  simp [namesB]

end Go.Proofs.YteoghacpdfnijaaDoor
