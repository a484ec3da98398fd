/- Shapes as a plain list: a prototype, and names. A table of texts in memory, and what it tells. -/
import Derived.Test.YtimhgbcanmgajaaGreatJoint3
import Derived.BigQuiet
namespace Go.Proofs.YtimhgbcanmgajaaGreat
open Go.RowKit

abbrev Sh := Int × List Int
/-- where a shape stands -/
def atS : List Sh → Sh → Option Nat
  | [], _ => none
  | x :: r, s => if x = s then some 0 else (atS r s).map (· + 1)
theorem atS_at : ∀ {L : List Sh} {s : Sh} {i : Nat}, atS L s = some i → L[i]? = some s
  | [], _, _, h => by cases h
  | x :: r, s, i, h => by
    unfold atS at h
    by_cases hx : x = s
    · rw [if_pos hx] at h; cases h; simp [hx]
    · rw [if_neg hx] at h
      obtain ⟨j, hj, rfl⟩ := Option.map_eq_some_iff.1 h
      simpa using atS_at hj
theorem lt_of_get {α : Type} {L : List α} {s : α} {i : Nat} (h : L[i]? = some s) : i < L.length := (List.getElem?_eq_some_iff.1 h).1
theorem atS_lt {L : List Sh} {s : Sh} {i : Nat} (h : atS L s = some i) : i < L.length := lt_of_get (atS_at h)
theorem atS_no : ∀ {L : List Sh} {s : Sh}, atS L s = none → ∀ i : Nat, L[i]? ≠ some s
  | [], _, _, i, hx => by simp at hx
  | y :: r, s, h, i, hx => by
    unfold atS at h
    by_cases hy : y = s
    · rw [if_pos hy] at h; cases h
    · rw [if_neg hy] at h
      cases i with
      | zero => simp at hx; exact hy hx
      | succ i => exact atS_no (Option.map_eq_none_iff.1 h) i (by simpa using hx)
theorem atS_none {L : List Sh} {s : Sh} (h : ∀ i : Nat, L[i]? ≠ some s) : atS L s = none := by
  cases hh : atS L s with
  | none => rfl
  | some i => exact absurd (atS_at hh) (h i)
theorem atS_snoc : ∀ (L : List Sh) (s x : Sh), atS (L ++ [s]) x = if (atS L x).isSome then atS L x else if s = x then some L.length else none
  | [], s, x => by simp [atS]
  | y :: r, s, x => by
    simp only [List.cons_append, atS, atS_snoc r s x]
    by_cases he : y = x
    · simp [he]
    · simp only [if_neg he]
      rcases Option.eq_none_or_eq_some (atS r x) with h1 | ⟨j, h1⟩ <;> by_cases h : s = x <;> simp [h, h1]

/-- a forest's list: each shape once, behind its parent -/
structure WfS (M : Nat) (L : List Sh) : Prop where
  most : M ≤ 150
  len : L.length ≤ M
  once : ∀ (i j : Nat) (s : Sh), L[i]? = some s → L[j]? = some s → i = j
  up : ∀ (i : Nat) (p : Int) (ns : List Int) (x : Int), L[i]? = some (p, ns ++ [x]) → ∃ j : Nat, j < i ∧ L[j]? = some (p, ns)
  few : ∀ (i : Nat) (s : Sh), L[i]? = some s → s.2.length ≤ 12
  names : ∀ (i : Nat) (s : Sh), L[i]? = some s → s.2.Nodup
  pos : ∀ (i : Nat) (s : Sh), L[i]? = some s → 0 ≤ s.1 ∧ I64 s.1
  fits : ∀ (i : Nat) (s : Sh), L[i]? = some s → ∀ x ∈ s.2, I64 x
theorem WfS.at' {M : Nat} {L : List Sh} {s : Sh} {i : Nat} (h : WfS M L) (hi : L[i]? = some s) : atS L s = some i := by
  cases hh : atS L s with
  | none => exact absurd hi (atS_no hh i)
  | some j => rw [h.once j i s (atS_at hh) hi]
theorem wfS_nil {M : Nat} (h : M ≤ 150) : WfS M [] := ⟨h, Nat.zero_le _, fun _ _ _ h => by simp at h, fun _ _ _ _ h => by simp at h, fun _ _ h => by simp at h, fun _ _ h => by simp at h, fun _ _ h => by simp at h, fun _ _ h => by simp at h⟩
theorem get_snoc {α : Type} {L : List α} {s t : α} {i : Nat} (h : (L ++ [s])[i]? = some t) : L[i]? = some t ∨ (i = L.length ∧ t = s) := by
  rcases Nat.lt_or_ge i L.length with hi | hi
  · rw [List.getElem?_append_left hi] at h; exact .inl h
  · rw [List.getElem?_append_right hi] at h
    have : i - L.length = 0 := by
      have := lt_of_get h
      simp at this
      omega
    rw [this] at h
    simp at h
    exact .inr ⟨by omega, h.symm⟩
theorem snoc_get {α : Type} {L : List α} {t : α} {i : Nat} (s : α) (h : L[i]? = some t) : (L ++ [s])[i]? = some t := by rw [List.getElem?_append_left (lt_of_get h)]; exact h
theorem snoc_last {α : Type} (L : List α) (s : α) : (L ++ [s])[L.length]? = some s := by simp
theorem WfS.snoc {M : Nat} {L : List Sh} {s : Sh} (h : WfS M L) (hl : L.length < M) (hn : atS L s = none) (hu : ∀ p ns x, s = (p, ns ++ [x]) → ∃ j : Nat, L[j]? = some (p, ns)) (hf : s.2.length ≤ 12) (hd : s.2.Nodup) (hp : 0 ≤ s.1 ∧ I64 s.1) (hb : ∀ x ∈ s.2, I64 x) : WfS M (L ++ [s]) := by
  refine ⟨h.most, by simp; omega, ?_, ?_, ?_, ?_, ?_, ?_⟩
  · intro i j t hi hj
    rcases get_snoc hi with h1 | ⟨rfl, rfl⟩ <;> rcases get_snoc hj with h2 | ⟨rfl, e⟩
    · exact h.once i j t h1 h2
    · subst e; exact absurd h1 (atS_no hn i)
    · exact absurd h2 (atS_no hn j)
    · rfl
  · intro i p ns x hi
    rcases get_snoc hi with hi | ⟨rfl, e⟩
    · obtain ⟨j, hj, hg⟩ := h.up i p ns x hi
      exact ⟨j, hj, snoc_get s hg⟩
    · obtain ⟨j, hj⟩ := hu p ns x e.symm
      exact ⟨j, lt_of_get hj, snoc_get s hj⟩
  · intro i t hi
    rcases get_snoc hi with hi | ⟨rfl, rfl⟩
    · exact h.few i t hi
    · exact hf
  · intro i t hi
    rcases get_snoc hi with hi | ⟨rfl, rfl⟩
    · exact h.names i t hi
    · exact hd
  · intro i t hi
    rcases get_snoc hi with hi | ⟨rfl, rfl⟩
    · exact h.pos i t hi
    · exact hp
  · intro i t hi
    rcases get_snoc hi with hi | ⟨rfl, rfl⟩
    · exact h.fits i t hi
    · exact hb

/-- a shape's number; 0: it is not there -/
def numS (L : List Sh) (s : Sh) : Nat := match atS L s with | some i => i + 1 | none => 0
/-- the number of the parent -/
def parS (L : List Sh) (s : Sh) : Nat := if s.2 = [] then 0 else numS L (s.1, s.2.dropLast)
def lastS (s : Sh) : Int := s.2.getLast?.getD 0
/-- what the maps tell -/
def toF (L : List Sh) (s : Sh) : Option Int := (atS L s).map (fun i => ((i + 1 : Nat) : Int))
def rootF (L : List Sh) (p : Int) : Option Int := toF L (p, [])
def nextF (L : List Sh) (s : Sh) (x : Int) : Option Int := toF L (s.1, s.2 ++ [x])
theorem toF_some (L : List Sh) (s : Sh) : (toF L s).isSome = (atS L s).isSome := by unfold toF; cases atS L s <;> rfl
theorem toF_snoc {L : List Sh} {s : Sh} (h : atS L s = none) (t : Sh) : toF (L ++ [s]) t = if t = s then some ((L.length + 1 : Nat) : Int) else toF L t := by
  unfold toF
  rw [atS_snoc]
  by_cases hy : t = s
  · subst hy
    rw [if_pos rfl, h]
    simp
  · rw [if_neg hy]
    rcases Option.eq_none_or_eq_some (atS L t) with h1 | ⟨j, h1⟩
    · rw [h1]; simp [show ¬ s = t from fun e => hy e.symm]
    · rw [h1]; simp
theorem WfS.par {M : Nat} {L : List Sh} {i : Nat} {p : Int} {ns : List Int} {x : Int} (h : WfS M L) (hi : L[i]? = some (p, ns ++ [x])) : ∃ j : Nat, j < i ∧ L[j]? = some (p, ns) ∧ parS L (p, ns ++ [x]) = j + 1 := by
  obtain ⟨j, hj, hg⟩ := h.up i p ns x hi
  refine ⟨j, hj, hg, ?_⟩
  unfold parS
  rw [if_neg (by simp)]
  simp only [List.dropLast_concat]
  unfold numS
  rw [h.at' hg]
theorem parS_root (L : List Sh) (p : Int) : parS L (p, []) = 0 := by simp [parS]
theorem parS_snoc {M : Nat} {L : List Sh} {i : Nat} {s t : Sh} (h : WfS M L) (hi : L[i]? = some t) : parS (L ++ [s]) t = parS L t := by
  obtain ⟨p, ns⟩ := t
  rcases List.eq_nil_or_concat ns with rfl | ⟨ns', x, rfl⟩
  · simp [parS]
  · rw [List.concat_eq_append] at hi ⊢
    obtain ⟨j, _, hg, _⟩ := h.par hi
    unfold parS
    rw [if_neg (by simp), if_neg (by simp)]
    simp only [List.dropLast_concat]
    unfold numS
    rw [atS_snoc, h.at' hg]
    rfl
theorem lastS_snoc (p : Int) (ns : List Int) (x : Int) : lastS (p, ns ++ [x]) = x := by simp [lastS]

/-- a shape of a number -/
def getS (L : List Sh) (id : Int) : Option Sh := if 1 ≤ id then L[(id - 1).toNat]? else none
theorem getS_succ (L : List Sh) (i : Nat) : getS L ((i + 1 : Nat) : Int) = L[i]? := by
  unfold getS
  rw [if_pos (by omega)]
  congr 1
  omega
theorem getS_some {L : List Sh} {id : Int} {s : Sh} (h : getS L id = some s) : ∃ i : Nat, id = ((i + 1 : Nat) : Int) ∧ L[i]? = some s := by
  unfold getS at h
  split at h
  · exact ⟨(id - 1).toNat, by omega, h⟩
  · cases h
theorem getS_none {L : List Sh} {id : Int} (h : getS L id = none) : id < 1 ∨ (L.length : Int) < id := by
  unfold getS at h
  split at h
  · rw [List.getElem?_eq_none_iff] at h; omega
  · omega
theorem getS_out {L : List Sh} {id : Int} (h : id < 1 ∨ (L.length : Int) < id) : getS L id = none := by
  unfold getS
  split
  · rw [List.getElem?_eq_none_iff]; omega
  · rfl

/-! what is made -/
def ofN (M : Nat) (L : List Sh) (s : Sh) : Nat := match atS L s with | some i => i + 1 | none => if M ≤ L.length then 0 else L.length + 1
def ofL (M : Nat) (L : List Sh) (s : Sh) : List Sh := if (atS L s).isSome then L else if M ≤ L.length then L else L ++ [s]
def rootN (M : Nat) (L : List Sh) (p : Int) : Nat := if p < 0 then 0 else ofN M L (p, [])
def rootL (M : Nat) (L : List Sh) (p : Int) : List Sh := if p < 0 then L else ofL M L (p, [])
def addN (M : Nat) (L : List Sh) (id x : Int) : Nat := match getS L id with
  | some s => if 12 ≤ s.2.length ∨ x ∈ s.2 then 0 else ofN M L (s.1, s.2 ++ [x])
  | none => 0
def addL (M : Nat) (L : List Sh) (id x : Int) : List Sh := match getS L id with
  | some s => if 12 ≤ s.2.length ∨ x ∈ s.2 then L else ofL M L (s.1, s.2 ++ [x])
  | none => L
/-- names, one behind the other -/
def addsP (M : Nat) : List Int → Nat × List Sh → Nat × List Sh
  | [], q => q
  | x :: r, q => addsP M r (addN M q.2 q.1 x, addL M q.2 q.1 x)
def moveP (M : Nat) (L : List Sh) (id p : Int) : Nat × List Sh := match getS L id with
  | some s => addsP M s.2 (rootN M L p, rootL M L p)
  | none => (0, L)
theorem WfS.of {M : Nat} {L : List Sh} {s : Sh} (h : WfS M L) (hu : ∀ p ns x, s = (p, ns ++ [x]) → ∃ j : Nat, L[j]? = some (p, ns)) (hf : s.2.length ≤ 12) (hd : s.2.Nodup) (hp : 0 ≤ s.1 ∧ I64 s.1) (hb : ∀ x ∈ s.2, I64 x) : WfS M (ofL M L s) := by
  unfold ofL
  split
  · exact h
  · rename_i h1
    split
    · exact h
    · exact h.snoc (by omega) (by simpa using h1) hu hf hd hp hb
theorem WfS.root {M : Nat} {L : List Sh} {p : Int} (h : WfS M L) (hp : I64 p) : WfS M (rootL M L p) := by
  unfold rootL
  split
  · exact h
  · exact h.of (fun _ _ _ e => by simp at e) (by simp) (by simp) ⟨by simp; omega, hp⟩ (by simp)
theorem WfS.add {M : Nat} {L : List Sh} {id x : Int} (h : WfS M L) (hx : I64 x) : WfS M (addL M L id x) := by
  unfold addL
  split
  · rename_i s hs
    obtain ⟨i, _, hi⟩ := getS_some hs
    split
    · exact h
    · rename_i hn
      refine h.of (fun p ns y e => ?_) (by simp; omega) ?_ (h.pos i s hi) ?_
      · injection e with e1 e2
        have := List.append_inj' e2 rfl
        exact ⟨i, by rw [hi, ← e1, ← this.1]⟩
      · simp only [List.nodup_append]
        refine ⟨h.names i s hi, by simp, fun a ha b hb e => ?_⟩
        simp at hb
        subst hb e
        exact hn (.inr ha)
      · intro y hy
        simp at hy
        rcases hy with hy | rfl
        · exact h.fits i s hi y hy
        · exact hx
  · exact h
theorem ofL_len {M : Nat} {L : List Sh} (s : Sh) : L.length ≤ (ofL M L s).length := by unfold ofL; split; exact Nat.le_refl _; split; exact Nat.le_refl _; simp
theorem ofL_stay {M : Nat} {L : List Sh} {s t : Sh} {i : Nat} (h : L[i]? = some t) : (ofL M L s)[i]? = some t := by
  unfold ofL; split; exact h; split; exact h; exact snoc_get s h
theorem rootL_stay {M : Nat} {L : List Sh} {p : Int} {t : Sh} {i : Nat} (h : L[i]? = some t) : (rootL M L p)[i]? = some t := by
  unfold rootL; split; exact h; exact ofL_stay h
theorem addL_stay {M : Nat} {L : List Sh} {id x : Int} {t : Sh} {i : Nat} (h : L[i]? = some t) : (addL M L id x)[i]? = some t := by
  unfold addL; split; split; exact h; exact ofL_stay h; exact h
theorem addsP_stay {M : Nat} {t : Sh} {i : Nat} : ∀ (xs : List Int) (q : Nat × List Sh), q.2[i]? = some t → (addsP M xs q).2[i]? = some t
  | [], _, h => h
  | _ :: r, _, h => addsP_stay r _ (addL_stay h)
theorem moveP_stay {M : Nat} {L : List Sh} {id p : Int} {t : Sh} {i : Nat} (h : L[i]? = some t) : (moveP M L id p).2[i]? = some t := by
  unfold moveP; split; exact addsP_stay _ _ (rootL_stay h); exact h

/-! from a shape up -/
def upR (L : List Sh) (p : Int) : List Int → List (Int × Int)
  | [] => []
  | x :: r => ((numS L (p, (x :: r).reverse) : Int), x) :: upR L p r
def upS (L : List Sh) (s : Sh) : List (Int × Int) := upR L s.1 s.2.reverse
theorem upS_root (L : List Sh) (p : Int) : upS L (p, []) = [] := rfl
theorem upS_snoc (L : List Sh) (p : Int) (ns : List Int) (x : Int) : upS L (p, ns ++ [x]) = ((numS L (p, ns ++ [x]) : Int), x) :: upS L (p, ns) := by
  simp [upS, upR]
theorem upR_names (L : List Sh) (p : Int) : ∀ r : List Int, (upR L p r).map (·.2) = r
  | [] => rfl
  | x :: r => by simp [upR, upR_names L p r]
theorem upS_names (L : List Sh) (s : Sh) : (upS L s).map (·.2) = s.2.reverse := upR_names L s.1 _
theorem upS_length (L : List Sh) (s : Sh) : (upS L s).length = s.2.length := by
  have := congrArg List.length (upS_names L s)
  simpa using this
/-- each that is told: its number's shape, and which slot it has -/
theorem WfS.told {M : Nat} {L : List Sh} (h : WfS M L) : ∀ (n i : Nat) (s : Sh), s.2.length = n → L[i]? = some s → ∀ y ∈ upS L s, ∃ k j : Nat, s.2[k]? = some y.2 ∧ y.1 = ((j + 1 : Nat) : Int) ∧ L[j]? = some (s.1, s.2.take (k + 1))
  | 0, i, (p, ns), hn, hi, y, hy => by
    have : ns = [] := List.length_eq_zero_iff.1 hn
    subst this
    simp [upS_root] at hy
  | n + 1, i, (p, ns), hn, hi, y, hy => by
    rcases List.eq_nil_or_concat ns with rfl | ⟨ns', x, rfl⟩
    · simp at hn
    · rw [List.concat_eq_append] at hn hi hy ⊢
      obtain ⟨j, hj, hg, _⟩ := h.par hi
      rw [upS_snoc] at hy
      rcases List.mem_cons.1 hy with rfl | hy
      · refine ⟨ns'.length, i, by simp, ?_, ?_⟩
        · simp only []
          unfold numS
          rw [h.at' hi]
        · rw [hi, List.take_of_length_le (by simp)]
      · obtain ⟨k, j', h1, h2, h3⟩ := h.told n j (p, ns') (by simpa using hn) hg y hy
        have hk := lt_of_get h1
        simp only [] at h1 h3 hk ⊢
        refine ⟨k, j', snoc_get x h1, h2, ?_⟩
        rw [h3, List.take_append_of_le_length (by omega)]
/-- a name's slot -/
def slotO : List Int → Int → Option Nat
  | [], _ => none
  | y :: r, x => if y = x then some 0 else (slotO r x).map (· + 1)
theorem slotO_at : ∀ {ns : List Int} {x : Int} {k : Nat}, ns.Nodup → ns[k]? = some x → slotO ns x = some k
  | [], _, _, _, h => by simp at h
  | y :: r, x, 0, _, h => by
    have : y = x := by simpa using h
    simp [slotO, this]
  | y :: r, x, k + 1, hd, h => by
    have h' : r[k]? = some x := by simpa using h
    have hne : y ≠ x := fun e => (List.nodup_cons.1 hd).1 (e ▸ List.mem_of_getElem? h')
    rw [slotO, if_neg hne, slotO_at (List.nodup_cons.1 hd).2 h']
    rfl
theorem slotO_get : ∀ {ns : List Int} {x : Int} {k : Nat}, slotO ns x = some k → ns[k]? = some x
  | [], _, _, h => by cases h
  | y :: r, x, k, h => by
    unfold slotO at h
    by_cases hy : y = x
    · rw [if_pos hy] at h; cases h; simp [hy]
    · rw [if_neg hy] at h
      obtain ⟨j, hj, rfl⟩ := Option.map_eq_some_iff.1 h
      simpa using slotO_get hj
theorem slotO_none : ∀ {ns : List Int} {x : Int}, x ∉ ns → slotO ns x = none
  | [], _, _ => rfl
  | y :: r, x, h => by
    rw [slotO, if_neg (fun e => h (by simp [e])), slotO_none (fun e => h (by simp [e]))]
    rfl
def slotS (ns : List Int) (x : Int) : Int := match slotO ns x with | some k => (k : Int) | none => -1
theorem slotS_at {ns : List Int} {x : Int} {k : Nat} (hd : ns.Nodup) (h : ns[k]? = some x) : slotS ns x = (k : Int) := by
  unfold slotS
  rw [slotO_at hd h]
theorem slotS_none {ns : List Int} {x : Int} (h : x ∉ ns) : slotS ns x = -1 := by
  unfold slotS
  rw [slotO_none h]
theorem slotS_in {ns : List Int} {x : Int} (h : x ∈ ns) : 0 ≤ slotS ns x := by
  unfold slotS
  cases hh : slotO ns x with
  | some k => simp
  | none =>
    exfalso
    induction ns with
    | nil => cases h
    | cons y r ih =>
      unfold slotO at hh
      by_cases hy : y = x
      · rw [if_pos hy] at hh; cases hh
      · rw [if_neg hy] at hh
        rcases List.mem_cons.1 h with e | e
        · exact hy e.symm
        · exact ih e (Option.map_eq_none_iff.1 hh)

end Go.Proofs.YtimhgbcanmgajaaGreat

namespace Go.Proofs.YtimhgbcanmgajaaGreat
set_option linter.unusedSimpArgs false
open Go.RowKit

theorem underNt : Tryz.prog.underlying 223 = some (.map 9 3) := by kernel_rfl
theorem infoTx : ∃ i0, Tryz.prog.info? 9 = some i0 ∧ i0.zero = some (.string ⟨#[]⟩) ∧ i0.size = 1 ∧ i0.bytes = 16 :=
  info_parts (show (Tryz.prog.info? 9).map (fun i => (i.zero, i.size, i.bytes)) = some (some (.string ⟨#[]⟩), 1, 16) by kernel_rfl)
theorem underTx : Tryz.prog.underlying 56 = some (.slice 9) := by kernel_rfl

/-- the two ways at p: the map at m, the list is v -/
structure TwAt (p m : Nat) (v : Value) (L : List ByteArray) (w : World) : Prop where
  blk : Blk p 225 #[.map (some m), v] w
  row : w.ownsRow 0 9 1 v L.length (L.map Value.string)
  map : MapN m (numF L) L.length w
def FtT (p m : Nat) (v : Value) (b : Nat) : Prop := b = p ∨ b = m ∨ v.ownBlock = some b
theorem TwAt.keep {p m : Nat} {v : Value} {L : List ByteArray} {a c : World} (h : TwAt p m v L a) (hk : ∀ b, FtT p m v b → c.heap[b]? = a.heap[b]?) : TwAt p m v L c :=
  ⟨(hk p (.inl rfl)).trans h.blk, row_keep h.row (fun g hg => hk g (.inr (.inr hg))), mapN_keep h.map (hk m (.inr (.inl rfl)))⟩
theorem TwAt.lt {p m b : Nat} {v : Value} {L : List ByteArray} {w : World} (h : TwAt p m v L w) (hb : FtT p m v b) : b < w.heap.size := by
  rcases hb with rfl | rfl | hb
  · exact blk_lt h.blk
  · exact mapN_lt h.map
  · obtain ⟨cur, hc⟩ := row_lt h.row hb
    exact blk_lt hc
theorem TwAt.on {p m : Nat} {v : Value} {L : List ByteArray} {a c : World} (h : TwAt p m v L a) (k : Below a.heap.size a c) : TwAt p m v L c := h.keep fun b hb => k.block b (h.lt hb)
theorem TwAt.ne {p m : Nat} {v : Value} {L : List ByteArray} {w : World} (h : TwAt p m v L w) : m ≠ p ∧ (∀ g, v.ownBlock = some g → g ≠ p ∧ g ≠ m) := by
  obtain ⟨es, clock, hm⟩ := mapN_block h.map
  have hp : w.heap[p]? = _ := h.blk
  refine ⟨fun e => ?_, fun g hg => ⟨fun e => ?_, fun e => ?_⟩⟩
  · rw [e, hp] at hm; cases hm
  · obtain ⟨cur, hc⟩ := row_lt h.row hg
    unfold Blk at hc
    rw [e, hp] at hc; cases hc
  · obtain ⟨cur, hc⟩ := row_lt h.row hg
    unfold Blk at hc
    rw [e, hm] at hc; cases hc
theorem TwAt.drew {p m : Nat} {v : Value} {L : List ByteArray} {w : World} (h : TwAt p m v L w) : TwAt p m v L w.drew := h.on (Below.refl _ _).drew
theorem TwAt.cells {p m : Nat} {v : Value} {L : List ByteArray} {w : World} (h : TwAt p m v L w) : w.cell? ⟨p, 0, none⟩ = some (.map (some m)) ∧ w.cell? ⟨p, 1, none⟩ = some v :=
  ⟨by rw [blk_cell h.blk]; rfl, by rw [blk_cell h.blk]; rfl⟩

/-- a table at t, in the blocks of S: its texts are L -/
def NmS (S : Nat → Prop) (t : Nat) (L : List ByteArray) (w : World) : Prop :=
  ∃ p m v, Blk t 227 #[.pointer (some ⟨p, 0, none⟩)] w ∧ TwAt p m v L w ∧ S t ∧ ∀ b, FtT p m v b → S b
theorem NmS.mono {S T : Nat → Prop} {t : Nat} {L : List ByteArray} {w : World} (h : NmS S t L w) (hS : ∀ b, b < w.heap.size → S b → T b) : NmS T t L w := by
  obtain ⟨p, m, v, h1, h2, h3, h4⟩ := h
  exact ⟨p, m, v, h1, h2, hS t (blk_lt h1) h3, fun b hb => hS b (h2.lt hb) (h4 b hb)⟩
theorem NmS.keep {S T : Nat → Prop} {t : Nat} {L : List ByteArray} {a c : World} (h : NmS S t L a) (k : Keep T a c) (hT : ∀ b, b < a.heap.size → S b → ¬ T b) : NmS S t L c := by
  obtain ⟨p, m, v, h1, h2, h3, h4⟩ := h
  exact ⟨p, m, v, blk_keep h1 k (hT t (blk_lt h1) h3), h2.keep (fun b hb => k.block b (h2.lt hb) (hT b (h2.lt hb) (h4 b hb))), h3, h4⟩
theorem NmS.on {S : Nat → Prop} {t : Nat} {L : List ByteArray} {a c : World} (h : NmS S t L a) (k : Below a.heap.size a c) : NmS S t L c :=
  h.keep (T := fun _ => False) (Keep.of k) (fun _ _ _ h => h)
theorem NmS.lt {S : Nat → Prop} {t : Nat} {L : List ByteArray} {w : World} (h : NmS S t L w) : t < w.heap.size := by
  obtain ⟨p, m, v, h1, _⟩ := h
  exact blk_lt h1

theorem ntwo_new (w : World) {m p t : Nat} (hm : m = w.heap.size) (hp : p = w.heap.size + 1) (ht : t = w.heap.size + 1 + 1) :
    NmS (fun b => w.heap.size ≤ b) t [] (((w.alloc (.map #[] 0)).alloc (.cells #[.map (some m), .slice none 0 0] 225)).alloc (.cells #[.pointer (some ⟨p, 0, none⟩)] 227)) ∧
      Below w.heap.size w (((w.alloc (.map #[] 0)).alloc (.cells #[.map (some m), .slice none 0 0] 225)).alloc (.cells #[.pointer (some ⟨p, 0, none⟩)] 227)) := by
  subst hm hp ht
  have b1 := (Below.refl w.heap.size w).alloc (Nat.le_refl _) (.map #[] 0)
  have b2 := b1.alloc (by simp) (.cells #[.map (some w.heap.size), .slice none 0 0] 225)
  have b3 := b2.alloc (by simp; omega) (.cells #[.pointer (some ⟨w.heap.size + 1, 0, none⟩)] 227)
  have h2 := blk_new (w.alloc (.map #[] 0)) 225 #[.map (some w.heap.size), .slice none 0 0]
  simp only [World.size_alloc] at h2
  have h3 := blk_new ((w.alloc (.map #[] 0)).alloc (.cells #[.map (some w.heap.size), .slice none 0 0] 225)) 227 #[.pointer (some ⟨w.heap.size + 1, 0, none⟩)]
  simp only [World.size_alloc] at h3
  refine ⟨⟨w.heap.size + 1, w.heap.size, .slice none 0 0, h3, ⟨?_, ⟨rfl, .inl ⟨rfl, rfl⟩⟩, ?_⟩, by omega, ?_⟩, b3⟩
  · exact blk_on h2 ((Below.refl _ _).alloc (Nat.le_refl _) _)
  · exact mapN_keep (mapN_new w) ((((Below.refl _ _).alloc (Nat.le_refl _) _).alloc (by simp) _).block _ (by simp))
  · rintro b (rfl | rfl | h)
    · omega
    · omega
    · simp [Value.ownBlock] at h
theorem tnew_calls (w : World) :
    Calls Tryz.prog 79 #[] w fun e w' => ∃ t, e = .returned (.pointer (some ⟨t, 0, none⟩)) ∧ NmS (fun b => w.heap.size ≤ b) t [] w' ∧ Below w.heap.size w w' := by
  have hmk : ∀ w, (Instr.makeMap 223 none).run Tryz.prog w = .ok (.map (some w.heap.size)) (w.alloc (.map #[] 0)) := fun w => by simp [Instr.makeMap]
  go_enter Tryz.func79, Tryz.ntmps79
  go_wp2_with fail
  go_ret
  obtain ⟨h1, h2⟩ := ntwo_new w rfl rfl rfl
  exact ⟨_, rfl, h1, h2⟩
theorem tmade_calls {S : Nat → Prop} {t : Nat} {L : List ByteArray} (w : World) (h : NmS S t L w) :
    Calls Tryz.prog 167 #[.pointer (some ⟨t, 0, none⟩)] w fun e w' => e = .returned (.bool true) ∧ w' = w := by
  obtain ⟨p, m, v, h1, _⟩ := h
  have c0 : w.cell? ⟨t, 0, none⟩ = some (.pointer (some ⟨p, 0, none⟩)) := by rw [blk_cell h1]; rfl
  clear h1
  go_enter Tryz.func167, Tryz.ntmps167
  go_wp2_with fail
  go_ret
  exact ⟨rfl, rfl⟩
theorem tlen_calls {S : Nat → Prop} {t : Nat} {L : List ByteArray} (w : World) (h : NmS S t L w) :
    Calls Tryz.prog 178 #[.pointer (some ⟨t, 0, none⟩)] w fun e w' => e = .returned (.int .i64 (L.length : Int)) ∧ w' = w := by
  have H := hid h
  obtain ⟨p, m, v, h1, h2, _⟩ := h
  obtain ⟨ao, cap, rfl⟩ := row_shape h2.row
  obtain ⟨c1, c2⟩ := h2.cells
  have c0 : w.cell? ⟨t, 0, none⟩ = some (.pointer (some ⟨p, 0, none⟩)) := by rw [blk_cell h1]; rfl
  clear h1 h2
  go_enter Tryz.func178, Tryz.ntmps178
  go_wp2_with fail
  refine (tmade_calls _ H.out).mono ?_
  rintro e1 w1 ⟨rfl, rfl⟩
  go_wp2_with fail
  go_ret
  exact ⟨rfl, rfl⟩
theorem tfind_calls {S : Nat → Prop} {t : Nat} {L : List ByteArray} (w : World) (h : NmS S t L w) (s : ByteArray) (hs : s.size ≤ maxLen) :
    Calls Tryz.prog 164 #[.pointer (some ⟨t, 0, none⟩), .string s] w fun e w' => e = .returned (.tuple #[.int .i64 (findT L s : Int), .bool (atT L s).isSome]) ∧ w' = w := by
  have H := hid h
  obtain ⟨p, m, v, h1, h2, _⟩ := h
  obtain ⟨c1, c2⟩ := h2.cells
  have c0 : w.cell? ⟨t, 0, none⟩ = some (.pointer (some ⟨p, 0, none⟩)) := by rw [blk_cell h1]; rfl
  have HM := hid h2.map
  clear h1 h2
  cases hi : atT L s with
  | some i =>
    have hF : numF L s = some ((i + 1 : Nat) : Int) := by unfold numF; rw [hi]; rfl
    have hN : findT L s = i + 1 := by unfold findT; rw [hi]
    rw [hN]
    go_enter Tryz.func164, Tryz.ntmps164
    go_wp2_with fail
    refine (tmade_calls _ H.out).mono ?_
    rintro e1 w1 ⟨rfl, rfl⟩
    go_wp2_with (first | (at_lookup; refine gm_look underNt rfl _ _ rfl m _ _ s rfl HM.out rfl hs ?_; rw [hF]) | fail)
    go_ret2
    exact ⟨rfl, rfl⟩
  | none =>
    have hF : numF L s = none := by unfold numF; rw [hi]; rfl
    have hN : findT L s = 0 := by unfold findT; rw [hi]
    rw [hN]
    go_enter Tryz.func164, Tryz.ntmps164
    go_wp2_with fail
    refine (tmade_calls _ H.out).mono ?_
    rintro e1 w1 ⟨rfl, rfl⟩
    go_wp2_with (first | (at_lookup; refine gm_look underNt rfl _ _ rfl m _ _ s rfl HM.out rfl hs ?_; rw [hF]) | fail)
    go_ret2
    exact ⟨rfl, rfl⟩
/-- a text of the row -/
theorem row_text {v : Value} {L : List ByteArray} {i : Nat} {s : ByteArray} {w : World} (h : w.ownsRow 0 9 1 v L.length (L.map Value.string)) (hi : L[i]? = some s) : ∃ g cap, v = .slice (some ⟨g, 0, none⟩) L.length cap ∧ g < w.heap.size ∧ w.cell? ⟨g, i, none⟩ = some (.string s) := by
  have hl : i < L.length := (List.getElem?_eq_some_iff.1 hi).1
  obtain ⟨g, cap, rfl, _, hg⟩ := h.form (by omega)
  exact ⟨g, cap, rfl, hg, row_cell h (by simp [hi])⟩
theorem ttext_some {S : Nat → Prop} {t i : Nat} {L : List ByteArray} {s : ByteArray} (w : World) (h : NmS S t L w) (hi : L[i]? = some s) (hl : L.length ≤ 1000000) :
    Calls Tryz.prog 168 #[.pointer (some ⟨t, 0, none⟩), .int .i64 ((i : Int) + 1)] w fun e w' => e = .returned (.tuple #[.string s, .bool true]) ∧ w' = w := by
  have HL := hid (tlen_calls w h)
  have hil : i < L.length := (List.getElem?_eq_some_iff.1 hi).1
  obtain ⟨p, m, v, h1, h2, _⟩ := h
  obtain ⟨g, cap, rfl, hg, c3⟩ := row_text h2.row hi
  obtain ⟨c1, c2⟩ := h2.cells
  have c0 : w.cell? ⟨t, 0, none⟩ = some (.pointer (some ⟨p, 0, none⟩)) := by rw [blk_cell h1]; rfl
  have d1 : decide ((i : Int) + 1 < 1) = false := decide_eq_false (by omega)
  have d2 : decide ((L.length : Int) < (i : Int) + 1) = false := decide_eq_false (by omega)
  clear h1 h2 hi
  go_enter Tryz.func168, Tryz.ntmps168
  go_wp2_with fail
  refine HL.out.mono ?_
  rintro e1 w1 ⟨rfl, rfl⟩
  go_wp2_with fail
  go_ret2
  exact ⟨rfl, rfl⟩
theorem ttext_none {S : Nat → Prop} {t : Nat} {L : List ByteArray} (w : World) (h : NmS S t L w) (i : Int) (hi : ¬ (1 ≤ i ∧ i ≤ L.length)) :
    Calls Tryz.prog 168 #[.pointer (some ⟨t, 0, none⟩), .int .i64 i] w fun e w' => e = .returned (.tuple #[.string ⟨#[]⟩, .bool false]) ∧ w' = w := by
  have HL := hid (tlen_calls w h)
  clear h
  by_cases h0 : i < 1
  · clear hi
    go_enter Tryz.func168, Tryz.ntmps168
    go_wp2_with fail
    go_ret2
    exact ⟨rfl, rfl⟩
  · have d1 : decide (i < 1) = false := decide_eq_false h0
    have d2 : decide ((L.length : Int) < i) = true := decide_eq_true (by omega)
    clear hi h0
    go_enter Tryz.func168, Tryz.ntmps168
    go_wp2_with fail
    refine HL.out.mono ?_
    rintro e1 w1 ⟨rfl, rfl⟩
    go_wp2_with fail
    go_ret2
    exact ⟨rfl, rfl⟩

end Go.Proofs.YtimhgbcanmgajaaGreat
