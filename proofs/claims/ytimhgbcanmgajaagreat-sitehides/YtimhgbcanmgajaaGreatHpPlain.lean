/- The heap as plain functions: objects with prototypes, properties in order, epochs and shapes. -/
import Derived.Test.YtimhgbcanmgajaaGreatJoint2
import Derived.Test.YtimhgbcanmgajaaGreatJoint3
import Derived.Test.YtimhgbcanmgajaaGreatJoint10
namespace Go.Proofs.YtimhgbcanmgajaaGreat
set_option linter.unusedSimpArgs false
open Go.RowKit

/-- an object: prototype, properties, how often it has changed, its shape (0: a dictionary) -/
structure Ob where
  pr : Nat
  l : List Ent
  ep : Nat
  sh : Nat
/-- a heap: limits, names, shapes, objects -/
structure He where
  most : Nat
  props : Nat
  M : Nat
  N : List ByteArray
  L : List Sh
  os : List Ob
def getO (H : He) (o : Int) : Option Ob := if 1 ≤ o then H.os[(o - 1).toNat]? else none
def putO (H : He) (o : Int) (x : Ob) : He := { H with os := H.os.set (o - 1).toNat x }
def protoH (H : He) (o : Int) : Nat := match getO H o with | some x => x.pr | none => 0
def ownH (H : He) (o : Int) (s : ByteArray) : Option Vl := match getO H o with | some x => look x.l s | none => none
def getF (H : He) (s : ByteArray) : Nat → Int → Vl
  | 0, _ => vl0
  | n + 1, o => match ownH H o s with | some v => v | none => getF H s n (protoH H o)
def gotH (H : He) (o : Int) (s : ByteArray) : Vl := getF H s (H.os.length + 1) o
def countH (H : He) (o : Int) : Nat := match getO H o with | some x => x.l.length | none => 0
def keyP (l : List Ent) (i : Int) : Option ByteArray := if 0 ≤ i then (l[i.toNat]?).map (·.1) else none
def keyH (H : He) (o i : Int) : Option ByteArray := match getO H o with | some x => keyP x.l i | none => none
def shapeH (H : He) (o : Int) : Nat := match getO H o with | some x => x.sh | none => 0
def epochH (H : He) (o : Int) : Nat := match getO H o with | some x => x.ep | none => 0
def slotN (N : List ByteArray) (L : List Sh) (id : Int) (s : ByteArray) : Int := match atT N s with | some i => slotF L id ((i + 1 : Nat) : Int) | none => -1
def slotofH (H : He) (id : Int) (s : ByteArray) : Int := slotN H.N H.L id s
def slotL (l : List Ent) (i : Int) : Option Vl := if 0 ≤ i then (l[i.toNat]?).map (·.2) else none
def slotH (H : He) (o i : Int) : Option Vl := match getO H o with | some x => if x.sh = 0 then none else slotL x.l i | none => none
def nextN (H : He) (id : Int) (s : ByteArray) : Nat := match getS H.L id with | some _ => addN H.M H.L id (numT H.N s : Int) | none => 0
def nextH (H : He) (id : Int) (s : ByteArray) : He := match getS H.L id with | some _ => { H with N := ofT H.N s, L := addL H.M H.L id (numT H.N s : Int) } | none => H
def makeE (H : He) : Int := if H.most ≤ H.os.length then 40 else 0
def makeN (H : He) : Nat := if H.most ≤ H.os.length then 0 else H.os.length + 1
def makeH (H : He) : He := if H.most ≤ H.os.length then H else { H with L := rootL H.M H.L 0, os := H.os ++ [⟨0, [], 0, rootN H.M H.L 0⟩] }
def setE (H : He) (o : Int) (s : ByteArray) : Int := match getO H o with
  | none => 4
  | some x => if hasL x.l s then 0 else if H.props ≤ x.l.length then 42 else 0
def setH (H : He) (o : Int) (s : ByteArray) (v : Vl) : He := match getO H o with
  | none => H
  | some x => if hasL x.l s then putO H o { x with l := setL x.l s v } else if H.props ≤ x.l.length then H else
      putO (nextH H x.sh s) o { x with l := x.l ++ [(s, v)], ep := x.ep + 1, sh := nextN H x.sh s }
def delH (H : He) (o : Int) (s : ByteArray) : He := match getO H o with
  | none => H
  | some x => if hasL x.l s then putO H o { x with l := dropL x.l s, ep := x.ep + 1, sh := 0 } else H
def upN (H : He) : Nat → Int → Int
  | 0, o => o
  | k + 1, o => upN H k (protoH H o)
def onC (H : He) (o : Int) : Nat → Int → Bool
  | 0, _ => false
  | n + 1, p => if p < 1 then false else if p = o then true else onC H o n (protoH H p)
def protoE (H : He) (o p : Int) : Int := match getO H o with
  | none => 4
  | some _ => if p ≠ 0 ∧ getO H p = none then 4 else if onC H o (H.os.length + 1) p then 32 else 0
def protoS (H : He) (o p : Int) : He := match getO H o with
  | none => H
  | some x => if p ≠ 0 ∧ getO H p = none then H else if onC H o (H.os.length + 1) p then H else
      if x.sh = 0 then putO H o { x with pr := p.toNat, ep := x.ep + 1 } else
      putO { H with L := (moveP H.M H.L x.sh p).2 } o { x with pr := p.toNat, ep := x.ep + 1, sh := (moveP H.M H.L x.sh p).1 }
def putB (H : He) (o i : Int) : Bool := (slotH H o i).isSome
def setAt (l : List Ent) (i : Nat) (v : Vl) : List Ent := match l[i]? with | some e => l.set i (e.1, v) | none => l
def putH (H : He) (o i : Int) (v : Vl) : He := match getO H o with
  | none => H
  | some x => if x.sh = 0 ∨ i < 0 then H else putO H o { x with l := setAt x.l i.toNat v }
def textN (N : List ByteArray) (x : Int) : ByteArray := (N[(x - 1).toNat]?).getD ⟨#[]⟩
def growE (H : He) (o to : Int) : Int := match getO H o with
  | none => 4
  | some x => if x.sh = 0 ∨ parF H.L to ≠ x.sh then 2 else if H.props ≤ x.l.length then 42 else 0
def lastN (H : He) (to : Int) : ByteArray := textN H.N ((namesF H.L to).getLast?.getD 0)
def growH (H : He) (o to : Int) (v : Vl) : He := match getO H o with
  | none => H
  | some x => if x.sh = 0 ∨ parF H.L to ≠ x.sh then H else if H.props ≤ x.l.length then H else
      putO H o { x with l := x.l ++ [(lastN H to, v)], ep := x.ep + 1, sh := to.toNat }
def newH (a b k : Int) : He := ⟨(min (max a 0) 200).toNat, (min (max b 0) 32).toNat, mostS k, [], [], []⟩

/-- what holds of an object -/
structure WfO (K : Nat) (N : List ByteArray) (L : List Sh) (n : Nat) (x : Ob) : Prop where
  ok : OkL x.l
  few : x.l.length ≤ 32
  ep : x.ep ≤ K
  pr : x.pr ≤ n
  sh : x.sh ≠ 0 → ∃ ns, getS L x.sh = some ((x.pr : Int), ns) ∧ x.l.map (·.1) = ns.map (textN N)
/-- what holds of a heap, behind K calls -/
structure WfH (K : Nat) (H : He) : Prop where
  wfs : WfS H.M H.L
  nd : H.N.Nodup
  nl : H.N.length ≤ K
  nsz : ∀ s ∈ H.N, s.size ≤ 1000000
  nums : ∀ (i : Nat) (s : Sh), H.L[i]? = some s → ∀ x ∈ s.2, 1 ≤ x ∧ x ≤ H.N.length
  most : H.most ≤ 200
  props : H.props ≤ 32
  len : H.os.length ≤ H.most
  obs : ∀ (i : Nat) (x : Ob), H.os[i]? = some x → WfO K H.N H.L H.os.length x
  ends : ∀ o : Int, ∃ k, upN H k o < 1

theorem getO_some {H : He} {o : Int} {x : Ob} (h : getO H o = some x) : ∃ i : Nat, o = ((i + 1 : Nat) : Int) ∧ H.os[i]? = some x := by
  unfold getO at h
  split at h
  · exact ⟨(o - 1).toNat, by omega, h⟩
  · cases h
theorem getO_succ (H : He) (i : Nat) : getO H ((i + 1 : Nat) : Int) = H.os[i]? := by
  unfold getO
  rw [if_pos (by omega), show (((i + 1 : Nat) : Int) - 1).toNat = i by omega]
theorem getO_lt {H : He} {o : Int} {x : Ob} (h : getO H o = some x) : 1 ≤ o ∧ o ≤ H.os.length := by
  obtain ⟨i, rfl, hi⟩ := getO_some h
  have := lt_of_get hi
  omega
theorem getO_none {H : He} {o : Int} (h : getO H o = none) : o < 1 ∨ (H.os.length : Int) < o := by
  unfold getO at h
  split at h
  · have := List.getElem?_eq_none_iff.1 h
    omega
  · omega
theorem getO_out {H : He} {o : Int} (h : o < 1 ∨ (H.os.length : Int) < o) : getO H o = none := by
  unfold getO
  split
  · exact List.getElem?_eq_none_iff.2 (by omega)
  · rfl
theorem WfH.at' {K : Nat} {H : He} {o : Int} {x : Ob} (h : WfH K H) (hx : getO H o = some x) : WfO K H.N H.L H.os.length x := by
  obtain ⟨i, rfl, hi⟩ := getO_some hx
  exact h.obs i x hi

/- an object of a shape: where its names are -/
theorem textN_at {N : List ByteArray} {i : Nat} {s : ByteArray} (h : N[i]? = some s) : textN N ((i + 1 : Nat) : Int) = s := by
  unfold textN
  rw [show (((i + 1 : Nat) : Int) - 1).toNat = i by omega, h]
  rfl
theorem atT_get {N : List ByteArray} (hd : N.Nodup) {i : Nat} {s : ByteArray} (h : N[i]? = some s) : atT N s = some i := by
  refine atT_first (fun j x hj hx e => ?_) h
  subst e
  have h1 := lt_of_get hx
  have h2 := lt_of_get h
  rw [List.getElem?_eq_getElem h1] at hx
  rw [List.getElem?_eq_getElem h2] at h
  have := (List.pairwise_iff_getElem.1 hd) j i h1 h2 hj
  injection hx with hx
  injection h with h
  exact this (hx.trans h.symm)
theorem textN_inj {N : List ByteArray} (hd : N.Nodup) {x y : Int} (hx : 1 ≤ x ∧ x ≤ N.length) (hy : 1 ≤ y ∧ y ≤ N.length) (h : textN N x = textN N y) : x = y := by
  obtain ⟨i, rfl⟩ : ∃ i : Nat, x = ((i + 1 : Nat) : Int) := ⟨(x - 1).toNat, by omega⟩
  obtain ⟨j, rfl⟩ : ∃ j : Nat, y = ((j + 1 : Nat) : Int) := ⟨(y - 1).toNat, by omega⟩
  have hi : i < N.length := by omega
  have hj : j < N.length := by omega
  have h1 := List.getElem?_eq_getElem hi
  have h2 := List.getElem?_eq_getElem hj
  rw [textN_at h1, textN_at h2] at h
  have e1 := atT_get hd h1
  have e2 := atT_get hd h2
  rw [h, e2] at e1
  injection e1 with e1
  omega
theorem look_at : ∀ {l : List Ent} {k : Nat} {s : ByteArray} {v : Vl}, OnceL l → l[k]? = some (s, v) → look l s = some v
  | [], k, s, v, _, h => by simp at h
  | (t, u) :: r, 0, s, v, _, h => by
    have : (t, u) = (s, v) := by simpa using h
    injection this with h1 h2
    subst h1 h2
    simp [look]
  | (t, u) :: r, k + 1, s, v, ho, h => by
    have hr : r[k]? = some (s, v) := by simpa using h
    have hn : (((t, u) :: r).map (·.1)).Nodup := ho
    simp only [List.map_cons, List.nodup_cons] at hn
    have hne : t ≠ s := fun e => hn.1 (by rw [e]; exact List.mem_map.2 ⟨(s, v), List.mem_of_getElem? hr, rfl⟩)
    have := look_at (l := r) hn.2 hr
    simpa [look, hne] using this
theorem setL_at : ∀ {l : List Ent} {k : Nat} {s : ByteArray} {u : Vl} (v : Vl), OnceL l → l[k]? = some (s, u) → setL l s v = l.set k (s, v)
  | [], k, s, u, v, _, h => by simp at h
  | (t, y) :: r, 0, s, u, v, _, h => by
    have : (t, y) = (s, u) := by simpa using h
    injection this with h1 h2
    subst h1 h2
    simp [setL]
  | (t, y) :: r, k + 1, s, u, v, ho, h => by
    have hr : r[k]? = some (s, u) := by simpa using h
    have hn : (((t, y) :: r).map (·.1)).Nodup := ho
    simp only [List.map_cons, List.nodup_cons] at hn
    have hne : t ≠ s := fun e => hn.1 (by rw [e]; exact List.mem_map.2 ⟨(s, u), List.mem_of_getElem? hr, rfl⟩)
    have := setL_at (l := r) v hn.2 hr
    simpa [setL, hne] using this
/-- the slot of a name, in an object of a shape -/
theorem slot_of {K n : Nat} {N : List ByteArray} {M : Nat} {L : List Sh} {x : Ob} (hs : WfS M L) (hd : N.Nodup) (hn : ∀ (i : Nat) (s : Sh), L[i]? = some s → ∀ x ∈ s.2, 1 ≤ x ∧ x ≤ N.length) (h : WfO K N L n x) (h0 : x.sh ≠ 0) (s : ByteArray) :
    (∃ k v, slotN N L x.sh s = ((k : Nat) : Int) ∧ x.l[k]? = some (s, v) ∧ look x.l s = some v) ∨ (slotN N L x.sh s = -1 ∧ look x.l s = none) := by
  obtain ⟨ns, hg, hl⟩ := h.sh h0
  obtain ⟨i, hi, hL⟩ := getS_some hg
  have hlen : x.l.length = ns.length := by have := congrArg List.length hl; simpa using this
  have hat : ∀ k : Nat, (x.l[k]?).map (·.1) = (ns[k]?).map (textN N) := fun k => by
    rw [← List.getElem?_map, hl, List.getElem?_map]
  unfold slotN
  cases ha : atT N s with
  | none =>
    refine .inr ⟨rfl, look_none.2 (fun e he hs' => ?_)⟩
    obtain ⟨k, hk⟩ := List.getElem?_of_mem he
    have := hat k
    rw [hk] at this
    cases hnk : ns[k]? with
    | none => rw [hnk] at this; cases this
    | some y =>
      rw [hnk] at this
      have hy := hn i _ hL y (List.mem_of_getElem? hnk)
      obtain ⟨j, rfl⟩ : ∃ j : Nat, y = ((j + 1 : Nat) : Int) := ⟨(y - 1).toNat, by omega⟩
      have hj : j < N.length := by omega
      have h1 := List.getElem?_eq_getElem hj
      have e2 : e.1 = textN N ((j + 1 : Nat) : Int) := by simpa using this
      rw [textN_at h1] at e2
      exact atT_no ha _ (List.getElem_mem hj) (e2.symm.trans hs')
  | some j =>
    have hj := atT_at ha
    have hsl : slotF L (x.sh : Int) ((j + 1 : Nat) : Int) = slotS ns ((j + 1 : Nat) : Int) := by unfold slotF; rw [hg]
    simp only [hsl]
    by_cases hm : ((j + 1 : Nat) : Int) ∈ ns
    · obtain ⟨k, hk⟩ := List.getElem?_of_mem hm
      have := hat k
      rw [hk] at this
      cases hx : x.l[k]? with
      | none => rw [hx] at this; cases this
      | some e =>
        rw [hx] at this
        have e2 : e.1 = textN N ((j + 1 : Nat) : Int) := by simpa using this
        rw [textN_at hj] at e2
        obtain ⟨e1, v⟩ := e
        simp only at e2
        subst e2
        exact .inl ⟨k, v, slotS_at (hs.names i _ hL) hk, hx, look_at h.ok.1 hx⟩
    · refine .inr ⟨slotS_none hm, look_none.2 (fun e he hs' => ?_)⟩
      obtain ⟨k, hk⟩ := List.getElem?_of_mem he
      have := hat k
      rw [hk] at this
      cases hnk : ns[k]? with
      | none => rw [hnk] at this; cases this
      | some y =>
        rw [hnk] at this
        have hy := hn i _ hL y (List.mem_of_getElem? hnk)
        have e2 : e.1 = textN N y := by simpa using this
        rw [hs', ← textN_at hj] at e2
        have := textN_inj hd ⟨by omega, by have := lt_of_get hj; omega⟩ hy e2
        exact hm (this ▸ List.mem_of_getElem? hnk)

end Go.Proofs.YtimhgbcanmgajaaGreat
