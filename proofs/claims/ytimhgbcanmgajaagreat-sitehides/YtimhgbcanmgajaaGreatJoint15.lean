/- What Set leaves of a heap's properties (plain). Sites as plain functions; what happens to a heap, call by call. What an entry of a site says, as long as it holds. Tables of sites: what holds of them, and what a hit tells. Rows of rows of cells. Maps from numbers to blocks. Structures side by side, each in its own set of blocks. -/
import Derived.Test.YtimhgbcanmgajaaGreatJoint14
import Derived.Test.YtimhgbcanmgajaaGreatJoint1
import Derived.Test.YtimhgbcanmgajaaGreatJoint3
import Derived.Test.YtimhgbcanmgajaaGreatMapG
namespace Go.Proofs.YtimhgbcanmgajaaGreat
set_option linter.unusedSimpArgs false

theorem getO_putO {H : He} {o : Int} {y : Ob} (h : getO H o = some y) (x : Ob) (o' : Int) : getO (putO H o x) o' = if o' = o then some x else getO H o' := by
  obtain ⟨i, rfl, hi⟩ := getO_some h
  have hl : i < H.os.length := by
    rcases Nat.lt_or_ge i H.os.length with h1 | h1
    · exact h1
    · rw [List.getElem?_eq_none h1] at hi; cases hi
  unfold getO putO
  by_cases h1 : 1 ≤ o'
  · rw [if_pos h1, if_pos h1]
    have e : (((i + 1 : Nat) : Int) - 1).toNat = i := by omega
    dsimp only
    rw [e, List.getElem?_set]
    by_cases h2 : o' = ((i + 1 : Nat) : Int)
    · rw [if_pos h2, if_pos (by omega), if_pos hl]
    · rw [if_neg h2, if_neg (by omega)]
  · rw [if_neg h1, if_neg h1, if_neg (by omega)]
theorem nextH_os (H : He) (id : Int) (s : ByteArray) : (nextH H id s).os = H.os := by
  unfold nextH
  split <;> rfl
theorem getO_next (H : He) (id : Int) (s : ByteArray) (o : Int) : getO (nextH H id s) o = getO H o := by
  unfold getO
  rw [nextH_os]
theorem look_setL_ne {l : List Ent} {s s' : ByteArray} (v : Vl) (h : s' ≠ s) : look (setL l s v) s' = look l s' := by
  induction l with
  | nil => simp [setL, look, Ne.symm h]
  | cons e r ih =>
    unfold setL
    split
    · rename_i he
      simp only [look, if_neg (Ne.symm h)]
      rw [if_neg (fun x => h (x.symm.trans he))]
    · simp only [look]
      rw [ih]
theorem keyL_setL {l : List Ent} {s : ByteArray} (v : Vl) (i : Nat) (hi : i < l.length) : keyP (setL l s v) (i : Int) = keyP l (i : Int) := by
  unfold keyP
  rw [if_pos (by omega), if_pos (by omega)]
  rw [← List.getElem?_map, ← List.getElem?_map]
  cases hh : hasL l s with
  | true => rw [setL_names v hh]
  | false =>
    rw [setL_new v hh, List.map_append, List.getElem?_append_left (by simpa using hi)]

theorem set_facts (H : He) (o : Int) (s : ByteArray) (v : Vl) :
    (∀ o' s', ¬ (o' = o ∧ s' = s) → ownH (setH H o s v) o' s' = ownH H o' s') ∧ (∀ i : Nat, i < countH H o → keyH (setH H o s v) o (i : Int) = keyH H o (i : Int)) ∧
    (setE H o s ≠ 0 → ownH (setH H o s v) o s = ownH H o s ∧ countH (setH H o s v) o = countH H o) ∧
    (setE H o s = 0 → ownH (setH H o s v) o s = some v ∧ countH (setH H o s v) o = if (ownH H o s).isSome then countH H o else countH H o + 1) := by
  cases hg : getO H o with
  | none =>
    have e : setH H o s v = H := by unfold setH; rw [hg]
    have e2 : setE H o s = 4 := by unfold setE; rw [hg]
    rw [e, e2]
    exact ⟨fun _ _ _ => rfl, fun _ _ => rfl, fun _ => ⟨rfl, rfl⟩, fun h => by cases h⟩
  | some x =>
    have own : ownH H o s = look x.l s := by unfold ownH; rw [hg]
    have cnt : countH H o = x.l.length := by unfold countH; rw [hg]
    have key : ∀ i : Int, keyH H o i = keyP x.l i := fun i => by unfold keyH; rw [hg]
    cases hh : hasL x.l s with
    | true =>
      have e : setH H o s v = putO H o { x with l := setL x.l s v } := by unfold setH; rw [hg]; dsimp only; rw [hh]; rfl
      have e2 : setE H o s = 0 := by unfold setE; rw [hg]; dsimp only; rw [hh]; rfl
      have G : ∀ o', getO (setH H o s v) o' = if o' = o then some { x with l := setL x.l s v } else getO H o' := fun o' => by rw [e]; exact getO_putO hg _ o'
      rw [e2]
      refine ⟨fun o' s' hne => ?_, fun i hi => ?_, fun h => absurd rfl h, fun _ => ⟨?_, ?_⟩⟩
      · unfold ownH
        rw [G]
        by_cases ho : o' = o
        · subst ho
          rw [if_pos rfl, hg]
          exact look_setL_ne v (fun hs => hne ⟨rfl, hs⟩)
        · rw [if_neg ho]
      · rw [cnt] at hi
        rw [key]
        unfold keyH
        rw [G, if_pos rfl]
        exact keyL_setL v i hi
      · unfold ownH
        rw [G, if_pos rfl]
        exact look_setL v
      · rw [own, show (look x.l s).isSome = true from hh, if_pos rfl, cnt]
        unfold countH
        rw [G, if_pos rfl]
        dsimp only
        rw [setL_len, hh, if_pos rfl]
    | false =>
      by_cases hp : H.props ≤ x.l.length
      · have e : setH H o s v = H := by unfold setH; rw [hg]; dsimp only; rw [hh, if_pos hp]; rfl
        have e2 : setE H o s = 42 := by unfold setE; rw [hg]; dsimp only; rw [hh, if_pos hp]; rfl
        rw [e, e2]
        exact ⟨fun _ _ _ => rfl, fun _ _ => rfl, fun _ => ⟨rfl, rfl⟩, fun h => by cases h⟩
      · have e : setH H o s v = putO (nextH H x.sh s) o { x with l := x.l ++ [(s, v)], ep := x.ep + 1, sh := nextN H x.sh s } := by unfold setH; rw [hg]; dsimp only; rw [hh, if_neg hp]; rfl
        have e2 : setE H o s = 0 := by unfold setE; rw [hg]; dsimp only; rw [hh, if_neg hp]; rfl
        have G : ∀ o', getO (setH H o s v) o' = if o' = o then some { x with l := x.l ++ [(s, v)], ep := x.ep + 1, sh := nextN H x.sh s } else getO H o' := fun o' => by
          rw [e, getO_putO (y := x) (by rw [getO_next]; exact hg), getO_next]
        rw [e2]
        have ne : setL x.l s v = x.l ++ [(s, v)] := setL_new v hh
        refine ⟨fun o' s' hne => ?_, fun i hi => ?_, fun h => absurd rfl h, fun _ => ⟨?_, ?_⟩⟩
        · unfold ownH
          rw [G]
          by_cases ho : o' = o
          · subst ho
            rw [if_pos rfl, hg]
            dsimp only
            rw [← ne]
            exact look_setL_ne v (fun hs => hne ⟨rfl, hs⟩)
          · rw [if_neg ho]
        · rw [cnt] at hi
          rw [key]
          unfold keyH
          rw [G, if_pos rfl]
          dsimp only
          rw [← ne]
          exact keyL_setL v i hi
        · unfold ownH
          rw [G, if_pos rfl]
          dsimp only
          rw [← ne]
          exact look_setL v
        · rw [own, show (look x.l s).isSome = false from hh, if_neg (by decide), cnt]
          unfold countH
          rw [G, if_pos rfl]
          simp

end Go.Proofs.YtimhgbcanmgajaaGreat

namespace Go.Proofs.YtimhgbcanmgajaaGreat
set_option linter.unusedSimpArgs false
open Go.RowKit

/-- what the document keeps at a site -/
structure Dp where
  ob : Nat
  ep : Nat
structure En where
  sh : Nat
  holder : Int
  slot : Int
  to : Nat
  deps : List Dp
/-- a site: what it is used for (1 it gets, 2 it sets), the name, the entries, whether it is Mega -/
structure St where
  as' : Int
  name : ByteArray
  l : List En
  mega : Bool
def st0 : St := ⟨0, ⟨#[]⟩, [], false⟩
structure Tb where
  all : List (List St)
  hits : Nat
  misses : Nat
def newT (ns : List Int) : Tb := ⟨ns.map fun n => List.replicate (min (max n 0) 4000).toNat st0, 0, 0⟩
def siteT (T : Tb) (f k : Int) : Option St := if 0 ≤ f ∧ 0 ≤ k then (T.all[f.toNat]?).bind (fun r => r[k.toNat]?) else none
def putT (T : Tb) (f k : Int) (s : St) : Tb := { T with all := T.all.modify f.toNat (fun r => r.set k.toNat s) }
/-- the site behind the question whether it plays a part -/
def fixS (s : St) (as' : Int) (name : ByteArray) : St := if s.as' = 0 then { s with as' := as', name := name } else s
def playsS (s : St) (as' : Int) (name : ByteArray) : Bool := !s.mega && decide ((fixS s as' name).as' = as' ∧ (fixS s as' name).name = name)
def findE : List En → Nat → Option Nat
  | [], _ => none
  | e :: r, sh => if e.sh = sh then some 0 else (findE r sh).map (· + 1)
def keepS (s : St) (e : En) : St := match findE s.l e.sh with
  | some i => { s with l := s.l.set i e }
  | none => if s.l.length = 4 then { s with l := [], mega := true } else { s with l := s.l ++ [e] }
def holdsE (H : He) (e : En) : Bool := e.deps.all fun d => decide (epochH H (d.ob : Int) = d.ep)
/-- what is found along a chain -/
def lookF (H : He) (s : ByteArray) (sh : Nat) : Nat → Int → List Dp → Option En
  | 0, _, ds => some ⟨sh, -1, 0, 0, ds⟩
  | n + 1, p, ds => if p = 0 then some ⟨sh, -1, 0, 0, ds⟩ else if shapeH H p = 0 then none else
      if 0 ≤ slotofH H (shapeH H p) s then some ⟨sh, p, slotofH H (shapeH H p) s, 0, ds ++ [⟨p.toNat, epochH H p⟩]⟩ else lookF H s sh n (protoH H p) (ds ++ [⟨p.toNat, epochH H p⟩])
def lookE (H : He) (o : Int) (s : ByteArray) : Option En :=
  if 0 ≤ slotofH H (shapeH H o) s then some ⟨shapeH H o, 0, slotofH H (shapeH H o) s, 0, []⟩ else lookF H s (shapeH H o) (H.os.length + 1) (protoH H o) []
def missT (T : Tb) : Tb := { T with misses := T.misses + 1 }
def hitT (T : Tb) : Tb := { T with hits := T.hits + 1 }
/-- the table behind Get -/
def getT (H : He) (T : Tb) (f k o : Int) (name : ByteArray) : Tb :=
  if shapeH H o = 0 then missT T else match siteT T f k with
    | none => missT T
    | some s => if s.mega then missT T else
        let T1 := putT T f k (fixS s 1 name)
        if playsS s 1 name = false then missT T1 else match findE (fixS s 1 name).l (shapeH H o) with
          | some i => if ((fixS s 1 name).l[i]?).any (holdsE H) then hitT T1 else match lookE H o name with
            | none => missT T1
            | some e => missT (putT T1 f k (keepS (fixS s 1 name) e))
          | none => match lookE H o name with
            | none => missT T1
            | some e => missT (putT T1 f k (keepS (fixS s 1 name) e))
/-- the entry that a set makes, if it does -/
def setN (H : He) (o : Int) (name : ByteArray) (v : Vl) : Option En :=
  if setE H o name ≠ 0 ∨ shapeH (setH H o name v) o = 0 then none else
  if 0 ≤ slotofH H (shapeH H o) name then some ⟨shapeH H o, 0, slotofH H (shapeH H o) name, 0, []⟩ else some ⟨shapeH H o, 0, 0, shapeH (setH H o name v) o, []⟩
/-- the table behind Set -/
def setT (H : He) (T : Tb) (f k o : Int) (name : ByteArray) (v : Vl) : Tb :=
  if shapeH H o = 0 then missT T else match siteT T f k with
    | none => missT T
    | some s => if s.mega then missT T else
        let T1 := putT T f k (fixS s 2 name)
        if playsS s 2 name = false then missT T1 else match findE (fixS s 2 name).l (shapeH H o) with
          | some _ => hitT T1
          | none => match setN H o name v with
            | none => missT T1
            | some e => missT (putT T1 f k (keepS (fixS s 2 name) e))
def stateT (T : Tb) (f k : Int) : Int × List En := match siteT T f k with
  | none => (0, [])
  | some s => if s.mega then (3, []) else if 1 < s.l.length then (2, s.l) else (s.l.length, s.l)
def nameT (T : Tb) (f k : Int) : ByteArray × Bool × Bool := match siteT T f k with
  | none => (⟨#[]⟩, false, false)
  | some s => if s.as' = 0 ∨ s.mega then (⟨#[]⟩, false, false) else (s.name, decide (s.as' = 2), true)
def flushT (T : Tb) (f : Int) (mega : Bool) : Tb := if f < 0 then T else { T with all := T.all.modify f.toNat (fun r => r.map fun s => { st0 with mega := mega || s.mega }) }

/-- what may have happened to an object -/
def ObH (x y : Ob) : Prop := x.ep ≤ y.ep ∧ (x.ep = y.ep → y.sh = x.sh ∧ y.pr = x.pr ∧ y.l.map (·.1) = x.l.map (·.1))
/-- what may have happened to a heap -/
structure Hist (H H' : He) : Prop where
  m : H'.M = H.M
  n : ∀ (i : Nat) (s : ByteArray), H.N[i]? = some s → H'.N[i]? = some s
  sh : ∀ (i : Nat) (s : Sh), H.L[i]? = some s → H'.L[i]? = some s
  ob : ∀ (o : Int) (x : Ob), getO H o = some x → ∃ y, getO H' o = some y ∧ ObH x y
theorem ObH.refl (x : Ob) : ObH x x := ⟨Nat.le_refl _, fun _ => ⟨rfl, rfl, rfl⟩⟩
theorem ObH.trans {x y z : Ob} (h : ObH x y) (k : ObH y z) : ObH x z := ⟨Nat.le_trans h.1 k.1, fun e => by
  have h1 := h.1
  have k1 := k.1
  have e1 : x.ep = y.ep := by omega
  have e2 : y.ep = z.ep := by omega
  exact ⟨(k.2 e2).1.trans (h.2 e1).1, (k.2 e2).2.1.trans (h.2 e1).2.1, (k.2 e2).2.2.trans (h.2 e1).2.2⟩⟩
theorem Hist.refl (H : He) : Hist H H := ⟨rfl, fun _ _ h => h, fun _ _ h => h, fun _ x h => ⟨x, h, ObH.refl x⟩⟩
theorem Hist.trans {A B C : He} (h : Hist A B) (k : Hist B C) : Hist A C := ⟨k.m.trans h.m, fun i s e => k.n i s (h.n i s e), fun i s e => k.sh i s (h.sh i s e), fun o x e => by
  obtain ⟨y, e1, h1⟩ := h.ob o x e
  obtain ⟨z, e2, h2⟩ := k.ob o y e1
  exact ⟨z, e2, h1.trans h2⟩⟩
theorem ofT_more {L : List ByteArray} {s t : ByteArray} {i : Nat} (h : L[i]? = some t) : (ofT L s)[i]? = some t := by
  unfold ofT
  split
  · exact h
  · exact snoc_get s h
theorem hist_next (H : He) (id : Int) (s : ByteArray) : Hist H (nextH H id s) := by
  unfold nextH
  split
  · exact ⟨rfl, fun _ _ h => ofT_more h, fun _ _ h => addL_stay h, fun o x h => ⟨x, h, ObH.refl x⟩⟩
  · exact Hist.refl H
/-- an object that changed -/
theorem hist_put {H : He} {o : Int} {x y : Ob} (h : getO H o = some x) (hy : ObH x y) : Hist H (putO H o y) := ⟨rfl, fun _ _ h => h, fun _ _ h => h, fun o' z hz => by
  rw [getO_putO h]
  by_cases e : o' = o
  · subst e
    rw [h] at hz
    injection hz with hz
    subst hz
    exact ⟨y, by rw [if_pos rfl], hy⟩
  · exact ⟨z, by rw [if_neg e]; exact hz, ObH.refl z⟩⟩
theorem ObH.up {x y : Ob} (h : y.ep = x.ep + 1) : ObH x y := ⟨by omega, fun e => by omega⟩
theorem hist_set (H : He) (o : Int) (s : ByteArray) (v : Vl) : Hist H (setH H o s v) := by
  unfold setH
  cases hg : getO H o with
  | none => exact Hist.refl H
  | some x =>
    dsimp only
    split
    · rename_i hh
      exact hist_put hg ⟨Nat.le_refl _, fun _ => ⟨rfl, rfl, setL_names v hh⟩⟩
    · split
      · exact Hist.refl H
      · exact (hist_next H x.sh s).trans (hist_put (by rw [getO_next]; exact hg) (ObH.up rfl))
theorem hist_del (H : He) (o : Int) (s : ByteArray) : Hist H (delH H o s) := by
  unfold delH
  cases hg : getO H o with
  | none => exact Hist.refl H
  | some x =>
    dsimp only
    split
    · exact hist_put hg (ObH.up rfl)
    · exact Hist.refl H
theorem hist_proto (H : He) (o p : Int) : Hist H (protoS H o p) := by
  unfold protoS
  cases hg : getO H o with
  | none => exact Hist.refl H
  | some x =>
    dsimp only
    split
    · exact Hist.refl H
    · split
      · exact Hist.refl H
      · split
        · exact hist_put hg (ObH.up rfl)
        · have h1 : Hist H { H with L := (moveP H.M H.L x.sh p).2 } := ⟨rfl, fun _ _ h => h, fun _ _ h => moveP_stay h, fun o x h => ⟨x, h, ObH.refl x⟩⟩
          exact h1.trans (hist_put (show getO { H with L := (moveP H.M H.L x.sh p).2 } o = some x from hg) (ObH.up rfl))
theorem hist_putv (H : He) (o i : Int) (v : Vl) : Hist H (putH H o i v) := by
  unfold putH
  cases hg : getO H o with
  | none => exact Hist.refl H
  | some x =>
    dsimp only
    split
    · exact Hist.refl H
    · exact hist_put hg ⟨Nat.le_refl _, fun _ => ⟨rfl, rfl, (setAt_names x.l i.toNat v).1⟩⟩
theorem hist_grow (H : He) (o to : Int) (v : Vl) : Hist H (growH H o to v) := by
  unfold growH
  cases hg : getO H o with
  | none => exact Hist.refl H
  | some x =>
    dsimp only
    split
    · exact Hist.refl H
    · split
      · exact Hist.refl H
      · exact hist_put hg (ObH.up rfl)
theorem hist_make (H : He) : Hist H (makeH H) := by
  unfold makeH
  split
  · exact Hist.refl H
  · refine ⟨rfl, fun _ _ h => h, fun _ _ h => by show (rootL H.M H.L 0)[_]? = _; exact rootL_stay h, fun o x h => ⟨x, ?_, ObH.refl x⟩⟩
    obtain ⟨i, rfl, hi⟩ := getO_some h
    rw [getO_succ]
    exact snoc_get _ hi

end Go.Proofs.YtimhgbcanmgajaaGreat

namespace Go.Proofs.YtimhgbcanmgajaaGreat
set_option linter.unusedSimpArgs false
open Go.RowKit

theorem getS_hist {H0 H : He} (h : Hist H0 H) {id : Int} {t : Sh} (hg : getS H0.L id = some t) : getS H.L id = some t := by
  obtain ⟨i, rfl, hi⟩ := getS_some hg
  rw [getS_succ]
  exact h.sh i t hi
theorem atT_hist {K : Nat} {H0 H : He} (W : WfH K H) (h : Hist H0 H) {s : ByteArray} {i : Nat} (ha : atT H0.N s = some i) : atT H.N s = some i := atT_get W.nd (h.n i s (atT_at ha))
/-- a slot stays -/
theorem slotN_hist {K0 K : Nat} {H0 H : He} (W0 : WfH K0 H0) (W : WfH K H) (h : Hist H0 H) {sh : Int} {t : Sh} (hg : getS H0.L sh = some t) (s : ByteArray) : slotofH H sh s = slotofH H0 sh s := by
  have hg' := getS_hist h hg
  unfold slotofH slotN
  cases ha : atT H0.N s with
  | some i =>
    rw [atT_hist W h ha]
    dsimp only
    unfold slotF
    rw [hg, hg']
  | none =>
    cases hb : atT H.N s with
    | none => rfl
    | some j =>
      dsimp only
      unfold slotF
      rw [hg']
      dsimp only
      refine slotS_none fun hm => ?_
      obtain ⟨i, rfl, hi⟩ := getS_some hg
      have hn := W0.nums i t hi _ hm
      have hj : j < H0.N.length := by omega
      have h1 := h.n j _ (List.getElem?_eq_getElem hj)
      rw [atT_at hb] at h1
      injection h1 with h1
      exact atT_no ha _ (List.getElem_mem hj) h1.symm
theorem shape_ob {H : He} {o : Int} (h : shapeH H o ≠ 0) : ∃ x, getO H o = some x ∧ x.sh = shapeH H o ∧ x.pr = protoH H o ∧ x.ep = epochH H o := by
  unfold shapeH at h
  cases hg : getO H o with
  | none => rw [hg] at h; exact absurd rfl h
  | some x => exact ⟨x, rfl, by unfold shapeH; rw [hg], by unfold protoH; rw [hg], by unfold epochH; rw [hg]⟩
theorem slotofH_at {K : Nat} {H : He} (W : WfH K H) {o : Int} {x : Ob} (hx : getO H o = some x) (h0 : x.sh ≠ 0) (s : ByteArray) :
    (∃ k v, slotofH H x.sh s = ((k : Nat) : Int) ∧ x.l[k]? = some (s, v) ∧ ownH H o s = some v ∧ slotH H o (k : Int) = some v) ∨ (slotofH H x.sh s = -1 ∧ ownH H o s = none ∧ look x.l s = none) := by
  have e : ownH H o s = look x.l s := by unfold ownH; rw [hx]
  rcases slot_of W.wfs W.nd W.nums (W.at' hx) h0 s with ⟨k, v, h1, h2, h3⟩ | ⟨h1, h2⟩
  · refine .inl ⟨k, v, h1, h2, by rw [e]; exact h3, ?_⟩
    unfold slotH
    rw [hx]
    dsimp only
    rw [if_neg h0]
    unfold slotL
    rw [if_pos (by omega), Int.toNat_natCast, h2]
    rfl
  · exact .inr ⟨h1, by rw [e]; exact h2, h2⟩
theorem look_deps {H : He} {s : ByteArray} {sh : Nat} : ∀ (n : Nat) {p : Int} {ds : List Dp} {e : En}, lookF H s sh n p ds = some e → (∀ d ∈ ds, d ∈ e.deps) ∧ e.sh = sh ∧ e.holder ≠ 0 ∧ e.to = 0
  | 0, p, ds, e, h => by
    injection h with h
    subst h
    exact ⟨fun _ h => h, rfl, by show ((-1 : Int) ≠ 0); decide, rfl⟩
  | n + 1, p, ds, e, h => by
    rw [lookF] at h
    split at h
    · injection h with h
      subst h
      exact ⟨fun _ h => h, rfl, by show ((-1 : Int) ≠ 0); decide, rfl⟩
    · rename_i hp
      split at h
      · cases h
      · split at h
        · injection h with h
          subst h
          exact ⟨fun d hd => by simp [hd], rfl, hp, rfl⟩
        · obtain ⟨h1, h2⟩ := look_deps n h
          exact ⟨fun d hd => h1 d (by simp [hd]), h2⟩
def chainV (H : He) (e : En) : Vl := if e.holder < 0 then vl0 else (slotH H e.holder e.slot).getD vl0
theorem look_says {K0 K : Nat} {H0 H : He} (W0 : WfH K0 H0) (W : WfH K H) (hi : Hist H0 H) {s : ByteArray} {sh : Nat} : ∀ (n : Nat) {p : Int} {ds : List Dp} {e : En}, 0 ≤ p → upN H0 n p < 1 → lookF H0 s sh n p ds = some e → (∀ d ∈ e.deps, epochH H (d.ob : Int) = d.ep) → gotH H p s = chainV H e
  | 0, p, ds, e, _, hu, h, _ => by
    injection h with h
    subst h
    exact gotH_low hu s
  | n + 1, p, ds, e, hp0, hu, h, hd => by
    have hdeps := (look_deps (n + 1) h)
    rw [lookF] at h
    split at h
    · rename_i hp
      injection h with h
      subst h
      exact gotH_low (by omega) s
    · rename_i hp
      split at h
      · cases h
      · rename_i hs0
        obtain ⟨x, hx, x1, x2, x3⟩ := shape_ob hs0
        obtain ⟨y, hy, ho⟩ := hi.ob p x hx
        have key : (⟨p.toNat, epochH H0 p⟩ : Dp) ∈ e.deps → y.sh = x.sh ∧ y.pr = x.pr := fun hm => by
          have := hd _ hm
          dsimp only at this
          rw [Int.toNat_of_nonneg hp0] at this
          have e1 : epochH H p = y.ep := by unfold epochH; rw [hy]
          have := ho.2 (by omega)
          exact ⟨this.1, this.2.1⟩
        obtain ⟨t, ht⟩ : ∃ t, getS H0.L x.sh = some t := by
          obtain ⟨ns, hns, _⟩ := (W0.at' hx).sh (by rw [x1]; exact hs0)
          exact ⟨_, hns⟩
        have hsl := slotN_hist W0 W hi ht s
        split at h
        · rename_i hge
          injection h with h
          subst h
          obtain ⟨k1, k2⟩ := key (by simp)
          rcases slotofH_at W hy (by rw [k1, x1]; exact hs0) s with ⟨k, v, h1, h2, h3, h4⟩ | ⟨h1, _⟩
          · rw [k1, hsl, x1] at h1
            rw [gotH_step W, h3]
            unfold chainV
            dsimp only
            rw [if_neg (by omega), h1, h4]
            rfl
          · rw [k1, hsl, x1] at h1
            omega
        · rename_i hlt
          obtain ⟨k1, k2⟩ := key ((look_deps n h).1 _ (by simp))
          rcases slotofH_at W hy (by rw [k1, x1]; exact hs0) s with ⟨k, v, h1, h2, h3, h4⟩ | ⟨h1, h2, _⟩
          · rw [k1, hsl, x1] at h1
            omega
          · rw [gotH_step W, h2]
            dsimp only
            have hpr : protoH H p = protoH H0 p := by rw [← x2, ← k2]; unfold protoH; rw [hy]
            rw [hpr]
            exact look_says W0 W hi n (Int.natCast_nonneg _) hu h hd
/-- what an entry of a get says -/
def saysE (H : He) (o : Int) (e : En) : Vl := if e.holder = 0 then (slotH H o e.slot).getD vl0 else chainV H e
theorem entry_says {K0 K : Nat} {H0 H : He} (W0 : WfH K0 H0) (W : WfH K H) (hi : Hist H0 H) {s : ByteArray} {o0 o : Int} {e : En} (h0 : shapeH H0 o0 ≠ 0) (hl : lookE H0 o0 s = some e) (ho : shapeH H o = e.sh) (hh : holdsE H e = true) : gotH H o s = saysE H o e := by
  obtain ⟨x, hx, x1, x2, x3⟩ := shape_ob h0
  obtain ⟨ns, hns, _⟩ := (W0.at' hx).sh (by rw [x1]; exact h0)
  have hsl := slotN_hist W0 W hi hns s
  have hes : e.sh = x.sh := by
    unfold lookE at hl
    split at hl
    · injection hl with hl
      rw [← hl, x1]
    · rw [(look_deps _ hl).2.1, x1]
  obtain ⟨y, hy, y1, y2, y3⟩ := shape_ob (H := H) (o := o) (by rw [ho, hes, x1]; exact h0)
  have hys : y.sh = x.sh := by rw [y1, ho, hes]
  have hpr : y.pr = x.pr := by
    obtain ⟨ms, hms, _⟩ := (W.at' hy).sh (by rw [hys, x1]; exact h0)
    rw [hys, getS_hist hi hns] at hms
    injection hms with hms
    injection hms with hms
    omega
  unfold lookE at hl
  split at hl
  · rename_i hge
    injection hl with hl
    subst hl
    rcases slotofH_at W hy (by rw [hys, x1]; exact h0) s with ⟨k, v, h1, h2, h3, h4⟩ | ⟨h1, _⟩
    · rw [hys, hsl, x1] at h1
      rw [gotH_step W, h3]
      unfold saysE
      dsimp only
      rw [if_pos rfl, h1, h4]
      rfl
    · rw [hys, hsl, x1] at h1
      omega
  · rename_i hlt
    rcases slotofH_at W hy (by rw [hys, x1]; exact h0) s with ⟨k, v, h1, h2, h3, h4⟩ | ⟨h1, h2, _⟩
    · rw [hys, hsl, x1] at h1
      omega
    · have hld := look_deps _ hl
      rw [gotH_step W, h2]
      dsimp only
      unfold saysE
      rw [if_neg hld.2.2.1, ← y2, hpr, x2]
      refine look_says W0 W hi _ (Int.natCast_nonneg _) (upN_more (k := H0.os.length) ?_ (Nat.le_succ _)) hl (fun d hd => ?_)
      · have := W0.within o0
        exact this
      · have := List.all_eq_true.1 hh d hd
        simpa using this
/-- the names behind an object's own, at a set -/
theorem set_put {K0 K : Nat} {H0 H : He} (W0 : WfH K0 H0) (W : WfH K H) (hi : Hist H0 H) {s : ByteArray} {o0 o : Int} (v : Vl) (h0 : shapeH H0 o0 ≠ 0) (hge : 0 ≤ slotofH H0 (shapeH H0 o0) s) (ho : shapeH H o = shapeH H0 o0) :
    setE H o s = 0 ∧ setH H o s v = putH H o (slotofH H0 (shapeH H0 o0) s) v ∧ putB H o (slotofH H0 (shapeH H0 o0) s) = true := by
  obtain ⟨x, hx, x1, x2, x3⟩ := shape_ob h0
  obtain ⟨ns, hns, _⟩ := (W0.at' hx).sh (by rw [x1]; exact h0)
  have hsl := slotN_hist W0 W hi hns s
  obtain ⟨y, hy, y1, _, _⟩ := shape_ob (H := H) (o := o) (by rw [ho]; exact h0)
  have hys : y.sh = x.sh := by rw [y1, ho, x1]
  have hy0 : y.sh ≠ 0 := by rw [hys, x1]; exact h0
  rcases slotofH_at W hy hy0 s with ⟨k, u, h1, h2, h3, h4⟩ | ⟨h1, _⟩
  · rw [hys, hsl, x1] at h1
    have hh : hasL y.l s = true := hasL_iff.2 ⟨(s, u), List.mem_of_getElem? h2, rfl⟩
    refine ⟨by unfold setE; rw [hy]; dsimp only; rw [if_pos hh], ?_, ?_⟩
    · unfold setH putH
      rw [hy]
      dsimp only
      rw [if_pos hh, if_neg (by omega), setL_at v (W.at' hy).ok.1 h2, h1, Int.toNat_natCast]
      unfold setAt
      rw [h2]
    · unfold putB
      rw [h1, h4]
      rfl
  · rw [hys, hsl, x1] at h1
    omega
theorem set_grow {K0 K : Nat} {H0 H : He} {s : ByteArray} {o0 o : Int} (u v : Vl) (W0 : WfH K0 H0) (W : WfH K H) (hi : Hist (setH H0 o0 s u) H) (h0 : shapeH H0 o0 ≠ 0) (hlt : ¬ 0 ≤ slotofH H0 (shapeH H0 o0) s) (he : setE H0 o0 s = 0) (hto : shapeH (setH H0 o0 s u) o0 ≠ 0) (ho : shapeH H o = shapeH H0 o0) :
    setE H o s = growE H o (shapeH (setH H0 o0 s u) o0) ∧ setH H o s v = growH H o (shapeH (setH H0 o0 s u) o0) v := by
  obtain ⟨x, hx, x1, x2, x3⟩ := shape_ob h0
  have hx0 : x.sh ≠ 0 := by rw [x1]; exact h0
  obtain ⟨ns, hns, _⟩ := (W0.at' hx).sh hx0
  have hiA : Hist H0 H := (hist_set H0 o0 s u).trans hi
  have hsl := slotN_hist W0 W hiA hns s
  obtain ⟨y, hy, y1, _, _⟩ := shape_ob (H := H) (o := o) (by rw [ho]; exact h0)
  have hys : y.sh = x.sh := by rw [y1, ho, x1]
  have hy0 : y.sh ≠ 0 := by rw [hys]; exact hx0
  have hnx : look x.l s = none := by
    rcases slotofH_at W0 hx hx0 s with ⟨k, w, h1, _⟩ | ⟨_, _, h3⟩
    · rw [x1] at h1; omega
    · exact h3
  have hny : look y.l s = none := by
    rcases slotofH_at W hy hy0 s with ⟨k, w, h1, _⟩ | ⟨_, _, h3⟩
    · rw [hys, hsl, x1] at h1; omega
    · exact h3
  have hfx : hasL x.l s = false := by
    cases hh : hasL x.l s with
    | false => rfl
    | true =>
      obtain ⟨e, he, h1⟩ := hasL_iff.1 hh
      exact absurd h1 (look_none.1 hnx e he)
  have hfy : hasL y.l s = false := by
    cases hh : hasL y.l s with
    | false => rfl
    | true =>
      obtain ⟨e, he, h1⟩ := hasL_iff.1 hh
      exact absurd h1 (look_none.1 hny e he)
  have hroom : ¬ H0.props ≤ x.l.length := by
    unfold setE at he
    rw [hx] at he
    dsimp only at he
    rw [if_neg (by rw [hfx]; decide)] at he
    split at he
    · cases he
    · assumption
  have e1 : setH H0 o0 s u = putO (nextH H0 x.sh s) o0 { x with l := x.l ++ [(s, u)], ep := x.ep + 1, sh := nextN H0 x.sh s } := by
    unfold setH
    rw [hx]
    dsimp only
    rw [if_neg (by rw [hfx]; decide), if_neg hroom]
  have eto : shapeH (setH H0 o0 s u) o0 = nextN H0 x.sh s := by
    rw [e1]
    unfold shapeH
    rw [getO_putO (by rw [getO_next]; exact hx), if_pos rfl]
  have enx : nextN H0 x.sh s = addN H0.M H0.L x.sh (numT H0.N s : Int) := by unfold nextN; rw [hns]
  have hne : addN H0.M H0.L x.sh (numT H0.N s : Int) ≠ 0 := by rw [← enx, ← eto]; exact hto
  obtain ⟨hgs, hnin⟩ := add_spec W0.wfs hns hne
  have eL : (setH H0 o0 s u).L = addL H0.M H0.L x.sh (numT H0.N s : Int) := by
    rw [e1]
    unfold putO nextH
    rw [hns]
  have eN : (setH H0 o0 s u).N = ofT H0.N s := by
    rw [e1]
    unfold putO nextH
    rw [hns]
  have eM : H.M = H0.M := hiA.m
  rw [eto, enx]
  generalize hT : addN H0.M H0.L x.sh (numT H0.N s : Int) = T at *
  have g1 : getS H.L (T : Int) = some ((x.pr : Int), ns ++ [(numT H0.N s : Int)]) := getS_hist hi (by rw [eL]; exact hgs)
  have g0 : getS H.L x.sh = some ((x.pr : Int), ns) := getS_hist hiA hns
  -- the name's number
  obtain ⟨j, hj, hnum⟩ : ∃ j, H.N[j]? = some s ∧ numT H0.N s = j + 1 := by
    unfold numT
    cases ha : atT H0.N s with
    | some i => exact ⟨i, hiA.n i s (atT_at ha), rfl⟩
    | none => exact ⟨H0.N.length, hi.n _ s (by rw [eN]; unfold ofT; rw [ha]; exact snoc_last _ _), rfl⟩
  have aj : atT H.N s = some j := atT_get W.nd hj
  have hnumH : numT H.N s = numT H0.N s := by rw [hnum]; unfold numT; rw [aj]
  have hofT : ofT H.N s = H.N := by unfold ofT; rw [aj]; rfl
  obtain ⟨i1, hi1, g1'⟩ := getS_some g1
  have at1 : atS H.L ((x.pr : Int), ns ++ [(numT H0.N s : Int)]) = some i1 := W.wfs.at' g1'
  obtain ⟨i0, hi0, g0'⟩ := getS_some g0
  have at0 : atS H.L ((x.pr : Int), ns) = some i0 := W.wfs.at' g0'
  have hcond : ¬ (12 ≤ ns.length ∨ (numT H0.N s : Int) ∈ ns) := by
    intro hc
    have : addN H0.M H0.L x.sh (numT H0.N s : Int) = 0 := by unfold addN; rw [hns]; dsimp only; rw [if_pos hc]
    rw [hT] at this
    exact hne this
  have hadd : addN H.M H.L x.sh (numT H0.N s : Int) = T := by
    unfold addN
    rw [g0]
    dsimp only
    rw [if_neg hcond]
    unfold ofN
    rw [at1]
    dsimp only
    omega
  have haddL : addL H.M H.L x.sh (numT H0.N s : Int) = H.L := by
    unfold addL
    rw [g0]
    dsimp only
    rw [if_neg hcond]
    unfold ofL
    rw [at1]
    rfl
  have hnext : nextH H x.sh s = H := by
    unfold nextH
    rw [g0]
    dsimp only
    rw [hnumH, haddL, hofT]
  have hnextN : nextN H x.sh s = T := by
    unfold nextN
    rw [g0]
    dsimp only
    rw [hnumH, hadd]
  have hpar : parF H.L (T : Int) = x.sh := by
    unfold parF
    rw [g1]
    dsimp only
    unfold parS
    rw [if_neg (by simp)]
    simp only [List.dropLast_concat]
    unfold numS
    rw [at0]
    dsimp only
    omega
  have hlast : lastN H (T : Int) = s := by
    unfold lastN namesF
    rw [g1]
    simp only [List.getLast?_append, List.getLast?_singleton, Option.some_or, Option.getD_some]
    rw [hnum]
    exact textN_at hj
  have hc2 : ¬ (y.sh = 0 ∨ parF H.L (T : Int) ≠ y.sh) := by
    rintro (h | h)
    · exact hy0 h
    · exact h (by rw [hpar, hys])
  have hf : ¬ hasL y.l s = true := by rw [hfy]; decide
  refine ⟨?_, ?_⟩
  · unfold setE growE
    rw [hy]
    dsimp only
    rw [if_neg hf, if_neg hc2]
  · unfold setH growH
    rw [hy]
    dsimp only
    rw [if_neg hf, if_neg hc2, hys, hnext, hnextN, hlast, Int.toNat_natCast]

end Go.Proofs.YtimhgbcanmgajaaGreat

namespace Go.Proofs.YtimhgbcanmgajaaGreat
set_option linter.unusedSimpArgs false
set_option linter.unusedVariables false
open Go.RowKit

/-- an entry that a get made -/
def Made1 (H : He) (name : ByteArray) (e : En) : Prop := ∃ K0 H0 o0, WfH K0 H0 ∧ Hist H0 H ∧ shapeH H0 o0 ≠ 0 ∧ lookE H0 o0 name = some e
/-- an entry that a set made -/
def Made2 (H : He) (name : ByteArray) (e : En) : Prop := ∃ K0 H0 o0 u, WfH K0 H0 ∧ shapeH H0 o0 ≠ 0 ∧ setN H0 o0 name u = some e ∧ Hist (setH H0 o0 name u) H
structure StOk (H : He) (s : St) : Prop where
  use : s.as' = 0 ∨ s.as' = 1 ∨ s.as' = 2
  fresh : s.as' = 0 → s.l = []
  mega : s.mega = true → s.l = []
  few : s.l.length ≤ 4
  once : (s.l.map (·.sh)).Nodup
  gets : s.as' = 1 → ∀ e ∈ s.l, Made1 H s.name e
  sets : s.as' = 2 → ∀ e ∈ s.l, Made2 H s.name e
def TbOk (H : He) (T : Tb) : Prop := ∀ r ∈ T.all, ∀ s ∈ r, StOk H s
theorem Made1.hist {H H' : He} {name : ByteArray} {e : En} (h : Made1 H name e) (k : Hist H H') : Made1 H' name e := by
  obtain ⟨K0, H0, o0, h1, h2, h3⟩ := h
  exact ⟨K0, H0, o0, h1, h2.trans k, h3⟩
theorem Made2.hist {H H' : He} {name : ByteArray} {e : En} (h : Made2 H name e) (k : Hist H H') : Made2 H' name e := by
  obtain ⟨K0, H0, o0, u, h1, h2, h3, h4⟩ := h
  exact ⟨K0, H0, o0, u, h1, h2, h3, h4.trans k⟩
theorem StOk.hist {H H' : He} {s : St} (h : StOk H s) (k : Hist H H') : StOk H' s := ⟨h.use, h.fresh, h.mega, h.few, h.once, fun e x hx => (h.gets e x hx).hist k, fun e x hx => (h.sets e x hx).hist k⟩
theorem TbOk.hist {H H' : He} {T : Tb} (h : TbOk H T) (k : Hist H H') : TbOk H' T := fun r hr s hs => (h r hr s hs).hist k
theorem st0_ok (H : He) (b : Bool) : StOk H { st0 with mega := b } := ⟨.inl rfl, fun _ => rfl, fun _ => rfl, by simp [st0], by simp [st0], fun h => absurd h (by show ¬ (0 : Int) = 1; decide), fun h => absurd h (by show ¬ (0 : Int) = 2; decide)⟩
theorem newT_ok (H : He) (ns : List Int) : TbOk H (newT ns) := fun r hr s hs => by
  unfold newT at hr
  obtain ⟨n, _, rfl⟩ := List.mem_map.1 hr
  rw [(List.mem_replicate.1 hs).2]
  exact st0_ok H false
theorem flushT_ok {H : He} {T : Tb} (h : TbOk H T) (f : Int) (m : Bool) : TbOk H (flushT T f m) := by
  unfold flushT
  split
  · exact h
  · intro r hr s hs
    obtain ⟨i, hi⟩ := List.getElem?_of_mem hr
    simp only [List.getElem?_modify] at hi
    cases hT : T.all[i]? with
    | none => rw [hT] at hi; simp at hi
    | some q =>
      rw [hT] at hi
      have hq : q ∈ T.all := List.mem_of_getElem? hT
      split at hi
      · simp at hi
        subst hi
        obtain ⟨x, _, rfl⟩ := List.mem_map.1 hs
        exact st0_ok H _
      · simp at hi
        subst hi
        exact h q hq s hs
theorem siteT_ok {H : He} {T : Tb} {f k : Int} {s : St} (h : TbOk H T) (hs : siteT T f k = some s) : StOk H s := by
  unfold siteT at hs
  split at hs
  · obtain ⟨r, h1, h2⟩ := Option.bind_eq_some_iff.1 hs
    exact h r (List.mem_of_getElem? h1) s (List.mem_of_getElem? h2)
  · cases hs
theorem putT_ok {H : He} {T : Tb} {s : St} (h : TbOk H T) (hs : StOk H s) (f k : Int) : TbOk H (putT T f k s) := by
  intro r hr x hx
  unfold putT at hr
  obtain ⟨i, hi⟩ := List.getElem?_of_mem hr
  simp only [List.getElem?_modify] at hi
  cases hT : T.all[i]? with
  | none => rw [hT] at hi; simp at hi
  | some q =>
    rw [hT] at hi
    have hq : q ∈ T.all := List.mem_of_getElem? hT
    split at hi
    · simp at hi
      subst hi
      rcases List.mem_or_eq_of_mem_set hx with hx | rfl
      · exact h q hq x hx
      · exact hs
    · simp at hi
      subst hi
      exact h q hq x hx
theorem fixS_ok {H : He} {s : St} (h : StOk H s) {a : Int} (ha : a = 1 ∨ a = 2) (name : ByteArray) : StOk H (fixS s a name) := by
  unfold fixS
  split
  · rename_i h0
    have hl := h.fresh h0
    have hno : ∀ e ∈ ({ s with as' := a, name := name } : St).l, False := fun e he => by
      have he' : e ∈ s.l := he
      rw [hl] at he'
      cases he'
    exact ⟨.inr ha, fun _ => hl, fun _ => hl, h.few, h.once, fun _ e he => (hno e he).elim, fun _ e he => (hno e he).elim⟩
  · exact h
theorem find_some : ∀ {l : List En} {sh i : Nat}, findE l sh = some i → ∃ e, l[i]? = some e ∧ e.sh = sh
  | [], _, _, h => by cases h
  | e :: r, sh, i, h => by
    rw [findE] at h
    split at h
    · rename_i he
      injection h with h
      subst h
      exact ⟨e, rfl, he⟩
    · obtain ⟨j, hj, rfl⟩ := Option.map_eq_some_iff.1 h
      obtain ⟨x, h1, h2⟩ := find_some hj
      exact ⟨x, by simpa using h1, h2⟩
theorem find_none : ∀ {l : List En} {sh : Nat}, findE l sh = none → ∀ e ∈ l, e.sh ≠ sh
  | [], _, _, e, he => by cases he
  | x :: r, sh, h, e, he => by
    rw [findE] at h
    split at h
    · cases h
    · rename_i hx
      rcases List.mem_cons.1 he with rfl | he
      · exact hx
      · exact find_none (Option.map_eq_none_iff.1 h) e he
theorem keepS_ok {H : He} {s : St} (h : StOk H s) {e : En} (h0 : s.as' ≠ 0) (h1 : s.as' = 1 → Made1 H s.name e) (h2 : s.as' = 2 → Made2 H s.name e) (hm : s.mega = false) : StOk H (keepS s e) := by
  unfold keepS
  cases hf : findE s.l e.sh with
  | some i =>
    obtain ⟨x, hx, hsh⟩ := find_some hf
    have hmap : (s.l.set i e).map (·.sh) = s.l.map (·.sh) := by
      rw [List.map_set, ← hsh]
      have : (s.l.map (·.sh))[i]? = some x.sh := by rw [List.getElem?_map, hx]; rfl
      obtain ⟨hlt, e1⟩ := List.getElem?_eq_some_iff.1 this
      rw [← e1]
      exact List.set_getElem_self hlt
    have hnm : ¬ ({ s with l := s.l.set i e } : St).mega = true := by
      show ¬ s.mega = true
      rw [hm]; decide
    exact ⟨h.use, fun h' => absurd h' h0, fun h' => absurd h' hnm, (by show (s.l.set i e).length ≤ 4; rw [List.length_set]; exact h.few), (by show ((s.l.set i e).map (·.sh)).Nodup; rw [hmap]; exact h.once),
      fun h' y hy => (List.mem_or_eq_of_mem_set hy).elim (fun hy => h.gets h' y hy) (fun hy => by rw [hy]; exact h1 h'), fun h' y hy => (List.mem_or_eq_of_mem_set hy).elim (fun hy => h.sets h' y hy) (fun hy => by rw [hy]; exact h2 h')⟩
  | none =>
    dsimp only
    split
    · exact ⟨h.use, fun _ => rfl, fun _ => rfl, Nat.zero_le _, List.nodup_nil, fun _ y hy => (nomatch hy), fun _ y hy => (nomatch hy)⟩
    · rename_i h4
      have hno := find_none hf
      have hnm : ¬ ({ s with l := s.l ++ [e] } : St).mega = true := by
        show ¬ s.mega = true
        rw [hm]; decide
      refine ⟨h.use, fun h' => absurd h' h0, fun h' => absurd h' hnm, (by show (s.l ++ [e]).length ≤ 4; have := h.few; simp; omega), ?_, fun h' y hy => ?_, fun h' y hy => ?_⟩
      · show ((s.l ++ [e]).map (·.sh)).Nodup
        rw [List.map_append, List.nodup_append]
        refine ⟨h.once, by simp, fun a ha b hb => ?_⟩
        obtain ⟨z, hz, rfl⟩ := List.mem_map.1 ha
        rw [List.map_singleton, List.mem_singleton] at hb
        rw [hb]
        exact hno z hz
      · rcases List.mem_append.1 hy with hy | hy
        · exact h.gets h' y hy
        · rw [List.mem_singleton.1 hy]; exact h1 h'
      · rcases List.mem_append.1 hy with hy | hy
        · exact h.sets h' y hy
        · rw [List.mem_singleton.1 hy]; exact h2 h'
theorem plays_is {s : St} {a : Int} {name : ByteArray} (h : playsS s a name = true) : s.mega = false ∧ (fixS s a name).as' = a ∧ (fixS s a name).name = name := by
  unfold playsS at h
  simp only [Bool.and_eq_true, Bool.not_eq_true', decide_eq_true_eq] at h
  exact h
theorem fix_mega (s : St) (a : Int) (name : ByteArray) : (fixS s a name).mega = s.mega := by unfold fixS; split <;> rfl
theorem missT_ok {H : He} {T : Tb} (h : TbOk H T) : TbOk H (missT T) := h
theorem hitT_ok {H : He} {T : Tb} (h : TbOk H T) : TbOk H (hitT T) := h
/-- a table stays well behind a get -/
theorem getT_ok {K : Nat} {H : He} {T : Tb} (W : WfH K H) (h : TbOk H T) (f k o : Int) (name : ByteArray) : TbOk H (getT H T f k o name) := by
  unfold getT
  split
  · exact h
  · rename_i h0
    cases hs : siteT T f k with
    | none => exact h
    | some s =>
      dsimp only
      split
      · exact h
      · rename_i hm
        have hS := siteT_ok h hs
        have hF := fixS_ok hS (a := 1) (.inl rfl) name
        have hP := putT_ok h hF f k
        split
        · exact hP
        · rename_i hp
          obtain ⟨p1, p2, p3⟩ := plays_is (by simpa using hp)
          have key : ∀ e, lookE H o name = some e → TbOk H (putT (putT T f k (fixS s 1 name)) f k (keepS (fixS s 1 name) e)) := fun e he =>
            putT_ok hP (keepS_ok hF (by rw [p2]; decide) (fun _ => by rw [p3]; exact ⟨K, H, o, W, Hist.refl H, h0, he⟩) (fun h' => by rw [p2] at h'; exact absurd h' (by decide)) (by rw [fix_mega]; exact p1)) f k
          split
          · split
            · exact hP
            · split
              · exact hP
              · rename_i e he; exact key e he
          · split
            · exact hP
            · rename_i e he; exact key e he
theorem setT_ok {K : Nat} {H : He} {T : Tb} (W : WfH K H) (h : TbOk H T) (f k o : Int) (name : ByteArray) (v : Vl) : TbOk (setH H o name v) (setT H T f k o name v) := by
  have hh := hist_set H o name v
  have h' := h.hist hh
  unfold setT
  split
  · exact h'
  · rename_i h0
    cases hs : siteT T f k with
    | none => exact h'
    | some s =>
      dsimp only
      split
      · exact h'
      · rename_i hm
        have hS := siteT_ok h' hs
        have hF := fixS_ok hS (a := 2) (.inr rfl) name
        have hP := putT_ok h' hF f k
        split
        · exact hP
        · rename_i hp
          obtain ⟨p1, p2, p3⟩ := plays_is (by simpa using hp)
          split
          · exact hP
          · split
            · exact hP
            · rename_i e he
              exact putT_ok hP (keepS_ok hF (by rw [p2]; decide) (fun h'' => by rw [p2] at h''; exact absurd h'' (by decide)) (fun _ => by rw [p3]; exact ⟨K, H, o, v, W, h0, he, Hist.refl _⟩) (by rw [fix_mega]; exact p1)) f k
/-- what a hit of a get tells is what the heap tells -/
theorem get_hit {K : Nat} {H : He} {T : Tb} {f k o : Int} {name : ByteArray} {s : St} {i : Nat} {e : En} (W : WfH K H) (h : TbOk H T) (hs : siteT T f k = some s) (hp : playsS s 1 name = true) (hf : findE (fixS s 1 name).l (shapeH H o) = some i) (hi : (fixS s 1 name).l[i]? = some e) (hh : holdsE H e = true) : gotH H o name = saysE H o e := by
  obtain ⟨p1, p2, p3⟩ := plays_is hp
  have hF := fixS_ok (siteT_ok h hs) (a := 1) (.inl rfl) name
  obtain ⟨K0, H0, o0, W0, hist, h0, hl⟩ := hF.gets p2 e (List.mem_of_getElem? hi)
  rw [p3] at hl
  obtain ⟨x, hx, hsh⟩ := find_some hf
  rw [hi] at hx
  injection hx with hx
  subst hx
  exact entry_says W0 W hist h0 hl hsh.symm hh
/-- what a hit of a set does is what the heap does -/
theorem set_hit {K : Nat} {H : He} {T : Tb} {f k o : Int} {name : ByteArray} {s : St} {i : Nat} {e : En} (v : Vl) (W : WfH K H) (h : TbOk H T) (hs : siteT T f k = some s) (hp : playsS s 2 name = true) (hf : findE (fixS s 2 name).l (shapeH H o) = some i) (hi : (fixS s 2 name).l[i]? = some e) :
    (e.to = 0 → setE H o name = 0 ∧ setH H o name v = putH H o e.slot v ∧ putB H o e.slot = true) ∧ (e.to ≠ 0 → setE H o name = growE H o e.to ∧ setH H o name v = growH H o e.to v) := by
  obtain ⟨p1, p2, p3⟩ := plays_is hp
  have hF := fixS_ok (siteT_ok h hs) (a := 2) (.inr rfl) name
  obtain ⟨K0, H0, o0, u, W0, h0, hn, hist⟩ := hF.sets p2 e (List.mem_of_getElem? hi)
  rw [p3] at hn hist
  obtain ⟨x, hx, hsh⟩ := find_some hf
  rw [hi] at hx
  injection hx with hx
  subst hx
  unfold setN at hn
  split at hn
  · cases hn
  · rename_i hc
    have hc1 : setE H0 o0 name = 0 := Classical.byContradiction fun h => hc (.inl h)
    have hc2 : shapeH (setH H0 o0 name u) o0 ≠ 0 := fun h => hc (.inr h)
    split at hn
    · rename_i hge
      injection hn with hn
      subst hn
      exact ⟨fun _ => set_put W0 W ((hist_set H0 o0 name u).trans hist) v h0 hge hsh.symm, fun h => absurd rfl h⟩
    · rename_i hlt
      injection hn with hn
      subst hn
      exact ⟨fun h => absurd h hc2, fun _ => set_grow u v W0 W hist h0 hlt hc1 hc2 hsh.symm⟩

end Go.Proofs.YtimhgbcanmgajaaGreat

namespace Go.Proofs.YtimhgbcanmgajaaGreat
open Go.RowKit

theorem flat_len {z : Nat} : ∀ {l : List (List Value)}, (∀ r ∈ l, r.length = z) → l.flatten.length = l.length * z
  | [], _ => by simp
  | r :: l, h => by
    have h1 := h r (by simp)
    have h2 := flat_len (l := l) (z := z) (fun x hx => h x (by simp [hx]))
    rw [List.flatten_cons, List.length_append, h1, h2, List.length_cons, Nat.add_mul, Nat.one_mul, Nat.add_comm]
theorem flat_at {z : Nat} : ∀ {l : List (List Value)} {i j : Nat} {r : List Value}, (∀ r ∈ l, r.length = z) → l[i]? = some r → j < z → l.flatten[i * z + j]? = r[j]?
  | [], i, j, r, _, h, _ => by simp at h
  | x :: l, 0, j, r, hz, h, hj => by
    simp at h
    subst h
    have h1 := hz x (by simp)
    rw [List.flatten_cons, Nat.zero_mul, Nat.zero_add, List.getElem?_append_left (by omega)]
  | x :: l, i + 1, j, r, hz, h, hj => by
    have h1 := hz x (by simp)
    rw [List.flatten_cons, List.getElem?_append_right (by rw [h1, Nat.add_mul]; omega), h1, show (i + 1) * z + j - z = i * z + j by rw [Nat.add_mul]; omega]
    exact flat_at (fun x hx => hz x (by simp [hx])) (by simpa using h) hj
theorem flat_set {z : Nat} : ∀ {l : List (List Value)} {i j : Nat} {r : List Value} (v : Value), (∀ r ∈ l, r.length = z) → l[i]? = some r → j < z → l.flatten.set (i * z + j) v = (l.set i (r.set j v)).flatten
  | [], i, j, r, v, _, h, _ => by simp at h
  | x :: l, 0, j, r, v, hz, h, hj => by
    simp at h
    subst h
    have h1 := hz x (by simp)
    rw [List.flatten_cons, Nat.zero_mul, Nat.zero_add, List.set_append_left _ _ (by omega), List.set_cons_zero, List.flatten_cons]
  | x :: l, i + 1, j, r, v, hz, h, hj => by
    have h1 := hz x (by simp)
    rw [List.flatten_cons, List.set_append_right _ _ (by rw [h1, Nat.add_mul]; omega), h1, show (i + 1) * z + j - z = i * z + j by rw [Nat.add_mul]; omega, flat_set v (fun x hx => hz x (by simp [hx])) (by simpa using h) hj, List.set_cons_succ, List.flatten_cons]
theorem rows_set {z : Nat} {l : List (List Value)} {i : Nat} {r : List Value} (hz : ∀ r ∈ l, r.length = z) (hr : r.length = z) : ∀ x ∈ l.set i r, x.length = z := fun x hx => by
  rcases List.mem_or_eq_of_mem_set hx with h | h
  · exact hz x h
  · rw [h]; exact hr
theorem flat_snoc (l : List (List Value)) (r : List Value) : (l ++ [r]).flatten = l.flatten ++ r := by simp

end Go.Proofs.YtimhgbcanmgajaaGreat

namespace Go.Proofs.YtimhgbcanmgajaaGreat
open Go.RowKit

/-- how a pointer to the head of a block reads -/
def ptrE (v : Value) : Option (DataW Unit × List MemPlace) := match v with
  | .pointer none => some (.nil, [])
  | .pointer (some a) => if a = ⟨a.block, 0, none⟩ then some (.lit (.int .i64 (a.block : Int)), []) else none
  | _ => none
theorem ptrE_mk (g : Nat) : ptrE (.pointer (some ⟨g, 0, none⟩)) = some (.lit (.int .i64 (g : Int)), []) := by simp [ptrE]
theorem ptrE_inv {v : Value} {d : DataW Unit} {ps : List MemPlace} (h : ptrE v = some (d, ps)) : (v = .pointer none ∧ d = .nil) ∨ ∃ g : Nat, v = .pointer (some ⟨g, 0, none⟩) ∧ d = .lit (.int .i64 (g : Int)) := by
  unfold ptrE at h
  split at h
  · injection h with h; injection h with h1 _; exact .inl ⟨rfl, h1.symm⟩
  · rename_i a
    split at h
    · rename_i e
      injection h with h; injection h with h1 _
      exact .inr ⟨a.block, by rw [← e], h1.symm⟩
    · cases h
  · cases h
theorem ptrE_at {v : Value} {g : Nat} {ps : List MemPlace} (h : ptrE v = some (.lit (.int .i64 (g : Int)), ps)) : v = .pointer (some ⟨g, 0, none⟩) := by
  rcases ptrE_inv h with ⟨_, h1⟩ | ⟨k, rfl, h1⟩
  · cases h1
  · injection h1 with h1; injection h1 with _ h1
    have : g = k := by omega
    rw [this]
theorem ptrE_nil {v : Value} {ps : List MemPlace} (h : ptrE v = some (.nil, ps)) : v = .pointer none := by
  rcases ptrE_inv h with ⟨rfl, _⟩ | ⟨k, rfl, h1⟩
  · rfl
  · cases h1
/-- a pointer, or none -/
def pO (o : Option Nat) : Value := match o with | some g => .pointer (some ⟨g, 0, none⟩) | none => .pointer none

/-- block m is a map from numbers to blocks: f tells them, c how many there are -/
def MapP (m : Nat) (f : Int → Option Nat) (c : Nat) (w : World) : Prop :=
  ∃ D : DataW Unit, w.ownsMap Tryz.prog 3 ptrE m c D ∧ Maps.size D = c ∧
    ∀ s : Int, I64 s → Maps.has D (litI s) = (f s).isSome ∧ ∀ i, f s = some i → D.atKey (litI s) .nil = .lit (.int .i64 (i : Int))
theorem own_tightP {m n : Nat} {D : DataW Unit} {w : World} (h : w.ownsMap Tryz.prog 3 ptrE m n D) : w.ownsMap Tryz.prog 3 ptrE m (Maps.size D) D := by
  obtain ⟨es, clock, hb, F, hs, rfl⟩ := h
  exact ⟨es, clock, hb, F, by simp [Maps.size, length_sorted], rfl⟩
theorem mapP_new (w : World) : MapP w.heap.size (fun _ => none) 0 (w.alloc (.map #[] 0)) :=
  ⟨.map [], World.ownsMap_made w _ _ _, rfl, fun s _ => ⟨rfl, fun i h => by cases h⟩⟩
theorem mapP_block {m c : Nat} {f : Int → Option Nat} {w : World} (h : MapP m f c w) : ∃ es clock, w.heap[m]? = some (.map es clock) := by
  obtain ⟨D, ⟨es, clock, hb, _⟩, _⟩ := h
  exact ⟨es, clock, hb⟩
theorem mapP_lt {m c : Nat} {f : Int → Option Nat} {w : World} (h : MapP m f c w) : m < w.heap.size := by
  obtain ⟨D, ho, _⟩ := h
  exact ho.lt
theorem mapP_keep {m c : Nat} {f : Int → Option Nat} {a b : World} (h : MapP m f c a) (hk : b.heap[m]? = a.heap[m]?) : MapP m f c b := by
  obtain ⟨D, ⟨es, clock, hb, r⟩, h2⟩ := h
  exact ⟨D, ⟨es, clock, hk.trans hb, r⟩, h2⟩
theorem mapP_ext {m c : Nat} {f g : Int → Option Nat} {w : World} (h : MapP m f c w) (e : ∀ s, I64 s → f s = g s) : MapP m g c w := by
  obtain ⟨D, h1, h2, h3⟩ := h
  exact ⟨D, h1, h2, fun s hs => by rw [← e s hs]; exact h3 s hs⟩
set_option maxRecDepth 100000 in
/-- v, ok := m[s] -/
theorem gp_look {T eT : TypeId} (ht : Tryz.prog.underlying T = some (.map 3 eT)) (hz : ∀ w, (zeroValue eT).run Tryz.prog w = .ok (.pointer none) w) {ops : Array Oper} {rest : List Oper} {o : Oper} {a : Act} {Q : Exit → Act → World → Prop} {w : World} (hg : o.guard = none) (mo x : Operand) (hop : o.op = Op.lookup T mo x true)
    (m c : Nat) (f : Int → Option Nat) (s : Int) (hm : a.eval mo = .map (some m)) (hM : MapP m f c w) (hx : a.eval x = .int .i64 s) (hs : I64 s)
    (hK : wpList Tryz.prog ops Q rest (a.put o.dst (.tuple #[pO (f s), .bool (f s).isSome])) w) : wpList Tryz.prog ops Q (o :: rest) a w := by
  obtain ⟨D, ho, hc, hf⟩ := hM
  obtain ⟨h1, h2⟩ := hf s hs
  refine wpList_lookup_own_ok w hg mo x T hop _ _ keyI ht ptrE (hz w) .nil [] rfl m c D hm ho _ (litI s) hx (keyOf_litI hs) ?_
  intro v ps hv
  have e : v = pO (f s) := by
    cases hfs : f s with
    | none =>
      rw [hfs] at h1
      rw [Maps.atKey_of_not_has h1] at hv
      exact ptrE_nil hv
    | some i =>
      rw [h2 i hfs] at hv
      exact ptrE_at hv
  rw [e, h1]
  exact hK
/-- .. of a nil map -/
theorem gp_look_nil {T eT : TypeId} (ht : Tryz.prog.underlying T = some (.map 3 eT)) (hz : ∀ w, (zeroValue eT).run Tryz.prog w = .ok (.pointer none) w) (w : World) {s : Int} (hs : I64 s) : (Instr.lookup T (.map none) (.int .i64 s) true).run Tryz.prog w = .ok (.tuple #[.pointer none, .bool false]) w :=
  Maps.look_nil true keyI ht (hz w) (keyOf_litI hs)
/-- m[s] = i -/
def putFP (f : Int → Option Nat) (s : Int) (i : Nat) (x : Int) : Option Nat := if x = s then some i else f x
theorem gp_oput {T eT : TypeId} (ht : Tryz.prog.underlying T = some (.map 3 eT)) {o : Oper} {a : Act} {K : Act → World → Prop} {Q : Exit → Act → World → Prop} {w : World} (mo x v : Operand) (hop : o.op = Op.mapUpdate T mo x v)
    (m c : Nat) (f : Int → Option Nat) (s : Int) (i : Nat) (hm : a.eval mo = .map (some m)) (hM : MapP m f c w) (hc : c < maxLen) (hx : a.eval x = .int .i64 s) (hs : I64 s) (hv : a.eval v = .pointer (some ⟨i, 0, none⟩))
    (hK : ∀ w', MapP m (putFP f s i) (if (f s).isSome then c else c + 1) w' → w.grownBy w' (some m) → K (a.put o.dst undef) w') : o.wp Tryz.prog a w K Q := by
  obtain ⟨D, ho, hz, hf⟩ := hM
  obtain ⟨w', hrun, r1, r2⟩ := ho.update keyI ht hc (keyOf_litI hs) (ptrE_mk i)
  unfold Oper.wp
  simp [execOp, hop, hm, hx, hv, hrun, Result.andThen]
  have hsz : Maps.size (D.put (litI s) (.lit (.int .i64 (i : Int)))) = if (f s).isSome then c else c + 1 := by
    rw [Maps.size_put (ho.tidy keyI), (hf s hs).1, hz]
  refine hK w' ⟨_, by rw [← hsz]; exact own_tightP r1, hsz, fun y hy => ?_⟩ r2
  by_cases hys : y = s
  · subst hys
    refine ⟨by rw [Maps.has_put_same ho.isMap (isKey_litI y)]; simp [putFP], fun j hj => ?_⟩
    rw [Maps.atKey_put_same ho.isMap (isKey_litI y)]
    simp [putFP] at hj
    rw [hj]
  · have hne : litI y ≠ litI s := fun e => hys (litI_inj e)
    refine ⟨by rw [Maps.has_put_other hne, (hf y hy).1]; simp [putFP, hys], fun j hj => ?_⟩
    rw [Maps.atKey_put_other hne]
    simp [putFP, hys] at hj
    exact (hf y hy).2 j hj
theorem gp_put {T eT : TypeId} (ht : Tryz.prog.underlying T = some (.map 3 eT)) {ops : Array Oper} {rest : List Oper} {o : Oper} {a : Act} {Q : Exit → Act → World → Prop} {w : World} (hg : o.guard = none) (mo x v : Operand) (hop : o.op = Op.mapUpdate T mo x v)
    (m c : Nat) (f : Int → Option Nat) (s : Int) (i : Nat) (hm : a.eval mo = .map (some m)) (hM : MapP m f c w) (hc : c < maxLen) (hx : a.eval x = .int .i64 s) (hs : I64 s) (hv : a.eval v = .pointer (some ⟨i, 0, none⟩))
    (hK : ∀ w', MapP m (putFP f s i) (if (f s).isSome then c else c + 1) w' → w.grownBy w' (some m) → wpList Tryz.prog ops Q rest (a.put o.dst undef) w') : wpList Tryz.prog ops Q (o :: rest) a w :=
  wpList_plain hg fun _ hK' => gp_oput ht mo x v hop m c f s i hm hM hc hx hs hv fun w' h1 h2 => hK' _ _ (hK w' h1 h2)
theorem gp_step {T eT : TypeId} (ht : Tryz.prog.underlying T = some (.map 3 eT)) {ops : Array Oper} {o : Oper} {a : Act} {K : Act → World → Prop} {Q : Exit → Act → World → Prop} {E : Prop} {w : World} (hg : o.guard = none) (mo x v : Operand) (hop : o.op = Op.mapUpdate T mo x v)
    (m c : Nat) (f : Int → Option Nat) (s : Int) (i : Nat) (hm : a.eval mo = .map (some m)) (hM : MapP m f c w) (hc : c < maxLen) (hx : a.eval x = .int .i64 s) (hs : I64 s) (hv : a.eval v = .pointer (some ⟨i, 0, none⟩))
    (hK : ∀ w', MapP m (putFP f s i) (if (f s).isSome then c else c + 1) w' → w.grownBy w' (some m) → K (a.put o.dst undef) w') : if Region.wanted o (yielded ops a.tmps) = true then Oper.wp Tryz.prog o a w K Q else E := by
  rw [if_pos (by simp [Region.wanted, hg])]
  exact gp_oput ht mo x v hop m c f s i hm hM hc hx hs hv hK

end Go.Proofs.YtimhgbcanmgajaaGreat

namespace Go.Proofs.YtimhgbcanmgajaaGreat
set_option linter.unusedVariables false
open Go.RowKit

/-- a structure that lies in a set of blocks: it may lie in a greater one, and stays as long as none of its blocks is written -/
structure Fam (A : (Nat → Prop) → World → Prop) : Prop where
  mono : ∀ {S T : Nat → Prop} {w : World}, A S w → (∀ b, b < w.heap.size → S b → T b) → A T w
  keep : ∀ {S T : Nat → Prop} {a b : World}, A S a → Keep T a b → (∀ x, x < a.heap.size → S x → ¬ T x) → A S b
theorem Fam.on {A : (Nat → Prop) → World → Prop} (F : Fam A) {S : Nat → Prop} {a b : World} (h : A S a) (k : Below a.heap.size a b) : A S b :=
  F.keep h (Keep.of (S := fun _ => False) k) (fun _ _ _ e => e)
/-- two structures that are apart, both within S -/
def Pr (A B : (Nat → Prop) → World → Prop) (S : Nat → Prop) (w : World) : Prop :=
  ∃ U V : Nat → Prop, A U w ∧ B V w ∧ (∀ b, U b → ¬ V b) ∧ ∀ b, U b ∨ V b → S b ∧ b < w.heap.size
theorem Fam.pr {A B : (Nat → Prop) → World → Prop} (FA : Fam A) (FB : Fam B) : Fam (Pr A B) where
  mono := fun ⟨U, V, a, b, d, i⟩ h => ⟨U, V, a, b, d, fun x hx => ⟨h x (i x hx).2 (i x hx).1, (i x hx).2⟩⟩
  keep := fun ⟨U, V, a, b, d, i⟩ k h => ⟨U, V, FA.keep a k (fun x hx e => h x hx (i x (.inl e)).1), FB.keep b k (fun x hx e => h x hx (i x (.inr e)).1), d, fun x hx => ⟨(i x hx).1, Nat.lt_of_lt_of_le (i x hx).2 k.size⟩⟩
theorem Pr.swap {A B : (Nat → Prop) → World → Prop} {S : Nat → Prop} {w : World} (p : Pr A B S w) : Pr B A S w := by
  obtain ⟨U, V, a, b, d, i⟩ := p
  exact ⟨V, U, b, a, fun x hv hu => d x hu hv, fun x hx => i x hx.symm⟩
theorem Pr.mk {A B : (Nat → Prop) → World → Prop} (FA : Fam A) (FB : Fam B) {S U V : Nat → Prop} {w : World} (a : A U w) (b : B V w) (d : ∀ x, x < w.heap.size → U x → ¬ V x) (hU : ∀ x, x < w.heap.size → U x → S x) (hV : ∀ x, x < w.heap.size → V x → S x) : Pr A B S w :=
  ⟨fun x => U x ∧ x < w.heap.size, fun x => V x ∧ x < w.heap.size, FA.mono a (fun _ h e => ⟨e, h⟩), FB.mono b (fun _ h e => ⟨e, h⟩), fun x hu hv => d x hu.2 hu.1 hv.1, fun x hx => by
    rcases hx with hx | hx
    · exact ⟨hU x hx.2 hx.1, hx.2⟩
    · exact ⟨hV x hx.2 hx.1, hx.2⟩⟩
/-- what is known of the one when the other one has changed -/
theorem Pr.step {B A' : (Nat → Prop) → World → Prop} (FA' : Fam A') (FB : Fam B) {S U V : Nat → Prop} {w w' : World} (b : B V w) (d : ∀ b, U b → ¬ V b) (i : ∀ b, U b ∨ V b → S b ∧ b < w.heap.size) (a' : A' (Up U w) w') (k : Keep U w w') : Pr A' B (Up S w) w' ∧ Keep S w w' := by
  refine ⟨Pr.mk FA' FB a' (FB.keep b k (fun x _ hv hu => d x hu hv)) (fun x hx hu hv => ?_) (fun x hx hu => ?_) (fun x hx hv => .inl (i x (.inr hv)).1), k.mono (fun x _ hu => (i x (.inl hu)).1)⟩
  · rcases hu with hu | hu
    · exact d x hu hv
    · have := (i x (.inr hv)).2
      omega
  · rcases hu with hu | hu
    · exact .inl (i x (.inl hu)).1
    · exact .inr hu
theorem Pr.left {A B A' : (Nat → Prop) → World → Prop} (FA' : Fam A') (FB : Fam B) {P : Program} {F : Nat} {args : Array Value} {S : Nat → Prop} {w : World} {E : Ending → Prop} (p : Pr A B S w)
    (c : ∀ U, A U w → Calls P F args w fun e w' => E e ∧ A' (Up U w) w' ∧ Keep U w w') : Calls P F args w fun e w' => E e ∧ Pr A' B (Up S w) w' ∧ Keep S w w' := by
  obtain ⟨U, V, a, b, d, i⟩ := p
  exact (c U a).mono fun e w' ⟨h1, h2, h3⟩ => ⟨h1, Pr.step FA' FB b d i h2 h3⟩
theorem Pr.right {A B B' : (Nat → Prop) → World → Prop} (FA : Fam A) (FB' : Fam B') {P : Program} {F : Nat} {args : Array Value} {S : Nat → Prop} {w : World} {E : Ending → Prop} (p : Pr A B S w)
    (c : ∀ U, B U w → Calls P F args w fun e w' => E e ∧ B' (Up U w) w' ∧ Keep U w w') : Calls P F args w fun e w' => E e ∧ Pr A B' (Up S w) w' ∧ Keep S w w' :=
  (Pr.left FB' FA p.swap c).mono fun _ _ ⟨h1, h2, h3⟩ => ⟨h1, h2.swap, h3⟩
theorem Pr.fst {A B : (Nat → Prop) → World → Prop} {S : Nat → Prop} {w : World} (p : Pr A B S w) : ∃ U, A U w := by
  obtain ⟨U, V, a, b, d, i⟩ := p
  exact ⟨U, a⟩
theorem Pr.snd {A B : (Nat → Prop) → World → Prop} {S : Nat → Prop} {w : World} (p : Pr A B S w) : ∃ V, B V w := p.swap.fst
/-- behind a law's step: the structures in all blocks of the law's but its own X -/
theorem law_step {A : (Nat → Prop) → World → Prop} (FA : Fam A) {B : Nat} {X : Nat → Prop} {w w' : World} (hX : ∀ b, X b → b < w.heap.size) (hB : B ≤ w.heap.size) (p : A (Up (fun b => B ≤ b ∧ ¬ X b) w) w' ∧ Keep (fun b => B ≤ b ∧ ¬ X b) w w') :
    A (fun b => B ≤ b ∧ ¬ X b) w' ∧ Keep (fun b => B ≤ b ∧ ¬ X b) w w' ∧ Below B w w' :=
  ⟨FA.mono p.1 (fun b _ h => by rcases h with h | h; exact h; exact ⟨by omega, fun e => by have := hX b e; omega⟩), p.2, p.2.below hB (fun _ h => h.1)⟩

end Go.Proofs.YtimhgbcanmgajaaGreat
