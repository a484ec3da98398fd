/- Which nodes are right, as a plain function. How high a tree is. How many nodes a tree has. Names become numbers: as plain functions. -/
import Derived.Test.YtmihckhflbepjaaDoorJoint2
import Derived.Test.YtmihckhflbepjaaDoorNdMem
namespace Go.Proofs.YtmihckhflbepjaaDoor
open Go.RowKit

/-- signs between two, by their numbers -/
def tsgnL : List (List UInt8) := [[], [43], [45], [42], [47], [37], [60], [60, 61], [62], [62, 61], [61, 61], [33, 61]]
def signT (o : Int) : List UInt8 := if o < 0 then [] else tsgnL.getD o.toNat []
/-- built-in calls: name, and how many parts -/
def builtL : List (List UInt8 × Nat) := [([], 0), ([99, 111, 117, 110, 116], 1), ([107, 101, 121], 2), ([104, 97, 115], 2), ([112, 114, 111, 116, 111], 1), ([115, 101, 116, 112, 114, 111, 116, 111], 2), ([108, 101, 110], 1), ([115, 116, 114], 1)]
def builtT (o : Int) : List UInt8 × Nat := if o < 0 then ([], 0) else builtL.getD o.toNat ([], 0)
/-- how tight a sign is -/
def rankT (k o : Int) : Int :=
  if k = 12 then 1 else if k = 11 then 2 else if k = 10 then (if o = 10 ∨ o = 11 then 3 else if 6 ≤ o ∧ o ≤ 9 then 4 else if o = 1 ∨ o = 2 then 5 else if 3 ≤ o ∧ o ≤ 5 then 6 else 9)
  else if k = 9 then 7 else if 13 ≤ k ∧ k ≤ 16 then 8 else if 1 ≤ k ∧ k ≤ 20 then 9 else 0

/-- an expression 1, a statement that is no block 2, a block 3 -/
def isK (k : Int) : Nat := if 1 ≤ k ∧ k ≤ 17 then 1 else if k = 29 then 3 else if 21 ≤ k ∧ k ≤ 32 then 2 else 0
/-- what a kid is to be -/
def wantK (k : Int) (i : Nat) : Nat := if k = 8 ∨ k = 29 then 2 else if (k = 28 ∨ k = 30) ∧ 0 < i then 3 else 1

def properB (s : ByteArray) : Bool := nameB s.data.toList && !keyB s.data.toList
def propB (s : ByteArray) : Bool := nameB s.data.toList
def opOk (k o : Int) : Bool := if k = 9 then decide (1 ≤ o ∧ o ≤ 2) else if k = 10 then decide (1 ≤ o ∧ o ≤ 11) else if k = 17 then decide (1 ≤ o ∧ o ≤ 7) else decide (o = 0)
def numOk (k n : Int) : Bool := if k = 2 then decide (n = 0 ∨ n = 1) else if k = 3 then decide (0 ≤ n ∧ n ≤ 4611686018427387903) else decide (n = 0)
def strOk (k : Int) (s : ByteArray) : Bool :=
  if k = 4 then decide (s.size ≤ 256) else if k = 5 ∨ k = 21 ∨ k = 22 then properB s else if k = 13 ∨ k = 16 ∨ k = 23 ∨ k = 25 then propB s else decide (s.size = 0)
def nsOk (k : Int) (ns : List ByteArray) : Bool :=
  if k = 7 then decide (ns.length ≤ 40) && ns.all propB else if k = 8 then decide (ns.length ≤ 6) && ns.all properB else decide (ns.length = 0)
def cntOk (k o : Int) (m c : Nat) : Bool :=
  if 1 ≤ k ∧ k ≤ 6 then decide (c = 0) else if k = 7 then decide (c = m) else if k = 8 ∨ k = 29 then decide (c ≤ 40)
  else if k = 9 ∨ k = 13 ∨ k = 21 ∨ k = 22 ∨ k = 25 ∨ k = 27 ∨ k = 31 ∨ k = 32 then decide (c = 1)
  else if k = 10 ∨ k = 11 ∨ k = 12 ∨ k = 14 ∨ k = 23 ∨ k = 26 ∨ k = 30 then decide (c = 2)
  else if k = 15 ∨ k = 16 then decide (1 ≤ c ∧ c ≤ 7) else if k = 17 then decide (c = (builtT o).2) else if k = 24 ∨ k = 28 then decide (c = 3) else false
/-- a node's own fields, and how many kids it has, are those of its kind -/
def okB (k o n : Int) (s : ByteArray) (ns : List ByteArray) (c : Nat) : Bool := opOk k o && (numOk k n && (strOk k s && (nsOk k ns && cntOk k o ns.length c)))

mutual
/-- right as an expression (1), a statement (2), a block (3) -/
def rightN : Nd → Nat → Bool
  | .mk k o n s ns ks _, a => (isK k == a) && (okB k o n s ns ks.length && rightL ks k 0)
def rightL : List Nd → Int → Nat → Bool
  | [], _, _ => true
  | x :: r, k, i => rightN x (wantK k i) && rightL r k (i + 1)
end
theorem rightN_mk (k o n : Int) (s : ByteArray) (ns : List ByteArray) (ks : List Nd) (p : Int) (a : Nat) : rightN (.mk k o n s ns ks p) a = ((isK k == a) && (okB k o n s ns ks.length && rightL ks k 0)) := by rw [rightN]

/-- all kids are wanted alike -/
theorem rightL_all {k : Int} {a : Nat} (h : ∀ i, wantK k i = a) : ∀ (ks : List Nd) (i : Nat), rightL ks k i = !ks.any fun x => !rightN x a
  | [], i => by rw [rightL]; rfl
  | x :: r, i => by
    rw [rightL, h, rightL_all h r (i + 1), List.any_cons]
    cases rightN x a <;> simp

theorem isK_not3 {k : Int} (h : k ≠ 29) : (isK k == 3) = false := by
  unfold isK; rw [beq_eq_false_iff_ne]; grind
theorem isK_not1 {k : Int} (h : ¬(1 ≤ k ∧ k ≤ 17)) : (isK k == 1) = false := by
  unfold isK; rw [beq_eq_false_iff_ne]; grind
theorem isK_not2 {k : Int} (h : ¬(21 ≤ k ∧ k ≤ 32) ∨ k = 29) : (isK k == 2) = false := by
  unfold isK; rw [beq_eq_false_iff_ne]; grind

/-- what Check says -/
def checkN (t : Nd) : Int := if 12 < highN t then 13 else if rightN t 3 then 0 else 2

end Go.Proofs.YtmihckhflbepjaaDoor

namespace Go.Proofs.YtmihckhflbepjaaDoor
open Go.RowKit

theorem take_one {α : Type} (l : List α) (i : Nat) (h : i < l.length) : l.take (i + 1) = l.take i ++ [l[i]] := by
  rw [List.take_succ_eq_append_getElem h]

end Go.Proofs.YtmihckhflbepjaaDoor

namespace Go.Proofs.YtmihckhflbepjaaDoor
open Go.RowKit

end Go.Proofs.YtmihckhflbepjaaDoor

namespace Go.Proofs.YtmihckhflbepjaaDoor
open Go.RowKit

/-- what comes of it, or an error and its place -/
inductive Rz (α : Type) where
  | ok (a : α) : Rz α
  | bad (p e : Int) : Rz α
def Rz.bind {α β : Type} (x : Rz α) (f : α → Rz β) : Rz β := match x with | .ok a => f a | .bad p e => .bad p e
theorem Rz.bind_ok {α β : Type} (a : α) (f : α → Rz β) : (Rz.ok a).bind f = f a := rfl
theorem Rz.bind_bad {α β : Type} (p e : Int) (f : α → Rz β) : (Rz.bad p e : Rz α).bind f = .bad p e := rfl

/-- where a name is among those declared -/
def idxN : List ByteArray → ByteArray → Option Nat
  | [], _ => none
  | x :: r, s => if x = s then some 0 else (idxN r s).map (· + 1)
def idxF (l : List ByteArray) (s : ByteArray) : Option Int := (idxN l s).map (fun i => (i : Int))
theorem idxN_snoc : ∀ (l : List ByteArray) (s x : ByteArray), idxN (l ++ [s]) x = if (idxN l x).isSome then idxN l x else if s = x then some l.length else none
  | [], s, x => by simp [idxN]
  | y :: r, s, x => by
    simp only [List.cons_append, idxN, idxN_snoc r s x]
    by_cases he : y = x
    · simp [he]
    · simp only [if_neg he]
      rcases Option.eq_none_or_eq_some (idxN r x) with h1 | ⟨j, h1⟩ <;> by_cases h : s = x <;> simp [h, h1]
theorem idxN_lt : ∀ {l : List ByteArray} {s : ByteArray} {i : Nat}, idxN l s = some i → i < l.length
  | [], _, _, h => by cases h
  | x :: r, s, i, h => by
    unfold idxN at h
    by_cases hx : x = s
    · rw [if_pos hx] at h; cases h; simp
    · rw [if_neg hx] at h
      obtain ⟨j, hj, rfl⟩ := Option.map_eq_some_iff.1 h
      have := idxN_lt hj
      simp; omega
/-- the error of one name more -/
def declE (l : List ByteArray) (s : ByteArray) : Int := if (idxN l s).isSome then 15 else if l.length = 24 then 5 else 0
def declR (l : List ByteArray) (s : ByteArray) (p : Int) : Rz (List ByteArray) := if declE l s = 0 then .ok (l ++ [s]) else .bad p (declE l s)
def parP (p : Int) : List ByteArray → List ByteArray → Rz (List ByteArray)
  | [], acc => .ok acc
  | s :: r, acc => (declR acc s p).bind fun acc' => parP p r acc'
mutual
def letN : Nd → List ByteArray → Rz (List ByteArray)
  | .mk k _ _ s _ ks p, acc => if k = 21 then declR acc s p else if k = 28 ∨ k = 29 ∨ k = 30 then letL ks acc else .ok acc
def letL : List Nd → List ByteArray → Rz (List ByteArray)
  | [], acc => .ok acc
  | x :: r, acc => (letN x acc).bind fun acc' => letL r acc'
end
/-- a function: parameters, locals, body -/
abbrev Fp := Nat × Nat × List Nd
/-- a node of a name: its kind, its number -/
def findP (gl lo : List ByteArray) (k : Int) (s : ByteArray) : Option (Int × Nat) :=
  match idxN lo s with
  | some i => some (if k = 5 then 18 else 33, i)
  | none => match idxN gl s with
    | some i => some (if k = 5 then 19 else 34, i)
    | none => none
def isNm (k : Int) : Bool := k == 5 || k == 21 || k == 22
mutual
def resN (gl : List ByteArray) : Nd → List ByteArray → List Fp → Rz (Nd × List Fp)
  | .mk k o n s ns ks p, lo, fs =>
    if k = 8 then
      if fs.length = 32 then .bad p 5 else
        (parP p ns []).bind fun own1 => (letL ks own1).bind fun own => (resL gl ks own (fs ++ [(ns.length, own.length, [])])).bind fun q =>
          .ok (.mk 20 0 fs.length ⟨#[]⟩ [] [] 0, q.2.set fs.length (ns.length, own.length, q.1))
    else if isNm k then
      match findP gl lo k s with
      | none => .bad p 14
      | some (k', i) => (resL gl ks lo fs).bind fun q => .ok (.mk k' 0 i ⟨#[]⟩ [] q.1 0, q.2)
    else (resL gl ks lo fs).bind fun q => .ok (.mk k o n s ns q.1 0, q.2)
def resL (gl : List ByteArray) : List Nd → List ByteArray → List Fp → Rz (List Nd × List Fp)
  | [], _, fs => .ok ([], fs)
  | x :: r, lo, fs => (resN gl x lo fs).bind fun q => (resL gl r lo q.2).bind fun q2 => .ok (q.1 :: q2.1, q2.2)
end
/-- a unit: globals, functions -/
abbrev Up8 := Nat × List Fp
def wholeP (ks : List Nd) : Rz Up8 :=
  (letL ks []).bind fun gl => (resL gl ks [] [(0, 0, [])]).bind fun q => .ok (gl.length, q.2.set 0 (0, 0, q.1))
def resolveP (t : Nd) : Rz Up8 := if checkN t = 0 then wholeP t.kids else .bad 0 (checkN t)

/-- errors are errors -/
theorem declR_bad {l : List ByteArray} {s : ByteArray} {p q e : Int} (h : declR l s p = .bad q e) : e ≠ 0 := by
  unfold declR at h
  split at h
  · cases h
  · cases h; assumption
theorem parP_bad : ∀ {ns acc : List ByteArray} {p q e : Int}, parP p ns acc = .bad q e → e ≠ 0
  | [], acc, p, q, e, h => by cases h
  | s :: r, acc, p, q, e, h => by
    unfold parP at h
    cases hd : declR acc s p with
    | ok a => rw [hd] at h; exact parP_bad h
    | bad q' e' => rw [hd] at h; cases h; exact declR_bad hd
mutual
theorem letN_bad : ∀ (t : Nd) {acc : List ByteArray} {q e : Int}, letN t acc = .bad q e → e ≠ 0
  | .mk k o n s ns ks p, acc, q, e, h => by
    rw [letN] at h
    split at h
    · exact declR_bad h
    · split at h
      · exact letL_bad ks h
      · cases h
theorem letL_bad : ∀ (l : List Nd) {acc : List ByteArray} {q e : Int}, letL l acc = .bad q e → e ≠ 0
  | [], acc, q, e, h => by rw [letL] at h; cases h
  | x :: r, acc, q, e, h => by
    rw [letL] at h
    cases hd : letN x acc with
    | ok a => rw [hd] at h; exact letL_bad r h
    | bad q' e' => rw [hd] at h; cases h; exact letN_bad x hd
end
mutual
theorem resN_bad {gl : List ByteArray} : ∀ (t : Nd) {lo : List ByteArray} {fs : List Fp} {q e : Int}, resN gl t lo fs = .bad q e → e ≠ 0
  | .mk k o n s ns ks p, lo, fs, q, e, h => by
    rw [resN] at h
    split at h
    · split at h
      · cases h; decide
      · cases h1 : parP p ns [] with
        | bad q' e' => rw [h1] at h; cases h; exact parP_bad h1
        | ok own1 =>
          rw [h1, Rz.bind_ok] at h
          cases h2 : letL ks own1 with
          | bad q' e' => rw [h2] at h; cases h; exact letL_bad ks h2
          | ok own =>
            rw [h2, Rz.bind_ok] at h
            cases h3 : resL gl ks own (fs ++ [(ns.length, own.length, [])]) with
            | bad q' e' => rw [h3] at h; cases h; exact resL_bad ks h3
            | ok a => rw [h3] at h; cases h
    · split at h
      · split at h
        · cases h; decide
        · cases h3 : resL gl ks lo fs with
          | bad q' e' => rw [h3] at h; cases h; exact resL_bad ks h3
          | ok a => rw [h3] at h; cases h
      · cases h3 : resL gl ks lo fs with
        | bad q' e' => rw [h3] at h; cases h; exact resL_bad ks h3
        | ok a => rw [h3] at h; cases h
theorem resL_bad {gl : List ByteArray} : ∀ (l : List Nd) {lo : List ByteArray} {fs : List Fp} {q e : Int}, resL gl l lo fs = .bad q e → e ≠ 0
  | [], lo, fs, q, e, h => by rw [resL] at h; cases h
  | x :: r, lo, fs, q, e, h => by
    rw [resL] at h
    cases hd : resN gl x lo fs with
    | bad q' e' => rw [hd] at h; cases h; exact resN_bad x hd
    | ok a =>
      rw [hd, Rz.bind_ok] at h
      cases h3 : resL gl r lo a.2 with
      | bad q' e' => rw [h3] at h; cases h; exact resL_bad r h3
      | ok b => rw [h3] at h; cases h
end

end Go.Proofs.YtmihckhflbepjaaDoor
