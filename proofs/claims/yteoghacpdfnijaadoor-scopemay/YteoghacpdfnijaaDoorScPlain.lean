/- Names become numbers: as plain functions. -/
import Derived.Test.YteoghacpdfnijaaDoorNdRight
import Derived.Test.YteoghacpdfnijaaDoorNdFew
namespace Go.Proofs.YteoghacpdfnijaaDoor
open Go.RowKit

/-- what comes of it, or an error and its place -/
inductive Rz (α : Type) where
  | ok (a : α) : Rz α
  | bad (p e : Int) : Rz α
def Rz.bind {α β : Type} (x : Rz α) (f : α → Rz β) : Rz β := match x with | .ok a => f a | .bad p e => .bad p e
theorem Rz.bind_ok {α β : Type} (a : α) (f : α → Rz β) : (Rz.ok a).bind f = f a := rfl
theorem Rz.bind_bad {α β : Type} (p e : Int) (f : α → Rz β) : (Rz.bad p e : Rz α).bind f = .bad p e := rfl

/-- where a name is among those declared -/
def idxN : List ByteArray → ByteArray → Option Nat
  | [], _ => none
  | x :: r, s => if x = s then some 0 else (idxN r s).map (· + 1)
def idxF (l : List ByteArray) (s : ByteArray) : Option Int := (idxN l s).map (fun i => (i : Int))
theorem idxN_snoc : ∀ (l : List ByteArray) (s x : ByteArray), idxN (l ++ [s]) x = if (idxN l x).isSome then idxN l x else if s = x then some l.length else none
  | [], s, x => by simp [idxN]
  | y :: r, s, x => by
    simp only [List.cons_append, idxN, idxN_snoc r s x]
    by_cases he : y = x
    · simp [he]
    · simp only [if_neg he]
      rcases Option.eq_none_or_eq_some (idxN r x) with h1 | ⟨j, h1⟩ <;> by_cases h : s = x <;> simp [h, h1]
theorem idxN_lt : ∀ {l : List ByteArray} {s : ByteArray} {i : Nat}, idxN l s = some i → i < l.length
  | [], _, _, h => by cases h
  | x :: r, s, i, h => by
    unfold idxN at h
    by_cases hx : x = s
    · rw [if_pos hx] at h; cases h; simp
    · rw [if_neg hx] at h
      obtain ⟨j, hj, rfl⟩ := Option.map_eq_some_iff.1 h
      have := idxN_lt hj
      simp; omega
/-- the error of one name more -/
def declE (l : List ByteArray) (s : ByteArray) : Int := if (idxN l s).isSome then 15 else if l.length = 24 then 5 else 0
def declR (l : List ByteArray) (s : ByteArray) (p : Int) : Rz (List ByteArray) := if declE l s = 0 then .ok (l ++ [s]) else .bad p (declE l s)
def parP (p : Int) : List ByteArray → List ByteArray → Rz (List ByteArray)
  | [], acc => .ok acc
  | s :: r, acc => (declR acc s p).bind fun acc' => parP p r acc'
mutual
def letN : Nd → List ByteArray → Rz (List ByteArray)
  | .mk k _ _ s _ ks p, acc => if k = 21 then declR acc s p else if k = 28 ∨ k = 29 ∨ k = 30 then letL ks acc else .ok acc
def letL : List Nd → List ByteArray → Rz (List ByteArray)
  | [], acc => .ok acc
  | x :: r, acc => (letN x acc).bind fun acc' => letL r acc'
end
/-- a function: parameters, locals, body -/
abbrev Fp := Nat × Nat × List Nd
/-- a node of a name: its kind, its number -/
def findP (gl lo : List ByteArray) (k : Int) (s : ByteArray) : Option (Int × Nat) :=
  match idxN lo s with
  | some i => some (if k = 5 then 18 else 33, i)
  | none => match idxN gl s with
    | some i => some (if k = 5 then 19 else 34, i)
    | none => none
def isNm (k : Int) : Bool := k == 5 || k == 21 || k == 22
mutual
def resN (gl : List ByteArray) : Nd → List ByteArray → List Fp → Rz (Nd × List Fp)
  | .mk k o n s ns ks p, lo, fs =>
    if k = 8 then
      if fs.length = 32 then .bad p 5 else
        (parP p ns []).bind fun own1 => (letL ks own1).bind fun own => (resL gl ks own (fs ++ [(ns.length, own.length, [])])).bind fun q =>
          .ok (.mk 20 0 fs.length ⟨#[]⟩ [] [] 0, q.2.set fs.length (ns.length, own.length, q.1))
    else if isNm k then
      match findP gl lo k s with
      | none => .bad p 14
      | some (k', i) => (resL gl ks lo fs).bind fun q => .ok (.mk k' 0 i ⟨#[]⟩ [] q.1 0, q.2)
    else (resL gl ks lo fs).bind fun q => .ok (.mk k o n s ns q.1 0, q.2)
def resL (gl : List ByteArray) : List Nd → List ByteArray → List Fp → Rz (List Nd × List Fp)
  | [], _, fs => .ok ([], fs)
  | x :: r, lo, fs => (resN gl x lo fs).bind fun q => (resL gl r lo q.2).bind fun q2 => .ok (q.1 :: q2.1, q2.2)
end
/-- a unit: globals, functions -/
abbrev Up8 := Nat × List Fp
def wholeP (ks : List Nd) : Rz Up8 :=
  (letL ks []).bind fun gl => (resL gl ks [] [(0, 0, [])]).bind fun q => .ok (gl.length, q.2.set 0 (0, 0, q.1))
def resolveP (t : Nd) : Rz Up8 := if checkN t = 0 then wholeP t.kids else .bad 0 (checkN t)

/-- errors are errors -/
theorem declR_bad {l : List ByteArray} {s : ByteArray} {p q e : Int} (h : declR l s p = .bad q e) : e ≠ 0 := by
  unfold declR at h
  split at h
  · cases h
  · cases h; assumption
theorem parP_bad : ∀ {ns acc : List ByteArray} {p q e : Int}, parP p ns acc = .bad q e → e ≠ 0
  | [], acc, p, q, e, h => by cases h
  | s :: r, acc, p, q, e, h => by
    unfold parP at h
    cases hd : declR acc s p with
    | ok a => rw [hd] at h; exact parP_bad h
    | bad q' e' => rw [hd] at h; cases h; exact declR_bad hd
mutual
theorem letN_bad : ∀ (t : Nd) {acc : List ByteArray} {q e : Int}, letN t acc = .bad q e → e ≠ 0
  | .mk k o n s ns ks p, acc, q, e, h => by
    rw [letN] at h
    split at h
    · exact declR_bad h
    · split at h
      · exact letL_bad ks h
      · cases h
theorem letL_bad : ∀ (l : List Nd) {acc : List ByteArray} {q e : Int}, letL l acc = .bad q e → e ≠ 0
  | [], acc, q, e, h => by rw [letL] at h; cases h
  | x :: r, acc, q, e, h => by
    rw [letL] at h
    cases hd : letN x acc with
    | ok a => rw [hd] at h; exact letL_bad r h
    | bad q' e' => rw [hd] at h; cases h; exact letN_bad x hd
end
mutual
theorem resN_bad {gl : List ByteArray} : ∀ (t : Nd) {lo : List ByteArray} {fs : List Fp} {q e : Int}, resN gl t lo fs = .bad q e → e ≠ 0
  | .mk k o n s ns ks p, lo, fs, q, e, h => by
    rw [resN] at h
    split at h
    · split at h
      · cases h; decide
      · cases h1 : parP p ns [] with
        | bad q' e' => rw [h1] at h; cases h; exact parP_bad h1
        | ok own1 =>
          rw [h1, Rz.bind_ok] at h
          cases h2 : letL ks own1 with
          | bad q' e' => rw [h2] at h; cases h; exact letL_bad ks h2
          | ok own =>
            rw [h2, Rz.bind_ok] at h
            cases h3 : resL gl ks own (fs ++ [(ns.length, own.length, [])]) with
            | bad q' e' => rw [h3] at h; cases h; exact resL_bad ks h3
            | ok a => rw [h3] at h; cases h
    · split at h
      · split at h
        · cases h; decide
        · cases h3 : resL gl ks lo fs with
          | bad q' e' => rw [h3] at h; cases h; exact resL_bad ks h3
          | ok a => rw [h3] at h; cases h
      · cases h3 : resL gl ks lo fs with
        | bad q' e' => rw [h3] at h; cases h; exact resL_bad ks h3
        | ok a => rw [h3] at h; cases h
theorem resL_bad {gl : List ByteArray} : ∀ (l : List Nd) {lo : List ByteArray} {fs : List Fp} {q e : Int}, resL gl l lo fs = .bad q e → e ≠ 0
  | [], lo, fs, q, e, h => by rw [resL] at h; cases h
  | x :: r, lo, fs, q, e, h => by
    rw [resL] at h
    cases hd : resN gl x lo fs with
    | bad q' e' => rw [hd] at h; cases h; exact resN_bad x hd
    | ok a =>
      rw [hd, Rz.bind_ok] at h
      cases h3 : resL gl r lo a.2 with
      | bad q' e' => rw [h3] at h; cases h; exact resL_bad r h3
      | ok b => rw [h3] at h; cases h
end

end Go.Proofs.YteoghacpdfnijaaDoor
