/- Names become numbers: as plain functions. Codes and programs in memory. -/
import Derived.Test.YtgdbaceehpcgbaaDoorJoint2
import Derived.Test.YtgdbaceehpcgbaaDoorCdPlain
import Derived.Test.YtgdbaceehpcgbaaDoorMapG
namespace Go.Proofs.YtgdbaceehpcgbaaDoor
open Go.RowKit

/-- what comes of it, or an error and its place -/
inductive Rz (α : Type) where
  | ok (a : α) : Rz α
  | bad (p e : Int) : Rz α
def Rz.bind {α β : Type} (x : Rz α) (f : α → Rz β) : Rz β := match x with | .ok a => f a | .bad p e => .bad p e
theorem Rz.bind_ok {α β : Type} (a : α) (f : α → Rz β) : (Rz.ok a).bind f = f a := rfl
theorem Rz.bind_bad {α β : Type} (p e : Int) (f : α → Rz β) : (Rz.bad p e : Rz α).bind f = .bad p e := rfl

/-- where a name is among those declared -/
def idxN : List ByteArray → ByteArray → Option Nat
  | [], _ => none
  | x :: r, s => if x = s then some 0 else (idxN r s).map (· + 1)
def idxF (l : List ByteArray) (s : ByteArray) : Option Int := (idxN l s).map (fun i => (i : Int))
theorem idxN_snoc : ∀ (l : List ByteArray) (s x : ByteArray), idxN (l ++ [s]) x = if (idxN l x).isSome then idxN l x else if s = x then some l.length else none
  | [], s, x => by simp [idxN]
  | y :: r, s, x => by
    simp only [List.cons_append, idxN, idxN_snoc r s x]
    by_cases he : y = x
    · simp [he]
    · simp only [if_neg he]
      rcases Option.eq_none_or_eq_some (idxN r x) with h1 | ⟨j, h1⟩ <;> by_cases h : s = x <;> simp [h, h1]
theorem idxN_lt : ∀ {l : List ByteArray} {s : ByteArray} {i : Nat}, idxN l s = some i → i < l.length
  | [], _, _, h => by cases h
  | x :: r, s, i, h => by
    unfold idxN at h
    by_cases hx : x = s
    · rw [if_pos hx] at h; cases h; simp
    · rw [if_neg hx] at h
      obtain ⟨j, hj, rfl⟩ := Option.map_eq_some_iff.1 h
      have := idxN_lt hj
      simp; omega
/-- the error of one name more -/
def declE (l : List ByteArray) (s : ByteArray) : Int := if (idxN l s).isSome then 15 else if l.length = 24 then 5 else 0
def declR (l : List ByteArray) (s : ByteArray) (p : Int) : Rz (List ByteArray) := if declE l s = 0 then .ok (l ++ [s]) else .bad p (declE l s)
def parP (p : Int) : List ByteArray → List ByteArray → Rz (List ByteArray)
  | [], acc => .ok acc
  | s :: r, acc => (declR acc s p).bind fun acc' => parP p r acc'
mutual
def letN : Nd → List ByteArray → Rz (List ByteArray)
  | .mk k _ _ s _ ks p, acc => if k = 21 then declR acc s p else if k = 28 ∨ k = 29 ∨ k = 30 then letL ks acc else .ok acc
def letL : List Nd → List ByteArray → Rz (List ByteArray)
  | [], acc => .ok acc
  | x :: r, acc => (letN x acc).bind fun acc' => letL r acc'
end
/-- a function: parameters, locals, body -/
abbrev Fp := Nat × Nat × List Nd
/-- a node of a name: its kind, its number -/
def findP (gl lo : List ByteArray) (k : Int) (s : ByteArray) : Option (Int × Nat) :=
  match idxN lo s with
  | some i => some (if k = 5 then 18 else 33, i)
  | none => match idxN gl s with
    | some i => some (if k = 5 then 19 else 34, i)
    | none => none
def isNm (k : Int) : Bool := k == 5 || k == 21 || k == 22
mutual
def resN (gl : List ByteArray) : Nd → List ByteArray → List Fp → Rz (Nd × List Fp)
  | .mk k o n s ns ks p, lo, fs =>
    if k = 8 then
      if fs.length = 32 then .bad p 5 else
        (parP p ns []).bind fun own1 => (letL ks own1).bind fun own => (resL gl ks own (fs ++ [(ns.length, own.length, [])])).bind fun q =>
          .ok (.mk 20 0 fs.length ⟨#[]⟩ [] [] 0, q.2.set fs.length (ns.length, own.length, q.1))
    else if isNm k then
      match findP gl lo k s with
      | none => .bad p 14
      | some (k', i) => (resL gl ks lo fs).bind fun q => .ok (.mk k' 0 i ⟨#[]⟩ [] q.1 0, q.2)
    else (resL gl ks lo fs).bind fun q => .ok (.mk k o n s ns q.1 0, q.2)
def resL (gl : List ByteArray) : List Nd → List ByteArray → List Fp → Rz (List Nd × List Fp)
  | [], _, fs => .ok ([], fs)
  | x :: r, lo, fs => (resN gl x lo fs).bind fun q => (resL gl r lo q.2).bind fun q2 => .ok (q.1 :: q2.1, q2.2)
end
/-- a unit: globals, functions -/
abbrev Up8 := Nat × List Fp
def wholeP (ks : List Nd) : Rz Up8 :=
  (letL ks []).bind fun gl => (resL gl ks [] [(0, 0, [])]).bind fun q => .ok (gl.length, q.2.set 0 (0, 0, q.1))
def resolveP (t : Nd) : Rz Up8 := if checkN t = 0 then wholeP t.kids else .bad 0 (checkN t)

/-- errors are errors -/
theorem declR_bad {l : List ByteArray} {s : ByteArray} {p q e : Int} (h : declR l s p = .bad q e) : e ≠ 0 := by
  unfold declR at h
  split at h
  · cases h
  · cases h; assumption
theorem parP_bad : ∀ {ns acc : List ByteArray} {p q e : Int}, parP p ns acc = .bad q e → e ≠ 0
  | [], acc, p, q, e, h => by cases h
  | s :: r, acc, p, q, e, h => by
    unfold parP at h
    cases hd : declR acc s p with
    | ok a => rw [hd] at h; exact parP_bad h
    | bad q' e' => rw [hd] at h; cases h; exact declR_bad hd
mutual
theorem letN_bad : ∀ (t : Nd) {acc : List ByteArray} {q e : Int}, letN t acc = .bad q e → e ≠ 0
  | .mk k o n s ns ks p, acc, q, e, h => by
    rw [letN] at h
    split at h
    · exact declR_bad h
    · split at h
      · exact letL_bad ks h
      · cases h
theorem letL_bad : ∀ (l : List Nd) {acc : List ByteArray} {q e : Int}, letL l acc = .bad q e → e ≠ 0
  | [], acc, q, e, h => by rw [letL] at h; cases h
  | x :: r, acc, q, e, h => by
    rw [letL] at h
    cases hd : letN x acc with
    | ok a => rw [hd] at h; exact letL_bad r h
    | bad q' e' => rw [hd] at h; cases h; exact letN_bad x hd
end
mutual
theorem resN_bad {gl : List ByteArray} : ∀ (t : Nd) {lo : List ByteArray} {fs : List Fp} {q e : Int}, resN gl t lo fs = .bad q e → e ≠ 0
  | .mk k o n s ns ks p, lo, fs, q, e, h => by
    rw [resN] at h
    split at h
    · split at h
      · cases h; decide
      · cases h1 : parP p ns [] with
        | bad q' e' => rw [h1] at h; cases h; exact parP_bad h1
        | ok own1 =>
          rw [h1, Rz.bind_ok] at h
          cases h2 : letL ks own1 with
          | bad q' e' => rw [h2] at h; cases h; exact letL_bad ks h2
          | ok own =>
            rw [h2, Rz.bind_ok] at h
            cases h3 : resL gl ks own (fs ++ [(ns.length, own.length, [])]) with
            | bad q' e' => rw [h3] at h; cases h; exact resL_bad ks h3
            | ok a => rw [h3] at h; cases h
    · split at h
      · split at h
        · cases h; decide
        · cases h3 : resL gl ks lo fs with
          | bad q' e' => rw [h3] at h; cases h; exact resL_bad ks h3
          | ok a => rw [h3] at h; cases h
      · cases h3 : resL gl ks lo fs with
        | bad q' e' => rw [h3] at h; cases h; exact resL_bad ks h3
        | ok a => rw [h3] at h; cases h
theorem resL_bad {gl : List ByteArray} : ∀ (l : List Nd) {lo : List ByteArray} {fs : List Fp} {q e : Int}, resL gl l lo fs = .bad q e → e ≠ 0
  | [], lo, fs, q, e, h => by rw [resL] at h; cases h
  | x :: r, lo, fs, q, e, h => by
    rw [resL] at h
    cases hd : resN gl x lo fs with
    | bad q' e' => rw [hd] at h; cases h; exact resN_bad x hd
    | ok a =>
      rw [hd, Rz.bind_ok] at h
      cases h3 : resL gl r lo a.2 with
      | bad q' e' => rw [h3] at h; cases h; exact resL_bad r h3
      | ok b => rw [h3] at h; cases h
end

end Go.Proofs.YtgdbaceehpcgbaaDoor

namespace Go.Proofs.YtgdbaceehpcgbaaDoor
open Go.RowKit

theorem cellB {B : Nat} {p : Addr} {x : Value} {a c : World} (q : Below B a c) (hb : p.block < B) (h : a.cell? p = some x) : c.cell? p = some x := (q.cell (p := p) hb).trans h
def InAt (b o : Nat) (x : In) (w : World) : Prop := w.cell? ⟨b, o, none⟩ = some (.int .i64 x.1) ∧ w.cell? ⟨b, o + 1, none⟩ = some (.int .i64 x.2.1) ∧ w.cell? ⟨b, o + 2, none⟩ = some (.int .i64 x.2.2)
/-- instructions, in a block below B -/
def InsIn (B : Nat) (w : World) (v : Value) (is : List In) : Prop :=
  (∃ ao cap, v = .slice ao 0 cap ∧ is = []) ∨ ∃ b off cap, v = .slice (some ⟨b, off, none⟩) is.length cap ∧ b < B ∧ ∀ (i : Nat) x, is[i]? = some x → InAt b (off + i * 3) x w
theorem insIn_on {B : Nat} {v : Value} {is : List In} {a c : World} (h : InsIn B a v is) (q : Below B a c) : InsIn B c v is := by
  rcases h with h | ⟨b, off, cap, h1, h2, h3⟩
  · exact .inl h
  · exact .inr ⟨b, off, cap, h1, h2, fun i x hi => ⟨cellB q h2 (h3 i x hi).1, cellB q h2 (h3 i x hi).2.1, cellB q h2 (h3 i x hi).2.2⟩⟩
theorem insIn_mono {B C : Nat} {v : Value} {is : List In} {w : World} (h : InsIn B w v is) (hBC : B ≤ C) : InsIn C w v is := by
  rcases h with h | ⟨b, off, cap, h1, h2, h3⟩
  · exact .inl h
  · exact .inr ⟨b, off, cap, h1, by omega, h3⟩
theorem insIn_shape {B : Nat} {v : Value} {is : List In} {w : World} (h : InsIn B w v is) : ∃ ao cap, v = .slice ao is.length cap := by
  rcases h with ⟨ao, cap, e, rfl⟩ | ⟨b, off, cap, e, _⟩
  · exact ⟨ao, cap, e⟩
  · exact ⟨_, cap, e⟩
theorem insIn_at {B : Nat} {ao : Option Addr} {cap i : Nat} {is : List In} {x : In} {w : World} (h : InsIn B w (.slice ao is.length cap) is) (hi : is[i]? = some x) : ∃ b off, ao = some ⟨b, off, none⟩ ∧ b < B ∧ InAt b (off + i * 3) x w := by
  rcases h with ⟨ao', cap', e, rfl⟩ | ⟨b, off, cap', e, hb, h⟩
  · simp at hi
  · injection e with e1
    subst e1
    exact ⟨b, off, rfl, hb, h i x hi⟩
def CdAt (B b o : Nat) (c : Cd) (w : World) : Prop := ∃ iv, w.cell? ⟨b, o, none⟩ = some (.int .i64 c.p) ∧ w.cell? ⟨b, o + 1, none⟩ = some (.int .i64 c.l) ∧ w.cell? ⟨b, o + 2, none⟩ = some (.int .i64 c.s) ∧ w.cell? ⟨b, o + 3, none⟩ = some (.int .i64 c.d) ∧ w.cell? ⟨b, o + 4, none⟩ = some iv ∧ InsIn B w iv c.ins
theorem cdAt_on {B b o : Nat} {c : Cd} {u w : World} (h : CdAt B b o c u) (hb : b < B) (q : Below B u w) : CdAt B b o c w := by
  obtain ⟨iv, h0, h1, h2, h3, h4, h5⟩ := h
  exact ⟨iv, cellB q hb h0, cellB q hb h1, cellB q hb h2, cellB q hb h3, cellB q hb h4, insIn_on h5 q⟩
/-- codes, in blocks below B -/
def CdsIn (B : Nat) (w : World) (v : Value) (cs : List Cd) : Prop :=
  (∃ ao cap, v = .slice ao 0 cap ∧ cs = []) ∨ ∃ b off cap, v = .slice (some ⟨b, off, none⟩) cs.length cap ∧ b < B ∧ ∀ (i : Nat) c, cs[i]? = some c → CdAt B b (off + i * 5) c w
theorem cdsIn_on {B : Nat} {v : Value} {cs : List Cd} {a c : World} (h : CdsIn B a v cs) (q : Below B a c) : CdsIn B c v cs := by
  rcases h with h | ⟨b, off, cap, h1, h2, h3⟩
  · exact .inl h
  · exact .inr ⟨b, off, cap, h1, h2, fun i f hi => cdAt_on (h3 i f hi) h2 q⟩
theorem cdsIn_mono {B C : Nat} {v : Value} {cs : List Cd} {w : World} (h : CdsIn B w v cs) (hBC : B ≤ C) : CdsIn C w v cs := by
  rcases h with h | ⟨b, off, cap, h1, h2, h3⟩
  · exact .inl h
  · exact .inr ⟨b, off, cap, h1, by omega, fun i f hi => by
      obtain ⟨iv, a0, a1, a2, a3, a4, a5⟩ := h3 i f hi
      exact ⟨iv, a0, a1, a2, a3, a4, insIn_mono a5 hBC⟩⟩
theorem cdsIn_shape {B : Nat} {v : Value} {cs : List Cd} {w : World} (h : CdsIn B w v cs) : ∃ ao cap, v = .slice ao cs.length cap := by
  rcases h with ⟨ao, cap, e, rfl⟩ | ⟨b, off, cap, e, _⟩
  · exact ⟨ao, cap, e⟩
  · exact ⟨_, cap, e⟩
theorem cdsIn_at {B : Nat} {ao : Option Addr} {cap i : Nat} {cs : List Cd} {c : Cd} {w : World} (h : CdsIn B w (.slice ao cs.length cap) cs) (hi : cs[i]? = some c) : ∃ b off, ao = some ⟨b, off, none⟩ ∧ b < B ∧ CdAt B b (off + i * 5) c w := by
  rcases h with ⟨ao', cap', e, rfl⟩ | ⟨b, off, cap', e, hb, h⟩
  · simp at hi
  · injection e with e1
    subst e1
    exact ⟨b, off, rfl, hb, h i c hi⟩
/-- strings, in a block below B -/
def PlIn (B : Nat) (w : World) (v : Value) (ss : List ByteArray) : Prop :=
  (∃ ao cap, v = .slice ao 0 cap ∧ ss = []) ∨ ∃ b off cap, v = .slice (some ⟨b, off, none⟩) ss.length cap ∧ b < B ∧ ∀ (i : Nat) s, ss[i]? = some s → w.cell? ⟨b, off + i, none⟩ = some (.string s)
theorem plIn_on {B : Nat} {v : Value} {ss : List ByteArray} {a c : World} (h : PlIn B a v ss) (q : Below B a c) : PlIn B c v ss := by
  rcases h with h | ⟨b, off, cap, h1, h2, h3⟩
  · exact .inl h
  · exact .inr ⟨b, off, cap, h1, h2, fun i f hi => cellB q h2 (h3 i f hi)⟩
theorem plIn_mono {B C : Nat} {v : Value} {ss : List ByteArray} {w : World} (h : PlIn B w v ss) (hBC : B ≤ C) : PlIn C w v ss := by
  rcases h with h | ⟨b, off, cap, h1, h2, h3⟩
  · exact .inl h
  · exact .inr ⟨b, off, cap, h1, by omega, h3⟩
theorem plIn_shape {B : Nat} {v : Value} {ss : List ByteArray} {w : World} (h : PlIn B w v ss) : ∃ ao cap, v = .slice ao ss.length cap := by
  rcases h with ⟨ao, cap, e, rfl⟩ | ⟨b, off, cap, e, _⟩
  · exact ⟨ao, cap, e⟩
  · exact ⟨_, cap, e⟩
theorem plIn_at {B : Nat} {ao : Option Addr} {cap i : Nat} {ss : List ByteArray} {s : ByteArray} {w : World} (h : PlIn B w (.slice ao ss.length cap) ss) (hi : ss[i]? = some s) : ∃ b off, ao = some ⟨b, off, none⟩ ∧ b < B ∧ w.cell? ⟨b, off + i, none⟩ = some (.string s) := by
  rcases h with ⟨ao', cap', e, rfl⟩ | ⟨b, off, cap', e, hb, h⟩
  · simp at hi
  · injection e with e1
    subst e1
    exact ⟨b, off, rfl, hb, h i s hi⟩
/-- numbers, in a block below B -/
def NsIn (B : Nat) (w : World) (v : Value) (xs : List Int) : Prop :=
  (∃ ao cap, v = .slice ao 0 cap ∧ xs = []) ∨ ∃ b off cap, v = .slice (some ⟨b, off, none⟩) xs.length cap ∧ b < B ∧ ∀ (i : Nat) x, xs[i]? = some x → w.cell? ⟨b, off + i, none⟩ = some (.int .i64 x)
theorem nsIn_on {B : Nat} {v : Value} {xs : List Int} {a c : World} (h : NsIn B a v xs) (q : Below B a c) : NsIn B c v xs := by
  rcases h with h | ⟨b, off, cap, h1, h2, h3⟩
  · exact .inl h
  · exact .inr ⟨b, off, cap, h1, h2, fun i f hi => cellB q h2 (h3 i f hi)⟩
theorem nsIn_mono {B C : Nat} {v : Value} {xs : List Int} {w : World} (h : NsIn B w v xs) (hBC : B ≤ C) : NsIn C w v xs := by
  rcases h with h | ⟨b, off, cap, h1, h2, h3⟩
  · exact .inl h
  · exact .inr ⟨b, off, cap, h1, by omega, h3⟩
theorem nsIn_shape {B : Nat} {v : Value} {xs : List Int} {w : World} (h : NsIn B w v xs) : ∃ ao cap, v = .slice ao xs.length cap := by
  rcases h with ⟨ao, cap, e, rfl⟩ | ⟨b, off, cap, e, _⟩
  · exact ⟨ao, cap, e⟩
  · exact ⟨_, cap, e⟩
theorem nsIn_at {B : Nat} {ao : Option Addr} {cap i : Nat} {xs : List Int} {x : Int} {w : World} (h : NsIn B w (.slice ao xs.length cap) xs) (hi : xs[i]? = some x) : ∃ b off, ao = some ⟨b, off, none⟩ ∧ b < B ∧ w.cell? ⟨b, off + i, none⟩ = some (.int .i64 x) := by
  rcases h with ⟨ao', cap', e, rfl⟩ | ⟨b, off, cap', e, hb, h⟩
  · simp at hi
  · injection e with e1
    subst e1
    exact ⟨b, off, rfl, hb, h i x hi⟩
theorem nsIn_row {g cap n : Nat} {xs : List Int} {w : World} (hx : xs.length = n) (h : w.ownsRow 0 3 1 (.slice (some ⟨g, 0, none⟩) n cap) n (xs.map (Value.int .i64))) : NsIn w.heap.size w (.slice (some ⟨g, 0, none⟩) n cap) xs := by
  obtain ⟨cur, hc⟩ := row_lt h rfl
  exact .inr ⟨g, 0, cap, by rw [hx], blk_lt hc, fun i x hi => by
    rw [Nat.zero_add]
    exact row_cell h (by rw [List.getElem?_map, hi]; rfl)⟩
theorem nsIn_blk {g n : Nat} {xs : List Int} {w : World} (hx : xs.length = n) (h : Blk g 3 (xs.map (Value.int .i64)).toArray w) : NsIn w.heap.size w (.slice (some ⟨g, 0, none⟩) n n) xs :=
  .inr ⟨g, 0, n, by rw [hx], blk_lt h, fun i x hi => by
    rw [Nat.zero_add, blk_cell h]
    simp [hi]⟩
theorem blk_cellZ {g : Nat} {T : TypeId} {cs : Array Value} {w : World} (h : Blk g T cs w) (i : Nat) {u : Value} (hu : cs[i]? = some u) : w.cell? ⟨g, i, none⟩ = some u := by rw [blk_cell h]; exact hu
theorem box_below (w : World) (o : Obj) : Below w.heap.size w (w.alloc o) := (Below.refl _ _).alloc (Nat.le_refl _) o

end Go.Proofs.YtgdbaceehpcgbaaDoor
