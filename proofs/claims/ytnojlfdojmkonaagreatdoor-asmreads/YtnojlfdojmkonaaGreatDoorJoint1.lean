/- What all our texts stand on: hidden facts, and chains of calls that leave old memory alone. Decimal digits of a whole number: no program in sight. Instructions over a stack, plainly: what they take and lay, what comes behind, and depths that flow. What Read answers, as a plain function. -/
import Derived.WalkKit
import Derived.WalkLawsBesides
import Derived.WalkSpells
import Derived.Outline
import Derived.Below
namespace Go.Proofs.YtnojlfdojmkonaaGreatDoor
open Go.RowKit

theorem hid {p : Prop} (h : p) : Hid p := h

theorem below_on {a b c : World} (h : Below a.heap.size a b) (k : Below b.heap.size b c) : Below a.heap.size a c := h.trans (k.mono h.size)
theorem below_in {B : Nat} {a b c : World} (h : Below B a b) (hB : B ≤ a.heap.size) (k : Below b.heap.size b c) : Below B a c := h.trans (k.mono (Nat.le_trans hB h.size))

end Go.Proofs.YtnojlfdojmkonaaGreatDoor

namespace Go.Proofs.YtnojlfdojmkonaaGreatDoor
open Go.RowKit

/-- the decimal digits of m, no zeros ahead, as bytes (f: at least as many as there are digits) -/
def dec : Nat → Nat → List UInt8
  | 0, _ => []
  | f + 1, m => if m < 10 then [UInt8.ofNat (48 + m)] else dec f (m / 10) ++ [UInt8.ofNat (48 + m % 10)]

/-- what Digits answers -/
def digs (n : Int) : List UInt8 := if n < 0 then 45 :: dec 20 n.natAbs else dec 20 n.natAbs

theorem dec_small {f r : Nat} (h : r < 10) : dec (f + 1) r = [UInt8.ofNat (48 + r)] := by simp [dec, h]
theorem dec_big {f r : Nat} (h : 10 ≤ r) : dec (f + 1) r = dec f (r / 10) ++ [UInt8.ofNat (48 + r % 10)] := by
  simp [dec, show ¬ r < 10 from by omega]

theorem dig_toNat (r : Nat) : (UInt8.ofNat (48 + r % 10)).toNat = 48 + r % 10 := by
  rw [UInt8.toNat_ofNat']; omega

/-- what stands behind j rounds: the rest r, and the digits acc that were told -/
def Told (m j r : Nat) (acc : List UInt8) : Prop :=
  acc.length = j ∧ j ≤ 19 ∧ r < 10 ^ (19 - j) ∧ (if 1 ≤ j ∧ r = 0 then dec 20 m = acc else dec 20 m = dec (20 - j) r ++ acc)

theorem told_start {m : Nat} (h : m < 10 ^ 19) : Told m 0 m [] := ⟨rfl, by omega, h, by simp⟩

theorem told_lt {m j r : Nat} {acc : List UInt8} (h : Told m j r acc) (hr : 0 < r ∨ j = 0) : j < 19 := by
  obtain ⟨_, h2, h3, _⟩ := h
  rcases hr with hr | hr
  · rcases Nat.lt_or_ge j 19 with h | h
    · exact h
    · have : 19 - j = 0 := by omega
      rw [this] at h3; simp at h3; omega
  · omega

theorem told_step {m j r : Nat} {acc : List UInt8} (h : Told m j r acc) (hr : 0 < r ∨ j = 0) : Told m (j + 1) (r / 10) (UInt8.ofNat (48 + r % 10) :: acc) := by
  have hlt := told_lt h hr
  obtain ⟨h1, h2, h3, h4⟩ := h
  have hn : ¬ (1 ≤ j ∧ r = 0) := by omega
  rw [if_neg hn] at h4
  have e1 : 19 - j = (18 - j) + 1 := by omega
  have e2 : 20 - j = (19 - j) + 1 := by omega
  refine ⟨by simp [h1], by omega, ?_, ?_⟩
  · rw [e1, Nat.pow_succ] at h3
    rw [show 19 - (j + 1) = 18 - j from by omega]
    omega
  · rw [e2] at h4
    by_cases hs : r < 10
    · rw [if_pos ⟨by omega, by omega⟩, h4, dec_small hs, Nat.mod_eq_of_lt hs]; rfl
    · rw [if_neg (by omega), h4, dec_big (by omega), show 20 - (j + 1) = 19 - j from by omega]
      simp

theorem told_end {m j r : Nat} {acc : List UInt8} (h : Told m j r acc) (hr : r = 0) (hj : j ≠ 0) : acc = dec 20 m := by
  obtain ⟨_, _, _, h4⟩ := h
  rw [if_pos ⟨by omega, hr⟩] at h4
  exact h4.symm

theorem dec_length : ∀ (f m : Nat), (dec f m).length ≤ f
  | 0, _ => by simp [dec]
  | f + 1, m => by
    unfold dec; split
    · simp
    · have := dec_length f (m / 10); simp; omega

theorem digs_length (n : Int) : (digs n).length ≤ 21 := by
  have := dec_length 20 n.natAbs
  unfold digs; split
  · simp; omega
  · omega

theorem small_toNat {m : Nat} (h : m < 10) : (UInt8.ofNat (48 + m)).toNat = 48 + m := by rw [UInt8.toNat_ofNat']; omega

theorem dec_fuel : ∀ (f m : Nat), m < 10 ^ (f + 1) → dec (f + 2) m = dec (f + 1) m
  | 0, m, h => by rw [dec_small (by simpa using h), dec_small (by simpa using h)]
  | f + 1, m, h => by
    by_cases hs : m < 10
    · rw [dec_small hs, dec_small hs]
    · have hm : 10 ≤ m := by omega
      rw [dec_big (f := f + 2) hm, dec_big (f := f + 1) hm, dec_fuel f (m / 10) (by rw [Nat.pow_succ] at h; omega)]

theorem dec_split {m : Nat} (h : 10 ≤ m) (hm : m < 10 ^ 20) : dec 20 m = dec 20 (m / 10) ++ dec 20 (m % 10) := by
  rw [dec_fuel 18 (m / 10) (by omega), dec_small (f := 19) (r := m % 10) (by omega), ← dec_big h]

theorem digs_neg_small {n : Int} {m : Nat} (hn : n = -(m : Int)) (h0 : 0 < m) : digs n = 45 :: dec 20 m := by
  unfold digs
  rw [if_pos (by omega), show n.natAbs = m from by omega]

end Go.Proofs.YtnojlfdojmkonaaGreatDoor

namespace Go.Proofs.YtnojlfdojmkonaaGreatDoor
open Go.RowKit

abbrev In := Int × Int × Int
structure Cd where
  p : Int
  l : Int
  s : Int
  d : Int
  ins : List In
def bltN (a : Int) : Int := if a = 2 ∨ a = 3 ∨ a = 5 then 2 else if 1 ≤ a ∧ a ≤ 7 then 1 else 0
def effP (o : Int) : Int × Int :=
  if o = 2 ∨ o = 3 ∨ o = 4 ∨ o = 5 ∨ o = 6 ∨ o = 7 ∨ o = 8 ∨ o = 10 ∨ o = 12 then (0, 1)
  else if o = 9 ∨ o = 11 ∨ o = 18 ∨ o = 23 ∨ o = 24 ∨ o = 25 ∨ o = 30 ∨ o = 31 ∨ o = 32 then (1, 0)
  else if o = 13 ∨ o = 16 ∨ o = 21 then (2, 1) else if o = 14 ∨ o = 20 then (1, 1) else if o = 15 ∨ o = 19 then (2, 0)
  else if o = 17 then (3, 0) else if o = 27 then (1, 2) else (0, 0)
/-- what is taken, and laid -/
def effI (o a : Int) : Int × Int :=
  if o = 26 then (if 0 ≤ a ∧ a ≤ 6 then (a + 1, 1) else (0, 0)) else if o = 28 then (if 0 ≤ a ∧ a ≤ 6 then (a + 2, 1) else (0, 0))
  else if o = 29 then (if 1 ≤ a ∧ a ≤ 7 then (bltN a, 1) else (0, 0)) else effP o
def goB (o : Int) : Bool := (o == 22) || ((o == 23) || ((o == 24) || (o == 25)))
def keepB (o : Int) : Bool := (o == 24) || (o == 25)
/-- what comes behind -/
def tgI (o a : Int) (k : Nat) : List Int := if o = 32 then [] else if o = 22 then [a] else if goB o = true then [(k : Int) + 1, a] else [(k : Int) + 1]
def tgL (is : List In) (k : Nat) : List Int := match is[k]? with | none => [] | some x => tgI x.1 x.2.1 k
def tgT (is : List In) (k : Int) : List Int := if k < 0 then [] else tgL is k.toNat
/-- the places behind one, with their depths -/
def nxI (o a : Int) (k : Nat) (d : Int) : List (Int × Int) :=
  if o = 32 then [] else if o = 22 then [(a, d - (effI o a).1 + (effI o a).2)]
  else if goB o = true then [((k : Int) + 1, d - (effI o a).1 + (effI o a).2), (a, d - (effI o a).1 + (effI o a).2 + if keepB o = true then 1 else 0)]
  else [((k : Int) + 1, d - (effI o a).1 + (effI o a).2)]
def nxL (is : List In) (k : Nat) (d : Int) : List (Int × Int) := match is[k]? with | none => [] | some x => nxI x.1 x.2.1 k d
def popL (is : List In) (k : Nat) : Int := match is[k]? with | none => 0 | some x => (effI x.1 x.2.1).1
def rch (is : List In) : Nat → Int → Int → Prop
  | 0, t, e => t = 0 ∧ e = 0
  | n + 1, t, e => ∃ (k : Nat) (d : Int), rch is n k d ∧ (t, e) ∈ nxL is k d
def Fit (c : Cd) (ds : List Int) (k : Nat) (d : Int) : Prop := popL c.ins k ≤ d ∧ ∀ t e, (t, e) ∈ nxL c.ins k d → e ≤ c.d ∧ ∃ j : Nat, t = j ∧ ds[j]? = some e
/-- depths that flow -/
def Flow (c : Cd) (ds : List Int) : Prop :=
  ds.length = c.ins.length ∧ ds[0]? = some 0 ∧ ∀ (k : Nat) d, ds[k]? = some d → d = -1 ∨ (0 ≤ d ∧ Fit c ds k d ∧ ∃ n, rch c.ins n k d)
theorem effP_bound (o : Int) : 0 ≤ (effP o).1 ∧ (effP o).1 ≤ 8 ∧ 0 ≤ (effP o).2 ∧ (effP o).2 ≤ 2 := by
  unfold effP
  repeat' split
  all_goals decide
theorem effI_bound (o a : Int) : 0 ≤ (effI o a).1 ∧ (effI o a).1 ≤ 8 ∧ 0 ≤ (effI o a).2 ∧ (effI o a).2 ≤ 2 := by
  unfold effI
  repeat' split
  · refine ⟨?_, ?_, ?_, ?_⟩ <;> simp <;> omega
  · decide
  · refine ⟨?_, ?_, ?_, ?_⟩ <;> simp <;> omega
  · decide
  · unfold bltN
    repeat' split
    all_goals decide
  · decide
  · exact effP_bound o
theorem nx_ge {is : List In} {k : Nat} {d t e : Int} (h : (t, e) ∈ nxL is k d) (hp : popL is k ≤ d) : 0 ≤ e := by
  unfold nxL at h
  unfold popL at hp
  split at h
  · cases h
  · rename_i x hx
    rw [hx] at hp
    simp only at hp
    have hb := effI_bound x.1 x.2.1
    unfold nxI at h
    generalize effI x.1 x.2.1 = E at *
    split at h
    · cases h
    · split at h
      · simp at h; omega
      · split at h
        · simp at h
          rcases h with h | h
          · omega
          · have := h.2
            split at this <;> omega
        · simp at h; omega
theorem rch_flow {c : Cd} {ds : List Int} (hF : Flow c ds) : ∀ (n : Nat) (t e : Int), rch c.ins n t e → ∃ j : Nat, t = j ∧ ds[j]? = some e ∧ 0 ≤ e
  | 0, t, e, h => ⟨0, h.1, by rw [h.2]; exact hF.2.1, by rw [h.2]; decide⟩
  | n + 1, t, e, h => by
    obtain ⟨k, d, h1, h2⟩ := h
    obtain ⟨j, hj, hd, h0⟩ := rch_flow hF n k d h1
    obtain rfl : k = j := by omega
    rcases hF.2.2 k d hd with h3 | ⟨_, hfit, _⟩
    · omega
    · obtain ⟨_, j', hj', he⟩ := hfit.2 t e h2
      exact ⟨j', hj', he, nx_ge h2 hfit.1⟩
theorem flow_fit {c : Cd} {ds : List Int} (hF : Flow c ds) {n : Nat} {k : Nat} {d : Int} (h : rch c.ins n k d) : Fit c ds k d := by
  obtain ⟨j, hj, hd, h0⟩ := rch_flow hF n k d h
  obtain rfl : k = j := by omega
  rcases hF.2.2 k d hd with h3 | ⟨_, hfit, _⟩
  · omega
  · exact hfit
theorem flow_unique {c : Cd} {ds es : List Int} (h : Flow c ds) (k : Flow c es) : ds = es := by
  have hl : ds.length = es.length := h.1.trans k.1.symm
  refine List.ext_getElem? fun i => ?_
  rcases Nat.lt_or_ge i ds.length with hi | hi
  · have h1 : ds[i]? = some ds[i] := List.getElem?_eq_getElem hi
    have h2 : es[i]? = some (es[i]'(by omega)) := List.getElem?_eq_getElem (by omega)
    rcases h.2.2 i _ h1 with e1 | ⟨_, _, n, r1⟩
    · rcases k.2.2 i _ h2 with e2 | ⟨_, _, n, r2⟩
      · rw [h1, h2, e1, e2]
      · obtain ⟨j, hj, hd, h0⟩ := rch_flow h n _ _ r2
        obtain rfl : i = j := by omega
        rw [hd, h2]
    · obtain ⟨j, hj, hd, h0⟩ := rch_flow k n _ _ r1
      obtain rfl : i = j := by omega
      rw [hd, h1]
  · rw [List.getElem?_eq_none hi, List.getElem?_eq_none (by omega)]
theorem flow_deep {c : Cd} {ds : List Int} (hF : Flow c ds) (h0 : 0 ≤ c.d) {k : Nat} {d : Int} (h : ds[k]? = some d) : d ≤ c.d := by
  rcases hF.2.2 k d h with h1 | ⟨_, _, n, r⟩
  · omega
  · cases n with
    | zero => rw [r.2]; exact h0
    | succ n =>
      obtain ⟨a, e, r1, r2⟩ := r
      exact ((flow_fit hF r1).2 _ _ r2).1

/-- what a list that is being filled holds -/
def Seen (c : Cd) (F : List Int) (P : Nat → Int → Prop) : Prop := F.length = c.ins.length ∧ F[0]? = some 0 ∧ ∀ (k : Nat) d, F[k]? = some d → d = -1 ∨ (0 ≤ d ∧ d ≤ c.d ∧ (∃ n, rch c.ins n k d) ∧ P k d)
theorem seen_mono {c : Cd} {F : List Int} {P R : Nat → Int → Prop} (h : Seen c F P) (hPR : ∀ k d, F[k]? = some d → 0 ≤ d → P k d → R k d) : Seen c F R :=
  ⟨h.1, h.2.1, fun k d hk => (h.2.2 k d hk).imp id fun ⟨a, b, r, p⟩ => ⟨a, b, r, hPR k d hk a p⟩⟩
theorem seen_flow {c : Cd} {F : List Int} (h : Seen c F (Fit c F)) : Flow c F := ⟨h.1, h.2.1, fun k d hk => (h.2.2 k d hk).imp id fun ⟨a, _, r, p⟩ => ⟨a, p, r⟩⟩
theorem set_keep {F : List Int} {j i : Nat} {e x : Int} (hj : F[j]? = some (-1)) (hx : F[i]? = some x) (h0 : 0 ≤ x) : (F.set j e)[i]? = some x := by
  have hne : j ≠ i := by
    rintro rfl
    rw [hj] at hx
    have := Option.some.inj hx
    omega
  rw [List.getElem?_set_ne hne]; exact hx
theorem fit_set {c : Cd} {F : List Int} {j k : Nat} {e d : Int} (hj : F[j]? = some (-1)) (h : Fit c F k d) : Fit c (F.set j e) k d :=
  ⟨h.1, fun t e' hm => by
    obtain ⟨h1, i, h2, h3⟩ := h.2 t e' hm
    exact ⟨h1, i, h2, set_keep hj h3 (nx_ge hm h.1)⟩⟩
/-- one more is filled in -/
theorem seen_set {c : Cd} {F : List Int} {P R : Nat → Int → Prop} (h : Seen c F P) {j n : Nat} {e : Int} (hj : F[j]? = some (-1)) (h0 : 0 ≤ e) (hd : e ≤ c.d) (hr : rch c.ins n j e) (hR : R j e) (hPR : ∀ k d, F[k]? = some d → 0 ≤ d → P k d → R k d) : Seen c (F.set j e) R := by
  have hlt : j < F.length := (List.getElem?_eq_some_iff.1 hj).1
  refine ⟨by rw [List.length_set]; exact h.1, set_keep hj h.2.1 (by decide), fun k d hk => ?_⟩
  by_cases hjk : j = k
  · subst hjk
    rw [List.getElem?_set_self hlt] at hk
    obtain rfl := Option.some.inj hk
    exact .inr ⟨h0, hd, ⟨n, hr⟩, hR⟩
  · rw [List.getElem?_set_ne hjk] at hk
    exact (h.2.2 k d hk).imp id fun ⟨a, b, r, p⟩ => ⟨a, b, r, hPR k d hk a p⟩
def unseen (F : List Int) : Nat := F.count (-1)
theorem unseen_set {e : Int} (h0 : 0 ≤ e) : ∀ {F : List Int} {j : Nat}, F[j]? = some (-1) → unseen (F.set j e) + 1 = unseen F
  | [], j, h => by simp at h
  | x :: F, 0, h => by
    simp at h
    subst h
    unfold unseen
    rw [List.set_cons_zero, List.count_cons, List.count_cons]
    have : (e == -1) = false := beq_eq_false_iff_ne.2 (by omega)
    simp [this]
  | x :: F, j + 1, h => by
    have := unseen_set h0 (F := F) (j := j) (by simpa using h)
    unfold unseen at *
    rw [List.set_cons_succ, List.count_cons, List.count_cons]
    omega
theorem unseen_le (F : List Int) : unseen F ≤ F.length := List.count_le_length
/-- the first m places behind k fit -/
def FitTo (c : Cd) (F : List Int) (k : Nat) (d : Int) (m : Nat) : Prop := popL c.ins k ≤ d ∧ ∀ (i : Nat) t e, i < m → (nxL c.ins k d)[i]? = some (t, e) → e ≤ c.d ∧ ∃ j : Nat, t = j ∧ F[j]? = some e
theorem fitTo_set {c : Cd} {F : List Int} {j k m : Nat} {e d : Int} (hj : F[j]? = some (-1)) (h : FitTo c F k d m) : FitTo c (F.set j e) k d m :=
  ⟨h.1, fun i t e' hi hm => by
    obtain ⟨h1, l, h2, h3⟩ := h.2 i t e' hi hm
    exact ⟨h1, l, h2, set_keep hj h3 (nx_ge (List.mem_of_getElem? hm) h.1)⟩⟩
theorem fitTo_next {c : Cd} {F : List Int} {j k m : Nat} {d t e : Int} (h : FitTo c F k d m) (hm : (nxL c.ins k d)[m]? = some (t, e)) (he : e ≤ c.d) (ht : t = (j : Int)) (hj : F[j]? = some e) : FitTo c F k d (m + 1) :=
  ⟨h.1, fun i t' e' hi hx => by
    rcases Nat.lt_or_ge i m with hlt | hge
    · exact h.2 i t' e' hlt hx
    · obtain rfl : i = m := by omega
      rw [hm] at hx
      obtain ⟨rfl, rfl⟩ := Prod.mk.inj (Option.some.inj hx)
      exact ⟨he, j, ht, hj⟩⟩
theorem fitTo_all {c : Cd} {F : List Int} {k m : Nat} {d : Int} (h : FitTo c F k d m) (hm : (nxL c.ins k d).length ≤ m) : Fit c F k d :=
  ⟨h.1, fun t e hx => by
    obtain ⟨i, hi⟩ := List.getElem?_of_mem hx
    exact h.2 i t e (by have := (List.getElem?_eq_some_iff.1 hi).1; omega) hi⟩
/-- where none flow -/
theorem no_pop {c : Cd} {n k : Nat} {d : Int} (hr : rch c.ins n k d) (hp : d < popL c.ins k) : ∀ ds, ¬ Flow c ds := fun ds hF => by
  have := (flow_fit hF hr).1
  omega
theorem no_room {c : Cd} {n k : Nat} {d t e : Int} (hr : rch c.ins n k d) (hm : (t, e) ∈ nxL c.ins k d) (hb : (c.ins.length : Int) ≤ t ∨ c.d < e) : ∀ ds, ¬ Flow c ds := fun ds hF => by
  obtain ⟨h1, j, h2, h3⟩ := (flow_fit hF hr).2 t e hm
  have h4 := (List.getElem?_eq_some_iff.1 h3).1
  rw [hF.1] at h4
  omega
theorem no_two {c : Cd} {n n' k : Nat} {d t e f : Int} (hr : rch c.ins n k d) (hm : (t, e) ∈ nxL c.ins k d) (hr' : rch c.ins n' t f) (hne : f ≠ e) : ∀ ds, ¬ Flow c ds := fun ds hF => by
  obtain ⟨h1, j, h2, h3⟩ := (flow_fit hF hr).2 t e hm
  obtain ⟨i, h4, h5, _⟩ := rch_flow hF n' t f hr'
  obtain rfl : i = j := by omega
  rw [h3] at h5
  exact hne (Option.some.inj h5).symm
theorem rch_next {is : List In} {n k : Nat} {d t e : Int} (hr : rch is n k d) (hm : (t, e) ∈ nxL is k d) : rch is (n + 1) t e := ⟨k, d, hr, hm⟩

end Go.Proofs.YtnojlfdojmkonaaGreatDoor

namespace Go.Proofs.YtnojlfdojmkonaaGreatDoor
open Go.RowKit

/-- a digit's byte -/
def isDig (b : UInt8) : Bool := decide (48 ≤ b.toNat) && decide (b.toNat ≤ 57)
/-- one digit more: the number so far, and whether it was above -/
def rstep (st : Int × Bool) (d : Int) : Int × Bool := if st.2 = true ∨ (4611686018427387903 - d) / 10 < st.1 then (st.1, true) else (10 * st.1 + d, false)
/-- the number so far behind a text -/
def rst (l : List UInt8) : Int × Bool := l.foldl (fun st b => rstep st ((b.toNat : Int) - 48)) (0, false)
/-- what is answered by what was read -/
def rout (st : Int × Bool) : Int × Int := if st.2 then (0, 10) else (st.1, 0)
/-- the answer of Read -/
def readOut (l : List UInt8) : Int × Int := if l.isEmpty || !l.all isDig then (0, 11) else rout (rst l)

theorem rstep_bounds {st : Int × Bool} {d : Int} (h0 : 0 ≤ st.1) (h1 : st.1 ≤ 4611686018427387903) (d0 : 0 ≤ d) (_d9 : d ≤ 9) : 0 ≤ (rstep st d).1 ∧ (rstep st d).1 ≤ 4611686018427387903 := by
  unfold rstep; split
  · exact ⟨h0, h1⟩
  · rename_i h; simp only [not_or] at h; constructor <;> simp only <;> omega

theorem rst_snoc (l : List UInt8) (b : UInt8) : rst (l ++ [b]) = rstep (rst l) ((b.toNat : Int) - 48) := by simp [rst]

theorem rfold_bounds : ∀ (l : List UInt8) (st : Int × Bool), 0 ≤ st.1 → st.1 ≤ 4611686018427387903 → l.all isDig = true →
    0 ≤ (l.foldl (fun st b => rstep st ((b.toNat : Int) - 48)) st).1 ∧ (l.foldl (fun st b => rstep st ((b.toNat : Int) - 48)) st).1 ≤ 4611686018427387903
  | [], st, h0, h1, _ => ⟨h0, h1⟩
  | b :: l, st, h0, h1, h => by
    rw [List.all_cons, Bool.and_eq_true] at h
    have hb := h.1
    simp [isDig] at hb
    have := rstep_bounds (d := (b.toNat : Int) - 48) h0 h1 (by omega) (by omega)
    exact rfold_bounds l _ this.1 this.2 h.2

theorem rst_bounds (l : List UInt8) (h : l.all isDig = true) : 0 ≤ (rst l).1 ∧ (rst l).1 ≤ 4611686018427387903 :=
  rfold_bounds l (0, false) (by decide) (by decide) h

theorem take_succ_dig (l : List UInt8) (k : Nat) (h : k < l.length) : l.take (k + 1) = l.take k ++ [l[k]] := by
  rw [List.take_succ_eq_append_getElem h]

theorem readOut_bad {l : List UInt8} {k : Nat} (h : k < l.length) (hb : isDig l[k] = false) : readOut l = (0, 11) := by
  have : l.all isDig = false := by
    rw [List.all_eq_false]
    exact ⟨l[k], List.getElem_mem h, by simp [hb]⟩
  simp [readOut, this]

theorem readOut_good {l : List UInt8} (h : l ≠ []) (hall : l.all isDig = true) : readOut l = rout (rst l) := by
  unfold readOut
  rw [hall]
  cases l with
  | nil => exact absurd rfl h
  | cons => rfl

end Go.Proofs.YtnojlfdojmkonaaGreatDoor
