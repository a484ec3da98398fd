/- Steps of a region that draws, in few words. What a value is, by its kind, its number and its bytes: no program in sight. Unlike values are printed unlike: no program in sight. -/
import Derived.Test.YtnojlfdojmkonaaGreatDoorJoint1
import Derived.Deep.RegionHeld3
import Derived.KernelRfl
import Derived.Deep.Draws
import Derived.Test.YtnojlfdojmkonaaGreatDoorTxtPlain
namespace Go.Proofs.YtnojlfdojmkonaaGreatDoor
open Go.RowKit
section
variable {P : Program} {md : Region.Mode} {ops : Array Oper} {Q : Exit → Act → World → Prop} {S : World → Prop}
theorem tk (i : Nat) {oi : Oper} {v : Value} {fuel : Nat} {listed : Array Bool} {a b : Act} {w : World}
    (hy : ∀ w, S w → (execOp a.eval oi).run P w = .ok (.value v) w) (h : wpAnyH P md ops Q S fuel (listed.setIfInBounds i true) b w)
    (hi : ops[i]? = some oi := by rfl) (hs : Region.noSelect ops = true := by kernel_rfl) (hf : Region.free md ops listed i = true := by kernel_rfl) (hr : (Region.ready md ops listed).contains i = true := by kernel_rfl)
    (hQ : ∀ c a w, Q (.panic c) (a.put oi.dst v) w → Q (.panic c) a w := by exact fun _ _ _ h => h) (hg : Region.wanted oi (yielded ops a.tmps) = true := by rfl) (hS : S w := by assumption)
    (hb : a.put oi.dst v = b := by simp only [Act.put, List.setIfInBounds_toArray, List.set_cons_zero, List.set_cons_succ, List.getElem_toArray, List.getElem_cons_succ, List.getElem_cons_zero]; rfl) : wpAnyH P md ops Q S (fuel + 1) listed a w :=
  wpAnyH_take hi hs hf hr hQ (Or.inl ⟨hg, hy⟩) hS (hb ▸ h)
theorem tkk (i : Nat) {oi : Oper} {v : Value} {fuel : Nat} {listed : Array Bool} {a b : Act} {w : World}
    (h : wpAnyH P md ops Q S fuel (listed.setIfInBounds i true) b w)
    (hi : ops[i]? = some oi := by rfl) (hy : ∀ w, S w → (execOp a.eval oi).run P w = .ok (.value v) w := by intro w hSw; go_simp <;> (try with_reducible rfl)) (hs : Region.noSelect ops = true := by kernel_rfl) (hf : Region.free md ops listed i = true := by kernel_rfl) (hr : (Region.ready md ops listed).contains i = true := by kernel_rfl)
    (hQ : ∀ c a w, Q (.panic c) (a.put oi.dst v) w → Q (.panic c) a w := by exact fun _ _ _ h => h) (hg : Region.wanted oi (yielded ops a.tmps) = true := by rfl) (hS : S w := by assumption)
    (hb : a.put oi.dst v = b := by simp only [Act.put, List.setIfInBounds_toArray, List.set_cons_zero, List.set_cons_succ, List.getElem_toArray, List.getElem_cons_succ, List.getElem_cons_zero]; rfl) : wpAnyH P md ops Q S (fuel + 1) listed a w :=
  wpAnyH_take hi hs hf hr hQ (Or.inl ⟨hg, hy⟩) hS (hb ▸ h)
theorem tks (i : Nat) {oi : Oper} {fuel : Nat} {listed : Array Bool} {a b : Act} {w : World} (h : wpAnyH P md ops Q S fuel (listed.setIfInBounds i true) b w)
    (hi : ops[i]? = some oi := by rfl) (hs : Region.noSelect ops = true := by kernel_rfl) (hf : Region.free md ops listed i = true := by kernel_rfl) (hr : (Region.ready md ops listed).contains i = true := by kernel_rfl)
    (hQ : ∀ c a w, Q (.panic c) (a.put oi.dst undef) w → Q (.panic c) a w := by exact fun _ _ _ h => h) (hg : Region.wanted oi (yielded ops a.tmps) = false := by rfl) (hS : S w := by assumption)
    (hb : a.put oi.dst undef = b := by simp only [Act.put, List.setIfInBounds_toArray, List.set_cons_zero, List.set_cons_succ, List.getElem_toArray, List.getElem_cons_succ, List.getElem_cons_zero]; rfl) : wpAnyH P md ops Q S (fuel + 1) listed a w :=
  wpAnyH_take hi hs hf hr hQ (Or.inr ⟨hg, rfl⟩) hS (hb ▸ h)
theorem rdy (i : Nat) {o : Oper} {fuel : Nat} {listed : Array Bool} {a : Act} {w : World}
    (h : ∀ K' : Act → World → Prop, Shut (∀ a w, S w → (S w → wpAnyH P md ops Q S fuel (listed.setIfInBounds i true) a w) → K' a w) → if Region.wanted o (yielded ops a.tmps) = true then Oper.wp P o a w K' Q else K' (a.put o.dst undef) w)
    (ho : ops[i]? = some o := by rfl) (hr : Region.ready md ops listed = [i] := by kernel_rfl) : wpAnyH P md ops Q S (fuel + 1) listed a w :=
  wpAnyH_ready hr (by simp) (AllReadyH.cons ho h AllReadyH.nil)
end
end Go.Proofs.YtnojlfdojmkonaaGreatDoor

namespace Go.Proofs.YtnojlfdojmkonaaGreatDoor
open Go.RowKit

def truthB (k n : Int) : Bool := !(k == 0) && (!(k == 1) || !(n == 0))
def countsB (k n : Int) : Bool :=
  if k = 0 then n == 0 else if k = 1 then n == 0 || n == 1 else if k = 2 then decide (-4611686018427387904 ≤ n) && decide (n ≤ 4611686018427387903)
  else if k = 4 then decide (1 ≤ n) else if k = 5 then decide (0 ≤ n) else false
def rightB (k n : Int) (l : List UInt8) : Bool := if k = 3 then n == 0 && decide (l.length ≤ 256) else decide (l = []) && countsB k n
def alike (k n : Int) (l : List UInt8) (k' n' : Int) (l' : List UInt8) : Bool := k == k' && (n == n' && l == l')

def showB (k n : Int) (l : List UInt8) : List UInt8 :=
  if k = 0 then [110, 117, 108, 108] else if k = 1 then (if n = 0 then [102, 97, 108, 115, 101] else [116, 114, 117, 101]) else if k = 2 then digs n
  else if k = 3 then l else if k = 4 then [111, 98, 106, 101, 99, 116] else if k = 5 then [102, 117, 110, 99, 116, 105, 111, 110] else []
def printB (k n : Int) (l : List UInt8) : List UInt8 :=
  if k = 3 then quoted l else if k = 4 then 35 :: digs n else if k = 5 then 38 :: digs n else showB k n l

theorem vright_of {k n lo hi : Int} {l : List UInt8} (hk : k ≠ 3) (h : countsB k n = (decide (lo ≤ n) && decide (n ≤ hi))) : rightB k n l = (decide (lo ≤ n) && (decide (n ≤ hi) && decide (l = []))) := by
  unfold rightB
  rw [if_neg hk, h, Bool.and_comm, Bool.and_assoc]
theorem counts0 (n : Int) : countsB 0 n = (decide (0 ≤ n) && decide (n ≤ 0)) := by
  show (n == 0) = _; rw [Bool.eq_iff_iff]; simp; omega
theorem counts1 (n : Int) : countsB 1 n = (decide (0 ≤ n) && decide (n ≤ 1)) := by
  show (n == 0 || n == 1) = _; rw [Bool.eq_iff_iff]; simp; omega
theorem counts2 (n : Int) : countsB 2 n = (decide (-4611686018427387904 ≤ n) && decide (n ≤ 4611686018427387903)) := rfl
theorem counts4 (n : Int) (h : n ≤ 9223372036854775807) : countsB 4 n = (decide (1 ≤ n) && decide (n ≤ 9223372036854775807)) := by
  show decide (1 ≤ n) = _; rw [decide_eq_true h, Bool.and_true]
theorem counts5 (n : Int) (h : n ≤ 9223372036854775807) : countsB 5 n = (decide (0 ≤ n) && decide (n ≤ 9223372036854775807)) := by
  show decide (0 ≤ n) = _; rw [decide_eq_true h, Bool.and_true]

end Go.Proofs.YtnojlfdojmkonaaGreatDoor

namespace Go.Proofs.YtnojlfdojmkonaaGreatDoor
open Go.RowKit

/-- what decimal digits are worth -/
def dval (l : List UInt8) : Nat := l.foldl (fun a c => 10 * a + (c.toNat - 48)) 0
theorem dval_snoc (l : List UInt8) (c : UInt8) : dval (l ++ [c]) = 10 * dval l + (c.toNat - 48) := by simp [dval]
theorem dval_dec : ∀ (f m : Nat), m < 10 ^ f → dval (dec f m) = m
  | 0, m, h => by
      have : m = 0 := by simpa using h
      subst this; rfl
  | f + 1, m, h => by
    by_cases hs : m < 10
    · rw [dec_small hs]; show 10 * 0 + ((UInt8.ofNat (48 + m)).toNat - 48) = m; rw [small_toNat hs]; omega
    · rw [dec_big (by omega), dval_snoc, dval_dec f (m / 10) (by rw [Nat.pow_succ] at h; omega), dig_toNat]; omega

theorem dec_head : ∀ (f m : Nat), ∃ c r, dec (f + 1) m = c :: r ∧ 48 ≤ c.toNat ∧ c.toNat ≤ 57
  | 0, m => by
    by_cases hs : m < 10
    · exact ⟨_, _, dec_small hs, by rw [small_toNat hs]; omega, by rw [small_toNat hs]; omega⟩
    · rw [dec_big (by omega)]
      exact ⟨_, _, rfl, by rw [dig_toNat]; omega, by rw [dig_toNat]; omega⟩
  | f + 1, m => by
    by_cases hs : m < 10
    · exact ⟨_, _, dec_small hs, by rw [small_toNat hs]; omega, by rw [small_toNat hs]; omega⟩
    · obtain ⟨c, r, h, h1, h2⟩ := dec_head f (m / 10)
      rw [dec_big (by omega), h]
      exact ⟨c, _, rfl, h1, h2⟩

theorem digs_head (n : Int) : ∃ c r, digs n = c :: r ∧ (c.toNat = 45 ∨ (48 ≤ c.toNat ∧ c.toNat ≤ 57)) := by
  unfold digs
  split
  · exact ⟨45, _, rfl, Or.inl rfl⟩
  · obtain ⟨c, r, h, h1⟩ := dec_head 19 n.natAbs
    exact ⟨c, r, h, Or.inr h1⟩

theorem dec_inj {a b : Nat} (ha : a < 10 ^ 20) (hb : b < 10 ^ 20) (h : dec 20 a = dec 20 b) : a = b := by
  rw [← dval_dec 20 a ha, h, dval_dec 20 b hb]

theorem digs_inj {a b : Int} (ha : a.natAbs < 10 ^ 20) (hb : b.natAbs < 10 ^ 20) (h : digs a = digs b) : a = b := by
  obtain ⟨c, r, e, h1, h2⟩ := dec_head 19 a.natAbs
  obtain ⟨c', r', e', h1', h2'⟩ := dec_head 19 b.natAbs
  have ne : ∀ c : UInt8, 48 ≤ c.toNat → c ≠ 45 := fun c hc hh => by subst hh; exact absurd hc (by decide)
  unfold digs at h
  by_cases x : a < 0 <;> by_cases y : b < 0
  · rw [if_pos x, if_pos y] at h
    have := dec_inj ha hb (by simpa using h)
    omega
  · rw [if_pos x, if_neg y, e'] at h
    exact absurd (List.cons.inj h).1.symm (ne c' h1')
  · rw [if_neg x, if_pos y, e] at h
    exact absurd (List.cons.inj h).1 (ne c h1)
  · rw [if_neg x, if_neg y] at h
    have := dec_inj ha hb h
    omega

/-- the kind of a value by the first byte of what is printed -/
def kindOf : List UInt8 → Int
  | [] => 9
  | c :: _ => if c.toNat = 110 then 0 else if c.toNat = 102 ∨ c.toNat = 116 then 1 else if c.toNat = 34 then 3 else if c.toNat = 35 then 4 else if c.toNat = 38 then 5 else 2

theorem kind_right {k n : Int} {l : List UInt8} (h : rightB k n l = true) : k = 0 ∨ k = 1 ∨ k = 2 ∨ k = 3 ∨ k = 4 ∨ k = 5 := by
  by_cases h0 : k = 0 <;> by_cases h1 : k = 1 <;> by_cases h2 : k = 2 <;> by_cases h3 : k = 3 <;> by_cases h4 : k = 4 <;> by_cases h5 : k = 5 <;> simp_all [rightB, countsB]

theorem kindOf_print {k n : Int} {l : List UInt8} (h : rightB k n l = true) : kindOf (printB k n l) = k := by
  rcases kind_right h with rfl | rfl | rfl | rfl | rfl | rfl
  · rfl
  · show kindOf (if n = 0 then _ else _) = 1
    split <;> rfl
  · obtain ⟨c, r, e, hc⟩ := digs_head n
    show kindOf (digs n) = 2
    rw [e]
    simp only [kindOf]
    rw [if_neg (by omega), if_neg (by omega), if_neg (by omega), if_neg (by omega), if_neg (by omega)]
  · rfl
  · rfl
  · rfl

theorem apart {k n k' n' : Int} {l l' : List UInt8} (hn : n.natAbs < 10 ^ 20) (hn' : n'.natAbs < 10 ^ 20) (h : rightB k n l = true) (h' : rightB k' n' l' = true) (he : printB k n l = printB k' n' l') :
    k = k' ∧ n = n' ∧ l = l' := by
  have hk : k = k' := by rw [← kindOf_print h, he, kindOf_print h']
  subst hk
  refine ⟨rfl, ?_⟩
  rcases kind_right h with rfl | rfl | rfl | rfl | rfl | rfl
  · simp [rightB, countsB] at h h'
    exact ⟨by omega, by rw [h.1, h'.1]⟩
  · simp [rightB, countsB] at h h'
    refine ⟨?_, by rw [h.1, h'.1]⟩
    rcases h.2 with rfl | rfl <;> rcases h'.2 with rfl | rfl <;> first | rfl | simp [printB, showB] at he
  · simp [rightB] at h h'
    exact ⟨digs_inj hn hn' he, by rw [h.1, h'.1]⟩
  · simp [rightB] at h h'
    exact ⟨by omega, quoted_inj he⟩
  · simp [rightB] at h h'
    exact ⟨digs_inj hn hn' (List.cons.inj he).2, by rw [h.1, h'.1]⟩
  · simp [rightB] at h h'
    exact ⟨digs_inj hn hn' (List.cons.inj he).2, by rw [h.1, h'.1]⟩

/-- just nothing, and false, do not count as true -/
theorem truth_print {k n : Int} {l : List UInt8} (h : rightB k n l = true) :
    truthB k n = (!(printB k n l == [110, 117, 108, 108]) && !(printB k n l == [102, 97, 108, 115, 101])) := by
  have hk := kindOf_print h
  by_cases h0 : k = 0
  · subst h0; rfl
  · have a : (printB k n l == [110, 117, 108, 108]) = false := beq_eq_false_iff_ne.2 fun e => by rw [e] at hk; exact h0 hk.symm
    rw [a]
    by_cases h1 : k = 1
    · subst h1
      by_cases hn : n = 0
      · subst hn; rfl
      · simp [truthB, hn, printB, showB]
    · have b : (printB k n l == [102, 97, 108, 115, 101]) = false := beq_eq_false_iff_ne.2 fun e => by rw [e] at hk; exact h1 hk.symm
      rw [b]
      simp [truthB, h0, h1]

end Go.Proofs.YtnojlfdojmkonaaGreatDoor
