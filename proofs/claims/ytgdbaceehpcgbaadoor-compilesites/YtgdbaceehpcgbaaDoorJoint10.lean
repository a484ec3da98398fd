/- Steps of a region that draws, in few words. Which units may be, as the document says it; it is the same. -/
import Derived.Test.YtgdbaceehpcgbaaDoorJoint2
import Derived.Deep.RegionHeld3
import Derived.KernelRfl
import Derived.Deep.Draws
import Derived.Test.YtgdbaceehpcgbaaDoorScMay
namespace Go.Proofs.YtgdbaceehpcgbaaDoor
open Go.RowKit
section
variable {P : Program} {md : Region.Mode} {ops : Array Oper} {Q : Exit → Act → World → Prop} {S : World → Prop}
theorem tk (i : Nat) {oi : Oper} {v : Value} {fuel : Nat} {listed : Array Bool} {a b : Act} {w : World}
    (hy : ∀ w, S w → (execOp a.eval oi).run P w = .ok (.value v) w) (h : wpAnyH P md ops Q S fuel (listed.setIfInBounds i true) b w)
    (hi : ops[i]? = some oi := by rfl) (hs : Region.noSelect ops = true := by kernel_rfl) (hf : Region.free md ops listed i = true := by kernel_rfl) (hr : (Region.ready md ops listed).contains i = true := by kernel_rfl)
    (hQ : ∀ c a w, Q (.panic c) (a.put oi.dst v) w → Q (.panic c) a w := by exact fun _ _ _ h => h) (hg : Region.wanted oi (yielded ops a.tmps) = true := by rfl) (hS : S w := by assumption)
    (hb : a.put oi.dst v = b := by simp only [Act.put, List.setIfInBounds_toArray, List.set_cons_zero, List.set_cons_succ, List.getElem_toArray, List.getElem_cons_succ, List.getElem_cons_zero]; rfl) : wpAnyH P md ops Q S (fuel + 1) listed a w :=
  wpAnyH_take hi hs hf hr hQ (Or.inl ⟨hg, hy⟩) hS (hb ▸ h)
theorem tkk (i : Nat) {oi : Oper} {v : Value} {fuel : Nat} {listed : Array Bool} {a b : Act} {w : World}
    (h : wpAnyH P md ops Q S fuel (listed.setIfInBounds i true) b w)
    (hi : ops[i]? = some oi := by rfl) (hy : ∀ w, S w → (execOp a.eval oi).run P w = .ok (.value v) w := by intro w hSw; go_simp <;> (try with_reducible rfl)) (hs : Region.noSelect ops = true := by kernel_rfl) (hf : Region.free md ops listed i = true := by kernel_rfl) (hr : (Region.ready md ops listed).contains i = true := by kernel_rfl)
    (hQ : ∀ c a w, Q (.panic c) (a.put oi.dst v) w → Q (.panic c) a w := by exact fun _ _ _ h => h) (hg : Region.wanted oi (yielded ops a.tmps) = true := by rfl) (hS : S w := by assumption)
    (hb : a.put oi.dst v = b := by simp only [Act.put, List.setIfInBounds_toArray, List.set_cons_zero, List.set_cons_succ, List.getElem_toArray, List.getElem_cons_succ, List.getElem_cons_zero]; rfl) : wpAnyH P md ops Q S (fuel + 1) listed a w :=
  wpAnyH_take hi hs hf hr hQ (Or.inl ⟨hg, hy⟩) hS (hb ▸ h)
theorem tks (i : Nat) {oi : Oper} {fuel : Nat} {listed : Array Bool} {a b : Act} {w : World} (h : wpAnyH P md ops Q S fuel (listed.setIfInBounds i true) b w)
    (hi : ops[i]? = some oi := by rfl) (hs : Region.noSelect ops = true := by kernel_rfl) (hf : Region.free md ops listed i = true := by kernel_rfl) (hr : (Region.ready md ops listed).contains i = true := by kernel_rfl)
    (hQ : ∀ c a w, Q (.panic c) (a.put oi.dst undef) w → Q (.panic c) a w := by exact fun _ _ _ h => h) (hg : Region.wanted oi (yielded ops a.tmps) = false := by rfl) (hS : S w := by assumption)
    (hb : a.put oi.dst undef = b := by simp only [Act.put, List.setIfInBounds_toArray, List.set_cons_zero, List.set_cons_succ, List.getElem_toArray, List.getElem_cons_succ, List.getElem_cons_zero]; rfl) : wpAnyH P md ops Q S (fuel + 1) listed a w :=
  wpAnyH_take hi hs hf hr hQ (Or.inr ⟨hg, rfl⟩) hS (hb ▸ h)
theorem rdy (i : Nat) {o : Oper} {fuel : Nat} {listed : Array Bool} {a : Act} {w : World}
    (h : ∀ K' : Act → World → Prop, Shut (∀ a w, S w → (S w → wpAnyH P md ops Q S fuel (listed.setIfInBounds i true) a w) → K' a w) → if Region.wanted o (yielded ops a.tmps) = true then Oper.wp P o a w K' Q else K' (a.put o.dst undef) w)
    (ho : ops[i]? = some o := by rfl) (hr : Region.ready md ops listed = [i] := by kernel_rfl) : wpAnyH P md ops Q S (fuel + 1) listed a w :=
  wpAnyH_ready hr (by simp) (AllReadyH.cons ho h AllReadyH.nil)
end
end Go.Proofs.YtgdbaceehpcgbaaDoor

namespace Go.Proofs.YtgdbaceehpcgbaaDoor
open Go.RowKit

def isD (k : Int) : Nat := if k = 29 then 3 else if k ≤ 20 then 1 else 2
def wantD (k : Int) (i : Nat) : Nat := if 0 < i ∧ (k = 28 ∨ k = 30) then 3 else if k = 29 then 2 else 1
def mostD (b : Bds) (k : Int) : Int := if k = 2 then 1 else if k = 3 then 4611686018427387903 else if k = 18 ∨ k = 33 then b.1 - 1 else if k = 19 ∨ k = 34 then b.2.1 - 1 else if k = 20 then b.2.2 - 1 else 0
def opD (k o : Int) : Bool := if k = 9 then decide (1 ≤ o ∧ o ≤ 2) else if k = 10 then decide (1 ≤ o ∧ o ≤ 11) else if k = 17 then decide (1 ≤ o ∧ o ≤ 7) else decide (o = 0)
def strD (k : Int) (s : ByteArray) : Bool := if k = 13 ∨ k = 16 ∨ k = 23 ∨ k = 25 then propB s else if k = 4 then decide (s.size ≤ 256) else decide (s.size = 0)
def nsD (k : Int) (ns : List ByteArray) : Bool := if k = 7 then decide (ns.length ≤ 40) && ns.all propB else decide (ns.length = 0)
def fldD (b : Bds) (k o n : Int) (s : ByteArray) (ns : List ByteArray) : Bool := withB n 0 (mostD b k) && (opD k o && (strD k s && nsD k ns))
def manyD (k o : Int) (m c : Nat) : Bool :=
  if k = 1 ∨ k = 2 ∨ k = 3 ∨ k = 4 ∨ k = 6 ∨ k = 18 ∨ k = 19 ∨ k = 20 then decide (c = 0) else if k = 7 then decide (c = m) else if k = 29 then decide (c ≤ 40)
  else if k = 9 ∨ k = 13 ∨ k = 25 ∨ k = 27 ∨ k = 31 ∨ k = 32 ∨ k = 33 ∨ k = 34 then decide (c = 1) else if k = 10 ∨ k = 11 ∨ k = 12 ∨ k = 14 ∨ k = 23 ∨ k = 26 ∨ k = 30 then decide (c = 2)
  else if k = 15 ∨ k = 16 then decide (1 ≤ c ∧ c ≤ 7) else if k = 17 then decide (c = (builtT o).2) else if k = 24 ∨ k = 28 then decide (c = 3) else false
mutual
def rightD (b : Bds) : Nd → Nat → Bool
  | .mk k o n s ns ks _, a => (isD k == a) && (manyD k o ns.length ks.length && (fldD b k o n s ns && rightDL b ks k 0))
def rightDL (b : Bds) : List Nd → Int → Nat → Bool
  | [], _, _ => true
  | x :: r, k, i => rightD b x (wantD k i) && rightDL b r k (i + 1)
end
/-- the kids' sorts are those that are wanted -/
def sortsL : List Nd → Int → Nat → Bool
  | [], _, _ => true
  | x :: r, k, i => (sortK x.kind == wantK k i) && sortsL r k (i + 1)
theorem stand_as (k : Int) {a : Nat} (ha : a = 1 ∨ a = 2 ∨ a = 3) : rightN (standK k) a = (sortK k == a) := by
  unfold standK sortK
  by_cases h1 : 1 ≤ k ∧ k ≤ 20
  · rw [if_pos h1]
    rcases ha with rfl | rfl | rfl <;> decide
  · rw [if_neg h1]
    by_cases h2 : k = 29
    · rw [if_pos h2]
      rcases ha with rfl | rfl | rfl <;> decide
    · rw [if_neg h2]
      rcases ha with rfl | rfl | rfl <;> decide
theorem want_3 (k : Int) (i : Nat) : wantK k i = 1 ∨ wantK k i = 2 ∨ wantK k i = 3 := by
  unfold wantK
  split
  · omega
  · split <;> omega
theorem stands_as : ∀ (l : List Nd) (k : Int) (i : Nat), rightL (standL l) k i = sortsL l k i
  | [], k, i => by rw [standL, List.map_nil, rightL, sortsL]
  | x :: r, k, i => by
    have h := stands_as r k (i + 1)
    unfold standL at h ⊢
    rw [List.map_cons, rightL, sortsL, h, stand_as _ (want_3 k i)]
theorem plain_is (k o n : Int) (s : ByteArray) (ns : List ByteArray) (ks : List Nd) (p : Int) :
    plainB (.mk k o n s ns ks p) = (decide (1 ≤ isK (unK k)) && (okB (unK k) o (unM k n) s ns ks.length && sortsL ks (unK k) 0)) := by
  have hl : ∀ a, rightN (lessN (.mk k o n s ns ks p)) a = ((isK (unK k) == a) && (okB (unK k) o (unM k n) s ns ks.length && sortsL ks (unK k) 0)) := fun a => by
    rw [lessN, rightN_mk, stands_as]
    simp [standL]
  generalize hX : (okB (unK k) o (unM k n) s ns ks.length && sortsL ks (unK k) 0) = X at *
  cases hb : (decide (1 ≤ isK (unK k)) && X) with
  | true =>
    rw [Bool.and_eq_true, decide_eq_true_eq] at hb
    have h3 : isK (unK k) ≤ 3 := by
      unfold isK
      split
      · omega
      · split
        · omega
        · split <;> omega
    refine plain_of (a := isK (unK k)) (by omega) ?_
    rw [hl, hb.2]
    simp
  | false =>
    cases hp : plainB (.mk k o n s ns ks p) with
    | false => rfl
    | true =>
      exfalso
      have hr : ∃ a, 1 ≤ a ∧ rightN (lessN (.mk k o n s ns ks p)) a = true := by
        unfold plainB at hp
        rw [beq_iff_eq] at hp
        generalize lessN (.mk k o n s ns ks p) = u at *
        have key : ∀ v : Nd, checkN v = 0 → rightN v 3 = true := fun v h => by
          unfold checkN at h
          split at h
          · cases h
          · split at h
            · assumption
            · cases h
        have h3 := key _ hp
        unfold wrapS wrapE at h3
        split at h3
        · split at h3
          · rename_i h4; cases h4
          · rw [rightN_mk, rightL, rightN_mk, rightL] at h3
            simp only [Bool.and_eq_true] at h3
            have h4 := h3.2.2.1.2.2
            rw [rightL, Bool.and_eq_true] at h4
            exact ⟨1, by omega, h4.1⟩
        · split at h3
          · exact ⟨3, by omega, h3⟩
          · rw [rightN_mk, rightL] at h3
            simp only [Bool.and_eq_true] at h3
            exact ⟨2, by omega, h3.2.2.1⟩
      obtain ⟨a, ha, hr⟩ := hr
      rw [hl, Bool.and_eq_true, beq_iff_eq] at hr
      rw [hr.2, Bool.and_true, decide_eq_false_iff_not] at hb
      omega
set_option maxHeartbeats 4000000 in
theorem own_same (b : Bds) (k o n : Int) (s : ByteArray) (ns : List ByteArray) (c : Nat) :
    (namedB b k n && (decide (1 ≤ isK (unK k)) && okB (unK k) o (unM k n) s ns c)) = (manyD k o ns.length c && fldD b k o n s ns) := by
  have ways : k ≤ 0 ∨ k = 1 ∨ k = 2 ∨ k = 3 ∨ k = 4 ∨ k = 5 ∨ k = 6 ∨ k = 7 ∨ k = 8 ∨ k = 9 ∨ k = 10 ∨ k = 11 ∨ k = 12 ∨ k = 13 ∨ k = 14 ∨ k = 15 ∨ k = 16 ∨ k = 17 ∨ k = 18 ∨ k = 19 ∨ k = 20 ∨ k = 21 ∨ k = 22 ∨ k = 23 ∨ k = 24 ∨ k = 25 ∨ k = 26 ∨ k = 27 ∨ k = 28 ∨ k = 29 ∨ k = 30 ∨ k = 31 ∨ k = 32 ∨ k = 33 ∨ k = 34 ∨ 35 ≤ k := by omega
  have bad : (k ≤ 0 ∨ 35 ≤ k) → isK (unK k) = 0 ∧ manyD k o ns.length c = false := fun h => by
    constructor
    · unfold isK unK
      rw [if_neg (by omega), if_neg (by omega), if_neg (by omega)]
    · unfold manyD
      rw [if_neg (by omega), if_neg (by omega), if_neg (by omega), if_neg (by omega), if_neg (by omega), if_neg (by omega), if_neg (by omega), if_neg (by omega)]
  rcases ways with h | rfl | rfl | rfl | rfl | rfl | rfl | rfl | rfl | rfl | rfl | rfl | rfl | rfl | rfl | rfl | rfl | rfl | rfl | rfl | rfl | rfl | rfl | rfl | rfl | rfl | rfl | rfl | rfl | rfl | rfl | rfl | rfl | rfl | rfl | h
  case inl => rw [(bad (.inl h)).1, (bad (.inl h)).2]; simp
  iterate 34
    · clear bad
      simp [namedB, isK, unK, unM, okB, opOk, numOk, strOk, nsOk, cntOk, manyD, fldD, mostD, opD, strD, nsD, withB]
      try grind
  rw [(bad (.inr h)).1, (bad (.inr h)).2]; simp

def sortsD : List Nd → Int → Nat → Bool
  | [], _, _ => true
  | x :: r, k, i => (sortK x.kind == wantD k i) && sortsD r k (i + 1)
theorem wantD_3 (k : Int) (i : Nat) : wantD k i = 1 ∨ wantD k i = 2 ∨ wantD k i = 3 := by
  unfold wantD
  split
  · omega
  · split <;> omega
theorem kind_in {b : Bds} {k n : Int} (h1 : namedB b k n = true) (h2 : 1 ≤ isK (unK k)) : (1 ≤ k ∧ k ≤ 34) ∧ k ≠ 8 := by
  constructor
  · unfold isK unK at h2
    by_cases h : 1 ≤ k ∧ k ≤ 34
    · exact h
    · rw [if_neg (by omega), if_neg (by omega), if_neg (by omega)] at h2
      omega
  · intro h
    subst h
    simp [namedB] at h1
theorem want_same {k : Int} (h8 : k ≠ 8) (i : Nat) : wantK (unK k) i = wantD k i := by
  unfold wantK wantD unK
  by_cases h1 : k = 18 ∨ k = 19 ∨ k = 20
  · rw [if_pos h1, if_neg (by omega), if_neg (by omega), if_neg (by omega), if_neg (by omega)]
  · rw [if_neg h1]
    by_cases h2 : k = 33 ∨ k = 34
    · rw [if_pos h2, if_neg (by omega), if_neg (by omega), if_neg (by omega), if_neg (by omega)]
    · rw [if_neg h2]
      by_cases h3 : k = 29
      · rw [if_pos (by omega), if_neg (by omega), if_pos h3]
      · rw [if_neg (by omega)]
        by_cases h4 : (k = 28 ∨ k = 30) ∧ 0 < i
        · rw [if_pos h4, if_pos ⟨h4.2, h4.1⟩]
        · rw [if_neg h4, if_neg (fun h => h4 ⟨h.2, h.1⟩), if_neg h3]
theorem sorts_same {k : Int} (h8 : k ≠ 8) : ∀ (l : List Nd) (i : Nat), sortsL l (unK k) i = sortsD l k i
  | [], i => rfl
  | x :: r, i => by rw [sortsL, sortsD, want_same h8, sorts_same h8 r (i + 1)]
theorem sort_same {k : Int} (hk : 1 ≤ k) : isD k = sortK k := by
  unfold isD sortK
  by_cases h1 : k = 29
  · rw [if_pos h1, if_neg (by omega), if_pos h1]
  · rw [if_neg h1]
    by_cases h2 : k ≤ 20
    · rw [if_pos h2, if_pos ⟨hk, h2⟩]
    · rw [if_neg h2, if_neg (by omega), if_neg h1]
mutual
theorem right_same (b : Bds) : ∀ (t : Nd) (a : Nat), rightD b t a = ((sortK t.kind == a) && rightU b t)
  | .mk k o n s ns ks p, a => by
    have hL := rightL_same b ks k 0
    rw [rightD, rightU, hL, plain_is]
    have hO := own_same b k o n s ns ks.length
    have e1 : ((isD k == a) && (manyD k o ns.length ks.length && (fldD b k o n s ns && (sortsD ks k 0 && rightUL b ks)))) = ((isD k == a) && ((manyD k o ns.length ks.length && fldD b k o n s ns) && (sortsD ks k 0 && rightUL b ks))) := by rw [Bool.and_assoc]
    have e2 : (namedB b k n && ((decide (1 ≤ isK (unK k)) && (okB (unK k) o (unM k n) s ns ks.length && sortsL ks (unK k) 0)) && rightUL b ks)) = ((namedB b k n && (decide (1 ≤ isK (unK k)) && okB (unK k) o (unM k n) s ns ks.length)) && (sortsL ks (unK k) 0 && rightUL b ks)) := by simp only [Bool.and_assoc]
    rw [e1, e2, hO]
    cases hM : (manyD k o ns.length ks.length && fldD b k o n s ns) with
    | false => simp
    | true =>
      rw [hM] at hO
      simp only [Bool.and_eq_true, decide_eq_true_eq] at hO
      obtain ⟨h1, h2⟩ := kind_in hO.1 hO.2.1
      rw [sorts_same h2, sort_same h1.1]
      rfl
theorem rightL_same (b : Bds) : ∀ (l : List Nd) (k : Int) (i : Nat), rightDL b l k i = (sortsD l k i && rightUL b l)
  | [], k, i => by rw [rightDL, sortsD, rightUL]; rfl
  | x :: r, k, i => by
    rw [rightDL, sortsD, rightUL, right_same b x, rightL_same b r k (i + 1)]
    cases (sortK x.kind == wantD k i) <;> cases rightU b x <;> simp
end
/-- a function, as the document asks -/
def bodyD (b : Bds) (l : List Nd) : Bool := decide (l.length ≤ 40) && l.all fun x => rightD b x 2
def roomD (i : Nat) (p l : Int) : Bool := decide (0 ≤ p) && (decide (p ≤ 6) && (decide (p ≤ l) && (decide (l ≤ 24) && !(decide (i = 0) && decide (0 < l)))))
theorem room_same (i : Nat) (p l : Int) : roomD i p l = roomB i p l := by
  unfold roomD roomB withB
  by_cases h : i = 0
  · subst h
    rw [Bool.eq_iff_iff]
    simp
    omega
  · rw [Bool.eq_iff_iff]
    simp [h]
    omega
theorem all_same (b : Bds) : ∀ (l : List Nd) (i : Nat), (l.all fun x => rightD b x 2) = (sortsL l 29 i && rightUL b l)
  | [], i => by rw [sortsL, rightUL]; rfl
  | x :: r, i => by
    rw [List.all_cons, all_same b r (i + 1), right_same, sortsL, rightUL]
    have : wantK 29 i = 2 := by unfold wantK; rw [if_pos (.inr rfl)]
    rw [this]
    cases (sortK x.kind == 2) <;> cases rightU b x <;> simp
theorem body_same (b : Bds) (l : List Nd) : bodyD b l = bodyU b l := by
  unfold bodyD bodyU
  rw [rightU, plain_is, all_same b l 0]
  have h1 : namedB b 29 0 = true := by simp [namedB]
  have h2 : decide (1 ≤ isK (unK 29)) = true := by decide
  have h3 : okB (unK 29) 0 (unM 29 0) ⟨#[]⟩ [] l.length = decide (l.length ≤ 40) := by
    simp [okB, unK, unM, opOk, numOk, strOk, nsOk, cntOk]
    intro _
    rfl
  rw [h1, h2, h3]
  simp [Bool.and_assoc, unK]

end Go.Proofs.YtgdbaceehpcgbaaDoor
