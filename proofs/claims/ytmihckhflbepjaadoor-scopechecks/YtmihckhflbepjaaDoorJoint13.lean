/- Signs, built-in calls, names and counts of kids, as the document tells them. How many kids a unit's node has, as the document says. Whether a node's own fields are those of its kind, as the document asks it (what it says). -/
import Derived.Test.YtmihckhflbepjaaDoorJoint4
import Derived.Test.YtmihckhflbepjaaDoorJoint7
import Derived.BigQuiet
import Derived.Test.YtmihckhflbepjaaDoorJoint6
namespace Go.Proofs.YtmihckhflbepjaaDoor
open Go.RowKit

set_option maxHeartbeats 3200000 in
theorem rsign_calls (o : Int) (w : World) :
    Calls Tryd.prog 68 #[.int .i64 o] w fun e w' => e = .returned (.string ⟨(signT o).toArray⟩) ∧ Below w.heap.size w w' := by
  by_cases h : 1 ≤ o ∧ o ≤ 11
  · obtain rfl | rfl | rfl | rfl | rfl | rfl | rfl | rfl | rfl | rfl | rfl : o = 1 ∨ o = 2 ∨ o = 3 ∨ o = 4 ∨ o = 5 ∨ o = 6 ∨ o = 7 ∨ o = 8 ∨ o = 9 ∨ o = 10 ∨ o = 11 := by omega
    all_goals
      clear h
      go_enter Tryd.func68, Tryd.ntmps68
      go_wp2_with fail
      go_ret
      exact ⟨rfl, (Below.refl _ _).alloc (Nat.le_refl _) _⟩
  · have H := hid (show signT o = [] by
      unfold signT
      by_cases h0 : o < 0
      · rw [if_pos h0]
      · rw [if_neg h0]
        by_cases h1 : o = 0
        · subst h1; rfl
        · rw [List.getD_eq_getElem?_getD, List.getElem?_eq_none (by simp [tsgnL]; omega)]; rfl)
    by_cases h1 : o < 1
    · clear h
      go_enter Tryd.func68, Tryd.ntmps68
      go_wp2_with fail
      go_ret
      exact ⟨by rw [H.out]; rfl, (Below.refl _ _).alloc (Nat.le_refl _) _⟩
    · have d1 : decide (o < 1) = false := decide_eq_false h1
      have h2 : 11 < o := by omega
      clear h h1
      go_enter Tryd.func68, Tryd.ntmps68
      go_wp2_with fail
      go_ret
      exact ⟨by rw [H.out]; rfl, (Below.refl _ _).alloc (Nat.le_refl _) _⟩

set_option maxHeartbeats 3200000 in
theorem rbuilt_calls (o : Int) (w : World) :
    Calls Tryd.prog 67 #[.int .i64 o] w fun e w' => e = .returned (.tuple #[.string ⟨(builtT o).1.toArray⟩, .int .i64 (builtT o).2]) ∧ Below w.heap.size w w' := by
  by_cases h : 1 ≤ o ∧ o ≤ 7
  · obtain rfl | rfl | rfl | rfl | rfl | rfl | rfl : o = 1 ∨ o = 2 ∨ o = 3 ∨ o = 4 ∨ o = 5 ∨ o = 6 ∨ o = 7 := by omega
    all_goals
      clear h
      go_enter Tryd.func67, Tryd.ntmps67
      go_wp2_with fail
      go_ret2
      exact ⟨rfl, (Below.refl _ _).alloc (Nat.le_refl _) _⟩
  · have H := hid (show builtT o = ([], 0) by
      unfold builtT
      by_cases h0 : o < 0
      · rw [if_pos h0]
      · rw [if_neg h0]
        by_cases h1 : o = 0
        · subst h1; rfl
        · rw [List.getD_eq_getElem?_getD, List.getElem?_eq_none (by simp [builtL]; omega)]; rfl)
    by_cases h1 : o < 1
    · clear h
      go_enter Tryd.func67, Tryd.ntmps67
      go_wp2_with fail
      go_ret2
      exact ⟨by rw [H.out]; rfl, (Below.refl _ _).alloc (Nat.le_refl _) _⟩
    · have d1 : decide (o < 1) = false := decide_eq_false h1
      have h2 : 7 < o := by omega
      clear h h1
      go_enter Tryd.func67, Tryd.ntmps67
      go_wp2_with fail
      go_ret2
      exact ⟨by rw [H.out]; rfl, (Below.refl _ _).alloc (Nat.le_refl _) _⟩

theorem rname_calls (s : ByteArray) (w : World) :
    Calls Tryd.prog 70 #[.string s] w fun e w' => e = .returned (.bool (properB s)) ∧ Below w.heap.size w w' := by
  have H := hid (show properB s = (nameB s.data.toList && !keyB s.data.toList) from rfl)
  go_enter Tryd.func70, Tryd.ntmps70
  go_wp2_with fail
  refine (refisname_calls s _).mono ?_
  rintro e w1 ⟨rfl, rfl⟩
  generalize nameB s.data.toList = nb at *
  cases nb
  · go_wp2_with fail
    go_ret
    exact ⟨by rw [H.out]; rfl, Below.refl _ _⟩
  · go_wp2_with fail
    refine (refiskey_calls s _).mono ?_
    rintro e w1 ⟨rfl, b1⟩
    go_wp2_with fail
    go_ret
    exact ⟨by rw [H.out]; rfl, b1⟩

theorem below_drewN {B : Nat} {a w : World} {n : Nat} (h : Below B a w) : Below B a (w.drewN n) := ⟨h.os, h.tape, h.output, h.size, h.block⟩

/-- how many kids a kind has, at least and at most -/
def manyT (k o : Int) (m : Nat) : Int × Int :=
  if 1 ≤ k ∧ k ≤ 6 then (0, 0) else if k = 7 then (m, m) else if k = 8 ∨ k = 29 then (0, 40)
  else if k = 9 ∨ k = 13 ∨ k = 21 ∨ k = 22 ∨ k = 25 ∨ k = 27 ∨ k = 31 ∨ k = 32 then (1, 1)
  else if k = 10 ∨ k = 11 ∨ k = 12 ∨ k = 14 ∨ k = 23 ∨ k = 26 ∨ k = 30 then (2, 2)
  else if k = 15 ∨ k = 16 then (1, 7) else if k = 17 then ((builtT o).2, (builtT o).2) else if k = 24 ∨ k = 28 then (3, 3) else (-1, -1)

set_option maxHeartbeats 3200000 in
theorem many_calls (k o n : Int) (s : ByteArray) (a1 : Option Addr) (c1 q1 : Nat) (a2 : Option Addr) (c2 q2 : Nat) (p : Int) (w : World) :
    Calls Tryd.prog 52 #[.agg #[.int .i64 k, .int .i64 o, .int .i64 n, .string s, .slice a1 c1 q1, .slice a2 c2 q2, .int .i64 p]] w fun e w' =>
      e = .returned (.tuple #[.int .i64 (manyT k o c1).1, .int .i64 (manyT k o c1).2]) ∧ Below w.heap.size w w' := by
  have AL := hid (box1_below w (.cells #[.int .i64 k, .int .i64 o, .int .i64 n, .string s, .slice a1 c1 q1, .slice a2 c2 q2, .int .i64 p] 25))
  by_cases hk : 1 ≤ k ∧ k ≤ 32
  · rcases (show k = 1 ∨ k = 2 ∨ k = 3 ∨ k = 4 ∨ k = 5 ∨ k = 6 ∨ k = 7 ∨ k = 8 ∨ k = 9 ∨ k = 10 ∨ k = 11 ∨ k = 12 ∨ k = 13 ∨ k = 14 ∨ k = 15 ∨ k = 16 ∨ k = 17 ∨ k = 18 ∨ k = 19 ∨ k = 20 ∨ k = 21 ∨ k = 22 ∨ k = 23 ∨ k = 24 ∨ k = 25 ∨ k = 26 ∨ k = 27 ∨ k = 28 ∨ k = 29 ∨ k = 30 ∨ k = 31 ∨ k = 32 from by omega) with
      rfl | rfl | rfl | rfl | rfl | rfl | rfl | rfl | rfl | rfl | rfl | rfl | rfl | rfl | rfl | rfl | rfl | rfl | rfl | rfl | rfl | rfl | rfl | rfl | rfl | rfl | rfl | rfl | rfl | rfl | rfl | rfl
    case inr.inr.inr.inr.inr.inr.inl =>
      clear hk
      go_enter Tryd.func52, Tryd.ntmps52
      go_wp2_with fail
      go_quiet (fail)
      go_wp2_with fail
      go_ret2
      exact ⟨rfl, below_drewN AL.out⟩
    case inr.inr.inr.inr.inr.inr.inr.inr.inr.inr.inr.inr.inr.inr.inr.inr.inl =>
      clear hk
      have H := hid (show manyT 17 o c1 = (((builtT o).2 : Int), ((builtT o).2 : Int)) from rfl)
      go_enter Tryd.func52, Tryd.ntmps52
      go_wp2_with fail
      refine (rbuilt_calls o _).mono ?_
      rintro e w1 ⟨rfl, b1⟩
      have B1 := hid (below_in AL.out (by simp) b1)
      clear b1
      go_wp2_with fail
      go_ret2
      exact ⟨by rw [H.out]; rfl, B1.out⟩
    all_goals
      clear hk
      go_enter Tryd.func52, Tryd.ntmps52
      go_wp2_with fail
      go_ret2
      exact ⟨rfl, AL.out⟩
  · have H := hid (show manyT k o c1 = (-1, -1) by unfold manyT; rw [if_neg (by omega), if_neg (by omega), if_neg (by omega), if_neg (by omega), if_neg (by omega), if_neg (by omega), if_neg (by omega), if_neg (by omega)])
    have hne : ∀ j : Int, 1 ≤ j → j ≤ 32 → (k == j) = false := fun j h1 h2 => beq_eq_false_iff_ne.2 (by omega)
    have e1 := hne 1 (by decide) (by decide)
    have e2 := hne 2 (by decide) (by decide)
    have e3 := hne 3 (by decide) (by decide)
    have e4 := hne 4 (by decide) (by decide)
    have e5 := hne 5 (by decide) (by decide)
    have e6 := hne 6 (by decide) (by decide)
    have e7 := hne 7 (by decide) (by decide)
    have e8 := hne 8 (by decide) (by decide)
    have e9 := hne 9 (by decide) (by decide)
    have e10 := hne 10 (by decide) (by decide)
    have e11 := hne 11 (by decide) (by decide)
    have e12 := hne 12 (by decide) (by decide)
    have e13 := hne 13 (by decide) (by decide)
    have e14 := hne 14 (by decide) (by decide)
    have e15 := hne 15 (by decide) (by decide)
    have e16 := hne 16 (by decide) (by decide)
    have e17 := hne 17 (by decide) (by decide)
    have e21 := hne 21 (by decide) (by decide)
    have e22 := hne 22 (by decide) (by decide)
    have e23 := hne 23 (by decide) (by decide)
    have e24 := hne 24 (by decide) (by decide)
    have e25 := hne 25 (by decide) (by decide)
    have e26 := hne 26 (by decide) (by decide)
    have e27 := hne 27 (by decide) (by decide)
    have e28 := hne 28 (by decide) (by decide)
    have e29 := hne 29 (by decide) (by decide)
    have e30 := hne 30 (by decide) (by decide)
    have e31 := hne 31 (by decide) (by decide)
    have e32 := hne 32 (by decide) (by decide)
    clear hne hk
    go_enter Tryd.func52, Tryd.ntmps52
    go_wp2_with fail
    go_ret2
    exact ⟨by rw [H.out]; rfl, AL.out⟩

end Go.Proofs.YtmihckhflbepjaaDoor

namespace Go.Proofs.YtmihckhflbepjaaDoor
open Go.RowKit

def manyU (k o : Int) (m : Nat) : Int × Int :=
  if k = 1 ∨ k = 2 ∨ k = 3 ∨ k = 4 ∨ k = 6 ∨ k = 18 ∨ k = 19 ∨ k = 20 then (0, 0) else if k = 7 then (m, m) else if k = 29 then (0, 40)
  else if k = 9 ∨ k = 13 ∨ k = 25 ∨ k = 27 ∨ k = 31 ∨ k = 32 ∨ k = 33 ∨ k = 34 then (1, 1) else if k = 10 ∨ k = 11 ∨ k = 12 ∨ k = 14 ∨ k = 23 ∨ k = 26 ∨ k = 30 then (2, 2)
  else if k = 15 ∨ k = 16 then (1, 7) else if k = 17 then ((builtT o).2, (builtT o).2) else if k = 24 ∨ k = 28 then (3, 3) else (-1, -1)
theorem many_is (k o : Int) (m c : Nat) : manyD k o m c = (decide (0 ≤ (manyU k o m).1) && (decide ((manyU k o m).1 ≤ c) && decide ((c : Int) ≤ (manyU k o m).2))) := by
  unfold manyD manyU
  repeat' split
  all_goals (rw [Bool.eq_iff_iff]; simp; try omega)

set_option maxHeartbeats 3200000 in
theorem manyu_calls (k o n : Int) (s : ByteArray) (a1 : Option Addr) (c1 q1 : Nat) (a2 : Option Addr) (c2 q2 : Nat) (p : Int) (w : World) :
    Calls Tryd.prog 48 #[.agg #[.int .i64 k, .int .i64 o, .int .i64 n, .string s, .slice a1 c1 q1, .slice a2 c2 q2, .int .i64 p]] w fun e w' =>
      e = .returned (.tuple #[.int .i64 (manyU k o c1).1, .int .i64 (manyU k o c1).2]) ∧ Below w.heap.size w w' := by
  have AL := hid (box1_below w (.cells #[.int .i64 k, .int .i64 o, .int .i64 n, .string s, .slice a1 c1 q1, .slice a2 c2 q2, .int .i64 p] 25))
  by_cases hk : 1 ≤ k ∧ k ≤ 34
  · rcases (show k = 1 ∨ k = 2 ∨ k = 3 ∨ k = 4 ∨ k = 5 ∨ k = 6 ∨ k = 7 ∨ k = 8 ∨ k = 9 ∨ k = 10 ∨ k = 11 ∨ k = 12 ∨ k = 13 ∨ k = 14 ∨ k = 15 ∨ k = 16 ∨ k = 17 ∨ k = 18 ∨ k = 19 ∨ k = 20 ∨ k = 21 ∨ k = 22 ∨ k = 23 ∨ k = 24 ∨ k = 25 ∨ k = 26 ∨ k = 27 ∨ k = 28 ∨ k = 29 ∨ k = 30 ∨ k = 31 ∨ k = 32 ∨ k = 33 ∨ k = 34 from by omega) with
      rfl | rfl | rfl | rfl | rfl | rfl | rfl | rfl | rfl | rfl | rfl | rfl | rfl | rfl | rfl | rfl | rfl | rfl | rfl | rfl | rfl | rfl | rfl | rfl | rfl | rfl | rfl | rfl | rfl | rfl | rfl | rfl | rfl | rfl
    case inr.inr.inr.inr.inr.inr.inl =>
      clear hk
      go_enter Tryd.func48, Tryd.ntmps48
      go_wp2_with fail
      go_quiet (fail)
      go_wp2_with fail
      go_ret2
      exact ⟨rfl, below_drewN AL.out⟩
    case inr.inr.inr.inr.inr.inr.inr.inr.inr.inr.inr.inr.inr.inr.inr.inr.inl =>
      clear hk
      have H := hid (show manyU 17 o c1 = (((builtT o).2 : Int), ((builtT o).2 : Int)) from rfl)
      go_enter Tryd.func48, Tryd.ntmps48
      go_wp2_with fail
      refine (rbuilt_calls o _).mono ?_
      rintro e w1 ⟨rfl, b1⟩
      have B1 := hid (below_in AL.out (by simp) b1)
      clear b1
      go_wp2_with fail
      go_ret2
      exact ⟨by rw [H.out]; rfl, B1.out⟩
    all_goals
      clear hk
      go_enter Tryd.func48, Tryd.ntmps48
      go_wp2_with fail
      go_ret2
      exact ⟨rfl, AL.out⟩
  · have H := hid (show manyU k o c1 = (-1, -1) by unfold manyU; rw [if_neg (by omega), if_neg (by omega), if_neg (by omega), if_neg (by omega), if_neg (by omega), if_neg (by omega), if_neg (by omega), if_neg (by omega)])
    have hne : ∀ j : Int, 1 ≤ j → j ≤ 34 → (k == j) = false := fun j h1 h2 => beq_eq_false_iff_ne.2 (by omega)
    have e1 := hne 1 (by decide) (by decide)
    have e2 := hne 2 (by decide) (by decide)
    have e3 := hne 3 (by decide) (by decide)
    have e4 := hne 4 (by decide) (by decide)
    have e6 := hne 6 (by decide) (by decide)
    have e18 := hne 18 (by decide) (by decide)
    have e19 := hne 19 (by decide) (by decide)
    have e20 := hne 20 (by decide) (by decide)
    have e7 := hne 7 (by decide) (by decide)
    have e29 := hne 29 (by decide) (by decide)
    have e9 := hne 9 (by decide) (by decide)
    have e13 := hne 13 (by decide) (by decide)
    have e25 := hne 25 (by decide) (by decide)
    have e27 := hne 27 (by decide) (by decide)
    have e31 := hne 31 (by decide) (by decide)
    have e32 := hne 32 (by decide) (by decide)
    have e33 := hne 33 (by decide) (by decide)
    have e34 := hne 34 (by decide) (by decide)
    have e10 := hne 10 (by decide) (by decide)
    have e11 := hne 11 (by decide) (by decide)
    have e12 := hne 12 (by decide) (by decide)
    have e14 := hne 14 (by decide) (by decide)
    have e23 := hne 23 (by decide) (by decide)
    have e26 := hne 26 (by decide) (by decide)
    have e30 := hne 30 (by decide) (by decide)
    have e15 := hne 15 (by decide) (by decide)
    have e16 := hne 16 (by decide) (by decide)
    have e17 := hne 17 (by decide) (by decide)
    have e24 := hne 24 (by decide) (by decide)
    have e28 := hne 28 (by decide) (by decide)
    go_enter Tryd.func48, Tryd.ntmps48
    go_wp2_with fail
    go_ret2
    exact ⟨by rw [H.out]; rfl, AL.out⟩

end Go.Proofs.YtmihckhflbepjaaDoor

namespace Go.Proofs.YtmihckhflbepjaaDoor
open Go.RowKit


def fieldsB (k o n : Int) (s : ByteArray) (ns : List ByteArray) : Bool := opOk k o && (numOk k n && (strOk k s && nsOk k ns))
theorem empty_size (s : ByteArray) : s.toList.isEmpty = decide (s.size = 0) := by
  rw [Lib.toList_data]
  have e : s.size = s.data.toList.length := by simp
  rw [e]
  cases s.data.toList <;> simp
theorem sign_none (o : Int) : (signT o = []) ↔ ¬(1 ≤ o ∧ o ≤ 11) := by
  by_cases h : 0 ≤ o ∧ o ≤ 11
  · obtain rfl | rfl | rfl | rfl | rfl | rfl | rfl | rfl | rfl | rfl | rfl | rfl : o = 0 ∨ o = 1 ∨ o = 2 ∨ o = 3 ∨ o = 4 ∨ o = 5 ∨ o = 6 ∨ o = 7 ∨ o = 8 ∨ o = 9 ∨ o = 10 ∨ o = 11 := by omega
    all_goals decide
  · refine ⟨fun _ => by omega, fun _ => ?_⟩
    unfold signT
    by_cases h0 : o < 0
    · rw [if_pos h0]
    · rw [if_neg h0, List.getD_eq_getElem?_getD, List.getElem?_eq_none (by simp [tsgnL]; omega)]; rfl

theorem all_false {α : Type} {P : α → Bool} {l : List α} {j : Nat} (hj : j < l.length) (h : P l[j] = false) : l.all P = false := by
  rw [List.all_eq_false]; exact ⟨_, List.getElem_mem hj, by simp [h]⟩
theorem all_true {α : Type} {P : α → Bool} {l : List α} (h : ∀ (q : Nat) (hq : q < l.length), P l[q] = true) : l.all P = true := by
  rw [List.all_eq_true]
  intro x hx
  obtain ⟨q, hq, rfl⟩ := List.getElem_of_mem hx
  exact h q hq

end Go.Proofs.YtmihckhflbepjaaDoor
