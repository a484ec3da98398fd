/- Signs, built-in calls, names and counts of kids, as the document tells them. Whether a node's own fields are those of its kind, as the document asks it (what it says). Whether a node's own fields are those of its kind, as the document asks it (9, 17, 2). Whether a node's own fields are those of its kind, as the document asks it (3, 4, 5, 21). Whether a node's own fields are those of its kind, as the document asks it (22, 13, 16, 23, 25). Whether a node's own fields are those of its kind, as the document asks it (7, 8, 10, k). -/
import Derived.Test.YtenpldenhgpneaaDoorTreeSign
import Derived.Test.YtenpldenhgpneaaDoorJoint3
import Derived.BigQuiet
namespace Go.Proofs.YtenpldenhgpneaaDoor
open Go.RowKit

set_option maxHeartbeats 3200000 in
theorem rsign_calls (o : Int) (w : World) :
    Calls Tryd.prog 68 #[.int .i64 o] w fun e w' => e = .returned (.string ⟨(signT o).toArray⟩) ∧ Below w.heap.size w w' := by
  by_cases h : 1 ≤ o ∧ o ≤ 11
  · obtain rfl | rfl | rfl | rfl | rfl | rfl | rfl | rfl | rfl | rfl | rfl : o = 1 ∨ o = 2 ∨ o = 3 ∨ o = 4 ∨ o = 5 ∨ o = 6 ∨ o = 7 ∨ o = 8 ∨ o = 9 ∨ o = 10 ∨ o = 11 := by omega
    all_goals
      clear h
      go_enter Tryd.func68, Tryd.ntmps68
      go_wp2_with fail
      go_ret
      exact ⟨rfl, (Below.refl _ _).alloc (Nat.le_refl _) _⟩
  · have H := hid (show signT o = [] by
      unfold signT
      by_cases h0 : o < 0
      · rw [if_pos h0]
      · rw [if_neg h0]
        by_cases h1 : o = 0
        · subst h1; rfl
        · rw [List.getD_eq_getElem?_getD, List.getElem?_eq_none (by simp [tsgnL]; omega)]; rfl)
    by_cases h1 : o < 1
    · clear h
      go_enter Tryd.func68, Tryd.ntmps68
      go_wp2_with fail
      go_ret
      exact ⟨by rw [H.out]; rfl, (Below.refl _ _).alloc (Nat.le_refl _) _⟩
    · have d1 : decide (o < 1) = false := decide_eq_false h1
      have h2 : 11 < o := by omega
      clear h h1
      go_enter Tryd.func68, Tryd.ntmps68
      go_wp2_with fail
      go_ret
      exact ⟨by rw [H.out]; rfl, (Below.refl _ _).alloc (Nat.le_refl _) _⟩

set_option maxHeartbeats 3200000 in
theorem rbuilt_calls (o : Int) (w : World) :
    Calls Tryd.prog 67 #[.int .i64 o] w fun e w' => e = .returned (.tuple #[.string ⟨(builtT o).1.toArray⟩, .int .i64 (builtT o).2]) ∧ Below w.heap.size w w' := by
  by_cases h : 1 ≤ o ∧ o ≤ 7
  · obtain rfl | rfl | rfl | rfl | rfl | rfl | rfl : o = 1 ∨ o = 2 ∨ o = 3 ∨ o = 4 ∨ o = 5 ∨ o = 6 ∨ o = 7 := by omega
    all_goals
      clear h
      go_enter Tryd.func67, Tryd.ntmps67
      go_wp2_with fail
      go_ret2
      exact ⟨rfl, (Below.refl _ _).alloc (Nat.le_refl _) _⟩
  · have H := hid (show builtT o = ([], 0) by
      unfold builtT
      by_cases h0 : o < 0
      · rw [if_pos h0]
      · rw [if_neg h0]
        by_cases h1 : o = 0
        · subst h1; rfl
        · rw [List.getD_eq_getElem?_getD, List.getElem?_eq_none (by simp [builtL]; omega)]; rfl)
    by_cases h1 : o < 1
    · clear h
      go_enter Tryd.func67, Tryd.ntmps67
      go_wp2_with fail
      go_ret2
      exact ⟨by rw [H.out]; rfl, (Below.refl _ _).alloc (Nat.le_refl _) _⟩
    · have d1 : decide (o < 1) = false := decide_eq_false h1
      have h2 : 7 < o := by omega
      clear h h1
      go_enter Tryd.func67, Tryd.ntmps67
      go_wp2_with fail
      go_ret2
      exact ⟨by rw [H.out]; rfl, (Below.refl _ _).alloc (Nat.le_refl _) _⟩

theorem rname_calls (s : ByteArray) (w : World) :
    Calls Tryd.prog 70 #[.string s] w fun e w' => e = .returned (.bool (properB s)) ∧ Below w.heap.size w w' := by
  have H := hid (show properB s = (nameB s.data.toList && !keyB s.data.toList) from rfl)
  go_enter Tryd.func70, Tryd.ntmps70
  go_wp2_with fail
  refine (refisname_calls s _).mono ?_
  rintro e w1 ⟨rfl, rfl⟩
  generalize nameB s.data.toList = nb at *
  cases nb
  · go_wp2_with fail
    go_ret
    exact ⟨by rw [H.out]; rfl, Below.refl _ _⟩
  · go_wp2_with fail
    refine (refiskey_calls s _).mono ?_
    rintro e w1 ⟨rfl, b1⟩
    go_wp2_with fail
    go_ret
    exact ⟨by rw [H.out]; rfl, b1⟩

theorem below_drewN {B : Nat} {a w : World} {n : Nat} (h : Below B a w) : Below B a (w.drewN n) := ⟨h.os, h.tape, h.output, h.size, h.block⟩

/-- how many kids a kind has, at least and at most -/
def manyT (k o : Int) (m : Nat) : Int × Int :=
  if 1 ≤ k ∧ k ≤ 6 then (0, 0) else if k = 7 then (m, m) else if k = 8 ∨ k = 29 then (0, 40)
  else if k = 9 ∨ k = 13 ∨ k = 21 ∨ k = 22 ∨ k = 25 ∨ k = 27 ∨ k = 31 ∨ k = 32 then (1, 1)
  else if k = 10 ∨ k = 11 ∨ k = 12 ∨ k = 14 ∨ k = 23 ∨ k = 26 ∨ k = 30 then (2, 2)
  else if k = 15 ∨ k = 16 then (1, 7) else if k = 17 then ((builtT o).2, (builtT o).2) else if k = 24 ∨ k = 28 then (3, 3) else (-1, -1)

set_option maxHeartbeats 3200000 in
theorem many_calls (k o n : Int) (s : ByteArray) (a1 : Option Addr) (c1 q1 : Nat) (a2 : Option Addr) (c2 q2 : Nat) (p : Int) (w : World) :
    Calls Tryd.prog 52 #[.agg #[.int .i64 k, .int .i64 o, .int .i64 n, .string s, .slice a1 c1 q1, .slice a2 c2 q2, .int .i64 p]] w fun e w' =>
      e = .returned (.tuple #[.int .i64 (manyT k o c1).1, .int .i64 (manyT k o c1).2]) ∧ Below w.heap.size w w' := by
  have AL := hid (box1_below w (.cells #[.int .i64 k, .int .i64 o, .int .i64 n, .string s, .slice a1 c1 q1, .slice a2 c2 q2, .int .i64 p] 25))
  by_cases hk : 1 ≤ k ∧ k ≤ 32
  · rcases (show k = 1 ∨ k = 2 ∨ k = 3 ∨ k = 4 ∨ k = 5 ∨ k = 6 ∨ k = 7 ∨ k = 8 ∨ k = 9 ∨ k = 10 ∨ k = 11 ∨ k = 12 ∨ k = 13 ∨ k = 14 ∨ k = 15 ∨ k = 16 ∨ k = 17 ∨ k = 18 ∨ k = 19 ∨ k = 20 ∨ k = 21 ∨ k = 22 ∨ k = 23 ∨ k = 24 ∨ k = 25 ∨ k = 26 ∨ k = 27 ∨ k = 28 ∨ k = 29 ∨ k = 30 ∨ k = 31 ∨ k = 32 from by omega) with
      rfl | rfl | rfl | rfl | rfl | rfl | rfl | rfl | rfl | rfl | rfl | rfl | rfl | rfl | rfl | rfl | rfl | rfl | rfl | rfl | rfl | rfl | rfl | rfl | rfl | rfl | rfl | rfl | rfl | rfl | rfl | rfl
    case inr.inr.inr.inr.inr.inr.inl =>
      clear hk
      go_enter Tryd.func52, Tryd.ntmps52
      go_wp2_with fail
      go_quiet (fail)
      go_wp2_with fail
      go_ret2
      exact ⟨rfl, below_drewN AL.out⟩
    case inr.inr.inr.inr.inr.inr.inr.inr.inr.inr.inr.inr.inr.inr.inr.inr.inl =>
      clear hk
      have H := hid (show manyT 17 o c1 = (((builtT o).2 : Int), ((builtT o).2 : Int)) from rfl)
      go_enter Tryd.func52, Tryd.ntmps52
      go_wp2_with fail
      refine (rbuilt_calls o _).mono ?_
      rintro e w1 ⟨rfl, b1⟩
      have B1 := hid (below_in AL.out (by simp) b1)
      clear b1
      go_wp2_with fail
      go_ret2
      exact ⟨by rw [H.out]; rfl, B1.out⟩
    all_goals
      clear hk
      go_enter Tryd.func52, Tryd.ntmps52
      go_wp2_with fail
      go_ret2
      exact ⟨rfl, AL.out⟩
  · have H := hid (show manyT k o c1 = (-1, -1) by unfold manyT; rw [if_neg (by omega), if_neg (by omega), if_neg (by omega), if_neg (by omega), if_neg (by omega), if_neg (by omega), if_neg (by omega), if_neg (by omega)])
    have hne : ∀ j : Int, 1 ≤ j → j ≤ 32 → (k == j) = false := fun j h1 h2 => beq_eq_false_iff_ne.2 (by omega)
    have e1 := hne 1 (by decide) (by decide)
    have e2 := hne 2 (by decide) (by decide)
    have e3 := hne 3 (by decide) (by decide)
    have e4 := hne 4 (by decide) (by decide)
    have e5 := hne 5 (by decide) (by decide)
    have e6 := hne 6 (by decide) (by decide)
    have e7 := hne 7 (by decide) (by decide)
    have e8 := hne 8 (by decide) (by decide)
    have e9 := hne 9 (by decide) (by decide)
    have e10 := hne 10 (by decide) (by decide)
    have e11 := hne 11 (by decide) (by decide)
    have e12 := hne 12 (by decide) (by decide)
    have e13 := hne 13 (by decide) (by decide)
    have e14 := hne 14 (by decide) (by decide)
    have e15 := hne 15 (by decide) (by decide)
    have e16 := hne 16 (by decide) (by decide)
    have e17 := hne 17 (by decide) (by decide)
    have e21 := hne 21 (by decide) (by decide)
    have e22 := hne 22 (by decide) (by decide)
    have e23 := hne 23 (by decide) (by decide)
    have e24 := hne 24 (by decide) (by decide)
    have e25 := hne 25 (by decide) (by decide)
    have e26 := hne 26 (by decide) (by decide)
    have e27 := hne 27 (by decide) (by decide)
    have e28 := hne 28 (by decide) (by decide)
    have e29 := hne 29 (by decide) (by decide)
    have e30 := hne 30 (by decide) (by decide)
    have e31 := hne 31 (by decide) (by decide)
    have e32 := hne 32 (by decide) (by decide)
    clear hne hk
    go_enter Tryd.func52, Tryd.ntmps52
    go_wp2_with fail
    go_ret2
    exact ⟨by rw [H.out]; rfl, AL.out⟩

end Go.Proofs.YtenpldenhgpneaaDoor

namespace Go.Proofs.YtenpldenhgpneaaDoor
open Go.RowKit


def fieldsB (k o n : Int) (s : ByteArray) (ns : List ByteArray) : Bool := opOk k o && (numOk k n && (strOk k s && nsOk k ns))
theorem empty_size (s : ByteArray) : s.toList.isEmpty = decide (s.size = 0) := by
  rw [Lib.toList_data]
  have e : s.size = s.data.toList.length := by simp
  rw [e]
  cases s.data.toList <;> simp
theorem sign_none (o : Int) : (signT o = []) ↔ ¬(1 ≤ o ∧ o ≤ 11) := by
  by_cases h : 0 ≤ o ∧ o ≤ 11
  · obtain rfl | rfl | rfl | rfl | rfl | rfl | rfl | rfl | rfl | rfl | rfl | rfl : o = 0 ∨ o = 1 ∨ o = 2 ∨ o = 3 ∨ o = 4 ∨ o = 5 ∨ o = 6 ∨ o = 7 ∨ o = 8 ∨ o = 9 ∨ o = 10 ∨ o = 11 := by omega
    all_goals decide
  · refine ⟨fun _ => by omega, fun _ => ?_⟩
    unfold signT
    by_cases h0 : o < 0
    · rw [if_pos h0]
    · rw [if_neg h0, List.getD_eq_getElem?_getD, List.getElem?_eq_none (by simp [tsgnL]; omega)]; rfl

theorem all_false {α : Type} {P : α → Bool} {l : List α} {j : Nat} (hj : j < l.length) (h : P l[j] = false) : l.all P = false := by
  rw [List.all_eq_false]; exact ⟨_, List.getElem_mem hj, by simp [h]⟩
theorem all_true {α : Type} {P : α → Bool} {l : List α} (h : ∀ (q : Nat) (hq : q < l.length), P l[q] = true) : l.all P = true := by
  rw [List.all_eq_true]
  intro x hx
  obtain ⟨q, hq, rfl⟩ := List.getElem_of_mem hx
  exact h q hq

end Go.Proofs.YtenpldenhgpneaaDoor

namespace Go.Proofs.YtenpldenhgpneaaDoor
open Go.RowKit


set_option maxHeartbeats 6400000 in
set_option maxRecDepth 100000 in
theorem fields_9 (o n : Int) (s : ByteArray) (ns : List ByteArray) (a1 : Option Addr) (q1 : Nat) (a2 : Option Addr) (c2 q2 : Nat) (p : Int) (B : Nat) (w : World) (_hB : B ≤ w.heap.size) (_hS : Hid (StrsIn B (.slice a1 ns.length q1) ns w)) (hns : ns.length ≤ 1000000) :
    Calls Tryd.prog 53 #[.agg #[.int .i64 9, .int .i64 o, .int .i64 n, .string s, .slice a1 ns.length q1, .slice a2 c2 q2, .int .i64 p]] w fun e w' =>
      e = .returned (.bool (fieldsB 9 o n s ns)) ∧ Below w.heap.size w w' := by
  have AL := hid (box1_below w (.cells #[.int .i64 9, .int .i64 o, .int .i64 n, .string s, .slice a1 ns.length q1, .slice a2 c2 q2, .int .i64 p] 25))
  have X := hid (box_new w 9 o n s (.slice a1 ns.length q1) (.slice a2 c2 q2) p)
  have HE := hid (empty_size s)
  by_cases ho1 : o < 1
  · have H := hid (show fieldsB 9 o n s ns = false by have he := HE.out; simp only [fieldsB, opOk, numOk, strOk, nsOk, properB, propB]; grind [sign_none])
    clear HE
    go_enter Tryd.func53, Tryd.ntmps53
    go_wp2_with fail
    go_ret
    exact ⟨by rw [H.out]; rfl, AL.out⟩
  have do1 : decide (o < 1) = false := decide_eq_false ho1
  by_cases ho2 : 2 < o
  · have H := hid (show fieldsB 9 o n s ns = false by have he := HE.out; simp only [fieldsB, opOk, numOk, strOk, nsOk, properB, propB]; grind [sign_none])
    clear HE
    go_enter Tryd.func53, Tryd.ntmps53
    go_wp2_with fail
    go_ret
    exact ⟨by rw [H.out]; rfl, AL.out⟩
  have do2 : decide (2 < o) = false := decide_eq_false ho2
  by_cases hn : n = 0
  case neg =>
    have en : (n != 0) = true := bne_iff_ne.2 hn
    have H := hid (show fieldsB 9 o n s ns = false by have he := HE.out; simp only [fieldsB, opOk, numOk, strOk, nsOk, properB, propB]; grind)
    clear HE
    go_enter Tryd.func53, Tryd.ntmps53
    go_wp2_with fail
    go_ret
    exact ⟨by rw [H.out]; rfl, AL.out⟩
  case pos =>
  subst hn
  by_cases hse : s.size = 0
  case neg =>
    have es : s.toList.isEmpty = false := by rw [HE.out]; exact decide_eq_false hse
    have H := hid (show fieldsB 9 o 0 s ns = false by have he := HE.out; simp only [fieldsB, opOk, numOk, strOk, nsOk, properB, propB]; grind)
    clear HE
    go_enter Tryd.func53, Tryd.ntmps53
    go_wp2_with fail
    go_ret
    exact ⟨by rw [H.out]; rfl, AL.out⟩
  case pos =>
  have es : s.toList.isEmpty = true := by rw [HE.out]; exact decide_eq_true hse
  by_cases hl : ns.length = 0
  case neg =>
    have dl : decide ((0 : Int) < (ns.length : Int)) = true := decide_eq_true (by omega)
    have H := hid (show fieldsB 9 o 0 s ns = false by have he := HE.out; simp only [fieldsB, opOk, numOk, strOk, nsOk, properB, propB]; grind)
    clear HE
    go_enter Tryd.func53, Tryd.ntmps53
    go_wp2_with fail
    go_ret
    exact ⟨by rw [H.out]; rfl, AL.out⟩
  case pos =>
  have H := hid (show fieldsB 9 o 0 s ns = true by have he := HE.out; simp only [fieldsB, opOk, numOk, strOk, nsOk, properB, propB]; grind)
  clear HE
  go_enter Tryd.func53, Tryd.ntmps53
  go_wp2_with fail
  go_loop [5] (fun i => i = .int .i64 0) (fun _ => 0)
  case atStart => rfl
  case round =>
    obtain rfl := hrel
    go_wp2_with fail
    go_ret
    exact ⟨by rw [H.out]; rfl, (by first | exact AL.out | (have hz := AL.out; simpa only [hl] using hz))⟩

set_option maxHeartbeats 6400000 in
set_option maxRecDepth 100000 in
theorem fields_17 (o n : Int) (s : ByteArray) (ns : List ByteArray) (a1 : Option Addr) (q1 : Nat) (a2 : Option Addr) (c2 q2 : Nat) (p : Int) (B : Nat) (w : World) (_hB : B ≤ w.heap.size) (_hS : Hid (StrsIn B (.slice a1 ns.length q1) ns w)) (hns : ns.length ≤ 1000000) :
    Calls Tryd.prog 53 #[.agg #[.int .i64 17, .int .i64 o, .int .i64 n, .string s, .slice a1 ns.length q1, .slice a2 c2 q2, .int .i64 p]] w fun e w' =>
      e = .returned (.bool (fieldsB 17 o n s ns)) ∧ Below w.heap.size w w' := by
  have AL := hid (box1_below w (.cells #[.int .i64 17, .int .i64 o, .int .i64 n, .string s, .slice a1 ns.length q1, .slice a2 c2 q2, .int .i64 p] 25))
  have X := hid (box_new w 17 o n s (.slice a1 ns.length q1) (.slice a2 c2 q2) p)
  have HE := hid (empty_size s)
  by_cases ho1 : o < 1
  · have H := hid (show fieldsB 17 o n s ns = false by have he := HE.out; simp only [fieldsB, opOk, numOk, strOk, nsOk, properB, propB]; grind [sign_none])
    clear HE
    go_enter Tryd.func53, Tryd.ntmps53
    go_wp2_with fail
    go_ret
    exact ⟨by rw [H.out]; rfl, AL.out⟩
  have do1 : decide (o < 1) = false := decide_eq_false ho1
  by_cases ho2 : 7 < o
  · have H := hid (show fieldsB 17 o n s ns = false by have he := HE.out; simp only [fieldsB, opOk, numOk, strOk, nsOk, properB, propB]; grind [sign_none])
    clear HE
    go_enter Tryd.func53, Tryd.ntmps53
    go_wp2_with fail
    go_ret
    exact ⟨by rw [H.out]; rfl, AL.out⟩
  have do2 : decide (7 < o) = false := decide_eq_false ho2
  by_cases hn : n = 0
  case neg =>
    have en : (n != 0) = true := bne_iff_ne.2 hn
    have H := hid (show fieldsB 17 o n s ns = false by have he := HE.out; simp only [fieldsB, opOk, numOk, strOk, nsOk, properB, propB]; grind)
    clear HE
    go_enter Tryd.func53, Tryd.ntmps53
    go_wp2_with fail
    go_ret
    exact ⟨by rw [H.out]; rfl, AL.out⟩
  case pos =>
  subst hn
  by_cases hse : s.size = 0
  case neg =>
    have es : s.toList.isEmpty = false := by rw [HE.out]; exact decide_eq_false hse
    have H := hid (show fieldsB 17 o 0 s ns = false by have he := HE.out; simp only [fieldsB, opOk, numOk, strOk, nsOk, properB, propB]; grind)
    clear HE
    go_enter Tryd.func53, Tryd.ntmps53
    go_wp2_with fail
    go_ret
    exact ⟨by rw [H.out]; rfl, AL.out⟩
  case pos =>
  have es : s.toList.isEmpty = true := by rw [HE.out]; exact decide_eq_true hse
  by_cases hl : ns.length = 0
  case neg =>
    have dl : decide ((0 : Int) < (ns.length : Int)) = true := decide_eq_true (by omega)
    have H := hid (show fieldsB 17 o 0 s ns = false by have he := HE.out; simp only [fieldsB, opOk, numOk, strOk, nsOk, properB, propB]; grind)
    clear HE
    go_enter Tryd.func53, Tryd.ntmps53
    go_wp2_with fail
    go_ret
    exact ⟨by rw [H.out]; rfl, AL.out⟩
  case pos =>
  have H := hid (show fieldsB 17 o 0 s ns = true by have he := HE.out; simp only [fieldsB, opOk, numOk, strOk, nsOk, properB, propB]; grind)
  clear HE
  go_enter Tryd.func53, Tryd.ntmps53
  go_wp2_with fail
  go_loop [5] (fun i => i = .int .i64 0) (fun _ => 0)
  case atStart => rfl
  case round =>
    obtain rfl := hrel
    go_wp2_with fail
    go_ret
    exact ⟨by rw [H.out]; rfl, (by first | exact AL.out | (have hz := AL.out; simpa only [hl] using hz))⟩

set_option maxHeartbeats 6400000 in
set_option maxRecDepth 100000 in
theorem fields_2 (o n : Int) (s : ByteArray) (ns : List ByteArray) (a1 : Option Addr) (q1 : Nat) (a2 : Option Addr) (c2 q2 : Nat) (p : Int) (B : Nat) (w : World) (_hB : B ≤ w.heap.size) (_hS : Hid (StrsIn B (.slice a1 ns.length q1) ns w)) (hns : ns.length ≤ 1000000) :
    Calls Tryd.prog 53 #[.agg #[.int .i64 2, .int .i64 o, .int .i64 n, .string s, .slice a1 ns.length q1, .slice a2 c2 q2, .int .i64 p]] w fun e w' =>
      e = .returned (.bool (fieldsB 2 o n s ns)) ∧ Below w.heap.size w w' := by
  have AL := hid (box1_below w (.cells #[.int .i64 2, .int .i64 o, .int .i64 n, .string s, .slice a1 ns.length q1, .slice a2 c2 q2, .int .i64 p] 25))
  have X := hid (box_new w 2 o n s (.slice a1 ns.length q1) (.slice a2 c2 q2) p)
  have HE := hid (empty_size s)
  by_cases ho : o = 0
  case neg =>
    have eo : (o != 0) = true := bne_iff_ne.2 ho
    have H := hid (show fieldsB 2 o n s ns = false by have he := HE.out; simp only [fieldsB, opOk, numOk, strOk, nsOk, properB, propB]; grind [sign_none])
    clear HE
    go_enter Tryd.func53, Tryd.ntmps53
    go_wp2_with fail
    go_ret
    exact ⟨by rw [H.out]; rfl, AL.out⟩
  case pos =>
  subst ho
  by_cases hn0 : n ≠ 0 ∧ n ≠ 1
  · obtain ⟨hn1, hn2⟩ := hn0
    have en1 : (n != 0) = true := bne_iff_ne.2 hn1
    have en2 : (n != 1) = true := bne_iff_ne.2 hn2
    have H := hid (show fieldsB 2 0 n s ns = false by have he := HE.out; simp only [fieldsB, opOk, numOk, strOk, nsOk, properB, propB]; grind)
    clear HE
    go_enter Tryd.func53, Tryd.ntmps53
    go_wp2_with fail
    go_ret
    exact ⟨by rw [H.out]; rfl, AL.out⟩
  rcases (show n = 0 ∨ n = 1 from by omega) with rfl | rfl
  · clear hn0
    by_cases hse : s.size = 0
    case neg =>
      have es : s.toList.isEmpty = false := by rw [HE.out]; exact decide_eq_false hse
      have H := hid (show fieldsB 2 0 0 s ns = false by have he := HE.out; simp only [fieldsB, opOk, numOk, strOk, nsOk, properB, propB]; grind)
      clear HE
      go_enter Tryd.func53, Tryd.ntmps53
      go_wp2_with fail
      go_ret
      exact ⟨by rw [H.out]; rfl, AL.out⟩
    case pos =>
    have es : s.toList.isEmpty = true := by rw [HE.out]; exact decide_eq_true hse
    by_cases hl : ns.length = 0
    case neg =>
      have dl : decide ((0 : Int) < (ns.length : Int)) = true := decide_eq_true (by omega)
      have H := hid (show fieldsB 2 0 0 s ns = false by have he := HE.out; simp only [fieldsB, opOk, numOk, strOk, nsOk, properB, propB]; grind)
      clear HE
      go_enter Tryd.func53, Tryd.ntmps53
      go_wp2_with fail
      go_ret
      exact ⟨by rw [H.out]; rfl, AL.out⟩
    case pos =>
    have H := hid (show fieldsB 2 0 0 s ns = true by have he := HE.out; simp only [fieldsB, opOk, numOk, strOk, nsOk, properB, propB]; grind)
    clear HE
    go_enter Tryd.func53, Tryd.ntmps53
    go_wp2_with fail
    go_loop [5] (fun i => i = .int .i64 0) (fun _ => 0)
    case atStart => rfl
    case round =>
      obtain rfl := hrel
      go_wp2_with fail
      go_ret
      exact ⟨by rw [H.out]; rfl, (by first | exact AL.out | (have hz := AL.out; simpa only [hl] using hz))⟩
  · clear hn0
    by_cases hse : s.size = 0
    case neg =>
      have es : s.toList.isEmpty = false := by rw [HE.out]; exact decide_eq_false hse
      have H := hid (show fieldsB 2 0 1 s ns = false by have he := HE.out; simp only [fieldsB, opOk, numOk, strOk, nsOk, properB, propB]; grind)
      clear HE
      go_enter Tryd.func53, Tryd.ntmps53
      go_wp2_with fail
      go_ret
      exact ⟨by rw [H.out]; rfl, AL.out⟩
    case pos =>
    have es : s.toList.isEmpty = true := by rw [HE.out]; exact decide_eq_true hse
    by_cases hl : ns.length = 0
    case neg =>
      have dl : decide ((0 : Int) < (ns.length : Int)) = true := decide_eq_true (by omega)
      have H := hid (show fieldsB 2 0 1 s ns = false by have he := HE.out; simp only [fieldsB, opOk, numOk, strOk, nsOk, properB, propB]; grind)
      clear HE
      go_enter Tryd.func53, Tryd.ntmps53
      go_wp2_with fail
      go_ret
      exact ⟨by rw [H.out]; rfl, AL.out⟩
    case pos =>
    have H := hid (show fieldsB 2 0 1 s ns = true by have he := HE.out; simp only [fieldsB, opOk, numOk, strOk, nsOk, properB, propB]; grind)
    clear HE
    go_enter Tryd.func53, Tryd.ntmps53
    go_wp2_with fail
    go_loop [5] (fun i => i = .int .i64 0) (fun _ => 0)
    case atStart => rfl
    case round =>
      obtain rfl := hrel
      go_wp2_with fail
      go_ret
      exact ⟨by rw [H.out]; rfl, (by first | exact AL.out | (have hz := AL.out; simpa only [hl] using hz))⟩

end Go.Proofs.YtenpldenhgpneaaDoor

namespace Go.Proofs.YtenpldenhgpneaaDoor
open Go.RowKit


set_option maxHeartbeats 6400000 in
set_option maxRecDepth 100000 in
theorem fields_3 (o n : Int) (s : ByteArray) (ns : List ByteArray) (a1 : Option Addr) (q1 : Nat) (a2 : Option Addr) (c2 q2 : Nat) (p : Int) (B : Nat) (w : World) (_hB : B ≤ w.heap.size) (_hS : Hid (StrsIn B (.slice a1 ns.length q1) ns w)) (hns : ns.length ≤ 1000000) :
    Calls Tryd.prog 53 #[.agg #[.int .i64 3, .int .i64 o, .int .i64 n, .string s, .slice a1 ns.length q1, .slice a2 c2 q2, .int .i64 p]] w fun e w' =>
      e = .returned (.bool (fieldsB 3 o n s ns)) ∧ Below w.heap.size w w' := by
  have AL := hid (box1_below w (.cells #[.int .i64 3, .int .i64 o, .int .i64 n, .string s, .slice a1 ns.length q1, .slice a2 c2 q2, .int .i64 p] 25))
  have X := hid (box_new w 3 o n s (.slice a1 ns.length q1) (.slice a2 c2 q2) p)
  have HE := hid (empty_size s)
  by_cases ho : o = 0
  case neg =>
    have eo : (o != 0) = true := bne_iff_ne.2 ho
    have H := hid (show fieldsB 3 o n s ns = false by have he := HE.out; simp only [fieldsB, opOk, numOk, strOk, nsOk, properB, propB]; grind [sign_none])
    clear HE
    go_enter Tryd.func53, Tryd.ntmps53
    go_wp2_with fail
    go_ret
    exact ⟨by rw [H.out]; rfl, AL.out⟩
  case pos =>
  subst ho
  by_cases hn1 : n < 0
  · have H := hid (show fieldsB 3 0 n s ns = false by have he := HE.out; simp only [fieldsB, opOk, numOk, strOk, nsOk, properB, propB]; grind)
    clear HE
    go_enter Tryd.func53, Tryd.ntmps53
    go_wp2_with fail
    go_ret
    exact ⟨by rw [H.out]; rfl, AL.out⟩
  have dn1 : decide (n < 0) = false := decide_eq_false hn1
  by_cases hn2 : 4611686018427387903 < n
  · have H := hid (show fieldsB 3 0 n s ns = false by have he := HE.out; simp only [fieldsB, opOk, numOk, strOk, nsOk, properB, propB]; grind)
    clear HE
    go_enter Tryd.func53, Tryd.ntmps53
    go_wp2_with fail
    go_ret
    exact ⟨by rw [H.out]; rfl, AL.out⟩
  have dn2 : decide (4611686018427387903 < n) = false := decide_eq_false hn2
  by_cases hse : s.size = 0
  case neg =>
    have es : s.toList.isEmpty = false := by rw [HE.out]; exact decide_eq_false hse
    have H := hid (show fieldsB 3 0 n s ns = false by have he := HE.out; simp only [fieldsB, opOk, numOk, strOk, nsOk, properB, propB]; grind)
    clear HE
    go_enter Tryd.func53, Tryd.ntmps53
    go_wp2_with fail
    go_ret
    exact ⟨by rw [H.out]; rfl, AL.out⟩
  case pos =>
  have es : s.toList.isEmpty = true := by rw [HE.out]; exact decide_eq_true hse
  by_cases hl : ns.length = 0
  case neg =>
    have dl : decide ((0 : Int) < (ns.length : Int)) = true := decide_eq_true (by omega)
    have H := hid (show fieldsB 3 0 n s ns = false by have he := HE.out; simp only [fieldsB, opOk, numOk, strOk, nsOk, properB, propB]; grind)
    clear HE
    go_enter Tryd.func53, Tryd.ntmps53
    go_wp2_with fail
    go_ret
    exact ⟨by rw [H.out]; rfl, AL.out⟩
  case pos =>
  have H := hid (show fieldsB 3 0 n s ns = true by have he := HE.out; simp only [fieldsB, opOk, numOk, strOk, nsOk, properB, propB]; grind)
  clear HE
  go_enter Tryd.func53, Tryd.ntmps53
  go_wp2_with fail
  go_loop [5] (fun i => i = .int .i64 0) (fun _ => 0)
  case atStart => rfl
  case round =>
    obtain rfl := hrel
    go_wp2_with fail
    go_ret
    exact ⟨by rw [H.out]; rfl, (by first | exact AL.out | (have hz := AL.out; simpa only [hl] using hz))⟩

set_option maxHeartbeats 6400000 in
set_option maxRecDepth 100000 in
theorem fields_4 (o n : Int) (s : ByteArray) (ns : List ByteArray) (a1 : Option Addr) (q1 : Nat) (a2 : Option Addr) (c2 q2 : Nat) (p : Int) (B : Nat) (w : World) (_hB : B ≤ w.heap.size) (_hS : Hid (StrsIn B (.slice a1 ns.length q1) ns w)) (hns : ns.length ≤ 1000000) :
    Calls Tryd.prog 53 #[.agg #[.int .i64 4, .int .i64 o, .int .i64 n, .string s, .slice a1 ns.length q1, .slice a2 c2 q2, .int .i64 p]] w fun e w' =>
      e = .returned (.bool (fieldsB 4 o n s ns)) ∧ Below w.heap.size w w' := by
  have AL := hid (box1_below w (.cells #[.int .i64 4, .int .i64 o, .int .i64 n, .string s, .slice a1 ns.length q1, .slice a2 c2 q2, .int .i64 p] 25))
  have X := hid (box_new w 4 o n s (.slice a1 ns.length q1) (.slice a2 c2 q2) p)
  have HE := hid (empty_size s)
  by_cases ho : o = 0
  case neg =>
    have eo : (o != 0) = true := bne_iff_ne.2 ho
    have H := hid (show fieldsB 4 o n s ns = false by have he := HE.out; simp only [fieldsB, opOk, numOk, strOk, nsOk, properB, propB]; grind [sign_none])
    clear HE
    go_enter Tryd.func53, Tryd.ntmps53
    go_wp2_with fail
    go_ret
    exact ⟨by rw [H.out]; rfl, AL.out⟩
  case pos =>
  subst ho
  by_cases hn : n = 0
  case neg =>
    have en : (n != 0) = true := bne_iff_ne.2 hn
    have H := hid (show fieldsB 4 0 n s ns = false by have he := HE.out; simp only [fieldsB, opOk, numOk, strOk, nsOk, properB, propB]; grind)
    clear HE
    go_enter Tryd.func53, Tryd.ntmps53
    go_wp2_with fail
    go_ret
    exact ⟨by rw [H.out]; rfl, AL.out⟩
  case pos =>
  subst hn
  by_cases hs4 : 256 < s.size
  · have H := hid (show fieldsB 4 0 0 s ns = false by have he := HE.out; simp only [fieldsB, opOk, numOk, strOk, nsOk, properB, propB]; grind)
    clear HE
    go_enter Tryd.func53, Tryd.ntmps53
    go_wp2_with fail
    go_ret
    exact ⟨by rw [H.out]; rfl, AL.out⟩
  have ds4 : decide ((256 : Int) < (s.size : Int)) = false := decide_eq_false (by omega)
  by_cases hl : ns.length = 0
  case neg =>
    have dl : decide ((0 : Int) < (ns.length : Int)) = true := decide_eq_true (by omega)
    have H := hid (show fieldsB 4 0 0 s ns = false by have he := HE.out; simp only [fieldsB, opOk, numOk, strOk, nsOk, properB, propB]; grind)
    clear HE
    go_enter Tryd.func53, Tryd.ntmps53
    go_wp2_with fail
    go_ret
    exact ⟨by rw [H.out]; rfl, AL.out⟩
  case pos =>
  have H := hid (show fieldsB 4 0 0 s ns = true by have he := HE.out; simp only [fieldsB, opOk, numOk, strOk, nsOk, properB, propB]; grind)
  clear HE
  go_enter Tryd.func53, Tryd.ntmps53
  go_wp2_with fail
  go_loop [5] (fun i => i = .int .i64 0) (fun _ => 0)
  case atStart => rfl
  case round =>
    obtain rfl := hrel
    go_wp2_with fail
    go_ret
    exact ⟨by rw [H.out]; rfl, (by first | exact AL.out | (have hz := AL.out; simpa only [hl] using hz))⟩

set_option maxHeartbeats 6400000 in
set_option maxRecDepth 100000 in
theorem fields_5 (o n : Int) (s : ByteArray) (ns : List ByteArray) (a1 : Option Addr) (q1 : Nat) (a2 : Option Addr) (c2 q2 : Nat) (p : Int) (B : Nat) (w : World) (hB : B ≤ w.heap.size) (hS : Hid (StrsIn B (.slice a1 ns.length q1) ns w)) (hns : ns.length ≤ 1000000) :
    Calls Tryd.prog 53 #[.agg #[.int .i64 5, .int .i64 o, .int .i64 n, .string s, .slice a1 ns.length q1, .slice a2 c2 q2, .int .i64 p]] w fun e w' =>
      e = .returned (.bool (fieldsB 5 o n s ns)) ∧ Below w.heap.size w w' := by
  have AL := hid (box1_below w (.cells #[.int .i64 5, .int .i64 o, .int .i64 n, .string s, .slice a1 ns.length q1, .slice a2 c2 q2, .int .i64 p] 25))
  have X := hid (box_new w 5 o n s (.slice a1 ns.length q1) (.slice a2 c2 q2) p)
  have HE := hid (empty_size s)
  by_cases ho : o = 0
  case neg =>
    have eo : (o != 0) = true := bne_iff_ne.2 ho
    have H := hid (show fieldsB 5 o n s ns = false by have he := HE.out; simp only [fieldsB, opOk, numOk, strOk, nsOk, properB, propB]; grind [sign_none])
    clear HE
    go_enter Tryd.func53, Tryd.ntmps53
    go_wp2_with fail
    go_ret
    exact ⟨by rw [H.out]; rfl, AL.out⟩
  case pos =>
  subst ho
  by_cases hn : n = 0
  case neg =>
    have en : (n != 0) = true := bne_iff_ne.2 hn
    have H := hid (show fieldsB 5 0 n s ns = false by have he := HE.out; simp only [fieldsB, opOk, numOk, strOk, nsOk, properB, propB]; grind)
    clear HE
    go_enter Tryd.func53, Tryd.ntmps53
    go_wp2_with fail
    go_ret
    exact ⟨by rw [H.out]; rfl, AL.out⟩
  case pos =>
  subst hn
  go_enter Tryd.func53, Tryd.ntmps53
  go_wp2_with fail
  refine (rname_calls s _).mono ?_
  rintro e w1 ⟨rfl, b1⟩
  have B1 := hid (below_in AL.out (by simp) b1)
  have X1 := hid (box_on X.out b1)
  obtain ⟨c0, c1, c2, c3, c4, c5, c6⟩ := box_cells X1.out
  have T1 := hid (strsIn_on hS.out (B1.out.mono hB))
  clear b1
  have HPB := hid (show strOk 5 s = properB s from rfl)
  generalize properB s = pb at *
  cases pb
  case false =>
    have H := hid (show fieldsB 5 0 0 s ns = false by unfold fieldsB; rw [HPB.out]; simp)
    clear HE
    go_wp2_with fail
    go_ret
    exact ⟨by rw [H.out]; rfl, B1.out⟩
  case true =>
  by_cases hl : ns.length = 0
  case neg =>
    have dl : decide ((0 : Int) < (ns.length : Int)) = true := decide_eq_true (by omega)
    have H := hid (show fieldsB 5 0 0 s ns = false by unfold fieldsB; rw [HPB.out]; simp only [opOk, numOk, nsOk]; grind)
    clear HE
    go_wp2_with fail
    go_ret
    exact ⟨by rw [H.out]; rfl, B1.out⟩
  case pos =>
  have H := hid (show fieldsB 5 0 0 s ns = true by unfold fieldsB; rw [HPB.out]; simp only [opOk, numOk, nsOk]; grind)
  clear HE
  go_wp2_with fail
  go_loop [5] (fun i => i = .int .i64 0) (fun _ => 0)
  case atStart => rfl
  case round =>
    obtain rfl := hrel
    go_wp2_with fail
    go_ret
    exact ⟨by rw [H.out]; rfl, (by first | exact B1.out | (have hz := B1.out; simpa only [hl] using hz))⟩

set_option maxHeartbeats 6400000 in
set_option maxRecDepth 100000 in
theorem fields_21 (o n : Int) (s : ByteArray) (ns : List ByteArray) (a1 : Option Addr) (q1 : Nat) (a2 : Option Addr) (c2 q2 : Nat) (p : Int) (B : Nat) (w : World) (hB : B ≤ w.heap.size) (hS : Hid (StrsIn B (.slice a1 ns.length q1) ns w)) (hns : ns.length ≤ 1000000) :
    Calls Tryd.prog 53 #[.agg #[.int .i64 21, .int .i64 o, .int .i64 n, .string s, .slice a1 ns.length q1, .slice a2 c2 q2, .int .i64 p]] w fun e w' =>
      e = .returned (.bool (fieldsB 21 o n s ns)) ∧ Below w.heap.size w w' := by
  have AL := hid (box1_below w (.cells #[.int .i64 21, .int .i64 o, .int .i64 n, .string s, .slice a1 ns.length q1, .slice a2 c2 q2, .int .i64 p] 25))
  have X := hid (box_new w 21 o n s (.slice a1 ns.length q1) (.slice a2 c2 q2) p)
  have HE := hid (empty_size s)
  by_cases ho : o = 0
  case neg =>
    have eo : (o != 0) = true := bne_iff_ne.2 ho
    have H := hid (show fieldsB 21 o n s ns = false by have he := HE.out; simp only [fieldsB, opOk, numOk, strOk, nsOk, properB, propB]; grind [sign_none])
    clear HE
    go_enter Tryd.func53, Tryd.ntmps53
    go_wp2_with fail
    go_ret
    exact ⟨by rw [H.out]; rfl, AL.out⟩
  case pos =>
  subst ho
  by_cases hn : n = 0
  case neg =>
    have en : (n != 0) = true := bne_iff_ne.2 hn
    have H := hid (show fieldsB 21 0 n s ns = false by have he := HE.out; simp only [fieldsB, opOk, numOk, strOk, nsOk, properB, propB]; grind)
    clear HE
    go_enter Tryd.func53, Tryd.ntmps53
    go_wp2_with fail
    go_ret
    exact ⟨by rw [H.out]; rfl, AL.out⟩
  case pos =>
  subst hn
  go_enter Tryd.func53, Tryd.ntmps53
  go_wp2_with fail
  refine (rname_calls s _).mono ?_
  rintro e w1 ⟨rfl, b1⟩
  have B1 := hid (below_in AL.out (by simp) b1)
  have X1 := hid (box_on X.out b1)
  obtain ⟨c0, c1, c2, c3, c4, c5, c6⟩ := box_cells X1.out
  have T1 := hid (strsIn_on hS.out (B1.out.mono hB))
  clear b1
  have HPB := hid (show strOk 21 s = properB s from rfl)
  generalize properB s = pb at *
  cases pb
  case false =>
    have H := hid (show fieldsB 21 0 0 s ns = false by unfold fieldsB; rw [HPB.out]; simp)
    clear HE
    go_wp2_with fail
    go_ret
    exact ⟨by rw [H.out]; rfl, B1.out⟩
  case true =>
  by_cases hl : ns.length = 0
  case neg =>
    have dl : decide ((0 : Int) < (ns.length : Int)) = true := decide_eq_true (by omega)
    have H := hid (show fieldsB 21 0 0 s ns = false by unfold fieldsB; rw [HPB.out]; simp only [opOk, numOk, nsOk]; grind)
    clear HE
    go_wp2_with fail
    go_ret
    exact ⟨by rw [H.out]; rfl, B1.out⟩
  case pos =>
  have H := hid (show fieldsB 21 0 0 s ns = true by unfold fieldsB; rw [HPB.out]; simp only [opOk, numOk, nsOk]; grind)
  clear HE
  go_wp2_with fail
  go_loop [5] (fun i => i = .int .i64 0) (fun _ => 0)
  case atStart => rfl
  case round =>
    obtain rfl := hrel
    go_wp2_with fail
    go_ret
    exact ⟨by rw [H.out]; rfl, (by first | exact B1.out | (have hz := B1.out; simpa only [hl] using hz))⟩

end Go.Proofs.YtenpldenhgpneaaDoor

namespace Go.Proofs.YtenpldenhgpneaaDoor
open Go.RowKit


set_option maxHeartbeats 6400000 in
set_option maxRecDepth 100000 in
theorem fields_22 (o n : Int) (s : ByteArray) (ns : List ByteArray) (a1 : Option Addr) (q1 : Nat) (a2 : Option Addr) (c2 q2 : Nat) (p : Int) (B : Nat) (w : World) (hB : B ≤ w.heap.size) (hS : Hid (StrsIn B (.slice a1 ns.length q1) ns w)) (hns : ns.length ≤ 1000000) :
    Calls Tryd.prog 53 #[.agg #[.int .i64 22, .int .i64 o, .int .i64 n, .string s, .slice a1 ns.length q1, .slice a2 c2 q2, .int .i64 p]] w fun e w' =>
      e = .returned (.bool (fieldsB 22 o n s ns)) ∧ Below w.heap.size w w' := by
  have AL := hid (box1_below w (.cells #[.int .i64 22, .int .i64 o, .int .i64 n, .string s, .slice a1 ns.length q1, .slice a2 c2 q2, .int .i64 p] 25))
  have X := hid (box_new w 22 o n s (.slice a1 ns.length q1) (.slice a2 c2 q2) p)
  have HE := hid (empty_size s)
  by_cases ho : o = 0
  case neg =>
    have eo : (o != 0) = true := bne_iff_ne.2 ho
    have H := hid (show fieldsB 22 o n s ns = false by have he := HE.out; simp only [fieldsB, opOk, numOk, strOk, nsOk, properB, propB]; grind [sign_none])
    clear HE
    go_enter Tryd.func53, Tryd.ntmps53
    go_wp2_with fail
    go_ret
    exact ⟨by rw [H.out]; rfl, AL.out⟩
  case pos =>
  subst ho
  by_cases hn : n = 0
  case neg =>
    have en : (n != 0) = true := bne_iff_ne.2 hn
    have H := hid (show fieldsB 22 0 n s ns = false by have he := HE.out; simp only [fieldsB, opOk, numOk, strOk, nsOk, properB, propB]; grind)
    clear HE
    go_enter Tryd.func53, Tryd.ntmps53
    go_wp2_with fail
    go_ret
    exact ⟨by rw [H.out]; rfl, AL.out⟩
  case pos =>
  subst hn
  go_enter Tryd.func53, Tryd.ntmps53
  go_wp2_with fail
  refine (rname_calls s _).mono ?_
  rintro e w1 ⟨rfl, b1⟩
  have B1 := hid (below_in AL.out (by simp) b1)
  have X1 := hid (box_on X.out b1)
  obtain ⟨c0, c1, c2, c3, c4, c5, c6⟩ := box_cells X1.out
  have T1 := hid (strsIn_on hS.out (B1.out.mono hB))
  clear b1
  have HPB := hid (show strOk 22 s = properB s from rfl)
  generalize properB s = pb at *
  cases pb
  case false =>
    have H := hid (show fieldsB 22 0 0 s ns = false by unfold fieldsB; rw [HPB.out]; simp)
    clear HE
    go_wp2_with fail
    go_ret
    exact ⟨by rw [H.out]; rfl, B1.out⟩
  case true =>
  by_cases hl : ns.length = 0
  case neg =>
    have dl : decide ((0 : Int) < (ns.length : Int)) = true := decide_eq_true (by omega)
    have H := hid (show fieldsB 22 0 0 s ns = false by unfold fieldsB; rw [HPB.out]; simp only [opOk, numOk, nsOk]; grind)
    clear HE
    go_wp2_with fail
    go_ret
    exact ⟨by rw [H.out]; rfl, B1.out⟩
  case pos =>
  have H := hid (show fieldsB 22 0 0 s ns = true by unfold fieldsB; rw [HPB.out]; simp only [opOk, numOk, nsOk]; grind)
  clear HE
  go_wp2_with fail
  go_loop [5] (fun i => i = .int .i64 0) (fun _ => 0)
  case atStart => rfl
  case round =>
    obtain rfl := hrel
    go_wp2_with fail
    go_ret
    exact ⟨by rw [H.out]; rfl, (by first | exact B1.out | (have hz := B1.out; simpa only [hl] using hz))⟩

set_option maxHeartbeats 6400000 in
set_option maxRecDepth 100000 in
theorem fields_13 (o n : Int) (s : ByteArray) (ns : List ByteArray) (a1 : Option Addr) (q1 : Nat) (a2 : Option Addr) (c2 q2 : Nat) (p : Int) (B : Nat) (w : World) (_hB : B ≤ w.heap.size) (_hS : Hid (StrsIn B (.slice a1 ns.length q1) ns w)) (hns : ns.length ≤ 1000000) :
    Calls Tryd.prog 53 #[.agg #[.int .i64 13, .int .i64 o, .int .i64 n, .string s, .slice a1 ns.length q1, .slice a2 c2 q2, .int .i64 p]] w fun e w' =>
      e = .returned (.bool (fieldsB 13 o n s ns)) ∧ Below w.heap.size w w' := by
  have AL := hid (box1_below w (.cells #[.int .i64 13, .int .i64 o, .int .i64 n, .string s, .slice a1 ns.length q1, .slice a2 c2 q2, .int .i64 p] 25))
  have X := hid (box_new w 13 o n s (.slice a1 ns.length q1) (.slice a2 c2 q2) p)
  have HE := hid (empty_size s)
  by_cases ho : o = 0
  case neg =>
    have eo : (o != 0) = true := bne_iff_ne.2 ho
    have H := hid (show fieldsB 13 o n s ns = false by have he := HE.out; simp only [fieldsB, opOk, numOk, strOk, nsOk, properB, propB]; grind [sign_none])
    clear HE
    go_enter Tryd.func53, Tryd.ntmps53
    go_wp2_with fail
    go_ret
    exact ⟨by rw [H.out]; rfl, AL.out⟩
  case pos =>
  subst ho
  by_cases hn : n = 0
  case neg =>
    have en : (n != 0) = true := bne_iff_ne.2 hn
    have H := hid (show fieldsB 13 0 n s ns = false by have he := HE.out; simp only [fieldsB, opOk, numOk, strOk, nsOk, properB, propB]; grind)
    clear HE
    go_enter Tryd.func53, Tryd.ntmps53
    go_wp2_with fail
    go_ret
    exact ⟨by rw [H.out]; rfl, AL.out⟩
  case pos =>
  subst hn
  go_enter Tryd.func53, Tryd.ntmps53
  go_wp2_with fail
  refine (refisname_calls s _).mono ?_
  rintro e w1 ⟨rfl, rfl⟩
  have HPB := hid (show strOk 13 s = nameB s.data.toList from rfl)
  generalize nameB s.data.toList = pb at *
  cases pb
  case false =>
    have H := hid (show fieldsB 13 0 0 s ns = false by unfold fieldsB; rw [HPB.out]; simp)
    clear HE
    go_wp2_with fail
    go_ret
    exact ⟨by rw [H.out]; rfl, AL.out⟩
  case true =>
  by_cases hl : ns.length = 0
  case neg =>
    have dl : decide ((0 : Int) < (ns.length : Int)) = true := decide_eq_true (by omega)
    have H := hid (show fieldsB 13 0 0 s ns = false by unfold fieldsB; rw [HPB.out]; simp only [opOk, numOk, nsOk]; grind)
    clear HE
    go_wp2_with fail
    go_ret
    exact ⟨by rw [H.out]; rfl, AL.out⟩
  case pos =>
  have H := hid (show fieldsB 13 0 0 s ns = true by unfold fieldsB; rw [HPB.out]; simp only [opOk, numOk, nsOk]; grind)
  clear HE
  go_wp2_with fail
  go_loop [5] (fun i => i = .int .i64 0) (fun _ => 0)
  case atStart => rfl
  case round =>
    obtain rfl := hrel
    go_wp2_with fail
    go_ret
    exact ⟨by rw [H.out]; rfl, (by first | exact AL.out | (have hz := AL.out; simpa only [hl] using hz))⟩

set_option maxHeartbeats 6400000 in
set_option maxRecDepth 100000 in
theorem fields_16 (o n : Int) (s : ByteArray) (ns : List ByteArray) (a1 : Option Addr) (q1 : Nat) (a2 : Option Addr) (c2 q2 : Nat) (p : Int) (B : Nat) (w : World) (_hB : B ≤ w.heap.size) (_hS : Hid (StrsIn B (.slice a1 ns.length q1) ns w)) (hns : ns.length ≤ 1000000) :
    Calls Tryd.prog 53 #[.agg #[.int .i64 16, .int .i64 o, .int .i64 n, .string s, .slice a1 ns.length q1, .slice a2 c2 q2, .int .i64 p]] w fun e w' =>
      e = .returned (.bool (fieldsB 16 o n s ns)) ∧ Below w.heap.size w w' := by
  have AL := hid (box1_below w (.cells #[.int .i64 16, .int .i64 o, .int .i64 n, .string s, .slice a1 ns.length q1, .slice a2 c2 q2, .int .i64 p] 25))
  have X := hid (box_new w 16 o n s (.slice a1 ns.length q1) (.slice a2 c2 q2) p)
  have HE := hid (empty_size s)
  by_cases ho : o = 0
  case neg =>
    have eo : (o != 0) = true := bne_iff_ne.2 ho
    have H := hid (show fieldsB 16 o n s ns = false by have he := HE.out; simp only [fieldsB, opOk, numOk, strOk, nsOk, properB, propB]; grind [sign_none])
    clear HE
    go_enter Tryd.func53, Tryd.ntmps53
    go_wp2_with fail
    go_ret
    exact ⟨by rw [H.out]; rfl, AL.out⟩
  case pos =>
  subst ho
  by_cases hn : n = 0
  case neg =>
    have en : (n != 0) = true := bne_iff_ne.2 hn
    have H := hid (show fieldsB 16 0 n s ns = false by have he := HE.out; simp only [fieldsB, opOk, numOk, strOk, nsOk, properB, propB]; grind)
    clear HE
    go_enter Tryd.func53, Tryd.ntmps53
    go_wp2_with fail
    go_ret
    exact ⟨by rw [H.out]; rfl, AL.out⟩
  case pos =>
  subst hn
  go_enter Tryd.func53, Tryd.ntmps53
  go_wp2_with fail
  refine (refisname_calls s _).mono ?_
  rintro e w1 ⟨rfl, rfl⟩
  have HPB := hid (show strOk 16 s = nameB s.data.toList from rfl)
  generalize nameB s.data.toList = pb at *
  cases pb
  case false =>
    have H := hid (show fieldsB 16 0 0 s ns = false by unfold fieldsB; rw [HPB.out]; simp)
    clear HE
    go_wp2_with fail
    go_ret
    exact ⟨by rw [H.out]; rfl, AL.out⟩
  case true =>
  by_cases hl : ns.length = 0
  case neg =>
    have dl : decide ((0 : Int) < (ns.length : Int)) = true := decide_eq_true (by omega)
    have H := hid (show fieldsB 16 0 0 s ns = false by unfold fieldsB; rw [HPB.out]; simp only [opOk, numOk, nsOk]; grind)
    clear HE
    go_wp2_with fail
    go_ret
    exact ⟨by rw [H.out]; rfl, AL.out⟩
  case pos =>
  have H := hid (show fieldsB 16 0 0 s ns = true by unfold fieldsB; rw [HPB.out]; simp only [opOk, numOk, nsOk]; grind)
  clear HE
  go_wp2_with fail
  go_loop [5] (fun i => i = .int .i64 0) (fun _ => 0)
  case atStart => rfl
  case round =>
    obtain rfl := hrel
    go_wp2_with fail
    go_ret
    exact ⟨by rw [H.out]; rfl, (by first | exact AL.out | (have hz := AL.out; simpa only [hl] using hz))⟩

set_option maxHeartbeats 6400000 in
set_option maxRecDepth 100000 in
theorem fields_23 (o n : Int) (s : ByteArray) (ns : List ByteArray) (a1 : Option Addr) (q1 : Nat) (a2 : Option Addr) (c2 q2 : Nat) (p : Int) (B : Nat) (w : World) (_hB : B ≤ w.heap.size) (_hS : Hid (StrsIn B (.slice a1 ns.length q1) ns w)) (hns : ns.length ≤ 1000000) :
    Calls Tryd.prog 53 #[.agg #[.int .i64 23, .int .i64 o, .int .i64 n, .string s, .slice a1 ns.length q1, .slice a2 c2 q2, .int .i64 p]] w fun e w' =>
      e = .returned (.bool (fieldsB 23 o n s ns)) ∧ Below w.heap.size w w' := by
  have AL := hid (box1_below w (.cells #[.int .i64 23, .int .i64 o, .int .i64 n, .string s, .slice a1 ns.length q1, .slice a2 c2 q2, .int .i64 p] 25))
  have X := hid (box_new w 23 o n s (.slice a1 ns.length q1) (.slice a2 c2 q2) p)
  have HE := hid (empty_size s)
  by_cases ho : o = 0
  case neg =>
    have eo : (o != 0) = true := bne_iff_ne.2 ho
    have H := hid (show fieldsB 23 o n s ns = false by have he := HE.out; simp only [fieldsB, opOk, numOk, strOk, nsOk, properB, propB]; grind [sign_none])
    clear HE
    go_enter Tryd.func53, Tryd.ntmps53
    go_wp2_with fail
    go_ret
    exact ⟨by rw [H.out]; rfl, AL.out⟩
  case pos =>
  subst ho
  by_cases hn : n = 0
  case neg =>
    have en : (n != 0) = true := bne_iff_ne.2 hn
    have H := hid (show fieldsB 23 0 n s ns = false by have he := HE.out; simp only [fieldsB, opOk, numOk, strOk, nsOk, properB, propB]; grind)
    clear HE
    go_enter Tryd.func53, Tryd.ntmps53
    go_wp2_with fail
    go_ret
    exact ⟨by rw [H.out]; rfl, AL.out⟩
  case pos =>
  subst hn
  go_enter Tryd.func53, Tryd.ntmps53
  go_wp2_with fail
  refine (refisname_calls s _).mono ?_
  rintro e w1 ⟨rfl, rfl⟩
  have HPB := hid (show strOk 23 s = nameB s.data.toList from rfl)
  generalize nameB s.data.toList = pb at *
  cases pb
  case false =>
    have H := hid (show fieldsB 23 0 0 s ns = false by unfold fieldsB; rw [HPB.out]; simp)
    clear HE
    go_wp2_with fail
    go_ret
    exact ⟨by rw [H.out]; rfl, AL.out⟩
  case true =>
  by_cases hl : ns.length = 0
  case neg =>
    have dl : decide ((0 : Int) < (ns.length : Int)) = true := decide_eq_true (by omega)
    have H := hid (show fieldsB 23 0 0 s ns = false by unfold fieldsB; rw [HPB.out]; simp only [opOk, numOk, nsOk]; grind)
    clear HE
    go_wp2_with fail
    go_ret
    exact ⟨by rw [H.out]; rfl, AL.out⟩
  case pos =>
  have H := hid (show fieldsB 23 0 0 s ns = true by unfold fieldsB; rw [HPB.out]; simp only [opOk, numOk, nsOk]; grind)
  clear HE
  go_wp2_with fail
  go_loop [5] (fun i => i = .int .i64 0) (fun _ => 0)
  case atStart => rfl
  case round =>
    obtain rfl := hrel
    go_wp2_with fail
    go_ret
    exact ⟨by rw [H.out]; rfl, (by first | exact AL.out | (have hz := AL.out; simpa only [hl] using hz))⟩

set_option maxHeartbeats 6400000 in
set_option maxRecDepth 100000 in
theorem fields_25 (o n : Int) (s : ByteArray) (ns : List ByteArray) (a1 : Option Addr) (q1 : Nat) (a2 : Option Addr) (c2 q2 : Nat) (p : Int) (B : Nat) (w : World) (_hB : B ≤ w.heap.size) (_hS : Hid (StrsIn B (.slice a1 ns.length q1) ns w)) (hns : ns.length ≤ 1000000) :
    Calls Tryd.prog 53 #[.agg #[.int .i64 25, .int .i64 o, .int .i64 n, .string s, .slice a1 ns.length q1, .slice a2 c2 q2, .int .i64 p]] w fun e w' =>
      e = .returned (.bool (fieldsB 25 o n s ns)) ∧ Below w.heap.size w w' := by
  have AL := hid (box1_below w (.cells #[.int .i64 25, .int .i64 o, .int .i64 n, .string s, .slice a1 ns.length q1, .slice a2 c2 q2, .int .i64 p] 25))
  have X := hid (box_new w 25 o n s (.slice a1 ns.length q1) (.slice a2 c2 q2) p)
  have HE := hid (empty_size s)
  by_cases ho : o = 0
  case neg =>
    have eo : (o != 0) = true := bne_iff_ne.2 ho
    have H := hid (show fieldsB 25 o n s ns = false by have he := HE.out; simp only [fieldsB, opOk, numOk, strOk, nsOk, properB, propB]; grind [sign_none])
    clear HE
    go_enter Tryd.func53, Tryd.ntmps53
    go_wp2_with fail
    go_ret
    exact ⟨by rw [H.out]; rfl, AL.out⟩
  case pos =>
  subst ho
  by_cases hn : n = 0
  case neg =>
    have en : (n != 0) = true := bne_iff_ne.2 hn
    have H := hid (show fieldsB 25 0 n s ns = false by have he := HE.out; simp only [fieldsB, opOk, numOk, strOk, nsOk, properB, propB]; grind)
    clear HE
    go_enter Tryd.func53, Tryd.ntmps53
    go_wp2_with fail
    go_ret
    exact ⟨by rw [H.out]; rfl, AL.out⟩
  case pos =>
  subst hn
  go_enter Tryd.func53, Tryd.ntmps53
  go_wp2_with fail
  refine (refisname_calls s _).mono ?_
  rintro e w1 ⟨rfl, rfl⟩
  have HPB := hid (show strOk 25 s = nameB s.data.toList from rfl)
  generalize nameB s.data.toList = pb at *
  cases pb
  case false =>
    have H := hid (show fieldsB 25 0 0 s ns = false by unfold fieldsB; rw [HPB.out]; simp)
    clear HE
    go_wp2_with fail
    go_ret
    exact ⟨by rw [H.out]; rfl, AL.out⟩
  case true =>
  by_cases hl : ns.length = 0
  case neg =>
    have dl : decide ((0 : Int) < (ns.length : Int)) = true := decide_eq_true (by omega)
    have H := hid (show fieldsB 25 0 0 s ns = false by unfold fieldsB; rw [HPB.out]; simp only [opOk, numOk, nsOk]; grind)
    clear HE
    go_wp2_with fail
    go_ret
    exact ⟨by rw [H.out]; rfl, AL.out⟩
  case pos =>
  have H := hid (show fieldsB 25 0 0 s ns = true by unfold fieldsB; rw [HPB.out]; simp only [opOk, numOk, nsOk]; grind)
  clear HE
  go_wp2_with fail
  go_loop [5] (fun i => i = .int .i64 0) (fun _ => 0)
  case atStart => rfl
  case round =>
    obtain rfl := hrel
    go_wp2_with fail
    go_ret
    exact ⟨by rw [H.out]; rfl, (by first | exact AL.out | (have hz := AL.out; simpa only [hl] using hz))⟩

end Go.Proofs.YtenpldenhgpneaaDoor

namespace Go.Proofs.YtenpldenhgpneaaDoor
open Go.RowKit


set_option maxHeartbeats 6400000 in
set_option maxRecDepth 100000 in
theorem fields_7 (o n : Int) (s : ByteArray) (ns : List ByteArray) (a1 : Option Addr) (q1 : Nat) (a2 : Option Addr) (c2 q2 : Nat) (p : Int) (B : Nat) (w : World) (hB : B ≤ w.heap.size) (hS : Hid (StrsIn B (.slice a1 ns.length q1) ns w)) (hns : ns.length ≤ 1000000) :
    Calls Tryd.prog 53 #[.agg #[.int .i64 7, .int .i64 o, .int .i64 n, .string s, .slice a1 ns.length q1, .slice a2 c2 q2, .int .i64 p]] w fun e w' =>
      e = .returned (.bool (fieldsB 7 o n s ns)) ∧ Below w.heap.size w w' := by
  have AL := hid (box1_below w (.cells #[.int .i64 7, .int .i64 o, .int .i64 n, .string s, .slice a1 ns.length q1, .slice a2 c2 q2, .int .i64 p] 25))
  have X := hid (box_new w 7 o n s (.slice a1 ns.length q1) (.slice a2 c2 q2) p)
  have HE := hid (empty_size s)
  by_cases ho : o = 0
  case neg =>
    have eo : (o != 0) = true := bne_iff_ne.2 ho
    have H := hid (show fieldsB 7 o n s ns = false by have he := HE.out; simp only [fieldsB, opOk, numOk, strOk, nsOk, properB, propB]; grind [sign_none])
    clear HE
    go_enter Tryd.func53, Tryd.ntmps53
    go_wp2_with fail
    go_ret
    exact ⟨by rw [H.out]; rfl, AL.out⟩
  case pos =>
  subst ho
  by_cases hn : n = 0
  case neg =>
    have en : (n != 0) = true := bne_iff_ne.2 hn
    have H := hid (show fieldsB 7 0 n s ns = false by have he := HE.out; simp only [fieldsB, opOk, numOk, strOk, nsOk, properB, propB]; grind)
    clear HE
    go_enter Tryd.func53, Tryd.ntmps53
    go_wp2_with fail
    go_ret
    exact ⟨by rw [H.out]; rfl, AL.out⟩
  case pos =>
  subst hn
  by_cases hse : s.size = 0
  case neg =>
    have es : s.toList.isEmpty = false := by rw [HE.out]; exact decide_eq_false hse
    have H := hid (show fieldsB 7 0 0 s ns = false by have he := HE.out; simp only [fieldsB, opOk, numOk, strOk, nsOk, properB, propB]; grind)
    clear HE
    go_enter Tryd.func53, Tryd.ntmps53
    go_wp2_with fail
    go_ret
    exact ⟨by rw [H.out]; rfl, AL.out⟩
  case pos =>
  have es : s.toList.isEmpty = true := by rw [HE.out]; exact decide_eq_true hse
  by_cases hl : 40 < ns.length
  · have H := hid (show fieldsB 7 0 0 s ns = false by have he := HE.out; simp only [fieldsB, opOk, numOk, strOk, nsOk, properB, propB]; grind)
    clear HE
    go_enter Tryd.func53, Tryd.ntmps53
    go_wp2_with fail
    go_ret
    exact ⟨by rw [H.out]; rfl, AL.out⟩
  have HB := hid (show fieldsB 7 0 0 s ns = ns.all propB by have he := HE.out; simp only [fieldsB, opOk, numOk, strOk, nsOk]; rw [decide_eq_true (show ns.length ≤ 40 by omega)]; grind)
  obtain ⟨ao, cap, e1, hss⟩ := strsIn_cases hS.out
  injection e1 with e1a _ e1c
  subst e1a e1c
  have SS := hid hss
  clear hss hS HE
  go_enter Tryd.func53, Tryd.ntmps53
  go_wp2_with fail
  go_loopw [5] (fun i wr => ∃ j : Nat, j ≤ ns.length ∧ i = .int .i64 j ∧ (∀ (q : Nat) (hq : q < ns.length), q < j → propB ns[q] = true) ∧ Below w.heap.size w wr ∧ Box w.heap.size 7 0 0 s (.slice a1 ns.length q1) (.slice a2 c2 q2) p wr) (fun i _ => ns.length - (intOf i).toNat)
  case atStart => exact ⟨0, Nat.zero_le _, rfl, fun q _ h => absurd h (Nat.not_lt_zero _), AL.out, X.out⟩
  case round =>
    clear AL X
    obtain ⟨j, hj, rfl, hq, hb, hx⟩ := hrel
    have BB := hid hb
    have HX := hid hx
    obtain ⟨c0, c1, c2', c3, c4, c5, c6⟩ := box_cells hx
    by_cases hjl : j < ns.length
    · obtain ⟨v, vo, rfl, hvB, hvat⟩ := SS.out.resolve_left (fun h => by rw [h] at hjl; cases hjl)
      have cv := cell_keep (hb.mono hB) hvB (hvat j hjl)
      have HN := hid (fun (hn : propB ns[j] = false) => all_false (P := propB) hjl hn)
      have HQ := hid (fun (he : propB ns[j] = true) => show ∀ (q : Nat) (hq : q < ns.length), q < j + 1 → propB ns[q] = true from fun q h1 h3 => by
        rcases Nat.lt_or_ge q j with h4 | h4
        · exact hq q h1 h4
        · obtain rfl : q = j := by omega
          exact he)
      clear hq hvat hb hx SS
      generalize ns[j] = m at *
      have HPM := hid (show propB m = nameB m.data.toList from rfl)
      have HPR := hid (show properB m = (nameB m.data.toList && !keyB m.data.toList) from rfl)
      go_wp2_with fail
      refine (refisname_calls m _).mono ?_
      rintro e w1 ⟨rfl, rfl⟩
      generalize nameB m.data.toList = nb at *
      cases nb
      · have H := hid (HB.out.trans (HN.out (by rw [HPM.out])))
        clear HN HQ
        go_wp2_with fail
        go_ret
        exact ⟨by rw [H.out]; rfl, BB.out⟩
      · have H := hid (HQ.out (by rw [HPM.out]))
        clear HN HQ
        go_wp2_with fail
        go_roundw
        case rel => exact ⟨j + 1, by omega, by go_num, H.out, BB.out, HX.out⟩
        case measure => simp [intOf]; omega
    · have H := hid (HB.out.trans (all_true (P := propB) (fun q h1 => hq q h1 (by omega))))
      clear hq hb hx
      go_wp2_with fail
      go_ret
      exact ⟨by rw [H.out]; rfl, BB.out⟩

set_option maxHeartbeats 6400000 in
set_option maxRecDepth 100000 in
theorem fields_8 (o n : Int) (s : ByteArray) (ns : List ByteArray) (a1 : Option Addr) (q1 : Nat) (a2 : Option Addr) (c2 q2 : Nat) (p : Int) (B : Nat) (w : World) (hB : B ≤ w.heap.size) (hS : Hid (StrsIn B (.slice a1 ns.length q1) ns w)) (hns : ns.length ≤ 1000000) :
    Calls Tryd.prog 53 #[.agg #[.int .i64 8, .int .i64 o, .int .i64 n, .string s, .slice a1 ns.length q1, .slice a2 c2 q2, .int .i64 p]] w fun e w' =>
      e = .returned (.bool (fieldsB 8 o n s ns)) ∧ Below w.heap.size w w' := by
  have AL := hid (box1_below w (.cells #[.int .i64 8, .int .i64 o, .int .i64 n, .string s, .slice a1 ns.length q1, .slice a2 c2 q2, .int .i64 p] 25))
  have X := hid (box_new w 8 o n s (.slice a1 ns.length q1) (.slice a2 c2 q2) p)
  have HE := hid (empty_size s)
  by_cases ho : o = 0
  case neg =>
    have eo : (o != 0) = true := bne_iff_ne.2 ho
    have H := hid (show fieldsB 8 o n s ns = false by have he := HE.out; simp only [fieldsB, opOk, numOk, strOk, nsOk, properB, propB]; grind [sign_none])
    clear HE
    go_enter Tryd.func53, Tryd.ntmps53
    go_wp2_with fail
    go_ret
    exact ⟨by rw [H.out]; rfl, AL.out⟩
  case pos =>
  subst ho
  by_cases hn : n = 0
  case neg =>
    have en : (n != 0) = true := bne_iff_ne.2 hn
    have H := hid (show fieldsB 8 0 n s ns = false by have he := HE.out; simp only [fieldsB, opOk, numOk, strOk, nsOk, properB, propB]; grind)
    clear HE
    go_enter Tryd.func53, Tryd.ntmps53
    go_wp2_with fail
    go_ret
    exact ⟨by rw [H.out]; rfl, AL.out⟩
  case pos =>
  subst hn
  by_cases hse : s.size = 0
  case neg =>
    have es : s.toList.isEmpty = false := by rw [HE.out]; exact decide_eq_false hse
    have H := hid (show fieldsB 8 0 0 s ns = false by have he := HE.out; simp only [fieldsB, opOk, numOk, strOk, nsOk, properB, propB]; grind)
    clear HE
    go_enter Tryd.func53, Tryd.ntmps53
    go_wp2_with fail
    go_ret
    exact ⟨by rw [H.out]; rfl, AL.out⟩
  case pos =>
  have es : s.toList.isEmpty = true := by rw [HE.out]; exact decide_eq_true hse
  by_cases hl : 6 < ns.length
  · have H := hid (show fieldsB 8 0 0 s ns = false by have he := HE.out; simp only [fieldsB, opOk, numOk, strOk, nsOk, properB, propB]; grind)
    clear HE
    go_enter Tryd.func53, Tryd.ntmps53
    go_wp2_with fail
    go_ret
    exact ⟨by rw [H.out]; rfl, AL.out⟩
  have HB := hid (show fieldsB 8 0 0 s ns = ns.all properB by have he := HE.out; simp only [fieldsB, opOk, numOk, strOk, nsOk]; rw [decide_eq_true (show ns.length ≤ 6 by omega)]; grind)
  obtain ⟨ao, cap, e1, hss⟩ := strsIn_cases hS.out
  injection e1 with e1a _ e1c
  subst e1a e1c
  have SS := hid hss
  clear hss hS HE
  go_enter Tryd.func53, Tryd.ntmps53
  go_wp2_with fail
  go_loopw [5] (fun i wr => ∃ j : Nat, j ≤ ns.length ∧ i = .int .i64 j ∧ (∀ (q : Nat) (hq : q < ns.length), q < j → properB ns[q] = true) ∧ Below w.heap.size w wr ∧ Box w.heap.size 8 0 0 s (.slice a1 ns.length q1) (.slice a2 c2 q2) p wr) (fun i _ => ns.length - (intOf i).toNat)
  case atStart => exact ⟨0, Nat.zero_le _, rfl, fun q _ h => absurd h (Nat.not_lt_zero _), AL.out, X.out⟩
  case round =>
    clear AL X
    obtain ⟨j, hj, rfl, hq, hb, hx⟩ := hrel
    have BB := hid hb
    have HX := hid hx
    obtain ⟨c0, c1, c2', c3, c4, c5, c6⟩ := box_cells hx
    by_cases hjl : j < ns.length
    · obtain ⟨v, vo, rfl, hvB, hvat⟩ := SS.out.resolve_left (fun h => by rw [h] at hjl; cases hjl)
      have cv := cell_keep (hb.mono hB) hvB (hvat j hjl)
      have HN := hid (fun (hn : properB ns[j] = false) => all_false (P := properB) hjl hn)
      have HQ := hid (fun (he : properB ns[j] = true) => show ∀ (q : Nat) (hq : q < ns.length), q < j + 1 → properB ns[q] = true from fun q h1 h3 => by
        rcases Nat.lt_or_ge q j with h4 | h4
        · exact hq q h1 h4
        · obtain rfl : q = j := by omega
          exact he)
      clear hq hvat hb hx SS
      generalize ns[j] = m at *
      have HPM := hid (show propB m = nameB m.data.toList from rfl)
      have HPR := hid (show properB m = (nameB m.data.toList && !keyB m.data.toList) from rfl)
      go_wp2_with fail
      refine (refisname_calls m _).mono ?_
      rintro e w1 ⟨rfl, rfl⟩
      generalize nameB m.data.toList = nb at *
      cases nb
      · have H := hid (HB.out.trans (HN.out (by rw [HPR.out]; rfl)))
        clear HN HQ
        go_wp2_with fail
        go_ret
        exact ⟨by rw [H.out]; rfl, BB.out⟩
      · go_wp2_with fail
        refine (rname_calls m _).mono ?_
        rintro e w1 ⟨rfl, b1⟩
        have B1 := hid (below_in BB.out (Nat.le_refl _) b1)
        have X1 := hid (box_on HX.out b1)
        clear b1 c0 c1 c2' c3 c4 c5 c6 cv
        generalize properB m = pm at *
        cases pm
        · have H := hid (HB.out.trans (HN.out rfl))
          clear HN HQ
          go_wp2_with fail
          go_ret
          exact ⟨by rw [H.out]; rfl, B1.out⟩
        · have H := hid (HQ.out rfl)
          clear HN HQ
          go_wp2_with fail
          go_roundw
          case rel => exact ⟨j + 1, by omega, by go_num, H.out, B1.out, X1.out⟩
          case measure => simp [intOf]; omega
    · have H := hid (HB.out.trans (all_true (P := properB) (fun q h1 => hq q h1 (by omega))))
      clear hq hb hx
      go_wp2_with fail
      go_ret
      exact ⟨by rw [H.out]; rfl, BB.out⟩

set_option maxHeartbeats 6400000 in
set_option maxRecDepth 100000 in
theorem fields_10 (o n : Int) (s : ByteArray) (ns : List ByteArray) (a1 : Option Addr) (q1 : Nat) (a2 : Option Addr) (c2 q2 : Nat) (p : Int) (B : Nat) (w : World) (hB : B ≤ w.heap.size) (hS : Hid (StrsIn B (.slice a1 ns.length q1) ns w)) (hns : ns.length ≤ 1000000) :
    Calls Tryd.prog 53 #[.agg #[.int .i64 10, .int .i64 o, .int .i64 n, .string s, .slice a1 ns.length q1, .slice a2 c2 q2, .int .i64 p]] w fun e w' =>
      e = .returned (.bool (fieldsB 10 o n s ns)) ∧ Below w.heap.size w w' := by
  have AL := hid (box1_below w (.cells #[.int .i64 10, .int .i64 o, .int .i64 n, .string s, .slice a1 ns.length q1, .slice a2 c2 q2, .int .i64 p] 25))
  have X := hid (box_new w 10 o n s (.slice a1 ns.length q1) (.slice a2 c2 q2) p)
  have HE := hid (empty_size s)
  go_enter Tryd.func53, Tryd.ntmps53
  go_wp2_with fail
  refine (rsign_calls o _).mono ?_
  rintro e w1 ⟨rfl, b1⟩
  have B1 := hid (below_in AL.out (by simp) b1)
  have X1 := hid (box_on X.out b1)
  obtain ⟨c0, c1, c2, c3, c4, c5, c6⟩ := box_cells X1.out
  clear b1
  generalize hsg : signT o = sg at *
  have HSG := hid hsg
  clear hsg
  have T1 := hid (strsIn_on hS.out ((B1.out).mono hB))
  have HO := hid (sign_none o)
  cases sg with
  | nil =>
    have H := hid (show fieldsB 10 o n s ns = false by have := HO.out.1 HSG.out; simp only [fieldsB, opOk]; grind)
    clear HE
    go_wp2_with fail
    go_ret
    exact ⟨by rw [H.out]; rfl, B1.out⟩
  | cons sx sr =>
  have ho10 : 1 ≤ o ∧ o ≤ 11 := by
    rcases Decidable.em (1 ≤ o ∧ o ≤ 11) with h | h
    · exact h
    · have := HO.out.2 h; rw [HSG.out] at this; cases this
  have HO10 := hid ho10
  clear ho10
  by_cases hn : n = 0
  case neg =>
    have en : (n != 0) = true := bne_iff_ne.2 hn
    have H := hid (show fieldsB 10 o n s ns = false by have ho10 := HO10.out; have he := HE.out; simp only [fieldsB, opOk, numOk, strOk, nsOk, properB, propB]; grind)
    clear HE
    go_wp2_with fail
    go_ret
    exact ⟨by rw [H.out]; rfl, B1.out⟩
  case pos =>
  subst hn
  by_cases hse : s.size = 0
  case neg =>
    have es : s.toList.isEmpty = false := by rw [HE.out]; exact decide_eq_false hse
    have H := hid (show fieldsB 10 o 0 s ns = false by have ho10 := HO10.out; have he := HE.out; simp only [fieldsB, opOk, numOk, strOk, nsOk, properB, propB]; grind)
    clear HE
    go_wp2_with fail
    go_ret
    exact ⟨by rw [H.out]; rfl, B1.out⟩
  case pos =>
  have es : s.toList.isEmpty = true := by rw [HE.out]; exact decide_eq_true hse
  by_cases hl : ns.length = 0
  case neg =>
    have dl : decide ((0 : Int) < (ns.length : Int)) = true := decide_eq_true (by omega)
    have H := hid (show fieldsB 10 o 0 s ns = false by have ho10 := HO10.out; have he := HE.out; simp only [fieldsB, opOk, numOk, strOk, nsOk, properB, propB]; grind)
    clear HE
    go_wp2_with fail
    go_ret
    exact ⟨by rw [H.out]; rfl, B1.out⟩
  case pos =>
  have H := hid (show fieldsB 10 o 0 s ns = true by have ho10 := HO10.out; have he := HE.out; simp only [fieldsB, opOk, numOk, strOk, nsOk, properB, propB]; grind)
  clear HE
  go_wp2_with fail
  go_loop [5] (fun i => i = .int .i64 0) (fun _ => 0)
  case atStart => rfl
  case round =>
    obtain rfl := hrel
    go_wp2_with fail
    go_ret
    exact ⟨by rw [H.out]; rfl, (by first | exact B1.out | (have hz := B1.out; simpa only [hl] using hz))⟩

set_option maxHeartbeats 6400000 in
set_option maxRecDepth 100000 in
theorem fields_other (k : Int) (hk : k ≠ 9 ∧ k ≠ 10 ∧ k ≠ 17 ∧ k ≠ 2 ∧ k ≠ 3 ∧ k ≠ 4 ∧ k ≠ 5 ∧ k ≠ 21 ∧ k ≠ 22 ∧ k ≠ 13 ∧ k ≠ 16 ∧ k ≠ 23 ∧ k ≠ 25 ∧ k ≠ 7 ∧ k ≠ 8) (o n : Int) (s : ByteArray) (ns : List ByteArray) (a1 : Option Addr) (q1 : Nat) (a2 : Option Addr) (c2 q2 : Nat) (p : Int) (B : Nat) (w : World) (_hB : B ≤ w.heap.size) (_hS : Hid (StrsIn B (.slice a1 ns.length q1) ns w)) (hns : ns.length ≤ 1000000) :
    Calls Tryd.prog 53 #[.agg #[.int .i64 k, .int .i64 o, .int .i64 n, .string s, .slice a1 ns.length q1, .slice a2 c2 q2, .int .i64 p]] w fun e w' =>
      e = .returned (.bool (fieldsB k o n s ns)) ∧ Below w.heap.size w w' := by
  have AL := hid (box1_below w (.cells #[.int .i64 k, .int .i64 o, .int .i64 n, .string s, .slice a1 ns.length q1, .slice a2 c2 q2, .int .i64 p] 25))
  have X := hid (box_new w k o n s (.slice a1 ns.length q1) (.slice a2 c2 q2) p)
  have HE := hid (empty_size s)
  obtain ⟨z9, z10, z17, z2, z3, z4, z5, z21, z22, z13, z16, z23, z25, z7, z8⟩ := hk
  have e9 : (k == 9) = false := beq_eq_false_iff_ne.2 z9
  have f9 : (k != 9) = true := bne_iff_ne.2 z9
  have e10 : (k == 10) = false := beq_eq_false_iff_ne.2 z10
  have f10 : (k != 10) = true := bne_iff_ne.2 z10
  have e17 : (k == 17) = false := beq_eq_false_iff_ne.2 z17
  have f17 : (k != 17) = true := bne_iff_ne.2 z17
  have e2 : (k == 2) = false := beq_eq_false_iff_ne.2 z2
  have f2 : (k != 2) = true := bne_iff_ne.2 z2
  have e3 : (k == 3) = false := beq_eq_false_iff_ne.2 z3
  have f3 : (k != 3) = true := bne_iff_ne.2 z3
  have e4 : (k == 4) = false := beq_eq_false_iff_ne.2 z4
  have f4 : (k != 4) = true := bne_iff_ne.2 z4
  have e5 : (k == 5) = false := beq_eq_false_iff_ne.2 z5
  have f5 : (k != 5) = true := bne_iff_ne.2 z5
  have e21 : (k == 21) = false := beq_eq_false_iff_ne.2 z21
  have f21 : (k != 21) = true := bne_iff_ne.2 z21
  have e22 : (k == 22) = false := beq_eq_false_iff_ne.2 z22
  have f22 : (k != 22) = true := bne_iff_ne.2 z22
  have e13 : (k == 13) = false := beq_eq_false_iff_ne.2 z13
  have f13 : (k != 13) = true := bne_iff_ne.2 z13
  have e16 : (k == 16) = false := beq_eq_false_iff_ne.2 z16
  have f16 : (k != 16) = true := bne_iff_ne.2 z16
  have e23 : (k == 23) = false := beq_eq_false_iff_ne.2 z23
  have f23 : (k != 23) = true := bne_iff_ne.2 z23
  have e25 : (k == 25) = false := beq_eq_false_iff_ne.2 z25
  have f25 : (k != 25) = true := bne_iff_ne.2 z25
  have e7 : (k == 7) = false := beq_eq_false_iff_ne.2 z7
  have f7 : (k != 7) = true := bne_iff_ne.2 z7
  have e8 : (k == 8) = false := beq_eq_false_iff_ne.2 z8
  have f8 : (k != 8) = true := bne_iff_ne.2 z8
  have HK := hid (show (k ≠ 9 ∧ k ≠ 10 ∧ k ≠ 17 ∧ k ≠ 2 ∧ k ≠ 3 ∧ k ≠ 4 ∧ k ≠ 5 ∧ k ≠ 21 ∧ k ≠ 22 ∧ k ≠ 13 ∧ k ≠ 16 ∧ k ≠ 23 ∧ k ≠ 25 ∧ k ≠ 7 ∧ k ≠ 8) from ⟨z9, z10, z17, z2, z3, z4, z5, z21, z22, z13, z16, z23, z25, z7, z8⟩)
  clear z9 z10 z17 z2 z3 z4 z5 z21 z22 z13 z16 z23 z25 z7 z8
  by_cases ho : o = 0
  case neg =>
    have eo : (o != 0) = true := bne_iff_ne.2 ho
    have H := hid (show fieldsB k o n s ns = false by have hk := HK.out; have he := HE.out; simp only [fieldsB, opOk, numOk, strOk, nsOk, properB, propB]; grind [sign_none])
    clear HE
    go_enter Tryd.func53, Tryd.ntmps53
    go_wp2_with fail
    go_ret
    exact ⟨by rw [H.out]; rfl, AL.out⟩
  case pos =>
  subst ho
  by_cases hn : n = 0
  case neg =>
    have en : (n != 0) = true := bne_iff_ne.2 hn
    have H := hid (show fieldsB k 0 n s ns = false by have hk := HK.out; have he := HE.out; simp only [fieldsB, opOk, numOk, strOk, nsOk, properB, propB]; grind)
    clear HE
    go_enter Tryd.func53, Tryd.ntmps53
    go_wp2_with fail
    go_ret
    exact ⟨by rw [H.out]; rfl, AL.out⟩
  case pos =>
  subst hn
  by_cases hse : s.size = 0
  case neg =>
    have es : s.toList.isEmpty = false := by rw [HE.out]; exact decide_eq_false hse
    have H := hid (show fieldsB k 0 0 s ns = false by have hk := HK.out; have he := HE.out; simp only [fieldsB, opOk, numOk, strOk, nsOk, properB, propB]; grind)
    clear HE
    go_enter Tryd.func53, Tryd.ntmps53
    go_wp2_with fail
    go_ret
    exact ⟨by rw [H.out]; rfl, AL.out⟩
  case pos =>
  have es : s.toList.isEmpty = true := by rw [HE.out]; exact decide_eq_true hse
  by_cases hl : ns.length = 0
  case neg =>
    have dl : decide ((0 : Int) < (ns.length : Int)) = true := decide_eq_true (by omega)
    have H := hid (show fieldsB k 0 0 s ns = false by have hk := HK.out; have he := HE.out; simp only [fieldsB, opOk, numOk, strOk, nsOk, properB, propB]; grind)
    clear HE
    go_enter Tryd.func53, Tryd.ntmps53
    go_wp2_with fail
    go_ret
    exact ⟨by rw [H.out]; rfl, AL.out⟩
  case pos =>
  have H := hid (show fieldsB k 0 0 s ns = true by have hk := HK.out; have he := HE.out; simp only [fieldsB, opOk, numOk, strOk, nsOk, properB, propB]; grind)
  clear HE
  go_enter Tryd.func53, Tryd.ntmps53
  go_wp2_with fail
  go_loop [5] (fun i => i = .int .i64 0) (fun _ => 0)
  case atStart => rfl
  case round =>
    obtain rfl := hrel
    go_wp2_with fail
    go_ret
    exact ⟨by rw [H.out]; rfl, (by first | exact AL.out | (have hz := AL.out; simpa only [hl] using hz))⟩

end Go.Proofs.YtenpldenhgpneaaDoor
