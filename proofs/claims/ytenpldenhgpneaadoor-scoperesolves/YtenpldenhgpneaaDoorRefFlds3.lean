/- Whether a node's own fields are those of its kind, as the document asks it (22, 13, 16, 23, 25). -/
import Derived.Test.YtenpldenhgpneaaDoorJoint10
namespace Go.Proofs.YtenpldenhgpneaaDoor
open Go.RowKit


set_option maxHeartbeats 6400000 in
set_option maxRecDepth 100000 in
theorem fields_22 (o n : Int) (s : ByteArray) (ns : List ByteArray) (a1 : Option Addr) (q1 : Nat) (a2 : Option Addr) (c2 q2 : Nat) (p : Int) (B : Nat) (w : World) (hB : B ≤ w.heap.size) (hS : Hid (StrsIn B (.slice a1 ns.length q1) ns w)) (hns : ns.length ≤ 1000000) :
    Calls Tryd.prog 53 #[.agg #[.int .i64 22, .int .i64 o, .int .i64 n, .string s, .slice a1 ns.length q1, .slice a2 c2 q2, .int .i64 p]] w fun e w' =>
      e = .returned (.bool (fieldsB 22 o n s ns)) ∧ Below w.heap.size w w' := by
  have AL := hid (box1_below w (.cells #[.int .i64 22, .int .i64 o, .int .i64 n, .string s, .slice a1 ns.length q1, .slice a2 c2 q2, .int .i64 p] 25))
  have X := hid (box_new w 22 o n s (.slice a1 ns.length q1) (.slice a2 c2 q2) p)
  have HE := hid (empty_size s)
  by_cases ho : o = 0
  case neg =>
    have eo : (o != 0) = true := bne_iff_ne.2 ho
    have H := hid (show fieldsB 22 o n s ns = false by have he := HE.out; simp only [fieldsB, opOk, numOk, strOk, nsOk, properB, propB]; grind [sign_none])
    clear HE
    go_enter Tryd.func53, Tryd.ntmps53
    go_wp2_with fail
    go_ret
    exact ⟨by rw [H.out]; rfl, AL.out⟩
  case pos =>
  subst ho
  by_cases hn : n = 0
  case neg =>
    have en : (n != 0) = true := bne_iff_ne.2 hn
    have H := hid (show fieldsB 22 0 n s ns = false by have he := HE.out; simp only [fieldsB, opOk, numOk, strOk, nsOk, properB, propB]; grind)
    clear HE
    go_enter Tryd.func53, Tryd.ntmps53
    go_wp2_with fail
    go_ret
    exact ⟨by rw [H.out]; rfl, AL.out⟩
  case pos =>
  subst hn
  go_enter Tryd.func53, Tryd.ntmps53
  go_wp2_with fail
  refine (rname_calls s _).mono ?_
  rintro e w1 ⟨rfl, b1⟩
  have B1 := hid (below_in AL.out (by simp) b1)
  have X1 := hid (box_on X.out b1)
  obtain ⟨c0, c1, c2, c3, c4, c5, c6⟩ := box_cells X1.out
  have T1 := hid (strsIn_on hS.out (B1.out.mono hB))
  clear b1
  have HPB := hid (show strOk 22 s = properB s from rfl)
  generalize properB s = pb at *
  cases pb
  case false =>
    have H := hid (show fieldsB 22 0 0 s ns = false by unfold fieldsB; rw [HPB.out]; simp)
    clear HE
    go_wp2_with fail
    go_ret
    exact ⟨by rw [H.out]; rfl, B1.out⟩
  case true =>
  by_cases hl : ns.length = 0
  case neg =>
    have dl : decide ((0 : Int) < (ns.length : Int)) = true := decide_eq_true (by omega)
    have H := hid (show fieldsB 22 0 0 s ns = false by unfold fieldsB; rw [HPB.out]; simp only [opOk, numOk, nsOk]; grind)
    clear HE
    go_wp2_with fail
    go_ret
    exact ⟨by rw [H.out]; rfl, B1.out⟩
  case pos =>
  have H := hid (show fieldsB 22 0 0 s ns = true by unfold fieldsB; rw [HPB.out]; simp only [opOk, numOk, nsOk]; grind)
  clear HE
  go_wp2_with fail
  go_loop [5] (fun i => i = .int .i64 0) (fun _ => 0)
  case atStart => rfl
  case round =>
    obtain rfl := hrel
    go_wp2_with fail
    go_ret
    exact ⟨by rw [H.out]; rfl, (by first | exact B1.out | (have hz := B1.out; simpa only [hl] using hz))⟩

set_option maxHeartbeats 6400000 in
set_option maxRecDepth 100000 in
theorem fields_13 (o n : Int) (s : ByteArray) (ns : List ByteArray) (a1 : Option Addr) (q1 : Nat) (a2 : Option Addr) (c2 q2 : Nat) (p : Int) (B : Nat) (w : World) (_hB : B ≤ w.heap.size) (_hS : Hid (StrsIn B (.slice a1 ns.length q1) ns w)) (hns : ns.length ≤ 1000000) :
    Calls Tryd.prog 53 #[.agg #[.int .i64 13, .int .i64 o, .int .i64 n, .string s, .slice a1 ns.length q1, .slice a2 c2 q2, .int .i64 p]] w fun e w' =>
      e = .returned (.bool (fieldsB 13 o n s ns)) ∧ Below w.heap.size w w' := by
  have AL := hid (box1_below w (.cells #[.int .i64 13, .int .i64 o, .int .i64 n, .string s, .slice a1 ns.length q1, .slice a2 c2 q2, .int .i64 p] 25))
  have X := hid (box_new w 13 o n s (.slice a1 ns.length q1) (.slice a2 c2 q2) p)
  have HE := hid (empty_size s)
  by_cases ho : o = 0
  case neg =>
    have eo : (o != 0) = true := bne_iff_ne.2 ho
    have H := hid (show fieldsB 13 o n s ns = false by have he := HE.out; simp only [fieldsB, opOk, numOk, strOk, nsOk, properB, propB]; grind [sign_none])
    clear HE
    go_enter Tryd.func53, Tryd.ntmps53
    go_wp2_with fail
    go_ret
    exact ⟨by rw [H.out]; rfl, AL.out⟩
  case pos =>
  subst ho
  by_cases hn : n = 0
  case neg =>
    have en : (n != 0) = true := bne_iff_ne.2 hn
    have H := hid (show fieldsB 13 0 n s ns = false by have he := HE.out; simp only [fieldsB, opOk, numOk, strOk, nsOk, properB, propB]; grind)
    clear HE
    go_enter Tryd.func53, Tryd.ntmps53
    go_wp2_with fail
    go_ret
    exact ⟨by rw [H.out]; rfl, AL.out⟩
  case pos =>
  subst hn
  go_enter Tryd.func53, Tryd.ntmps53
  go_wp2_with fail
  refine (refisname_calls s _).mono ?_
  rintro e w1 ⟨rfl, rfl⟩
  have HPB := hid (show strOk 13 s = nameB s.data.toList from rfl)
  generalize nameB s.data.toList = pb at *
  cases pb
  case false =>
    have H := hid (show fieldsB 13 0 0 s ns = false by unfold fieldsB; rw [HPB.out]; simp)
    clear HE
    go_wp2_with fail
    go_ret
    exact ⟨by rw [H.out]; rfl, AL.out⟩
  case true =>
  by_cases hl : ns.length = 0
  case neg =>
    have dl : decide ((0 : Int) < (ns.length : Int)) = true := decide_eq_true (by omega)
    have H := hid (show fieldsB 13 0 0 s ns = false by unfold fieldsB; rw [HPB.out]; simp only [opOk, numOk, nsOk]; grind)
    clear HE
    go_wp2_with fail
    go_ret
    exact ⟨by rw [H.out]; rfl, AL.out⟩
  case pos =>
  have H := hid (show fieldsB 13 0 0 s ns = true by unfold fieldsB; rw [HPB.out]; simp only [opOk, numOk, nsOk]; grind)
  clear HE
  go_wp2_with fail
  go_loop [5] (fun i => i = .int .i64 0) (fun _ => 0)
  case atStart => rfl
  case round =>
    obtain rfl := hrel
    go_wp2_with fail
    go_ret
    exact ⟨by rw [H.out]; rfl, (by first | exact AL.out | (have hz := AL.out; simpa only [hl] using hz))⟩

set_option maxHeartbeats 6400000 in
set_option maxRecDepth 100000 in
theorem fields_16 (o n : Int) (s : ByteArray) (ns : List ByteArray) (a1 : Option Addr) (q1 : Nat) (a2 : Option Addr) (c2 q2 : Nat) (p : Int) (B : Nat) (w : World) (_hB : B ≤ w.heap.size) (_hS : Hid (StrsIn B (.slice a1 ns.length q1) ns w)) (hns : ns.length ≤ 1000000) :
    Calls Tryd.prog 53 #[.agg #[.int .i64 16, .int .i64 o, .int .i64 n, .string s, .slice a1 ns.length q1, .slice a2 c2 q2, .int .i64 p]] w fun e w' =>
      e = .returned (.bool (fieldsB 16 o n s ns)) ∧ Below w.heap.size w w' := by
  have AL := hid (box1_below w (.cells #[.int .i64 16, .int .i64 o, .int .i64 n, .string s, .slice a1 ns.length q1, .slice a2 c2 q2, .int .i64 p] 25))
  have X := hid (box_new w 16 o n s (.slice a1 ns.length q1) (.slice a2 c2 q2) p)
  have HE := hid (empty_size s)
  by_cases ho : o = 0
  case neg =>
    have eo : (o != 0) = true := bne_iff_ne.2 ho
    have H := hid (show fieldsB 16 o n s ns = false by have he := HE.out; simp only [fieldsB, opOk, numOk, strOk, nsOk, properB, propB]; grind [sign_none])
    clear HE
    go_enter Tryd.func53, Tryd.ntmps53
    go_wp2_with fail
    go_ret
    exact ⟨by rw [H.out]; rfl, AL.out⟩
  case pos =>
  subst ho
  by_cases hn : n = 0
  case neg =>
    have en : (n != 0) = true := bne_iff_ne.2 hn
    have H := hid (show fieldsB 16 0 n s ns = false by have he := HE.out; simp only [fieldsB, opOk, numOk, strOk, nsOk, properB, propB]; grind)
    clear HE
    go_enter Tryd.func53, Tryd.ntmps53
    go_wp2_with fail
    go_ret
    exact ⟨by rw [H.out]; rfl, AL.out⟩
  case pos =>
  subst hn
  go_enter Tryd.func53, Tryd.ntmps53
  go_wp2_with fail
  refine (refisname_calls s _).mono ?_
  rintro e w1 ⟨rfl, rfl⟩
  have HPB := hid (show strOk 16 s = nameB s.data.toList from rfl)
  generalize nameB s.data.toList = pb at *
  cases pb
  case false =>
    have H := hid (show fieldsB 16 0 0 s ns = false by unfold fieldsB; rw [HPB.out]; simp)
    clear HE
    go_wp2_with fail
    go_ret
    exact ⟨by rw [H.out]; rfl, AL.out⟩
  case true =>
  by_cases hl : ns.length = 0
  case neg =>
    have dl : decide ((0 : Int) < (ns.length : Int)) = true := decide_eq_true (by omega)
    have H := hid (show fieldsB 16 0 0 s ns = false by unfold fieldsB; rw [HPB.out]; simp only [opOk, numOk, nsOk]; grind)
    clear HE
    go_wp2_with fail
    go_ret
    exact ⟨by rw [H.out]; rfl, AL.out⟩
  case pos =>
  have H := hid (show fieldsB 16 0 0 s ns = true by unfold fieldsB; rw [HPB.out]; simp only [opOk, numOk, nsOk]; grind)
  clear HE
  go_wp2_with fail
  go_loop [5] (fun i => i = .int .i64 0) (fun _ => 0)
  case atStart => rfl
  case round =>
    obtain rfl := hrel
    go_wp2_with fail
    go_ret
    exact ⟨by rw [H.out]; rfl, (by first | exact AL.out | (have hz := AL.out; simpa only [hl] using hz))⟩

set_option maxHeartbeats 6400000 in
set_option maxRecDepth 100000 in
theorem fields_23 (o n : Int) (s : ByteArray) (ns : List ByteArray) (a1 : Option Addr) (q1 : Nat) (a2 : Option Addr) (c2 q2 : Nat) (p : Int) (B : Nat) (w : World) (_hB : B ≤ w.heap.size) (_hS : Hid (StrsIn B (.slice a1 ns.length q1) ns w)) (hns : ns.length ≤ 1000000) :
    Calls Tryd.prog 53 #[.agg #[.int .i64 23, .int .i64 o, .int .i64 n, .string s, .slice a1 ns.length q1, .slice a2 c2 q2, .int .i64 p]] w fun e w' =>
      e = .returned (.bool (fieldsB 23 o n s ns)) ∧ Below w.heap.size w w' := by
  have AL := hid (box1_below w (.cells #[.int .i64 23, .int .i64 o, .int .i64 n, .string s, .slice a1 ns.length q1, .slice a2 c2 q2, .int .i64 p] 25))
  have X := hid (box_new w 23 o n s (.slice a1 ns.length q1) (.slice a2 c2 q2) p)
  have HE := hid (empty_size s)
  by_cases ho : o = 0
  case neg =>
    have eo : (o != 0) = true := bne_iff_ne.2 ho
    have H := hid (show fieldsB 23 o n s ns = false by have he := HE.out; simp only [fieldsB, opOk, numOk, strOk, nsOk, properB, propB]; grind [sign_none])
    clear HE
    go_enter Tryd.func53, Tryd.ntmps53
    go_wp2_with fail
    go_ret
    exact ⟨by rw [H.out]; rfl, AL.out⟩
  case pos =>
  subst ho
  by_cases hn : n = 0
  case neg =>
    have en : (n != 0) = true := bne_iff_ne.2 hn
    have H := hid (show fieldsB 23 0 n s ns = false by have he := HE.out; simp only [fieldsB, opOk, numOk, strOk, nsOk, properB, propB]; grind)
    clear HE
    go_enter Tryd.func53, Tryd.ntmps53
    go_wp2_with fail
    go_ret
    exact ⟨by rw [H.out]; rfl, AL.out⟩
  case pos =>
  subst hn
  go_enter Tryd.func53, Tryd.ntmps53
  go_wp2_with fail
  refine (refisname_calls s _).mono ?_
  rintro e w1 ⟨rfl, rfl⟩
  have HPB := hid (show strOk 23 s = nameB s.data.toList from rfl)
  generalize nameB s.data.toList = pb at *
  cases pb
  case false =>
    have H := hid (show fieldsB 23 0 0 s ns = false by unfold fieldsB; rw [HPB.out]; simp)
    clear HE
    go_wp2_with fail
    go_ret
    exact ⟨by rw [H.out]; rfl, AL.out⟩
  case true =>
  by_cases hl : ns.length = 0
  case neg =>
    have dl : decide ((0 : Int) < (ns.length : Int)) = true := decide_eq_true (by omega)
    have H := hid (show fieldsB 23 0 0 s ns = false by unfold fieldsB; rw [HPB.out]; simp only [opOk, numOk, nsOk]; grind)
    clear HE
    go_wp2_with fail
    go_ret
    exact ⟨by rw [H.out]; rfl, AL.out⟩
  case pos =>
  have H := hid (show fieldsB 23 0 0 s ns = true by unfold fieldsB; rw [HPB.out]; simp only [opOk, numOk, nsOk]; grind)
  clear HE
  go_wp2_with fail
  go_loop [5] (fun i => i = .int .i64 0) (fun _ => 0)
  case atStart => rfl
  case round =>
    obtain rfl := hrel
    go_wp2_with fail
    go_ret
    exact ⟨by rw [H.out]; rfl, (by first | exact AL.out | (have hz := AL.out; simpa only [hl] using hz))⟩

set_option maxHeartbeats 6400000 in
set_option maxRecDepth 100000 in
theorem fields_25 (o n : Int) (s : ByteArray) (ns : List ByteArray) (a1 : Option Addr) (q1 : Nat) (a2 : Option Addr) (c2 q2 : Nat) (p : Int) (B : Nat) (w : World) (_hB : B ≤ w.heap.size) (_hS : Hid (StrsIn B (.slice a1 ns.length q1) ns w)) (hns : ns.length ≤ 1000000) :
    Calls Tryd.prog 53 #[.agg #[.int .i64 25, .int .i64 o, .int .i64 n, .string s, .slice a1 ns.length q1, .slice a2 c2 q2, .int .i64 p]] w fun e w' =>
      e = .returned (.bool (fieldsB 25 o n s ns)) ∧ Below w.heap.size w w' := by
  have AL := hid (box1_below w (.cells #[.int .i64 25, .int .i64 o, .int .i64 n, .string s, .slice a1 ns.length q1, .slice a2 c2 q2, .int .i64 p] 25))
  have X := hid (box_new w 25 o n s (.slice a1 ns.length q1) (.slice a2 c2 q2) p)
  have HE := hid (empty_size s)
  by_cases ho : o = 0
  case neg =>
    have eo : (o != 0) = true := bne_iff_ne.2 ho
    have H := hid (show fieldsB 25 o n s ns = false by have he := HE.out; simp only [fieldsB, opOk, numOk, strOk, nsOk, properB, propB]; grind [sign_none])
    clear HE
    go_enter Tryd.func53, Tryd.ntmps53
    go_wp2_with fail
    go_ret
    exact ⟨by rw [H.out]; rfl, AL.out⟩
  case pos =>
  subst ho
  by_cases hn : n = 0
  case neg =>
    have en : (n != 0) = true := bne_iff_ne.2 hn
    have H := hid (show fieldsB 25 0 n s ns = false by have he := HE.out; simp only [fieldsB, opOk, numOk, strOk, nsOk, properB, propB]; grind)
    clear HE
    go_enter Tryd.func53, Tryd.ntmps53
    go_wp2_with fail
    go_ret
    exact ⟨by rw [H.out]; rfl, AL.out⟩
  case pos =>
  subst hn
  go_enter Tryd.func53, Tryd.ntmps53
  go_wp2_with fail
  refine (refisname_calls s _).mono ?_
  rintro e w1 ⟨rfl, rfl⟩
  have HPB := hid (show strOk 25 s = nameB s.data.toList from rfl)
  generalize nameB s.data.toList = pb at *
  cases pb
  case false =>
    have H := hid (show fieldsB 25 0 0 s ns = false by unfold fieldsB; rw [HPB.out]; simp)
    clear HE
    go_wp2_with fail
    go_ret
    exact ⟨by rw [H.out]; rfl, AL.out⟩
  case true =>
  by_cases hl : ns.length = 0
  case neg =>
    have dl : decide ((0 : Int) < (ns.length : Int)) = true := decide_eq_true (by omega)
    have H := hid (show fieldsB 25 0 0 s ns = false by unfold fieldsB; rw [HPB.out]; simp only [opOk, numOk, nsOk]; grind)
    clear HE
    go_wp2_with fail
    go_ret
    exact ⟨by rw [H.out]; rfl, AL.out⟩
  case pos =>
  have H := hid (show fieldsB 25 0 0 s ns = true by unfold fieldsB; rw [HPB.out]; simp only [opOk, numOk, nsOk]; grind)
  clear HE
  go_wp2_with fail
  go_loop [5] (fun i => i = .int .i64 0) (fun _ => 0)
  case atStart => rfl
  case round =>
    obtain rfl := hrel
    go_wp2_with fail
    go_ret
    exact ⟨by rw [H.out]; rfl, (by first | exact AL.out | (have hz := AL.out; simpa only [hl] using hz))⟩

end Go.Proofs.YtenpldenhgpneaaDoor
