/- Whether a node's own fields are those of its kind, as the document asks it (3, 4, 5, 21). -/
import Derived.Test.YtenpldenhgpneaaDoorJoint10
namespace Go.Proofs.YtenpldenhgpneaaDoor
open Go.RowKit


set_option maxHeartbeats 6400000 in
set_option maxRecDepth 100000 in
theorem fields_3 (o n : Int) (s : ByteArray) (ns : List ByteArray) (a1 : Option Addr) (q1 : Nat) (a2 : Option Addr) (c2 q2 : Nat) (p : Int) (B : Nat) (w : World) (_hB : B ≤ w.heap.size) (_hS : Hid (StrsIn B (.slice a1 ns.length q1) ns w)) (hns : ns.length ≤ 1000000) :
    Calls Tryd.prog 53 #[.agg #[.int .i64 3, .int .i64 o, .int .i64 n, .string s, .slice a1 ns.length q1, .slice a2 c2 q2, .int .i64 p]] w fun e w' =>
      e = .returned (.bool (fieldsB 3 o n s ns)) ∧ Below w.heap.size w w' := by
  have AL := hid (box1_below w (.cells #[.int .i64 3, .int .i64 o, .int .i64 n, .string s, .slice a1 ns.length q1, .slice a2 c2 q2, .int .i64 p] 25))
  have X := hid (box_new w 3 o n s (.slice a1 ns.length q1) (.slice a2 c2 q2) p)
  have HE := hid (empty_size s)
  by_cases ho : o = 0
  case neg =>
    have eo : (o != 0) = true := bne_iff_ne.2 ho
    have H := hid (show fieldsB 3 o n s ns = false by have he := HE.out; simp only [fieldsB, opOk, numOk, strOk, nsOk, properB, propB]; grind [sign_none])
    clear HE
    go_enter Tryd.func53, Tryd.ntmps53
    go_wp2_with fail
    go_ret
    exact ⟨by rw [H.out]; rfl, AL.out⟩
  case pos =>
  subst ho
  by_cases hn1 : n < 0
  · have H := hid (show fieldsB 3 0 n s ns = false by have he := HE.out; simp only [fieldsB, opOk, numOk, strOk, nsOk, properB, propB]; grind)
    clear HE
    go_enter Tryd.func53, Tryd.ntmps53
    go_wp2_with fail
    go_ret
    exact ⟨by rw [H.out]; rfl, AL.out⟩
  have dn1 : decide (n < 0) = false := decide_eq_false hn1
  by_cases hn2 : 4611686018427387903 < n
  · have H := hid (show fieldsB 3 0 n s ns = false by have he := HE.out; simp only [fieldsB, opOk, numOk, strOk, nsOk, properB, propB]; grind)
    clear HE
    go_enter Tryd.func53, Tryd.ntmps53
    go_wp2_with fail
    go_ret
    exact ⟨by rw [H.out]; rfl, AL.out⟩
  have dn2 : decide (4611686018427387903 < n) = false := decide_eq_false hn2
  by_cases hse : s.size = 0
  case neg =>
    have es : s.toList.isEmpty = false := by rw [HE.out]; exact decide_eq_false hse
    have H := hid (show fieldsB 3 0 n s ns = false by have he := HE.out; simp only [fieldsB, opOk, numOk, strOk, nsOk, properB, propB]; grind)
    clear HE
    go_enter Tryd.func53, Tryd.ntmps53
    go_wp2_with fail
    go_ret
    exact ⟨by rw [H.out]; rfl, AL.out⟩
  case pos =>
  have es : s.toList.isEmpty = true := by rw [HE.out]; exact decide_eq_true hse
  by_cases hl : ns.length = 0
  case neg =>
    have dl : decide ((0 : Int) < (ns.length : Int)) = true := decide_eq_true (by omega)
    have H := hid (show fieldsB 3 0 n s ns = false by have he := HE.out; simp only [fieldsB, opOk, numOk, strOk, nsOk, properB, propB]; grind)
    clear HE
    go_enter Tryd.func53, Tryd.ntmps53
    go_wp2_with fail
    go_ret
    exact ⟨by rw [H.out]; rfl, AL.out⟩
  case pos =>
  have H := hid (show fieldsB 3 0 n s ns = true by have he := HE.out; simp only [fieldsB, opOk, numOk, strOk, nsOk, properB, propB]; grind)
  clear HE
  go_enter Tryd.func53, Tryd.ntmps53
  go_wp2_with fail
  go_loop [5] (fun i => i = .int .i64 0) (fun _ => 0)
  case atStart => rfl
  case round =>
    obtain rfl := hrel
    go_wp2_with fail
    go_ret
    exact ⟨by rw [H.out]; rfl, (by first | exact AL.out | (have hz := AL.out; simpa only [hl] using hz))⟩

set_option maxHeartbeats 6400000 in
set_option maxRecDepth 100000 in
theorem fields_4 (o n : Int) (s : ByteArray) (ns : List ByteArray) (a1 : Option Addr) (q1 : Nat) (a2 : Option Addr) (c2 q2 : Nat) (p : Int) (B : Nat) (w : World) (_hB : B ≤ w.heap.size) (_hS : Hid (StrsIn B (.slice a1 ns.length q1) ns w)) (hns : ns.length ≤ 1000000) :
    Calls Tryd.prog 53 #[.agg #[.int .i64 4, .int .i64 o, .int .i64 n, .string s, .slice a1 ns.length q1, .slice a2 c2 q2, .int .i64 p]] w fun e w' =>
      e = .returned (.bool (fieldsB 4 o n s ns)) ∧ Below w.heap.size w w' := by
  have AL := hid (box1_below w (.cells #[.int .i64 4, .int .i64 o, .int .i64 n, .string s, .slice a1 ns.length q1, .slice a2 c2 q2, .int .i64 p] 25))
  have X := hid (box_new w 4 o n s (.slice a1 ns.length q1) (.slice a2 c2 q2) p)
  have HE := hid (empty_size s)
  by_cases ho : o = 0
  case neg =>
    have eo : (o != 0) = true := bne_iff_ne.2 ho
    have H := hid (show fieldsB 4 o n s ns = false by have he := HE.out; simp only [fieldsB, opOk, numOk, strOk, nsOk, properB, propB]; grind [sign_none])
    clear HE
    go_enter Tryd.func53, Tryd.ntmps53
    go_wp2_with fail
    go_ret
    exact ⟨by rw [H.out]; rfl, AL.out⟩
  case pos =>
  subst ho
  by_cases hn : n = 0
  case neg =>
    have en : (n != 0) = true := bne_iff_ne.2 hn
    have H := hid (show fieldsB 4 0 n s ns = false by have he := HE.out; simp only [fieldsB, opOk, numOk, strOk, nsOk, properB, propB]; grind)
    clear HE
    go_enter Tryd.func53, Tryd.ntmps53
    go_wp2_with fail
    go_ret
    exact ⟨by rw [H.out]; rfl, AL.out⟩
  case pos =>
  subst hn
  by_cases hs4 : 256 < s.size
  · have H := hid (show fieldsB 4 0 0 s ns = false by have he := HE.out; simp only [fieldsB, opOk, numOk, strOk, nsOk, properB, propB]; grind)
    clear HE
    go_enter Tryd.func53, Tryd.ntmps53
    go_wp2_with fail
    go_ret
    exact ⟨by rw [H.out]; rfl, AL.out⟩
  have ds4 : decide ((256 : Int) < (s.size : Int)) = false := decide_eq_false (by omega)
  by_cases hl : ns.length = 0
  case neg =>
    have dl : decide ((0 : Int) < (ns.length : Int)) = true := decide_eq_true (by omega)
    have H := hid (show fieldsB 4 0 0 s ns = false by have he := HE.out; simp only [fieldsB, opOk, numOk, strOk, nsOk, properB, propB]; grind)
    clear HE
    go_enter Tryd.func53, Tryd.ntmps53
    go_wp2_with fail
    go_ret
    exact ⟨by rw [H.out]; rfl, AL.out⟩
  case pos =>
  have H := hid (show fieldsB 4 0 0 s ns = true by have he := HE.out; simp only [fieldsB, opOk, numOk, strOk, nsOk, properB, propB]; grind)
  clear HE
  go_enter Tryd.func53, Tryd.ntmps53
  go_wp2_with fail
  go_loop [5] (fun i => i = .int .i64 0) (fun _ => 0)
  case atStart => rfl
  case round =>
    obtain rfl := hrel
    go_wp2_with fail
    go_ret
    exact ⟨by rw [H.out]; rfl, (by first | exact AL.out | (have hz := AL.out; simpa only [hl] using hz))⟩

set_option maxHeartbeats 6400000 in
set_option maxRecDepth 100000 in
theorem fields_5 (o n : Int) (s : ByteArray) (ns : List ByteArray) (a1 : Option Addr) (q1 : Nat) (a2 : Option Addr) (c2 q2 : Nat) (p : Int) (B : Nat) (w : World) (hB : B ≤ w.heap.size) (hS : Hid (StrsIn B (.slice a1 ns.length q1) ns w)) (hns : ns.length ≤ 1000000) :
    Calls Tryd.prog 53 #[.agg #[.int .i64 5, .int .i64 o, .int .i64 n, .string s, .slice a1 ns.length q1, .slice a2 c2 q2, .int .i64 p]] w fun e w' =>
      e = .returned (.bool (fieldsB 5 o n s ns)) ∧ Below w.heap.size w w' := by
  have AL := hid (box1_below w (.cells #[.int .i64 5, .int .i64 o, .int .i64 n, .string s, .slice a1 ns.length q1, .slice a2 c2 q2, .int .i64 p] 25))
  have X := hid (box_new w 5 o n s (.slice a1 ns.length q1) (.slice a2 c2 q2) p)
  have HE := hid (empty_size s)
  by_cases ho : o = 0
  case neg =>
    have eo : (o != 0) = true := bne_iff_ne.2 ho
    have H := hid (show fieldsB 5 o n s ns = false by have he := HE.out; simp only [fieldsB, opOk, numOk, strOk, nsOk, properB, propB]; grind [sign_none])
    clear HE
    go_enter Tryd.func53, Tryd.ntmps53
    go_wp2_with fail
    go_ret
    exact ⟨by rw [H.out]; rfl, AL.out⟩
  case pos =>
  subst ho
  by_cases hn : n = 0
  case neg =>
    have en : (n != 0) = true := bne_iff_ne.2 hn
    have H := hid (show fieldsB 5 0 n s ns = false by have he := HE.out; simp only [fieldsB, opOk, numOk, strOk, nsOk, properB, propB]; grind)
    clear HE
    go_enter Tryd.func53, Tryd.ntmps53
    go_wp2_with fail
    go_ret
    exact ⟨by rw [H.out]; rfl, AL.out⟩
  case pos =>
  subst hn
  go_enter Tryd.func53, Tryd.ntmps53
  go_wp2_with fail
  refine (rname_calls s _).mono ?_
  rintro e w1 ⟨rfl, b1⟩
  have B1 := hid (below_in AL.out (by simp) b1)
  have X1 := hid (box_on X.out b1)
  obtain ⟨c0, c1, c2, c3, c4, c5, c6⟩ := box_cells X1.out
  have T1 := hid (strsIn_on hS.out (B1.out.mono hB))
  clear b1
  have HPB := hid (show strOk 5 s = properB s from rfl)
  generalize properB s = pb at *
  cases pb
  case false =>
    have H := hid (show fieldsB 5 0 0 s ns = false by unfold fieldsB; rw [HPB.out]; simp)
    clear HE
    go_wp2_with fail
    go_ret
    exact ⟨by rw [H.out]; rfl, B1.out⟩
  case true =>
  by_cases hl : ns.length = 0
  case neg =>
    have dl : decide ((0 : Int) < (ns.length : Int)) = true := decide_eq_true (by omega)
    have H := hid (show fieldsB 5 0 0 s ns = false by unfold fieldsB; rw [HPB.out]; simp only [opOk, numOk, nsOk]; grind)
    clear HE
    go_wp2_with fail
    go_ret
    exact ⟨by rw [H.out]; rfl, B1.out⟩
  case pos =>
  have H := hid (show fieldsB 5 0 0 s ns = true by unfold fieldsB; rw [HPB.out]; simp only [opOk, numOk, nsOk]; grind)
  clear HE
  go_wp2_with fail
  go_loop [5] (fun i => i = .int .i64 0) (fun _ => 0)
  case atStart => rfl
  case round =>
    obtain rfl := hrel
    go_wp2_with fail
    go_ret
    exact ⟨by rw [H.out]; rfl, (by first | exact B1.out | (have hz := B1.out; simpa only [hl] using hz))⟩

set_option maxHeartbeats 6400000 in
set_option maxRecDepth 100000 in
theorem fields_21 (o n : Int) (s : ByteArray) (ns : List ByteArray) (a1 : Option Addr) (q1 : Nat) (a2 : Option Addr) (c2 q2 : Nat) (p : Int) (B : Nat) (w : World) (hB : B ≤ w.heap.size) (hS : Hid (StrsIn B (.slice a1 ns.length q1) ns w)) (hns : ns.length ≤ 1000000) :
    Calls Tryd.prog 53 #[.agg #[.int .i64 21, .int .i64 o, .int .i64 n, .string s, .slice a1 ns.length q1, .slice a2 c2 q2, .int .i64 p]] w fun e w' =>
      e = .returned (.bool (fieldsB 21 o n s ns)) ∧ Below w.heap.size w w' := by
  have AL := hid (box1_below w (.cells #[.int .i64 21, .int .i64 o, .int .i64 n, .string s, .slice a1 ns.length q1, .slice a2 c2 q2, .int .i64 p] 25))
  have X := hid (box_new w 21 o n s (.slice a1 ns.length q1) (.slice a2 c2 q2) p)
  have HE := hid (empty_size s)
  by_cases ho : o = 0
  case neg =>
    have eo : (o != 0) = true := bne_iff_ne.2 ho
    have H := hid (show fieldsB 21 o n s ns = false by have he := HE.out; simp only [fieldsB, opOk, numOk, strOk, nsOk, properB, propB]; grind [sign_none])
    clear HE
    go_enter Tryd.func53, Tryd.ntmps53
    go_wp2_with fail
    go_ret
    exact ⟨by rw [H.out]; rfl, AL.out⟩
  case pos =>
  subst ho
  by_cases hn : n = 0
  case neg =>
    have en : (n != 0) = true := bne_iff_ne.2 hn
    have H := hid (show fieldsB 21 0 n s ns = false by have he := HE.out; simp only [fieldsB, opOk, numOk, strOk, nsOk, properB, propB]; grind)
    clear HE
    go_enter Tryd.func53, Tryd.ntmps53
    go_wp2_with fail
    go_ret
    exact ⟨by rw [H.out]; rfl, AL.out⟩
  case pos =>
  subst hn
  go_enter Tryd.func53, Tryd.ntmps53
  go_wp2_with fail
  refine (rname_calls s _).mono ?_
  rintro e w1 ⟨rfl, b1⟩
  have B1 := hid (below_in AL.out (by simp) b1)
  have X1 := hid (box_on X.out b1)
  obtain ⟨c0, c1, c2, c3, c4, c5, c6⟩ := box_cells X1.out
  have T1 := hid (strsIn_on hS.out (B1.out.mono hB))
  clear b1
  have HPB := hid (show strOk 21 s = properB s from rfl)
  generalize properB s = pb at *
  cases pb
  case false =>
    have H := hid (show fieldsB 21 0 0 s ns = false by unfold fieldsB; rw [HPB.out]; simp)
    clear HE
    go_wp2_with fail
    go_ret
    exact ⟨by rw [H.out]; rfl, B1.out⟩
  case true =>
  by_cases hl : ns.length = 0
  case neg =>
    have dl : decide ((0 : Int) < (ns.length : Int)) = true := decide_eq_true (by omega)
    have H := hid (show fieldsB 21 0 0 s ns = false by unfold fieldsB; rw [HPB.out]; simp only [opOk, numOk, nsOk]; grind)
    clear HE
    go_wp2_with fail
    go_ret
    exact ⟨by rw [H.out]; rfl, B1.out⟩
  case pos =>
  have H := hid (show fieldsB 21 0 0 s ns = true by unfold fieldsB; rw [HPB.out]; simp only [opOk, numOk, nsOk]; grind)
  clear HE
  go_wp2_with fail
  go_loop [5] (fun i => i = .int .i64 0) (fun _ => 0)
  case atStart => rfl
  case round =>
    obtain rfl := hrel
    go_wp2_with fail
    go_ret
    exact ⟨by rw [H.out]; rfl, (by first | exact B1.out | (have hz := B1.out; simpa only [hl] using hz))⟩

end Go.Proofs.YtenpldenhgpneaaDoor
