/- Whether a node's own fields are those of its kind, as the document asks it (9, 17, 2). -/
import Derived.Test.YtenpldenhgpneaaDoorJoint10
namespace Go.Proofs.YtenpldenhgpneaaDoor
open Go.RowKit


set_option maxHeartbeats 6400000 in
set_option maxRecDepth 100000 in
theorem fields_9 (o n : Int) (s : ByteArray) (ns : List ByteArray) (a1 : Option Addr) (q1 : Nat) (a2 : Option Addr) (c2 q2 : Nat) (p : Int) (B : Nat) (w : World) (_hB : B ≤ w.heap.size) (_hS : Hid (StrsIn B (.slice a1 ns.length q1) ns w)) (hns : ns.length ≤ 1000000) :
    Calls Tryd.prog 53 #[.agg #[.int .i64 9, .int .i64 o, .int .i64 n, .string s, .slice a1 ns.length q1, .slice a2 c2 q2, .int .i64 p]] w fun e w' =>
      e = .returned (.bool (fieldsB 9 o n s ns)) ∧ Below w.heap.size w w' := by
  have AL := hid (box1_below w (.cells #[.int .i64 9, .int .i64 o, .int .i64 n, .string s, .slice a1 ns.length q1, .slice a2 c2 q2, .int .i64 p] 25))
  have X := hid (box_new w 9 o n s (.slice a1 ns.length q1) (.slice a2 c2 q2) p)
  have HE := hid (empty_size s)
  by_cases ho1 : o < 1
  · have H := hid (show fieldsB 9 o n s ns = false by have he := HE.out; simp only [fieldsB, opOk, numOk, strOk, nsOk, properB, propB]; grind [sign_none])
    clear HE
    go_enter Tryd.func53, Tryd.ntmps53
    go_wp2_with fail
    go_ret
    exact ⟨by rw [H.out]; rfl, AL.out⟩
  have do1 : decide (o < 1) = false := decide_eq_false ho1
  by_cases ho2 : 2 < o
  · have H := hid (show fieldsB 9 o n s ns = false by have he := HE.out; simp only [fieldsB, opOk, numOk, strOk, nsOk, properB, propB]; grind [sign_none])
    clear HE
    go_enter Tryd.func53, Tryd.ntmps53
    go_wp2_with fail
    go_ret
    exact ⟨by rw [H.out]; rfl, AL.out⟩
  have do2 : decide (2 < o) = false := decide_eq_false ho2
  by_cases hn : n = 0
  case neg =>
    have en : (n != 0) = true := bne_iff_ne.2 hn
    have H := hid (show fieldsB 9 o n s ns = false by have he := HE.out; simp only [fieldsB, opOk, numOk, strOk, nsOk, properB, propB]; grind)
    clear HE
    go_enter Tryd.func53, Tryd.ntmps53
    go_wp2_with fail
    go_ret
    exact ⟨by rw [H.out]; rfl, AL.out⟩
  case pos =>
  subst hn
  by_cases hse : s.size = 0
  case neg =>
    have es : s.toList.isEmpty = false := by rw [HE.out]; exact decide_eq_false hse
    have H := hid (show fieldsB 9 o 0 s ns = false by have he := HE.out; simp only [fieldsB, opOk, numOk, strOk, nsOk, properB, propB]; grind)
    clear HE
    go_enter Tryd.func53, Tryd.ntmps53
    go_wp2_with fail
    go_ret
    exact ⟨by rw [H.out]; rfl, AL.out⟩
  case pos =>
  have es : s.toList.isEmpty = true := by rw [HE.out]; exact decide_eq_true hse
  by_cases hl : ns.length = 0
  case neg =>
    have dl : decide ((0 : Int) < (ns.length : Int)) = true := decide_eq_true (by omega)
    have H := hid (show fieldsB 9 o 0 s ns = false by have he := HE.out; simp only [fieldsB, opOk, numOk, strOk, nsOk, properB, propB]; grind)
    clear HE
    go_enter Tryd.func53, Tryd.ntmps53
    go_wp2_with fail
    go_ret
    exact ⟨by rw [H.out]; rfl, AL.out⟩
  case pos =>
  have H := hid (show fieldsB 9 o 0 s ns = true by have he := HE.out; simp only [fieldsB, opOk, numOk, strOk, nsOk, properB, propB]; grind)
  clear HE
  go_enter Tryd.func53, Tryd.ntmps53
  go_wp2_with fail
  go_loop [5] (fun i => i = .int .i64 0) (fun _ => 0)
  case atStart => rfl
  case round =>
    obtain rfl := hrel
    go_wp2_with fail
    go_ret
    exact ⟨by rw [H.out]; rfl, (by first | exact AL.out | (have hz := AL.out; simpa only [hl] using hz))⟩

set_option maxHeartbeats 6400000 in
set_option maxRecDepth 100000 in
theorem fields_17 (o n : Int) (s : ByteArray) (ns : List ByteArray) (a1 : Option Addr) (q1 : Nat) (a2 : Option Addr) (c2 q2 : Nat) (p : Int) (B : Nat) (w : World) (_hB : B ≤ w.heap.size) (_hS : Hid (StrsIn B (.slice a1 ns.length q1) ns w)) (hns : ns.length ≤ 1000000) :
    Calls Tryd.prog 53 #[.agg #[.int .i64 17, .int .i64 o, .int .i64 n, .string s, .slice a1 ns.length q1, .slice a2 c2 q2, .int .i64 p]] w fun e w' =>
      e = .returned (.bool (fieldsB 17 o n s ns)) ∧ Below w.heap.size w w' := by
  have AL := hid (box1_below w (.cells #[.int .i64 17, .int .i64 o, .int .i64 n, .string s, .slice a1 ns.length q1, .slice a2 c2 q2, .int .i64 p] 25))
  have X := hid (box_new w 17 o n s (.slice a1 ns.length q1) (.slice a2 c2 q2) p)
  have HE := hid (empty_size s)
  by_cases ho1 : o < 1
  · have H := hid (show fieldsB 17 o n s ns = false by have he := HE.out; simp only [fieldsB, opOk, numOk, strOk, nsOk, properB, propB]; grind [sign_none])
    clear HE
    go_enter Tryd.func53, Tryd.ntmps53
    go_wp2_with fail
    go_ret
    exact ⟨by rw [H.out]; rfl, AL.out⟩
  have do1 : decide (o < 1) = false := decide_eq_false ho1
  by_cases ho2 : 7 < o
  · have H := hid (show fieldsB 17 o n s ns = false by have he := HE.out; simp only [fieldsB, opOk, numOk, strOk, nsOk, properB, propB]; grind [sign_none])
    clear HE
    go_enter Tryd.func53, Tryd.ntmps53
    go_wp2_with fail
    go_ret
    exact ⟨by rw [H.out]; rfl, AL.out⟩
  have do2 : decide (7 < o) = false := decide_eq_false ho2
  by_cases hn : n = 0
  case neg =>
    have en : (n != 0) = true := bne_iff_ne.2 hn
    have H := hid (show fieldsB 17 o n s ns = false by have he := HE.out; simp only [fieldsB, opOk, numOk, strOk, nsOk, properB, propB]; grind)
    clear HE
    go_enter Tryd.func53, Tryd.ntmps53
    go_wp2_with fail
    go_ret
    exact ⟨by rw [H.out]; rfl, AL.out⟩
  case pos =>
  subst hn
  by_cases hse : s.size = 0
  case neg =>
    have es : s.toList.isEmpty = false := by rw [HE.out]; exact decide_eq_false hse
    have H := hid (show fieldsB 17 o 0 s ns = false by have he := HE.out; simp only [fieldsB, opOk, numOk, strOk, nsOk, properB, propB]; grind)
    clear HE
    go_enter Tryd.func53, Tryd.ntmps53
    go_wp2_with fail
    go_ret
    exact ⟨by rw [H.out]; rfl, AL.out⟩
  case pos =>
  have es : s.toList.isEmpty = true := by rw [HE.out]; exact decide_eq_true hse
  by_cases hl : ns.length = 0
  case neg =>
    have dl : decide ((0 : Int) < (ns.length : Int)) = true := decide_eq_true (by omega)
    have H := hid (show fieldsB 17 o 0 s ns = false by have he := HE.out; simp only [fieldsB, opOk, numOk, strOk, nsOk, properB, propB]; grind)
    clear HE
    go_enter Tryd.func53, Tryd.ntmps53
    go_wp2_with fail
    go_ret
    exact ⟨by rw [H.out]; rfl, AL.out⟩
  case pos =>
  have H := hid (show fieldsB 17 o 0 s ns = true by have he := HE.out; simp only [fieldsB, opOk, numOk, strOk, nsOk, properB, propB]; grind)
  clear HE
  go_enter Tryd.func53, Tryd.ntmps53
  go_wp2_with fail
  go_loop [5] (fun i => i = .int .i64 0) (fun _ => 0)
  case atStart => rfl
  case round =>
    obtain rfl := hrel
    go_wp2_with fail
    go_ret
    exact ⟨by rw [H.out]; rfl, (by first | exact AL.out | (have hz := AL.out; simpa only [hl] using hz))⟩

set_option maxHeartbeats 6400000 in
set_option maxRecDepth 100000 in
theorem fields_2 (o n : Int) (s : ByteArray) (ns : List ByteArray) (a1 : Option Addr) (q1 : Nat) (a2 : Option Addr) (c2 q2 : Nat) (p : Int) (B : Nat) (w : World) (_hB : B ≤ w.heap.size) (_hS : Hid (StrsIn B (.slice a1 ns.length q1) ns w)) (hns : ns.length ≤ 1000000) :
    Calls Tryd.prog 53 #[.agg #[.int .i64 2, .int .i64 o, .int .i64 n, .string s, .slice a1 ns.length q1, .slice a2 c2 q2, .int .i64 p]] w fun e w' =>
      e = .returned (.bool (fieldsB 2 o n s ns)) ∧ Below w.heap.size w w' := by
  have AL := hid (box1_below w (.cells #[.int .i64 2, .int .i64 o, .int .i64 n, .string s, .slice a1 ns.length q1, .slice a2 c2 q2, .int .i64 p] 25))
  have X := hid (box_new w 2 o n s (.slice a1 ns.length q1) (.slice a2 c2 q2) p)
  have HE := hid (empty_size s)
  by_cases ho : o = 0
  case neg =>
    have eo : (o != 0) = true := bne_iff_ne.2 ho
    have H := hid (show fieldsB 2 o n s ns = false by have he := HE.out; simp only [fieldsB, opOk, numOk, strOk, nsOk, properB, propB]; grind [sign_none])
    clear HE
    go_enter Tryd.func53, Tryd.ntmps53
    go_wp2_with fail
    go_ret
    exact ⟨by rw [H.out]; rfl, AL.out⟩
  case pos =>
  subst ho
  by_cases hn0 : n ≠ 0 ∧ n ≠ 1
  · obtain ⟨hn1, hn2⟩ := hn0
    have en1 : (n != 0) = true := bne_iff_ne.2 hn1
    have en2 : (n != 1) = true := bne_iff_ne.2 hn2
    have H := hid (show fieldsB 2 0 n s ns = false by have he := HE.out; simp only [fieldsB, opOk, numOk, strOk, nsOk, properB, propB]; grind)
    clear HE
    go_enter Tryd.func53, Tryd.ntmps53
    go_wp2_with fail
    go_ret
    exact ⟨by rw [H.out]; rfl, AL.out⟩
  rcases (show n = 0 ∨ n = 1 from by omega) with rfl | rfl
  · clear hn0
    by_cases hse : s.size = 0
    case neg =>
      have es : s.toList.isEmpty = false := by rw [HE.out]; exact decide_eq_false hse
      have H := hid (show fieldsB 2 0 0 s ns = false by have he := HE.out; simp only [fieldsB, opOk, numOk, strOk, nsOk, properB, propB]; grind)
      clear HE
      go_enter Tryd.func53, Tryd.ntmps53
      go_wp2_with fail
      go_ret
      exact ⟨by rw [H.out]; rfl, AL.out⟩
    case pos =>
    have es : s.toList.isEmpty = true := by rw [HE.out]; exact decide_eq_true hse
    by_cases hl : ns.length = 0
    case neg =>
      have dl : decide ((0 : Int) < (ns.length : Int)) = true := decide_eq_true (by omega)
      have H := hid (show fieldsB 2 0 0 s ns = false by have he := HE.out; simp only [fieldsB, opOk, numOk, strOk, nsOk, properB, propB]; grind)
      clear HE
      go_enter Tryd.func53, Tryd.ntmps53
      go_wp2_with fail
      go_ret
      exact ⟨by rw [H.out]; rfl, AL.out⟩
    case pos =>
    have H := hid (show fieldsB 2 0 0 s ns = true by have he := HE.out; simp only [fieldsB, opOk, numOk, strOk, nsOk, properB, propB]; grind)
    clear HE
    go_enter Tryd.func53, Tryd.ntmps53
    go_wp2_with fail
    go_loop [5] (fun i => i = .int .i64 0) (fun _ => 0)
    case atStart => rfl
    case round =>
      obtain rfl := hrel
      go_wp2_with fail
      go_ret
      exact ⟨by rw [H.out]; rfl, (by first | exact AL.out | (have hz := AL.out; simpa only [hl] using hz))⟩
  · clear hn0
    by_cases hse : s.size = 0
    case neg =>
      have es : s.toList.isEmpty = false := by rw [HE.out]; exact decide_eq_false hse
      have H := hid (show fieldsB 2 0 1 s ns = false by have he := HE.out; simp only [fieldsB, opOk, numOk, strOk, nsOk, properB, propB]; grind)
      clear HE
      go_enter Tryd.func53, Tryd.ntmps53
      go_wp2_with fail
      go_ret
      exact ⟨by rw [H.out]; rfl, AL.out⟩
    case pos =>
    have es : s.toList.isEmpty = true := by rw [HE.out]; exact decide_eq_true hse
    by_cases hl : ns.length = 0
    case neg =>
      have dl : decide ((0 : Int) < (ns.length : Int)) = true := decide_eq_true (by omega)
      have H := hid (show fieldsB 2 0 1 s ns = false by have he := HE.out; simp only [fieldsB, opOk, numOk, strOk, nsOk, properB, propB]; grind)
      clear HE
      go_enter Tryd.func53, Tryd.ntmps53
      go_wp2_with fail
      go_ret
      exact ⟨by rw [H.out]; rfl, AL.out⟩
    case pos =>
    have H := hid (show fieldsB 2 0 1 s ns = true by have he := HE.out; simp only [fieldsB, opOk, numOk, strOk, nsOk, properB, propB]; grind)
    clear HE
    go_enter Tryd.func53, Tryd.ntmps53
    go_wp2_with fail
    go_loop [5] (fun i => i = .int .i64 0) (fun _ => 0)
    case atStart => rfl
    case round =>
      obtain rfl := hrel
      go_wp2_with fail
      go_ret
      exact ⟨by rw [H.out]; rfl, (by first | exact AL.out | (have hz := AL.out; simpa only [hl] using hz))⟩

end Go.Proofs.YtenpldenhgpneaaDoor
