/- A forest that is none. -/
import Derived.Test.YtjnljbhgbkbmlaaShLaw
namespace Go.Proofs.Ytjnljbhgbkbmlaa
set_option linter.unusedSimpArgs false
open Go.RowKit

/-- no forest: nil, or one that no call made -/
def NoFor (v : Value) (w : World) : Prop := v = .pointer none ∨ ∃ d, v = .pointer (some ⟨d, 0, none⟩) ∧ d < w.heap.size ∧ w.cell? ⟨d, 0, none⟩ = some (.pointer none)
theorem noFor_on {v : Value} {a c : World} (h : NoFor v a) (k : Below a.heap.size a c) : NoFor v c := by
  rcases h with h | ⟨d, h1, h2, h3⟩
  · exact .inl h
  · exact .inr ⟨d, h1, Nat.lt_of_lt_of_le h2 k.size, (k.cell (p := ⟨d, 0, none⟩) h2).trans h3⟩
theorem noFor_shape {v : Value} {w : World} (h : NoFor v w) : ∃ a, v = .pointer a := by
  rcases h with rfl | ⟨d, rfl, _⟩
  · exact ⟨_, rfl⟩
  · exact ⟨_, rfl⟩
theorem fmade_no {v : Value} (w : World) (h : NoFor v w) : Calls Try.prog 33 #[v] w fun e w' => e = .returned (.bool false) ∧ w' = w := by
  rcases h with rfl | ⟨d, rfl, _, h⟩
  · go_enter Try.func33, Try.ntmps33
    go_wp2_with fail
    go_ret
    exact ⟨rfl, rfl⟩
  · go_enter Try.func33, Try.ntmps33
    go_wp2_with fail
    go_ret
    exact ⟨rfl, rfl⟩
theorem flen_no {v : Value} (w : World) (h : NoFor v w) : Calls Try.prog 14 #[v] w fun e w' => e = .returned (.int .i64 0) ∧ w' = w := by
  have HD := hid (fmade_no w h)
  obtain ⟨a, rfl⟩ := noFor_shape h
  clear h
  go_enter Try.func14, Try.ntmps14
  go_wp2_with fail
  refine HD.out.mono ?_
  rintro e1 w1 ⟨rfl, rfl⟩
  go_wp2_with fail
  go_ret
  exact ⟨rfl, rfl⟩
theorem fhas_no {v : Value} (w : World) (h : NoFor v w) (id : Int) : Calls Try.prog 34 #[v, .int .i64 id] w fun e w' => e = .returned (.bool false) ∧ w' = w := by
  have HD := hid (flen_no w h)
  obtain ⟨a, rfl⟩ := noFor_shape h
  clear h
  by_cases h1 : 0 < id
  · have d1 : decide (0 < id) = true := decide_eq_true h1
    have d2 : decide (id ≤ 0) = false := decide_eq_false (by omega)
    go_enter Try.func34, Try.ntmps34
    go_wp2_with fail
    refine HD.out.mono ?_
    rintro e1 w1 ⟨rfl, rfl⟩
    go_wp2_with fail
    go_ret
    exact ⟨rfl, rfl⟩
  · have d1 : decide (0 < id) = false := decide_eq_false h1
    go_enter Try.func34, Try.ntmps34
    go_wp2_with fail
    go_ret
    exact ⟨rfl, rfl⟩
theorem froot_no {v : Value} (w : World) (h : NoFor v w) (p : Int) : Calls Try.prog 21 #[v, .int .i64 p] w fun e w' => e = .returned (.int .i64 0) ∧ w' = w := by
  have HD := hid (fmade_no w h)
  obtain ⟨a, rfl⟩ := noFor_shape h
  clear h
  go_enter Try.func21, Try.ntmps21
  go_wp2_with fail
  refine HD.out.mono ?_
  rintro e1 w1 ⟨rfl, rfl⟩
  go_wp2_with fail
  go_ret
  exact ⟨rfl, rfl⟩
theorem fadd_no {v : Value} (w : World) (h : NoFor v w) (id : Int) (x : Int) : Calls Try.prog 22 #[v, .int .i64 id, .int .i64 x] w fun e w' => e = .returned (.int .i64 0) ∧ w' = w := by
  have HD := hid (fhas_no w h id)
  obtain ⟨a, rfl⟩ := noFor_shape h
  clear h
  go_enter Try.func22, Try.ntmps22
  go_wp2_with fail
  refine HD.out.mono ?_
  rintro e1 w1 ⟨rfl, rfl⟩
  go_wp2_with fail
  go_ret
  exact ⟨rfl, rfl⟩
theorem fmove_no {v : Value} (w : World) (h : NoFor v w) (id : Int) (p : Int) : Calls Try.prog 20 #[v, .int .i64 id, .int .i64 p] w fun e w' => e = .returned (.int .i64 0) ∧ w' = w := by
  have HD := hid (fhas_no w h id)
  obtain ⟨a, rfl⟩ := noFor_shape h
  clear h
  go_enter Try.func20, Try.ntmps20
  go_wp2_with fail
  refine HD.out.mono ?_
  rintro e1 w1 ⟨rfl, rfl⟩
  go_wp2_with fail
  go_ret
  exact ⟨rfl, rfl⟩
theorem fslot_no {v : Value} (w : World) (h : NoFor v w) (id : Int) (x : Int) : Calls Try.prog 17 #[v, .int .i64 id, .int .i64 x] w fun e w' => e = .returned (.int .i64 (-1)) ∧ w' = w := by
  have HD := hid (fhas_no w h id)
  obtain ⟨a, rfl⟩ := noFor_shape h
  clear h
  go_enter Try.func17, Try.ntmps17
  go_wp2_with fail
  refine HD.out.mono ?_
  rintro e1 w1 ⟨rfl, rfl⟩
  go_wp2_with fail
  go_ret
  exact ⟨rfl, rfl⟩
theorem fnames_no {v : Value} (w : World) (h : NoFor v w) (id : Int) : Calls Try.prog 16 #[v, .int .i64 id] w fun e w' => e = .returned (.slice none 0 0) ∧ w' = w := by
  have HD := hid (fhas_no w h id)
  obtain ⟨a, rfl⟩ := noFor_shape h
  clear h
  go_enter Try.func16, Try.ntmps16
  go_wp2_with fail
  refine HD.out.mono ?_
  rintro e1 w1 ⟨rfl, rfl⟩
  go_wp2_with fail
  go_ret
  exact ⟨rfl, rfl⟩
theorem fproto_no {v : Value} (w : World) (h : NoFor v w) (id : Int) : Calls Try.prog 15 #[v, .int .i64 id] w fun e w' => e = .returned (.tuple #[.int .i64 0, .bool false]) ∧ w' = w := by
  have HD := hid (fhas_no w h id)
  obtain ⟨a, rfl⟩ := noFor_shape h
  clear h
  go_enter Try.func15, Try.ntmps15
  go_wp2_with fail
  refine HD.out.mono ?_
  rintro e1 w1 ⟨rfl, rfl⟩
  go_wp2_with fail
  go_ret2
  exact ⟨rfl, rfl⟩
theorem fparent_no {v : Value} (w : World) (h : NoFor v w) (id : Int) : Calls Try.prog 19 #[v, .int .i64 id] w fun e w' => e = .returned (.int .i64 0) ∧ w' = w := by
  have HD := hid (fhas_no w h id)
  obtain ⟨a, rfl⟩ := noFor_shape h
  clear h
  go_enter Try.func19, Try.ntmps19
  go_wp2_with fail
  refine HD.out.mono ?_
  rintro e1 w1 ⟨rfl, rfl⟩
  go_wp2_with fail
  go_ret
  exact ⟨rfl, rfl⟩
theorem fsize_no {v : Value} (w : World) (h : NoFor v w) (id : Int) : Calls Try.prog 23 #[v, .int .i64 id] w fun e w' => e = .returned (.int .i64 0) ∧ w' = w := by
  have HD := hid (fhas_no w h id)
  obtain ⟨a, rfl⟩ := noFor_shape h
  clear h
  go_enter Try.func23, Try.ntmps23
  go_wp2_with fail
  refine HD.out.mono ?_
  rintro e1 w1 ⟨rfl, rfl⟩
  go_wp2_with fail
  go_ret
  exact ⟨rfl, rfl⟩

end Go.Proofs.Ytjnljbhgbkbmlaa
