/- What value's other functions answer, for any value. -/
import Derived.Test.YtimhgbcanmgajaaGreatJoint22
import Derived.Test.YtimhgbcanmgajaaGreatTxtQuote
namespace Go.Proofs.YtimhgbcanmgajaaGreat
set_option maxRecDepth 100000
open Go.RowKit

theorem print_calls (k n : Int) (h1 : -9223372036854775808 ≤ n) (h2 : n ≤ 9223372036854775807) (s : ByteArray) (hs : s.size ≤ 1000000) (w : World) :
    Calls Tryz.prog 101 #[.agg #[.int .i64 k, .int .i64 n, .string s]] w fun e w' => e = .returned (.string ⟨(printB k n s.data.toList).toArray⟩) ∧ Below w.heap.size w w' := by
  have hl := digs_length n
  rcases (show k = 3 ∨ k = 4 ∨ k = 5 ∨ (k ≠ 3 ∧ k ≠ 4 ∧ k ≠ 5) from by omega) with rfl | rfl | rfl | ⟨k3, k4, k5⟩
  · have hr := hid (show printB 3 n s.data.toList = quoted s.data.toList from rfl)
    go_enter Tryz.func101, Tryz.ntmps101
    go_wp2_with fail
    refine (quote_calls s hs _).mono ?_
    rintro e w1 ⟨rfl, b1⟩
    go_wp2
    go_ret
    exact ⟨by rw [hr.out]; rfl, below_on (box1 _ _) b1⟩
  · have hr := hid (show printB 4 n s.data.toList = 35 :: digs n from rfl)
    go_enter Tryz.func101, Tryz.ntmps101
    go_wp2_with fail
    refine (digits_calls n h1 h2 _).mono ?_
    rintro e w1 ⟨rfl, b1⟩
    go_wp2
    go_ret
    exact ⟨by rw [hr.out, ← cat_head]; rfl, below_on (box1 _ _) b1⟩
  · have hr := hid (show printB 5 n s.data.toList = 38 :: digs n from rfl)
    go_enter Tryz.func101, Tryz.ntmps101
    go_wp2_with fail
    refine (digits_calls n h1 h2 _).mono ?_
    rintro e w1 ⟨rfl, b1⟩
    go_wp2
    go_ret
    exact ⟨by rw [hr.out, ← cat_head]; rfl, below_on (box1 _ _) b1⟩
  · have hr := hid (show printB k n s.data.toList = showB k n s.data.toList from by simp [printB, k3, k4, k5])
    go_enter Tryz.func101, Tryz.ntmps101
    go_wp2_with fail
    refine (show_calls k n h1 h2 s _).mono ?_
    rintro e w1 ⟨rfl, b1⟩
    go_wp2
    go_ret
    exact ⟨by rw [hr.out]; rfl, below_on (box1 _ _) b1⟩

end Go.Proofs.YtimhgbcanmgajaaGreat
