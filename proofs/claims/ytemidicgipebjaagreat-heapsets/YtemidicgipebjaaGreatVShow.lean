/- How value shows a value, for any value. -/
import Derived.Test.YtemidicgipebjaaGreatVTell
import Derived.Test.YtemidicgipebjaaGreatDig
namespace Go.Proofs.YtemidicgipebjaaGreat
set_option maxRecDepth 100000
open Go.RowKit

theorem show_calls (k n : Int) (h1 : -9223372036854775808 ≤ n) (h2 : n ≤ 9223372036854775807) (s : ByteArray) (w : World) :
    Calls Tryz.prog 126 #[.agg #[.int .i64 k, .int .i64 n, .string s]] w fun e w' => e = .returned (.string ⟨(showB k n s.data.toList).toArray⟩) ∧ Below w.heap.size w w' := by
  rcases (show k = 0 ∨ k = 1 ∨ k = 2 ∨ k = 3 ∨ k = 4 ∨ k = 5 ∨ (k ≠ 0 ∧ k ≠ 1 ∧ k ≠ 2 ∧ k ≠ 3 ∧ k ≠ 4 ∧ k ≠ 5) from by omega) with rfl | rfl | rfl | rfl | rfl | rfl | ⟨k0, k1, k2, k3, k4, k5⟩
  · have hr := hid (show showB 0 n s.data.toList = [110, 117, 108, 108] from rfl)
    go_enter Tryz.func126, Tryz.ntmps126
    go_wp2
    go_ret
    exact ⟨by rw [hr.out]; rfl, box1 _ _⟩
  · by_cases hn : n = 0
    · subst hn
      have hr := hid (show showB 1 0 s.data.toList = [102, 97, 108, 115, 101] from rfl)
      go_enter Tryz.func126, Tryz.ntmps126
      go_wp2
      go_ret
      exact ⟨by rw [hr.out]; rfl, box1 _ _⟩
    · have hr := hid (show showB 1 n s.data.toList = [116, 114, 117, 101] from by simp [showB, hn])
      go_enter Tryz.func126, Tryz.ntmps126
      go_wp2
      go_ret
      exact ⟨by rw [hr.out]; rfl, box1 _ _⟩
  · have hr := hid (show showB 2 n s.data.toList = digs n from rfl)
    go_enter Tryz.func126, Tryz.ntmps126
    go_wp2_with fail
    refine (digits_calls n h1 h2 _).mono ?_
    rintro e w1 ⟨rfl, b1⟩
    go_wp2
    go_ret
    exact ⟨by rw [hr.out]; rfl, below_on (box1 _ _) b1⟩
  · have hr := hid (show showB 3 n s.data.toList = s.data.toList from rfl)
    go_enter Tryz.func126, Tryz.ntmps126
    go_wp2
    go_ret
    exact ⟨by rw [hr.out]; rfl, box1 _ _⟩
  · have hr := hid (show showB 4 n s.data.toList = [111, 98, 106, 101, 99, 116] from rfl)
    go_enter Tryz.func126, Tryz.ntmps126
    go_wp2
    go_ret
    exact ⟨by rw [hr.out]; rfl, box1 _ _⟩
  · have hr := hid (show showB 5 n s.data.toList = [102, 117, 110, 99, 116, 105, 111, 110] from rfl)
    go_enter Tryz.func126, Tryz.ntmps126
    go_wp2
    go_ret
    exact ⟨by rw [hr.out]; rfl, box1 _ _⟩
  · have hr := hid (show showB k n s.data.toList = [] from by simp [showB, k0, k1, k2, k3, k4, k5])
    go_enter Tryz.func126, Tryz.ntmps126
    go_wp2
    go_ret
    exact ⟨by rw [hr.out]; rfl, box1 _ _⟩

theorem cat_head (b : UInt8) (l : List UInt8) : (⟨#[b]⟩ : ByteArray) ++ (⟨l.toArray⟩ : ByteArray) = ⟨(b :: l).toArray⟩ := by
  apply ByteArray.ext
  simp

end Go.Proofs.YtemidicgipebjaaGreat
