/- What value's functions that tell answer, for any value. -/
import Derived.Test.YtpagacgkcpgicaaVal
import Derived.Test.YtpagacgkcpgicaaVPlain
namespace Go.Proofs.Ytpagacgkcpgicaa
open Go.RowKit

theorem box1 (w : World) (o : Obj) : Below w.heap.size w (w.alloc o) := (Below.refl _ _).alloc (Nat.le_refl _) _

theorem box2 (w : World) (o o' : Obj) : Below w.heap.size w ((w.alloc o).alloc o') := (box1 w o).alloc (by simp) _

theorem truth_calls (k n : Int) (s : ByteArray) (w : World) :
    Calls Try.prog 27 #[.agg #[.int .i64 k, .int .i64 n, .string s]] w fun e w' => e = .returned (.bool (truthB k n)) ∧ Below w.heap.size w w' := by
  rcases (show k = 0 ∨ k = 1 ∨ (k ≠ 0 ∧ k ≠ 1) from by omega) with rfl | rfl | ⟨h0, h1⟩
  · go_enter Try.func27, Try.ntmps27
    go_wp2
    go_ret
    exact ⟨rfl, box1 _ _⟩
  · by_cases hn : n = 0
    · subst hn
      go_enter Try.func27, Try.ntmps27
      go_wp2
      go_ret
      exact ⟨rfl, box1 _ _⟩
    · have hr := hid (show truthB 1 n = true from by simp [truthB, hn])
      go_enter Try.func27, Try.ntmps27
      go_wp2
      go_ret
      exact ⟨by rw [hr.out]; rfl, box1 _ _⟩
  · have hr := hid (show truthB k n = true from by simp [truthB, h0, h1])
    go_enter Try.func27, Try.ntmps27
    go_wp2
    go_ret
    exact ⟨by rw [hr.out]; rfl, box1 _ _⟩

theorem counts_calls (k n : Int) (w : World) :
    Calls Try.prog 46 #[.int .i64 k, .int .i64 n] w fun e w' => e = .returned (.bool (countsB k n)) ∧ w = w' := by
  rcases (show k = 0 ∨ k = 1 ∨ k = 2 ∨ k = 4 ∨ k = 5 ∨ (k ≠ 0 ∧ k ≠ 1 ∧ k ≠ 2 ∧ k ≠ 4 ∧ k ≠ 5) from by omega) with rfl | rfl | rfl | rfl | rfl | ⟨h0, h1, h2, h4, h5⟩
  · have hr := hid (show countsB 0 n = (n == 0) from rfl)
    go_enter Try.func46, Try.ntmps46
    go_wp2
    go_ret
    exact ⟨by rw [hr.out]; rfl, rfl⟩
  · have hr := hid (show countsB 1 n = (n == 0 || n == 1) from rfl)
    by_cases hn : n = 0
    · subst hn
      go_enter Try.func46, Try.ntmps46
      go_wp2
      go_ret
      exact ⟨by rw [hr.out]; rfl, rfl⟩
    · have hn' : (n == 0) = false := beq_eq_false_iff_ne.2 hn
      go_enter Try.func46, Try.ntmps46
      go_wp2
      go_ret
      exact ⟨by rw [hr.out, hn']; rfl, rfl⟩
  · have hr := hid (show countsB 2 n = (decide (-4611686018427387904 ≤ n) && decide (n ≤ 4611686018427387903)) from rfl)
    by_cases hn : -4611686018427387904 ≤ n
    · have hn' : decide (-4611686018427387904 ≤ n) = true := decide_eq_true hn
      go_enter Try.func46, Try.ntmps46
      go_wp2
      go_ret
      exact ⟨by rw [hr.out, hn']; rfl, rfl⟩
    · have hn' : decide (-4611686018427387904 ≤ n) = false := decide_eq_false hn
      go_enter Try.func46, Try.ntmps46
      go_wp2
      go_ret
      exact ⟨by rw [hr.out, hn']; rfl, rfl⟩
  · by_cases hn : n = 0
    · subst hn
      go_enter Try.func46, Try.ntmps46
      go_wp2
      go_ret
      exact ⟨rfl, rfl⟩
    · have hr := hid (show countsB 4 n = decide (0 ≤ n) from by show decide (1 ≤ n) = _; rw [decide_eq_decide]; omega)
      go_enter Try.func46, Try.ntmps46
      go_wp2
      go_ret
      exact ⟨by rw [hr.out]; rfl, rfl⟩
  · have hr := hid (show countsB 5 n = decide (0 ≤ n) from rfl)
    go_enter Try.func46, Try.ntmps46
    go_wp2
    go_ret
    exact ⟨by rw [hr.out]; rfl, rfl⟩
  · have hr := hid (show countsB k n = false from by simp [countsB, h0, h1, h2, h4, h5])
    go_enter Try.func46, Try.ntmps46
    go_wp2
    go_ret
    exact ⟨by rw [hr.out]; rfl, rfl⟩

theorem right_calls (k n : Int) (s : ByteArray) (w : World) :
    Calls Try.prog 23 #[.agg #[.int .i64 k, .int .i64 n, .string s]] w fun e w' => e = .returned (.bool (rightB k n s.data.toList)) ∧ Below w.heap.size w w' := by
  by_cases hk : k = 3
  · subst hk
    have hr := hid (show rightB 3 n s.data.toList = (n == 0 && decide ((s.size : Int) ≤ 256)) from by show (n == 0 && decide (s.data.toList.length ≤ 256)) = _; rw [list_size]; congr 1; rw [decide_eq_decide]; omega)
    by_cases hn : n = 0
    · subst hn
      go_enter Try.func23, Try.ntmps23
      go_wp2
      go_ret
      exact ⟨by rw [hr.out]; rfl, box1 _ _⟩
    · have hn' : (n == 0) = false := beq_eq_false_iff_ne.2 hn
      go_enter Try.func23, Try.ntmps23
      go_wp2
      go_ret
      exact ⟨by rw [hr.out, hn']; rfl, box1 _ _⟩
  · by_cases hs : s.data.toList = []
    · have hr := hid (show rightB k n s.data.toList = countsB k n from by simp [rightB, hk, hs])
      have hs' : (s.toList == []) = true := by rw [Lib.toList_data, hs]; rfl
      go_enter Try.func23, Try.ntmps23
      go_wp2_with fail
      refine (counts_calls k n _).mono ?_
      rintro e w1 ⟨rfl, rfl⟩
      go_wp2
      go_ret
      exact ⟨by rw [hr.out]; rfl, box1 _ _⟩
    · have hr := hid (show rightB k n s.data.toList = false from by simp [rightB, hk, hs])
      have hs' : (s.toList == []) = false := by rw [Lib.toList_data, beq_eq_false_iff_ne]; exact hs
      go_enter Try.func23, Try.ntmps23
      go_wp2
      go_ret
      exact ⟨by rw [hr.out]; rfl, box1 _ _⟩

theorem same_calls (k n : Int) (s : ByteArray) (k' n' : Int) (s' : ByteArray) (w : World) :
    Calls Try.prog 37 #[.agg #[.int .i64 k, .int .i64 n, .string s], .agg #[.int .i64 k', .int .i64 n', .string s']] w fun e w' =>
      e = .returned (.bool (alike k n s.data.toList k' n' s'.data.toList)) ∧ Below w.heap.size w w' := by
  have Hr := hid (show alike k n s.data.toList k' n' s'.data.toList = (decide (k = k') && (decide (n = n') && decide (s.toList = s'.toList))) from by
    rw [Lib.toList_data, Lib.toList_data, Bool.eq_iff_iff]; simp [alike])
  go_enter Try.func37, Try.ntmps37
  go_wp2
  all_goals (go_ret; refine ⟨?_, box2 _ _ _⟩; rw [Hr.out]; simp [*])

end Go.Proofs.Ytpagacgkcpgicaa
