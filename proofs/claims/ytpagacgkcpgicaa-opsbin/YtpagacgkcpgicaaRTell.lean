/- What the document's answers that tell of values are, for any value. -/
import Derived.Test.YtpagacgkcpgicaaVTell
namespace Go.Proofs.Ytpagacgkcpgicaa
open Go.RowKit

theorem reftruth_calls (k n : Int) (s : ByteArray) (w : World) :
    Calls Try.prog 31 #[.agg #[.int .i64 k, .int .i64 n, .string s]] w fun e w' => e = .returned (.bool (truthB k n)) ∧ Below w.heap.size w w' := by
  rcases (show k = 0 ∨ k = 1 ∨ (k ≠ 0 ∧ k ≠ 1) from by omega) with rfl | rfl | ⟨h0, h1⟩
  · go_enter Try.func31, Try.ntmps31
    go_wp2
    go_ret
    exact ⟨rfl, box1 _ _⟩
  · by_cases hn : n = 0
    · subst hn
      go_enter Try.func31, Try.ntmps31
      go_wp2
      go_ret
      exact ⟨rfl, box1 _ _⟩
    · have hr := hid (show truthB 1 n = true from by simp [truthB, hn])
      have hn' : (n != 0) = true := bne_iff_ne.2 hn
      go_enter Try.func31, Try.ntmps31
      go_wp2
      go_ret
      exact ⟨by rw [hr.out]; rfl, box1 _ _⟩
  · have hr := hid (show truthB k n = true from by simp [truthB, h0, h1])
    have h1' : (k != 1) = true := bne_iff_ne.2 h1
    go_enter Try.func31, Try.ntmps31
    go_wp2
    go_ret
    exact ⟨by rw [hr.out]; rfl, box1 _ _⟩

theorem refsame_calls (k n : Int) (s : ByteArray) (k' n' : Int) (s' : ByteArray) (w : World) :
    Calls Try.prog 39 #[.agg #[.int .i64 k, .int .i64 n, .string s], .agg #[.int .i64 k', .int .i64 n', .string s']] w fun e w' =>
      e = .returned (.bool (alike k n s.data.toList k' n' s'.data.toList)) ∧ Below w.heap.size w w' := by
  have Hr := hid (show alike k n s.data.toList k' n' s'.data.toList = (k == k' && (n == n' && s.toList == s'.toList)) from by
    rw [Lib.toList_data, Lib.toList_data]; rfl)
  by_cases hk : (k == k') = true
  · by_cases hn : (n == n') = true
    · go_enter Try.func39, Try.ntmps39
      go_wp2
      go_ret
      exact ⟨by rw [Hr.out, hk, hn]; rfl, box2 _ _ _⟩
    · rw [Bool.not_eq_true] at hn
      go_enter Try.func39, Try.ntmps39
      go_wp2
      go_ret
      exact ⟨by rw [Hr.out, hk, hn]; rfl, box2 _ _ _⟩
  · rw [Bool.not_eq_true] at hk
    go_enter Try.func39, Try.ntmps39
    go_wp2
    go_ret
    exact ⟨by rw [Hr.out, hk]; rfl, box2 _ _ _⟩

theorem refright_calls (k n : Int) (h1 : -9223372036854775808 ≤ n) (h2 : n ≤ 9223372036854775807) (s : ByteArray) (w : World) :
    Calls Try.prog 22 #[.agg #[.int .i64 k, .int .i64 n, .string s]] w fun e w' => e = .returned (.bool (rightB k n s.data.toList)) ∧ Below w.heap.size w w' := by
  have hs0 := hid (show decide (s.data.toList = []) = s.toList.isEmpty from by rw [Lib.toList_data, Bool.eq_iff_iff]; simp)
  have HN : ∀ lo hi : Int, decide (lo ≤ n) = false ∨ (decide (lo ≤ n) = true ∧ decide (n ≤ hi) = false) ∨ (decide (lo ≤ n) = true ∧ decide (n ≤ hi) = true) := by
    intro lo hi; by_cases a : lo ≤ n <;> by_cases b : n ≤ hi <;> simp [a, b]
  by_cases hk0 : k = 0
  · subst hk0
    have hr := hid (show rightB 0 n s.data.toList = (decide (0 ≤ n) && (decide (n ≤ 0) && s.toList.isEmpty)) from by
      rw [← hs0.out]; exact right_of (by decide) (counts0 n))
    rcases HN 0 0 with a | ⟨a, b⟩ | ⟨a, b⟩
    · clear HN h1 h2
      go_enter Try.func22, Try.ntmps22
      go_wp2
      go_ret
      exact ⟨by rw [hr.out, a]; rfl, box1 _ _⟩
    · clear HN h1 h2
      go_enter Try.func22, Try.ntmps22
      go_wp2
      go_ret
      exact ⟨by rw [hr.out, a, b]; rfl, box1 _ _⟩
    · clear HN h1 h2
      go_enter Try.func22, Try.ntmps22
      go_wp2
      go_ret
      exact ⟨by rw [hr.out, a, b]; rfl, box1 _ _⟩
  by_cases hk1 : k = 1
  · subst hk1
    have hr := hid (show rightB 1 n s.data.toList = (decide (0 ≤ n) && (decide (n ≤ 1) && s.toList.isEmpty)) from by
      rw [← hs0.out]; exact right_of (by decide) (counts1 n))
    rcases HN 0 1 with a | ⟨a, b⟩ | ⟨a, b⟩
    · clear HN h1 h2
      go_enter Try.func22, Try.ntmps22
      go_wp2
      go_ret
      exact ⟨by rw [hr.out, a]; rfl, box1 _ _⟩
    · clear HN h1 h2
      go_enter Try.func22, Try.ntmps22
      go_wp2
      go_ret
      exact ⟨by rw [hr.out, a, b]; rfl, box1 _ _⟩
    · clear HN h1 h2
      go_enter Try.func22, Try.ntmps22
      go_wp2
      go_ret
      exact ⟨by rw [hr.out, a, b]; rfl, box1 _ _⟩
  by_cases hk2 : k = 2
  · subst hk2
    have hr := hid (show rightB 2 n s.data.toList = (decide (-4611686018427387904 ≤ n) && (decide (n ≤ 4611686018427387903) && s.toList.isEmpty)) from by
      rw [← hs0.out]; exact right_of (by decide) (counts2 n))
    rcases HN (-4611686018427387904) 4611686018427387903 with a | ⟨a, b⟩ | ⟨a, b⟩
    · clear HN h1 h2
      go_enter Try.func22, Try.ntmps22
      go_wp2
      go_ret
      exact ⟨by rw [hr.out, a]; rfl, box1 _ _⟩
    · clear HN h1 h2
      go_enter Try.func22, Try.ntmps22
      go_wp2
      go_ret
      exact ⟨by rw [hr.out, a, b]; rfl, box1 _ _⟩
    · clear HN h1 h2
      go_enter Try.func22, Try.ntmps22
      go_wp2
      go_ret
      exact ⟨by rw [hr.out, a, b]; rfl, box1 _ _⟩
  by_cases hk4 : k = 4
  · subst hk4
    have hr := hid (show rightB 4 n s.data.toList = (decide (1 ≤ n) && (decide (n ≤ 9223372036854775807) && s.toList.isEmpty)) from by
      rw [← hs0.out]; exact right_of (by decide) (counts4 n h2))
    rcases HN 1 9223372036854775807 with a | ⟨a, b⟩ | ⟨a, b⟩
    · clear HN h1 h2
      go_enter Try.func22, Try.ntmps22
      go_wp2
      go_ret
      exact ⟨by rw [hr.out, a]; rfl, box1 _ _⟩
    · clear HN h1 h2
      go_enter Try.func22, Try.ntmps22
      go_wp2
      go_ret
      exact ⟨by rw [hr.out, a, b]; rfl, box1 _ _⟩
    · clear HN h1 h2
      go_enter Try.func22, Try.ntmps22
      go_wp2
      go_ret
      exact ⟨by rw [hr.out, a, b]; rfl, box1 _ _⟩
  by_cases hk5 : k = 5
  · subst hk5
    have hr := hid (show rightB 5 n s.data.toList = (decide (0 ≤ n) && (decide (n ≤ 9223372036854775807) && s.toList.isEmpty)) from by
      rw [← hs0.out]; exact right_of (by decide) (counts5 n h2))
    rcases HN 0 9223372036854775807 with a | ⟨a, b⟩ | ⟨a, b⟩
    · clear HN h1 h2
      go_enter Try.func22, Try.ntmps22
      go_wp2
      go_ret
      exact ⟨by rw [hr.out, a]; rfl, box1 _ _⟩
    · clear HN h1 h2
      go_enter Try.func22, Try.ntmps22
      go_wp2
      go_ret
      exact ⟨by rw [hr.out, a, b]; rfl, box1 _ _⟩
    · clear HN h1 h2
      go_enter Try.func22, Try.ntmps22
      go_wp2
      go_ret
      exact ⟨by rw [hr.out, a, b]; rfl, box1 _ _⟩
  by_cases hk3 : k = 3
  · subst hk3
    have hr := hid (show rightB 3 n s.data.toList = (n == 0 && decide ((s.size : Int) ≤ 256)) from by show (n == 0 && decide (s.data.toList.length ≤ 256)) = _; rw [list_size]; congr 1; rw [decide_eq_decide]; omega)
    by_cases hn : n = 0
    · subst hn
      go_enter Try.func22, Try.ntmps22
      go_wp2
      go_ret
      exact ⟨by rw [hr.out]; rfl, box1 _ _⟩
    · have hn' : (n == 0) = false := beq_eq_false_iff_ne.2 hn
      go_enter Try.func22, Try.ntmps22
      go_wp2
      go_ret
      exact ⟨by rw [hr.out, hn']; rfl, box1 _ _⟩
  have hr := hid (show rightB k n s.data.toList = false from by simp [rightB, countsB, hk0, hk1, hk2, hk3, hk4, hk5])
  go_enter Try.func22, Try.ntmps22
  go_wp2
  go_ret
  exact ⟨by rw [hr.out]; rfl, box1 _ _⟩

end Go.Proofs.Ytpagacgkcpgicaa
