/- What num's and the document's quotients and rests answer, as contracts. -/
import Derived.Test.YtpagacgkcpgicaaNumWalks
namespace Go.Proofs.Ytpagacgkcpgicaa
open Go.RowKit

theorem div_zero (a : Int) (w : World) :
    Calls Try.prog 55 #[.int .i64 a, .int .i64 0] w fun e w' => e = .returned (.tuple #[.int .i64 0, .int .i64 31]) ∧ w = w' := by
  go_enter Try.func55, Try.ntmps55
  go_wp2_with (go_at_call 47; refine (wrap_calls _ _).mono ?_; rintro e w' ⟨rfl, rfl⟩)
  go_ret2
  exact ⟨rfl, rfl⟩

theorem mod_zero (a : Int) (w : World) :
    Calls Try.prog 56 #[.int .i64 a, .int .i64 0] w fun e w' => e = .returned (.tuple #[.int .i64 0, .int .i64 31]) ∧ w = w' := by
  go_enter Try.func56, Try.ntmps56
  go_wp2
  go_ret2
  exact ⟨rfl, rfl⟩

theorem div_calls (a b : Int) (hb : ¬ b = 0) (w : World) :
    Calls Try.prog 55 #[.int .i64 a, .int .i64 b] w fun e w' => e = .returned (.tuple #[.int .i64 (W63 (a.tdiv b)), .int .i64 0]) ∧ w = w' := by
  have hb2 : (b == 0) = false := by simp [hb]
  go_enter Try.func55, Try.ntmps55
  go_wp2_with (go_at_call 47; refine (wrap_calls _ _).mono ?_; rintro e w' ⟨rfl, rfl⟩)
  go_ret2
  exact ⟨by rw [W63_wrap]; rfl, rfl⟩

theorem mod_calls (a b : Int) (hb : ¬ b = 0) (w : World) :
    Calls Try.prog 56 #[.int .i64 a, .int .i64 b] w fun e w' => e = .returned (.tuple #[.int .i64 (a.tmod b), .int .i64 0]) ∧ w = w' := by
  have hb2 : (b == 0) = false := by simp [hb]
  go_enter Try.func56, Try.ntmps56
  go_wp2
  go_ret2
  exact ⟨rfl, rfl⟩

theorem refdiv_zero (a : Int) (w : World) :
    Calls Try.prog 43 #[.int .i64 a, .int .i64 0] w fun e w' => e = .returned (.tuple #[.int .i64 0, .int .i64 31]) ∧ w = w' := by
  go_enter Try.func43, Try.ntmps43
  go_wp2_with fail
  go_ret2
  exact ⟨rfl, rfl⟩

theorem refmod_zero (a : Int) (w : World) :
    Calls Try.prog 44 #[.int .i64 a, .int .i64 0] w fun e w' => e = .returned (.tuple #[.int .i64 0, .int .i64 31]) ∧ w = w' := by
  go_enter Try.func44, Try.ntmps44
  go_wp2
  go_ret2
  exact ⟨rfl, rfl⟩

theorem refdiv_calls (a b : Int) (hb : ¬ b = 0) (w : World) :
    Calls Try.prog 43 #[.int .i64 a, .int .i64 b] w fun e w' => e = .returned (.tuple #[.int .i64 (W63 (a.tdiv b)), .int .i64 0]) ∧ w = w' := by
  have hb2 : (b == 0) = false := by simp [hb]
  by_cases hm : b = -1
  · subst hm
    go_enter Try.func43, Try.ntmps43
    go_wp2_with (first
      | (go_at_call 49; refine (refwrap_calls _ (wrap64_lo _) (wrap64_hi _) _).mono ?_; rintro e w' ⟨rfl, rfl⟩)
      | (go_at_call 33; refine (refneg_calls _ _).mono ?_; rintro e w' ⟨rfl, rfl⟩))
    go_ret2
    exact ⟨by rw [show a.tdiv (-1) = -a from by rw [Int.tdiv_neg, Int.tdiv_one]]; rfl, rfl⟩
  · have hm2 : (b == -1) = false := by simp [hm]
    go_enter Try.func43, Try.ntmps43
    go_wp2_with (first
      | (go_at_call 49; refine (refwrap_calls _ (wrap64_lo _) (wrap64_hi _) _).mono ?_; rintro e w' ⟨rfl, rfl⟩)
      | (go_at_call 33; refine (refneg_calls _ _).mono ?_; rintro e w' ⟨rfl, rfl⟩))
    go_ret2
    exact ⟨by rw [W63_wrap]; rfl, rfl⟩

theorem wrap64_turn (n : Int) : ∃ k : Int, wrap64 n = n + 18446744073709551616 * k :=
  ⟨-((n + 9223372036854775808) / 18446744073709551616), by unfold wrap64; omega⟩
theorem wrap64_of_turn {a b : Int} (k : Int) (h : a = b + 18446744073709551616 * k) : wrap64 a = wrap64 b := by unfold wrap64; omega
theorem wrap64_mull (a b : Int) : wrap64 (wrap64 a * b) = wrap64 (a * b) := by
  obtain ⟨k, hk⟩ := wrap64_turn a
  refine wrap64_of_turn (k * b) ?_
  rw [hk, Int.add_mul, Int.mul_assoc]
theorem wrap64_subr (a b : Int) : wrap64 (a - wrap64 b) = wrap64 (a - b) := by unfold wrap64; omega

theorem rest_in {a b : Int} (h1 : -9223372036854775808 ≤ a) (h2 : a ≤ 9223372036854775807) : wrap64 (a.tmod b) = a.tmod b := by
  have hb : (a.tmod b).natAbs ≤ a.natAbs := by rw [Int.natAbs_tmod]; exact Nat.mod_le _ _
  refine IntWalk.wrap64_in _ ⟨?_, ?_⟩
  · omega
  · by_cases ha : 0 ≤ a
    · omega
    · have : a.tmod b ≤ 0 := by
        have := Int.tmod_nonneg (a := -a) b (by omega)
        rw [Int.neg_tmod] at this
        omega
      omega

theorem rest_is {a b : Int} (h1 : -9223372036854775808 ≤ a) (h2 : a ≤ 9223372036854775807) : wrap64 (a - wrap64 (wrap64 (a.tdiv b) * b)) = a.tmod b := by
  rw [wrap64_subr, wrap64_of_turn (a := a - wrap64 (a.tdiv b) * b) (b := a.tmod b) (-(wrap64_turn (a.tdiv b)).choose * b) ?_, rest_in h1 h2]
  have hk := (wrap64_turn (a.tdiv b)).choose_spec
  generalize (wrap64_turn (a.tdiv b)).choose = k at hk ⊢
  rw [hk, Int.tmod_def, Int.add_mul, Int.mul_comm b, Int.neg_mul, Int.mul_neg, Int.mul_assoc]
  omega

theorem refmod_calls (a b : Int) (h1 : -9223372036854775808 ≤ a) (h2 : a ≤ 9223372036854775807) (hb : ¬ b = 0) (w : World) :
    Calls Try.prog 44 #[.int .i64 a, .int .i64 b] w fun e w' => e = .returned (.tuple #[.int .i64 (a.tmod b), .int .i64 0]) ∧ w = w' := by
  have hb2 : (b == 0) = false := by simp [hb]
  by_cases hm : b = -1
  · subst hm
    go_enter Try.func44, Try.ntmps44
    go_wp2
    go_ret2
    exact ⟨by rw [show a.tmod (-1) = 0 from by rw [Int.tmod_neg, Int.tmod_one]]; rfl, rfl⟩
  · have hm2 : (b == -1) = false := by simp [hm]
    have hr := rest_is (b := b) h1 h2
    have Hr : Hid (wrap64 (a - wrap64 (wrap64 (a.tdiv b) * b)) = a.tmod b) := hr
    clear hr h1 h2
    go_enter Try.func44, Try.ntmps44
    go_wp2
    go_ret2
    exact ⟨by rw [← Hr.out]; rfl, rfl⟩

end Go.Proofs.Ytpagacgkcpgicaa
