/- What ops.Bin answers, for any sign and any two values. -/
import Derived.Test.YtpagacgkcpgicaaOpsPlain
import Derived.Test.YtpagacgkcpgicaaOpsBins
namespace Go.Proofs.Ytpagacgkcpgicaa
open Go.RowKit

theorem bin_calls (op : Int) (k n : Int) (s : ByteArray) (k' n' : Int) (s' : ByteArray) (hs : s.size ≤ 1000000) (hs' : s'.size ≤ 1000000) (most : Int) (w : World) :
    Calls Try.prog 16 #[.int .i64 op, .agg #[.int .i64 k, .int .i64 n, .string s], .agg #[.int .i64 k', .int .i64 n', .string s'], .int .i64 most] w fun e w' => e = .returned (.tuple #[.agg #[.int .i64 (binOut op k n s k' n' s' most).1, .int .i64 (binOut op k n s k' n' s' most).2.1, .string (binOut op k n s k' n' s' most).2.2.1], .int .i64 (binOut op k n s k' n' s' most).2.2.2]) ∧ Below w.heap.size w w' := by
  rcases bin_cases op with ho | rfl | rfl | ⟨h1, h9⟩
  · rw [show binOut op k n s k' n' s' most = errOut 2 from by unfold binOut; rw [if_pos ho]]
    exact bin_none op ho k n s k' n' s' most w
  · exact bin_eq k n s k' n' s' most w
  · exact bin_ne k n s k' n' s' most w
  · rw [bin_out op k n s k' n' s' most h1 h9]
    rcases kind_cases k k' with ⟨rfl, rfl⟩ | ⟨rfl, rfl⟩ | ⟨b2, b3, n2, n3⟩
    · rw [if_pos ⟨rfl, rfl⟩]
      rcases op_cases h1 h9 with rfl | rfl | rfl | rfl | rfl | rfl | rfl | rfl | rfl
      · exact bin_add 2 n s 2 n' s' most _ _ _ _ (fun w => opsadd_num n s n' s' most w) w
      · exact bin_reckon 2 (by decide) 2 n s 2 n' s' most _ _ _ _ (fun w => reckon_sub n s n' s' w) w
      · exact bin_reckon 3 (by decide) 2 n s 2 n' s' most _ _ _ _ (fun w => reckon_mul n s n' s' w) w
      · by_cases hz : n' = 0
        · subst hz
          exact bin_reckon 4 (by decide) 2 n s 2 0 s' most _ _ _ _ (fun w => reckon_div0 n s s' w) w
        · rw [show numOut 4 n n' = intOut (W63 (n.tdiv n')) from by simp [numOut, hz]]
          exact bin_reckon 4 (by decide) 2 n s 2 n' s' most _ _ _ _ (fun w => reckon_div n s n' s' hz w) w
      · by_cases hz : n' = 0
        · subst hz
          exact bin_reckon 5 (by decide) 2 n s 2 0 s' most _ _ _ _ (fun w => reckon_mod0 n s s' w) w
        · rw [show numOut 5 n n' = intOut (n.tmod n') from by simp [numOut, hz]]
          exact bin_reckon 5 (by decide) 2 n s 2 n' s' most _ _ _ _ (fun w => reckon_mod n s n' s' hz w) w
      · exact bin_lt 2 n s 2 n' s' most _ (fun w => before_num n s n' s' w) w
      · exact bin_le 2 n s 2 n' s' most _ (fun w => before_num n' s' n s w) w
      · exact bin_gt 2 n s 2 n' s' most _ (fun w => before_num n' s' n s w) w
      · exact bin_ge 2 n s 2 n' s' most _ (fun w => before_num n s n' s' w) w
    · rw [if_neg (by decide), if_pos ⟨rfl, rfl⟩]
      rcases op_cases h1 h9 with rfl | rfl | rfl | rfl | rfl | rfl | rfl | rfl | rfl
      · by_cases hm : most < (s.size : Int) + (s'.size : Int)
        · rw [show strOut 1 s s' most = errOut 43 from by simp [strOut, hm]]
          exact bin_add 3 n s 3 n' s' most _ _ _ _ (fun w => opsadd_long n s n' s' most hs hs' hm w) w
        · rw [show strOut 1 s s' most = (3, 0, s ++ s', 0) from by simp [strOut, hm]]
          exact bin_add 3 n s 3 n' s' most _ _ _ _ (fun w => opsadd_str n s n' s' most hs hs' (by omega) w) w
      · exact bin_reckon 2 (by decide) 3 n s 3 n' s' most _ _ _ _ (fun w => reckon_type 2 3 n s 3 n' s' rfl w) w
      · exact bin_reckon 3 (by decide) 3 n s 3 n' s' most _ _ _ _ (fun w => reckon_type 3 3 n s 3 n' s' rfl w) w
      · exact bin_reckon 4 (by decide) 3 n s 3 n' s' most _ _ _ _ (fun w => reckon_type 4 3 n s 3 n' s' rfl w) w
      · exact bin_reckon 5 (by decide) 3 n s 3 n' s' most _ _ _ _ (fun w => reckon_type 5 3 n s 3 n' s' rfl w) w
      · exact bin_lt 3 n s 3 n' s' most _ (fun w => before_str n s n' s' w) w
      · exact bin_le 3 n s 3 n' s' most _ (fun w => before_str n' s' n s w) w
      · exact bin_gt 3 n s 3 n' s' most _ (fun w => before_str n' s' n s w) w
      · exact bin_ge 3 n s 3 n' s' most _ (fun w => before_str n s n' s' w) w
    · rw [if_neg n2, if_neg n3]
      rcases op_cases h1 h9 with rfl | rfl | rfl | rfl | rfl | rfl | rfl | rfl | rfl
      · exact bin_add k n s k' n' s' most _ _ _ _ (fun w => opsadd_type k n s k' n' s' most b2 b3 w) w
      · exact bin_reckon 2 (by decide) k n s k' n' s' most _ _ _ _ (fun w => reckon_type 2 k n s k' n' s' b2 w) w
      · exact bin_reckon 3 (by decide) k n s k' n' s' most _ _ _ _ (fun w => reckon_type 3 k n s k' n' s' b2 w) w
      · exact bin_reckon 4 (by decide) k n s k' n' s' most _ _ _ _ (fun w => reckon_type 4 k n s k' n' s' b2 w) w
      · exact bin_reckon 5 (by decide) k n s k' n' s' most _ _ _ _ (fun w => reckon_type 5 k n s k' n' s' b2 w) w
      · exact bin_lt_type k n s k' n' s' most (fun w => before_type k n s k' n' s' b2 b3 w) w
      · exact bin_le_type k n s k' n' s' most (fun w => before_type k' n' s' k n s (by rw [Bool.and_comm]; exact b2) (by rw [Bool.and_comm]; exact b3) w) w
      · exact bin_gt_type k n s k' n' s' most (fun w => before_type k' n' s' k n s (by rw [Bool.and_comm]; exact b2) (by rw [Bool.and_comm]; exact b3) w) w
      · exact bin_ge_type k n s k' n' s' most (fun w => before_type k n s k' n' s' b2 b3 w) w

end Go.Proofs.Ytpagacgkcpgicaa
