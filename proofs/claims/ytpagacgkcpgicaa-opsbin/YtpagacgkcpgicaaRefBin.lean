/- What the document's Bin answers, for any sign and any two values. -/
import Derived.Test.YtpagacgkcpgicaaOpsPlain
import Derived.Test.YtpagacgkcpgicaaRefBins
namespace Go.Proofs.Ytpagacgkcpgicaa
open Go.RowKit

theorem refbin_calls (op : Int) (k n : Int) (s : ByteArray) (k' n' : Int) (s' : ByteArray) (hn1 : -9223372036854775808 ≤ n) (hn2 : n ≤ 9223372036854775807) (hs : s.size ≤ 1000000) (hs' : s'.size ≤ 1000000) (most : Int) (w : World) :
    Calls Try.prog 17 #[.int .i64 op, .agg #[.int .i64 k, .int .i64 n, .string s], .agg #[.int .i64 k', .int .i64 n', .string s'], .int .i64 most] w fun e w' => e = .returned (.tuple #[.agg #[.int .i64 (binOut op k n s k' n' s' most).1, .int .i64 (binOut op k n s k' n' s' most).2.1, .string (binOut op k n s k' n' s' most).2.2.1], .int .i64 (binOut op k n s k' n' s' most).2.2.2]) ∧ Below w.heap.size w w' := by
  rcases bin_cases op with ho | rfl | rfl | ⟨h1, h9⟩
  · rw [show binOut op k n s k' n' s' most = errOut 2 from by unfold binOut; rw [if_pos ho]]
    rcases ho with ho | ho
    · exact refbin_low op k n s k' n' s' ho most w
    · exact refbin_high op k n s k' n' s' ho most w
  · exact refbin_eq k n s k' n' s' most w
  · exact refbin_ne k n s k' n' s' most w
  · rw [bin_out op k n s k' n' s' most h1 h9]
    rcases kind_cases k k' with ⟨rfl, rfl⟩ | ⟨rfl, rfl⟩ | ⟨b2, b3, n2, n3⟩
    · rw [if_pos ⟨rfl, rfl⟩]
      rcases op_cases h1 h9 with rfl | rfl | rfl | rfl | rfl | rfl | rfl | rfl | rfl
      · exact refbin_add n s n' s' most w
      · exact refbin_sub n s n' s' most w
      · exact refbin_mul n s n' s' most w
      · by_cases hz : n' = 0
        · subst hz
          exact refbin_div0 n s s' most w
        · rw [show numOut 4 n n' = intOut (W63 (n.tdiv n')) from by simp [numOut, hz]]
          exact refbin_div n s n' s' hz most w
      · by_cases hz : n' = 0
        · subst hz
          exact refbin_mod0 n s s' most w
        · rw [show numOut 5 n n' = intOut (n.tmod n') from by simp [numOut, hz]]
          exact refbin_mod n s n' s' hn1 hn2 hz most w
      · exact refbin_lt n s n' s' most w
      · exact refbin_le n s n' s' most w
      · exact refbin_gt n s n' s' most w
      · exact refbin_ge n s n' s' most w
    · rw [if_neg (by decide), if_pos ⟨rfl, rfl⟩]
      rcases op_cases h1 h9 with rfl | rfl | rfl | rfl | rfl | rfl | rfl | rfl | rfl
      · by_cases hm : most < (s.size : Int) + (s'.size : Int)
        · rw [show strOut 1 s s' most = errOut 43 from by simp [strOut, hm]]
          exact refbin_long n s n' s' hs hs' most hm w
        · rw [show strOut 1 s s' most = (3, 0, s ++ s', 0) from by simp [strOut, hm]]
          exact refbin_cat n s n' s' hs hs' most (by omega) w
      · exact refbin_str2 n s n' s' most w
      · exact refbin_str3 n s n' s' most w
      · exact refbin_str4 n s n' s' most w
      · exact refbin_str5 n s n' s' most w
      · exact refbin_slt n s n' s' hs most w
      · exact refbin_sle n s n' s' hs' most w
      · exact refbin_sgt n s n' s' hs' most w
      · exact refbin_sge n s n' s' hs most w
    · rw [if_neg n2, if_neg n3]
      by_cases hk : k = k'
      · subst hk
        exact refbin_kind op k n s n' s' h1 h9 (bne_iff_ne.2 (by omega)) (bne_iff_ne.2 (by omega)) most w
      · exact refbin_apart op k n s k' n' s' h1 h9 (bne_iff_ne.2 hk) most w

end Go.Proofs.Ytpagacgkcpgicaa
