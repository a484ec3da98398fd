/- Plain facts on numbers of 63 bits that wrap around: no program in sight. -/
import Derived.WalkKit
namespace Go.Proofs.Ytpagacgkcpgicaa
open Go.RowKit

theorem hide {p : Prop} (h : p) : Hid p := h

/-- the number that wraps of n -/
def W63 (n : Int) : Int := (n + 4611686018427387904) % 9223372036854775808 - 4611686018427387904

theorem W63_lo (n : Int) : -4611686018427387904 ≤ W63 n := by unfold W63; omega
theorem W63_hi (n : Int) : W63 n ≤ 4611686018427387903 := by unfold W63; omega
theorem W63_shift (n : Int) : wrap64 (n * 2) / 2 = W63 n := by unfold wrap64 W63; omega
theorem W63_wrap (n : Int) : W63 (wrap64 n) = W63 n := by unfold wrap64 W63; omega
theorem W63_id {n : Int} (h1 : -4611686018427387904 ≤ n) (h2 : n ≤ 4611686018427387903) : W63 n = n := by unfold W63; omega
theorem W63_W63 (n : Int) : W63 (W63 n) = W63 n := W63_id (W63_lo n) (W63_hi n)
theorem wrap64_lo (n : Int) : -9223372036854775808 ≤ wrap64 n := by unfold wrap64; omega
theorem wrap64_hi (n : Int) : wrap64 n ≤ 9223372036854775807 := by unfold wrap64; omega
theorem W63_up {n : Int} (h : 4611686018427387903 < n) (h2 : n ≤ 9223372036854775807) : n - 4611686018427387903 - 1 - 4611686018427387903 - 1 = W63 n := by unfold W63; omega
theorem W63_down {n : Int} (h : n < -4611686018427387904) (h2 : -9223372036854775808 ≤ n) : n + 4611686018427387903 + 1 + 4611686018427387903 + 1 = W63 n := by unfold W63; omega

/-- W63 n and n part by a multiple of 2^63 -/
theorem W63_turn (n : Int) : ∃ k : Int, W63 n = n + 9223372036854775808 * k :=
  ⟨-((n + 4611686018427387904) / 9223372036854775808), by unfold W63; omega⟩
theorem W63_of_turn {a b : Int} (k : Int) (h : a = b + 9223372036854775808 * k) : W63 a = W63 b := by unfold W63; omega

theorem W63_add (a b : Int) : W63 (W63 a + W63 b) = W63 (a + b) := by unfold W63; omega
theorem W63_sub (a b : Int) : W63 (W63 a - W63 b) = W63 (a - b) := by unfold W63; omega
theorem W63_addl (a b : Int) : W63 (W63 a + b) = W63 (a + b) := by unfold W63; omega
theorem W63_addr (a b : Int) : W63 (a + W63 b) = W63 (a + b) := by unfold W63; omega
theorem W63_mull (a b : Int) : W63 (W63 a * b) = W63 (a * b) := by
  obtain ⟨k, hk⟩ := W63_turn a
  refine W63_of_turn (k * b) ?_
  rw [hk, Int.add_mul, Int.mul_assoc]
theorem W63_mulr (a b : Int) : W63 (a * W63 b) = W63 (a * b) := by
  rw [Int.mul_comm, W63_mull, Int.mul_comm]
theorem W63_mul (a b : Int) : W63 (W63 a * W63 b) = W63 (a * b) := by rw [W63_mull, W63_mulr]

end Go.Proofs.Ytpagacgkcpgicaa
