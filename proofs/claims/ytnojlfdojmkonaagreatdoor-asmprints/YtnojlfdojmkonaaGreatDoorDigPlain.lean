/- Decimal digits of a whole number: no program in sight. -/
import Derived.WalkKit
namespace Go.Proofs.YtnojlfdojmkonaaGreatDoor
open Go.RowKit

/-- the decimal digits of m, no zeros ahead, as bytes (f: at least as many as there are digits) -/
def dec : Nat → Nat → List UInt8
  | 0, _ => []
  | f + 1, m => if m < 10 then [UInt8.ofNat (48 + m)] else dec f (m / 10) ++ [UInt8.ofNat (48 + m % 10)]

/-- what Digits answers -/
def digs (n : Int) : List UInt8 := if n < 0 then 45 :: dec 20 n.natAbs else dec 20 n.natAbs

theorem dec_small {f r : Nat} (h : r < 10) : dec (f + 1) r = [UInt8.ofNat (48 + r)] := by simp [dec, h]
theorem dec_big {f r : Nat} (h : 10 ≤ r) : dec (f + 1) r = dec f (r / 10) ++ [UInt8.ofNat (48 + r % 10)] := by
  simp [dec, show ¬ r < 10 from by omega]

theorem dig_toNat (r : Nat) : (UInt8.ofNat (48 + r % 10)).toNat = 48 + r % 10 := by
  rw [UInt8.toNat_ofNat']; omega

/-- what stands behind j rounds: the rest r, and the digits acc that were told -/
def Told (m j r : Nat) (acc : List UInt8) : Prop :=
  acc.length = j ∧ j ≤ 19 ∧ r < 10 ^ (19 - j) ∧ (if 1 ≤ j ∧ r = 0 then dec 20 m = acc else dec 20 m = dec (20 - j) r ++ acc)

theorem told_start {m : Nat} (h : m < 10 ^ 19) : Told m 0 m [] := ⟨rfl, by omega, h, by simp⟩

theorem told_lt {m j r : Nat} {acc : List UInt8} (h : Told m j r acc) (hr : 0 < r ∨ j = 0) : j < 19 := by
  obtain ⟨_, h2, h3, _⟩ := h
  rcases hr with hr | hr
  · rcases Nat.lt_or_ge j 19 with h | h
    · exact h
    · have : 19 - j = 0 := by omega
      rw [this] at h3; simp at h3; omega
  · omega

theorem told_step {m j r : Nat} {acc : List UInt8} (h : Told m j r acc) (hr : 0 < r ∨ j = 0) : Told m (j + 1) (r / 10) (UInt8.ofNat (48 + r % 10) :: acc) := by
  have hlt := told_lt h hr
  obtain ⟨h1, h2, h3, h4⟩ := h
  have hn : ¬ (1 ≤ j ∧ r = 0) := by omega
  rw [if_neg hn] at h4
  have e1 : 19 - j = (18 - j) + 1 := by omega
  have e2 : 20 - j = (19 - j) + 1 := by omega
  refine ⟨by simp [h1], by omega, ?_, ?_⟩
  · rw [e1, Nat.pow_succ] at h3
    rw [show 19 - (j + 1) = 18 - j from by omega]
    omega
  · rw [e2] at h4
    by_cases hs : r < 10
    · rw [if_pos ⟨by omega, by omega⟩, h4, dec_small hs, Nat.mod_eq_of_lt hs]; rfl
    · rw [if_neg (by omega), h4, dec_big (by omega), show 20 - (j + 1) = 19 - j from by omega]
      simp

theorem told_end {m j r : Nat} {acc : List UInt8} (h : Told m j r acc) (hr : r = 0) (hj : j ≠ 0) : acc = dec 20 m := by
  obtain ⟨_, _, _, h4⟩ := h
  rw [if_pos ⟨by omega, hr⟩] at h4
  exact h4.symm

theorem dec_length : ∀ (f m : Nat), (dec f m).length ≤ f
  | 0, _ => by simp [dec]
  | f + 1, m => by
    unfold dec; split
    · simp
    · have := dec_length f (m / 10); simp; omega

theorem digs_length (n : Int) : (digs n).length ≤ 21 := by
  have := dec_length 20 n.natAbs
  unfold digs; split
  · simp; omega
  · omega

theorem small_toNat {m : Nat} (h : m < 10) : (UInt8.ofNat (48 + m)).toNat = 48 + m := by rw [UInt8.toNat_ofNat']; omega

theorem dec_fuel : ∀ (f m : Nat), m < 10 ^ (f + 1) → dec (f + 2) m = dec (f + 1) m
  | 0, m, h => by rw [dec_small (by simpa using h), dec_small (by simpa using h)]
  | f + 1, m, h => by
    by_cases hs : m < 10
    · rw [dec_small hs, dec_small hs]
    · have hm : 10 ≤ m := by omega
      rw [dec_big (f := f + 2) hm, dec_big (f := f + 1) hm, dec_fuel f (m / 10) (by rw [Nat.pow_succ] at h; omega)]

theorem dec_split {m : Nat} (h : 10 ≤ m) (hm : m < 10 ^ 20) : dec 20 m = dec 20 (m / 10) ++ dec 20 (m % 10) := by
  rw [dec_fuel 18 (m / 10) (by omega), dec_small (f := 19) (r := m % 10) (by omega), ← dec_big h]

theorem digs_neg_small {n : Int} {m : Nat} (hn : n = -(m : Int)) (h0 : 0 < m) : digs n = 45 :: dec 20 m := by
  unfold digs
  rw [if_pos (by omega), show n.natAbs = m from by omega]

end Go.Proofs.YtnojlfdojmkonaaGreatDoor
