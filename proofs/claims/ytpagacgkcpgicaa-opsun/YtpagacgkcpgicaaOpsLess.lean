/- Which of two values is ahead of the other: ops' answer and the document's. -/
import Derived.Test.YtpagacgkcpgicaaOps1
import Derived.WalkSmall
import Derived.BigQuiet
namespace Go.Proofs.Ytpagacgkcpgicaa
open Go.RowKit

/-- one string of bytes is ahead of the other -/
def blt (s s' : ByteArray) : Bool := Op.bytesLess s.data.toList s'.data.toList

theorem bl_nil (l : List UInt8) : Op.bytesLess l [] = false := by cases l <;> rfl
theorem bl_nil' (b : UInt8) (l : List UInt8) : Op.bytesLess [] (b :: l) = true := rfl
theorem bl_same (b : UInt8) (l l' : List UInt8) : Op.bytesLess (b :: l) (b :: l') = Op.bytesLess l l' := by
  simp [Op.bytesLess, UInt8.lt_irrefl]
theorem bl_other {a b : UInt8} (h : a.toNat ≠ b.toNat) (l l' : List UInt8) : Op.bytesLess (a :: l) (b :: l') = decide (a.toNat < b.toNat) := by
  have hne : (a == b) = false := beq_eq_false_iff_ne.2 (fun e => h (by rw [e]))
  simp [Op.bytesLess, hne, UInt8.lt_iff_toNat_lt]

theorem bl_end {s s' : ByteArray} {k : Nat} (h : s.size ≤ k ∨ s'.size ≤ k) (hk : k ≤ s.size) (hk' : k ≤ s'.size) :
    Op.bytesLess (s.data.toList.drop k) (s'.data.toList.drop k) = decide (s.size < s'.size) := by
  by_cases h' : s'.size ≤ k
  · rw [drop_end s' k h', bl_nil]
    symm; rw [decide_eq_false_iff_not]; omega
  · rw [drop_end s k (by omega), drop_byte s' k (by omega), bl_nil']
    symm; rw [decide_eq_true_iff]; omega

theorem less_num (n : Int) (s : ByteArray) (k' n' : Int) (s' : ByteArray) (w : World) :
    Calls Try.prog 45 #[.agg #[.int .i64 2, .int .i64 n, .string s], .agg #[.int .i64 k', .int .i64 n', .string s']] w fun e w' =>
      e = .returned (.bool (decide (n < n'))) ∧ Below w.heap.size w w' := by
  go_enter Try.func45, Try.ntmps45
  go_wp2
  go_ret
  exact ⟨rfl, box2 _ _ _⟩

theorem less_str (n : Int) (s : ByteArray) (k' n' : Int) (s' : ByteArray) (hs : s.size ≤ 1000000) (w : World) :
    Calls Try.prog 45 #[.agg #[.int .i64 3, .int .i64 n, .string s], .agg #[.int .i64 k', .int .i64 n', .string s']] w fun e w' =>
      e = .returned (.bool (blt s s')) ∧ Below w.heap.size w w' := by
  have hh := hid (held2p w (.int .i64 3) (.int .i64 n) (.string s) (.int .i64 k') (.int .i64 n') (.string s') 23 23)
  go_enter Try.func45, Try.ntmps45
  go_wp2_with fail
  go_loopw [5] (fun i wr => ∃ k : Nat, k ≤ s.size ∧ k ≤ s'.size ∧ i = .int .i64 k ∧ Op.bytesLess (s.data.toList.drop k) (s'.data.toList.drop k) = blt s s' ∧
      (w.heap.size + 2 ≤ wr.heap.size ∧ Below w.heap.size w wr ∧
      wr.cell? ⟨w.heap.size, 0, none⟩ = some (.int .i64 3) ∧ wr.cell? ⟨w.heap.size, 1, none⟩ = some (.int .i64 n) ∧ wr.cell? ⟨w.heap.size, 2, none⟩ = some (.string s) ∧
      wr.cell? ⟨w.heap.size + 1, 0, none⟩ = some (.int .i64 k') ∧ wr.cell? ⟨w.heap.size + 1, 1, none⟩ = some (.int .i64 n') ∧ wr.cell? ⟨w.heap.size + 1, 2, none⟩ = some (.string s'))) (fun i _ => s.size - (intOf i).toNat)
  case atStart => exact ⟨0, Nat.zero_le _, Nat.zero_le _, rfl, rfl, hh.out⟩
  case round =>
    clear hh
    obtain ⟨k, hk, hk', rfl, hb, hH⟩ := hrel
    have Hb := hid hb
    have H := hid hH
    obtain ⟨_, _, _, _, c2, _, _, d2⟩ := hH
    clear hb
    by_cases hl : k < s.size
    · by_cases hl' : k < s'.size
      · by_cases he : s[k].toNat = s'[k].toNat
        · have hj : s[k] = s'[k] := UInt8.toNat_inj.1 he
          have Hn := hid (show Op.bytesLess (s.data.toList.drop (k + 1)) (s'.data.toList.drop (k + 1)) = blt s s' from by
            rw [← Hb.out, drop_byte s k hl, drop_byte s' k hl', hj, bl_same])
          have he' : ((s[k].toNat : Int) != (s'[k].toNat : Int)) = false := by rw [he]; simp
          clear Hb hj he
          go_wp2
          go_quiet (fail)
          go_wp2
          go_roundw
          case rel => exact ⟨k + 1, by omega, by omega, by go_num, Hn.out, held2_on H.out (below_drewN (Below.refl _ _) _)⟩
          case measure => simp [intOf]; omega
        · have Hn := hid (show blt s s' = decide (s[k].toNat < s'[k].toNat) from by
            rw [← Hb.out, drop_byte s k hl, drop_byte s' k hl', bl_other he])
          have he' : ((s[k].toNat : Int) != (s'[k].toNat : Int)) = true := by rw [bne_iff_ne]; omega
          clear Hb he
          go_wp2
          go_quiet (fail)
          go_wp2
          go_quiet (fail)
          go_wp2
          go_ret
          exact ⟨by rw [Hn.out]; rfl, (held2_on H.out (below_drewN (below_drewN (Below.refl _ _) _) _)).2.1⟩
      · have Hn := hid (show blt s s' = decide (s.size < s'.size) from by rw [← Hb.out]; exact bl_end (by omega) hk hk')
        clear Hb
        go_wp2
        go_ret
        exact ⟨by rw [Hn.out]; rfl, H.out.2.1⟩
    · have Hn := hid (show blt s s' = decide (s.size < s'.size) from by rw [← Hb.out]; exact bl_end (by omega) hk hk')
      clear Hb
      go_wp2
      go_ret
      exact ⟨by rw [Hn.out]; rfl, H.out.2.1⟩

end Go.Proofs.Ytpagacgkcpgicaa
