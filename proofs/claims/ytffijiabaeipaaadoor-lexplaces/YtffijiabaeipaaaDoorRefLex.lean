/- The document's tokens, as its own functions read them. -/
import Derived.Test.YtffijiabaeipaaaDoorLexToks
import Derived.Test.YtffijiabaeipaaaDoorRefTake
import Derived.Test.YtffijiabaeipaaaDoorRefDig
namespace Go.Proofs.YtffijiabaeipaaaDoor
open Go.RowKit

theorem skip_in {s : ByteArray} {j : Nat} (h : j < s.size) : skipTo true s j = skipTo (noteN s[j].toNat) s (j + 1) := by
  unfold skipTo; rw [drop_byte s j h]; simp [skipL]; omega
theorem skip_slash {s : ByteArray} {j : Nat} (h : j + 1 < s.size) (h1 : s[j].toNat = 47) (h2 : s[j + 1].toNat = 47) : skipTo false s j = skipTo true s (j + 1) := by
  unfold skipTo; rw [drop_byte s j (by omega), drop_byte s (j + 1) h]; simp [skipL, slashes, h1, h2, noteN]; omega
theorem no_slash {s : ByteArray} {j : Nat} (h : j < s.size) (hn : s[j].toNat ≠ 47 ∨ s.size ≤ j + 1 ∨ ∃ h2 : j + 1 < s.size, s[j + 1].toNat ≠ 47) : slashes (s.data.toList.drop j) = false := by
  rw [drop_byte s j h]
  rcases Nat.lt_or_ge (j + 1) s.size with h2 | h2
  · rw [drop_byte s (j + 1) h2]
    rcases hn with hn | hn | ⟨_, hn⟩
    · simp [slashes, hn]
    · omega
    · simp [slashes, hn]
  · rw [drop_end s (j + 1) h2]; rfl
theorem skip_blank {s : ByteArray} {j : Nat} (h : j < s.size) (hs : slashes (s.data.toList.drop j) = false) (hb : blankN s[j].toNat = true) : skipTo false s j = skipTo false s (j + 1) := by
  unfold skipTo
  rw [drop_byte s j h] at hs ⊢
  simp [skipL, hs, hb]; omega

set_option maxHeartbeats 800000 in
theorem refskip_calls (s : ByteArray) (hs : s.size ≤ 1000000) (k : Nat) (hk : k ≤ s.size) (w : World) :
    Calls Tryd.prog 20 #[.string s, .int .i64 k] w fun e w' => e = .returned (.int .i64 (skipTo false s k)) ∧ w = w' := by
  go_enter Tryd.func20, Tryd.ntmps20
  go_wp2
  go_loop [1, 5] (fun i n => ∃ (j : Nat) (fl : Bool), k ≤ j ∧ j ≤ s.size ∧ i = .int .i64 j ∧ n = .bool fl ∧ skipTo false s k = skipTo fl s j) (fun i _ => s.size - (intOf i).toNat)
  case atStart => exact ⟨k, false, Nat.le_refl _, hk, rfl, rfl, rfl⟩
  case round =>
    obtain ⟨j, fl, hkj, hj, rfl, rfl, hq⟩ := hrel
    by_cases hjl : j < s.size
    · cases fl with
      | true =>
        have h1 := hq.trans (skip_in hjl)
        clear hq
        by_cases h10 : s[j].toNat = 10
        · have H := hid (h1.trans (by rw [show noteN s[j].toNat = false by simp [noteN, h10]]))
          have e1 : ((s[j].toNat : Int) != 10) = false := by rw [bne_eq_false_iff_eq]; omega
          clear h1
          go_wp2
          go_round
          case rel => exact ⟨j + 1, false, by omega, by omega, by go_num, rfl, H.out⟩
          case measure => simp [intOf]; omega
        · have H := hid (h1.trans (by rw [show noteN s[j].toNat = true by simp [noteN, h10]]))
          have e1 : ((s[j].toNat : Int) != 10) = true := by rw [bne_iff_ne]; omega
          clear h1
          go_wp2
          go_round
          case rel => exact ⟨j + 1, true, by omega, by omega, by go_num, rfl, H.out⟩
          case measure => simp [intOf]; omega
      | false =>
        by_cases h47 : s[j].toNat = 47
        · have e1 : ((s[j].toNat : Int) == 47) = true := beq_iff_eq.2 (by omega)
          have f1 : ((s[j].toNat : Int) != 32) = true := by rw [bne_iff_ne]; omega
          have f2 : ((s[j].toNat : Int) != 10) = true := by rw [bne_iff_ne]; omega
          have f3 : ((s[j].toNat : Int) != 9) = true := by rw [bne_iff_ne]; omega
          have hb : blankN s[j].toNat = false := by simp [blankN]; omega
          by_cases hl2 : j + 1 < s.size
          · by_cases h472 : s[j + 1].toNat = 47
            · have H := hid (hq.trans (skip_slash hl2 h47 h472))
              have e2 : ((s[j + 1].toNat : Int) == 47) = true := beq_iff_eq.2 (by omega)
              clear hq hb f1 f2 f3
              go_wp2
              go_round
              case rel => exact ⟨j + 1, true, by omega, by omega, by go_num, rfl, H.out⟩
              case measure => simp [intOf]; omega
            · have H := hid (hq.trans (skipTo_off (no_slash hjl (.inr (.inr ⟨hl2, h472⟩))) (fun _ => hb)))
              have e2 : ((s[j + 1].toNat : Int) == 47) = false := beq_eq_false_iff_ne.2 (by omega)
              clear hq hb
              go_wp2
              go_ret
              exact ⟨by rw [H.out]; rfl, rfl⟩
          · have H := hid (hq.trans (skipTo_off (no_slash hjl (.inr (.inl (by omega)))) (fun _ => hb)))
            clear hq hb
            go_wp2
            go_ret
            exact ⟨by rw [H.out]; rfl, rfl⟩
        · have e1 : ((s[j].toNat : Int) == 47) = false := beq_eq_false_iff_ne.2 (by omega)
          have hns := no_slash hjl (.inl h47)
          rcases (show s[j].toNat = 32 ∨ s[j].toNat = 10 ∨ s[j].toNat = 9 ∨ (s[j].toNat ≠ 32 ∧ s[j].toNat ≠ 10 ∧ s[j].toNat ≠ 9) from by omega) with h | h | h | ⟨h1, h2, h3⟩
          · have H := hid (hq.trans (skip_blank hjl hns (by simp [blankN, h])))
            have f1 : ((s[j].toNat : Int) != 32) = false := by rw [bne_eq_false_iff_eq]; omega
            clear hq hns
            go_wp2
            go_round
            case rel => exact ⟨j + 1, false, by omega, by omega, by go_num, rfl, H.out⟩
            case measure => simp [intOf]; omega
          · have H := hid (hq.trans (skip_blank hjl hns (by simp [blankN, h])))
            have f1 : ((s[j].toNat : Int) != 32) = true := by rw [bne_iff_ne]; omega
            have f2 : ((s[j].toNat : Int) != 10) = false := by rw [bne_eq_false_iff_eq]; omega
            clear hq hns
            go_wp2
            go_round
            case rel => exact ⟨j + 1, false, by omega, by omega, by go_num, rfl, H.out⟩
            case measure => simp [intOf]; omega
          · have H := hid (hq.trans (skip_blank hjl hns (by simp [blankN, h])))
            have f1 : ((s[j].toNat : Int) != 32) = true := by rw [bne_iff_ne]; omega
            have f2 : ((s[j].toNat : Int) != 10) = true := by rw [bne_iff_ne]; omega
            have f3 : ((s[j].toNat : Int) != 9) = false := by rw [bne_eq_false_iff_eq]; omega
            clear hq hns
            go_wp2
            go_round
            case rel => exact ⟨j + 1, false, by omega, by omega, by go_num, rfl, H.out⟩
            case measure => simp [intOf]; omega
          · have H := hid (hq.trans (skipTo_off hns (fun _ => by simp [blankN, h1, h2, h3])))
            have f1 : ((s[j].toNat : Int) != 32) = true := by rw [bne_iff_ne]; omega
            have f2 : ((s[j].toNat : Int) != 10) = true := by rw [bne_iff_ne]; omega
            have f3 : ((s[j].toNat : Int) != 9) = true := by rw [bne_iff_ne]; omega
            clear hq hns
            go_wp2
            go_ret
            exact ⟨by rw [H.out]; rfl, rfl⟩
    · have H := hid (hq.trans (show skipTo fl s j = j by unfold skipTo; rw [drop_end s j (by omega)]; cases fl <;> simp [skipL]))
      clear hq
      go_wp2
      go_ret
      exact ⟨by rw [H.out]; rfl, rfl⟩

end Go.Proofs.YtffijiabaeipaaaDoor
