/- Blanks and notes. -/
import Derived.Test.YtffijiabaeipaaaDoorLexRun
import Derived.Lib.Strings
namespace Go.Proofs.YtffijiabaeipaaaDoor
open Go.RowKit

theorem cut_list (s : ByteArray) (a b : Nat) : (s.extract a b).data.toList = (s.data.toList.drop a).take (b - a) := by
  rw [ByteArray.data_extract, Array.toList_extract, List.extract_eq_take_drop]
theorem cut_size (s : ByteArray) {a b : Nat} (hb : b ≤ s.size) : (s.extract a b).size = b - a := by
  rw [← list_size, cut_list, List.length_take, List.length_drop, list_size]; omega
theorem rest_list (s : ByteArray) (k : Nat) : (s.extract k s.size).data.toList = s.data.toList.drop k := by
  rw [cut_list, List.take_of_length_le]
  rw [List.length_drop, list_size]; exact Nat.le_refl _

def prefB (p l : List UInt8) : Bool := p.isPrefixOf l
theorem pref_short {s p : ByteArray} (h : s.size < p.size) : prefB p.data.toList s.data.toList = false := by
  cases h1 : prefB p.data.toList s.data.toList with
  | false => rfl
  | true =>
    have := (List.isPrefixOf_iff_prefix.1 h1).length_le
    rw [list_size, list_size] at this; omega
theorem pref_long {s p : ByteArray} (_h : p.size ≤ s.size) : ((s.extract 0 p.size).toList == p.toList) = prefB p.data.toList s.data.toList := by
  rw [Lib.toList_data, Lib.toList_data, cut_list, Bool.eq_iff_iff, beq_iff_eq, prefB, List.isPrefixOf_iff_prefix, List.prefix_iff_eq_take, list_size]
  simp only [List.drop_zero, Nat.sub_zero]
  exact eq_comm

theorem hasp_calls (s p : ByteArray) (w : World) :
    Calls Tryd.prog 57 #[.string s, .string p] w fun e w' => e = .returned (.bool (prefB p.data.toList s.data.toList)) ∧ w = w' := by
  by_cases h : p.size ≤ s.size
  · have H := hid (pref_long h)
    go_enter Tryd.func57, Tryd.ntmps57
    go_wp2
    go_ret
    exact ⟨by rw [← H.out]; rfl, rfl⟩
  · have H := hid (pref_short (s := s) (p := p) (by omega))
    go_enter Tryd.func57, Tryd.ntmps57
    go_wp2
    go_ret
    exact ⟨by rw [H.out]; rfl, rfl⟩

theorem hasprefix_calls (s p : ByteArray) (w : World) :
    Calls Tryd.prog 36 #[.string s, .string p] w fun e w' => e = .returned (.bool (prefB p.data.toList s.data.toList)) ∧ w = w' := by
  go_enter Tryd.func36, Tryd.ntmps36
  go_wp2_with fail
  refine (hasp_calls s p _).mono ?_
  rintro e w1 ⟨rfl, rfl⟩
  go_wp2
  go_ret
  exact ⟨rfl, rfl⟩

theorem pref_slashes (l : List UInt8) : prefB [47, 47] l = slashes l := by
  match l with
  | [] => rfl
  | [a] => simp [prefB, slashes, List.isPrefixOf]
  | a :: b :: r =>
    have e : ∀ c : UInt8, ((47 : UInt8) == c) = decide (c.toNat = 47) := by
      intro c
      rw [Bool.eq_iff_iff, beq_iff_eq, decide_eq_true_iff]
      constructor
      · rintro rfl; rfl
      · intro h; exact (UInt8.toNat_inj.1 (by rw [h]; rfl))
    simp [prefB, slashes, List.isPrefixOf, e]

theorem skip_calls (s : ByteArray) (hs : s.size ≤ 1000000) (k : Nat) (hk : k ≤ s.size) (w : World) :
    Calls Tryd.prog 18 #[.string s, .int .i64 k] w fun e w' => e = .returned (.int .i64 (skipTo false s k)) ∧ w = w' := by
  go_enter Tryd.func18, Tryd.ntmps18
  go_wp2
  go_loop [1] (fun i => ∃ j : Nat, k ≤ j ∧ j ≤ s.size ∧ i = .int .i64 j ∧ skipTo false s k = skipTo false s j) (fun i => s.size - (intOf i).toNat)
  case atStart => exact ⟨k, Nat.le_refl _, hk, rfl, rfl⟩
  case round =>
    obtain ⟨j, hkj, hj, rfl, hrun⟩ := hrel
    have h1 := runTo_ge blankN s j
    have h2 := runTo_le (p := blankN) hj
    have hst := fun h => runTo_stop (p := blankN) (s := s) (k := j) h
    have e1 := hrun.trans (skipTo_blanks _ j (Nat.le_refl _))
    generalize hm : runTo blankN s j = m at *
    have Hm := hid hm
    clear hm hrun
    cases hsl : slashes (s.data.toList.drop m) with
    | false =>
      have H := hid (e1.trans (skipTo_off hsl hst))
      have Hp := hid (show prefB [47, 47] (s.extract m s.size).data.toList = false by rw [rest_list, pref_slashes, hsl])
      clear e1 hst hsl
      go_wp2_with fail
      refine (runblank_calls s hs j hj _).mono ?_
      rintro e w1 ⟨rfl, rfl⟩
      rw [Hm.out]
      go_wp2_with fail
      refine (hasprefix_calls _ _ _).mono ?_
      rintro e w1 ⟨rfl, rfl⟩
      rw [Hp.out]
      go_wp2
      go_ret
      exact ⟨by rw [H.out]; rfl, rfl⟩
    | true =>
      have H := hid (e1.trans (skipTo_slashes hsl))
      have Hp := hid (show prefB [47, 47] (s.extract m s.size).data.toList = true by rw [rest_list, pref_slashes, hsl])
      have hml : m < s.size := by
        rcases Nat.lt_or_ge m s.size with h | h
        · exact h
        · rw [drop_end s m h] at hsl; simp [slashes] at hsl
      have h3 : m < runTo noteN s m := by
        have h47 : noteN s[m].toNat = true := by
          rw [drop_byte s m hml] at hsl
          cases hd : s.data.toList.drop (m + 1) with
          | nil => rw [hd] at hsl; simp [slashes] at hsl
          | cons c r => rw [hd] at hsl; simp [slashes] at hsl; simp [noteN, hsl.1]
        rw [runTo_on hml h47]
        have := runTo_ge noteN s (m + 1)
        omega
      have h4 := runTo_le (p := noteN) h2
      clear e1 hst hsl
      go_wp2_with fail
      refine (runblank_calls s hs j hj _).mono ?_
      rintro e w1 ⟨rfl, rfl⟩
      rw [Hm.out]
      go_wp2_with fail
      refine (hasprefix_calls _ _ _).mono ?_
      rintro e w1 ⟨rfl, rfl⟩
      rw [Hp.out]
      go_wp2_with fail
      refine (runnote_calls s hs m h2 _).mono ?_
      rintro e w1 ⟨rfl, rfl⟩
      generalize runTo noteN s m = q at *
      go_wp2
      go_round
      case rel => exact ⟨q, by omega, by omega, by rfl, H.out⟩
      case measure => simp [intOf]; omega

end Go.Proofs.YtffijiabaeipaaaDoor
