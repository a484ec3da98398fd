/- Bytes and runs of bytes. Blanks and notes. -/
import Derived.Test.YtijbiedblahmhaaDoorJoint1
import Derived.Test.YtijbiedblahmhaaDoorJoint13
import Derived.Lib.Strings
namespace Go.Proofs.YtijbiedblahmhaaDoor
open Go.RowKit

theorem ldigit_calls (n : Nat) (w : World) :
    Calls Tryd.prog 25 #[.int .u8 (n : Int)] w fun e w' => e = .returned (.bool (digitN n)) ∧ w = w' := by
  rcases (show n < 48 ∨ (48 ≤ n ∧ n ≤ 57) ∨ 57 < n from by omega) with h | ⟨h1, h2⟩ | h
  · have H := hid (show digitN n = false by simp [digitN]; omega)
    go_enter Tryd.func25, Tryd.ntmps25
    go_wp2
    go_ret
    exact ⟨by rw [H.out]; rfl, rfl⟩
  · have H := hid (show digitN n = true by simp [digitN]; omega)
    have d : decide ((n : Int) ≤ 57) = true := decide_eq_true (by omega)
    go_enter Tryd.func25, Tryd.ntmps25
    go_wp2
    go_ret
    exact ⟨by rw [H.out]; rfl, rfl⟩
  · have H := hid (show digitN n = false by simp [digitN]; omega)
    have d : decide ((n : Int) ≤ 57) = false := decide_eq_false (by omega)
    go_enter Tryd.func25, Tryd.ntmps25
    go_wp2
    go_ret
    exact ⟨by rw [H.out]; rfl, rfl⟩

theorem lletter_calls (n : Nat) (w : World) :
    Calls Tryd.prog 23 #[.int .u8 (n : Int)] w fun e w' => e = .returned (.bool (letterN n)) ∧ w = w' := by
  rcases (show n < 65 ∨ (65 ≤ n ∧ n ≤ 90) ∨ (91 ≤ n ∧ n ≤ 94) ∨ n = 95 ∨ n = 96 ∨ (97 ≤ n ∧ n ≤ 122) ∨ 122 < n from by omega) with h | h | h | h | h | h | h
  · have H := hid (show letterN n = false by simp [letterN]; omega)
    have e : ((n : Int) == 95) = false := beq_eq_false_iff_ne.2 (by omega)
    go_enter Tryd.func23, Tryd.ntmps23
    go_wp2
    go_ret
    exact ⟨by rw [H.out]; rfl, rfl⟩
  · have H := hid (show letterN n = true by simp [letterN]; omega)
    obtain ⟨h1, h2⟩ := h
    go_enter Tryd.func23, Tryd.ntmps23
    go_wp2
    go_ret
    exact ⟨by rw [H.out]; rfl, rfl⟩
  · have H := hid (show letterN n = false by simp [letterN]; omega)
    have e : ((n : Int) == 95) = false := beq_eq_false_iff_ne.2 (by omega)
    obtain ⟨h1, h2⟩ := h
    have d : decide ((n : Int) ≤ 90) = false := decide_eq_false (by omega)
    go_enter Tryd.func23, Tryd.ntmps23
    go_wp2
    go_ret
    exact ⟨by rw [H.out]; rfl, rfl⟩
  · subst h
    go_enter Tryd.func23, Tryd.ntmps23
    go_wp2
    go_ret
    exact ⟨rfl, rfl⟩
  · subst h
    go_enter Tryd.func23, Tryd.ntmps23
    go_wp2
    go_ret
    exact ⟨rfl, rfl⟩
  · have H := hid (show letterN n = true by simp [letterN]; omega)
    obtain ⟨h1, h2⟩ := h
    go_enter Tryd.func23, Tryd.ntmps23
    go_wp2
    go_ret
    exact ⟨by rw [H.out]; rfl, rfl⟩
  · have H := hid (show letterN n = false by simp [letterN]; omega)
    have e : ((n : Int) == 95) = false := beq_eq_false_iff_ne.2 (by omega)
    have d : decide ((n : Int) ≤ 90) = false := decide_eq_false (by omega)
    have d2 : decide ((n : Int) ≤ 122) = false := decide_eq_false (by omega)
    go_enter Tryd.func23, Tryd.ntmps23
    go_wp2
    go_ret
    exact ⟨by rw [H.out]; rfl, rfl⟩


theorem blank_calls (n : Nat) (w : World) :
    Calls Tryd.prog 20 #[.int .u8 (n : Int)] w fun e w' => e = .returned (.bool (blankN n)) ∧ w = w' := by
  rcases (show n = 32 ∨ n = 10 ∨ n = 9 ∨ (n ≠ 32 ∧ n ≠ 10 ∧ n ≠ 9) from by omega) with rfl | rfl | rfl | ⟨h1, h2, h3⟩
  · go_enter Tryd.func20, Tryd.ntmps20
    go_wp2
    go_ret
    exact ⟨rfl, rfl⟩
  · go_enter Tryd.func20, Tryd.ntmps20
    go_wp2
    go_ret
    exact ⟨rfl, rfl⟩
  · go_enter Tryd.func20, Tryd.ntmps20
    go_wp2
    go_ret
    exact ⟨rfl, rfl⟩
  · have H := hid (show blankN n = false by simp [blankN, h1, h2, h3])
    have e1 : ((n : Int) == 32) = false := beq_eq_false_iff_ne.2 (by omega)
    have e2 : ((n : Int) == 10) = false := beq_eq_false_iff_ne.2 (by omega)
    have e3 : ((n : Int) == 9) = false := beq_eq_false_iff_ne.2 (by omega)
    go_enter Tryd.func20, Tryd.ntmps20
    go_wp2
    go_ret
    exact ⟨by rw [H.out]; rfl, rfl⟩

theorem note_calls (n : Nat) (w : World) :
    Calls Tryd.prog 22 #[.int .u8 (n : Int)] w fun e w' => e = .returned (.bool (noteN n)) ∧ w = w' := by
  rcases (show n = 10 ∨ n ≠ 10 from by omega) with rfl | h
  · go_enter Tryd.func22, Tryd.ntmps22
    go_wp2
    go_ret
    exact ⟨rfl, rfl⟩
  · have H := hid (show noteN n = true by simp [noteN, h])
    have e2 : ((n : Int) != 10) = true := by rw [bne_iff_ne]; omega
    go_enter Tryd.func22, Tryd.ntmps22
    go_wp2
    go_ret
    exact ⟨by rw [H.out]; rfl, rfl⟩

theorem inword_calls (n : Nat) (w : World) :
    Calls Tryd.prog 36 #[.int .u8 (n : Int)] w fun e w' => e = .returned (.bool (wordN n)) ∧ w = w' := by
  cases h1 : letterN n with
  | true =>
    have H := hid (show wordN n = true by simp [wordN, h1])
    have H1 := hid h1
    clear h1
    go_enter Tryd.func36, Tryd.ntmps36
    go_wp2_with fail
    refine (lletter_calls n _).mono ?_
    rintro e w1 ⟨rfl, rfl⟩
    rw [H1.out]
    go_wp2
    go_ret
    exact ⟨by rw [H.out]; rfl, rfl⟩
  | false =>
    have H := hid (show wordN n = digitN n by simp [wordN, h1])
    have H1 := hid h1
    clear h1
    go_enter Tryd.func36, Tryd.ntmps36
    go_wp2_with fail
    refine (lletter_calls n _).mono ?_
    rintro e w1 ⟨rfl, rfl⟩
    rw [H1.out]
    go_wp2_with fail
    refine (ldigit_calls n _).mono ?_
    rintro e w1 ⟨rfl, rfl⟩
    go_wp2
    go_ret
    exact ⟨by rw [H.out]; rfl, rfl⟩

theorem runblank_calls
    (s : ByteArray) (hs : s.size ≤ 1000000) (k : Nat) (hk : k ≤ s.size) (w : World) :
    Calls Tryd.prog 19 #[.string s, .int .i64 k, .func (.func 20) #[] #[]] w fun e w' => e = .returned (.int .i64 (runTo blankN s k)) ∧ w = w' := by
  go_enter Tryd.func19, Tryd.ntmps19
  go_wp2
  go_loop [1] (fun i => ∃ j : Nat, k ≤ j ∧ j ≤ s.size ∧ i = .int .i64 j ∧ runTo blankN s k = runTo blankN s j) (fun i => s.size - (intOf i).toNat)
  case atStart => exact ⟨k, Nat.le_refl _, hk, rfl, rfl⟩
  case round =>
    obtain ⟨j, hkj, hj, rfl, hrun⟩ := hrel
    by_cases hjl : j < s.size
    · cases hpj : blankN s[j].toNat with
      | true =>
        have H := hid (hrun.trans (runTo_on hjl hpj))
        have Hp := hid hpj
        clear hrun hpj
        go_wp2_with fail
        refine (blank_calls _ _).mono ?_
        rintro e w1 ⟨rfl, rfl⟩
        rw [Hp.out]
        go_wp2
        go_round
        case rel => exact ⟨j + 1, by omega, by omega, by go_num, H.out⟩
        case measure => simp [intOf]; omega
      | false =>
        have H := hid (hrun.trans (runTo_off hjl hpj))
        have Hp := hid hpj
        clear hrun hpj
        go_wp2_with fail
        refine (blank_calls _ _).mono ?_
        rintro e w1 ⟨rfl, rfl⟩
        rw [Hp.out]
        go_wp2
        go_ret
        exact ⟨by rw [H.out]; rfl, rfl⟩
    · have H := hid (hrun.trans (runTo_end (by omega)))
      clear hrun
      go_wp2
      go_ret
      exact ⟨by rw [H.out]; rfl, rfl⟩

theorem runnote_calls
    (s : ByteArray) (hs : s.size ≤ 1000000) (k : Nat) (hk : k ≤ s.size) (w : World) :
    Calls Tryd.prog 19 #[.string s, .int .i64 k, .func (.func 22) #[] #[]] w fun e w' => e = .returned (.int .i64 (runTo noteN s k)) ∧ w = w' := by
  go_enter Tryd.func19, Tryd.ntmps19
  go_wp2
  go_loop [1] (fun i => ∃ j : Nat, k ≤ j ∧ j ≤ s.size ∧ i = .int .i64 j ∧ runTo noteN s k = runTo noteN s j) (fun i => s.size - (intOf i).toNat)
  case atStart => exact ⟨k, Nat.le_refl _, hk, rfl, rfl⟩
  case round =>
    obtain ⟨j, hkj, hj, rfl, hrun⟩ := hrel
    by_cases hjl : j < s.size
    · cases hpj : noteN s[j].toNat with
      | true =>
        have H := hid (hrun.trans (runTo_on hjl hpj))
        have Hp := hid hpj
        clear hrun hpj
        go_wp2_with fail
        refine (note_calls _ _).mono ?_
        rintro e w1 ⟨rfl, rfl⟩
        rw [Hp.out]
        go_wp2
        go_round
        case rel => exact ⟨j + 1, by omega, by omega, by go_num, H.out⟩
        case measure => simp [intOf]; omega
      | false =>
        have H := hid (hrun.trans (runTo_off hjl hpj))
        have Hp := hid hpj
        clear hrun hpj
        go_wp2_with fail
        refine (note_calls _ _).mono ?_
        rintro e w1 ⟨rfl, rfl⟩
        rw [Hp.out]
        go_wp2
        go_ret
        exact ⟨by rw [H.out]; rfl, rfl⟩
    · have H := hid (hrun.trans (runTo_end (by omega)))
      clear hrun
      go_wp2
      go_ret
      exact ⟨by rw [H.out]; rfl, rfl⟩

theorem runword_calls
    (s : ByteArray) (hs : s.size ≤ 1000000) (k : Nat) (hk : k ≤ s.size) (w : World) :
    Calls Tryd.prog 19 #[.string s, .int .i64 k, .func (.func 36) #[] #[]] w fun e w' => e = .returned (.int .i64 (runTo wordN s k)) ∧ w = w' := by
  go_enter Tryd.func19, Tryd.ntmps19
  go_wp2
  go_loop [1] (fun i => ∃ j : Nat, k ≤ j ∧ j ≤ s.size ∧ i = .int .i64 j ∧ runTo wordN s k = runTo wordN s j) (fun i => s.size - (intOf i).toNat)
  case atStart => exact ⟨k, Nat.le_refl _, hk, rfl, rfl⟩
  case round =>
    obtain ⟨j, hkj, hj, rfl, hrun⟩ := hrel
    by_cases hjl : j < s.size
    · cases hpj : wordN s[j].toNat with
      | true =>
        have H := hid (hrun.trans (runTo_on hjl hpj))
        have Hp := hid hpj
        clear hrun hpj
        go_wp2_with fail
        refine (inword_calls _ _).mono ?_
        rintro e w1 ⟨rfl, rfl⟩
        rw [Hp.out]
        go_wp2
        go_round
        case rel => exact ⟨j + 1, by omega, by omega, by go_num, H.out⟩
        case measure => simp [intOf]; omega
      | false =>
        have H := hid (hrun.trans (runTo_off hjl hpj))
        have Hp := hid hpj
        clear hrun hpj
        go_wp2_with fail
        refine (inword_calls _ _).mono ?_
        rintro e w1 ⟨rfl, rfl⟩
        rw [Hp.out]
        go_wp2
        go_ret
        exact ⟨by rw [H.out]; rfl, rfl⟩
    · have H := hid (hrun.trans (runTo_end (by omega)))
      clear hrun
      go_wp2
      go_ret
      exact ⟨by rw [H.out]; rfl, rfl⟩

theorem rundigit_calls
    (s : ByteArray) (hs : s.size ≤ 1000000) (k : Nat) (hk : k ≤ s.size) (w : World) :
    Calls Tryd.prog 19 #[.string s, .int .i64 k, .func (.func 25) #[] #[]] w fun e w' => e = .returned (.int .i64 (runTo digitN s k)) ∧ w = w' := by
  go_enter Tryd.func19, Tryd.ntmps19
  go_wp2
  go_loop [1] (fun i => ∃ j : Nat, k ≤ j ∧ j ≤ s.size ∧ i = .int .i64 j ∧ runTo digitN s k = runTo digitN s j) (fun i => s.size - (intOf i).toNat)
  case atStart => exact ⟨k, Nat.le_refl _, hk, rfl, rfl⟩
  case round =>
    obtain ⟨j, hkj, hj, rfl, hrun⟩ := hrel
    by_cases hjl : j < s.size
    · cases hpj : digitN s[j].toNat with
      | true =>
        have H := hid (hrun.trans (runTo_on hjl hpj))
        have Hp := hid hpj
        clear hrun hpj
        go_wp2_with fail
        refine (ldigit_calls _ _).mono ?_
        rintro e w1 ⟨rfl, rfl⟩
        rw [Hp.out]
        go_wp2
        go_round
        case rel => exact ⟨j + 1, by omega, by omega, by go_num, H.out⟩
        case measure => simp [intOf]; omega
      | false =>
        have H := hid (hrun.trans (runTo_off hjl hpj))
        have Hp := hid hpj
        clear hrun hpj
        go_wp2_with fail
        refine (ldigit_calls _ _).mono ?_
        rintro e w1 ⟨rfl, rfl⟩
        rw [Hp.out]
        go_wp2
        go_ret
        exact ⟨by rw [H.out]; rfl, rfl⟩
    · have H := hid (hrun.trans (runTo_end (by omega)))
      clear hrun
      go_wp2
      go_ret
      exact ⟨by rw [H.out]; rfl, rfl⟩

end Go.Proofs.YtijbiedblahmhaaDoor

namespace Go.Proofs.YtijbiedblahmhaaDoor
open Go.RowKit

theorem cut_list (s : ByteArray) (a b : Nat) : (s.extract a b).data.toList = (s.data.toList.drop a).take (b - a) := by
  rw [ByteArray.data_extract, Array.toList_extract, List.extract_eq_take_drop]
theorem cut_size (s : ByteArray) {a b : Nat} (hb : b ≤ s.size) : (s.extract a b).size = b - a := by
  rw [← list_size, cut_list, List.length_take, List.length_drop, list_size]; omega
theorem rest_list (s : ByteArray) (k : Nat) : (s.extract k s.size).data.toList = s.data.toList.drop k := by
  rw [cut_list, List.take_of_length_le]
  rw [List.length_drop, list_size]; exact Nat.le_refl _

def prefB (p l : List UInt8) : Bool := p.isPrefixOf l
theorem pref_short {s p : ByteArray} (h : s.size < p.size) : prefB p.data.toList s.data.toList = false := by
  cases h1 : prefB p.data.toList s.data.toList with
  | false => rfl
  | true =>
    have := (List.isPrefixOf_iff_prefix.1 h1).length_le
    rw [list_size, list_size] at this; omega
theorem pref_long {s p : ByteArray} (_h : p.size ≤ s.size) : ((s.extract 0 p.size).toList == p.toList) = prefB p.data.toList s.data.toList := by
  rw [Lib.toList_data, Lib.toList_data, cut_list, Bool.eq_iff_iff, beq_iff_eq, prefB, List.isPrefixOf_iff_prefix, List.prefix_iff_eq_take, list_size]
  simp only [List.drop_zero, Nat.sub_zero]
  exact eq_comm

theorem hasp_calls (s p : ByteArray) (w : World) :
    Calls Tryd.prog 35 #[.string s, .string p] w fun e w' => e = .returned (.bool (prefB p.data.toList s.data.toList)) ∧ w = w' := by
  by_cases h : p.size ≤ s.size
  · have H := hid (pref_long h)
    go_enter Tryd.func35, Tryd.ntmps35
    go_wp2
    go_ret
    exact ⟨by rw [← H.out]; rfl, rfl⟩
  · have H := hid (pref_short (s := s) (p := p) (by omega))
    go_enter Tryd.func35, Tryd.ntmps35
    go_wp2
    go_ret
    exact ⟨by rw [H.out]; rfl, rfl⟩

theorem hasprefix_calls (s p : ByteArray) (w : World) :
    Calls Tryd.prog 21 #[.string s, .string p] w fun e w' => e = .returned (.bool (prefB p.data.toList s.data.toList)) ∧ w = w' := by
  go_enter Tryd.func21, Tryd.ntmps21
  go_wp2_with fail
  refine (hasp_calls s p _).mono ?_
  rintro e w1 ⟨rfl, rfl⟩
  go_wp2
  go_ret
  exact ⟨rfl, rfl⟩

theorem pref_slashes (l : List UInt8) : prefB [47, 47] l = slashes l := by
  match l with
  | [] => rfl
  | [a] => simp [prefB, slashes, List.isPrefixOf]
  | a :: b :: r =>
    have e : ∀ c : UInt8, ((47 : UInt8) == c) = decide (c.toNat = 47) := by
      intro c
      rw [Bool.eq_iff_iff, beq_iff_eq, decide_eq_true_iff]
      constructor
      · rintro rfl; rfl
      · intro h; exact (UInt8.toNat_inj.1 (by rw [h]; rfl))
    simp [prefB, slashes, List.isPrefixOf, e]

theorem skip_calls (s : ByteArray) (hs : s.size ≤ 1000000) (k : Nat) (hk : k ≤ s.size) (w : World) :
    Calls Tryd.prog 15 #[.string s, .int .i64 k] w fun e w' => e = .returned (.int .i64 (skipTo false s k)) ∧ w = w' := by
  go_enter Tryd.func15, Tryd.ntmps15
  go_wp2
  go_loop [1] (fun i => ∃ j : Nat, k ≤ j ∧ j ≤ s.size ∧ i = .int .i64 j ∧ skipTo false s k = skipTo false s j) (fun i => s.size - (intOf i).toNat)
  case atStart => exact ⟨k, Nat.le_refl _, hk, rfl, rfl⟩
  case round =>
    obtain ⟨j, hkj, hj, rfl, hrun⟩ := hrel
    have h1 := runTo_ge blankN s j
    have h2 := runTo_le (p := blankN) hj
    have hst := fun h => runTo_stop (p := blankN) (s := s) (k := j) h
    have e1 := hrun.trans (skipTo_blanks _ j (Nat.le_refl _))
    generalize hm : runTo blankN s j = m at *
    have Hm := hid hm
    clear hm hrun
    cases hsl : slashes (s.data.toList.drop m) with
    | false =>
      have H := hid (e1.trans (skipTo_off hsl hst))
      have Hp := hid (show prefB [47, 47] (s.extract m s.size).data.toList = false by rw [rest_list, pref_slashes, hsl])
      clear e1 hst hsl
      go_wp2_with fail
      refine (runblank_calls s hs j hj _).mono ?_
      rintro e w1 ⟨rfl, rfl⟩
      rw [Hm.out]
      go_wp2_with fail
      refine (hasprefix_calls _ _ _).mono ?_
      rintro e w1 ⟨rfl, rfl⟩
      rw [Hp.out]
      go_wp2
      go_ret
      exact ⟨by rw [H.out]; rfl, rfl⟩
    | true =>
      have H := hid (e1.trans (skipTo_slashes hsl))
      have Hp := hid (show prefB [47, 47] (s.extract m s.size).data.toList = true by rw [rest_list, pref_slashes, hsl])
      have hml : m < s.size := by
        rcases Nat.lt_or_ge m s.size with h | h
        · exact h
        · rw [drop_end s m h] at hsl; simp [slashes] at hsl
      have h3 : m < runTo noteN s m := by
        have h47 : noteN s[m].toNat = true := by
          rw [drop_byte s m hml] at hsl
          cases hd : s.data.toList.drop (m + 1) with
          | nil => rw [hd] at hsl; simp [slashes] at hsl
          | cons c r => rw [hd] at hsl; simp [slashes] at hsl; simp [noteN, hsl.1]
        rw [runTo_on hml h47]
        have := runTo_ge noteN s (m + 1)
        omega
      have h4 := runTo_le (p := noteN) h2
      clear e1 hst hsl
      go_wp2_with fail
      refine (runblank_calls s hs j hj _).mono ?_
      rintro e w1 ⟨rfl, rfl⟩
      rw [Hm.out]
      go_wp2_with fail
      refine (hasprefix_calls _ _ _).mono ?_
      rintro e w1 ⟨rfl, rfl⟩
      rw [Hp.out]
      go_wp2_with fail
      refine (runnote_calls s hs m h2 _).mono ?_
      rintro e w1 ⟨rfl, rfl⟩
      generalize runTo noteN s m = q at *
      go_wp2
      go_round
      case rel => exact ⟨q, by omega, by omega, by rfl, H.out⟩
      case measure => simp [intOf]; omega

end Go.Proofs.YtijbiedblahmhaaDoor
