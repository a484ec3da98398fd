/- Bytes and runs of bytes. -/
import Derived.Test.YtffijiabaeipaaaDoorLexPlain
import Derived.Test.YtffijiabaeipaaaDoorTxtName
namespace Go.Proofs.YtffijiabaeipaaaDoor
open Go.RowKit

theorem ldigit_calls (n : Nat) (w : World) :
    Calls Tryd.prog 40 #[.int .u8 (n : Int)] w fun e w' => e = .returned (.bool (digitN n)) ∧ w = w' := by
  rcases (show n < 48 ∨ (48 ≤ n ∧ n ≤ 57) ∨ 57 < n from by omega) with h | ⟨h1, h2⟩ | h
  · have H := hid (show digitN n = false by simp [digitN]; omega)
    go_enter Tryd.func40, Tryd.ntmps40
    go_wp2
    go_ret
    exact ⟨by rw [H.out]; rfl, rfl⟩
  · have H := hid (show digitN n = true by simp [digitN]; omega)
    have d : decide ((n : Int) ≤ 57) = true := decide_eq_true (by omega)
    go_enter Tryd.func40, Tryd.ntmps40
    go_wp2
    go_ret
    exact ⟨by rw [H.out]; rfl, rfl⟩
  · have H := hid (show digitN n = false by simp [digitN]; omega)
    have d : decide ((n : Int) ≤ 57) = false := decide_eq_false (by omega)
    go_enter Tryd.func40, Tryd.ntmps40
    go_wp2
    go_ret
    exact ⟨by rw [H.out]; rfl, rfl⟩

theorem rdigit_calls (n : Nat) (w : World) :
    Calls Tryd.prog 45 #[.int .u8 (n : Int)] w fun e w' => e = .returned (.bool (digitN n)) ∧ w = w' := by
  rcases (show n < 48 ∨ (48 ≤ n ∧ n ≤ 57) ∨ 57 < n from by omega) with h | ⟨h1, h2⟩ | h
  · have H := hid (show digitN n = false by simp [digitN]; omega)
    go_enter Tryd.func45, Tryd.ntmps45
    go_wp2
    go_ret
    exact ⟨by rw [H.out]; rfl, rfl⟩
  · have H := hid (show digitN n = true by simp [digitN]; omega)
    have d : decide ((n : Int) ≤ 57) = true := decide_eq_true (by omega)
    go_enter Tryd.func45, Tryd.ntmps45
    go_wp2
    go_ret
    exact ⟨by rw [H.out]; rfl, rfl⟩
  · have H := hid (show digitN n = false by simp [digitN]; omega)
    have d : decide ((n : Int) ≤ 57) = false := decide_eq_false (by omega)
    go_enter Tryd.func45, Tryd.ntmps45
    go_wp2
    go_ret
    exact ⟨by rw [H.out]; rfl, rfl⟩

theorem lletter_calls (n : Nat) (w : World) :
    Calls Tryd.prog 38 #[.int .u8 (n : Int)] w fun e w' => e = .returned (.bool (letterN n)) ∧ w = w' := by
  rcases (show n < 65 ∨ (65 ≤ n ∧ n ≤ 90) ∨ (91 ≤ n ∧ n ≤ 94) ∨ n = 95 ∨ n = 96 ∨ (97 ≤ n ∧ n ≤ 122) ∨ 122 < n from by omega) with h | h | h | h | h | h | h
  · have H := hid (show letterN n = false by simp [letterN]; omega)
    have e : ((n : Int) == 95) = false := beq_eq_false_iff_ne.2 (by omega)
    go_enter Tryd.func38, Tryd.ntmps38
    go_wp2
    go_ret
    exact ⟨by rw [H.out]; rfl, rfl⟩
  · have H := hid (show letterN n = true by simp [letterN]; omega)
    obtain ⟨h1, h2⟩ := h
    go_enter Tryd.func38, Tryd.ntmps38
    go_wp2
    go_ret
    exact ⟨by rw [H.out]; rfl, rfl⟩
  · have H := hid (show letterN n = false by simp [letterN]; omega)
    have e : ((n : Int) == 95) = false := beq_eq_false_iff_ne.2 (by omega)
    obtain ⟨h1, h2⟩ := h
    have d : decide ((n : Int) ≤ 90) = false := decide_eq_false (by omega)
    go_enter Tryd.func38, Tryd.ntmps38
    go_wp2
    go_ret
    exact ⟨by rw [H.out]; rfl, rfl⟩
  · subst h
    go_enter Tryd.func38, Tryd.ntmps38
    go_wp2
    go_ret
    exact ⟨rfl, rfl⟩
  · subst h
    go_enter Tryd.func38, Tryd.ntmps38
    go_wp2
    go_ret
    exact ⟨rfl, rfl⟩
  · have H := hid (show letterN n = true by simp [letterN]; omega)
    obtain ⟨h1, h2⟩ := h
    go_enter Tryd.func38, Tryd.ntmps38
    go_wp2
    go_ret
    exact ⟨by rw [H.out]; rfl, rfl⟩
  · have H := hid (show letterN n = false by simp [letterN]; omega)
    have e : ((n : Int) == 95) = false := beq_eq_false_iff_ne.2 (by omega)
    have d : decide ((n : Int) ≤ 90) = false := decide_eq_false (by omega)
    have d2 : decide ((n : Int) ≤ 122) = false := decide_eq_false (by omega)
    go_enter Tryd.func38, Tryd.ntmps38
    go_wp2
    go_ret
    exact ⟨by rw [H.out]; rfl, rfl⟩


theorem rletter_calls (n : Nat) (w : World) :
    Calls Tryd.prog 44 #[.int .u8 (n : Int)] w fun e w' => e = .returned (.bool (letterN n)) ∧ w = w' := by
  rcases (show n < 65 ∨ (65 ≤ n ∧ n ≤ 90) ∨ (91 ≤ n ∧ n ≤ 94) ∨ n = 95 ∨ n = 96 ∨ (97 ≤ n ∧ n ≤ 122) ∨ 122 < n from by omega) with h | h | h | h | h | h | h
  · have H := hid (show letterN n = false by simp [letterN]; omega)
    have e : ((n : Int) == 95) = false := beq_eq_false_iff_ne.2 (by omega)
    go_enter Tryd.func44, Tryd.ntmps44
    go_wp2
    go_ret
    exact ⟨by rw [H.out]; rfl, rfl⟩
  · have H := hid (show letterN n = true by simp [letterN]; omega)
    obtain ⟨h1, h2⟩ := h
    go_enter Tryd.func44, Tryd.ntmps44
    go_wp2
    go_ret
    exact ⟨by rw [H.out]; rfl, rfl⟩
  · have H := hid (show letterN n = false by simp [letterN]; omega)
    have e : ((n : Int) == 95) = false := beq_eq_false_iff_ne.2 (by omega)
    obtain ⟨h1, h2⟩ := h
    have d : decide ((n : Int) ≤ 90) = false := decide_eq_false (by omega)
    go_enter Tryd.func44, Tryd.ntmps44
    go_wp2
    go_ret
    exact ⟨by rw [H.out]; rfl, rfl⟩
  · subst h
    go_enter Tryd.func44, Tryd.ntmps44
    go_wp2
    go_ret
    exact ⟨rfl, rfl⟩
  · subst h
    go_enter Tryd.func44, Tryd.ntmps44
    go_wp2
    go_ret
    exact ⟨rfl, rfl⟩
  · have H := hid (show letterN n = true by simp [letterN]; omega)
    obtain ⟨h1, h2⟩ := h
    go_enter Tryd.func44, Tryd.ntmps44
    go_wp2
    go_ret
    exact ⟨by rw [H.out]; rfl, rfl⟩
  · have H := hid (show letterN n = false by simp [letterN]; omega)
    have e : ((n : Int) == 95) = false := beq_eq_false_iff_ne.2 (by omega)
    have d : decide ((n : Int) ≤ 90) = false := decide_eq_false (by omega)
    have d2 : decide ((n : Int) ≤ 122) = false := decide_eq_false (by omega)
    go_enter Tryd.func44, Tryd.ntmps44
    go_wp2
    go_ret
    exact ⟨by rw [H.out]; rfl, rfl⟩


theorem blank_calls (n : Nat) (w : World) :
    Calls Tryd.prog 35 #[.int .u8 (n : Int)] w fun e w' => e = .returned (.bool (blankN n)) ∧ w = w' := by
  rcases (show n = 32 ∨ n = 10 ∨ n = 9 ∨ (n ≠ 32 ∧ n ≠ 10 ∧ n ≠ 9) from by omega) with rfl | rfl | rfl | ⟨h1, h2, h3⟩
  · go_enter Tryd.func35, Tryd.ntmps35
    go_wp2
    go_ret
    exact ⟨rfl, rfl⟩
  · go_enter Tryd.func35, Tryd.ntmps35
    go_wp2
    go_ret
    exact ⟨rfl, rfl⟩
  · go_enter Tryd.func35, Tryd.ntmps35
    go_wp2
    go_ret
    exact ⟨rfl, rfl⟩
  · have H := hid (show blankN n = false by simp [blankN, h1, h2, h3])
    have e1 : ((n : Int) == 32) = false := beq_eq_false_iff_ne.2 (by omega)
    have e2 : ((n : Int) == 10) = false := beq_eq_false_iff_ne.2 (by omega)
    have e3 : ((n : Int) == 9) = false := beq_eq_false_iff_ne.2 (by omega)
    go_enter Tryd.func35, Tryd.ntmps35
    go_wp2
    go_ret
    exact ⟨by rw [H.out]; rfl, rfl⟩

theorem note_calls (n : Nat) (w : World) :
    Calls Tryd.prog 37 #[.int .u8 (n : Int)] w fun e w' => e = .returned (.bool (noteN n)) ∧ w = w' := by
  rcases (show n = 10 ∨ n ≠ 10 from by omega) with rfl | h
  · go_enter Tryd.func37, Tryd.ntmps37
    go_wp2
    go_ret
    exact ⟨rfl, rfl⟩
  · have H := hid (show noteN n = true by simp [noteN, h])
    have e2 : ((n : Int) != 10) = true := by rw [bne_iff_ne]; omega
    go_enter Tryd.func37, Tryd.ntmps37
    go_wp2
    go_ret
    exact ⟨by rw [H.out]; rfl, rfl⟩

theorem inword_calls (n : Nat) (w : World) :
    Calls Tryd.prog 58 #[.int .u8 (n : Int)] w fun e w' => e = .returned (.bool (wordN n)) ∧ w = w' := by
  cases h1 : letterN n with
  | true =>
    have H := hid (show wordN n = true by simp [wordN, h1])
    have H1 := hid h1
    clear h1
    go_enter Tryd.func58, Tryd.ntmps58
    go_wp2_with fail
    refine (lletter_calls n _).mono ?_
    rintro e w1 ⟨rfl, rfl⟩
    rw [H1.out]
    go_wp2
    go_ret
    exact ⟨by rw [H.out]; rfl, rfl⟩
  | false =>
    have H := hid (show wordN n = digitN n by simp [wordN, h1])
    have H1 := hid h1
    clear h1
    go_enter Tryd.func58, Tryd.ntmps58
    go_wp2_with fail
    refine (lletter_calls n _).mono ?_
    rintro e w1 ⟨rfl, rfl⟩
    rw [H1.out]
    go_wp2_with fail
    refine (ldigit_calls n _).mono ?_
    rintro e w1 ⟨rfl, rfl⟩
    go_wp2
    go_ret
    exact ⟨by rw [H.out]; rfl, rfl⟩

theorem runblank_calls
    (s : ByteArray) (hs : s.size ≤ 1000000) (k : Nat) (hk : k ≤ s.size) (w : World) :
    Calls Tryd.prog 34 #[.string s, .int .i64 k, .func (.func 35) #[] #[]] w fun e w' => e = .returned (.int .i64 (runTo blankN s k)) ∧ w = w' := by
  go_enter Tryd.func34, Tryd.ntmps34
  go_wp2
  go_loop [1] (fun i => ∃ j : Nat, k ≤ j ∧ j ≤ s.size ∧ i = .int .i64 j ∧ runTo blankN s k = runTo blankN s j) (fun i => s.size - (intOf i).toNat)
  case atStart => exact ⟨k, Nat.le_refl _, hk, rfl, rfl⟩
  case round =>
    obtain ⟨j, hkj, hj, rfl, hrun⟩ := hrel
    by_cases hjl : j < s.size
    · cases hpj : blankN s[j].toNat with
      | true =>
        have H := hid (hrun.trans (runTo_on hjl hpj))
        have Hp := hid hpj
        clear hrun hpj
        go_wp2_with fail
        refine (blank_calls _ _).mono ?_
        rintro e w1 ⟨rfl, rfl⟩
        rw [Hp.out]
        go_wp2
        go_round
        case rel => exact ⟨j + 1, by omega, by omega, by go_num, H.out⟩
        case measure => simp [intOf]; omega
      | false =>
        have H := hid (hrun.trans (runTo_off hjl hpj))
        have Hp := hid hpj
        clear hrun hpj
        go_wp2_with fail
        refine (blank_calls _ _).mono ?_
        rintro e w1 ⟨rfl, rfl⟩
        rw [Hp.out]
        go_wp2
        go_ret
        exact ⟨by rw [H.out]; rfl, rfl⟩
    · have H := hid (hrun.trans (runTo_end (by omega)))
      clear hrun
      go_wp2
      go_ret
      exact ⟨by rw [H.out]; rfl, rfl⟩

theorem runnote_calls
    (s : ByteArray) (hs : s.size ≤ 1000000) (k : Nat) (hk : k ≤ s.size) (w : World) :
    Calls Tryd.prog 34 #[.string s, .int .i64 k, .func (.func 37) #[] #[]] w fun e w' => e = .returned (.int .i64 (runTo noteN s k)) ∧ w = w' := by
  go_enter Tryd.func34, Tryd.ntmps34
  go_wp2
  go_loop [1] (fun i => ∃ j : Nat, k ≤ j ∧ j ≤ s.size ∧ i = .int .i64 j ∧ runTo noteN s k = runTo noteN s j) (fun i => s.size - (intOf i).toNat)
  case atStart => exact ⟨k, Nat.le_refl _, hk, rfl, rfl⟩
  case round =>
    obtain ⟨j, hkj, hj, rfl, hrun⟩ := hrel
    by_cases hjl : j < s.size
    · cases hpj : noteN s[j].toNat with
      | true =>
        have H := hid (hrun.trans (runTo_on hjl hpj))
        have Hp := hid hpj
        clear hrun hpj
        go_wp2_with fail
        refine (note_calls _ _).mono ?_
        rintro e w1 ⟨rfl, rfl⟩
        rw [Hp.out]
        go_wp2
        go_round
        case rel => exact ⟨j + 1, by omega, by omega, by go_num, H.out⟩
        case measure => simp [intOf]; omega
      | false =>
        have H := hid (hrun.trans (runTo_off hjl hpj))
        have Hp := hid hpj
        clear hrun hpj
        go_wp2_with fail
        refine (note_calls _ _).mono ?_
        rintro e w1 ⟨rfl, rfl⟩
        rw [Hp.out]
        go_wp2
        go_ret
        exact ⟨by rw [H.out]; rfl, rfl⟩
    · have H := hid (hrun.trans (runTo_end (by omega)))
      clear hrun
      go_wp2
      go_ret
      exact ⟨by rw [H.out]; rfl, rfl⟩

theorem runword_calls
    (s : ByteArray) (hs : s.size ≤ 1000000) (k : Nat) (hk : k ≤ s.size) (w : World) :
    Calls Tryd.prog 34 #[.string s, .int .i64 k, .func (.func 58) #[] #[]] w fun e w' => e = .returned (.int .i64 (runTo wordN s k)) ∧ w = w' := by
  go_enter Tryd.func34, Tryd.ntmps34
  go_wp2
  go_loop [1] (fun i => ∃ j : Nat, k ≤ j ∧ j ≤ s.size ∧ i = .int .i64 j ∧ runTo wordN s k = runTo wordN s j) (fun i => s.size - (intOf i).toNat)
  case atStart => exact ⟨k, Nat.le_refl _, hk, rfl, rfl⟩
  case round =>
    obtain ⟨j, hkj, hj, rfl, hrun⟩ := hrel
    by_cases hjl : j < s.size
    · cases hpj : wordN s[j].toNat with
      | true =>
        have H := hid (hrun.trans (runTo_on hjl hpj))
        have Hp := hid hpj
        clear hrun hpj
        go_wp2_with fail
        refine (inword_calls _ _).mono ?_
        rintro e w1 ⟨rfl, rfl⟩
        rw [Hp.out]
        go_wp2
        go_round
        case rel => exact ⟨j + 1, by omega, by omega, by go_num, H.out⟩
        case measure => simp [intOf]; omega
      | false =>
        have H := hid (hrun.trans (runTo_off hjl hpj))
        have Hp := hid hpj
        clear hrun hpj
        go_wp2_with fail
        refine (inword_calls _ _).mono ?_
        rintro e w1 ⟨rfl, rfl⟩
        rw [Hp.out]
        go_wp2
        go_ret
        exact ⟨by rw [H.out]; rfl, rfl⟩
    · have H := hid (hrun.trans (runTo_end (by omega)))
      clear hrun
      go_wp2
      go_ret
      exact ⟨by rw [H.out]; rfl, rfl⟩

theorem rundigit_calls
    (s : ByteArray) (hs : s.size ≤ 1000000) (k : Nat) (hk : k ≤ s.size) (w : World) :
    Calls Tryd.prog 34 #[.string s, .int .i64 k, .func (.func 40) #[] #[]] w fun e w' => e = .returned (.int .i64 (runTo digitN s k)) ∧ w = w' := by
  go_enter Tryd.func34, Tryd.ntmps34
  go_wp2
  go_loop [1] (fun i => ∃ j : Nat, k ≤ j ∧ j ≤ s.size ∧ i = .int .i64 j ∧ runTo digitN s k = runTo digitN s j) (fun i => s.size - (intOf i).toNat)
  case atStart => exact ⟨k, Nat.le_refl _, hk, rfl, rfl⟩
  case round =>
    obtain ⟨j, hkj, hj, rfl, hrun⟩ := hrel
    by_cases hjl : j < s.size
    · cases hpj : digitN s[j].toNat with
      | true =>
        have H := hid (hrun.trans (runTo_on hjl hpj))
        have Hp := hid hpj
        clear hrun hpj
        go_wp2_with fail
        refine (ldigit_calls _ _).mono ?_
        rintro e w1 ⟨rfl, rfl⟩
        rw [Hp.out]
        go_wp2
        go_round
        case rel => exact ⟨j + 1, by omega, by omega, by go_num, H.out⟩
        case measure => simp [intOf]; omega
      | false =>
        have H := hid (hrun.trans (runTo_off hjl hpj))
        have Hp := hid hpj
        clear hrun hpj
        go_wp2_with fail
        refine (ldigit_calls _ _).mono ?_
        rintro e w1 ⟨rfl, rfl⟩
        rw [Hp.out]
        go_wp2
        go_ret
        exact ⟨by rw [H.out]; rfl, rfl⟩
    · have H := hid (hrun.trans (runTo_end (by omega)))
      clear hrun
      go_wp2
      go_ret
      exact ⟨by rw [H.out]; rfl, rfl⟩

end Go.Proofs.YtffijiabaeipaaaDoor
