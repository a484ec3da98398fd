/- Tokens that may be come back from their text. -/
import Derived.Test.YtnojlfdojmkonaaGreatDoorLexGo
namespace Go.Proofs.YtnojlfdojmkonaaGreatDoor
open Go.RowKit

theorem dec_all : ∀ (f m : Nat), (dec f m).all isDig = true
  | 0, _ => by simp [dec]
  | f + 1, m => by
    unfold dec; split
    · rename_i h
      simp only [List.all_cons, List.all_nil, isDig, small_toNat h]; simp; omega
    · rw [List.all_append, dec_all f (m / 10)]
      simp only [List.all_cons, List.all_nil, isDig, dig_toNat]; simp; omega

theorem dec_ne : ∀ (f m : Nat), dec (f + 1) m ≠ [] := by
  intro f m
  unfold dec; split <;> simp

theorem dec_reads : ∀ (f m : Nat), m < 10 ^ f → (m ≤ 4611686018427387903 → rst (dec f m) = ((m : Int), false)) ∧ (4611686018427387903 < m → (rst (dec f m)).2 = true)
  | 0, m, h => by
    have : m = 0 := by simpa using h
    subst this
    exact ⟨fun _ => rfl, fun h => absurd h (by decide)⟩
  | f + 1, m, h => by
    by_cases hs : m < 10
    · rw [dec_small hs]
      refine ⟨fun _ => ?_, fun h => by omega⟩
      simp only [rst, List.foldl_cons, List.foldl_nil, small_toNat hs, rstep]
      rw [if_neg (by simp; omega)]
      simp; omega
    · rw [dec_big (by omega), rst_snoc, dig_toNat]
      have hq : m / 10 < 10 ^ f := by rw [Nat.pow_succ] at h; omega
      have ih := dec_reads f (m / 10) hq
      refine ⟨fun hm => ?_, fun hm => ?_⟩
      · rw [ih.1 (by omega)]
        unfold rstep
        rw [if_neg (by simp; omega)]
        simp; omega
      · by_cases hq2 : m / 10 ≤ 4611686018427387903
        · rw [ih.1 hq2]
          unfold rstep
          rw [if_pos (by right; simp; omega)]
        · unfold rstep
          rw [if_pos (Or.inl (ih.2 (by omega)))]

theorem back_in {n : Int} (h0 : 0 ≤ n) (h1 : n ≤ 4611686018427387903) : readOut (digs n) = (n, 0) := by
  unfold digs
  rw [if_neg (by omega), readOut_good (dec_ne _ _) (dec_all _ _), (dec_reads 20 n.natAbs (by omega)).1 (by omega)]
  unfold rout
  simp; omega

theorem runL_all {p : Nat → Bool} {c : UInt8} {r : List UInt8} (hc : p c.toNat = false) : ∀ x : List UInt8, (∀ b ∈ x, p b.toNat = true) → runL p (x ++ c :: r) = x.length
  | [], _ => by simp [runL, hc]
  | b :: x, h => by
    have h1 := h b (by simp)
    have h2 := runL_all (r := r) hc x (fun y hy => h y (by simp [hy]))
    simp [runL, h1, h2]
theorem take_all (x r : List UInt8) : (x ++ r).take x.length = x := by simp

theorem bytes_of (s : ByteArray) : (⟨s.data.toList.toArray⟩ : ByteArray) = s := by cases s; simp

theorem word_back {x r : List UInt8} {k : Nat} (hw : ∀ b ∈ x, wordN b.toNat = true) :
    wordOut (x ++ 32 :: r) k = if keyB x then (⟨2, ⟨x.toArray⟩, 0, k⟩, k + x.length, 0) else if nameB x then (⟨1, ⟨x.toArray⟩, 0, k⟩, k + x.length, 0) else (Tok.zero, k, 11) := by
  unfold wordOut
  rw [runL_all (by decide) x hw, take_all]

theorem one_word {b : UInt8} {x r : List UInt8} {k : Nat} (h : letterN b.toNat = true) : oneOut (b :: x ++ r) k = wordOut (b :: x ++ r) k := by
  show oneOut (b :: (x ++ r)) k = wordOut (b :: (x ++ r)) k
  unfold oneOut
  simp only
  rw [if_pos h]

theorem letter_word {n : Nat} (h : letterN n = true) : wordN n = true := by simp [wordN, h]
theorem digit_word {n : Nat} (h : digitN n = true) : wordN n = true := by simp [wordN, h]
theorem digit_letter {n : Nat} (h : digitN n = true) : letterN n = false := by
  simp [digitN] at h
  simp [letterN]; omega

theorem key_shape : ∀ x ∈ keyL, ∃ b r, x = b :: r ∧ letterN b.toNat = true ∧ ∀ c ∈ x, wordN c.toNat = true := by
  have h : ∀ x ∈ keyL, (match x with | [] => false | b :: _ => letterN b.toNat) = true ∧ x.all (fun c => wordN c.toNat) = true := by decide
  intro x hx
  obtain ⟨h1, h2⟩ := h x hx
  cases x with
  | nil => cases h1
  | cons b r => exact ⟨b, r, rfl, h1, fun c hc => List.all_eq_true.1 h2 c hc⟩
theorem name_shape {x : List UInt8} (h : nameB x = true) : ∃ b r, x = b :: r ∧ letterN b.toNat = true ∧ ∀ c ∈ x, wordN c.toNat = true := by
  cases x with
  | nil => cases h
  | cons b r =>
    simp only [nameB, Bool.and_eq_true, List.all_eq_true] at h
    refine ⟨b, r, rfl, h.1.1, ?_⟩
    intro c hc
    rcases List.mem_cons.1 hc with rfl | hc
    · exact letter_word h.1.1
    · exact h.1.2 c hc

theorem sgn_back (x : List UInt8) (h : x ∈ sgnL) (r : List UInt8) (k : Nat) : oneOut (x ++ 32 :: r) k = (⟨5, ⟨x.toArray⟩, 0, k⟩, k + x.length, 0) := by
  simp only [sgnL, List.mem_cons, List.not_mem_nil, or_false] at h
  rcases h with rfl | rfl | rfl | rfl | rfl | rfl | rfl | rfl | rfl | rfl | rfl | rfl | rfl | rfl | rfl | rfl | rfl | rfl | rfl | rfl | rfl | rfl | rfl | rfl | rfl <;> rfl

/-- a token that may be, its place apart -/
def Tok.put (t : Tok) (k : Nat) : Tok := ⟨t.kind, t.text, t.num, k⟩

theorem one_back {t : Tok} (hr : rightTok t = true) (h6 : t.kind ≠ 6) (r : List UInt8) (k : Nat) : oneOut (tokText t ++ 32 :: r) k = (t.put k, k + (tokText t).length, 0) := by
  obtain ⟨kd, x, n, p⟩ := t
  simp only at h6
  unfold rightTok at hr
  simp only at hr
  by_cases h3 : kd = 3
  · subst h3
    rw [if_pos rfl, Bool.and_eq_true, Bool.and_eq_true, decide_eq_true_iff, decide_eq_true_iff, beq_iff_eq] at hr
    obtain ⟨n0, n1, hx⟩ := hr
    have hb := back_in n0 n1
    have hall : (digs n).all isDig = true := by
      unfold digs; rw [if_neg (by omega)]; exact dec_all _ _
    have hd : ∀ b ∈ digs n, digitN b.toNat = true := by
      intro b hb
      have := List.all_eq_true.1 hall b hb
      simp [isDig] at this
      simp [digitN]; omega
    have ht : tokText ⟨3, x, n, p⟩ = digs n := by unfold tokText; rw [if_neg (by simp)]; exact hx
    have hxb : x = ⟨(digs n).toArray⟩ := by rw [← hx, bytes_of]
    rw [ht]
    have hne : digs n ≠ [] := by unfold digs; rw [if_neg (by omega)]; exact dec_ne _ _
    cases hdg : digs n with
    | nil => exact absurd hdg hne
    | cons b y =>
      have hb1 := hd b (by rw [hdg]; simp)
      have ho : oneOut (b :: y ++ 32 :: r) k = numbOut (b :: y ++ 32 :: r) k := by
        show oneOut (b :: (y ++ 32 :: r)) k = numbOut (b :: (y ++ 32 :: r)) k
        unfold oneOut
        simp only
        rw [if_neg (by rw [digit_letter hb1]; decide), if_pos hb1]
      rw [ho, ← hdg]
      unfold numbOut
      rw [runL_all (by decide) _ hd, take_all, hb, if_pos rfl]
      simp [Tok.put, hxb]
  · rw [if_neg h3] at hr
    by_cases hn : n = 0
    · subst hn
      rw [if_pos rfl] at hr
      by_cases h4 : kd = 4
      · subst h4
        simp at hr
        have ht : tokText ⟨4, x, 0, p⟩ = quoted x.data.toList := by unfold tokText; rw [if_pos rfl]
        rw [ht]
        have ho : oneOut (quoted x.data.toList ++ 32 :: r) k = quoOut (quoted x.data.toList ++ 32 :: r) k := rfl
        rw [ho]
        unfold quoOut
        rw [takeOut_quoted]
        simp only
        rw [if_pos trivial, if_neg (by rw [list_size]; omega), bytes_of]
        rfl
      · have ht : tokText ⟨kd, x, 0, p⟩ = x.data.toList := by unfold tokText; rw [if_neg h4]
        rw [ht]
        by_cases h1 : kd = 1
        · subst h1
          simp at hr
          obtain ⟨b, y, hx, hl, hw⟩ := name_shape hr.1
          rw [hx, one_word hl, ← hx, word_back hw, hr.2, if_neg (by decide), hr.1, if_pos rfl, bytes_of]
          rfl
        · by_cases h2 : kd = 2
          · subst h2
            simp at hr
            obtain ⟨b, y, hx, hl, hw⟩ := key_shape _ (List.contains_iff_mem.1 hr)
            rw [hx, one_word hl, ← hx, word_back hw, hr, if_pos rfl, bytes_of]
            rfl
          · by_cases h5 : kd = 5
            · subst h5
              simp at hr
              rw [sgn_back _ hr, bytes_of]
              rfl
            · rw [if_neg h1, if_neg h2, if_neg h4, if_neg h5, if_neg h6] at hr
              cases hr
    · rw [if_neg hn] at hr
      cases hr

theorem blank_bad {b : UInt8} {y : List UInt8} {k : Nat} (h : blankN b.toNat = true) : (oneOut (b :: y) k).2.2 = 11 := by
  have h3 : b = 32 ∨ b = 10 ∨ b = 9 := by
    simp [blankN] at h
    rcases h with h | h | h
    · left; exact UInt8.toNat_inj.1 h
    · right; left; exact UInt8.toNat_inj.1 h
    · right; right; exact UInt8.toNat_inj.1 h
  rcases h3 with rfl | rfl | rfl <;> rfl

theorem no_skip_one {t : Tok} (hr : rightTok t = true) (h6 : t.kind ≠ 6) (r : List UInt8) : skipL false (tokText t ++ 32 :: r) = 0 := by
  have h := one_back hr h6 r 0
  cases hl : tokText t ++ 32 :: r with
  | nil => simp at hl
  | cons b y =>
    rw [hl] at h
    have hb : blankN b.toNat = false := by
      cases hq : blankN b.toNat with
      | false => rfl
      | true =>
        have := blank_bad (y := y) (k := 0) hq
        rw [h] at this; cases this
    have hs : slashes (b :: y) = false := by
      cases hq : slashes (b :: y) with
      | false => rfl
      | true =>
        cases y with
        | nil => cases hq
        | cons c z =>
          simp [slashes] at hq
          have e1 : b = 47 := UInt8.toNat_inj.1 hq.1
          have e2 : c = 47 := UInt8.toNat_inj.1 hq.2
          subst e1 e2
          have h1 : oneOut (47 :: 47 :: z) 0 = (⟨5, ⟨#[47]⟩, 0, (0 : Nat)⟩, 1, 0) := rfl
          rw [h1] at h
          have h2 : (tokText t).length = 1 := by
            have := congrArg (fun o : TokOut => o.2.1) h
            simp at this; omega
          obtain ⟨a, ha⟩ := List.length_eq_one_iff.1 h2
          rw [ha] at hl
          simp at hl
    simp [skipL, hs, hb]

theorem printL_cons (t : Tok) (l : List Tok) : printL (t :: l) = tokText t ++ 32 :: printL l := by simp [printL]
theorem no_skip (l : List Tok) (h : ∀ t ∈ l, rightTok t = true ∧ t.kind ≠ 6) : skipL false (printL l) = 0 := by
  cases l with
  | nil => rfl
  | cons t l =>
    rw [printL_cons]
    exact no_skip_one (h t (by simp)).1 (h t (by simp)).2 _

/-- a token without its place -/
def bare (t : Tok) : Int × ByteArray × Int := (t.kind, t.text, t.num)

theorem back_go (s : ByteArray) : ∀ (l : List Tok) (f k : Nat) (acc : List Tok), s.data.toList.drop k = printL l → (∀ t ∈ l, rightTok t = true ∧ t.kind ≠ 6) → l.length < f → acc.length ≤ 600 →
    (acc.length + l.length ≤ 600 → ∃ out, tokGo s f k acc = (out, 0, 0) ∧ out.map bare = (acc ++ l).map bare ++ [(6, ⟨#[]⟩, 0)]) ∧ (600 < acc.length + l.length → ∃ p, tokGo s f k acc = ([], p, 5))
  | [], f, k, acc, hd, _, hf, ha => by
    obtain ⟨f, rfl⟩ : ∃ f', f = f' + 1 := ⟨f - 1, by simp at hf; omega⟩
    have hk : s.size ≤ k := by
      have := congrArg List.length hd
      rw [List.length_drop, list_size] at this
      simp [printL] at this; omega
    refine ⟨fun _ => ⟨_, tokGo_end hk, by simp [bare]⟩, fun h => by simp at h; omega⟩
  | t :: l, f, k, acc, hd, hr, hf, ha => by
    obtain ⟨f, rfl⟩ : ∃ f', f = f' + 1 := ⟨f - 1, by simp at hf; omega⟩
    rw [printL_cons] at hd
    obtain ⟨h1, h6⟩ := hr t (by simp)
    have hk : k < s.size := by
      rcases Nat.lt_or_ge k s.size with h | h
      · exact h
      · rw [drop_end s k h] at hd; simp at hd
    have ho : oneOut (s.data.toList.drop k) k = (t.put k, k + (tokText t).length, 0) := by rw [hd]; exact one_back h1 h6 _ _
    by_cases h600 : acc.length = 600
    · refine ⟨fun h => by simp at h; omega, fun _ => ⟨k, tokGo_full hk ho rfl h600⟩⟩
    · have hd2 : s.data.toList.drop (k + (tokText t).length) = 32 :: printL l := by
        rw [← List.drop_drop, hd]; simp
      have hd3 : s.data.toList.drop (k + (tokText t).length + 1) = printL l := by
        rw [← List.drop_drop, hd2]; simp
      have hsk : skipTo false s (k + (tokText t).length) = k + (tokText t).length + 1 := by
        unfold skipTo
        rw [hd2]
        have hs : slashes (32 :: printL l) = false := by cases printL l <;> simp [slashes]
        have := no_skip l (fun u hu => hr u (by simp [hu]))
        simp [skipL, hs, this, blankN]
      have hm := tokGo_more (f := f) (acc := acc) hk ho rfl h600
      simp only at hm
      rw [hsk] at hm
      have ih := back_go s l f (k + (tokText t).length + 1) (acc ++ [t.put k]) hd3 (fun u hu => hr u (by simp [hu])) (by simp at hf; omega) (by simp; omega)
      rw [hm]
      have hb : bare (t.put k) = bare t := rfl
      refine ⟨fun h => ?_, fun h => ?_⟩
      · obtain ⟨out, e1, e2⟩ := ih.1 (by simp at h ⊢; omega)
        refine ⟨out, e1, ?_⟩
        rw [e2]
        simp [hb]
      · exact ih.2 (by simp at h ⊢; omega)

theorem printL_ge : ∀ l : List Tok, l.length ≤ (printL l).length
  | [] => Nat.le_refl _
  | t :: l => by
    have := printL_ge l
    rw [printL_cons]; simp; omega

theorem back_out (l : List Tok) (s : ByteArray) (hs : s.data.toList = printL l) (hr : ∀ t ∈ l, rightTok t = true ∧ t.kind ≠ 6) :
    (2000 < s.size → tokOut s = ([], 0, 3)) ∧ (s.size ≤ 2000 → 600 < l.length → ∃ p, tokOut s = ([], p, 5)) ∧
    (s.size ≤ 2000 → l.length ≤ 600 → ∃ out, tokOut s = (out, 0, 0) ∧ out.map bare = l.map bare ++ [(6, ⟨#[]⟩, 0)]) := by
  have h0 : skipTo false s 0 = 0 := by
    unfold skipTo
    rw [List.drop_zero, hs, no_skip l hr]
  have hsz : s.size = (printL l).length := by rw [← hs, list_size]
  have hge := printL_ge l
  have h := back_go s l (s.size + 1) 0 [] (by rw [List.drop_zero, hs]) hr (by omega) (by simp)
  refine ⟨fun h1 => ?_, fun h1 h2 => ?_, fun h1 h2 => ?_⟩
  · unfold tokOut; rw [if_pos h1]
  · obtain ⟨p, hp⟩ := h.2 (by simpa using h2)
    exact ⟨p, by unfold tokOut; rw [if_neg (by omega), h0, hp]⟩
  · obtain ⟨out, e1, e2⟩ := h.1 (by simpa using h2)
    exact ⟨out, by unfold tokOut; rw [if_neg (by omega), h0, e1], by simpa using e2⟩

end Go.Proofs.YtnojlfdojmkonaaGreatDoor
