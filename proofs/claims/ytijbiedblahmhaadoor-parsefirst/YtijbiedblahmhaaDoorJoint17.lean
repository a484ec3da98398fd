/- One step of reading tokens. Tokens that may be come back from their text. A text that is cut ahead of a token has the tokens ahead of it. A token that is read may be. -/
import Derived.Test.YtijbiedblahmhaaDoorJoint1
namespace Go.Proofs.YtijbiedblahmhaaDoor
open Go.RowKit

theorem tokGo_end {s : ByteArray} {f k : Nat} {acc : List Tok} (h : s.size ≤ k) : tokGo s (f + 1) k acc = (acc ++ [⟨6, ⟨#[]⟩, 0, s.size⟩], 0, 0) := by rw [tokGo, if_pos h]
theorem tokGo_bad {s : ByteArray} {f k : Nat} {acc : List Tok} {o : TokOut} (h : k < s.size) (ho : oneOut (s.data.toList.drop k) k = o) (he : o.2.2 ≠ 0) : tokGo s (f + 1) k acc = ([], o.2.1, o.2.2) := by
  rw [tokGo, if_neg (by omega), ho, if_pos he]
theorem tokGo_full {s : ByteArray} {f k : Nat} {acc : List Tok} {o : TokOut} (h : k < s.size) (ho : oneOut (s.data.toList.drop k) k = o) (he : o.2.2 = 0) (hf : acc.length = 600) : tokGo s (f + 1) k acc = ([], k, 5) := by
  rw [tokGo, if_neg (by omega), ho, if_neg (by rw [he]; decide), if_pos hf]
theorem tokGo_more {s : ByteArray} {f k : Nat} {acc : List Tok} {o : TokOut} (h : k < s.size) (ho : oneOut (s.data.toList.drop k) k = o) (he : o.2.2 = 0) (hf : acc.length ≠ 600) :
    tokGo s (f + 1) k acc = tokGo s f (skipTo false s o.2.1) (acc ++ [o.1]) := by
  rw [tokGo, if_neg (by omega), ho, if_neg (by rw [he]; decide), if_neg hf]

end Go.Proofs.YtijbiedblahmhaaDoor

namespace Go.Proofs.YtijbiedblahmhaaDoor
open Go.RowKit

theorem dec_all : ∀ (f m : Nat), (dec f m).all isDig = true
  | 0, _ => by simp [dec]
  | f + 1, m => by
    unfold dec; split
    · rename_i h
      simp only [List.all_cons, List.all_nil, isDig, small_toNat h]; simp; omega
    · rw [List.all_append, dec_all f (m / 10)]
      simp only [List.all_cons, List.all_nil, isDig, dig_toNat]; simp; omega

theorem dec_ne : ∀ (f m : Nat), dec (f + 1) m ≠ [] := by
  intro f m
  unfold dec; split <;> simp

theorem dec_reads : ∀ (f m : Nat), m < 10 ^ f → (m ≤ 4611686018427387903 → rst (dec f m) = ((m : Int), false)) ∧ (4611686018427387903 < m → (rst (dec f m)).2 = true)
  | 0, m, h => by
    have : m = 0 := by simpa using h
    subst this
    exact ⟨fun _ => rfl, fun h => absurd h (by decide)⟩
  | f + 1, m, h => by
    by_cases hs : m < 10
    · rw [dec_small hs]
      refine ⟨fun _ => ?_, fun h => by omega⟩
      simp only [rst, List.foldl_cons, List.foldl_nil, small_toNat hs, rstep]
      rw [if_neg (by simp; omega)]
      simp; omega
    · rw [dec_big (by omega), rst_snoc, dig_toNat]
      have hq : m / 10 < 10 ^ f := by rw [Nat.pow_succ] at h; omega
      have ih := dec_reads f (m / 10) hq
      refine ⟨fun hm => ?_, fun hm => ?_⟩
      · rw [ih.1 (by omega)]
        unfold rstep
        rw [if_neg (by simp; omega)]
        simp; omega
      · by_cases hq2 : m / 10 ≤ 4611686018427387903
        · rw [ih.1 hq2]
          unfold rstep
          rw [if_pos (by right; simp; omega)]
        · unfold rstep
          rw [if_pos (Or.inl (ih.2 (by omega)))]

theorem back_in {n : Int} (h0 : 0 ≤ n) (h1 : n ≤ 4611686018427387903) : readOut (digs n) = (n, 0) := by
  unfold digs
  rw [if_neg (by omega), readOut_good (dec_ne _ _) (dec_all _ _), (dec_reads 20 n.natAbs (by omega)).1 (by omega)]
  unfold rout
  simp; omega

theorem runL_all {p : Nat → Bool} {c : UInt8} {r : List UInt8} (hc : p c.toNat = false) : ∀ x : List UInt8, (∀ b ∈ x, p b.toNat = true) → runL p (x ++ c :: r) = x.length
  | [], _ => by simp [runL, hc]
  | b :: x, h => by
    have h1 := h b (by simp)
    have h2 := runL_all (r := r) hc x (fun y hy => h y (by simp [hy]))
    simp [runL, h1, h2]
theorem take_all (x r : List UInt8) : (x ++ r).take x.length = x := by simp

theorem bytes_of (s : ByteArray) : (⟨s.data.toList.toArray⟩ : ByteArray) = s := by cases s; simp

theorem word_back {x r : List UInt8} {k : Nat} (hw : ∀ b ∈ x, wordN b.toNat = true) :
    wordOut (x ++ 32 :: r) k = if keyB x then (⟨2, ⟨x.toArray⟩, 0, k⟩, k + x.length, 0) else if nameB x then (⟨1, ⟨x.toArray⟩, 0, k⟩, k + x.length, 0) else (Tok.zero, k, 11) := by
  unfold wordOut
  rw [runL_all (by decide) x hw, take_all]

theorem one_word {b : UInt8} {x r : List UInt8} {k : Nat} (h : letterN b.toNat = true) : oneOut (b :: x ++ r) k = wordOut (b :: x ++ r) k := by
  show oneOut (b :: (x ++ r)) k = wordOut (b :: (x ++ r)) k
  unfold oneOut
  simp only
  rw [if_pos h]

theorem letter_word {n : Nat} (h : letterN n = true) : wordN n = true := by simp [wordN, h]
theorem digit_word {n : Nat} (h : digitN n = true) : wordN n = true := by simp [wordN, h]
theorem digit_letter {n : Nat} (h : digitN n = true) : letterN n = false := by
  simp [digitN] at h
  simp [letterN]; omega

theorem key_shape : ∀ x ∈ keyL, ∃ b r, x = b :: r ∧ letterN b.toNat = true ∧ ∀ c ∈ x, wordN c.toNat = true := by
  have h : ∀ x ∈ keyL, (match x with | [] => false | b :: _ => letterN b.toNat) = true ∧ x.all (fun c => wordN c.toNat) = true := by decide
  intro x hx
  obtain ⟨h1, h2⟩ := h x hx
  cases x with
  | nil => cases h1
  | cons b r => exact ⟨b, r, rfl, h1, fun c hc => List.all_eq_true.1 h2 c hc⟩
theorem name_shape {x : List UInt8} (h : nameB x = true) : ∃ b r, x = b :: r ∧ letterN b.toNat = true ∧ ∀ c ∈ x, wordN c.toNat = true := by
  cases x with
  | nil => cases h
  | cons b r =>
    simp only [nameB, Bool.and_eq_true, List.all_eq_true] at h
    refine ⟨b, r, rfl, h.1.1, ?_⟩
    intro c hc
    rcases List.mem_cons.1 hc with rfl | hc
    · exact letter_word h.1.1
    · exact h.1.2 c hc

theorem sgn_back (x : List UInt8) (h : x ∈ sgnL) (r : List UInt8) (k : Nat) : oneOut (x ++ 32 :: r) k = (⟨5, ⟨x.toArray⟩, 0, k⟩, k + x.length, 0) := by
  simp only [sgnL, List.mem_cons, List.not_mem_nil, or_false] at h
  rcases h with rfl | rfl | rfl | rfl | rfl | rfl | rfl | rfl | rfl | rfl | rfl | rfl | rfl | rfl | rfl | rfl | rfl | rfl | rfl | rfl | rfl | rfl | rfl | rfl | rfl <;> rfl

/-- a token that may be, its place apart -/
def Tok.put (t : Tok) (k : Nat) : Tok := ⟨t.kind, t.text, t.num, k⟩

theorem one_back {t : Tok} (hr : rightTok t = true) (h6 : t.kind ≠ 6) (r : List UInt8) (k : Nat) : oneOut (tokText t ++ 32 :: r) k = (t.put k, k + (tokText t).length, 0) := by
  obtain ⟨kd, x, n, p⟩ := t
  simp only at h6
  unfold rightTok at hr
  simp only at hr
  by_cases h3 : kd = 3
  · subst h3
    rw [if_pos rfl, Bool.and_eq_true, Bool.and_eq_true, decide_eq_true_iff, decide_eq_true_iff, beq_iff_eq] at hr
    obtain ⟨n0, n1, hx⟩ := hr
    have hb := back_in n0 n1
    have hall : (digs n).all isDig = true := by
      unfold digs; rw [if_neg (by omega)]; exact dec_all _ _
    have hd : ∀ b ∈ digs n, digitN b.toNat = true := by
      intro b hb
      have := List.all_eq_true.1 hall b hb
      simp [isDig] at this
      simp [digitN]; omega
    have ht : tokText ⟨3, x, n, p⟩ = digs n := by unfold tokText; rw [if_neg (by simp)]; exact hx
    have hxb : x = ⟨(digs n).toArray⟩ := by rw [← hx, bytes_of]
    rw [ht]
    have hne : digs n ≠ [] := by unfold digs; rw [if_neg (by omega)]; exact dec_ne _ _
    cases hdg : digs n with
    | nil => exact absurd hdg hne
    | cons b y =>
      have hb1 := hd b (by rw [hdg]; simp)
      have ho : oneOut (b :: y ++ 32 :: r) k = numbOut (b :: y ++ 32 :: r) k := by
        show oneOut (b :: (y ++ 32 :: r)) k = numbOut (b :: (y ++ 32 :: r)) k
        unfold oneOut
        simp only
        rw [if_neg (by rw [digit_letter hb1]; decide), if_pos hb1]
      rw [ho, ← hdg]
      unfold numbOut
      rw [runL_all (by decide) _ hd, take_all, hb, if_pos rfl]
      simp [Tok.put, hxb]
  · rw [if_neg h3] at hr
    by_cases hn : n = 0
    · subst hn
      rw [if_pos rfl] at hr
      by_cases h4 : kd = 4
      · subst h4
        simp at hr
        have ht : tokText ⟨4, x, 0, p⟩ = quoted x.data.toList := by unfold tokText; rw [if_pos rfl]
        rw [ht]
        have ho : oneOut (quoted x.data.toList ++ 32 :: r) k = quoOut (quoted x.data.toList ++ 32 :: r) k := rfl
        rw [ho]
        unfold quoOut
        rw [takeOut_quoted]
        simp only
        rw [if_pos trivial, if_neg (by rw [list_size]; omega), bytes_of]
        rfl
      · have ht : tokText ⟨kd, x, 0, p⟩ = x.data.toList := by unfold tokText; rw [if_neg h4]
        rw [ht]
        by_cases h1 : kd = 1
        · subst h1
          simp at hr
          obtain ⟨b, y, hx, hl, hw⟩ := name_shape hr.1
          rw [hx, one_word hl, ← hx, word_back hw, hr.2, if_neg (by decide), hr.1, if_pos rfl, bytes_of]
          rfl
        · by_cases h2 : kd = 2
          · subst h2
            simp at hr
            obtain ⟨b, y, hx, hl, hw⟩ := key_shape _ (List.contains_iff_mem.1 hr)
            rw [hx, one_word hl, ← hx, word_back hw, hr, if_pos rfl, bytes_of]
            rfl
          · by_cases h5 : kd = 5
            · subst h5
              simp at hr
              rw [sgn_back _ hr, bytes_of]
              rfl
            · rw [if_neg h1, if_neg h2, if_neg h4, if_neg h5, if_neg h6] at hr
              cases hr
    · rw [if_neg hn] at hr
      cases hr

theorem blank_bad {b : UInt8} {y : List UInt8} {k : Nat} (h : blankN b.toNat = true) : (oneOut (b :: y) k).2.2 = 11 := by
  have h3 : b = 32 ∨ b = 10 ∨ b = 9 := by
    simp [blankN] at h
    rcases h with h | h | h
    · left; exact UInt8.toNat_inj.1 h
    · right; left; exact UInt8.toNat_inj.1 h
    · right; right; exact UInt8.toNat_inj.1 h
  rcases h3 with rfl | rfl | rfl <;> rfl

theorem no_skip_one {t : Tok} (hr : rightTok t = true) (h6 : t.kind ≠ 6) (r : List UInt8) : skipL false (tokText t ++ 32 :: r) = 0 := by
  have h := one_back hr h6 r 0
  cases hl : tokText t ++ 32 :: r with
  | nil => simp at hl
  | cons b y =>
    rw [hl] at h
    have hb : blankN b.toNat = false := by
      cases hq : blankN b.toNat with
      | false => rfl
      | true =>
        have := blank_bad (y := y) (k := 0) hq
        rw [h] at this; cases this
    have hs : slashes (b :: y) = false := by
      cases hq : slashes (b :: y) with
      | false => rfl
      | true =>
        cases y with
        | nil => cases hq
        | cons c z =>
          simp [slashes] at hq
          have e1 : b = 47 := UInt8.toNat_inj.1 hq.1
          have e2 : c = 47 := UInt8.toNat_inj.1 hq.2
          subst e1 e2
          have h1 : oneOut (47 :: 47 :: z) 0 = (⟨5, ⟨#[47]⟩, 0, (0 : Nat)⟩, 1, 0) := rfl
          rw [h1] at h
          have h2 : (tokText t).length = 1 := by
            have := congrArg (fun o : TokOut => o.2.1) h
            simp at this; omega
          obtain ⟨a, ha⟩ := List.length_eq_one_iff.1 h2
          rw [ha] at hl
          simp at hl
    simp [skipL, hs, hb]

theorem printL_cons (t : Tok) (l : List Tok) : printL (t :: l) = tokText t ++ 32 :: printL l := by simp [printL]
theorem no_skip (l : List Tok) (h : ∀ t ∈ l, rightTok t = true ∧ t.kind ≠ 6) : skipL false (printL l) = 0 := by
  cases l with
  | nil => rfl
  | cons t l =>
    rw [printL_cons]
    exact no_skip_one (h t (by simp)).1 (h t (by simp)).2 _

/-- a token without its place -/
def bare (t : Tok) : Int × ByteArray × Int := (t.kind, t.text, t.num)

theorem back_go (s : ByteArray) : ∀ (l : List Tok) (f k : Nat) (acc : List Tok), s.data.toList.drop k = printL l → (∀ t ∈ l, rightTok t = true ∧ t.kind ≠ 6) → l.length < f → acc.length ≤ 600 →
    (acc.length + l.length ≤ 600 → ∃ out, tokGo s f k acc = (out, 0, 0) ∧ out.map bare = (acc ++ l).map bare ++ [(6, ⟨#[]⟩, 0)]) ∧ (600 < acc.length + l.length → ∃ p, tokGo s f k acc = ([], p, 5))
  | [], f, k, acc, hd, _, hf, ha => by
    obtain ⟨f, rfl⟩ : ∃ f', f = f' + 1 := ⟨f - 1, by simp at hf; omega⟩
    have hk : s.size ≤ k := by
      have := congrArg List.length hd
      rw [List.length_drop, list_size] at this
      simp [printL] at this; omega
    refine ⟨fun _ => ⟨_, tokGo_end hk, by simp [bare]⟩, fun h => by simp at h; omega⟩
  | t :: l, f, k, acc, hd, hr, hf, ha => by
    obtain ⟨f, rfl⟩ : ∃ f', f = f' + 1 := ⟨f - 1, by simp at hf; omega⟩
    rw [printL_cons] at hd
    obtain ⟨h1, h6⟩ := hr t (by simp)
    have hk : k < s.size := by
      rcases Nat.lt_or_ge k s.size with h | h
      · exact h
      · rw [drop_end s k h] at hd; simp at hd
    have ho : oneOut (s.data.toList.drop k) k = (t.put k, k + (tokText t).length, 0) := by rw [hd]; exact one_back h1 h6 _ _
    by_cases h600 : acc.length = 600
    · refine ⟨fun h => by simp at h; omega, fun _ => ⟨k, tokGo_full hk ho rfl h600⟩⟩
    · have hd2 : s.data.toList.drop (k + (tokText t).length) = 32 :: printL l := by
        rw [← List.drop_drop, hd]; simp
      have hd3 : s.data.toList.drop (k + (tokText t).length + 1) = printL l := by
        rw [← List.drop_drop, hd2]; simp
      have hsk : skipTo false s (k + (tokText t).length) = k + (tokText t).length + 1 := by
        unfold skipTo
        rw [hd2]
        have hs : slashes (32 :: printL l) = false := by cases printL l <;> simp [slashes]
        have := no_skip l (fun u hu => hr u (by simp [hu]))
        simp [skipL, hs, this, blankN]
      have hm := tokGo_more (f := f) (acc := acc) hk ho rfl h600
      simp only at hm
      rw [hsk] at hm
      have ih := back_go s l f (k + (tokText t).length + 1) (acc ++ [t.put k]) hd3 (fun u hu => hr u (by simp [hu])) (by simp at hf; omega) (by simp; omega)
      rw [hm]
      have hb : bare (t.put k) = bare t := rfl
      refine ⟨fun h => ?_, fun h => ?_⟩
      · obtain ⟨out, e1, e2⟩ := ih.1 (by simp at h ⊢; omega)
        refine ⟨out, e1, ?_⟩
        rw [e2]
        simp [hb]
      · exact ih.2 (by simp at h ⊢; omega)

theorem printL_ge : ∀ l : List Tok, l.length ≤ (printL l).length
  | [] => Nat.le_refl _
  | t :: l => by
    have := printL_ge l
    rw [printL_cons]; simp; omega

theorem back_out (l : List Tok) (s : ByteArray) (hs : s.data.toList = printL l) (hr : ∀ t ∈ l, rightTok t = true ∧ t.kind ≠ 6) :
    (2000 < s.size → tokOut s = ([], 0, 3)) ∧ (s.size ≤ 2000 → 600 < l.length → ∃ p, tokOut s = ([], p, 5)) ∧
    (s.size ≤ 2000 → l.length ≤ 600 → ∃ out, tokOut s = (out, 0, 0) ∧ out.map bare = l.map bare ++ [(6, ⟨#[]⟩, 0)]) := by
  have h0 : skipTo false s 0 = 0 := by
    unfold skipTo
    rw [List.drop_zero, hs, no_skip l hr]
  have hsz : s.size = (printL l).length := by rw [← hs, list_size]
  have hge := printL_ge l
  have h := back_go s l (s.size + 1) 0 [] (by rw [List.drop_zero, hs]) hr (by omega) (by simp)
  refine ⟨fun h1 => ?_, fun h1 h2 => ?_, fun h1 h2 => ?_⟩
  · unfold tokOut; rw [if_pos h1]
  · obtain ⟨p, hp⟩ := h.2 (by simpa using h2)
    exact ⟨p, by unfold tokOut; rw [if_neg (by omega), h0, hp]⟩
  · obtain ⟨out, e1, e2⟩ := h.1 (by simpa using h2)
    exact ⟨out, by unfold tokOut; rw [if_neg (by omega), h0, e1], by simpa using e2⟩

end Go.Proofs.YtijbiedblahmhaaDoor

namespace Go.Proofs.YtijbiedblahmhaaDoor
open Go.RowKit

theorem slashes_take (b : UInt8) (r : List UInt8) (a : Nat) (h : slashes (b :: r) = false) : slashes (b :: r.take a) = false := by
  cases r with
  | nil => simpa using h
  | cons c r =>
    cases a with
    | zero => rfl
    | succ a => exact h
/-- blanks up to a place ahead of the cut -/
theorem skipL_cut : ∀ (f : Bool) (l : List UInt8) (a : Nat), skipL f l ≤ a → skipL f (l.take a) = skipL f l
  | _, [], a, _ => by simp
  | true, b :: r, a, h => by
    rw [skipL] at h
    obtain ⟨a, rfl⟩ : ∃ a', a = a' + 1 := ⟨a - 1, by omega⟩
    rw [List.take_succ_cons, skipL, skipL, skipL_cut (noteN b.toNat) r a (by omega)]
  | false, b :: r, a, h => by
    rw [skipL] at h
    by_cases hs : slashes (b :: r) = true
    · rw [if_pos hs] at h
      obtain ⟨a, rfl⟩ : ∃ a', a = a' + 1 := ⟨a - 1, by omega⟩
      have ih := skipL_cut true r a (by omega)
      have hs2 : slashes (b :: r.take a) = true := by
        cases r with
        | nil => cases hs
        | cons c r =>
          rw [skipL] at h
          obtain ⟨a, rfl⟩ : ∃ a', a = a' + 1 := ⟨a - 1, by omega⟩
          exact hs
      rw [List.take_succ_cons, skipL, if_pos hs2, skipL, if_pos hs, ih]
    · rw [if_neg hs] at h
      have hs' : slashes (b :: r) = false := by simpa using hs
      by_cases hb : blankN b.toNat = true
      · rw [if_pos hb] at h
        obtain ⟨a, rfl⟩ : ∃ a', a = a' + 1 := ⟨a - 1, by omega⟩
        rw [List.take_succ_cons, skipL, slashes_take b r a hs', skipL, if_neg hs, if_pos hb, if_pos hb, skipL_cut false r a (by omega)]
        rfl
      · cases a with
        | zero => rw [List.take_zero, skipL, skipL, if_neg hs, if_neg hb]
        | succ a =>
          rw [List.take_succ_cons, skipL, slashes_take b r a hs', skipL, if_neg hs, if_neg hb, if_neg hb]
          rfl
theorem runL_cut (p : Nat → Bool) : ∀ (l : List UInt8) (a : Nat), runL p l ≤ a → runL p (l.take a) = runL p l
  | [], a, _ => by simp
  | b :: r, a, h => by
    rw [runL] at h
    by_cases hp : p b.toNat = true
    · rw [if_pos hp] at h
      obtain ⟨a, rfl⟩ : ∃ a', a = a' + 1 := ⟨a - 1, by omega⟩
      rw [List.take_succ_cons, runL, if_pos hp, runL, if_pos hp, runL_cut p r a (by omega)]
    · cases a with
      | zero => rw [List.take_zero, runL, runL, if_neg hp]
      | succ a => rw [List.take_succ_cons, runL, if_neg hp, runL, if_neg hp]
theorem take_cut {l : List UInt8} {n a : Nat} (h : n ≤ a) : (l.take a).take n = l.take n := by rw [List.take_take, Nat.min_eq_left h]
theorem takeOut_cut {l x : List UInt8} {n : Nat} (h : takeOut l = (x, n, 0)) (a : Nat) (ha : n ≤ a) : takeOut (l.take a) = (x, n, 0) := by
  obtain ⟨r, rfl, hg⟩ := takeOut_34 h
  obtain ⟨body, rest, y, rfl, rfl, rfl, hon⟩ := takeGo_body _ _ _ _ _ _ hg
  have e : (34 :: (body ++ 34 :: rest)).take a = 34 :: (body ++ 34 :: (rest.take (a - (2 + body.length)))) := by
    obtain ⟨b, rfl⟩ : ∃ b, a = b + (2 + body.length) := ⟨a - (2 + body.length), by omega⟩
    rw [show b + (2 + body.length) = (body.length + (b + 1)) + 1 by omega, List.take_succ_cons, List.take_append, List.take_of_length_le (by omega), Nat.add_sub_cancel_left, List.take_succ_cons]
    congr 4
    omega
  rw [e]
  simp only [takeOut]
  rw [if_pos (by decide)]
  obtain ⟨g', hg', he, _⟩ := hon ((body ++ 34 :: (rest.take (a - (2 + body.length)))).length + 1) (34 :: (rest.take (a - (2 + body.length)))) 1 [] (by simp; omega)
  obtain ⟨g0, rfl⟩ : ∃ g0, g' = g0 + 1 := ⟨g' - 1, by omega⟩
  rw [he, takeGo, if_pos (by decide), List.nil_append]
theorem pref_take : ∀ (x l : List UInt8) (a : Nat), x.length ≤ a → x.isPrefixOf (l.take a) = x.isPrefixOf l
  | [], _, _, _ => by simp
  | b :: x, [], a, _ => by simp
  | b :: x, c :: l, a, h => by
    obtain ⟨a, rfl⟩ : ∃ a', a = a' + 1 := ⟨a - 1, by simp at h; omega⟩
    rw [List.take_succ_cons, List.isPrefixOf, List.isPrefixOf, pref_take x l a (by simp at h; omega)]
theorem pref_no {x l : List UInt8} {a : Nat} (h : x.isPrefixOf l = false) : x.isPrefixOf (l.take a) = false := by
  cases hq : x.isPrefixOf (l.take a) with
  | false => rfl
  | true =>
    have h1 := (List.isPrefixOf_iff_prefix.1 hq).trans (List.take_prefix a l)
    rw [List.isPrefixOf_iff_prefix.2 h1] at h
    cases h
theorem firstOf_cut (l : List UInt8) (a : Nat) : ∀ L : List (List UInt8), firstOf L l ≠ [] → (firstOf L l).length ≤ a → firstOf L (l.take a) = firstOf L l
  | [], h, _ => absurd rfl h
  | x :: L, hne, h => by
    rw [firstOf] at h hne
    cases hq : x.isPrefixOf l with
    | true =>
      rw [hq, if_pos rfl] at h
      rw [firstOf, firstOf, pref_take x l a h, hq, if_pos rfl, if_pos rfl]
    | false =>
      rw [hq, if_neg (by decide)] at h hne
      rw [firstOf, firstOf, pref_no hq, hq, if_neg (by decide), if_neg (by decide), firstOf_cut l a L hne h]
/-- a token that ends ahead of the cut is the same -/
theorem one_cut {l : List UInt8} {k a : Nat} (h : (oneOut l k).2.2 = 0) (ha : (oneOut l k).2.1 ≤ k + a) (h0 : 0 < a) : oneOut (l.take a) k = oneOut l k := by
  match l with
  | [] => simp [oneOut] at h
  | b :: r =>
    obtain ⟨a0, rfl⟩ : ∃ a0, a = a0 + 1 := ⟨a - 1, by omega⟩
    have ea : (b :: r).take (a0 + 1) = b :: r.take a0 := rfl
    rw [ea]
    unfold oneOut at h ha ⊢
    simp only at h ha ⊢
    rw [← ea]
    by_cases hl : letterN b.toNat = true
    · rw [if_pos hl] at h ha ⊢
      rw [if_pos hl]
      have hn : runL wordN (b :: r) ≤ a0 + 1 := by
        unfold wordOut at h ha
        split at ha
        · simp only at ha; omega
        · rename_i hk
          rw [if_neg hk] at h
          split at ha
          · simp only at ha; omega
          · rename_i hm
            rw [if_neg hm] at h
            cases h
      unfold wordOut
      rw [runL_cut _ _ _ hn, take_cut hn]
    · rw [if_neg hl] at h ha ⊢
      rw [if_neg hl]
      by_cases hd : digitN b.toNat = true
      · rw [if_pos hd] at h ha ⊢
        rw [if_pos hd]
        have hn : runL digitN (b :: r) ≤ a0 + 1 := by
          unfold numbOut at h ha
          split at ha
          · simp only at ha; omega
          · rename_i hk
            rw [if_neg hk] at h
            exact absurd h hk
        unfold numbOut
        rw [runL_cut _ _ _ hn, take_cut hn]
      · rw [if_neg hd] at h ha ⊢
        rw [if_neg hd]
        by_cases h34 : b.toNat = 34
        · rw [if_pos h34] at h ha ⊢
          rw [if_pos h34]
          have h3 : (takeOut (b :: r)).2.2 = 0 := by
            unfold quoOut at h
            by_cases h3 : (takeOut (b :: r)).2.2 = 0
            · exact h3
            · rw [if_neg h3] at h; exact h
          have hg : takeOut (b :: r) = ((takeOut (b :: r)).1, (takeOut (b :: r)).2.1, 0) := by rw [← h3]
          have hn : (takeOut (b :: r)).2.1 ≤ a0 + 1 := by
            unfold quoOut at h ha
            rw [if_pos h3] at h ha
            split at ha
            · rename_i hk
              rw [if_pos hk] at h
              cases h
            · simp only at ha; omega
          unfold quoOut
          rw [takeOut_cut hg _ hn, ← hg]
        · rw [if_neg h34] at h ha ⊢
          rw [if_neg h34]
          have hn : signL (b :: r) ≠ [] ∧ (signL (b :: r)).length ≤ a0 + 1 := by
            unfold sgnOut at h ha
            by_cases hk : signL (b :: r) = []
            · rw [if_pos hk] at h; cases h
            · rw [if_neg hk] at ha; simp only at ha; exact ⟨hk, by omega⟩
          unfold sgnOut
          rw [show signL ((b :: r).take (a0 + 1)) = signL (b :: r) from firstOf_cut _ _ _ hn.1 hn.2]

/-- the bytes ahead of a place -/
def cutB (s : ByteArray) (a : Nat) : ByteArray := ⟨(s.data.toList.take a).toArray⟩
theorem cutB_list (s : ByteArray) (a : Nat) : (cutB s a).data.toList = s.data.toList.take a := by simp [cutB]
theorem cutB_size {s : ByteArray} {a : Nat} (h : a ≤ s.size) : (cutB s a).size = a := by
  rw [← list_size, cutB_list, List.length_take, list_size]; omega
theorem cutB_drop (s : ByteArray) (a k : Nat) : (cutB s a).data.toList.drop k = (s.data.toList.drop k).take (a - k) := by rw [cutB_list, List.drop_take]
theorem one_ge {l : List UInt8} {k : Nat} (h : (oneOut l k).2.2 = 0) : k < (oneOut l k).2.1 ∧ (oneOut l k).2.1 ≤ k + l.length ∧ (oneOut l k).1.pl = k := by
  match l with
  | [] => simp [oneOut] at h
  | b :: r =>
    unfold oneOut at h ⊢
    simp only at h ⊢
    by_cases hl : letterN b.toNat = true
    · rw [if_pos hl] at h ⊢
      have h1 := runL_le wordN (b :: r)
      have h2 : 0 < runL wordN (b :: r) := by rw [runL, if_pos (letter_word hl)]; omega
      unfold wordOut at h ⊢
      split
      · exact ⟨by simp only; omega, by simp only; omega, rfl⟩
      · rename_i hk
        rw [if_neg hk] at h
        split
        · exact ⟨by simp only; omega, by simp only; omega, rfl⟩
        · rename_i hm
          rw [if_neg hm] at h
          cases h
    · rw [if_neg hl] at h ⊢
      by_cases hd : digitN b.toNat = true
      · rw [if_pos hd] at h ⊢
        have h1 := runL_le digitN (b :: r)
        have h2 : 0 < runL digitN (b :: r) := by rw [runL, if_pos hd]; omega
        unfold numbOut at h ⊢
        split
        · exact ⟨by simp only; omega, by simp only; omega, rfl⟩
        · rename_i hk
          rw [if_neg hk] at h
          exact absurd h hk
      · rw [if_neg hd] at h ⊢
        by_cases h34 : b.toNat = 34
        · rw [if_pos h34] at h ⊢
          have h3 : (takeOut (b :: r)).2.2 = 0 := by
            unfold quoOut at h
            by_cases h3 : (takeOut (b :: r)).2.2 = 0
            · exact h3
            · rw [if_neg h3] at h; exact h
          have hg : takeOut (b :: r) = ((takeOut (b :: r)).1, (takeOut (b :: r)).2.1, 0) := by rw [← h3]
          obtain ⟨r', e', hgo⟩ := takeOut_34 hg
          obtain ⟨body, rest, y, er, en, _, _⟩ := takeGo_body _ _ _ _ _ _ hgo
          have hlen : (b :: r).length = body.length + rest.length + 2 := by rw [e', er]; simp; omega
          unfold quoOut at h ⊢
          rw [if_pos h3] at h ⊢
          split
          · rename_i hk
            rw [if_pos hk] at h
            cases h
          · exact ⟨by simp only; omega, by simp only; omega, rfl⟩
        · rw [if_neg h34] at h ⊢
          unfold sgnOut at h ⊢
          by_cases hk : signL (b :: r) = []
          · rw [if_pos hk] at h; cases h
          · rw [if_neg hk]
            have hp : ∀ L : List (List UInt8), firstOf L (b :: r) ≠ [] → (firstOf L (b :: r)).length ≤ (b :: r).length := by
              intro L
              induction L with
              | nil => intro h; exact absurd rfl h
              | cons x L ih =>
                intro h
                rw [firstOf] at h ⊢
                split
                · rename_i hx
                  exact (List.isPrefixOf_iff_prefix.1 hx).length_le
                · rename_i hx
                  rw [if_neg hx] at h
                  exact ih h
            have h1 := hp sgnL hk
            have h2 := List.length_pos_iff.2 hk
            refine ⟨?_, ?_, rfl⟩
            · simp only; omega
            · simp only; unfold signL; omega
/-- the tokens that are there stay, and each further one stands behind -/
theorem go_grows (s : ByteArray) : ∀ (f k : Nat) (acc out : List Tok) (p : Nat), tokGo s f k acc = (out, p, 0) → 0 < f → s.size < k + f → k ≤ s.size →
    ∃ new, out = acc ++ new ∧ (∃ t ∈ new, t.kind = 6) ∧ ∀ t ∈ new, ∃ a : Nat, t.pl = a ∧ k ≤ a ∧ a ≤ s.size
  | 0, _, _, _, _, _, h0, _, _ => by omega
  | f + 1, k, acc, out, p, h, _, hf, hk => by
    rw [tokGo] at h
    split at h
    · rename_i hks
      injection h with h1 h2
      exact ⟨_, h1.symm, ⟨_, List.mem_singleton.2 rfl, rfl⟩, fun t ht => by rw [List.mem_singleton.1 ht]; exact ⟨s.size, rfl, hk, Nat.le_refl _⟩⟩
    · rename_i hks
      split at h
      · rename_i he
        injection h with h1 h2
        injection h2 with h2 h3
        exact absurd h3 he
      · rename_i he
        have he0 : (oneOut (s.data.toList.drop k) k).2.2 = 0 := by simpa using he
        split at h
        · injection h with h1 h2
          injection h2 with h2 h3
          cases h3
        · obtain ⟨g1, g2, g3⟩ := one_ge he0
          rw [List.length_drop, list_size] at g2
          have g4 := skipTo_ge false s (oneOut (s.data.toList.drop k) k).2.1
          have g5 := skipTo_le (f := false) (s := s) (k := (oneOut (s.data.toList.drop k) k).2.1) (by omega)
          obtain ⟨new, e1, e2, e3⟩ := go_grows s f _ _ out p h (by omega) (by omega) g5
          refine ⟨(oneOut (s.data.toList.drop k) k).1 :: new, by rw [e1]; simp, by obtain ⟨u, u1, u2⟩ := e2; exact ⟨u, List.mem_cons_of_mem _ u1, u2⟩, fun t ht => ?_⟩
          rcases List.mem_cons.1 ht with rfl | ht
          · exact ⟨k, g3, Nat.le_refl _, by omega⟩
          · obtain ⟨a, a1, a2, a3⟩ := e3 t ht
            exact ⟨a, a1, by omega, a3⟩
theorem go_cut (s : ByteArray) : ∀ (f k : Nat) (acc out : List Tok) (p : Nat), tokGo s f k acc = (out, p, 0) → 0 < f → s.size < k + f → k ≤ s.size →
    ∀ (i : Nat) (a : Nat) (t : Tok), acc.length ≤ i → out[i]? = some t → t.pl = a → ∀ f', a < k + f' → tokGo (cutB s a) f' k acc = (out.take i ++ [⟨6, ⟨#[]⟩, 0, a⟩], 0, 0)
  | 0, _, _, _, _, _, h0, _, _ => by omega
  | f + 1, k, acc, out, p, h, hf0, hf, hk => by
    intro i a t hi ht hp f' hf'
    obtain ⟨new, en, nn, nt⟩ := go_grows s _ _ _ _ _ h hf0 hf hk
    have hmem : t ∈ new := by
      rw [en, List.getElem?_append_right hi] at ht
      exact List.mem_of_getElem? ht
    obtain ⟨a', a1, a2, a3⟩ := nt t hmem
    have haa : a' = a := by omega
    subst haa
    have hsz := cutB_size (s := s) a3
    obtain ⟨f', rfl⟩ : ∃ g, f' = g + 1 := ⟨f' - 1, by omega⟩
    rw [tokGo] at h
    split at h
    · rename_i hks
      injection h with h1 h2
      have hak : a' = s.size := by omega
      rw [tokGo_end (by omega), hsz]
      have hi2 : i = acc.length := by
        rw [← h1] at ht
        have := (List.getElem?_eq_some_iff.1 ht).1
        simp at this; omega
      rw [← h1, hi2]
      simp
    · rename_i hks
      split at h
      · rename_i he
        injection h with h1 h2
        injection h2 with h2 h3
        exact absurd h3 he
      · rename_i he
        have he0 : (oneOut (s.data.toList.drop k) k).2.2 = 0 := by simpa using he
        split at h
        · injection h with h1 h2
          injection h2 with h2 h3
          cases h3
        · rename_i h600
          obtain ⟨g1, g2, g3⟩ := one_ge he0
          rw [List.length_drop, list_size] at g2
          have g4 := skipTo_ge false s (oneOut (s.data.toList.drop k) k).2.1
          have g5 := skipTo_le (f := false) (s := s) (k := (oneOut (s.data.toList.drop k) k).2.1) (by omega)
          obtain ⟨new2, e1, e2, e3⟩ := go_grows s f _ _ out p h (by omega) (by omega) g5
          by_cases hii : i = acc.length
          · have : t = (oneOut (s.data.toList.drop k) k).1 := by
              rw [e1, hii] at ht
              simp at ht
              exact ht.symm
            rw [this, g3] at hp
            have hka : k = a' := by omega
            rw [tokGo_end (by omega), hsz, e1, hii]
            simp
          · have hmem2 : t ∈ new2 := by
              rw [e1, List.getElem?_append_right (by simp; omega)] at ht
              exact List.mem_of_getElem? ht
            obtain ⟨b, b1, b2, b3⟩ := e3 t hmem2
            have hb : b = a' := by omega
            subst hb
            have hone : oneOut ((cutB s b).data.toList.drop k) k = oneOut (s.data.toList.drop k) k := by
              rw [cutB_drop]
              exact one_cut he0 (by omega) (by omega)
            have hsk : skipTo false (cutB s b) (oneOut (s.data.toList.drop k) k).2.1 = skipTo false s (oneOut (s.data.toList.drop k) k).2.1 := by
              unfold skipTo at b2 ⊢
              rw [cutB_drop, skipL_cut _ _ _ (by omega)]
            rw [tokGo_more (by omega) hone he0 h600, hsk]
            exact go_cut s f _ _ out p h (by omega) (by omega) g5 i b t (by simp; omega) ht hp f' (by omega)
/-- a text's tokens, cut ahead of one of them -/
theorem out_cut {s : ByteArray} {out : List Tok} {p : Nat} (h : tokOut s = (out, p, 0)) {i a : Nat} {t : Tok} (ht : out[i]? = some t) (hp : t.pl = a) : a ≤ s.size ∧ tokOut (cutB s a) = (out.take i ++ [⟨6, ⟨#[]⟩, 0, a⟩], 0, 0) := by
  unfold tokOut at h
  split at h
  · injection h with h1 h2
    injection h2 with h2 h3
    cases h3
  · rename_i h2000
    have hk := skipTo_le (f := false) (s := s) (k := 0) (Nat.zero_le _)
    obtain ⟨new, en, nn, nt⟩ := go_grows s _ _ _ _ _ h (by omega) (by omega) hk
    have hmem : t ∈ new := by
      rw [List.nil_append] at en
      rw [← en]
      exact List.mem_of_getElem? ht
    obtain ⟨b, b1, b2, b3⟩ := nt t hmem
    have hb : b = a := by omega
    subst hb
    have hsz := cutB_size (s := s) b3
    refine ⟨b3, ?_⟩
    have hsk : skipTo false (cutB s b) 0 = skipTo false s 0 := by
      unfold skipTo at b2 ⊢
      rw [cutB_drop, skipL_cut _ _ _ (by omega)]
    unfold tokOut
    rw [if_neg (by omega), hsk]
    exact go_cut s _ _ _ out p h (by omega) (by omega) hk i b t (by simp) ht hp _ (by omega)
/-- there is an end among a text's tokens, and each has a place -/
theorem out_end {s : ByteArray} {out : List Tok} {p : Nat} (h : tokOut s = (out, p, 0)) : (∃ t ∈ out, t.kind = 6) ∧ ∀ t ∈ out, ∃ a : Nat, t.pl = a ∧ a ≤ s.size := by
  unfold tokOut at h
  split at h
  · injection h with h1 h2
    injection h2 with h2 h3
    cases h3
  · have hk := skipTo_le (f := false) (s := s) (k := 0) (Nat.zero_le _)
    obtain ⟨new, en, nn, nt⟩ := go_grows s _ _ _ _ _ h (by omega) (by omega) hk
    rw [List.nil_append] at en
    subst en
    exact ⟨nn, fun t ht => by obtain ⟨a, a1, _, a3⟩ := nt t ht; exact ⟨a, a1, a3⟩⟩

end Go.Proofs.YtijbiedblahmhaaDoor

namespace Go.Proofs.YtijbiedblahmhaaDoor
open Go.RowKit

theorem readOut_bounds (l : List UInt8) : 0 ≤ (readOut l).1 ∧ (readOut l).1 ≤ 4611686018427387903 := by
  unfold readOut
  split
  · exact ⟨by decide, by decide⟩
  · rename_i h
    have hall : l.all isDig = true := by simp at h; simpa using h.2
    have := rst_bounds l hall
    unfold rout
    split
    · exact ⟨by decide, by decide⟩
    · exact this
theorem firstOf_mem : ∀ (L : List (List UInt8)) (l : List UInt8), firstOf L l = [] ∨ firstOf L l ∈ L
  | [], _ => .inl rfl
  | x :: L, l => by
    unfold firstOf
    split
    · right; simp
    · rcases firstOf_mem L l with h | h
      · exact .inl h
      · right; simp [h]
theorem one_right {l : List UInt8} {k : Nat} (h : (oneOut l k).2.2 = 0) : rightTok (oneOut l k).1 = true ∧ (oneOut l k).1.kind ≠ 6 ∧ (oneOut l k).1.pl = k := by
  match l with
  | [] => simp [oneOut] at h
  | b :: r =>
    unfold oneOut at h ⊢
    simp only at h ⊢
    by_cases hl : letterN b.toNat = true
    · rw [if_pos hl] at h ⊢
      unfold wordOut at h ⊢
      by_cases h3 : keyB ((b :: r).take (runL wordN (b :: r))) = true
      · rw [if_pos h3]
        refine ⟨?_, by simp, rfl⟩
        simpa [rightTok] using h3
      · rw [if_neg h3] at h ⊢
        by_cases h4 : nameB ((b :: r).take (runL wordN (b :: r))) = true
        · rw [if_pos h4]
          refine ⟨?_, by simp, rfl⟩
          simp [rightTok]
          exact ⟨h4, by simpa using h3⟩
        · rw [if_neg h4] at h; simp at h
    · rw [if_neg hl] at h ⊢
      by_cases hd : digitN b.toNat = true
      · rw [if_pos hd] at h ⊢
        unfold numbOut at h ⊢
        by_cases h3 : (readOut ((b :: r).take (runL digitN (b :: r)))).2 = 0
        · rw [if_pos h3]
          refine ⟨?_, by simp, rfl⟩
          have := readOut_bounds ((b :: r).take (runL digitN (b :: r)))
          simp [rightTok]
          exact this
        · rw [if_neg h3] at h; exact absurd h h3
      · rw [if_neg hd] at h ⊢
        by_cases h34 : b.toNat = 34
        · rw [if_pos h34] at h ⊢
          unfold quoOut at h ⊢
          by_cases h3 : (takeOut (b :: r)).2.2 = 0
          · rw [if_pos h3] at h ⊢
            by_cases h4 : 256 < (takeOut (b :: r)).1.length
            · rw [if_pos h4] at h; simp at h
            · rw [if_neg h4]
              refine ⟨?_, by simp, rfl⟩
              have e : (⟨(takeOut (b :: r)).1.toArray⟩ : ByteArray).size = (takeOut (b :: r)).1.length := by rw [← list_size]
              simp only [rightTok]
              simp [e]; omega
          · rw [if_neg h3] at h; exact absurd h h3
        · rw [if_neg h34] at h ⊢
          unfold sgnOut at h ⊢
          by_cases h3 : signL (b :: r) = []
          · rw [if_pos h3] at h; simp at h
          · rw [if_neg h3]
            refine ⟨?_, by simp, rfl⟩
            rcases firstOf_mem sgnL (b :: r) with h4 | h4
            · exact absurd h4 h3
            · simp [rightTok]; exact h4
/-- tokens that are read may be, all of them -/
theorem go_right (s : ByteArray) : ∀ (f k : Nat) (acc : List Tok), (∀ t ∈ acc, rightTok t = true) → ∀ t ∈ (tokGo s f k acc).1, rightTok t = true
  | 0, _, _, _ => by simp [tokGo]
  | f + 1, k, acc, ha => by
    rw [tokGo]
    split
    · intro t ht
      rcases List.mem_append.1 ht with h | h
      · exact ha t h
      · rw [List.mem_singleton.1 h]; rfl
    · split
      · simp
      · rename_i he
        split
        · simp
        · refine go_right s f _ _ fun t ht => ?_
          rcases List.mem_append.1 ht with h | h
          · exact ha t h
          · rw [List.mem_singleton.1 h]; exact (one_right (by simpa using he)).1
theorem out_right (s : ByteArray) : ∀ t ∈ (tokOut s).1, rightTok t = true := by
  unfold tokOut
  split
  · simp
  · exact go_right s _ _ _ (by simp)
/-- which errors there are -/
theorem one_errs (l : List UInt8) (k : Nat) : (oneOut l k).2.2 ≠ 12 := by
  match l with
  | [] => simp [oneOut]
  | b :: r =>
    unfold oneOut
    simp only
    split
    · unfold wordOut
      split
      · simp
      · split <;> simp
    · split
      · unfold numbOut
        split
        · simp
        · simp only
          unfold readOut rout
          split
          · simp
          · split <;> simp
      · split
        · unfold quoOut
          split
          · split <;> simp
          · simp only
            have hg : ∀ (f : Nat) (l : List UInt8) (k : Nat) (acc : List UInt8), (takeGo f l k acc).2.2 ≠ 12 := by
              intro f
              induction f with
              | zero => intro l k acc; simp [takeGo]
              | succ f ih =>
                intro l k acc
                cases l with
                | nil => simp [takeGo]
                | cons c r =>
                  rw [takeGo]
                  split
                  · simp
                  · split
                    · simp
                    · exact ih _ _ _
            unfold takeOut
            split
            · simp
            · split
              · exact hg _ _ _ _
              · simp
        · unfold sgnOut
          split <;> simp
theorem go_errs (s : ByteArray) : ∀ (f k : Nat) (acc : List Tok), (tokGo s f k acc).2.2 ≠ 12
  | 0, _, _ => by simp [tokGo]
  | f + 1, k, acc => by
    rw [tokGo]
    split
    · simp
    · split
      · exact one_errs _ _
      · split
        · simp
        · exact go_errs s f _ _
theorem out_errs (s : ByteArray) : (tokOut s).2.2 ≠ 12 := by
  unfold tokOut
  split
  · simp
  · exact go_errs s _ _ _

end Go.Proofs.YtijbiedblahmhaaDoor
