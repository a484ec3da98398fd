/- Pieces that stand well beside each other are read as their tokens. -/
import Derived.Test.YtlnllpehifkjhaaDoorPsText
namespace Go.Proofs.YtlnllpehifkjhaaDoor
open Go.RowKit

/-- a byte at which any token ends -/
def softB (c : UInt8) : Bool := !wordN c.toNat && (c != 61 && c != 47)
/-- a byte at which this token ends -/
def stopB (t : Tok) (c : UInt8) : Bool := if t.kind = 4 then true else if t.kind = 5 then (c != 61 && c != 47) else !wordN c.toNat
theorem soft_stop {t : Tok} {c : UInt8} (h : softB c = true) : stopB t c = true := by
  simp only [softB, Bool.and_eq_true] at h
  unfold stopB
  split
  · rfl
  split
  · simp [h.2.1, h.2.2]
  · exact h.1
/-- a text ends, or goes on with such a byte -/
def HeadIs (p : UInt8 → Bool) (l : List UInt8) : Prop := ∀ c r, l = c :: r → p c = true
theorem headIs_nil (p : UInt8 → Bool) : HeadIs p [] := by intro c r h; cases h
theorem headIs_cons {p : UInt8 → Bool} {c : UInt8} {r : List UInt8} (h : p c = true) : HeadIs p (c :: r) := by intro c' r' e; injection e with e1 e2; subst e1; exact h

theorem runL_stop {p : Nat → Bool} {R : List UInt8} (hR : HeadIs (fun c => !p c.toNat) R) : ∀ x : List UInt8, (∀ b ∈ x, p b.toNat = true) → runL p (x ++ R) = x.length
  | [], _ => by
    cases R with
    | nil => rfl
    | cons c r => have := hR c r rfl; simp at this; simp [runL, this]
  | b :: x, h => by
    have h1 := h b (by simp)
    have h2 := runL_stop hR x (fun y hy => h y (by simp [hy]))
    simp [runL, h1, h2]
theorem sgn_stop (x : List UInt8) (h : x ∈ sgnL) (R : List UInt8) (hR : HeadIs (fun c => c != 61 && c != 47) R) (k : Nat) : oneOut (x ++ R) k = (⟨5, ⟨x.toArray⟩, 0, k⟩, k + x.length, 0) := by
  have key : ∀ x ∈ sgnL, (∀ k, oneOut x k = (⟨5, ⟨x.toArray⟩, 0, k⟩, k + x.length, 0)) := by
    intro x hx k
    simp only [sgnL, List.mem_cons, List.not_mem_nil, or_false] at hx
    rcases hx with rfl | rfl | rfl | rfl | rfl | rfl | rfl | rfl | rfl | rfl | rfl | rfl | rfl | rfl | rfl | rfl | rfl | rfl | rfl | rfl | rfl | rfl | rfl | rfl | rfl <;> rfl
  cases R with
  | nil => rw [List.append_nil]; exact key x h k
  | cons c r =>
    have hc := hR c r rfl
    simp only [Bool.and_eq_true, bne_iff_ne] at hc
    have h61 : (61 == c) = false := by rw [beq_eq_false_iff_ne]; exact fun e => hc.1 e.symm
    have h61' : (c == 61) = false := by rw [beq_eq_false_iff_ne]; exact hc.1
    simp only [sgnL, List.mem_cons, List.not_mem_nil, or_false] at h
    rcases h with rfl | rfl | rfl | rfl | rfl | rfl | rfl | rfl | rfl | rfl | rfl | rfl | rfl | rfl | rfl | rfl | rfl | rfl | rfl | rfl | rfl | rfl | rfl | rfl | rfl <;>
      first
      | rfl
      | simp [oneOut, sgnOut, signL, sgnL, firstOf, List.isPrefixOf, h61, letterN, digitN]

theorem one_stop {t : Tok} (hr : rightTok t = true) (h6 : t.kind ≠ 6) (R : List UInt8) (hR : HeadIs (stopB t) R) (k : Nat) : oneOut (tokText t ++ R) k = (t.put k, k + (tokText t).length, 0) := by
  obtain ⟨kd, x, n, p⟩ := t
  simp only at h6
  unfold rightTok at hr
  simp only at hr
  by_cases h3 : kd = 3
  · subst h3
    rw [if_pos rfl, Bool.and_eq_true, Bool.and_eq_true, decide_eq_true_iff, decide_eq_true_iff, beq_iff_eq] at hr
    obtain ⟨n0, n1, hx⟩ := hr
    have hb := back_in n0 n1
    have hall : (digs n).all isDig = true := by
      unfold digs; rw [if_neg (by omega)]; exact dec_all _ _
    have hd : ∀ b ∈ digs n, digitN b.toNat = true := by
      intro b hb
      have := List.all_eq_true.1 hall b hb
      simp [isDig] at this
      simp [digitN]; omega
    have ht : tokText ⟨3, x, n, p⟩ = digs n := by unfold tokText; rw [if_neg (by simp)]; exact hx
    have hxb : x = ⟨(digs n).toArray⟩ := by rw [← hx, bytes_of]
    have hR' : HeadIs (fun c => !digitN c.toNat) R := by
      intro c r e
      have := hR c r e
      simp [stopB, wordN] at this
      simp [this.2]
    rw [ht]
    have hne : digs n ≠ [] := by unfold digs; rw [if_neg (by omega)]; exact dec_ne _ _
    cases hdg : digs n with
    | nil => exact absurd hdg hne
    | cons b y =>
      have hb1 := hd b (by rw [hdg]; simp)
      have ho : oneOut (b :: y ++ R) k = numbOut (b :: y ++ R) k := by
        show oneOut (b :: (y ++ R)) k = numbOut (b :: (y ++ R)) k
        unfold oneOut
        simp only
        rw [if_neg (by rw [digit_letter hb1]; decide), if_pos hb1]
      rw [ho, ← hdg]
      unfold numbOut
      rw [runL_stop hR' _ hd, take_all, hb, if_pos rfl]
      simp [Tok.put, hxb]
  · rw [if_neg h3] at hr
    by_cases hn : n = 0
    · subst hn
      rw [if_pos rfl] at hr
      by_cases h4 : kd = 4
      · subst h4
        simp at hr
        have ht : tokText ⟨4, x, 0, p⟩ = quoted x.data.toList := by unfold tokText; rw [if_pos rfl]
        rw [ht]
        have ho : oneOut (quoted x.data.toList ++ R) k = quoOut (quoted x.data.toList ++ R) k := rfl
        rw [ho]
        unfold quoOut
        rw [takeOut_quoted]
        simp only
        rw [if_pos trivial, if_neg (by rw [list_size]; omega), bytes_of]
        rfl
      · have ht : tokText ⟨kd, x, 0, p⟩ = x.data.toList := by unfold tokText; rw [if_neg h4]
        rw [ht]
        by_cases h5 : kd = 5
        · subst h5
          simp at hr
          have hR' : HeadIs (fun c => c != 61 && c != 47) R := by
            intro c r e
            have := hR c r e
            simpa [stopB] using this
          rw [sgn_stop _ hr R hR', bytes_of]
          rfl
        have hR' : HeadIs (fun c => !wordN c.toNat) R := by
          intro c r e
          have := hR c r e
          simpa [stopB, h4, h5] using this
        have hw : ∀ y : List UInt8, (∀ b ∈ y, wordN b.toNat = true) → wordOut (y ++ R) k = if keyB y then (⟨2, ⟨y.toArray⟩, 0, k⟩, k + y.length, 0) else if nameB y then (⟨1, ⟨y.toArray⟩, 0, k⟩, k + y.length, 0) else (Tok.zero, k, 11) := by
          intro y hy
          unfold wordOut
          rw [runL_stop hR' y hy, take_all]
        by_cases h1 : kd = 1
        · subst h1
          simp at hr
          obtain ⟨b, y, hx, hl, hwd⟩ := name_shape hr.1
          rw [hx, one_word hl, ← hx, hw _ hwd, hr.2, if_neg (by decide), hr.1, if_pos rfl, bytes_of]
          rfl
        · by_cases h2 : kd = 2
          · subst h2
            simp at hr
            obtain ⟨b, y, hx, hl, hwd⟩ := key_shape _ (List.contains_iff_mem.1 hr)
            rw [hx, one_word hl, ← hx, hw _ hwd, hr, if_pos rfl, bytes_of]
            rfl
          · rw [if_neg h1, if_neg h2, if_neg h4, if_neg h5, if_neg h6] at hr
            cases hr
    · rw [if_neg hn] at hr
      cases hr

/-- tokens that may be, each behind one that ends there -/
def Fine : List Pc → Prop
  | [] => True
  | .bl :: r => Fine r
  | .tk t :: r => rightTok t = true ∧ t.kind ≠ 6 ∧ HeadIs (stopB t) (laid r) ∧ Fine r

theorem tok_ne {t : Tok} (hr : rightTok t = true) (h6 : t.kind ≠ 6) : tokText t ≠ [] := by
  intro e
  have h := one_stop hr h6 [] (headIs_nil _) 0
  rw [e] at h
  have := congrArg (fun o : TokOut => o.2.2) h
  simp [oneOut] at this
theorem tok_blank {t : Tok} (hr : rightTok t = true) (h6 : t.kind ≠ 6) : HeadIs (fun c => !blankN c.toNat) (tokText t) := by
  intro c r e
  have h := one_stop hr h6 [] (headIs_nil _) 0
  rw [List.append_nil, e] at h
  cases hq : blankN c.toNat with
  | false => show (!blankN c.toNat) = true; rw [hq]; rfl
  | true => have := blank_bad (y := r) (k := 0) hq; rw [h] at this; cases this
theorem no_slashes {t : Tok} (hr : rightTok t = true) (h6 : t.kind ≠ 6) {R : List UInt8} (hR : HeadIs (stopB t) R) : slashes (tokText t ++ R) = false := by
  cases hq : slashes (tokText t ++ R) with
  | false => rfl
  | true =>
    have h := one_stop hr h6 R hR 0
    cases hl : tokText t ++ R with
    | nil => rw [hl] at hq; cases hq
    | cons b y =>
      rw [hl] at h hq
      cases y with
      | nil => cases hq
      | cons c z =>
        simp [slashes] at hq
        have e1 : b = 47 := UInt8.toNat_inj.1 hq.1
        have e2 : c = 47 := UInt8.toNat_inj.1 hq.2
        subst e1 e2
        have h1 : oneOut (47 :: 47 :: z) 0 = (⟨5, ⟨#[47]⟩, 0, (0 : Nat)⟩, 1, 0) := rfl
        rw [h1] at h
        have h2 : (tokText t).length = 1 := by
          have := congrArg (fun o : TokOut => o.2.1) h
          simp at this; omega
        have h5 : t.kind = 5 := by
          have := congrArg (fun o : TokOut => o.1.kind) h
          simp [Tok.put] at this; omega
        obtain ⟨a, ha⟩ := List.length_eq_one_iff.1 h2
        rw [ha] at hl
        simp at hl
        have := hR 47 z hl.2
        simp [stopB, h5] at this
/-- blanks ahead of the first token -/
def skipC : List Pc → List Pc
  | .bl :: r => skipC r
  | l => l
theorem skip_fine : ∀ (l : List Pc), Fine l → skipL false (laid l) = (laid l).length - (laid (skipC l)).length ∧ (laid (skipC l)).length ≤ (laid l).length ∧ (laid l).drop ((laid l).length - (laid (skipC l)).length) = laid (skipC l)
  | [], _ => by simp [skipC, laid, skipL]
  | .bl :: r, h => by
    obtain ⟨h1, h2, h3⟩ := skip_fine r h
    have e : laid (.bl :: r) = 32 :: laid r := by rw [laid_cons]; rfl
    have hs : slashes (32 :: laid r) = false := by cases laid r <;> simp [slashes]
    have hsk : skipC (.bl :: r) = skipC r := rfl
    rw [e, hsk]
    refine ⟨?_, by simp; omega, ?_⟩
    · simp [skipL, hs, h1, blankN]; omega
    · rw [show (32 :: laid r).length - (laid (skipC r)).length = ((laid r).length - (laid (skipC r)).length) + 1 by simp; omega]
      simpa using h3
  | .tk t :: r, h => by
    obtain ⟨hr, h6, hR, _⟩ := h
    have hsk : skipC (.tk t :: r) = .tk t :: r := rfl
    rw [hsk]
    refine ⟨?_, Nat.le_refl _, by simp⟩
    rw [Nat.sub_self, laid_cons]
    show skipL false (tokText t ++ laid r) = 0
    have h1 := no_slashes hr h6 hR
    have h2 := tok_blank hr h6
    have h3 := tok_ne hr h6
    cases ht : tokText t with
    | nil => exact absurd ht h3
    | cons c y =>
      have hb := h2 c y ht
      rw [ht] at h1
      simp only [List.cons_append] at h1 ⊢
      simp only [Bool.not_eq_true'] at hb
      simp [skipL, h1, hb]
theorem skipC_toks : ∀ l : List Pc, toksC (skipC l) = toksC l
  | [] => rfl
  | .bl :: r => skipC_toks r
  | .tk _ :: _ => rfl
theorem skipC_fine : ∀ {l : List Pc}, Fine l → Fine (skipC l)
  | [], h => h
  | .bl :: r, h => skipC_fine (l := r) h
  | .tk _ :: _, h => h
theorem skipC_shape : ∀ l : List Pc, skipC l = [] ∨ ∃ t r, skipC l = .tk t :: r
  | [] => .inl rfl
  | .bl :: r => skipC_shape r
  | .tk t :: r => .inr ⟨t, r, rfl⟩

theorem put_inj {a b : Tok} {k : Nat} (h : a.put k = b.put k) : a.kind = b.kind ∧ a.text = b.text ∧ a.num = b.num := by
  unfold Tok.put at h
  injection h with h1 h2 h3
  exact ⟨h1, h2, h3⟩
/-- one text, one row of tokens -/
theorem toks_inj : ∀ (m : Nat) (a b : List Pc), a.length + b.length ≤ m → Fine a → Fine b → laid a = laid b → (toksC a).map bare = (toksC b).map bare
  | 0, a, b, hm, _, _, _ => by
    have h1 : a = [] := List.length_eq_zero_iff.1 (by omega)
    have h2 : b = [] := List.length_eq_zero_iff.1 (by omega)
    rw [h1, h2]
  | m + 1, a, b, hm, ha, hb, h => by
    have sk : ∀ l : List Pc, (skipC l).length ≤ l.length := by
      intro l
      induction l with
      | nil => simp [skipC]
      | cons p r ih => cases p <;> simp [skipC] <;> omega
    have h1 := skip_fine a ha
    have h2 := skip_fine b hb
    have hl : laid (skipC a) = laid (skipC b) := by
      rw [h] at h1
      have e : (laid b).length - (laid (skipC a)).length = (laid b).length - (laid (skipC b)).length := by rw [← h1.1, ← h2.1]
      rw [← h1.2.2, ← h2.2.2, e]
    have fa := skipC_fine ha
    have fb := skipC_fine hb
    rw [← skipC_toks a, ← skipC_toks b]
    have sa := sk a
    have sb := sk b
    rcases skipC_shape a with ea | ⟨t, r, ea⟩ <;> rcases skipC_shape b with eb | ⟨u, q, eb⟩ <;> rw [ea] at fa hl sa ⊢ <;> rw [eb] at fb hl sb ⊢
    · exfalso
      obtain ⟨x1, x2, x3, x4⟩ := fb
      rw [laid_cons] at hl
      exact tok_ne x1 x2 (List.append_eq_nil_iff.1 (show tokText u ++ laid q = [] from hl.symm)).1
    · exfalso
      obtain ⟨x1, x2, x3, x4⟩ := fa
      rw [laid_cons] at hl
      exact tok_ne x1 x2 (List.append_eq_nil_iff.1 (show tokText t ++ laid r = [] from hl)).1
    · obtain ⟨x1, x2, x3, x4⟩ := fa
      obtain ⟨y1, y2, y3, y4⟩ := fb
      rw [laid_cons, laid_cons] at hl
      have o1 := one_stop x1 x2 (laid r) x3 0
      have o2 := one_stop y1 y2 (laid q) y3 0
      simp only [Pc.text] at hl
      rw [hl, o2] at o1
      have e1 := congrArg (fun o : TokOut => o.1) o1
      have e2 := congrArg (fun o : TokOut => o.2.1) o1
      simp only at e1 e2
      obtain ⟨i1, i2, i3⟩ := put_inj e1
      have hlen : (tokText t).length = (tokText u).length := by omega
      have hrest : laid r = laid q := (List.append_inj hl hlen).2
      have ih := toks_inj m r q (by simp at sa sb; omega) x4 y4 hrest
      show bare t :: (toksC r).map bare = bare u :: (toksC q).map bare
      rw [ih]
      unfold bare
      rw [i1, i2, i3]

end Go.Proofs.YtlnllpehifkjhaaDoor
