/- Tokens that are read may be, each at its place; a text behind a note is not read. -/
import Derived.Test.YtffijiabaeipaaaDoorLexPure
import Derived.Test.YtffijiabaeipaaaDoorLexRight
namespace Go.Proofs.YtffijiabaeipaaaDoor
open Go.RowKit

theorem one_right {l : List UInt8} {k : Nat} (h : (oneOut l k).2.2 = 0) : rightTok (oneOut l k).1 = true ∧ (oneOut l k).1.kind ≠ 6 ∧ (oneOut l k).1.pl = k := by
  match l with
  | [] => simp [oneOut] at h
  | b :: r =>
    unfold oneOut at h ⊢
    simp only at h ⊢
    by_cases hl : letterN b.toNat = true
    · rw [if_pos hl] at h ⊢
      unfold wordOut at h ⊢
      by_cases h3 : keyB ((b :: r).take (runL wordN (b :: r))) = true
      · rw [if_pos h3]
        refine ⟨?_, by simp, rfl⟩
        simpa [rightTok] using h3
      · rw [if_neg h3] at h ⊢
        by_cases h4 : nameB ((b :: r).take (runL wordN (b :: r))) = true
        · rw [if_pos h4]
          refine ⟨?_, by simp, rfl⟩
          simp [rightTok]
          exact ⟨h4, by simpa using h3⟩
        · rw [if_neg h4] at h; simp at h
    · rw [if_neg hl] at h ⊢
      by_cases hd : digitN b.toNat = true
      · rw [if_pos hd] at h ⊢
        unfold numbOut at h ⊢
        by_cases h3 : (readOut ((b :: r).take (runL digitN (b :: r)))).2 = 0
        · rw [if_pos h3]
          refine ⟨?_, by simp, rfl⟩
          have := readOut_bounds ((b :: r).take (runL digitN (b :: r)))
          simp [rightTok]
          exact this
        · rw [if_neg h3] at h; exact absurd h h3
      · rw [if_neg hd] at h ⊢
        by_cases h34 : b.toNat = 34
        · rw [if_pos h34] at h ⊢
          unfold quoOut at h ⊢
          by_cases h3 : (takeOut (b :: r)).2.2 = 0
          · rw [if_pos h3] at h ⊢
            by_cases h4 : 256 < (takeOut (b :: r)).1.length
            · rw [if_pos h4] at h; simp at h
            · rw [if_neg h4]
              refine ⟨?_, by simp, rfl⟩
              have e : (⟨(takeOut (b :: r)).1.toArray⟩ : ByteArray).size = (takeOut (b :: r)).1.length := by rw [← list_size]
              simp only [rightTok]
              simp [e]; omega
          · rw [if_neg h3] at h; exact absurd h h3
        · rw [if_neg h34] at h ⊢
          unfold sgnOut at h ⊢
          by_cases h3 : signL (b :: r) = []
          · rw [if_pos h3] at h; simp at h
          · rw [if_neg h3]
            refine ⟨?_, by simp, rfl⟩
            rcases firstOf_mem sgnL (b :: r) with h4 | h4
            · exact absurd h4 h3
            · simp [rightTok]; exact h4

theorem runL_tail {p : Nat → Bool} (hp : p 32 = false) (t : List UInt8) : ∀ l : List UInt8, runL p (l ++ 32 :: t) = runL p l
  | [] => by simp [runL, hp]
  | b :: l => by
    have := runL_tail hp t l
    simp [runL, this]
theorem take_tail {l t : List UInt8} {n : Nat} (h : n ≤ l.length) : (l ++ t).take n = l.take n := List.take_append_of_le_length h

theorem takeOut_tail {l x : List UInt8} {n : Nat} (h : takeOut l = (x, n, 0)) (t : List UInt8) : takeOut (l ++ t) = (x, n, 0) := by
  obtain ⟨r, rfl, hg⟩ := takeOut_34 h
  obtain ⟨body, rest, y, rfl, rfl, rfl, hon⟩ := takeGo_body _ _ _ _ _ _ hg
  have e : 34 :: (body ++ 34 :: rest) ++ t = 34 :: (body ++ 34 :: (rest ++ t)) := by simp
  rw [e]
  simp only [takeOut]
  rw [if_pos (by decide)]
  obtain ⟨g', hg', he, _⟩ := hon ((body ++ 34 :: (rest ++ t)).length + 1) (34 :: (rest ++ t)) 1 [] (by simp; omega)
  obtain ⟨g0, rfl⟩ : ∃ g0, g' = g0 + 1 := ⟨g' - 1, by omega⟩
  rw [he, takeGo, if_pos (by decide)]
  simp

theorem pref_tail : ∀ (x l t : List UInt8), (∀ b ∈ x, b ≠ 32) → x.isPrefixOf (l ++ 32 :: t) = x.isPrefixOf l
  | [], _, _, _ => by simp
  | b :: x, [], t, h => by
    have := h b (by simp)
    simp [List.isPrefixOf, this]
  | b :: x, c :: l, t, h => by
    have := pref_tail x l t (fun y hy => h y (by simp [hy]))
    simp [List.isPrefixOf, this]
theorem firstOf_tail (l t : List UInt8) : ∀ L : List (List UInt8), (∀ x ∈ L, ∀ b ∈ x, b ≠ 32) → firstOf L (l ++ 32 :: t) = firstOf L l
  | [], _ => rfl
  | x :: L, h => by
    have h1 := pref_tail x l t (h x (by simp))
    have h2 := firstOf_tail l t L (fun y hy => h y (by simp [hy]))
    simp [firstOf, h1, h2]
theorem signL_tail (l t : List UInt8) : signL (l ++ 32 :: t) = signL l := firstOf_tail l t sgnL (by decide)

theorem one_tail {l : List UInt8} {k : Nat} (t : List UInt8) (h : (oneOut l k).2.2 = 0) : oneOut (l ++ 32 :: t) k = oneOut l k := by
  match l with
  | [] => simp [oneOut] at h
  | b :: r =>
    have h1 := h
    show oneOut (b :: (r ++ 32 :: t)) k = oneOut (b :: r) k
    unfold oneOut at h ⊢
    simp only at h ⊢
    have ea : b :: (r ++ 32 :: t) = (b :: r) ++ 32 :: t := rfl
    rw [ea]
    by_cases hl : letterN b.toNat = true
    · rw [if_pos hl, if_pos hl]
      unfold wordOut
      rw [runL_tail (by decide), take_tail (runL_le _ _)]
    · rw [if_neg hl, if_neg hl]
      rw [if_neg hl] at h
      by_cases hd : digitN b.toNat = true
      · rw [if_pos hd, if_pos hd]
        unfold numbOut
        rw [runL_tail (by decide), take_tail (runL_le _ _)]
      · rw [if_neg hd, if_neg hd]
        rw [if_neg hd] at h
        by_cases h34 : b.toNat = 34
        · rw [if_pos h34, if_pos h34]
          rw [if_pos h34] at h
          have h3 : (takeOut (b :: r)).2.2 = 0 := by
            unfold quoOut at h
            by_cases h3 : (takeOut (b :: r)).2.2 = 0
            · exact h3
            · rw [if_neg h3] at h; exact h
          have hg : takeOut (b :: r) = ((takeOut (b :: r)).1, (takeOut (b :: r)).2.1, 0) := by rw [← h3]
          unfold quoOut
          rw [takeOut_tail hg, ← hg]
        · rw [if_neg h34, if_neg h34]
          unfold sgnOut
          rw [signL_tail]

/-- a blank and a note without an end -/
def noteT : List UInt8 := [32, 47, 47, 32, 34, 120]
theorem slashes_tail (b : UInt8) (r : List UInt8) : slashes (b :: (r ++ noteT)) = slashes (b :: r) := by
  cases r with
  | nil => simp [slashes, noteT]
  | cons c r => rfl
theorem skipL_tail : ∀ (f : Bool) (l : List UInt8), skipL f (l ++ noteT) = if skipL f l = l.length then l.length + 6 else skipL f l
  | true, [] => rfl
  | false, [] => rfl
  | true, b :: r => by
    have := skipL_tail (noteN b.toNat) r
    have e1 : skipL true (b :: r ++ noteT) = skipL (noteN b.toNat) (r ++ noteT) + 1 := by simp [skipL]
    have e2 : skipL true (b :: r) = skipL (noteN b.toNat) r + 1 := by simp [skipL]
    have e3 : (b :: r).length = r.length + 1 := rfl
    rw [e1, this]
    by_cases hq : skipL (noteN b.toNat) r = r.length
    · rw [if_pos hq, if_pos (by omega)]; omega
    · rw [if_neg hq, if_neg (by omega)]; omega
  | false, b :: r => by
    have h1 := skipL_tail true r
    have h2 := skipL_tail false r
    simp only [List.cons_append, skipL, slashes_tail, h1, h2, List.length_cons]
    split
    · split <;> split <;> omega
    · split
      · split <;> split <;> omega
      · simp

theorem cat_list (s t : ByteArray) : (s ++ t).data.toList = s.data.toList ++ t.data.toList := by simp
theorem cat_size (s t : ByteArray) : (s ++ t).size = s.size + t.size := by rw [← list_size, cat_list, List.length_append, list_size, list_size]
theorem cat_drop {s t : ByteArray} {k : Nat} (h : k ≤ s.size) : (s ++ t).data.toList.drop k = s.data.toList.drop k ++ t.data.toList := by
  rw [cat_list, List.drop_append_of_le_length (by rw [list_size]; exact h)]

def noteB : ByteArray := ⟨#[32, 47, 47, 32, 34, 120]⟩
theorem skip_cat {s : ByteArray} {k : Nat} (h : k ≤ s.size) : skipTo false (s ++ noteB) k = if skipTo false s k = s.size then s.size + 6 else skipTo false s k := by
  unfold skipTo
  rw [cat_drop h]
  have e : noteB.data.toList = noteT := rfl
  rw [e, skipL_tail, List.length_drop, list_size]
  have := skipL_le false (s.data.toList.drop k)
  rw [List.length_drop, list_size] at this
  by_cases hq : skipL false (s.data.toList.drop k) = s.size - k
  · rw [if_pos hq, if_pos (by omega)]; omega
  · rw [if_neg hq, if_neg (by omega)]

/-- what is read with a note behind is as long -/
theorem go_cat (s : ByteArray) : ∀ (f k : Nat) (acc out : List Tok) (p : Nat), tokGo s f k acc = (out, p, 0) → 0 < f → s.size < k + f → k ≤ s.size → ∀ f', f ≤ f' →
    ∃ out', tokGo (s ++ noteB) f' (if k = s.size then s.size + 6 else k) acc = (out', 0, 0) ∧ out'.length = out.length
  | 0, _, _, _, _, _, h0, _, _, _, _ => by omega
  | f + 1, k, acc, out, p, h, _, hf, hk, f', hff => by
    obtain ⟨f', rfl⟩ : ∃ g, f' = g + 1 := ⟨f' - 1, by omega⟩
    have hsz : (s ++ noteB).size = s.size + 6 := cat_size s noteB
    by_cases hke : k = s.size
    · rw [if_pos hke]
      rw [tokGo_end (by omega)] at h
      refine ⟨_, tokGo_end (by omega), ?_⟩
      have := congrArg (fun o : List Tok × Nat × Int => o.1.length) h
      simp at this ⊢
      omega
    · rw [if_neg hke]
      have hkl : k < s.size := by omega
      by_cases he : (oneOut (s.data.toList.drop k) k).2.2 = 0
      · have e32 : noteB.data.toList = 32 :: [47, 47, 32, 34, 120] := rfl
        have ho : oneOut ((s ++ noteB).data.toList.drop k) k = oneOut (s.data.toList.drop k) k := by
          rw [cat_drop hk, e32]; exact one_tail _ he
        by_cases h6 : acc.length = 600
        · rw [tokGo_full hkl rfl he h6] at h
          have := congrArg (fun o : List Tok × Nat × Int => o.2.2) h
          simp at this
        · rw [tokGo_more hkl rfl he h6] at h
          have hto := one_to hk he
          have h2 := skipTo_le (f := false) hto.2
          have h3 := skipTo_ge false s (oneOut (s.data.toList.drop k) k).2.1
          rw [tokGo_more (show k < (s ++ noteB).size by omega) ho he h6, skip_cat hto.2]
          have hfp : 0 < f := by omega
          exact go_cat s f _ _ out p h hfp (by omega) h2 f' (by omega)
      · rw [tokGo_bad hkl rfl he] at h
        have := congrArg (fun o : List Tok × Nat × Int => o.2.2) h
        simp at this
        exact absurd this he

theorem out_cat {s : ByteArray} (hs : s.size ≤ 1900) {out : List Tok} {p : Nat} (h : tokOut s = (out, p, 0)) : ∃ out', tokOut (s ++ noteB) = (out', 0, 0) ∧ out'.length = out.length := by
  have hsz : (s ++ noteB).size = s.size + 6 := cat_size s noteB
  unfold tokOut at h ⊢
  rw [if_neg (by omega)] at h
  rw [if_neg (by omega), skip_cat (Nat.zero_le _)]
  exact go_cat s _ _ _ _ _ h (by omega) (by omega) (skipTo_le (Nat.zero_le _)) _ (by omega)

/-- each token at its place -/
theorem go_placed (s : ByteArray) : ∀ (f k : Nat) (acc out : List Tok) (p : Nat), tokGo s f k acc = (out, p, 0) → 0 < f → s.size < k + f → k ≤ s.size →
    ∃ l, out = acc ++ l ++ [⟨6, ⟨#[]⟩, 0, s.size⟩] ∧ (∀ t ∈ l, rightTok t = true ∧ t.kind ≠ 6 ∧ (k : Int) ≤ t.pl ∧ t.pl < s.size) ∧ l.Pairwise fun a b => a.pl + 1 ≤ b.pl
  | 0, _, _, _, _, _, h0, _, _ => by omega
  | f + 1, k, acc, out, p, h, _, hf, hk => by
    by_cases hke : k = s.size
    · rw [tokGo_end (by omega)] at h
      have := congrArg (fun o : List Tok × Nat × Int => o.1) h
      simp only at this
      exact ⟨[], by rw [← this]; simp, by simp, by simp⟩
    · have hkl : k < s.size := by omega
      by_cases he : (oneOut (s.data.toList.drop k) k).2.2 = 0
      · by_cases h6 : acc.length = 600
        · rw [tokGo_full hkl rfl he h6] at h
          have := congrArg (fun o : List Tok × Nat × Int => o.2.2) h
          simp at this
        · rw [tokGo_more hkl rfl he h6] at h
          have hto := one_to hk he
          have h2 := skipTo_le (f := false) hto.2
          have h3 := skipTo_ge false s (oneOut (s.data.toList.drop k) k).2.1
          have hr := one_right he
          obtain ⟨l, e, hl, hp⟩ := go_placed s f _ _ out p h (by omega) (by omega) h2
          refine ⟨(oneOut (s.data.toList.drop k) k).1 :: l, by rw [e]; simp, ?_, ?_⟩
          · intro t ht
            rcases List.mem_cons.1 ht with rfl | ht
            · exact ⟨hr.1, hr.2.1, by rw [hr.2.2]; omega, by rw [hr.2.2]; omega⟩
            · have := hl t ht
              exact ⟨this.1, this.2.1, by omega, this.2.2.2⟩
          · refine List.pairwise_cons.2 ⟨fun t ht => ?_, hp⟩
            have := hl t ht
            rw [hr.2.2]; omega
      · rw [tokGo_bad hkl rfl he] at h
        have := congrArg (fun o : List Tok × Nat × Int => o.2.2) h
        simp at this
        exact absurd this he

theorem out_placed {s : ByteArray} {out : List Tok} {p : Nat} (h : tokOut s = (out, p, 0)) :
    ∃ l, out = l ++ [⟨6, ⟨#[]⟩, 0, s.size⟩] ∧ (∀ t ∈ l, rightTok t = true ∧ t.kind ≠ 6 ∧ 0 ≤ t.pl ∧ t.pl < s.size) ∧ l.Pairwise fun a b => a.pl + 1 ≤ b.pl := by
  unfold tokOut at h
  split at h
  · simp at h
  · obtain ⟨l, e, hl, hp⟩ := go_placed s _ _ _ _ _ h (by omega) (by omega) (skipTo_le (Nat.zero_le _))
    exact ⟨l, by simpa using e, fun t ht => ⟨(hl t ht).1, (hl t ht).2.1, by have := (hl t ht).2.2.1; omega, (hl t ht).2.2.2⟩, hp⟩

/-- an error: no tokens -/
theorem go_none (s : ByteArray) : ∀ (f k : Nat) (acc : List Tok), (tokGo s f k acc).2.2 ≠ 0 → (tokGo s f k acc).1 = []
  | 0, _, _, _ => rfl
  | f + 1, k, acc, h => by
    unfold tokGo at h ⊢
    split
    · rename_i h1; rw [if_pos h1] at h; simp at h
    · rename_i h1
      rw [if_neg h1] at h
      split
      · rfl
      · rename_i h2
        rw [if_neg h2] at h
        split
        · rfl
        · rename_i h3
          rw [if_neg h3] at h
          exact go_none s f _ _ h
theorem out_none {s : ByteArray} (h : (tokOut s).2.2 ≠ 0) : (tokOut s).1 = [] := by
  unfold tokOut at h ⊢
  split
  · rfl
  · rename_i h1
    rw [if_neg h1] at h
    exact go_none s _ _ _ h

theorem right_num {t : Tok} (h : rightTok t = true) : 0 ≤ t.num ∧ t.num ≤ 4611686018427387903 := by
  unfold rightTok at h
  split at h
  · rw [Bool.and_eq_true, Bool.and_eq_true, decide_eq_true_iff, decide_eq_true_iff] at h
    exact ⟨h.1, h.2.1⟩
  · split at h
    · rename_i h1; omega
    · cases h

theorem placed_at {s : ByteArray} {out : List Tok} {p : Nat} (h : tokOut s = (out, p, 0)) : out ≠ [] ∧
    (∀ (j : Nat) (hj : j < out.length), rightTok out[j] = true ∧ 0 ≤ out[j].pl ∧ out[j].pl ≤ s.size ∧ (out[j].kind = 6 ↔ j + 1 = out.length)) ∧
    (∀ (j : Nat) (hj : j + 1 < out.length), (j + 2 = out.length → out[j].pl ≤ out[j + 1].pl) ∧ (j + 2 ≠ out.length → out[j].pl + 1 ≤ out[j + 1].pl)) := by
  obtain ⟨l, rfl, hl, hp⟩ := out_placed h
  refine ⟨by simp, fun j hj => ?_, fun j hj => ?_⟩
  · simp only [List.length_append, List.length_cons, List.length_nil] at hj ⊢
    by_cases hjl : j < l.length
    · rw [List.getElem_append_left hjl]
      have := hl _ (List.getElem_mem hjl)
      exact ⟨this.1, this.2.2.1, by omega, fun h => absurd h this.2.1, fun h => by omega⟩
    · obtain rfl : j = l.length := by omega
      simp [rightTok]
  · simp only [List.length_append, List.length_cons, List.length_nil] at hj ⊢
    have hjl : j < l.length := by omega
    rw [List.getElem_append_left hjl]
    have h1 := hl _ (List.getElem_mem hjl)
    refine ⟨fun h2 => ?_, fun h2 => ?_⟩
    · have e : j + 1 = l.length := by omega
      simp only [e]
      simp; omega
    · have h3 : j + 1 < l.length := by omega
      rw [List.getElem_append_left h3]
      exact List.pairwise_iff_getElem.1 hp j (j + 1) hjl h3 (by omega)

end Go.Proofs.YtffijiabaeipaaaDoor
