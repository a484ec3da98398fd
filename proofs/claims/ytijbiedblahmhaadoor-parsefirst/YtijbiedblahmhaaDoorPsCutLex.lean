/- A text that is cut ahead of a token has the tokens ahead of it. -/
import Derived.Test.YtijbiedblahmhaaDoorJoint19
namespace Go.Proofs.YtijbiedblahmhaaDoor
open Go.RowKit

theorem slashes_take (b : UInt8) (r : List UInt8) (a : Nat) (h : slashes (b :: r) = false) : slashes (b :: r.take a) = false := by
  cases r with
  | nil => simpa using h
  | cons c r =>
    cases a with
    | zero => rfl
    | succ a => exact h
/-- blanks up to a place ahead of the cut -/
theorem skipL_cut : ∀ (f : Bool) (l : List UInt8) (a : Nat), skipL f l ≤ a → skipL f (l.take a) = skipL f l
  | _, [], a, _ => by simp
  | true, b :: r, a, h => by
    rw [skipL] at h
    obtain ⟨a, rfl⟩ : ∃ a', a = a' + 1 := ⟨a - 1, by omega⟩
    rw [List.take_succ_cons, skipL, skipL, skipL_cut (noteN b.toNat) r a (by omega)]
  | false, b :: r, a, h => by
    rw [skipL] at h
    by_cases hs : slashes (b :: r) = true
    · rw [if_pos hs] at h
      obtain ⟨a, rfl⟩ : ∃ a', a = a' + 1 := ⟨a - 1, by omega⟩
      have ih := skipL_cut true r a (by omega)
      have hs2 : slashes (b :: r.take a) = true := by
        cases r with
        | nil => cases hs
        | cons c r =>
          rw [skipL] at h
          obtain ⟨a, rfl⟩ : ∃ a', a = a' + 1 := ⟨a - 1, by omega⟩
          exact hs
      rw [List.take_succ_cons, skipL, if_pos hs2, skipL, if_pos hs, ih]
    · rw [if_neg hs] at h
      have hs' : slashes (b :: r) = false := by simpa using hs
      by_cases hb : blankN b.toNat = true
      · rw [if_pos hb] at h
        obtain ⟨a, rfl⟩ : ∃ a', a = a' + 1 := ⟨a - 1, by omega⟩
        rw [List.take_succ_cons, skipL, slashes_take b r a hs', skipL, if_neg hs, if_pos hb, if_pos hb, skipL_cut false r a (by omega)]
        rfl
      · cases a with
        | zero => rw [List.take_zero, skipL, skipL, if_neg hs, if_neg hb]
        | succ a =>
          rw [List.take_succ_cons, skipL, slashes_take b r a hs', skipL, if_neg hs, if_neg hb, if_neg hb]
          rfl
theorem runL_cut (p : Nat → Bool) : ∀ (l : List UInt8) (a : Nat), runL p l ≤ a → runL p (l.take a) = runL p l
  | [], a, _ => by simp
  | b :: r, a, h => by
    rw [runL] at h
    by_cases hp : p b.toNat = true
    · rw [if_pos hp] at h
      obtain ⟨a, rfl⟩ : ∃ a', a = a' + 1 := ⟨a - 1, by omega⟩
      rw [List.take_succ_cons, runL, if_pos hp, runL, if_pos hp, runL_cut p r a (by omega)]
    · cases a with
      | zero => rw [List.take_zero, runL, runL, if_neg hp]
      | succ a => rw [List.take_succ_cons, runL, if_neg hp, runL, if_neg hp]
theorem take_cut {l : List UInt8} {n a : Nat} (h : n ≤ a) : (l.take a).take n = l.take n := by rw [List.take_take, Nat.min_eq_left h]
theorem takeOut_cut {l x : List UInt8} {n : Nat} (h : takeOut l = (x, n, 0)) (a : Nat) (ha : n ≤ a) : takeOut (l.take a) = (x, n, 0) := by
  obtain ⟨r, rfl, hg⟩ := takeOut_34 h
  obtain ⟨body, rest, y, rfl, rfl, rfl, hon⟩ := takeGo_body _ _ _ _ _ _ hg
  have e : (34 :: (body ++ 34 :: rest)).take a = 34 :: (body ++ 34 :: (rest.take (a - (2 + body.length)))) := by
    obtain ⟨b, rfl⟩ : ∃ b, a = b + (2 + body.length) := ⟨a - (2 + body.length), by omega⟩
    rw [show b + (2 + body.length) = (body.length + (b + 1)) + 1 by omega, List.take_succ_cons, List.take_append, List.take_of_length_le (by omega), Nat.add_sub_cancel_left, List.take_succ_cons]
    congr 4
    omega
  rw [e]
  simp only [takeOut]
  rw [if_pos (by decide)]
  obtain ⟨g', hg', he, _⟩ := hon ((body ++ 34 :: (rest.take (a - (2 + body.length)))).length + 1) (34 :: (rest.take (a - (2 + body.length)))) 1 [] (by simp; omega)
  obtain ⟨g0, rfl⟩ : ∃ g0, g' = g0 + 1 := ⟨g' - 1, by omega⟩
  rw [he, takeGo, if_pos (by decide), List.nil_append]
theorem pref_take : ∀ (x l : List UInt8) (a : Nat), x.length ≤ a → x.isPrefixOf (l.take a) = x.isPrefixOf l
  | [], _, _, _ => by simp
  | b :: x, [], a, _ => by simp
  | b :: x, c :: l, a, h => by
    obtain ⟨a, rfl⟩ : ∃ a', a = a' + 1 := ⟨a - 1, by simp at h; omega⟩
    rw [List.take_succ_cons, List.isPrefixOf, List.isPrefixOf, pref_take x l a (by simp at h; omega)]
theorem pref_no {x l : List UInt8} {a : Nat} (h : x.isPrefixOf l = false) : x.isPrefixOf (l.take a) = false := by
  cases hq : x.isPrefixOf (l.take a) with
  | false => rfl
  | true =>
    have h1 := (List.isPrefixOf_iff_prefix.1 hq).trans (List.take_prefix a l)
    rw [List.isPrefixOf_iff_prefix.2 h1] at h
    cases h
theorem firstOf_cut (l : List UInt8) (a : Nat) : ∀ L : List (List UInt8), firstOf L l ≠ [] → (firstOf L l).length ≤ a → firstOf L (l.take a) = firstOf L l
  | [], h, _ => absurd rfl h
  | x :: L, hne, h => by
    rw [firstOf] at h hne
    cases hq : x.isPrefixOf l with
    | true =>
      rw [hq, if_pos rfl] at h
      rw [firstOf, firstOf, pref_take x l a h, hq, if_pos rfl, if_pos rfl]
    | false =>
      rw [hq, if_neg (by decide)] at h hne
      rw [firstOf, firstOf, pref_no hq, hq, if_neg (by decide), if_neg (by decide), firstOf_cut l a L hne h]
/-- a token that ends ahead of the cut is the same -/
theorem one_cut {l : List UInt8} {k a : Nat} (h : (oneOut l k).2.2 = 0) (ha : (oneOut l k).2.1 ≤ k + a) (h0 : 0 < a) : oneOut (l.take a) k = oneOut l k := by
  match l with
  | [] => simp [oneOut] at h
  | b :: r =>
    obtain ⟨a0, rfl⟩ : ∃ a0, a = a0 + 1 := ⟨a - 1, by omega⟩
    have ea : (b :: r).take (a0 + 1) = b :: r.take a0 := rfl
    rw [ea]
    unfold oneOut at h ha ⊢
    simp only at h ha ⊢
    rw [← ea]
    by_cases hl : letterN b.toNat = true
    · rw [if_pos hl] at h ha ⊢
      rw [if_pos hl]
      have hn : runL wordN (b :: r) ≤ a0 + 1 := by
        unfold wordOut at h ha
        split at ha
        · simp only at ha; omega
        · rename_i hk
          rw [if_neg hk] at h
          split at ha
          · simp only at ha; omega
          · rename_i hm
            rw [if_neg hm] at h
            cases h
      unfold wordOut
      rw [runL_cut _ _ _ hn, take_cut hn]
    · rw [if_neg hl] at h ha ⊢
      rw [if_neg hl]
      by_cases hd : digitN b.toNat = true
      · rw [if_pos hd] at h ha ⊢
        rw [if_pos hd]
        have hn : runL digitN (b :: r) ≤ a0 + 1 := by
          unfold numbOut at h ha
          split at ha
          · simp only at ha; omega
          · rename_i hk
            rw [if_neg hk] at h
            exact absurd h hk
        unfold numbOut
        rw [runL_cut _ _ _ hn, take_cut hn]
      · rw [if_neg hd] at h ha ⊢
        rw [if_neg hd]
        by_cases h34 : b.toNat = 34
        · rw [if_pos h34] at h ha ⊢
          rw [if_pos h34]
          have h3 : (takeOut (b :: r)).2.2 = 0 := by
            unfold quoOut at h
            by_cases h3 : (takeOut (b :: r)).2.2 = 0
            · exact h3
            · rw [if_neg h3] at h; exact h
          have hg : takeOut (b :: r) = ((takeOut (b :: r)).1, (takeOut (b :: r)).2.1, 0) := by rw [← h3]
          have hn : (takeOut (b :: r)).2.1 ≤ a0 + 1 := by
            unfold quoOut at h ha
            rw [if_pos h3] at h ha
            split at ha
            · rename_i hk
              rw [if_pos hk] at h
              cases h
            · simp only at ha; omega
          unfold quoOut
          rw [takeOut_cut hg _ hn, ← hg]
        · rw [if_neg h34] at h ha ⊢
          rw [if_neg h34]
          have hn : signL (b :: r) ≠ [] ∧ (signL (b :: r)).length ≤ a0 + 1 := by
            unfold sgnOut at h ha
            by_cases hk : signL (b :: r) = []
            · rw [if_pos hk] at h; cases h
            · rw [if_neg hk] at ha; simp only at ha; exact ⟨hk, by omega⟩
          unfold sgnOut
          rw [show signL ((b :: r).take (a0 + 1)) = signL (b :: r) from firstOf_cut _ _ _ hn.1 hn.2]

/-- the bytes ahead of a place -/
def cutB (s : ByteArray) (a : Nat) : ByteArray := ⟨(s.data.toList.take a).toArray⟩
theorem cutB_list (s : ByteArray) (a : Nat) : (cutB s a).data.toList = s.data.toList.take a := by simp [cutB]
theorem cutB_size {s : ByteArray} {a : Nat} (h : a ≤ s.size) : (cutB s a).size = a := by
  rw [← list_size, cutB_list, List.length_take, list_size]; omega
theorem cutB_drop (s : ByteArray) (a k : Nat) : (cutB s a).data.toList.drop k = (s.data.toList.drop k).take (a - k) := by rw [cutB_list, List.drop_take]
theorem one_ge {l : List UInt8} {k : Nat} (h : (oneOut l k).2.2 = 0) : k < (oneOut l k).2.1 ∧ (oneOut l k).2.1 ≤ k + l.length ∧ (oneOut l k).1.pl = k := by
  match l with
  | [] => simp [oneOut] at h
  | b :: r =>
    unfold oneOut at h ⊢
    simp only at h ⊢
    by_cases hl : letterN b.toNat = true
    · rw [if_pos hl] at h ⊢
      have h1 := runL_le wordN (b :: r)
      have h2 : 0 < runL wordN (b :: r) := by rw [runL, if_pos (letter_word hl)]; omega
      unfold wordOut at h ⊢
      split
      · exact ⟨by simp only; omega, by simp only; omega, rfl⟩
      · rename_i hk
        rw [if_neg hk] at h
        split
        · exact ⟨by simp only; omega, by simp only; omega, rfl⟩
        · rename_i hm
          rw [if_neg hm] at h
          cases h
    · rw [if_neg hl] at h ⊢
      by_cases hd : digitN b.toNat = true
      · rw [if_pos hd] at h ⊢
        have h1 := runL_le digitN (b :: r)
        have h2 : 0 < runL digitN (b :: r) := by rw [runL, if_pos hd]; omega
        unfold numbOut at h ⊢
        split
        · exact ⟨by simp only; omega, by simp only; omega, rfl⟩
        · rename_i hk
          rw [if_neg hk] at h
          exact absurd h hk
      · rw [if_neg hd] at h ⊢
        by_cases h34 : b.toNat = 34
        · rw [if_pos h34] at h ⊢
          have h3 : (takeOut (b :: r)).2.2 = 0 := by
            unfold quoOut at h
            by_cases h3 : (takeOut (b :: r)).2.2 = 0
            · exact h3
            · rw [if_neg h3] at h; exact h
          have hg : takeOut (b :: r) = ((takeOut (b :: r)).1, (takeOut (b :: r)).2.1, 0) := by rw [← h3]
          obtain ⟨r', e', hgo⟩ := takeOut_34 hg
          obtain ⟨body, rest, y, er, en, _, _⟩ := takeGo_body _ _ _ _ _ _ hgo
          have hlen : (b :: r).length = body.length + rest.length + 2 := by rw [e', er]; simp; omega
          unfold quoOut at h ⊢
          rw [if_pos h3] at h ⊢
          split
          · rename_i hk
            rw [if_pos hk] at h
            cases h
          · exact ⟨by simp only; omega, by simp only; omega, rfl⟩
        · rw [if_neg h34] at h ⊢
          unfold sgnOut at h ⊢
          by_cases hk : signL (b :: r) = []
          · rw [if_pos hk] at h; cases h
          · rw [if_neg hk]
            have hp : ∀ L : List (List UInt8), firstOf L (b :: r) ≠ [] → (firstOf L (b :: r)).length ≤ (b :: r).length := by
              intro L
              induction L with
              | nil => intro h; exact absurd rfl h
              | cons x L ih =>
                intro h
                rw [firstOf] at h ⊢
                split
                · rename_i hx
                  exact (List.isPrefixOf_iff_prefix.1 hx).length_le
                · rename_i hx
                  rw [if_neg hx] at h
                  exact ih h
            have h1 := hp sgnL hk
            have h2 := List.length_pos_iff.2 hk
            refine ⟨?_, ?_, rfl⟩
            · simp only; omega
            · simp only; unfold signL; omega
/-- the tokens that are there stay, and each further one stands behind -/
theorem go_grows (s : ByteArray) : ∀ (f k : Nat) (acc out : List Tok) (p : Nat), tokGo s f k acc = (out, p, 0) → 0 < f → s.size < k + f → k ≤ s.size →
    ∃ new, out = acc ++ new ∧ (∃ t ∈ new, t.kind = 6) ∧ ∀ t ∈ new, ∃ a : Nat, t.pl = a ∧ k ≤ a ∧ a ≤ s.size
  | 0, _, _, _, _, _, h0, _, _ => by omega
  | f + 1, k, acc, out, p, h, _, hf, hk => by
    rw [tokGo] at h
    split at h
    · rename_i hks
      injection h with h1 h2
      exact ⟨_, h1.symm, ⟨_, List.mem_singleton.2 rfl, rfl⟩, fun t ht => by rw [List.mem_singleton.1 ht]; exact ⟨s.size, rfl, hk, Nat.le_refl _⟩⟩
    · rename_i hks
      split at h
      · rename_i he
        injection h with h1 h2
        injection h2 with h2 h3
        exact absurd h3 he
      · rename_i he
        have he0 : (oneOut (s.data.toList.drop k) k).2.2 = 0 := by simpa using he
        split at h
        · injection h with h1 h2
          injection h2 with h2 h3
          cases h3
        · obtain ⟨g1, g2, g3⟩ := one_ge he0
          rw [List.length_drop, list_size] at g2
          have g4 := skipTo_ge false s (oneOut (s.data.toList.drop k) k).2.1
          have g5 := skipTo_le (f := false) (s := s) (k := (oneOut (s.data.toList.drop k) k).2.1) (by omega)
          obtain ⟨new, e1, e2, e3⟩ := go_grows s f _ _ out p h (by omega) (by omega) g5
          refine ⟨(oneOut (s.data.toList.drop k) k).1 :: new, by rw [e1]; simp, by obtain ⟨u, u1, u2⟩ := e2; exact ⟨u, List.mem_cons_of_mem _ u1, u2⟩, fun t ht => ?_⟩
          rcases List.mem_cons.1 ht with rfl | ht
          · exact ⟨k, g3, Nat.le_refl _, by omega⟩
          · obtain ⟨a, a1, a2, a3⟩ := e3 t ht
            exact ⟨a, a1, by omega, a3⟩
theorem go_cut (s : ByteArray) : ∀ (f k : Nat) (acc out : List Tok) (p : Nat), tokGo s f k acc = (out, p, 0) → 0 < f → s.size < k + f → k ≤ s.size →
    ∀ (i : Nat) (a : Nat) (t : Tok), acc.length ≤ i → out[i]? = some t → t.pl = a → ∀ f', a < k + f' → tokGo (cutB s a) f' k acc = (out.take i ++ [⟨6, ⟨#[]⟩, 0, a⟩], 0, 0)
  | 0, _, _, _, _, _, h0, _, _ => by omega
  | f + 1, k, acc, out, p, h, hf0, hf, hk => by
    intro i a t hi ht hp f' hf'
    obtain ⟨new, en, nn, nt⟩ := go_grows s _ _ _ _ _ h hf0 hf hk
    have hmem : t ∈ new := by
      rw [en, List.getElem?_append_right hi] at ht
      exact List.mem_of_getElem? ht
    obtain ⟨a', a1, a2, a3⟩ := nt t hmem
    have haa : a' = a := by omega
    subst haa
    have hsz := cutB_size (s := s) a3
    obtain ⟨f', rfl⟩ : ∃ g, f' = g + 1 := ⟨f' - 1, by omega⟩
    rw [tokGo] at h
    split at h
    · rename_i hks
      injection h with h1 h2
      have hak : a' = s.size := by omega
      rw [tokGo_end (by omega), hsz]
      have hi2 : i = acc.length := by
        rw [← h1] at ht
        have := (List.getElem?_eq_some_iff.1 ht).1
        simp at this; omega
      rw [← h1, hi2]
      simp
    · rename_i hks
      split at h
      · rename_i he
        injection h with h1 h2
        injection h2 with h2 h3
        exact absurd h3 he
      · rename_i he
        have he0 : (oneOut (s.data.toList.drop k) k).2.2 = 0 := by simpa using he
        split at h
        · injection h with h1 h2
          injection h2 with h2 h3
          cases h3
        · rename_i h600
          obtain ⟨g1, g2, g3⟩ := one_ge he0
          rw [List.length_drop, list_size] at g2
          have g4 := skipTo_ge false s (oneOut (s.data.toList.drop k) k).2.1
          have g5 := skipTo_le (f := false) (s := s) (k := (oneOut (s.data.toList.drop k) k).2.1) (by omega)
          obtain ⟨new2, e1, e2, e3⟩ := go_grows s f _ _ out p h (by omega) (by omega) g5
          by_cases hii : i = acc.length
          · have : t = (oneOut (s.data.toList.drop k) k).1 := by
              rw [e1, hii] at ht
              simp at ht
              exact ht.symm
            rw [this, g3] at hp
            have hka : k = a' := by omega
            rw [tokGo_end (by omega), hsz, e1, hii]
            simp
          · have hmem2 : t ∈ new2 := by
              rw [e1, List.getElem?_append_right (by simp; omega)] at ht
              exact List.mem_of_getElem? ht
            obtain ⟨b, b1, b2, b3⟩ := e3 t hmem2
            have hb : b = a' := by omega
            subst hb
            have hone : oneOut ((cutB s b).data.toList.drop k) k = oneOut (s.data.toList.drop k) k := by
              rw [cutB_drop]
              exact one_cut he0 (by omega) (by omega)
            have hsk : skipTo false (cutB s b) (oneOut (s.data.toList.drop k) k).2.1 = skipTo false s (oneOut (s.data.toList.drop k) k).2.1 := by
              unfold skipTo at b2 ⊢
              rw [cutB_drop, skipL_cut _ _ _ (by omega)]
            rw [tokGo_more (by omega) hone he0 h600, hsk]
            exact go_cut s f _ _ out p h (by omega) (by omega) g5 i b t (by simp; omega) ht hp f' (by omega)
/-- a text's tokens, cut ahead of one of them -/
theorem out_cut {s : ByteArray} {out : List Tok} {p : Nat} (h : tokOut s = (out, p, 0)) {i a : Nat} {t : Tok} (ht : out[i]? = some t) (hp : t.pl = a) : a ≤ s.size ∧ tokOut (cutB s a) = (out.take i ++ [⟨6, ⟨#[]⟩, 0, a⟩], 0, 0) := by
  unfold tokOut at h
  split at h
  · injection h with h1 h2
    injection h2 with h2 h3
    cases h3
  · rename_i h2000
    have hk := skipTo_le (f := false) (s := s) (k := 0) (Nat.zero_le _)
    obtain ⟨new, en, nn, nt⟩ := go_grows s _ _ _ _ _ h (by omega) (by omega) hk
    have hmem : t ∈ new := by
      rw [List.nil_append] at en
      rw [← en]
      exact List.mem_of_getElem? ht
    obtain ⟨b, b1, b2, b3⟩ := nt t hmem
    have hb : b = a := by omega
    subst hb
    have hsz := cutB_size (s := s) b3
    refine ⟨b3, ?_⟩
    have hsk : skipTo false (cutB s b) 0 = skipTo false s 0 := by
      unfold skipTo at b2 ⊢
      rw [cutB_drop, skipL_cut _ _ _ (by omega)]
    unfold tokOut
    rw [if_neg (by omega), hsk]
    exact go_cut s _ _ _ out p h (by omega) (by omega) hk i b t (by simp) ht hp _ (by omega)
/-- there is an end among a text's tokens, and each has a place -/
theorem out_end {s : ByteArray} {out : List Tok} {p : Nat} (h : tokOut s = (out, p, 0)) : (∃ t ∈ out, t.kind = 6) ∧ ∀ t ∈ out, ∃ a : Nat, t.pl = a ∧ a ≤ s.size := by
  unfold tokOut at h
  split at h
  · injection h with h1 h2
    injection h2 with h2 h3
    cases h3
  · have hk := skipTo_le (f := false) (s := s) (k := 0) (Nat.zero_le _)
    obtain ⟨new, en, nn, nt⟩ := go_grows s _ _ _ _ _ h (by omega) (by omega) hk
    rw [List.nil_append] at en
    subst en
    exact ⟨nn, fun t ht => by obtain ⟨a, a1, _, a3⟩ := nt t ht; exact ⟨a, a1, a3⟩⟩

end Go.Proofs.YtijbiedblahmhaaDoor
