/- Lines, words and numbers as Go's library tells them. -/
import Derived.Test.YtnojlfdojmkonaaGreatDoorAsRead
import Derived.Lib.Split
import Derived.Lib.IndexMore
import Derived.Lib.AtoiAllCases
import Derived.Lib.SlicesS
namespace Go.Proofs.YtnojlfdojmkonaaGreatDoor
set_option linter.unusedVariables false
open Go.RowKit

theorem idx_none {b : UInt8} : ∀ {l : List UInt8}, (∀ x ∈ l, x ≠ b) → Lib.index l [b] = -1
  | [], _ => by simp [Lib.index]
  | c :: r, h => by
    have hc : c ≠ b := h c (by simp)
    have hp : [b].isPrefixOf (c :: r) = false := by simp [List.isPrefixOf]; exact fun e => hc e.symm
    rw [Lib.index, hp, idx_none (fun x hx => h x (by simp [hx]))]
    rfl
theorem idx_some {b : UInt8} : ∀ {a : List UInt8} (r : List UInt8), (∀ x ∈ a, x ≠ b) → Lib.index (a ++ b :: r) [b] = a.length
  | [], r, _ => by
    have hp : [b].isPrefixOf (b :: r) = true := by simp [List.isPrefixOf]
    rw [List.nil_append, Lib.index, hp]; rfl
  | c :: a, r, h => by
    have hc : c ≠ b := h c (by simp)
    have hp : [b].isPrefixOf (c :: (a ++ b :: r)) = false := by simp [List.isPrefixOf]; exact fun e => hc e.symm
    rw [List.cons_append, Lib.index, hp, idx_some r (fun x hx => h x (by simp [hx]))]
    have h1 : ((a.length : Int) == -1) = false := by simp
    rw [h1]
    simp
/-- a byte stands there, or not -/
theorem byte_at (b : UInt8) : ∀ l : List UInt8, (∀ x ∈ l, x ≠ b) ∨ ∃ a r, l = a ++ b :: r ∧ ∀ x ∈ a, x ≠ b
  | [] => .inl (by simp)
  | c :: l => by
    by_cases hc : c = b
    · subst hc; exact .inr ⟨[], l, rfl, by simp⟩
    · rcases byte_at b l with h | ⟨a, r, rfl, h⟩
      · exact .inl fun x hx => by
          rcases List.mem_cons.1 hx with rfl | hx
          · exact hc
          · exact h x hx
      · exact .inr ⟨c :: a, r, rfl, fun x hx => by
          rcases List.mem_cons.1 hx with rfl | hx
          · exact hc
          · exact h x hx⟩
theorem cut_none {b : UInt8} {l : List UInt8} (h : ∀ x ∈ l, x ≠ b) : Lib.cut l [b] = (l, [], false) := by
  unfold Lib.cut
  rw [idx_none h]; rfl
theorem cut_some {b : UInt8} {a : List UInt8} (r : List UInt8) (h : ∀ x ∈ a, x ≠ b) : Lib.cut (a ++ b :: r) [b] = (a, r, true) := by
  unfold Lib.cut
  rw [idx_some r h, if_pos (by omega)]
  simp

/-! words -/
theorem splitK_of {b : UInt8} : ∀ (k : Nat) (s : List UInt8), (splitP b s).length ≤ k + 1 → Lib.splitK [b] 0 k s = splitP b s
  | 0, s, h => by
    rcases byte_at b s with hs | ⟨a, r, rfl, ha⟩
    · rw [Lib.splitK, split_none hs]
    · rw [split_app r ha] at h
      have := List.length_pos_iff.2 (split_ne b r)
      rw [List.length_cons] at h
      omega
  | k + 1, s, h => by
    rcases byte_at b s with hs | ⟨a, r, rfl, ha⟩
    · rw [Lib.splitK, idx_none hs, split_none hs]; rfl
    · rw [split_app r ha] at h ⊢
      have h1 : ((a.length : Int) == -1) = false := by simp
      rw [Lib.splitK, idx_some r ha, h1]
      simp only [Int.toNat_natCast, Nat.add_zero, List.length_singleton, Bool.false_eq_true, if_false, List.take_left']
      rw [show (a ++ b :: r).drop (a.length + 1) = r by simp, splitK_of k r (by simpa using h)]
theorem splitK_long {b : UInt8} : ∀ (k : Nat) (s : List UInt8), k + 1 < (splitP b s).length → (Lib.splitK [b] 0 k s).length = k + 1 ∧ (0 < k → (Lib.splitK [b] 0 k s).headD [] = (splitP b s).headD [])
  | 0, s, h => ⟨by rw [Lib.splitK]; rfl, fun h => absurd h (by omega)⟩
  | k + 1, s, h => by
    rcases byte_at b s with hs | ⟨a, r, rfl, ha⟩
    · rw [split_none hs] at h; simp at h
    · rw [split_app r ha] at h ⊢
      have h1 : ((a.length : Int) == -1) = false := by simp
      rw [Lib.splitK, idx_some r ha, h1]
      simp only [Int.toNat_natCast, Nat.add_zero, List.length_singleton, Bool.false_eq_true, if_false, List.take_left']
      rw [show (a ++ b :: r).drop (a.length + 1) = r by simp]
      have ih := splitK_long k r (by simpa using h)
      exact ⟨by rw [List.length_cons, ih.1], fun _ => rfl⟩
theorem split_length (b : UInt8) : ∀ s : List UInt8, (splitP b s).length ≤ s.length + 1
  | [] => by simp [splitP]
  | c :: r => by
    have ih := split_length b r
    have hp := List.length_pos_iff.2 (split_ne b r)
    unfold splitP
    split
    · simp; omega
    · simp; omega
/-- a line's words, at most six -/
def wordsL (s : List UInt8) : List (List UInt8) := Lib.splitK [32] 0 (min 6 (s.length + 1) - 1) s
theorem words_is (s : List UInt8) : (splitP 32 s).length ≤ 6 ∧ wordsL s = splitP 32 s ∨ 6 < (splitP 32 s).length ∧ (wordsL s).length = 6 ∧ (wordsL s).headD [] = (splitP 32 s).headD [] := by
  have hl := split_length 32 s
  unfold wordsL
  rcases Nat.lt_or_ge 6 (splitP 32 s).length with h | h
  · right
    have e : min 6 (s.length + 1) - 1 = 5 := by omega
    rw [e]
    have := splitK_long 5 s (by omega)
    exact ⟨h, this.1, this.2 (by omega)⟩
  · left
    exact ⟨h, splitK_of _ s (by omega)⟩
theorem words_ne (s : List UInt8) : 0 < (wordsL s).length ∧ (wordsL s).length ≤ 6 := by
  have := List.length_pos_iff.2 (split_ne 32 s)
  rcases words_is s with ⟨h1, h2⟩ | ⟨h1, h2, _⟩
  · rw [h2]; omega
  · omega
theorem words_head (s : List UInt8) : (wordsL s).headD [] = (splitP 32 s).headD [] := by
  rcases words_is s with ⟨h1, h2⟩ | ⟨h1, h2, h3⟩
  · rw [h2]
  · exact h3
theorem nums_words {s first : List UInt8} {many : Nat} (hm : many ≤ 4) : numsP s first many = if (wordsL s).headD [] = first ∧ (wordsL s).tail.length = many then allN (wordsL s).tail else none := by
  unfold numsP
  rcases words_is s with ⟨h1, h2⟩ | ⟨h1, h2, h3⟩
  · rw [h2]
  · rw [h3, if_neg (by simp; omega), if_neg (by simp; omega)]

/-! numbers -/
theorem pu_snoc {c : UInt8} {d : Nat} (hc : c.toNat = 48 + d) (hd : d < 10) : ∀ (l : List UInt8) (acc u : Nat), Lib.parseUint10 acc l = .ok u → u < 1844674407370955161 → Lib.parseUint10 acc (l ++ [c]) = .ok (u * 10 + d)
  | [], acc, u, h, hu => by
    rw [Lib.parseUint10] at h
    injection h with h
    subst h
    rw [List.nil_append, Lib.parseUint10, if_pos (by omega), if_neg (by omega), if_neg (by omega), Lib.parseUint10]
    congr 1; omega
  | x :: l, acc, u, h, hu => by
    rw [Lib.parseUint10] at h
    rw [List.cons_append, Lib.parseUint10]
    split at h
    · rename_i h1
      split at h
      · cases h
      · rename_i h2
        split at h
        · cases h
        · rename_i h3
          rw [if_pos h1, if_neg h2, if_neg h3]
          exact pu_snoc hc hd l _ u h hu
    · cases h
theorem pu_dec : ∀ (f m : Nat), m < 10 ^ f → m ≤ 4611686018427387904 → Lib.parseUint10 0 (dec f m) = .ok m
  | 0, m, h, _ => by
    have : m = 0 := by simpa using h
    subst this; rfl
  | f + 1, m, h, hm => by
    by_cases hs : m < 10
    · rw [dec_small hs]
      have := pu_snoc (c := UInt8.ofNat (48 + m)) (d := m) (small_toNat hs) hs [] 0 0 rfl (by omega)
      simpa using this
    · rw [dec_big (by omega)]
      have := pu_snoc (c := UInt8.ofNat (48 + m % 10)) (d := m % 10) (dig_toNat m) (by omega) (dec f (m / 10)) 0 (m / 10) (pu_dec f (m / 10) (by rw [Nat.pow_succ] at h; omega) (by omega)) (by omega)
      rw [this]
      congr 1; omega
theorem atoi_digs {n : Int} (h : rngP n) : Lib.atoiAll (digs n) = .ok n := by
  obtain ⟨c, r, e, h1, h2⟩ := dec_head 19 n.natAbs
  have hm : n.natAbs ≤ 4611686018427387904 := by unfold rngP at h; omega
  have hp : Lib.parseMag (dec 20 n.natAbs) = .ok n.natAbs := by
    unfold Lib.parseMag
    rw [if_neg (by rw [e]; simp), pu_dec 20 _ (Nat.lt_of_le_of_lt hm (by decide)) hm]
  unfold digs
  by_cases h0 : n < 0
  · rw [if_pos h0, Lib.atoiAll_minus, hp]
    unfold Lib.signed
    simp only
    rw [if_neg (by omega)]
    congr 1; omega
  · rw [if_neg h0, e, Lib.atoiAll_plain c r (by omega) (by omega), ← e, hp]
    unfold Lib.signless
    simp only
    rw [if_neg (by omega)]
    congr 1; omega
theorem num_atoi_ok {s : List UInt8} {n : Int} (h : Lib.atoiAll s = .ok n) (hr : rngP n) (hd : digs n = s) : numP s = some n := num_iff.2 ⟨hr, hd⟩
theorem num_atoi_no {s : List UInt8} (h : ∀ n, Lib.atoiAll s = .ok n → rngP n → digs n ≠ s) : numP s = none := by
  cases hn : numP s with
  | none => rfl
  | some n =>
    obtain ⟨h1, h2⟩ := num_iff.1 hn
    exact absurd h2 (h n (by rw [← h2]; exact atoi_digs h1) h1)

/-! names -/
theorem insF_none : ∀ {l : List Int} {s : List UInt8}, (∀ o ∈ l, numsP s (opW o) (prtN o) = none) → insF l s = none
  | [], _, _ => rfl
  | o :: r, s, h => by
    rw [insF, h o (by simp)]
    exact insF_none fun q hq => h q (by simp [hq])
theorem insF_one {o : Int} : ∀ {l : List Int} {s : List UInt8}, o ∈ l → (∀ q ∈ l, q ≠ o → numsP s (opW q) (prtN q) = none) → insF l s = (numsP s (opW o) (prtN o)).map fun m => (o, m.headD 0, m.tail.headD 0)
  | [], _, h, _ => by cases h
  | q :: r, s, hm, h => by
    by_cases hq : q = o
    · subst hq
      rw [insF]
      cases hn : numsP s (opW q) (prtN q) with
      | some m => rfl
      | none =>
        refine insF_none fun p hp => ?_
        by_cases hpq : p = q
        · rw [hpq]; exact hn
        · exact h p (by simp [hp]) hpq
    · rw [insF, h q (by simp) hq]
      rcases List.mem_cons.1 hm with e | hm
      · exact absurd e.symm hq
      · exact insF_one hm fun p hp => h p (by simp [hp])
theorem nums_other {s w : List UInt8} {many : Nat} (h : (splitP 32 s).headD [] ≠ w) : numsP s w many = none := by
  unfold numsP
  rw [if_neg (fun hh => h hh.1)]
/-- where the first word is a name -/
theorem insR_at {s : List UInt8} {o : Int} (ho : 1 ≤ o ∧ o ≤ 32) (h : (splitP 32 s).headD [] = opW o) : insR s = (numsP s (opW o) (prtN o)).map fun m => (o, m.headD 0, m.tail.headD 0) :=
  insF_one (ops_all ho) fun q hq hne => nums_other (by rw [h]; exact fun e => hne (opW_inj ho (ops_in q hq) e).symm)
/-- where it is none -/
theorem insR_no {s : List UInt8} (h : ∀ o, 1 ≤ o ∧ o ≤ 32 → (splitP 32 s).headD [] ≠ opW o) : insR s = none :=
  insF_none fun o ho => nums_other (h o (ops_in o ho))
/-- the names, each at its own place -/
def namL : List ByteArray := ⟨#[]⟩ :: asmW.map fun w => ⟨w.toArray⟩
theorem nam_at : ∀ i : Fin 33, 1 ≤ i.val → (namL.getD i.val ByteArray.empty).data.toList = opW (i.val : Int) := by decide
theorem nam_zero : namL.getD 0 ByteArray.empty = ⟨#[]⟩ := rfl
theorem nam_len : namL.length = 33 := by decide
theorem arr_list {s t : ByteArray} (h : s.data.toList = t.data.toList) : s = t := by
  cases s; cases t
  simp at h
  rw [h]
theorem named_some {w : ByteArray} {o : Int} (ho : 1 ≤ o ∧ o ≤ 32) (h : w.data.toList = opW o) : Lib.idxOfS namL w = o := by
  have hat := nam_at ⟨o.toNat, by omega⟩ (by simp; omega)
  have e : ((⟨o.toNat, by omega⟩ : Fin 33).val : Int) = o := by simp; omega
  rw [e] at hat
  have := Lib.idxOfS_hit namL 33 o.toNat w (by omega) (by rw [nam_len]; omega) (arr_list (hat.trans h.symm)) (fun j hj he => by
    rcases Nat.eq_zero_or_pos j with h0 | h0
    · subst h0
      rw [nam_zero] at he
      rw [← he] at h
      have := (opW_all ⟨(o - 1).toNat, by omega⟩).2
      unfold opW at h
      rw [if_pos ho] at h
      exact this h.symm
    · have hj' := nam_at ⟨j, by omega⟩ h0
      simp only at hj'
      rw [he, h] at hj'
      have := opW_inj ho ⟨by omega, by omega⟩ hj'
      omega)
  rw [List.take_of_length_le (by rw [nam_len]; omega)] at this
  rw [this]; omega
theorem named_none {w : ByteArray} (h : ∀ o, 1 ≤ o ∧ o ≤ 32 → w.data.toList ≠ opW o) : Lib.idxOfS namL w < 1 := by
  rcases Int.lt_or_le (Lib.idxOfS namL w) 1 with h1 | h1
  · exact h1
  · exfalso
    have hm := (Lib.idxOfS_nonneg_iff namL w).1 (by omega)
    obtain ⟨i, hi, e⟩ := List.getElem_of_mem hm
    rw [nam_len] at hi
    rcases Nat.eq_zero_or_pos i with h0 | h0
    · subst h0
      have hw : w = ⟨#[]⟩ := e.symm
      subst hw
      have : Lib.idxOfS namL ⟨#[]⟩ = 0 := by decide
      omega
    · have hat := nam_at ⟨i, hi⟩ h0
      simp only at hat
      rw [List.getD_eq_getElem?_getD, List.getElem?_eq_getElem (by rw [nam_len]; exact hi), Option.getD_some, e] at hat
      exact h (i : Int) ⟨by omega, by omega⟩ hat

end Go.Proofs.YtnojlfdojmkonaaGreatDoor
