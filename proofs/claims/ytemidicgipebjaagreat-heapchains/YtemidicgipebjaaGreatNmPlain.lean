/- Texts that have numbers, as a plain list. -/
import Derived.Test.YtemidicgipebjaaGreatMapG
namespace Go.Proofs.YtemidicgipebjaaGreat
open Go.RowKit

/-- where a text stands -/
def atT : List ByteArray → ByteArray → Option Nat
  | [], _ => none
  | x :: r, s => if x = s then some 0 else (atT r s).map (· + 1)
/-- the map's answer -/
def numF (L : List ByteArray) (s : ByteArray) : Option Int := (atT L s).map (fun i => ((i + 1 : Nat) : Int))
/-- the list behind Of -/
def ofT (L : List ByteArray) (s : ByteArray) : List ByteArray := if (atT L s).isSome then L else L ++ [s]
def numT (L : List ByteArray) (s : ByteArray) : Nat := match atT L s with | some i => i + 1 | none => L.length + 1
def findT (L : List ByteArray) (s : ByteArray) : Nat := match atT L s with | some i => i + 1 | none => 0
theorem atT_at : ∀ {L : List ByteArray} {s : ByteArray} {i : Nat}, atT L s = some i → L[i]? = some s
  | [], _, _, h => by cases h
  | x :: r, s, i, h => by
    unfold atT at h
    by_cases hx : x = s
    · rw [if_pos hx] at h; cases h; simp [hx]
    · rw [if_neg hx] at h
      obtain ⟨j, hj, rfl⟩ := Option.map_eq_some_iff.1 h
      simpa using atT_at hj
theorem atT_lt {L : List ByteArray} {s : ByteArray} {i : Nat} (h : atT L s = some i) : i < L.length := (List.getElem?_eq_some_iff.1 (atT_at h)).1
theorem atT_none : ∀ {L : List ByteArray} {s : ByteArray}, (∀ x ∈ L, x ≠ s) → atT L s = none
  | [], _, _ => rfl
  | x :: r, s, h => by
    unfold atT
    rw [if_neg (h x (by simp)), atT_none (fun y hy => h y (by simp [hy]))]; rfl
theorem atT_no : ∀ {L : List ByteArray} {s : ByteArray}, atT L s = none → ∀ x ∈ L, x ≠ s
  | [], _, _, x, hx => by cases hx
  | y :: r, s, h, x, hx => by
    unfold atT at h
    by_cases hy : y = s
    · rw [if_pos hy] at h; cases h
    · rw [if_neg hy] at h
      rcases List.mem_cons.1 hx with rfl | hx
      · exact hy
      · exact atT_no (Option.map_eq_none_iff.1 h) x hx
theorem atT_first : ∀ {L : List ByteArray} {s : ByteArray} {j : Nat}, (∀ i x, i < j → L[i]? = some x → x ≠ s) → L[j]? = some s → atT L s = some j
  | [], s, j, _, h => by simp at h
  | x :: r, s, 0, _, h => by
    have : x = s := by simpa using h
    simp [atT, this]
  | x :: r, s, j + 1, h1, h2 => by
    have hx : x ≠ s := h1 0 x (by omega) rfl
    have ih := atT_first (L := r) (s := s) (j := j) (fun i e hi he => h1 (i + 1) e (by omega) (by simpa using he)) (by simpa using h2)
    simp [atT, hx, ih]
theorem atT_snoc : ∀ (L : List ByteArray) (s x : ByteArray), atT (L ++ [s]) x = if (atT L x).isSome then atT L x else if s = x then some L.length else none
  | [], s, x => by simp [atT]
  | y :: r, s, x => by
    simp only [List.cons_append, atT, atT_snoc r s x]
    by_cases he : y = x
    · simp [he]
    · simp only [if_neg he]
      rcases Option.eq_none_or_eq_some (atT r x) with h1 | ⟨j, h1⟩ <;> by_cases h : s = x <;> simp [h, h1]
theorem numF_some (L : List ByteArray) (s : ByteArray) : (numF L s).isSome = (atT L s).isSome := by unfold numF; cases atT L s <;> rfl
theorem numF_snoc {L : List ByteArray} {s : ByteArray} (h : atT L s = none) (y : ByteArray) : putF (numF L) s ((L.length + 1 : Nat) : Int) y = numF (L ++ [s]) y := by
  unfold putF numF
  rw [atT_snoc]
  by_cases hy : y = s
  · subst hy
    rw [if_pos rfl, h]
    simp
  · rw [if_neg hy]
    rcases Option.eq_none_or_eq_some (atT L y) with h1 | ⟨j, h1⟩
    · rw [h1]; simp [show ¬ s = y from fun e => hy e.symm]
    · rw [h1]; simp
theorem ofT_at (L : List ByteArray) (s : ByteArray) : atT (ofT L s) s = some (numT L s - 1) ∧ 1 ≤ numT L s ∧ numT L s ≤ (ofT L s).length := by
  unfold ofT numT
  cases h : atT L s with
  | none => simp [atT_snoc, h]
  | some i => have := atT_lt h; simp [h]; omega
theorem ofT_stay {L : List ByteArray} {s y : ByteArray} {i : Nat} (h : atT L s = some i) : atT (ofT L y) s = some i := by
  unfold ofT
  split
  · exact h
  · rw [atT_snoc, h]; rfl
theorem ofT_get {L : List ByteArray} {s y : ByteArray} {i : Nat} (h : L[i]? = some s) : (ofT L y)[i]? = some s := by
  have hl : i < L.length := (List.getElem?_eq_some_iff.1 h).1
  unfold ofT
  split
  · exact h
  · rw [List.getElem?_append_left hl]; exact h
theorem ofT_len (L : List ByteArray) (s : ByteArray) : (ofT L s).length ≤ L.length + 1 ∧ L.length ≤ (ofT L s).length := by
  unfold ofT; split <;> simp
/-- each text once -/
theorem ofT_once {L : List ByteArray} {s : ByteArray} (h : L.Nodup) : (ofT L s).Nodup := by
  unfold ofT
  split
  · exact h
  · rename_i hn
    have hn' : atT L s = none := by simpa using hn
    rw [List.nodup_append]
    refine ⟨h, by simp, fun a ha b hb => ?_⟩
    simp at hb
    subst hb
    exact atT_no hn' a ha

end Go.Proofs.YtemidicgipebjaaGreat
