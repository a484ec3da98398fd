/- What becomes of a shape that is moved. -/
import Derived.Test.YtemidicgipebjaaGreatShFace
namespace Go.Proofs.YtemidicgipebjaaGreat
open Go.RowKit

theorem of_spec {M : Nat} {L : List Sh} (s : Sh) (h : WfS M L) : (∃ i : Nat, ofN M L s = i + 1 ∧ (ofL M L s)[i]? = some s) ∨ (ofN M L s = 0 ∧ ofL M L s = L ∧ L.length = M) := by
  unfold ofN ofL
  cases ha : atS L s with
  | some i => exact .inl ⟨i, rfl, atS_at ha⟩
  | none =>
    by_cases hl : M ≤ L.length
    · exact .inr ⟨by simp [hl], by simp [hl], by have := h.len; omega⟩
    · exact .inl ⟨L.length, by simp [hl], by simp [hl]⟩
theorem addsP_zero (M : Nat) : ∀ (xs : List Int) (L : List Sh), addsP M xs (0, L) = (0, L)
  | [], _ => rfl
  | x :: r, L => by
    rw [addsP, show addN M (0, L).2 ((0, L) : Nat × List Sh).1 x = 0 from by unfold addN; rw [getS_out (.inl (by simp))], show addL M ((0, L) : Nat × List Sh).2 ((0, L) : Nat × List Sh).1 x = L from by unfold addL; rw [getS_out (.inl (by simp))]]
    exact addsP_zero M r L
theorem adds_spec {M : Nat} {p : Int} : ∀ (xs pre : List Int) (q : Nat × List Sh) (i : Nat), WfS M q.2 → q.1 = i + 1 → q.2[i]? = some (p, pre) → (pre ++ xs).length ≤ 12 → (pre ++ xs).Nodup → (∀ x ∈ xs, I64 x) →
    WfS M (addsP M xs q).2 ∧ ((∃ i : Nat, (addsP M xs q).1 = i + 1 ∧ (addsP M xs q).2[i]? = some (p, pre ++ xs)) ∨ ((addsP M xs q).1 = 0 ∧ (addsP M xs q).2.length = M))
  | [], pre, q, i, hw, h1, h2, _, _, _ => ⟨hw, .inl ⟨i, h1, by simpa [addsP] using h2⟩⟩
  | x :: r, pre, (n, L), i, hw, h1, h2, h3, h4, h5 => by
    dsimp only at h1 h2 hw
    subst h1
    have hn : ¬ (12 ≤ pre.length ∨ x ∈ pre) := by
      intro e
      rcases e with e | e
      · simp at h3; omega
      · rw [List.nodup_append] at h4
        exact h4.2.2 x e x (by simp) rfl
    have hw' := hw.add (id := ((i + 1 : Nat) : Int)) (x := x) (h5 x (by simp))
    rw [addsP, addN_at x h2]
    rw [addL_at x h2] at hw' ⊢
    dsimp only at hw' ⊢
    rw [if_neg hn] at hw' ⊢
    rw [if_neg hn]
    rcases of_spec (p, pre ++ [x]) hw with ⟨j, e1, e2⟩ | ⟨e1, e2, e3⟩
    · have := adds_spec r (pre ++ [x]) (ofN M L (p, pre ++ [x]), ofL M L (p, pre ++ [x])) j hw' e1 e2 (by simpa using h3) (by simpa using h4) (fun y hy => h5 y (by simp [hy]))
      simpa using this
    · rw [e1, e2, addsP_zero]
      exact ⟨hw, .inr ⟨rfl, e3⟩⟩
theorem WfS.prefix {M : Nat} {L : List Sh} (h : WfS M L) {p : Int} : ∀ (n : Nat) (a b : List Int) (j : Nat), b.length = n → L[j]? = some (p, a ++ b) → ∃ i : Nat, L[i]? = some (p, a)
  | 0, a, b, j, hb, hj => by
    have : b = [] := List.length_eq_zero_iff.1 hb
    subst this
    exact ⟨j, by simpa using hj⟩
  | n + 1, a, b, j, hb, hj => by
    rcases List.eq_nil_or_concat b with rfl | ⟨b', x, rfl⟩
    · simp at hb
    · rw [List.concat_eq_append, ← List.append_assoc] at hj
      obtain ⟨i, _, hi⟩ := h.up j p (a ++ b') x hj
      exact h.prefix n a b' i (by simpa using hb) hi
theorem adds_there {M : Nat} {p : Int} : ∀ (xs pre : List Int) (L : List Sh) (i j : Nat), WfS M L → L[i]? = some (p, pre) → L[j]? = some (p, pre ++ xs) → addsP M xs (i + 1, L) = (j + 1, L)
  | [], pre, L, i, j, hw, h2, h3 => by
    rw [List.append_nil] at h3
    rw [hw.once i j _ h2 h3]
    rfl
  | x :: r, pre, L, i, j, hw, h2, h3 => by
    have h3' : L[j]? = some (p, (pre ++ [x]) ++ r) := by simpa using h3
    obtain ⟨k, hk⟩ := hw.prefix _ (pre ++ [x]) r j rfl h3'
    have hf := hw.few k _ hk
    have hd := hw.names k _ hk
    have hn : ¬ (12 ≤ pre.length ∨ x ∈ pre) := by
      intro e
      rcases e with e | e
      · simp at hf; omega
      · simp only [List.nodup_append] at hd
        exact hd.2.2 x e x (by simp) rfl
    rw [addsP]
    dsimp only
    rw [addN_at x h2, addL_at x h2]
    dsimp only
    rw [if_neg hn, if_neg hn]
    rw [show ofN M L (p, pre ++ [x]) = k + 1 from by unfold ofN; rw [hw.at' hk], show ofL M L (p, pre ++ [x]) = L from by unfold ofL; rw [hw.at' hk]; rfl]
    exact adds_there r (pre ++ [x]) L k j hw hk h3'
/-- a shape that was moved, or there was no room -/
theorem move_spec {M : Nat} {L : List Sh} {i : Nat} {s : Sh} {p : Int} (h : WfS M L) (hi : L[i]? = some s) (hp : I64 p) :
    WfS M (moveP M L ((i + 1 : Nat) : Int) p).2 ∧ ((∃ j : Nat, (moveP M L ((i + 1 : Nat) : Int) p).1 = j + 1 ∧ (moveP M L ((i + 1 : Nat) : Int) p).2[j]? = some (p, s.2)) ∨ ((moveP M L ((i + 1 : Nat) : Int) p).1 = 0 ∧ (p < 0 ∨ (moveP M L ((i + 1 : Nat) : Int) p).2.length = M))) := by
  unfold moveP
  rw [getS_succ, hi]
  dsimp only
  have hw := h.root hp
  unfold rootN rootL at *
  by_cases hn : p < 0
  · rw [if_pos hn, if_pos hn, addsP_zero]
    exact ⟨h, .inr ⟨rfl, .inl hn⟩⟩
  · rw [if_neg hn] at hw ⊢
    rw [if_neg hn]
    rcases of_spec (p, []) h with ⟨j, e1, e2⟩ | ⟨e1, e2, e3⟩
    · have := adds_spec s.2 [] (ofN M L (p, []), ofL M L (p, [])) j hw e1 e2 (by simpa using h.few i s hi) (by simpa using h.names i s hi) (h.fits i s hi)
      rw [List.nil_append] at this
      refine ⟨this.1, ?_⟩
      rcases this.2 with h1 | ⟨h1, h2⟩
      · exact .inl h1
      · exact .inr ⟨h1, .inr h2⟩
    · rw [e1, e2, addsP_zero]
      exact ⟨h, .inr ⟨rfl, .inr e3⟩⟩
/-- a shape that is there already -/
theorem move_there {M : Nat} {L : List Sh} {i j : Nat} {s : Sh} {p : Int} (h : WfS M L) (hi : L[i]? = some s) (hj : L[j]? = some (p, s.2)) (hp : 0 ≤ p) : moveP M L ((i + 1 : Nat) : Int) p = (j + 1, L) := by
  unfold moveP
  rw [getS_succ, hi]
  dsimp only
  obtain ⟨k, hk⟩ := h.prefix _ [] s.2 j rfl (by simpa using hj)
  unfold rootN rootL
  rw [if_neg (by omega), if_neg (by omega)]
  rw [show ofN M L (p, []) = k + 1 from by unfold ofN; rw [h.at' hk], show ofL M L (p, []) = L from by unfold ofL; rw [h.at' hk]; rfl]
  exact adds_there s.2 [] L k j h hk (by simpa using hj)

end Go.Proofs.YtemidicgipebjaaGreat
