/- Whether a tree has few nodes, not too high, with short texts. -/
import Derived.Test.YteoghacpdfnijaaDoorNdPlain
namespace Go.Proofs.YteoghacpdfnijaaDoor
open Go.RowKit

def longB (ns : List ByteArray) : Bool := ns.any fun x => decide (100 < x.size)
mutual
/-- how many nodes may come yet -/
def leftN : Nd → Int → Nat → Int
  | .mk _ _ _ s ns ks _, m, h => if h = 0 ∨ 600 < s.size ∨ 60 < ns.length then -1 else if longB ns then -1 else leftL ks (m - 1) (h - 1)
def leftL : List Nd → Int → Nat → Int
  | [], m, _ => m
  | x :: r, m, h => if m < 0 then m else leftL r (leftN x m h) h
end
mutual
/-- texts are short all along -/
def smallN : Nd → Bool
  | .mk _ _ _ s ns ks _ => decide (s.size ≤ 600) && (decide (ns.length ≤ 60) && (!longB ns && smallL ks))
def smallL : List Nd → Bool
  | [] => true
  | x :: r => smallN x && smallL r
end

theorem leftL_neg : ∀ (l : List Nd) (m : Int) (h : Nat), m < 0 → leftL l m h = m
  | [], m, h, _ => by rw [leftL]
  | x :: r, m, h, hm => by rw [leftL, if_pos hm]

mutual
theorem leftN_bounds : ∀ (t : Nd) (m : Int) (h : Nat), 0 ≤ m → -1 ≤ leftN t m h ∧ leftN t m h ≤ m - 1
  | .mk _ _ _ s ns ks _, m, h, hm => by
    rw [leftN]
    split
    · omega
    · split
      · omega
      · have := leftL_bounds ks (m - 1) (h - 1) (by omega)
        omega
theorem leftL_bounds : ∀ (l : List Nd) (m : Int) (h : Nat), -1 ≤ m → -1 ≤ leftL l m h ∧ leftL l m h ≤ m
  | [], m, h, hm => by rw [leftL]; omega
  | x :: r, m, h, hm => by
    rw [leftL]
    split
    · omega
    · have h1 := leftN_bounds x m h (by omega)
      have h2 := leftL_bounds r (leftN x m h) h h1.1
      omega
end

mutual
theorem leftN_count : ∀ (t : Nd) (m : Int) (h : Nat), 0 ≤ leftN t m h → leftN t m h = m - countN t ∧ highN t ≤ h ∧ smallN t = true
  | .mk _ _ _ s ns ks _, m, h, hm => by
    rw [leftN] at hm ⊢
    split at hm
    · omega
    · rename_i h1
      rw [if_neg h1]
      simp only [not_or] at h1
      split at hm
      · omega
      · rename_i h2
        rw [if_neg h2]
        obtain ⟨e1, e2, e3⟩ := leftL_count ks (m - 1) (h - 1) hm
        have h2' : longB ns = false := by simpa using h2
        refine ⟨by rw [countN]; omega, by rw [highN]; omega, ?_⟩
        rw [smallN, e3, h2', decide_eq_true (by omega), decide_eq_true (by omega)]; rfl
theorem leftL_count : ∀ (l : List Nd) (m : Int) (h : Nat), 0 ≤ leftL l m h → leftL l m h = m - countL l ∧ highL l ≤ h ∧ smallL l = true
  | [], m, h, hm => by rw [leftL] at hm ⊢; exact ⟨by rw [countL]; omega, by rw [highL]; omega, by rw [smallL]⟩
  | x :: r, m, h, hm => by
    rw [leftL] at hm ⊢
    split at hm
    · omega
    · rename_i h1
      rw [if_neg h1]
      obtain ⟨e1, e2, e3⟩ := leftL_count r (leftN x m h) h hm
      have h0 : 0 ≤ leftN x m h := by omega
      obtain ⟨f1, f2, f3⟩ := leftN_count x m h h0
      exact ⟨by rw [e1, f1, countL]; omega, by rw [highL]; omega, by rw [smallL, e3, f3]; rfl⟩
end

/-- few -/
def fewB (t : Nd) : Bool := decide (0 ≤ leftN t 300 40)
theorem few_count {t : Nd} (h : fewB t = true) : countN t ≤ 300 ∧ highN t ≤ 40 ∧ smallN t = true := by
  have h0 : 0 ≤ leftN t 300 40 := of_decide_eq_true h
  obtain ⟨e1, e2, e3⟩ := leftN_count t 300 40 h0
  exact ⟨by omega, e2, e3⟩

theorem long_yes {ns : List ByteArray} {j : Nat} (hj : j < ns.length) (h : 100 < ns[j].size) : longB ns = true := by
  unfold longB; rw [List.any_eq_true]; exact ⟨_, List.getElem_mem hj, by simpa using h⟩
theorem long_no {ns : List ByteArray} (h : ∀ (j : Nat) (hj : j < ns.length), ns[j].size ≤ 100) : longB ns = false := by
  unfold longB; rw [List.any_eq_false]
  intro x hx
  obtain ⟨j, hj, rfl⟩ := List.getElem_of_mem hx
  have := h j hj
  simp; omega

theorem small_mk {k o n : Int} {s : ByteArray} {ns : List ByteArray} {ks : List Nd} {p : Int} (h : smallN (.mk k o n s ns ks p) = true) : s.size ≤ 600 ∧ ns.length ≤ 60 ∧ (∀ x ∈ ns, x.size ≤ 100) ∧ ∀ x ∈ ks, smallN x = true := by
  rw [smallN] at h
  simp only [Bool.and_eq_true, decide_eq_true_eq, Bool.not_eq_true'] at h
  obtain ⟨h1, h2, h3, h4⟩ := h
  refine ⟨h1, h2, ?_, ?_⟩
  · intro x hx
    unfold longB at h3
    rw [List.any_eq_false] at h3
    have := h3 x hx
    simp at this; omega
  · clear h1 h2 h3
    induction ks with
    | nil => intro x hx; cases hx
    | cons y r ih =>
      rw [smallL, Bool.and_eq_true] at h4
      intro x hx
      rcases List.mem_cons.1 hx with e | hx
      · rw [e]; exact h4.1
      · exact ih h4.2 x hx

end Go.Proofs.YteoghacpdfnijaaDoor
