/- Of two numbers, or two strings, just one of less, alike and greater is so. -/
import Derived.Test.YtpagacgkcpgicaaOpsGood
namespace Go.Proofs.Ytpagacgkcpgicaa
open Go.RowKit

def tOf (lt gt eq : Bool) (op : Int) : Bool := if op = 6 then lt else if op = 7 then !gt else if op = 8 then gt else if op = 9 then !lt else if op = 10 then eq else !eq
def cnt (lt gt eq : Bool) (op : Int) : Int := (if 6 < op then bit lt else 0) + (if 8 < op then bit gt else 0) + (if 10 < op then bit eq else 0)
/-- just one of three -/
def Tri (lt gt eq : Bool) : Prop := (lt = true ∧ gt = false ∧ eq = false) ∨ (lt = false ∧ gt = true ∧ eq = false) ∨ (lt = false ∧ gt = false ∧ eq = true)

theorem bit_cases (t : Bool) : bit t = 0 ∨ bit t = 1 := by cases t; exact .inl rfl; exact .inr rfl
theorem cnt_start (lt gt eq : Bool) : cnt lt gt eq 6 = 0 := by simp [cnt]
theorem cnt_end {lt gt eq : Bool} (h : Tri lt gt eq) : cnt lt gt eq 12 = 1 := by
  rcases h with ⟨rfl, rfl, rfl⟩ | ⟨rfl, rfl, rfl⟩ | ⟨rfl, rfl, rfl⟩ <;> rfl
theorem cnt_lo (lt gt eq : Bool) (op : Int) : 0 ≤ cnt lt gt eq op ∧ cnt lt gt eq op ≤ 3 := by
  unfold cnt
  have h1 := bit_cases lt
  have h2 := bit_cases gt
  have h3 := bit_cases eq
  repeat' split
  all_goals omega
theorem cnt_7 (lt gt eq : Bool) : cnt lt gt eq 7 = cnt lt gt eq 6 + bit (tOf lt gt eq 6) := by simp [cnt, tOf]
theorem cnt_8 (lt gt eq : Bool) : cnt lt gt eq 8 = cnt lt gt eq 7 := by simp [cnt]
theorem cnt_9 (lt gt eq : Bool) : cnt lt gt eq 9 = cnt lt gt eq 8 + bit (tOf lt gt eq 8) := by simp [cnt, tOf]
theorem cnt_10 (lt gt eq : Bool) : cnt lt gt eq 10 = cnt lt gt eq 9 := by simp [cnt]
theorem cnt_11 (lt gt eq : Bool) : cnt lt gt eq 11 = cnt lt gt eq 10 + bit (tOf lt gt eq 10) := by simp [cnt, tOf]
theorem cnt_12 (lt gt eq : Bool) : cnt lt gt eq 12 = cnt lt gt eq 11 := by simp [cnt]

theorem bl_tri : ∀ l l' : List UInt8, Tri (Op.bytesLess l l') (Op.bytesLess l' l) (l == l')
  | [], [] => .inr (.inr ⟨rfl, rfl, rfl⟩)
  | [], _ :: _ => .inl ⟨rfl, rfl, rfl⟩
  | _ :: _, [] => .inr (.inl ⟨rfl, rfl, rfl⟩)
  | a :: l, b :: l' => by
    by_cases h : a = b
    · subst h
      rw [bl_same, bl_same, show (a :: l == a :: l') = (l == l') from by simp]
      exact bl_tri l l'
    · have hne : a.toNat ≠ b.toNat := fun e => h (UInt8.toNat_inj.1 e)
      rw [bl_other hne, bl_other hne.symm, show (a :: l == b :: l') = false from by simp [h]]
      by_cases hl : a.toNat < b.toNat
      · exact .inl ⟨decide_eq_true hl, decide_eq_false (by omega), rfl⟩
      · exact .inr (.inl ⟨decide_eq_false hl, decide_eq_true (by omega), rfl⟩)

theorem int_tri {n n' : Int} {l l' : List UInt8} (h : rightB 2 n l = true) (h' : rightB 2 n' l' = true) : Tri (decide (n < n')) (decide (n' < n)) (alike 2 n l 2 n' l') := by
  have hl : l = [] := by simp [rightB] at h; exact h.1
  have hl' : l' = [] := by simp [rightB] at h'; exact h'.1
  subst hl hl'
  rw [show alike 2 n [] 2 n' [] = decide (n = n') from by rw [Bool.eq_iff_iff]; simp [alike]]
  unfold Tri
  simp only [decide_eq_true_eq, decide_eq_false_iff_not]
  omega

theorem str_tri {n n' : Int} {s s' : ByteArray} (h : rightB 3 n s.data.toList = true) (h' : rightB 3 n' s'.data.toList = true) : Tri (blt s s') (blt s' s) (alike 3 n s.data.toList 3 n' s'.data.toList) := by
  have hl : n = 0 := by simp [rightB] at h; exact h.1
  have hl' : n' = 0 := by simp [rightB] at h'; exact h'.1
  subst hl hl'
  rw [show alike 3 0 s.data.toList 3 0 s'.data.toList = (s.data.toList == s'.data.toList) from by simp [alike]]
  exact bl_tri _ _

theorem ord_out {lt gt eq : Bool} {n : Int} {s : ByteArray} {n' : Int} {s' : ByteArray} {k op most : Int} (h6 : 6 ≤ op) (h11 : op ≤ 11)
    (h : (k = 2 ∧ lt = decide (n < n') ∧ gt = decide (n' < n)) ∨ (k = 3 ∧ lt = blt s s' ∧ gt = blt s' s)) (he : eq = alike k n s.data.toList k n' s'.data.toList) :
    binOut op k n s k n' s' most = (1, bit (tOf lt gt eq op), ⟨#[]⟩, 0) := by
  have ho : op = 6 ∨ op = 7 ∨ op = 8 ∨ op = 9 ∨ op = 10 ∨ op = 11 := by omega
  subst he
  rcases h with ⟨rfl, rfl, rfl⟩ | ⟨rfl, rfl, rfl⟩ <;> rcases ho with rfl | rfl | rfl | rfl | rfl | rfl <;> rfl

end Go.Proofs.Ytpagacgkcpgicaa
