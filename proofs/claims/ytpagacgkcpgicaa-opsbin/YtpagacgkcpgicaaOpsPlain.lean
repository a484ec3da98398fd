/- What signs make of two values, as a plain function: no program in sight. -/
import Derived.Test.YtpagacgkcpgicaaOpsLess
namespace Go.Proofs.Ytpagacgkcpgicaa
open Go.RowKit

def errOut (e : Int) : Int × Int × ByteArray × Int := (0, 0, ⟨#[]⟩, e)
def boolOut (t : Bool) : Int × Int × ByteArray × Int := (1, bit t, ⟨#[]⟩, 0)
def intOut (n : Int) : Int × Int × ByteArray × Int := (2, n, ⟨#[]⟩, 0)
def ordB (op : Int) (lt gt : Bool) : Bool := if op = 6 then lt else if op = 7 then !gt else if op = 8 then gt else !lt
def numOut (op n n' : Int) : Int × Int × ByteArray × Int :=
  if op = 1 then intOut (W63 (n + n')) else if op = 2 then intOut (W63 (n - n')) else if op = 3 then intOut (W63 (n * n'))
  else if op = 4 then (if n' = 0 then errOut 31 else intOut (W63 (n.tdiv n'))) else if op = 5 then (if n' = 0 then errOut 31 else intOut (n.tmod n'))
  else boolOut (ordB op (decide (n < n')) (decide (n' < n)))
def strOut (op : Int) (s s' : ByteArray) (most : Int) : Int × Int × ByteArray × Int :=
  if op = 1 then (if most < (s.size : Int) + (s'.size : Int) then errOut 43 else (3, 0, s ++ s', 0)) else if op < 6 then errOut 30
  else boolOut (ordB op (blt s s') (blt s' s))
/-- what Bin makes of two values: kind, number, bytes, error -/
def binOut (op k n : Int) (s : ByteArray) (k' n' : Int) (s' : ByteArray) (most : Int) : Int × Int × ByteArray × Int :=
  if op < 1 ∨ 11 < op then errOut 2 else if op = 10 then boolOut (alike k n s.data.toList k' n' s'.data.toList) else if op = 11 then boolOut (!alike k n s.data.toList k' n' s'.data.toList)
  else if k = 2 ∧ k' = 2 then numOut op n n' else if k = 3 ∧ k' = 3 then strOut op s s' most else errOut 30

theorem bin_cases (op : Int) : (op < 1 ∨ 11 < op) ∨ op = 10 ∨ op = 11 ∨ (1 ≤ op ∧ op ≤ 9) := by omega
theorem kind_cases (k k' : Int) : (k = 2 ∧ k' = 2) ∨ (k = 3 ∧ k' = 3) ∨ ((k == 2 && k' == 2) = false ∧ (k == 3 && k' == 3) = false ∧ ¬ (k = 2 ∧ k' = 2) ∧ ¬ (k = 3 ∧ k' = 3)) := by
  by_cases h2 : k = 2 ∧ k' = 2
  · exact .inl h2
  · by_cases h3 : k = 3 ∧ k' = 3
    · exact .inr (.inl h3)
    · refine .inr (.inr ⟨?_, ?_, h2, h3⟩)
      · rw [Bool.and_eq_false_iff, beq_eq_false_iff_ne, beq_eq_false_iff_ne]; omega
      · rw [Bool.and_eq_false_iff, beq_eq_false_iff_ne, beq_eq_false_iff_ne]; omega
theorem op_cases {op : Int} (h1 : 1 ≤ op) (h9 : op ≤ 9) : op = 1 ∨ op = 2 ∨ op = 3 ∨ op = 4 ∨ op = 5 ∨ op = 6 ∨ op = 7 ∨ op = 8 ∨ op = 9 := by omega

theorem bin_out (op k n : Int) (s : ByteArray) (k' n' : Int) (s' : ByteArray) (most : Int) (h1 : 1 ≤ op) (h9 : op ≤ 9) :
    binOut op k n s k' n' s' most = if k = 2 ∧ k' = 2 then numOut op n n' else if k = 3 ∧ k' = 3 then strOut op s s' most else errOut 30 := by
  unfold binOut
  rw [if_neg (by omega), if_neg (by omega), if_neg (by omega)]

end Go.Proofs.Ytpagacgkcpgicaa
