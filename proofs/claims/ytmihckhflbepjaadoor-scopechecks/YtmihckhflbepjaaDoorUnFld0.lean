/- Whether a unit's node has the fields of its kind, as the document asks it. -/
import Derived.Test.YtmihckhflbepjaaDoorJoint13
import Derived.Test.YtmihckhflbepjaaDoorMapG
import Derived.Test.YtmihckhflbepjaaDoorJoint12
import Derived.Deep.Cut
import Derived.Deep.CutRange
import Derived.Deep.DeepCutAuto
import Derived.Deep.CutBlock
namespace Go.Proofs.YtmihckhflbepjaaDoor
set_option linter.unusedSimpArgs false
open Go.RowKit

def propK (k : Int) : Bool := decide (k = 13 ∨ k = 16 ∨ k = 23 ∨ k = 25)
def nsF (k : Int) (ns : List ByteArray) : Bool := if k = 7 then decide (ns.length ≤ 40) else decide (ns.length = 0)
theorem nsF_7 {ns : List ByteArray} : nsF 7 ns = decide (ns.length ≤ 40) := rfl
theorem nsF_no {k : Int} (h : k ≠ 7) (ns : List ByteArray) : nsF k ns = decide (ns.length = 0) := if_neg h
theorem ns_end {k : Int} {ns : List ByteArray} (h : nsF k ns = true) (ha : ∀ (q : Nat) (hq : q < ns.length), propB ns[q] = true) : nsD k ns = true := by
  unfold nsF at h
  unfold nsD
  split
  · rename_i h7
    rw [if_pos h7] at h
    rw [h, all_true ha]
    rfl
  · rename_i h7
    rw [if_neg h7] at h
    exact h
theorem ns_bad {k : Int} {ns : List ByteArray} {j : Nat} (hj : j < ns.length) (hb : propB ns[j] = false) : nsD k ns = false := by
  unfold nsD
  split
  · rw [all_false hj hb, Bool.and_false]
  · exact decide_eq_false (by omega)
theorem ns_less {k : Int} {ns : List ByteArray} (h : nsF k ns = false) : nsD k ns = false := by
  unfold nsF at h
  unfold nsD
  split
  · rename_i h7
    rw [if_pos h7] at h
    rw [h]; rfl
  · rename_i h7
    rw [if_neg h7] at h
    exact h

end Go.Proofs.YtmihckhflbepjaaDoor
