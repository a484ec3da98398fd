/- What the listed variable, the table of signs, gives the walks; and that the start lays it so. -/
import Derived.Test.YteoghacpdfnijaaDoorTreeSign
import Derived.Test.YteoghacpdfnijaaDoorRows
import Derived.ProofKit
import Derived.LaidMore
import Derived.OpenShut
import Derived.Stop.Joined
import Derived.KernelRfl
namespace Go.Proofs.YteoghacpdfnijaaDoor
open Go.ChangeShapes Go.WideShapes Go.ChangeAt Go.RowKit

def laidS : List (String × DataW Unit) := [("proteus/tree.signs", Rows.laid_proteus_tree_signs)]
theorem gSigns : Tryd.prog.globalNamed "proteus/tree.signs" = some 0 := by kernel_rfl
theorem tSigns : (Tryd.prog.globals[0]?).map (·.type) = some 104 := by kernel_rfl

set_option maxRecDepth 100000 in
theorem door_met (os : Os) (args : Array Value) : laidMetH Tryd.prog laidS ((World.doorLaid Tryd.prog 14 os).forCall (fun _ _ => 0) ⟨#[], args, []⟩).memory :=
  laidMetH_of_parts3 (fuel := 8) (laidMet_of_run' 8 (by kernel_rfl) (by kernel_rfl)) (by kernel_rfl) (by kernel_rfl)

set_option maxRecDepth 100000 in
theorem of_laid {W : World} (h : laidMetH Tryd.prog laidS W) : 0 < W.heap.size ∧ Texts 0 tsgnL W := by
  rw [MakeChecks.laidMetH_plain _ _ _ (by kernel_rfl)] at h
  obtain ⟨ps, ⟨g0, t0, cs0, f0, p0, q0, hg0, ht0, hv0, hd0, _, _⟩, _, _⟩ := h
  obtain rfl := Option.some.inj (gSigns.symm.trans hg0)
  obtain rfl := Option.some.inj (tSigns.symm.trans ht0)
  obtain ⟨xs, m1, rfl, hx1, hlen, hn3, hel⟩ := DataW.trod_array Tryd.underlying104 hd0
  have c9 : Tryd.prog.cellsOf 9 = 1 := by kernel_rfl
  have hmap : xs.map (·.1) = tsgnL.map fun l => .lit (.string l) := by
    simp only [Prod.mk.injEq] at hx1
    have h1 : (DataW.agg (tsgnL.map fun l => .lit (.string l)) : DataW Unit) = .agg (xs.map (·.1)) := hx1.1
    injection h1 with h2
    exact h2.symm
  have h12 : tsgnL.length = 12 := rfl
  have hT : Texts 0 tsgnL W := by
    intro i hi
    have h1 := hel i (by omega)
    have hxl : i < xs.length := by omega
    rw [List.getElem?_eq_getElem hxl, c9, Nat.mul_one] at h1
    obtain ⟨s, e1, e2, _⟩ := DataW.trod_string Tryd.underlying9 h1
    have h2 : (xs.map (·.1))[i]? = (tsgnL.map fun l => (DataW.lit (.string l) : DataW Unit))[i]? := by rw [hmap]
    rw [List.getElem?_map, List.getElem?_map, List.getElem?_eq_getElem hxl, List.getElem?_eq_getElem hi, Option.map_some, Option.map_some, e2] at h2
    have h3 : s.data.toList = tsgnL[i] := by simpa using h2
    rw [World.var?_cell hg0 hv0 i, ← h3]
    have h4 : cs0.toList[i]? = some (.string s) := by
      have := congrArg (fun l => l[0]?) e1
      simpa [List.getElem?_take, List.getElem?_drop] using this
    simpa using h4
  refine ⟨?_, hT⟩
  rcases Nat.eq_zero_or_pos W.heap.size with h | h
  · have := hT 0 (by omega)
    simp [World.cell?, Array.getElem?_eq_none (show W.heap.size ≤ 0 by omega)] at this
  · exact h

end Go.Proofs.YteoghacpdfnijaaDoor
