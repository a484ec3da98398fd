/- Where calls stand; signs and built-in calls. What the listed variable, the table of signs, gives the walks; and that the start lays it so. -/
import Derived.Test.YtlnllpehifkjhaaDoorNdMem
import Derived.Test.YtlnllpehifkjhaaDoorNdRight
import Derived.Test.YtlnllpehifkjhaaDoorKey
import Derived.Test.YtlnllpehifkjhaaDoorRows
import Derived.ProofKit
import Derived.LaidMore
import Derived.OpenShut
import Derived.Stop.Joined
import Derived.KernelRfl
namespace Go.Proofs.YtlnllpehifkjhaaDoor
open Go.RowKit

/-- where a call stands: old memory below B, the table of signs in block 0 -/
def Ok (B : Nat) (w : World) : Prop := B ≤ w.heap.size ∧ 0 < B ∧ Texts 0 tsgnL w
theorem ok_on {B : Nat} {a c : World} (h : Ok B a) (q : Below B a c) : Ok B c :=
  ⟨Nat.le_trans h.1 q.size, h.2.1, fun i hi => cell_keep q h.2.1 (h.2.2 i hi)⟩

theorem sign_calls (o : Int) (B : Nat) (w : World) (hO : Hid (Ok B w)) :
    Calls Tryd.prog 75 #[.int .i64 o] w fun e w' => e = .returned (.string ⟨(signT o).toArray⟩) ∧ w = w' := by
  by_cases h0 : o < 0
  · have H := hid (show signT o = [] by unfold signT; rw [if_pos h0])
    go_enter Tryd.func75, Tryd.ntmps75
    go_wp2_with fail
    go_ret
    exact ⟨by rw [H.out]; rfl, rfl⟩
  have d0 : decide (o < 0) = false := decide_eq_false h0
  by_cases h1 : 12 ≤ o
  · have H := hid (show signT o = [] by
      unfold signT; rw [if_neg h0, List.getD_eq_getElem?_getD, List.getElem?_eq_none (by simp [tsgnL]; omega)]; rfl)
    go_enter Tryd.func75, Tryd.ntmps75
    go_wp2_with fail
    go_ret
    exact ⟨by rw [H.out]; rfl, rfl⟩
  have d1 : decide (12 ≤ o) = false := decide_eq_false h1
  obtain ⟨j, rfl⟩ : ∃ j : Nat, o = (j : Int) := ⟨o.toNat, by omega⟩
  have hj : j < tsgnL.length := by show j < 12; omega
  have c := hO.out.2.2 j hj
  have H := hid (show signT (j : Int) = tsgnL[j] by
    unfold signT; rw [if_neg h0, List.getD_eq_getElem?_getD, Int.toNat_natCast, List.getElem?_eq_getElem hj]; rfl)
  have hj12 : j < 12 := hj
  clear hO
  generalize tsgnL[j] = x at *
  go_enter Tryd.func75, Tryd.ntmps75
  go_wp2_with fail
  go_ret
  exact ⟨by rw [H.out]; rfl, rfl⟩

theorem built_calls (o : Int) (w : World) :
    Calls Tryd.prog 77 #[.int .i64 o] w fun e w' => e = .returned (.tuple #[.string ⟨(builtT o).1.toArray⟩, .int .i64 (builtT o).2]) ∧ w = w' := by
  by_cases h : 1 ≤ o ∧ o ≤ 7
  · obtain rfl | rfl | rfl | rfl | rfl | rfl | rfl : o = 1 ∨ o = 2 ∨ o = 3 ∨ o = 4 ∨ o = 5 ∨ o = 6 ∨ o = 7 := by omega
    all_goals
      clear h
      go_enter Tryd.func77, Tryd.ntmps77
      go_wp2_with fail
      go_ret2
      exact ⟨rfl, rfl⟩
  · have H := hid (show builtT o = ([], 0) by
      unfold builtT
      by_cases h0 : o < 0
      · rw [if_pos h0]
      · rw [if_neg h0]
        by_cases h1 : o = 0
        · subst h1; rfl
        · rw [List.getD_eq_getElem?_getD, List.getElem?_eq_none (by simp [builtL]; omega)]; rfl)
    have e1 : (o == 1) = false := beq_eq_false_iff_ne.2 (by omega)
    have e2 : (o == 2) = false := beq_eq_false_iff_ne.2 (by omega)
    have e3 : (o == 3) = false := beq_eq_false_iff_ne.2 (by omega)
    have e4 : (o == 4) = false := beq_eq_false_iff_ne.2 (by omega)
    have e5 : (o == 5) = false := beq_eq_false_iff_ne.2 (by omega)
    have e6 : (o == 6) = false := beq_eq_false_iff_ne.2 (by omega)
    have e7 : (o == 7) = false := beq_eq_false_iff_ne.2 (by omega)
    clear h
    go_enter Tryd.func77, Tryd.ntmps77
    go_wp2_with fail
    go_ret2
    exact ⟨by rw [H.out]; rfl, rfl⟩

theorem kids_at {B : Nat} {w : World} {a : Option Addr} {c q : Nat} {ks : List Nd} (h : KidsIn B w (.slice a c q) ks) (hl : ks ≠ []) : ∃ b off, a = some ⟨b, off, none⟩ ∧ b < B ∧ NdsAt B w b ks off := by
  rcases h with ⟨_, _, _, h⟩ | ⟨b, off, cap, e, hb, h, _⟩
  · exact absurd h hl
  · injection e with e1 e2 e3
    exact ⟨b, off, e1, hb, h⟩

theorem list_two {α : Type} {l : List α} (h : l.length = 2) : ∃ a b, l = [a, b] := by
  match l, h with
  | [a, b], _ => exact ⟨a, b, rfl⟩
theorem list_three {α : Type} {l : List α} (h : l.length = 3) : ∃ a b c, l = [a, b, c] := by
  match l, h with
  | [a, b, c], _ => exact ⟨a, b, c, rfl⟩
end Go.Proofs.YtlnllpehifkjhaaDoor

namespace Go.Proofs.YtlnllpehifkjhaaDoor
open Go.ChangeShapes Go.WideShapes Go.ChangeAt Go.RowKit

def laidS : List (String × DataW Unit) := [("proteus/tree.signs", Rows.laid_proteus_tree_signs)]
theorem gSigns : Tryd.prog.globalNamed "proteus/tree.signs" = some 0 := by kernel_rfl
theorem tSigns : (Tryd.prog.globals[0]?).map (·.type) = some 84 := by kernel_rfl

set_option maxRecDepth 100000 in
theorem door_met (os : Os) (args : Array Value) : laidMetH Tryd.prog laidS ((World.doorLaid Tryd.prog 14 os).forCall (fun _ _ => 0) ⟨#[], args, []⟩).memory :=
  laidMetH_of_parts3 (fuel := 8) (laidMet_of_run' 8 (by kernel_rfl) (by kernel_rfl)) (by kernel_rfl) (by kernel_rfl)

theorem of_laid {W : World} (h : laidMetH Tryd.prog laidS W) : 0 < W.heap.size ∧ Texts 0 tsgnL W := by
  rw [MakeChecks.laidMetH_plain _ _ _ (by kernel_rfl)] at h
  obtain ⟨ps, ⟨g0, t0, cs0, f0, p0, q0, hg0, ht0, hv0, hd0, _, _⟩, _, _⟩ := h
  obtain rfl := Option.some.inj (gSigns.symm.trans hg0)
  obtain rfl := Option.some.inj (tSigns.symm.trans ht0)
  obtain ⟨xs, m1, rfl, hx1, hlen, hn3, hel⟩ := DataW.trod_array Tryd.underlying84 hd0
  have c9 : Tryd.prog.cellsOf 9 = 1 := by kernel_rfl
  have hmap : xs.map (·.1) = tsgnL.map fun l => .lit (.string l) := by
    simp only [Prod.mk.injEq] at hx1
    have h1 : (DataW.agg (tsgnL.map fun l => .lit (.string l)) : DataW Unit) = .agg (xs.map (·.1)) := hx1.1
    injection h1 with h2
    exact h2.symm
  have h12 : tsgnL.length = 12 := rfl
  have hT : Texts 0 tsgnL W := by
    intro i hi
    have h1 := hel i (by omega)
    have hxl : i < xs.length := by omega
    rw [List.getElem?_eq_getElem hxl, c9, Nat.mul_one] at h1
    obtain ⟨s, e1, e2, _⟩ := DataW.trod_string Tryd.underlying9 h1
    have h2 : (xs.map (·.1))[i]? = (tsgnL.map fun l => (DataW.lit (.string l) : DataW Unit))[i]? := by rw [hmap]
    rw [List.getElem?_map, List.getElem?_map, List.getElem?_eq_getElem hxl, List.getElem?_eq_getElem hi, Option.map_some, Option.map_some, e2] at h2
    have h3 : s.data.toList = tsgnL[i] := by simpa using h2
    rw [World.var?_cell hg0 hv0 i, ← h3]
    have h4 : cs0.toList[i]? = some (.string s) := by
      have := congrArg (fun l => l[0]?) e1
      simpa [List.getElem?_take, List.getElem?_drop] using this
    simpa using h4
  refine ⟨?_, hT⟩
  rcases Nat.eq_zero_or_pos W.heap.size with h | h
  · have := hT 0 (by omega)
    simp [World.cell?, Array.getElem?_eq_none (show W.heap.size ≤ 0 by omega)] at this
  · exact h

end Go.Proofs.YtlnllpehifkjhaaDoor
