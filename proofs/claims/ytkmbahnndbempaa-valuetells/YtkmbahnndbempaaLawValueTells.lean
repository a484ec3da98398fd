/- For any two values, Right, Same, Truth and IsKey of value answer as the document's do: ValueTells is true for every input; no condition. -/
import Derived.Test.YtkmbahnndbempaaVWorks
import Derived.Test.YtkmbahnndbempaaRefVal
import Derived.Test.YtkmbahnndbempaaHeld
import Derived.Test.YtkmbahnndbempaaRows
import Derived.WalkKit
import Derived.ProofKit
import Derived.OpenShut
import Derived.ShutString
import Derived.ChangeOld
import Derived.Below
namespace Go.Proofs.Ytkmbahnndbempaa.valueTells
open Go.ChangeShapes Go.WideShapes Go.ChangeAt Go.RowKit
open Go.ChangeMaps (open_string shut_string)
set_option linter.unusedVariables false

theorem own : ownKnob Try.prog.godebug = none := by kernel_rfl



theorem walk (k0 n0 : Int) (s0 : ByteArray) (k1 n1 : Int) (s1 : ByteArray) (wk0 : (Lit.int .i64 k0).wf = true) (wn0 : (Lit.int .i64 n0).wf = true) (ws0 : s0.size ≤ maxLen) (wk1 : (Lit.int .i64 k1).wf = true) (wn1 : (Lit.int .i64 n1).wf = true) (ws1 : s1.size ≤ maxLen) (w : World) :
    Calls Try.prog 3 #[.agg #[.int .i64 k0, .int .i64 n0, .string s0], .agg #[.int .i64 k1, .int .i64 n1, .string s1]] w fun e w' => e = .returned (.bool true) ∧ Below w.heap.size w w' := by
  have b0 := bounds_i64 wn0
  clear wk0 wn0 ws0 wk1 wn1 ws1
  go_enter Try.func3, Try.ntmps3
  go_wp2_with fail
  go_region_held3 (fun w' => w.heap.size + 2 ≤ w'.heap.size ∧ Below w.heap.size w w' ∧
      w'.cell? ⟨w.heap.size, 0, none⟩ = some (.int .i64 k0) ∧ w'.cell? ⟨w.heap.size, 1, none⟩ = some (.int .i64 n0) ∧ w'.cell? ⟨w.heap.size, 2, none⟩ = some (.string s0) ∧
      w'.cell? ⟨w.heap.size + 1, 0, none⟩ = some (.int .i64 k1) ∧ w'.cell? ⟨w.heap.size + 1, 1, none⟩ = some (.int .i64 n1) ∧ w'.cell? ⟨w.heap.size + 1, 2, none⟩ = some (.string s1))
    (first | exact held2_on (by assumption) bb | exact held2 _ _ _ _ _ _ _ _ _ | exact held2_on (by assumption) (Below.refl _ _).drew)
    (first
      | (go_at_call 7; refine (right_calls k0 n0 s0 _).mono ?_; rintro e wx ⟨rfl, bb⟩)
      | (go_at_call 8; refine (refright_calls k0 n0 b0.1 b0.2 s0 _).mono ?_; rintro e wx ⟨rfl, bb⟩)
      | (go_at_call 9; refine (same_calls k0 n0 s0 k1 n1 s1 _).mono ?_; rintro e wx ⟨rfl, bb⟩)
      | (go_at_call 10; refine (refsame_calls k0 n0 s0 k1 n1 s1 _).mono ?_; rintro e wx ⟨rfl, bb⟩)
      | (go_at_call 11; refine (truth_calls k0 n0 s0 _).mono ?_; rintro e wx ⟨rfl, bb⟩)
      | (go_at_call 12; refine (reftruth_calls k0 n0 s0 _).mono ?_; rintro e wx ⟨rfl, bb⟩)
      | (go_at_call 13; refine (iskey_calls k0 n0 s0 _).mono ?_; rintro e wx ⟨rfl, bb⟩)
      | (go_at_call 14; refine (works_calls _).mono ?_; rintro e wx ⟨rfl, bb⟩))
  have hB : Below w.heap.size w wx := held_below (by assumption)
  go_wp2
  go_ret
  exact ⟨rfl, hB⟩

set_option maxRecDepth 100000 in
theorem lifted (os : Os) (started : os.Started) (H : Type) (enc : TypeId × Value → H) :
    ReturnsInHanded {} Try.checked os 3 .any (Rows.valueTellsSpec.pre6 enc Try.prog Try.f3 Rows.valueTellsRow.domain false) (Rows.valueTellsSpec.post enc Try.prog Try.f3 false true false false) := by
  refine returnsInHanded_of_change (C := Try.checked) own started (by kernel_rfl) Try.func3
    (ChangeSpec.witness6 (enc := enc) (C := Try.checked) false ⟨#[], #[.agg #[.int .i64 0, .int .i64 0, .string ByteArray.empty], .agg #[.int .i64 0, .int .i64 0, .string ByteArray.empty]], []⟩ 8 (by kernel_rfl) (by kernel_rfl) (by kernel_rfl) (by kernel_rfl)) ?_
  intro W base args ds gs before hval0 hW hcnd _
  have hval : ∀ (j : Nat) t v, Try.f3.params[j]? = some t → args[j]? = some v → Value.okWide Try.prog W .any base t v := hval0
  have hW' := hW
  obtain ⟨p, q, hA0, hV, rfl, hfz, hnd⟩ := hW
  have hA : DataW.TrodAll enc Try.prog W 0 (fun _ => true) true Try.f3.params.toList args.toList ds p := hA0
  rw [Try.params3] at hA hval
  obtain ⟨v0, vs0, d0, ds0, p0, q0, hargs, rfl, rfl, h0, r0⟩ := trodAll_cons hA
  obtain ⟨v1, vs1, d1, ds1, p1, q1, rfl, rfl, rfl, h1, r1⟩ := trodAll_cons r0
  obtain ⟨rfl, rfl, rfl⟩ := trodAll_nil r1
  obtain rfl : args = #[v0, v1] := by cases args; simp_all
  obtain ⟨rfl, rfl⟩ := trodVars_none hV
  obtain ⟨k0, n0, s0, rfl, rfl, rfl, wk0, wn0, ws0⟩ := open_value (hval 0 23 v0 rfl rfl) h0
  obtain ⟨k1, n1, s1, rfl, rfl, rfl, wk1, wn1, ws1⟩ := open_value (hval 1 23 v1 rfl rfl) h1
  clear hA0 hval0
  refine (walk k0 n0 s0 k1 n1 s1 wk0 wn0 ws0 wk1 wn1 ws1 W).mono fun e W' ⟨he, hg⟩ => ?_
  subst he
  exact ⟨_, rfl, _, _, _, [], _, [], hW', trodAll_mk1 (shut_bool Try.underlying4 _), (trodAll_cons_mk (shut_value wk0 wn0 ws0) (trodAll_cons_mk (shut_value wk1 wn1 ws1) trodAll_mk0)), rfl, hg.frame _, fun h => by cases h⟩

theorem over : Rows.valueTellsRow.holds Try.pinned (OpenSpec.ofChange Rows.valueTellsSpec) :=
  OpenClaim.holds_of_wide 3 Try.f3 rfl rfl rfl rfl rfl rfl rfl ⟨rfl, rfl, rfl, rfl, rfl⟩ rfl rfl rfl rfl rfl (by kernel_rfl) Try.func3 (by kernel_rfl)
    (of_decide_eq_true (by kernel_rfl)) (by unfold Func.isWrapper; first | (rw [if_pos (by decide +kernel)]; kernel_rfl) | (rw [if_neg (by decide +kernel)]; exact ⟨rfl, rfl⟩))
    (fun os started H enc _ => lifted os started H enc)

end Go.Proofs.Ytkmbahnndbempaa.valueTells
namespace Go.Proofs.Ytkmbahnndbempaa

/-- the statement, as it was given -/
theorem valueTells_holds : Rows.ValueTellsSaid :=
  valueTells.over
#print axioms valueTells_holds
end Go.Proofs.Ytkmbahnndbempaa
