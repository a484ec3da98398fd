/- Of all values that may be just nothing, and false, do not count as true: ValueTrue is true for every input; no condition. -/
import Derived.Test.YtkmbahnndbempaaVWorks
import Derived.Test.YtkmbahnndbempaaRefVal
import Derived.Test.YtkmbahnndbempaaVApart
import Derived.Test.YtkmbahnndbempaaHeld
import Derived.Test.YtkmbahnndbempaaRows
import Derived.WalkKit
import Derived.ProofKit
import Derived.OpenShut
import Derived.ShutString
import Derived.ChangeOld
import Derived.Below
namespace Go.Proofs.Ytkmbahnndbempaa.valueTrue
open Go.ChangeShapes Go.WideShapes Go.ChangeAt Go.RowKit
open Go.ChangeMaps (open_string shut_string)
set_option linter.unusedVariables false

theorem own : ownKnob Try.prog.godebug = none := by kernel_rfl

theorem right_size {k n : Int} {s : ByteArray} (h : rightB k n s.data.toList = true) : s.size ≤ 256 := by
  rw [← list_size]
  by_cases hk : k = 3
  · simp [rightB, hk] at h; simp; exact h.2
  · simp [rightB, hk] at h; simp [h.1]


theorem walk (k0 n0 : Int) (s0 : ByteArray) (wk0 : (Lit.int .i64 k0).wf = true) (wn0 : (Lit.int .i64 n0).wf = true) (ws0 : s0.size ≤ maxLen) (w : World) :
    Calls Try.prog 6 #[.agg #[.int .i64 k0, .int .i64 n0, .string s0]] w fun e w' => e = .returned (.bool true) ∧ Below w.heap.size w w' := by
  have b0 := bounds_i64 wn0
  clear wn0 wk0 ws0
  by_cases hr : rightB k0 n0 s0.data.toList = true
  · have hsz := right_size hr
    have ht := hid (truth_print hr)
    have hs := held1p w (.int .i64 k0) (.int .i64 n0) (.string s0) 23
    go_enter Try.func6, Try.ntmps6
    go_wp2_with fail
    refine (right_calls k0 n0 s0 _).mono ?_
    rintro e w1 ⟨rfl, b1⟩
    obtain ⟨z1, B1, c0, c1, c2⟩ := held1_on hs b1
    have H1 := hid (And.intro z1 (And.intro B1 (And.intro c0 (And.intro c1 c2))))
    clear hs b1 B1 z1
    rw [hr]
    go_wp2_with fail
    refine (refprint_calls k0 n0 b0.1 b0.2 s0 (by omega) _).mono ?_
    rintro e w2 ⟨rfl, b2⟩
    have H2 := hid (held1_on H1.out b2)
    obtain ⟨z2, B2, d0, d1, d2⟩ := H2.out
    clear H1 b2 B2 z2 c0 c1 c2
    generalize hp : printB k0 n0 s0.data.toList = p at *
    clear hp
    go_wp2_with fail
    refine (truth_calls k0 n0 s0 _).mono ?_
    rintro e w3 ⟨rfl, b3⟩
    rw [ht.out]
    go_wp2_with fail
    all_goals (refine (works_calls _).mono ?_; rintro e w4 ⟨rfl, b4⟩; go_wp2; go_ret; exact ⟨rfl, below_on H2.out.2.1 (below_on b3 b4)⟩)
  · rw [Bool.not_eq_true] at hr
    go_enter Try.func6, Try.ntmps6
    go_wp2_with fail
    refine (right_calls k0 n0 s0 _).mono ?_
    rintro e w1 ⟨rfl, b1⟩
    rw [hr]
    go_wp2_with fail
    refine (works_calls _).mono ?_
    rintro e w5 ⟨rfl, b5⟩
    go_wp2
    go_ret
    exact ⟨rfl, below_on (box1 _ _) (below_on b1 b5)⟩

set_option maxRecDepth 100000 in
theorem lifted (os : Os) (started : os.Started) (H : Type) (enc : TypeId × Value → H) :
    ReturnsInHanded {} Try.checked os 6 .any (Rows.valueTrueSpec.pre6 enc Try.prog Try.f6 Rows.valueTrueRow.domain false) (Rows.valueTrueSpec.post enc Try.prog Try.f6 false true false false) := by
  refine returnsInHanded_of_change (C := Try.checked) own started (by kernel_rfl) Try.func6
    (ChangeSpec.witness6 (enc := enc) (C := Try.checked) false ⟨#[], #[.agg #[.int .i64 0, .int .i64 0, .string ByteArray.empty]], []⟩ 8 (by kernel_rfl) (by kernel_rfl) (by kernel_rfl) (by kernel_rfl)) ?_
  intro W base args ds gs before hval0 hW hcnd _
  have hval : ∀ (j : Nat) t v, Try.f6.params[j]? = some t → args[j]? = some v → Value.okWide Try.prog W .any base t v := hval0
  have hW' := hW
  obtain ⟨p, q, hA0, hV, rfl, hfz, hnd⟩ := hW
  have hA : DataW.TrodAll enc Try.prog W 0 (fun _ => true) true Try.f6.params.toList args.toList ds p := hA0
  rw [Try.params6] at hA hval
  obtain ⟨v0, vs0, d0, ds0, p0, q0, hargs, rfl, rfl, h0, r0⟩ := trodAll_cons hA
  obtain ⟨rfl, rfl, rfl⟩ := trodAll_nil r0
  obtain rfl : args = #[v0] := by cases args; simp_all
  obtain ⟨rfl, rfl⟩ := trodVars_none hV
  obtain ⟨k0, n0, s0, rfl, rfl, rfl, wk0, wn0, ws0⟩ := open_value (hval 0 23 v0 rfl rfl) h0
  clear hA0 hval0
  refine (walk k0 n0 s0 wk0 wn0 ws0 W).mono fun e W' ⟨he, hg⟩ => ?_
  subst he
  exact ⟨_, rfl, _, _, _, [], _, [], hW', trodAll_mk1 (shut_bool Try.underlying4 _), (trodAll_cons_mk (shut_value wk0 wn0 ws0) trodAll_mk0), rfl, hg.frame _, fun h => by cases h⟩

theorem over : Rows.valueTrueRow.holds Try.pinned (OpenSpec.ofChange Rows.valueTrueSpec) :=
  OpenClaim.holds_of_wide 6 Try.f6 rfl rfl rfl rfl rfl rfl rfl ⟨rfl, rfl, rfl, rfl, rfl⟩ rfl rfl rfl rfl rfl (by kernel_rfl) Try.func6 (by kernel_rfl)
    (of_decide_eq_true (by kernel_rfl)) (by unfold Func.isWrapper; first | (rw [if_pos (by decide +kernel)]; kernel_rfl) | (rw [if_neg (by decide +kernel)]; exact ⟨rfl, rfl⟩))
    (fun os started H enc _ => lifted os started H enc)

end Go.Proofs.Ytkmbahnndbempaa.valueTrue
namespace Go.Proofs.Ytkmbahnndbempaa

/-- the statement, as it was given -/
theorem valueTrue_holds : Rows.ValueTrueSaid :=
  valueTrue.over
#print axioms valueTrue_holds
end Go.Proofs.Ytkmbahnndbempaa
