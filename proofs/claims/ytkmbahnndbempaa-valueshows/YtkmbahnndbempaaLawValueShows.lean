/- For any value whose string has at most 1000 bytes, Show and Print of value answer as the document's do (beyond 1000 bytes the law asks its own test alone): ValueShows is true for every input; no condition. -/
import Derived.Test.YtkmbahnndbempaaVWorks
import Derived.Test.YtkmbahnndbempaaRefVal
import Derived.Test.YtkmbahnndbempaaHeld
import Derived.Test.YtkmbahnndbempaaRows
import Derived.WalkKit
import Derived.ProofKit
import Derived.OpenShut
import Derived.ShutString
import Derived.ChangeOld
import Derived.Below
namespace Go.Proofs.Ytkmbahnndbempaa.valueShows
open Go.ChangeShapes Go.WideShapes Go.ChangeAt Go.RowKit
open Go.ChangeMaps (open_string shut_string)
set_option linter.unusedVariables false

theorem own : ownKnob Try.prog.godebug = none := by kernel_rfl



theorem walk (k0 n0 : Int) (s0 : ByteArray) (wk0 : (Lit.int .i64 k0).wf = true) (wn0 : (Lit.int .i64 n0).wf = true) (ws0 : s0.size ≤ maxLen) (w : World) :
    Calls Try.prog 4 #[.agg #[.int .i64 k0, .int .i64 n0, .string s0]] w fun e w' => e = .returned (.bool true) ∧ Below w.heap.size w w' := by
  have b0 := bounds_i64 wn0
  clear wn0 wk0
  by_cases hl : s0.size ≤ 1000
  · clear ws0
    go_enter Try.func4, Try.ntmps4
    go_wp2_with fail
    go_region_held3 (fun w' => w.heap.size + 1 ≤ w'.heap.size ∧ Below w.heap.size w w' ∧
      w'.cell? ⟨w.heap.size, 0, none⟩ = some (.int .i64 k0) ∧ w'.cell? ⟨w.heap.size, 1, none⟩ = some (.int .i64 n0) ∧ w'.cell? ⟨w.heap.size, 2, none⟩ = some (.string s0))
    (first | exact held1_on (by assumption) bb | exact held1 _ _ _ _ _ | exact held1_on (by assumption) (Below.refl _ _).drew)
      (first
        | (go_at_call 15; refine (show_calls k0 n0 b0.1 b0.2 s0 _).mono ?_; rintro e wx ⟨rfl, bb⟩)
        | (go_at_call 16; refine (refshow_calls k0 n0 b0.1 b0.2 s0 _).mono ?_; rintro e wx ⟨rfl, bb⟩)
        | (go_at_call 17; refine (print_calls k0 n0 b0.1 b0.2 s0 (Nat.le_trans hl (by decide)) _).mono ?_; rintro e wx ⟨rfl, bb⟩)
        | (go_at_call 18; refine (refprint_calls k0 n0 b0.1 b0.2 s0 (Nat.le_trans hl (by decide)) _).mono ?_; rintro e wx ⟨rfl, bb⟩)
        | (go_at_call 14; refine (works_calls _).mono ?_; rintro e wx ⟨rfl, bb⟩))
    have hB : Below w.heap.size w wx := held_below (by assumption)
    go_wp2
    go_ret
    exact ⟨rfl, hB⟩
  · go_enter Try.func4, Try.ntmps4
    go_wp2_with fail
    refine (works_calls _).mono ?_
    rintro e w5 ⟨rfl, b5⟩
    go_wp2
    go_ret
    exact ⟨rfl, below_on (box1 _ _) b5⟩

set_option maxRecDepth 100000 in
theorem lifted (os : Os) (started : os.Started) (H : Type) (enc : TypeId × Value → H) :
    ReturnsInHanded {} Try.checked os 4 .any (Rows.valueShowsSpec.pre6 enc Try.prog Try.f4 Rows.valueShowsRow.domain false) (Rows.valueShowsSpec.post enc Try.prog Try.f4 false true false false) := by
  refine returnsInHanded_of_change (C := Try.checked) own started (by kernel_rfl) Try.func4
    (ChangeSpec.witness6 (enc := enc) (C := Try.checked) false ⟨#[], #[.agg #[.int .i64 0, .int .i64 0, .string ByteArray.empty]], []⟩ 8 (by kernel_rfl) (by kernel_rfl) (by kernel_rfl) (by kernel_rfl)) ?_
  intro W base args ds gs before hval0 hW hcnd _
  have hval : ∀ (j : Nat) t v, Try.f4.params[j]? = some t → args[j]? = some v → Value.okWide Try.prog W .any base t v := hval0
  have hW' := hW
  obtain ⟨p, q, hA0, hV, rfl, hfz, hnd⟩ := hW
  have hA : DataW.TrodAll enc Try.prog W 0 (fun _ => true) true Try.f4.params.toList args.toList ds p := hA0
  rw [Try.params4] at hA hval
  obtain ⟨v0, vs0, d0, ds0, p0, q0, hargs, rfl, rfl, h0, r0⟩ := trodAll_cons hA
  obtain ⟨rfl, rfl, rfl⟩ := trodAll_nil r0
  obtain rfl : args = #[v0] := by cases args; simp_all
  obtain ⟨rfl, rfl⟩ := trodVars_none hV
  obtain ⟨k0, n0, s0, rfl, rfl, rfl, wk0, wn0, ws0⟩ := open_value (hval 0 23 v0 rfl rfl) h0
  clear hA0 hval0
  refine (walk k0 n0 s0 wk0 wn0 ws0 W).mono fun e W' ⟨he, hg⟩ => ?_
  subst he
  exact ⟨_, rfl, _, _, _, [], _, [], hW', trodAll_mk1 (shut_bool Try.underlying4 _), (trodAll_cons_mk (shut_value wk0 wn0 ws0) trodAll_mk0), rfl, hg.frame _, fun h => by cases h⟩

theorem over : Rows.valueShowsRow.holds Try.pinned (OpenSpec.ofChange Rows.valueShowsSpec) :=
  OpenClaim.holds_of_wide 4 Try.f4 rfl rfl rfl rfl rfl rfl rfl ⟨rfl, rfl, rfl, rfl, rfl⟩ rfl rfl rfl rfl rfl (by kernel_rfl) Try.func4 (by kernel_rfl)
    (of_decide_eq_true (by kernel_rfl)) (by unfold Func.isWrapper; first | (rw [if_pos (by decide +kernel)]; kernel_rfl) | (rw [if_neg (by decide +kernel)]; exact ⟨rfl, rfl⟩))
    (fun os started H enc _ => lifted os started H enc)

end Go.Proofs.Ytkmbahnndbempaa.valueShows
namespace Go.Proofs.Ytkmbahnndbempaa

/-- the statement, as it was given -/
theorem valueShows_holds : Rows.ValueShowsSaid :=
  valueShows.over
#print axioms valueShows_holds
end Go.Proofs.Ytkmbahnndbempaa
