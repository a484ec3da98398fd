/- Values that may be, whose strings have at most 1000 bytes, are alike just if they are printed alike; each is like itself, and alike is the same either way round (else the law asks its own test alone): ValueApart is true for every input; no condition. -/
import Derived.Test.YtkmbahnndbempaaVWorks
import Derived.Test.YtkmbahnndbempaaVApart
import Derived.Test.YtkmbahnndbempaaHeld
import Derived.Test.YtkmbahnndbempaaRows
import Derived.WalkKit
import Derived.ProofKit
import Derived.OpenShut
import Derived.ShutString
import Derived.ChangeOld
import Derived.Below
namespace Go.Proofs.Ytkmbahnndbempaa.valueApart
open Go.ChangeShapes Go.WideShapes Go.ChangeAt Go.RowKit
open Go.ChangeMaps (open_string shut_string)
set_option linter.unusedVariables false

theorem own : ownKnob Try.prog.godebug = none := by kernel_rfl

theorem alike_self (k n : Int) (l : List UInt8) : alike k n l k n l = true := by simp [alike]
theorem alike_eq {k n k' n' : Int} {s s' : ByteArray} (h : alike k n s.data.toList k' n' s'.data.toList = true) : k = k' ∧ n = n' ∧ s = s' := by
  simp [alike] at h
  exact ⟨h.1, h.2.1, ByteArray.ext h.2.2⟩

theorem unlike {k n k' n' : Int} {l l' : List UInt8} (h1 : -9223372036854775808 ≤ n ∧ n ≤ 9223372036854775807) (h2 : -9223372036854775808 ≤ n' ∧ n' ≤ 9223372036854775807) (hr : rightB k n l = true) (hr' : rightB k' n' l' = true)
    (h : alike k n l k' n' l' = false) : alike k' n' l' k n l = false ∧ printB k n l ≠ printB k' n' l' := by
  have hn : ∀ x : Int, -9223372036854775808 ≤ x ∧ x ≤ 9223372036854775807 → x.natAbs < 10 ^ 20 := fun x hx => by omega
  constructor
  · rw [← Bool.not_eq_true] at h ⊢
    intro h'
    simp [alike] at h'
    obtain ⟨rfl, rfl, rfl⟩ := h'
    exact h (alike_self _ _ _)
  · intro he
    obtain ⟨rfl, rfl, rfl⟩ := apart (hn _ h1) (hn _ h2) hr hr' he
    rw [alike_self] at h
    cases h

theorem walk_right (k0 n0 k1 n1 : Int) (s0 s1 : ByteArray) (b0 : -9223372036854775808 ≤ n0 ∧ n0 ≤ 9223372036854775807) (b1 : -9223372036854775808 ≤ n1 ∧ n1 ≤ 9223372036854775807)
    (hl0 : s0.size ≤ 1000) (hl1 : s1.size ≤ 1000) (hr : rightB k0 n0 s0.data.toList = true) (hr' : rightB k1 n1 s1.data.toList = true)
    (same : Bool) (hab : alike k0 n0 s0.data.toList k1 n1 s1.data.toList = same) (hba : alike k1 n1 s1.data.toList k0 n0 s0.data.toList = same) (hp : (printB k0 n0 s0.data.toList == printB k1 n1 s1.data.toList) = same) (w : World) :
    Calls Try.prog 5 #[.agg #[.int .i64 k0, .int .i64 n0, .string s0], .agg #[.int .i64 k1, .int .i64 n1, .string s1]] w fun e w' => e = .returned (.bool true) ∧ Below w.heap.size w w' := by
  have haa := alike_self k0 n0 s0.data.toList
  have hm0 : s0.size ≤ 1000000 := by omega
  have hm1 : s1.size ≤ 1000000 := by omega
  obtain ⟨x0, y0⟩ := b0
  obtain ⟨x1, y1⟩ := b1
  have hs := hid (held2p w (.int .i64 k0) (.int .i64 n0) (.string s0) (.int .i64 k1) (.int .i64 n1) (.string s1) 23 23)
  go_enter Try.func5, Try.ntmps5
  go_wp2_with fail
  refine (right_calls k0 n0 s0 _).mono ?_
  rintro e w1 ⟨rfl, q1⟩
  have H1 := hid (held2_on hs.out q1)
  obtain ⟨z1, B1, c0, c1, c2, c3, c4, c5⟩ := H1.out
  clear hs q1 B1 z1
  rw [hr]
  go_wp2_with fail
  refine (right_calls k1 n1 s1 _).mono ?_
  rintro e w2 ⟨rfl, q2⟩
  have H2 := hid (held2_on H1.out q2)
  obtain ⟨z2, B2, d0, d1, d2, d3, d4, d5⟩ := H2.out
  clear H1 q2 B2 z2 c0 c1 c2 c3 c4 c5
  rw [hr']
  go_wp2_with fail
  clear hr hr'
  go_region_held3 (fun w' => w.heap.size + 2 ≤ w'.heap.size ∧ Below w.heap.size w w' ∧
      w'.cell? ⟨w.heap.size, 0, none⟩ = some (.int .i64 k0) ∧ w'.cell? ⟨w.heap.size, 1, none⟩ = some (.int .i64 n0) ∧ w'.cell? ⟨w.heap.size, 2, none⟩ = some (.string s0) ∧
      w'.cell? ⟨w.heap.size + 1, 0, none⟩ = some (.int .i64 k1) ∧ w'.cell? ⟨w.heap.size + 1, 1, none⟩ = some (.int .i64 n1) ∧ w'.cell? ⟨w.heap.size + 1, 2, none⟩ = some (.string s1))
    (first | exact held2_on (by assumption) bb | exact held2_on H2.out (Below.refl _ _).drew)
    (first
      | (go_at_call 17; refine (print_calls _ _ (by assumption) (by assumption) _ (by assumption) _).mono ?_; rintro e wx ⟨rfl, bb⟩)
      | (go_at_call 9; refine (same_calls _ _ _ _ _ _ _).mono ?_; rintro e wx ⟨rfl, bb⟩)
      | (go_at_call 14; refine (works_calls _).mono ?_; rintro e wx ⟨rfl, bb⟩))
  have hB : Below w.heap.size w wx := held_below (by assumption)
  go_wp2
  go_ret
  exact ⟨rfl, hB⟩


theorem walk (k0 n0 : Int) (s0 : ByteArray) (k1 n1 : Int) (s1 : ByteArray) (wk0 : (Lit.int .i64 k0).wf = true) (wn0 : (Lit.int .i64 n0).wf = true) (ws0 : s0.size ≤ maxLen) (wk1 : (Lit.int .i64 k1).wf = true) (wn1 : (Lit.int .i64 n1).wf = true) (ws1 : s1.size ≤ maxLen) (w : World) :
    Calls Try.prog 5 #[.agg #[.int .i64 k0, .int .i64 n0, .string s0], .agg #[.int .i64 k1, .int .i64 n1, .string s1]] w fun e w' => e = .returned (.bool true) ∧ Below w.heap.size w w' := by
  have b0 := bounds_i64 wn0
  have b1 := bounds_i64 wn1
  clear wk0 wk1 wn0 wn1
  by_cases hl0 : s0.size ≤ 1000
  · by_cases hl1 : s1.size ≤ 1000
    · cases hr : rightB k0 n0 s0.data.toList
      · clear b0 b1 ws0 ws1
        go_enter Try.func5, Try.ntmps5
        go_wp2_with fail
        refine (right_calls k0 n0 s0 _).mono ?_
        rintro e w1 ⟨rfl, q1⟩
        rw [hr]
        go_wp2_with fail
        refine (works_calls _).mono ?_
        rintro e w5 ⟨rfl, b5⟩
        go_wp2
        go_ret
        exact ⟨rfl, below_on (box2 _ _ _) (below_on q1 b5)⟩
      · cases hr' : rightB k1 n1 s1.data.toList
        · clear b0 b1 ws0 ws1
          have hs := hid (held2p w (.int .i64 k0) (.int .i64 n0) (.string s0) (.int .i64 k1) (.int .i64 n1) (.string s1) 23 23)
          go_enter Try.func5, Try.ntmps5
          go_wp2_with fail
          refine (right_calls k0 n0 s0 _).mono ?_
          rintro e w1 ⟨rfl, q1⟩
          have H1 := hid (held2_on hs.out q1)
          obtain ⟨z1, B1, c0, c1, c2, c3, c4, c5⟩ := H1.out
          clear hs q1 B1 z1
          rw [hr]
          go_wp2_with fail
          refine (right_calls k1 n1 s1 _).mono ?_
          rintro e w2 ⟨rfl, q2⟩
          rw [hr']
          go_wp2_with fail
          refine (works_calls _).mono ?_
          rintro e w5 ⟨rfl, b5⟩
          go_wp2
          go_ret
          exact ⟨rfl, below_on H1.out.2.1 (below_on q2 b5)⟩
        · cases hs : alike k0 n0 s0.data.toList k1 n1 s1.data.toList
          · obtain ⟨h1, h2⟩ := unlike b0 b1 hr hr' hs
            exact walk_right k0 n0 k1 n1 s0 s1 b0 b1 hl0 hl1 hr hr' false hs h1 (beq_eq_false_iff_ne.2 h2) w
          · obtain ⟨rfl, rfl, rfl⟩ := alike_eq hs
            exact walk_right k0 n0 k0 n0 s0 s0 b0 b0 hl0 hl0 hr hr true hs hs (beq_self_eq_true _) w
    · go_enter Try.func5, Try.ntmps5
      go_wp2_with fail
      refine (works_calls _).mono ?_
      rintro e w5 ⟨rfl, b5⟩
      go_wp2
      go_ret
      exact ⟨rfl, below_on (box2 _ _ _) b5⟩
  · go_enter Try.func5, Try.ntmps5
    go_wp2_with fail
    refine (works_calls _).mono ?_
    rintro e w5 ⟨rfl, b5⟩
    go_wp2
    go_ret
    exact ⟨rfl, below_on (box2 _ _ _) b5⟩

set_option maxRecDepth 100000 in
theorem lifted (os : Os) (started : os.Started) (H : Type) (enc : TypeId × Value → H) :
    ReturnsInHanded {} Try.checked os 5 .any (Rows.valueApartSpec.pre6 enc Try.prog Try.f5 Rows.valueApartRow.domain false) (Rows.valueApartSpec.post enc Try.prog Try.f5 false true false false) := by
  refine returnsInHanded_of_change (C := Try.checked) own started (by kernel_rfl) Try.func5
    (ChangeSpec.witness6 (enc := enc) (C := Try.checked) false ⟨#[], #[.agg #[.int .i64 0, .int .i64 0, .string ByteArray.empty], .agg #[.int .i64 0, .int .i64 0, .string ByteArray.empty]], []⟩ 8 (by kernel_rfl) (by kernel_rfl) (by kernel_rfl) (by kernel_rfl)) ?_
  intro W base args ds gs before hval0 hW hcnd _
  have hval : ∀ (j : Nat) t v, Try.f5.params[j]? = some t → args[j]? = some v → Value.okWide Try.prog W .any base t v := hval0
  have hW' := hW
  obtain ⟨p, q, hA0, hV, rfl, hfz, hnd⟩ := hW
  have hA : DataW.TrodAll enc Try.prog W 0 (fun _ => true) true Try.f5.params.toList args.toList ds p := hA0
  rw [Try.params5] at hA hval
  obtain ⟨v0, vs0, d0, ds0, p0, q0, hargs, rfl, rfl, h0, r0⟩ := trodAll_cons hA
  obtain ⟨v1, vs1, d1, ds1, p1, q1, rfl, rfl, rfl, h1, r1⟩ := trodAll_cons r0
  obtain ⟨rfl, rfl, rfl⟩ := trodAll_nil r1
  obtain rfl : args = #[v0, v1] := by cases args; simp_all
  obtain ⟨rfl, rfl⟩ := trodVars_none hV
  obtain ⟨k0, n0, s0, rfl, rfl, rfl, wk0, wn0, ws0⟩ := open_value (hval 0 23 v0 rfl rfl) h0
  obtain ⟨k1, n1, s1, rfl, rfl, rfl, wk1, wn1, ws1⟩ := open_value (hval 1 23 v1 rfl rfl) h1
  clear hA0 hval0
  refine (walk k0 n0 s0 k1 n1 s1 wk0 wn0 ws0 wk1 wn1 ws1 W).mono fun e W' ⟨he, hg⟩ => ?_
  subst he
  exact ⟨_, rfl, _, _, _, [], _, [], hW', trodAll_mk1 (shut_bool Try.underlying4 _), (trodAll_cons_mk (shut_value wk0 wn0 ws0) (trodAll_cons_mk (shut_value wk1 wn1 ws1) trodAll_mk0)), rfl, hg.frame _, fun h => by cases h⟩

theorem over : Rows.valueApartRow.holds Try.pinned (OpenSpec.ofChange Rows.valueApartSpec) :=
  OpenClaim.holds_of_wide 5 Try.f5 rfl rfl rfl rfl rfl rfl rfl ⟨rfl, rfl, rfl, rfl, rfl⟩ rfl rfl rfl rfl rfl (by kernel_rfl) Try.func5 (by kernel_rfl)
    (of_decide_eq_true (by kernel_rfl)) (by unfold Func.isWrapper; first | (rw [if_pos (by decide +kernel)]; kernel_rfl) | (rw [if_neg (by decide +kernel)]; exact ⟨rfl, rfl⟩))
    (fun os started H enc _ => lifted os started H enc)

end Go.Proofs.Ytkmbahnndbempaa.valueApart
namespace Go.Proofs.Ytkmbahnndbempaa

/-- the statement, as it was given -/
theorem valueApart_holds : Rows.ValueApartSaid :=
  valueApart.over
#print axioms valueApart_holds
end Go.Proofs.Ytkmbahnndbempaa
