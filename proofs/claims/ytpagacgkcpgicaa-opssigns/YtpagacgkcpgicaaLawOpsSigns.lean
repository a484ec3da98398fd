/- Of any sign and any two values whose strings have at most 1000 bytes, which sign is which one the other way round, and which has no error of which kinds, are as the document says, and the other way round it is so (else the law asks its own test alone): OpsSigns is true for every input; no condition. -/
import Derived.Test.YtpagacgkcpgicaaOpsSign
import Derived.Test.YtpagacgkcpgicaaOpsWorks
import Derived.Test.YtpagacgkcpgicaaRows
import Derived.WalkKit
import Derived.ProofKit
import Derived.OpenShut
import Derived.ShutString
import Derived.ChangeOld
import Derived.Below
namespace Go.Proofs.Ytpagacgkcpgicaa.opsSigns
open Go.ChangeShapes Go.WideShapes Go.ChangeAt Go.RowKit
open Go.ChangeMaps (open_string shut_string)
set_option linter.unusedVariables false

theorem own : ownKnob Try.prog.godebug = none := by kernel_rfl

set_option maxRecDepth 100000 in
theorem walk_pre (op k n : Int) (s : ByteArray) (k' n' : Int) (s' : ByteArray) (hm : s.size ≤ 1000000) (hm' : s'.size ≤ 1000000) (hsh : Hid (shortsB s s' = true))
    (x1 y1 : Int) (v1 : ByteArray) (e1 : Int) (R1 : Hid (binOut op k n s k' n' s' 256 = (x1, y1, v1, e1))) (o : Int) (ho : Hid (swapB op = o)) (R2 : Hid (0 < o → binOut o k' n' s' k n s 256 = (x1, y1, v1, e1)))
    (p : Bool) (hp : Hid (pureB op k k' = p)) (he : p = false ∨ e1 = 0) (w : World) :
    Calls Try.prog 5 #[.int .i64 op, .agg #[.int .i64 k, .int .i64 n, .string s], .agg #[.int .i64 k', .int .i64 n', .string s']] w fun e w' => e = .returned (.bool true) ∧ Below w.heap.size w w' := by
  have H0 := hid (held2_on (held2p w (.int .i64 k) (.int .i64 n) (.string s) (.int .i64 k') (.int .i64 n') (.string s') 23 23)
    (box1 _ (Obj.cells #[.int .i64 k, .int .i64 n, .string s, .int .i64 k', .int .i64 n', .string s'] 23)))
  have He := hid he
  clear he
  go_enter Try.func5, Try.ntmps5
  go_wp2_with fail
  refine (short2_calls _ s s' _ (six2 _ (by simp) _ _ _ _ _ _ _) (six5 _ (by simp) _ _ _ _ _ _ _)).mono ?_
  rintro e w0 ⟨rfl, rfl⟩
  rw [hsh.out]
  go_wp2_with fail
  go_region_held3 (fun w' => (w.heap.size + 2 ≤ w'.heap.size ∧ Below w.heap.size w w' ∧
      w'.cell? ⟨w.heap.size, 0, none⟩ = some (.int .i64 k) ∧ w'.cell? ⟨w.heap.size, 1, none⟩ = some (.int .i64 n) ∧ w'.cell? ⟨w.heap.size, 2, none⟩ = some (.string s) ∧
      w'.cell? ⟨w.heap.size + 1, 0, none⟩ = some (.int .i64 k') ∧ w'.cell? ⟨w.heap.size + 1, 1, none⟩ = some (.int .i64 n') ∧ w'.cell? ⟨w.heap.size + 1, 2, none⟩ = some (.string s')))
    (first | exact held2_on (by assumption) bb | exact held2_on H0.out (Below.refl _ _).drew)
    (first
      | (go_at_call 18; refine (swap_calls op _).mono ?_; rintro e wx ⟨rfl, bb⟩)
      | (go_at_call 19; refine (refswap_calls op _).mono ?_; rintro e wx ⟨rfl, bb⟩)
      | (go_at_call 20; refine (pure_calls op k k' _).mono ?_; rintro e wx ⟨rfl, bb⟩)
      | (go_at_call 21; refine (refpure_calls op k k' _).mono ?_; rintro e wx ⟨rfl, bb⟩))
  rename_i hx
  have H1 := hid hx
  clear hx
  obtain ⟨_, _, c0, c1, c2, c3, c4, c5⟩ := H1.out
  go_wp2_with fail
  refine (swap_calls op _).mono ?_
  rintro e w2 ⟨rfl, b2⟩
  rw [ho.out]
  have H2 := hid (held2_on H1.out b2)
  clear H1 b2 c0 c1 c2 c3 c4 c5
  obtain ⟨z1, _, c0, c1, c2, c3, c4, c5⟩ := H2.out
  have l1 : w.heap.size < w2.heap.size := by omega
  have l2 : w.heap.size + 1 < w2.heap.size := by omega
  go_wp2_with fail
  refine (bin_calls op k n s k' n' s' hm hm' 256 _).mono ?_
  rintro e w3 ⟨rfl, b3⟩
  rw [R1.out]
  have H3 := hid (held2_on H2.out b3)
  clear H2 b3 z1 c0 c1 c2 c3 c4 c5 l1 l2
  obtain ⟨z1, _, c0, c1, c2, c3, c4, c5⟩ := H3.out
  have l1 : w.heap.size < w3.heap.size := by omega
  have l2 : w.heap.size + 1 < w3.heap.size := by omega
  by_cases hpos : 0 < o
  · go_wp2_with fail
    refine (bin_calls o k' n' s' k n s hm' hm 256 _).mono ?_
    rintro e w4 ⟨rfl, b4⟩
    rw [R2.out hpos]
    have H4 := hid (held2_on (held2_on H3.out (box1 _ _)) b4)
    have D3 := hid (c3_fresh b4)
    clear H3 b4 z1 c0 c1 c2 c3 c4 c5 l1 l2
    obtain ⟨z1, _, c0, c1, c2, c3, c4, c5⟩ := H4.out
    have l1 : w.heap.size < w4.heap.size := by omega
    have l2 : w.heap.size + 1 < w4.heap.size := by omega
    obtain ⟨l3, d0, d1, d2⟩ := D3.out
    go_wp2_with fail
    refine (pure_calls op k k' _).mono ?_
    rintro e w5 ⟨rfl, b5⟩
    rw [hp.out]
    have B5 := hid (below_next H4.out.2.1 b5)
    rcases He.out with rfl | rfl
    · go_wp2_with fail
      refine (works_calls _).mono ?_
      rintro e w6 ⟨rfl, b6⟩
      go_wp2
      go_ret
      exact ⟨rfl, below_on B5.out b6⟩
    · cases p
      · go_wp2_with fail
        refine (works_calls _).mono ?_
        rintro e w6 ⟨rfl, b6⟩
        go_wp2
        go_ret
        exact ⟨rfl, below_on B5.out b6⟩
      · go_wp2_with fail
        refine (works_calls _).mono ?_
        rintro e w6 ⟨rfl, b6⟩
        go_wp2
        go_ret
        exact ⟨rfl, below_on B5.out b6⟩
  · go_wp2_with fail
    refine (pure_calls op k k' _).mono ?_
    rintro e w5 ⟨rfl, b5⟩
    rw [hp.out]
    have B5 := hid (below_next H3.out.2.1 b5)
    rcases He.out with rfl | rfl
    · go_wp2_with fail
      refine (works_calls _).mono ?_
      rintro e w6 ⟨rfl, b6⟩
      go_wp2
      go_ret
      exact ⟨rfl, below_on B5.out b6⟩
    · cases p
      · go_wp2_with fail
        refine (works_calls _).mono ?_
        rintro e w6 ⟨rfl, b6⟩
        go_wp2
        go_ret
        exact ⟨rfl, below_on B5.out b6⟩
      · go_wp2_with fail
        refine (works_calls _).mono ?_
        rintro e w6 ⟨rfl, b6⟩
        go_wp2
        go_ret
        exact ⟨rfl, below_on B5.out b6⟩


theorem walk (a0 : Int) (k1 n1 : Int) (s1 : ByteArray) (k2 n2 : Int) (s2 : ByteArray) (w0 : (Lit.int .i64 a0).wf = true) (wk1 : (Lit.int .i64 k1).wf = true) (wn1 : (Lit.int .i64 n1).wf = true) (ws1 : s1.size ≤ maxLen) (wk2 : (Lit.int .i64 k2).wf = true) (wn2 : (Lit.int .i64 n2).wf = true) (ws2 : s2.size ≤ maxLen) (w : World) :
    Calls Try.prog 5 #[.int .i64 a0, .agg #[.int .i64 k1, .int .i64 n1, .string s1], .agg #[.int .i64 k2, .int .i64 n2, .string s2]] w fun e w' => e = .returned (.bool true) ∧ Below w.heap.size w w' := by
  clear wk1 wn1 wk2 wn2
  by_cases hs : s1.size ≤ 1000 ∧ s2.size ≤ 1000
  · have hp := pure_bin a0 k1 n1 s1 k2 n2 s2 256
    have hsw := swap_bin a0 k1 n1 s1 k2 n2 s2 256
    refine walk_pre a0 k1 n1 s1 k2 n2 s2 (by omega) (by omega) (hid (shorts_yes hs.1 hs.2)) _ _ _ _ (hid rfl) _ (hid rfl) (hid hsw) _ (hid rfl) ?_ w
    cases h : pureB a0 k1 k2
    · exact .inl rfl
    · exact .inr (hp h)
  · have hsh := hid (shorts_no hs)
    clear ws1 ws2 hs
    go_enter Try.func5, Try.ntmps5
    go_wp2_with fail
    refine (short2_calls _ s1 s2 _ (six2 _ (by simp) _ _ _ _ _ _ _) (six5 _ (by simp) _ _ _ _ _ _ _)).mono ?_
    rintro e wx ⟨rfl, rfl⟩
    rw [hsh.out]
    go_wp2_with fail
    refine (works_calls _).mono ?_
    rintro e w5 ⟨rfl, b5⟩
    go_wp2
    go_ret
    exact ⟨rfl, below_on (below_on (box2 _ _ _) (box1 _ _)) b5⟩

set_option maxRecDepth 100000 in
theorem lifted (os : Os) (started : os.Started) (H : Type) (enc : TypeId × Value → H) :
    ReturnsInHanded {} Try.checked os 5 .any (Rows.opsSignsSpec.pre6 enc Try.prog Try.f5 Rows.opsSignsRow.domain false) (Rows.opsSignsSpec.post enc Try.prog Try.f5 false true false false) := by
  refine returnsInHanded_of_change (C := Try.checked) own started (by kernel_rfl) Try.func5
    (ChangeSpec.witness6 (enc := enc) (C := Try.checked) false ⟨#[], #[.int .i64 0, .agg #[.int .i64 0, .int .i64 0, .string ByteArray.empty], .agg #[.int .i64 0, .int .i64 0, .string ByteArray.empty]], []⟩ 8 (by kernel_rfl) (by kernel_rfl) (by kernel_rfl) (by kernel_rfl)) ?_
  intro W base args ds gs before hval0 hW hcnd _
  have hval : ∀ (j : Nat) t v, Try.f5.params[j]? = some t → args[j]? = some v → Value.okWide Try.prog W .any base t v := hval0
  have hW' := hW
  obtain ⟨p, q, hA0, hV, rfl, hfz, hnd⟩ := hW
  have hA : DataW.TrodAll enc Try.prog W 0 (fun _ => true) true Try.f5.params.toList args.toList ds p := hA0
  rw [Try.params5] at hA hval
  obtain ⟨v0, vs0, d0, ds0, p0, q0, hargs, rfl, rfl, h0, r0⟩ := trodAll_cons hA
  obtain ⟨v1, vs1, d1, ds1, p1, q1, rfl, rfl, rfl, h1, r1⟩ := trodAll_cons r0
  obtain ⟨v2, vs2, d2, ds2, p2, q2, rfl, rfl, rfl, h2, r2⟩ := trodAll_cons r1
  obtain ⟨rfl, rfl, rfl⟩ := trodAll_nil r2
  obtain rfl : args = #[v0, v1, v2] := by cases args; simp_all
  obtain ⟨rfl, rfl⟩ := trodVars_none hV
  obtain ⟨a0, rfl, rfl, rfl, w0⟩ := open_int Try.underlying3 (hval 0 3 v0 rfl rfl) h0
  obtain ⟨k1, n1, s1, rfl, rfl, rfl, wk1, wn1, ws1⟩ := open_value (hval 1 23 v1 rfl rfl) h1
  obtain ⟨k2, n2, s2, rfl, rfl, rfl, wk2, wn2, ws2⟩ := open_value (hval 2 23 v2 rfl rfl) h2
  clear hA0 hval0
  refine (walk a0 k1 n1 s1 k2 n2 s2 w0 wk1 wn1 ws1 wk2 wn2 ws2 W).mono fun e W' ⟨he, hg⟩ => ?_
  subst he
  exact ⟨_, rfl, _, _, _, [], _, [], hW', trodAll_mk1 (shut_bool Try.underlying4 _), (trodAll_cons_mk (shut_int Try.underlying3 w0) (trodAll_cons_mk (shut_value wk1 wn1 ws1) (trodAll_cons_mk (shut_value wk2 wn2 ws2) trodAll_mk0))), rfl, hg.frame _, fun h => by cases h⟩

theorem over : Rows.opsSignsRow.holds Try.pinned (OpenSpec.ofChange Rows.opsSignsSpec) :=
  OpenClaim.holds_of_wide 5 Try.f5 rfl rfl rfl rfl rfl rfl rfl ⟨rfl, rfl, rfl, rfl, rfl⟩ rfl rfl rfl rfl rfl (by kernel_rfl) Try.func5 (by kernel_rfl)
    (of_decide_eq_true (by kernel_rfl)) (by unfold Func.isWrapper; first | (rw [if_pos (by decide +kernel)]; kernel_rfl) | (rw [if_neg (by decide +kernel)]; exact ⟨rfl, rfl⟩))
    (fun os started H enc _ => lifted os started H enc)

end Go.Proofs.Ytpagacgkcpgicaa.opsSigns
namespace Go.Proofs.Ytpagacgkcpgicaa

/-- the statement, as it was given -/
theorem opsSigns_holds : Rows.OpsSignsSaid :=
  opsSigns.over
#print axioms opsSigns_holds
end Go.Proofs.Ytpagacgkcpgicaa
