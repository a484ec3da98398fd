/- What comes of values that may be may be, and with an error there is nothing (else the law asks its own test alone): OpsRight is true for every input; no condition. -/
import Derived.Test.YtpagacgkcpgicaaOpsGood
import Derived.Test.YtpagacgkcpgicaaOpsWorks
import Derived.Test.YtpagacgkcpgicaaRTell
import Derived.Test.YtpagacgkcpgicaaRows
import Derived.WalkKit
import Derived.ProofKit
import Derived.OpenShut
import Derived.ShutString
import Derived.ChangeOld
import Derived.Below
namespace Go.Proofs.Ytpagacgkcpgicaa.opsRight
open Go.ChangeShapes Go.WideShapes Go.ChangeAt Go.RowKit
open Go.ChangeMaps (open_string shut_string)
set_option linter.unusedVariables false

theorem own : ownKnob Try.prog.godebug = none := by kernel_rfl

theorem zero_or {e x y : Int} {v : ByteArray} (h : e = 0 ∨ (x = 0 ∧ y = 0 ∧ v = ⟨#[]⟩)) : e = 0 ∨ ((e == 0) = false ∧ x = 0 ∧ y = 0 ∧ v = ⟨#[]⟩) := by
  by_cases he : e = 0
  · exact .inl he
  · exact .inr ⟨beq_eq_false_iff_ne.2 he, h.resolve_left he⟩

set_option maxRecDepth 100000 in
theorem walk_pre (op k n : Int) (s : ByteArray) (k' n' : Int) (s' : ByteArray) (hn1 : -9223372036854775808 ≤ n) (hn2 : n ≤ 9223372036854775807) (hn1' : -9223372036854775808 ≤ n') (hn2' : n' ≤ 9223372036854775807)
    (hm : s.size ≤ 1000000) (hm' : s'.size ≤ 1000000) (ha : Hid (rightB k n s.data.toList = true)) (hb : Hid (rightB k' n' s'.data.toList = true))
    (x1 y1 : Int) (v1 : ByteArray) (e1 : Int) (R1 : Hid (binOut op k n s k' n' s' 256 = (x1, y1, v1, e1))) (G1 : Hid (rightB x1 y1 v1.data.toList = true)) (Z1 : Hid (e1 = 0 ∨ (x1 = 0 ∧ y1 = 0 ∧ v1 = ⟨#[]⟩)))
    (x2 y2 : Int) (v2 : ByteArray) (e2 : Int) (R2 : Hid (unOut op k n = (x2, y2, v2, e2))) (G2 : Hid (rightB x2 y2 v2.data.toList = true)) (Z2 : Hid (e2 = 0 ∨ (x2 = 0 ∧ y2 = 0 ∧ v2 = ⟨#[]⟩)))
    (x3 y3 : Int) (v3 : ByteArray) (R3 : Hid (textOut k n s 256 = (x3, y3, v3, 0))) (G3 : Hid (rightB x3 y3 v3.data.toList = true)) (w : World) :
    Calls Try.prog 6 #[.int .i64 op, .agg #[.int .i64 k, .int .i64 n, .string s], .agg #[.int .i64 k', .int .i64 n', .string s']] w fun e w' => e = .returned (.bool true) ∧ Below w.heap.size w w' := by
  have H0 := hid (held2p w (.int .i64 k) (.int .i64 n) (.string s) (.int .i64 k') (.int .i64 n') (.string s') 23 23)
  go_enter Try.func6, Try.ntmps6
  go_wp2_with fail
  refine (refright_calls k n hn1 hn2 s _).mono ?_
  rintro e w1 ⟨rfl, b1⟩
  rw [ha.out]
  have H1 := hid (held2_on H0.out b1)
  clear H0 b1
  obtain ⟨z1, _, c0, c1, c2, c3, c4, c5⟩ := H1.out
  have l1 : w.heap.size < w1.heap.size := by omega
  have l2 : w.heap.size + 1 < w1.heap.size := by omega
  go_wp2_with fail
  refine (refright_calls k' n' hn1' hn2' s' _).mono ?_
  rintro e w2 ⟨rfl, b2⟩
  rw [hb.out]
  have H2 := hid (held2_on H1.out b2)
  clear H1 b2 hb z1 c0 c1 c2 c3 c4 c5 l1 l2
  obtain ⟨z1, _, c0, c1, c2, c3, c4, c5⟩ := H2.out
  have l1 : w.heap.size < w2.heap.size := by omega
  have l2 : w.heap.size + 1 < w2.heap.size := by omega
  go_wp2_with fail
  refine (bin_calls op k n s k' n' s' hm hm' 256 _).mono ?_
  rintro e w3 ⟨rfl, b3⟩
  rw [R1.out]
  have H3 := hid (held2_on H2.out b3)
  clear H2 b3 R1 z1 c0 c1 c2 c3 c4 c5 l1 l2
  obtain ⟨z1, _, c0, c1, c2, c3, c4, c5⟩ := H3.out
  have l1 : w.heap.size < w3.heap.size := by omega
  have l2 : w.heap.size + 1 < w3.heap.size := by omega
  go_wp2_with fail
  refine (un_calls op k n s _).mono ?_
  rintro e w4 ⟨rfl, b4⟩
  rw [R2.out]
  have H4 := hid (held2_on (held2_on H3.out (box1 _ _)) b4)
  have D1 := hid (c3_fresh b4)
  clear H3 b4 R2 z1 c0 c1 c2 c3 c4 c5 l1 l2
  obtain ⟨z1, _, c0, c1, c2, c3, c4, c5⟩ := H4.out
  have l1 : w.heap.size < w4.heap.size := by omega
  have l2 : w.heap.size + 1 < w4.heap.size := by omega
  go_wp2_with fail
  refine (text_calls k n hn1 hn2 s hm 256 _).mono ?_
  rintro e w5 ⟨rfl, b5⟩
  rw [R3.out]
  have B5 := hid (below_next H4.out.2.1 b5)
  have D2 := hid (c3_fresh b5)
  have D1' := hid (c3_next D1.out b5)
  clear H4 D1 b5 R3 z1 c0 c1 c2 c3 c4 c5 l1 l2 hn1 hn2 hn1' hn2' hm hm'
  have D1 := D1'
  clear D1'
  obtain ⟨l1, c0, c1, c2⟩ := D1.out
  obtain ⟨l2, d0, d1, d2⟩ := D2.out
  go_wp2_with fail
  refine (right_calls x1 y1 v1 _).mono ?_
  rintro e w6 ⟨rfl, b6⟩
  rw [G1.out]
  have B6 := hid (below_next B5.out b6)
  have D3 := hid (c3_fresh b6)
  have D2' := hid (c3_next D2.out b6)
  have D1' := hid (c3_next D1.out b6)
  clear D1 D2 B5 b6 l1 c0 c1 c2 l2 d0 d1 d2 G1
  obtain ⟨l1, c0, c1, c2⟩ := D1'.out
  obtain ⟨l2, d0, d1, d2⟩ := D2'.out
  obtain ⟨l3, f0, f1, f2⟩ := D3.out
  go_wp2_with fail
  refine (right_calls x2 y2 v2 _).mono ?_
  rintro e w7 ⟨rfl, b7⟩
  rw [G2.out]
  have B7 := hid (below_on B6.out b7)
  have D1 := hid (c3_on D1'.out b7)
  have D2 := hid (c3_on D2'.out b7)
  have D3' := hid (c3_on D3.out b7)
  clear D1' D2' D3 B6 b7 l1 c0 c1 c2 l2 d0 d1 d2 l3 f0 f1 f2 G2
  obtain ⟨l1, c0, c1, c2⟩ := D1.out
  obtain ⟨l2, d0, d1, d2⟩ := D2.out
  obtain ⟨l3, f0, f1, f2⟩ := D3'.out
  go_wp2_with fail
  refine (right_calls x3 y3 v3 _).mono ?_
  rintro e w8 ⟨rfl, b8⟩
  rw [G3.out]
  have B8 := hid (below_on B7.out b8)
  have D1' := hid (c3_on D1.out b8)
  have D2' := hid (c3_on D2.out b8)
  clear D1 D2 D3' B7 b8 l1 c0 c1 c2 l2 d0 d1 d2 l3 f0 f1 f2 G3
  obtain ⟨l1, c0, c1, c2⟩ := D1'.out
  obtain ⟨l2, d0, d1, d2⟩ := D2'.out
  clear D1' D2'
  rcases zero_or Z1.out with rfl | ⟨g1, rfl, rfl, rfl⟩ <;> clear Z1 <;> rcases zero_or Z2.out with rfl | ⟨g2, rfl, rfl, rfl⟩ <;> clear Z2
  all_goals (go_wp2_with fail; refine (works_calls _).mono ?_; rintro e w9 ⟨rfl, b9⟩; have B9 := hid (below_on B8.out b9); go_wp2; go_ret; exact ⟨rfl, B9.out⟩)


theorem walk (a0 : Int) (k1 n1 : Int) (s1 : ByteArray) (k2 n2 : Int) (s2 : ByteArray) (w0 : (Lit.int .i64 a0).wf = true) (wk1 : (Lit.int .i64 k1).wf = true) (wn1 : (Lit.int .i64 n1).wf = true) (ws1 : s1.size ≤ maxLen) (wk2 : (Lit.int .i64 k2).wf = true) (wn2 : (Lit.int .i64 n2).wf = true) (ws2 : s2.size ≤ maxLen) (w : World) :
    Calls Try.prog 6 #[.int .i64 a0, .agg #[.int .i64 k1, .int .i64 n1, .string s1], .agg #[.int .i64 k2, .int .i64 n2, .string s2]] w fun e w' => e = .returned (.bool true) ∧ Below w.heap.size w w' := by
  have b0 := bounds_i64 wn1
  have b1 := bounds_i64 wn2
  clear wk1 wn1 wk2 wn2
  cases ha : rightB k1 n1 s1.data.toList
  · clear ws1 ws2
    go_enter Try.func6, Try.ntmps6
    go_wp2_with fail
    refine (refright_calls k1 n1 b0.1 b0.2 s1 _).mono ?_
    rintro e w1 ⟨rfl, q1⟩
    rw [ha]
    go_wp2_with fail
    refine (works_calls _).mono ?_
    rintro e w5 ⟨rfl, b5⟩
    go_wp2
    go_ret
    exact ⟨rfl, below_on (below_on (box2 _ _ _) q1) b5⟩
  · cases hb : rightB k2 n2 s2.data.toList
    · clear ws1 ws2
      have hs := hid (held2p w (.int .i64 k1) (.int .i64 n1) (.string s1) (.int .i64 k2) (.int .i64 n2) (.string s2) 23 23)
      go_enter Try.func6, Try.ntmps6
      go_wp2_with fail
      refine (refright_calls k1 n1 b0.1 b0.2 s1 _).mono ?_
      rintro e w1 ⟨rfl, q1⟩
      have H1 := hid (held2_on hs.out q1)
      obtain ⟨z1, B1, c0, c1, c2, c3, c4, c5⟩ := H1.out
      clear hs q1 B1 z1
      rw [ha]
      go_wp2_with fail
      refine (refright_calls k2 n2 b1.1 b1.2 s2 _).mono ?_
      rintro e w2 ⟨rfl, q2⟩
      rw [hb]
      go_wp2_with fail
      refine (works_calls _).mono ?_
      rintro e w5 ⟨rfl, b5⟩
      go_wp2
      go_ret
      exact ⟨rfl, below_on H1.out.2.1 (below_on q2 b5)⟩
    · have g1 := good_bin a0 k1 n1 s1 k2 n2 s2 ha
      have g2 := good_un a0 k1 n1
      have g3 := good_text ha
      have z1 := right_size ha
      have z2 := right_size hb
      refine walk_pre a0 k1 n1 s1 k2 n2 s2 b0.1 b0.2 b1.1 b1.2 (by omega) (by omega) (hid ha) (hid hb) _ _ _ _ (hid rfl) (hid g1.1) (hid g1.2) _ _ _ _ (hid rfl) (hid g2.1) (hid g2.2) _ _ _ (hid ?_) (hid g3.1.1) w
      rw [← g3.2]

set_option maxRecDepth 100000 in
theorem lifted (os : Os) (started : os.Started) (H : Type) (enc : TypeId × Value → H) :
    ReturnsInHanded {} Try.checked os 6 .any (Rows.opsRightSpec.pre6 enc Try.prog Try.f6 Rows.opsRightRow.domain false) (Rows.opsRightSpec.post enc Try.prog Try.f6 false true false false) := by
  refine returnsInHanded_of_change (C := Try.checked) own started (by kernel_rfl) Try.func6
    (ChangeSpec.witness6 (enc := enc) (C := Try.checked) false ⟨#[], #[.int .i64 0, .agg #[.int .i64 0, .int .i64 0, .string ByteArray.empty], .agg #[.int .i64 0, .int .i64 0, .string ByteArray.empty]], []⟩ 8 (by kernel_rfl) (by kernel_rfl) (by kernel_rfl) (by kernel_rfl)) ?_
  intro W base args ds gs before hval0 hW hcnd _
  have hval : ∀ (j : Nat) t v, Try.f6.params[j]? = some t → args[j]? = some v → Value.okWide Try.prog W .any base t v := hval0
  have hW' := hW
  obtain ⟨p, q, hA0, hV, rfl, hfz, hnd⟩ := hW
  have hA : DataW.TrodAll enc Try.prog W 0 (fun _ => true) true Try.f6.params.toList args.toList ds p := hA0
  rw [Try.params6] at hA hval
  obtain ⟨v0, vs0, d0, ds0, p0, q0, hargs, rfl, rfl, h0, r0⟩ := trodAll_cons hA
  obtain ⟨v1, vs1, d1, ds1, p1, q1, rfl, rfl, rfl, h1, r1⟩ := trodAll_cons r0
  obtain ⟨v2, vs2, d2, ds2, p2, q2, rfl, rfl, rfl, h2, r2⟩ := trodAll_cons r1
  obtain ⟨rfl, rfl, rfl⟩ := trodAll_nil r2
  obtain rfl : args = #[v0, v1, v2] := by cases args; simp_all
  obtain ⟨rfl, rfl⟩ := trodVars_none hV
  obtain ⟨a0, rfl, rfl, rfl, w0⟩ := open_int Try.underlying3 (hval 0 3 v0 rfl rfl) h0
  obtain ⟨k1, n1, s1, rfl, rfl, rfl, wk1, wn1, ws1⟩ := open_value (hval 1 23 v1 rfl rfl) h1
  obtain ⟨k2, n2, s2, rfl, rfl, rfl, wk2, wn2, ws2⟩ := open_value (hval 2 23 v2 rfl rfl) h2
  clear hA0 hval0
  refine (walk a0 k1 n1 s1 k2 n2 s2 w0 wk1 wn1 ws1 wk2 wn2 ws2 W).mono fun e W' ⟨he, hg⟩ => ?_
  subst he
  exact ⟨_, rfl, _, _, _, [], _, [], hW', trodAll_mk1 (shut_bool Try.underlying4 _), (trodAll_cons_mk (shut_int Try.underlying3 w0) (trodAll_cons_mk (shut_value wk1 wn1 ws1) (trodAll_cons_mk (shut_value wk2 wn2 ws2) trodAll_mk0))), rfl, hg.frame _, fun h => by cases h⟩

theorem over : Rows.opsRightRow.holds Try.pinned (OpenSpec.ofChange Rows.opsRightSpec) :=
  OpenClaim.holds_of_wide 6 Try.f6 rfl rfl rfl rfl rfl rfl rfl ⟨rfl, rfl, rfl, rfl, rfl⟩ rfl rfl rfl rfl rfl (by kernel_rfl) Try.func6 (by kernel_rfl)
    (of_decide_eq_true (by kernel_rfl)) (by unfold Func.isWrapper; first | (rw [if_pos (by decide +kernel)]; kernel_rfl) | (rw [if_neg (by decide +kernel)]; exact ⟨rfl, rfl⟩))
    (fun os started H enc _ => lifted os started H enc)

end Go.Proofs.Ytpagacgkcpgicaa.opsRight
namespace Go.Proofs.Ytpagacgkcpgicaa

/-- the statement, as it was given -/
theorem opsRight_holds : Rows.OpsRightSaid :=
  opsRight.over
#print axioms opsRight_holds
end Go.Proofs.Ytpagacgkcpgicaa
