/- What any sign makes of any value whose string has at most 1000 bytes, how long its string is, and its text, are as the document says, errors among them (else the law asks its own test alone): OpsUn is true for every input; no condition. -/
import Derived.Test.YtpagacgkcpgicaaOpsUn
import Derived.Test.YtpagacgkcpgicaaOpsWorks
import Derived.Test.YtpagacgkcpgicaaRows
import Derived.WalkKit
import Derived.ProofKit
import Derived.OpenShut
import Derived.ShutString
import Derived.ChangeOld
import Derived.Below
namespace Go.Proofs.Ytpagacgkcpgicaa.opsUn
open Go.ChangeShapes Go.WideShapes Go.ChangeAt Go.RowKit
open Go.ChangeMaps (open_string shut_string)
set_option linter.unusedVariables false

theorem own : ownKnob Try.prog.godebug = none := by kernel_rfl

theorem walk_short (op k n : Int) (s : ByteArray) (most : Int) (hn1 : -9223372036854775808 ≤ n) (hn2 : n ≤ 9223372036854775807) (hs : s.size ≤ 1000) (w : World) :
    Calls Try.prog 3 #[.int .i64 op, .agg #[.int .i64 k, .int .i64 n, .string s], .int .i64 most] w fun e w' => e = .returned (.bool true) ∧ Below w.heap.size w w' := by
  have hm : s.size ≤ 1000000 := by omega
  have hsh := hid (shortB_yes hs)
  have C0 := hid (c3_new w (.int .i64 k) (.int .i64 n) (.string s) 23)
  obtain ⟨⟨x1, y1, z1, e1⟩, hr1⟩ : ∃ r, unOut op k n = r := ⟨_, rfl⟩
  obtain ⟨⟨x2, y2, z2, e2⟩, hr2⟩ : ∃ r, lenOut k s = r := ⟨_, rfl⟩
  obtain ⟨⟨x3, y3, z3, e3⟩, hr3⟩ : ∃ r, textOut k n s most = r := ⟨_, rfl⟩
  have R1 := hid hr1
  have R2 := hid hr2
  have R3 := hid hr3
  clear hr1 hr2 hr3 hs
  go_enter Try.func3, Try.ntmps3
  go_wp2_with fail
  refine (short1_calls _ s _ (by simp)).mono ?_
  rintro e w0 ⟨rfl, rfl⟩
  rw [hsh.out]
  go_wp2_with fail
  refine (un_calls op k n s _).mono ?_
  rintro e w1 ⟨rfl, b1⟩
  rw [R1.out]
  have D0 := hid (c3_next C0.out b1)
  have B1 := hid (below_on (box2 _ _ _) b1)
  clear C0 b1
  obtain ⟨l0, p0, q0, r0⟩ := D0.out
  go_wp2_with fail
  refine (len_calls k n s _).mono ?_
  rintro e w2 ⟨rfl, b2⟩
  rw [R2.out]
  have B2 := hid (below_next B1.out b2)
  have D0' := hid (c3_next D0.out b2)
  have D1' := hid (c3_fresh b2)
  clear b2 B1 D0 l0 p0 q0 r0
  have D0 := D0'
  clear D0'
  obtain ⟨l0, p0, q0, r0⟩ := D0.out
  have D1 := D1'
  clear D1'
  obtain ⟨l1, p1, q1, r1⟩ := D1.out
  go_wp2_with fail
  refine (text_calls k n hn1 hn2 s hm most _).mono ?_
  rintro e w3 ⟨rfl, b3⟩
  rw [R3.out]
  have B3 := hid (below_next B2.out b3)
  have D0' := hid (c3_next D0.out b3)
  have D1' := hid (c3_next D1.out b3)
  have D2' := hid (c3_fresh b3)
  clear b3 B2 D0 l0 p0 q0 r0 D1 l1 p1 q1 r1
  have D0 := D0'
  clear D0'
  obtain ⟨l0, p0, q0, r0⟩ := D0.out
  have D1 := D1'
  clear D1'
  obtain ⟨l1, p1, q1, r1⟩ := D1.out
  have D2 := D2'
  clear D2'
  obtain ⟨l2, p2, q2, r2⟩ := D2.out
  go_wp2_with fail
  refine (refun_calls op k n s _).mono ?_
  rintro e w4 ⟨rfl, b4⟩
  rw [R1.out]
  have B4 := hid (below_next B3.out b4)
  have D0' := hid (c3_next D0.out b4)
  have D1' := hid (c3_next D1.out b4)
  have D2' := hid (c3_next D2.out b4)
  have D3' := hid (c3_fresh b4)
  clear b4 B3 D0 l0 p0 q0 r0 D1 l1 p1 q1 r1 D2 l2 p2 q2 r2
  have D0 := D0'
  clear D0'
  obtain ⟨l0, p0, q0, r0⟩ := D0.out
  have D1 := D1'
  clear D1'
  obtain ⟨l1, p1, q1, r1⟩ := D1.out
  have D2 := D2'
  clear D2'
  obtain ⟨l2, p2, q2, r2⟩ := D2.out
  have D3 := D3'
  clear D3'
  obtain ⟨l3, p3, q3, r3⟩ := D3.out
  go_wp2_with fail
  refine (reflen_calls k n s _).mono ?_
  rintro e w5 ⟨rfl, b5⟩
  rw [R2.out]
  have B5 := hid (below_next B4.out b5)
  have D0' := hid (c3_next D0.out b5)
  have D1' := hid (c3_next D1.out b5)
  have D2' := hid (c3_next D2.out b5)
  have D3' := hid (c3_next D3.out b5)
  have D4' := hid (c3_fresh b5)
  clear b5 B4 D0 l0 p0 q0 r0 D1 l1 p1 q1 r1 D2 l2 p2 q2 r2 D3 l3 p3 q3 r3
  have D0 := D0'
  clear D0'
  obtain ⟨l0, p0, q0, r0⟩ := D0.out
  have D1 := D1'
  clear D1'
  obtain ⟨l1, p1, q1, r1⟩ := D1.out
  have D2 := D2'
  clear D2'
  obtain ⟨l2, p2, q2, r2⟩ := D2.out
  have D3 := D3'
  clear D3'
  obtain ⟨l3, p3, q3, r3⟩ := D3.out
  have D4 := D4'
  clear D4'
  obtain ⟨l4, p4, q4, r4⟩ := D4.out
  go_wp2_with fail
  refine (reftext_calls k n hn1 hn2 s hm most _).mono ?_
  rintro e w6 ⟨rfl, b6⟩
  rw [R3.out]
  have B6 := hid (below_next B5.out b6)
  have D0' := hid (c3_next D0.out b6)
  have D1' := hid (c3_next D1.out b6)
  have D2' := hid (c3_next D2.out b6)
  have D3' := hid (c3_next D3.out b6)
  have D4' := hid (c3_next D4.out b6)
  have D5' := hid (c3_fresh b6)
  clear b6 B5 D0 l0 p0 q0 r0 D1 l1 p1 q1 r1 D2 l2 p2 q2 r2 D3 l3 p3 q3 r3 D4 l4 p4 q4 r4
  have D0 := D0'
  clear D0'
  obtain ⟨l0, p0, q0, r0⟩ := D0.out
  have D1 := D1'
  clear D1'
  obtain ⟨l1, p1, q1, r1⟩ := D1.out
  have D2 := D2'
  clear D2'
  obtain ⟨l2, p2, q2, r2⟩ := D2.out
  have D3 := D3'
  clear D3'
  obtain ⟨l3, p3, q3, r3⟩ := D3.out
  have D4 := D4'
  clear D4'
  obtain ⟨l4, p4, q4, r4⟩ := D4.out
  have D5 := D5'
  clear D5'
  obtain ⟨l5, p5, q5, r5⟩ := D5.out
  go_wp2_with fail
  refine (works_calls _).mono ?_
  rintro e w7 ⟨rfl, b7⟩
  have B7 := hid (below_next B6.out b7)
  go_wp2
  go_ret
  exact ⟨rfl, B7.out⟩


theorem walk (a0 : Int) (k1 n1 : Int) (s1 : ByteArray) (a2 : Int) (w0 : (Lit.int .i64 a0).wf = true) (wk1 : (Lit.int .i64 k1).wf = true) (wn1 : (Lit.int .i64 n1).wf = true) (ws1 : s1.size ≤ maxLen) (w2 : (Lit.int .i64 a2).wf = true) (w : World) :
    Calls Try.prog 3 #[.int .i64 a0, .agg #[.int .i64 k1, .int .i64 n1, .string s1], .int .i64 a2] w fun e w' => e = .returned (.bool true) ∧ Below w.heap.size w w' := by
  have b0 := bounds_i64 wn1
  clear wk1 wn1
  by_cases hs : s1.size ≤ 1000
  · exact walk_short a0 k1 n1 s1 a2 b0.1 b0.2 hs w
  · have hsh := hid (shortB_no hs)
    clear b0 ws1 hs
    go_enter Try.func3, Try.ntmps3
    go_wp2_with fail
    refine (short1_calls _ s1 _ (by simp)).mono ?_
    rintro e wx ⟨rfl, rfl⟩
    rw [hsh.out]
    go_wp2_with fail
    refine (works_calls _).mono ?_
    rintro e w5 ⟨rfl, b5⟩
    go_wp2
    go_ret
    exact ⟨rfl, below_on (box2 _ _ _) b5⟩

set_option maxRecDepth 100000 in
theorem lifted (os : Os) (started : os.Started) (H : Type) (enc : TypeId × Value → H) :
    ReturnsInHanded {} Try.checked os 3 .any (Rows.opsUnSpec.pre6 enc Try.prog Try.f3 Rows.opsUnRow.domain false) (Rows.opsUnSpec.post enc Try.prog Try.f3 false true false false) := by
  refine returnsInHanded_of_change (C := Try.checked) own started (by kernel_rfl) Try.func3
    (ChangeSpec.witness6 (enc := enc) (C := Try.checked) false ⟨#[], #[.int .i64 0, .agg #[.int .i64 0, .int .i64 0, .string ByteArray.empty], .int .i64 0], []⟩ 8 (by kernel_rfl) (by kernel_rfl) (by kernel_rfl) (by kernel_rfl)) ?_
  intro W base args ds gs before hval0 hW hcnd _
  have hval : ∀ (j : Nat) t v, Try.f3.params[j]? = some t → args[j]? = some v → Value.okWide Try.prog W .any base t v := hval0
  have hW' := hW
  obtain ⟨p, q, hA0, hV, rfl, hfz, hnd⟩ := hW
  have hA : DataW.TrodAll enc Try.prog W 0 (fun _ => true) true Try.f3.params.toList args.toList ds p := hA0
  rw [Try.params3] at hA hval
  obtain ⟨v0, vs0, d0, ds0, p0, q0, hargs, rfl, rfl, h0, r0⟩ := trodAll_cons hA
  obtain ⟨v1, vs1, d1, ds1, p1, q1, rfl, rfl, rfl, h1, r1⟩ := trodAll_cons r0
  obtain ⟨v2, vs2, d2, ds2, p2, q2, rfl, rfl, rfl, h2, r2⟩ := trodAll_cons r1
  obtain ⟨rfl, rfl, rfl⟩ := trodAll_nil r2
  obtain rfl : args = #[v0, v1, v2] := by cases args; simp_all
  obtain ⟨rfl, rfl⟩ := trodVars_none hV
  obtain ⟨a0, rfl, rfl, rfl, w0⟩ := open_int Try.underlying3 (hval 0 3 v0 rfl rfl) h0
  obtain ⟨k1, n1, s1, rfl, rfl, rfl, wk1, wn1, ws1⟩ := open_value (hval 1 23 v1 rfl rfl) h1
  obtain ⟨a2, rfl, rfl, rfl, w2⟩ := open_int Try.underlying3 (hval 2 3 v2 rfl rfl) h2
  clear hA0 hval0
  refine (walk a0 k1 n1 s1 a2 w0 wk1 wn1 ws1 w2 W).mono fun e W' ⟨he, hg⟩ => ?_
  subst he
  exact ⟨_, rfl, _, _, _, [], _, [], hW', trodAll_mk1 (shut_bool Try.underlying4 _), (trodAll_cons_mk (shut_int Try.underlying3 w0) (trodAll_cons_mk (shut_value wk1 wn1 ws1) (trodAll_cons_mk (shut_int Try.underlying3 w2) trodAll_mk0))), rfl, hg.frame _, fun h => by cases h⟩

theorem over : Rows.opsUnRow.holds Try.pinned (OpenSpec.ofChange Rows.opsUnSpec) :=
  OpenClaim.holds_of_wide 3 Try.f3 rfl rfl rfl rfl rfl rfl rfl ⟨rfl, rfl, rfl, rfl, rfl⟩ rfl rfl rfl rfl rfl (by kernel_rfl) Try.func3 (by kernel_rfl)
    (of_decide_eq_true (by kernel_rfl)) (by unfold Func.isWrapper; first | (rw [if_pos (by decide +kernel)]; kernel_rfl) | (rw [if_neg (by decide +kernel)]; exact ⟨rfl, rfl⟩))
    (fun os started H enc _ => lifted os started H enc)

end Go.Proofs.Ytpagacgkcpgicaa.opsUn
namespace Go.Proofs.Ytpagacgkcpgicaa

/-- the statement, as it was given -/
theorem opsUn_holds : Rows.OpsUnSaid :=
  opsUn.over
#print axioms opsUn_holds
end Go.Proofs.Ytpagacgkcpgicaa
