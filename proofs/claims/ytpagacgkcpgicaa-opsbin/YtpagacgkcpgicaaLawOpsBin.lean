/- What any sign makes of any two values whose strings have at most 1000 bytes is as the document says, errors among them (else the law asks its own test alone): OpsBin is true for every input; no condition. -/
import Derived.Test.YtpagacgkcpgicaaRefBin
import Derived.Test.YtpagacgkcpgicaaOpsWorks
import Derived.Test.YtpagacgkcpgicaaRows
import Derived.WalkKit
import Derived.ProofKit
import Derived.OpenShut
import Derived.ShutString
import Derived.ChangeOld
import Derived.Below
namespace Go.Proofs.Ytpagacgkcpgicaa.opsBin
open Go.ChangeShapes Go.WideShapes Go.ChangeAt Go.RowKit
open Go.ChangeMaps (open_string shut_string)
set_option linter.unusedVariables false

theorem own : ownKnob Try.prog.godebug = none := by kernel_rfl

theorem walk_short (op k n : Int) (s : ByteArray) (k' n' : Int) (s' : ByteArray) (hn1 : -9223372036854775808 ≤ n) (hn2 : n ≤ 9223372036854775807) (hs : s.size ≤ 1000) (hs' : s'.size ≤ 1000) (w : World) :
    Calls Try.prog 4 #[.int .i64 op, .agg #[.int .i64 k, .int .i64 n, .string s], .agg #[.int .i64 k', .int .i64 n', .string s']] w fun e w' => e = .returned (.bool true) ∧ Below w.heap.size w w' := by
  have hm : s.size ≤ 1000000 := by omega
  have hm' : s'.size ≤ 1000000 := by omega
  have hsh := hid (shorts_yes hs hs')
  have H0 := hid (held2_on (held2p w (.int .i64 k) (.int .i64 n) (.string s) (.int .i64 k') (.int .i64 n') (.string s') 23 23)
    (box1 _ (Obj.cells #[.int .i64 k, .int .i64 n, .string s, .int .i64 k', .int .i64 n', .string s'] 23)))
  clear hs hs'
  go_enter Try.func4, Try.ntmps4
  go_wp2_with fail
  refine (short2_calls _ s s' _ (six2 _ (by simp) _ _ _ _ _ _ _) (six5 _ (by simp) _ _ _ _ _ _ _)).mono ?_
  rintro e w0 ⟨rfl, rfl⟩
  rw [hsh.out]
  go_wp2_with fail
  go_loopw [7] (fun i wr => ∃ m : Int, i = .int .i64 m ∧ 0 ≤ m ∧ m ≤ 700 ∧ 
      (w.heap.size + 2 ≤ wr.heap.size ∧ Below w.heap.size w wr ∧
      wr.cell? ⟨w.heap.size, 0, none⟩ = some (.int .i64 k) ∧ wr.cell? ⟨w.heap.size, 1, none⟩ = some (.int .i64 n) ∧ wr.cell? ⟨w.heap.size, 2, none⟩ = some (.string s) ∧
      wr.cell? ⟨w.heap.size + 1, 0, none⟩ = some (.int .i64 k') ∧ wr.cell? ⟨w.heap.size + 1, 1, none⟩ = some (.int .i64 n') ∧ wr.cell? ⟨w.heap.size + 1, 2, none⟩ = some (.string s'))) (fun i _ => 700 - (intOf i).toNat)
  case atStart => exact ⟨0, rfl, by omega, by omega, H0.out⟩
  case round =>
    clear H0
    obtain ⟨m, rfl, m0, m7, hH⟩ := hrel
    have H := hid hH
    obtain ⟨z1, _, c0, c1, c2, c3, c4, c5⟩ := hH
    have l1 : w.heap.size < wr.heap.size := by omega
    have l2 : w.heap.size + 1 < wr.heap.size := by omega
    by_cases hlt : m < 600
    · obtain ⟨⟨x1, y1, v1, e1⟩, hr1⟩ : ∃ r, binOut op k n s k' n' s' m = r := ⟨_, rfl⟩
      have R1 := hid hr1
      clear hr1
      go_wp2_with fail
      refine (bin_calls op k n s k' n' s' hm hm' m _).mono ?_
      rintro e w1 ⟨rfl, b1⟩
      rw [R1.out]
      have H1 := hid (held2_on H.out b1)
      clear H b1 c0 c1 c2 c3 c4 c5 l1 l2 z1
      obtain ⟨z1, _, c0, c1, c2, c3, c4, c5⟩ := H1.out
      have l1 : w.heap.size < w1.heap.size := by omega
      have l2 : w.heap.size + 1 < w1.heap.size := by omega
      go_wp2_with fail
      refine (refbin_calls op k n s k' n' s' hn1 hn2 hm hm' m _).mono ?_
      rintro e w2 ⟨rfl, b2⟩
      rw [R1.out]
      have H2 := hid (held2_on (held2_on H1.out (box1 _ _)) b2)
      have D1 := hid (c3_fresh b2)
      clear H1 b2 c0 c1 c2 c3 c4 c5 l1 l2 z1
      obtain ⟨l1, c0, c1, c2⟩ := D1.out
      go_wp2
      go_roundw
      case rel => exact ⟨m + 97, by go_num, by omega, by omega, held2_on H2.out (box1 _ _)⟩
      case measure => simp [intOf]; omega
    · go_wp2_with fail
      refine (works_calls _).mono ?_
      rintro e w5 ⟨rfl, b5⟩
      go_wp2
      go_ret
      exact ⟨rfl, below_on H.out.2.1 b5⟩


theorem walk (a0 : Int) (k1 n1 : Int) (s1 : ByteArray) (k2 n2 : Int) (s2 : ByteArray) (w0 : (Lit.int .i64 a0).wf = true) (wk1 : (Lit.int .i64 k1).wf = true) (wn1 : (Lit.int .i64 n1).wf = true) (ws1 : s1.size ≤ maxLen) (wk2 : (Lit.int .i64 k2).wf = true) (wn2 : (Lit.int .i64 n2).wf = true) (ws2 : s2.size ≤ maxLen) (w : World) :
    Calls Try.prog 4 #[.int .i64 a0, .agg #[.int .i64 k1, .int .i64 n1, .string s1], .agg #[.int .i64 k2, .int .i64 n2, .string s2]] w fun e w' => e = .returned (.bool true) ∧ Below w.heap.size w w' := by
  have b0 := bounds_i64 wn1
  clear wk1 wn1 wk2 wn2
  by_cases hs : s1.size ≤ 1000 ∧ s2.size ≤ 1000
  · exact walk_short a0 k1 n1 s1 k2 n2 s2 b0.1 b0.2 hs.1 hs.2 w
  · have hsh := hid (shorts_no hs)
    clear b0 ws1 ws2 hs
    go_enter Try.func4, Try.ntmps4
    go_wp2_with fail
    refine (short2_calls _ s1 s2 _ (six2 _ (by simp) _ _ _ _ _ _ _) (six5 _ (by simp) _ _ _ _ _ _ _)).mono ?_
    rintro e wx ⟨rfl, rfl⟩
    rw [hsh.out]
    go_wp2_with fail
    refine (works_calls _).mono ?_
    rintro e w5 ⟨rfl, b5⟩
    go_wp2
    go_ret
    exact ⟨rfl, below_on (below_on (box2 _ _ _) (box1 _ _)) b5⟩

set_option maxRecDepth 100000 in
theorem lifted (os : Os) (started : os.Started) (H : Type) (enc : TypeId × Value → H) :
    ReturnsInHanded {} Try.checked os 4 .any (Rows.opsBinSpec.pre6 enc Try.prog Try.f4 Rows.opsBinRow.domain false) (Rows.opsBinSpec.post enc Try.prog Try.f4 false true false false) := by
  refine returnsInHanded_of_change (C := Try.checked) own started (by kernel_rfl) Try.func4
    (ChangeSpec.witness6 (enc := enc) (C := Try.checked) false ⟨#[], #[.int .i64 0, .agg #[.int .i64 0, .int .i64 0, .string ByteArray.empty], .agg #[.int .i64 0, .int .i64 0, .string ByteArray.empty]], []⟩ 8 (by kernel_rfl) (by kernel_rfl) (by kernel_rfl) (by kernel_rfl)) ?_
  intro W base args ds gs before hval0 hW hcnd _
  have hval : ∀ (j : Nat) t v, Try.f4.params[j]? = some t → args[j]? = some v → Value.okWide Try.prog W .any base t v := hval0
  have hW' := hW
  obtain ⟨p, q, hA0, hV, rfl, hfz, hnd⟩ := hW
  have hA : DataW.TrodAll enc Try.prog W 0 (fun _ => true) true Try.f4.params.toList args.toList ds p := hA0
  rw [Try.params4] at hA hval
  obtain ⟨v0, vs0, d0, ds0, p0, q0, hargs, rfl, rfl, h0, r0⟩ := trodAll_cons hA
  obtain ⟨v1, vs1, d1, ds1, p1, q1, rfl, rfl, rfl, h1, r1⟩ := trodAll_cons r0
  obtain ⟨v2, vs2, d2, ds2, p2, q2, rfl, rfl, rfl, h2, r2⟩ := trodAll_cons r1
  obtain ⟨rfl, rfl, rfl⟩ := trodAll_nil r2
  obtain rfl : args = #[v0, v1, v2] := by cases args; simp_all
  obtain ⟨rfl, rfl⟩ := trodVars_none hV
  obtain ⟨a0, rfl, rfl, rfl, w0⟩ := open_int Try.underlying3 (hval 0 3 v0 rfl rfl) h0
  obtain ⟨k1, n1, s1, rfl, rfl, rfl, wk1, wn1, ws1⟩ := open_value (hval 1 23 v1 rfl rfl) h1
  obtain ⟨k2, n2, s2, rfl, rfl, rfl, wk2, wn2, ws2⟩ := open_value (hval 2 23 v2 rfl rfl) h2
  clear hA0 hval0
  refine (walk a0 k1 n1 s1 k2 n2 s2 w0 wk1 wn1 ws1 wk2 wn2 ws2 W).mono fun e W' ⟨he, hg⟩ => ?_
  subst he
  exact ⟨_, rfl, _, _, _, [], _, [], hW', trodAll_mk1 (shut_bool Try.underlying4 _), (trodAll_cons_mk (shut_int Try.underlying3 w0) (trodAll_cons_mk (shut_value wk1 wn1 ws1) (trodAll_cons_mk (shut_value wk2 wn2 ws2) trodAll_mk0))), rfl, hg.frame _, fun h => by cases h⟩

theorem over : Rows.opsBinRow.holds Try.pinned (OpenSpec.ofChange Rows.opsBinSpec) :=
  OpenClaim.holds_of_wide 4 Try.f4 rfl rfl rfl rfl rfl rfl rfl ⟨rfl, rfl, rfl, rfl, rfl⟩ rfl rfl rfl rfl rfl (by kernel_rfl) Try.func4 (by kernel_rfl)
    (of_decide_eq_true (by kernel_rfl)) (by unfold Func.isWrapper; first | (rw [if_pos (by decide +kernel)]; kernel_rfl) | (rw [if_neg (by decide +kernel)]; exact ⟨rfl, rfl⟩))
    (fun os started H enc _ => lifted os started H enc)

end Go.Proofs.Ytpagacgkcpgicaa.opsBin
namespace Go.Proofs.Ytpagacgkcpgicaa

/-- the statement, as it was given -/
theorem opsBin_holds : Rows.OpsBinSaid :=
  opsBin.over
#print axioms opsBin_holds
end Go.Proofs.Ytpagacgkcpgicaa
