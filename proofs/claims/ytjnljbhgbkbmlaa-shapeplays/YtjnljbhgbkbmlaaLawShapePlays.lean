/- Whatever is asked for, shapes are, step by step, what the document says, up to as many as there may be (of the first 60 acts): ShapePlays is true for every input; no condition. -/
import Derived.Test.YtjnljbhgbkbmlaaShTwo
import Derived.Test.YtjnljbhgbkbmlaaRows
import Derived.WalkKit
import Derived.ProofKit
import Derived.OpenShut
import Derived.ShutString
import Derived.ChangeOld
import Derived.Below
namespace Go.Proofs.Ytjnljbhgbkbmlaa.shapePlays
open Go.ChangeShapes Go.WideShapes Go.ChangeAt Go.RowKit
open Go.ChangeMaps (open_string shut_string)
set_option linter.unusedVariables false

theorem own : ownKnob Try.prog.godebug = none := by kernel_rfl

set_option linter.unusedSimpArgs false
theorem actL_wf {M : Nat} {L : List Sh} {a : AcT} (h : WfS M L) (ha : acI a) : WfS M (actL M L a) := by
  have hn : L.length ≤ 1000 := by have h1 := h.len; have h2 := h.most; omega
  unfold actL
  split
  · exact h.root (argS_I64 ha hn)
  · split
    · exact h.add ha.2.2
    · exact h.move ha.2.2
set_option maxRecDepth 100000 in
set_option maxHeartbeats 4000000 in
theorem walk_plays (ao : Option Addr) (cap : Nat) (xs : List AcT) (u x : Int) (w : World) (HR : Hid (RowsArg 4 (.slice ao xs.length cap) (xs.map acC) w)) (HX : Hid (∀ x ∈ xs, acI x)) (hu : 0 ≤ u ∧ u ≤ 255) :
    Calls Try.prog 3 #[.int .u8 u, .slice ao xs.length cap, .int .i64 x] w fun e w' => e = .returned (.bool true) ∧ Below w.heap.size w w' := by
  go_enter Try.func3, Try.ntmps3
  go_wp2_with fail
  refine (fnew_calls _ u).mono ?_
  rintro e0 w0 ⟨f, rfl, h0, b0⟩
  have H0 := hid h0
  have B0 := hid b0
  clear h0 b0
  go_wp2_with fail
  refine (rnew_calls _ u).mono ?_
  rintro e1 w1 ⟨rfl, rfl⟩
  have P1 := hid (pair_new H0.out B0.out.size)
  have B1 := hid (below_on B0.out ((Below.refl _ w0).alloc (Nat.le_refl _) (.cells #[.slice none 0 0, .int .i64 (mostS u : Int)] 53)))
  generalize mostS u = M at *
  generalize w0.alloc (.cells #[.slice none 0 0, .int .i64 (M : Int)] 53) = w1 at *
  generalize w0.heap.size = r at *
  clear H0 B0
  go_wp2_with fail
  go_loopw [9] (fun i wr => ∃ k : Nat, k ≤ xs.length ∧ k ≤ 60 ∧ i = .int .i64 k ∧ Hid (PairS w.heap.size f r M (runL M [] (xs.take k)) wr) ∧ Hid (Below w.heap.size w wr)) (fun i _ => 60 - (intOf i).toNat)
  case atStart => exact ⟨0, by omega, by omega, rfl, P1, B1⟩
  case round =>
    obtain ⟨k, hk, hk4, rfl, hP, hB⟩ := hrel
    by_cases hgo : k < xs.length ∧ k < 60
    · obtain ⟨hkl, hk60⟩ := hgo
      obtain ⟨⟨d, a, b, o⟩, ha⟩ : ∃ a, xs[k]? = some a := ⟨xs[k], List.getElem?_eq_getElem hkl⟩
      obtain ⟨bb, off, rfl, hb, c0, c1, c2, c3⟩ := act_at (rowsArg_on HR.out hB.out) ha
      have hai := HX.out _ (List.mem_of_getElem? ha)
      have HA := hid (done_calls (d := d) (a := a) (b := b) (o := o) wr hP.out hai)
      rw [← runL_take ha] at HA
      have d1 : decide ((k : Int) < 60) = true := decide_eq_true (by omega)
      clear ha hai
      by_cases hm : (k : Int).tmod 8 = 0
      · have dm : ((k : Int).tmod 8 == 0) = true := by simpa using hm
        go_wp2_with fail
        refine HA.out.mono ?_
        rintro e1 w2 ⟨rfl, p2, b2⟩
        have P2 := hid p2
        have B2 := hid (hB.out.trans b2)
        clear p2 b2
        go_wp2_with fail
        refine (like_calls _ P2.out x).mono ?_
        rintro e3 w3 ⟨rfl, b3⟩
        have P3 := hid (P2.out.on b3)
        have B3 := hid (below_on B2.out b3)
        clear b3
        go_wp2_with fail
        exact ⟨⟨k + 1, by omega, by omega, by simp, P3, B3⟩, by simp [intOf]; omega⟩
      · have dm : ((k : Int).tmod 8 == 0) = false := by simpa using hm
        go_wp2_with fail
        refine HA.out.mono ?_
        rintro e1 w2 ⟨rfl, p2, b2⟩
        have P2 := hid p2
        have B2 := hid (hB.out.trans b2)
        clear p2 b2
        go_wp2_with fail
        exact ⟨⟨k + 1, by omega, by omega, by simp, P2, B2⟩, by simp [intOf]; omega⟩
    · rcases (show k = xs.length ∨ (k < xs.length ∧ k = 60) by omega) with rfl | ⟨hkl, rfl⟩
      all_goals
        clear hgo
        go_wp2_with fail
        refine (like_calls _ hP.out x).mono ?_
        rintro e3 w3 ⟨rfl, b3⟩
        have B3 := hid (below_on hB.out b3)
        clear b3
        go_wp2_with fail
        refine (sworks_calls _).mono ?_
        rintro e6 w6 ⟨rfl, b6⟩
        have B6 := hid (below_on B3.out b6)
        clear b6 B3
        go_wp2_with fail
        go_ret
        exact ⟨rfl, B6.out⟩

theorem walk (a0 : Int) (a1 : Value) (l1 : List (List Value)) (a2 : Int) (w : World) (w0 : (Lit.int .u8 a0).wf = true) (w1 : Hid (RowsArg 4 a1 l1 w)) (n1 : Hid (∀ r ∈ l1, r.length = 4 ∧ FitsF [.i, .i, .i, .b] r)) (w2 : (Lit.int .i64 a2).wf = true) :
    Calls Try.prog 3 #[.int .u8 a0, a1, .int .i64 a2] w fun e w' => e = .returned (.bool true) ∧ Below w.heap.size w w' := by
  obtain ⟨xs, rfl, hok⟩ := acts_of n1.out
  obtain ⟨ao, cap, rfl⟩ := acts_shape w1.out
  exact walk_plays ao cap xs a0 a2 w w1 (hid hok) (bounds_u8 w0)

set_option maxRecDepth 100000 in
theorem lifted (os : Os) (started : os.Started) (H : Type) (enc : TypeId × Value → H) :
    ReturnsInHanded {} Try.checked os 3 .any (Rows.shapePlaysSpec.pre6 enc Try.prog Try.f3 Rows.shapePlaysRow.domain false) (Rows.shapePlaysSpec.post enc Try.prog Try.f3 false true false false) := by
  refine returnsInHanded_of_change (C := Try.checked) own started (by kernel_rfl) Try.func3
    (ChangeSpec.witness6 (enc := enc) (C := Try.checked) false ⟨#[], #[.int .u8 0, .slice none 0 0, .int .i64 0], []⟩ 8 (by kernel_rfl) (by kernel_rfl) (by kernel_rfl) (by kernel_rfl)) ?_
  intro W base args ds gs before hval0 hW hcnd _
  have hval : ∀ (j : Nat) t v, Try.f3.params[j]? = some t → args[j]? = some v → Value.okWide Try.prog W .any base t v := hval0
  have hW' := hW
  obtain ⟨p, q, hA0, hV, rfl, hfz, hnd⟩ := hW
  have hA : DataW.TrodAll enc Try.prog W 0 (fun _ => true) true Try.f3.params.toList args.toList ds p := hA0
  rw [Try.params3] at hA hval
  obtain ⟨v0, vs0, d0, ds0, p0, q0, hargs, rfl, rfl, h0, r0⟩ := trodAll_cons hA
  obtain ⟨v1, vs1, d1, ds1, p1, q1, rfl, rfl, rfl, h1, r1⟩ := trodAll_cons r0
  obtain ⟨v2, vs2, d2, ds2, p2, q2, rfl, rfl, rfl, h2, r2⟩ := trodAll_cons r1
  obtain ⟨rfl, rfl, rfl⟩ := trodAll_nil r2
  obtain rfl : args = #[v0, v1, v2] := by cases args; simp_all
  obtain ⟨rfl, rfl⟩ := trodVars_none hV
  obtain ⟨a0, rfl, rfl, rfl, w0⟩ := open_int Try.underlying5 (hval 0 5 v0 rfl rfl) h0
  have hk1 := h1
  have hlt1 : ∀ x ∈ p1, x.block < W.heap.size := fun x hx => by simpa using hW'.lt x (by simp [hx])
  obtain ⟨l1, w1, n1⟩ := open_flats Try.underlying22 (show flat Try.prog 5 29 = some [.i, .i, .i, .b] by kernel_rfl) (show Try.prog.cellsOf 29 = 4 by kernel_rfl) (by decide) (hval 1 22 v1 rfl rfl) h1
  obtain ⟨a2, rfl, rfl, rfl, w2⟩ := open_int Try.underlying3 (hval 2 3 v2 rfl rfl) h2
  clear hA0 hval0
  refine (walk a0 v1 l1 a2 W w0 w1 n1 w2).mono fun e W' ⟨he, hg⟩ => ?_
  subst he
  exact ⟨_, rfl, _, _, _, [], _, [], hW', trodAll_mk1 (shut_bool Try.underlying4 _), (trodAll_cons_mk (shut_int Try.underlying5 w0) (trodAll_cons_mk (Below.trod laidOutF (by kernel_rfl) (of_decide_eq_true (by kernel_rfl)) hk1 hg hlt1) (trodAll_cons_mk (shut_int Try.underlying3 w2) trodAll_mk0))), rfl, hg.frame _, fun h => by cases h⟩

theorem over : Rows.shapePlaysRow.holds Try.pinned (OpenSpec.ofChange Rows.shapePlaysSpec) :=
  OpenClaim.holds_of_wide 3 Try.f3 rfl rfl rfl rfl rfl rfl rfl ⟨rfl, rfl, rfl, rfl, rfl⟩ rfl rfl rfl rfl rfl (by kernel_rfl) Try.func3 (by kernel_rfl)
    (of_decide_eq_true (by kernel_rfl)) (by unfold Func.isWrapper; first | (rw [if_pos (by decide +kernel)]; kernel_rfl) | (rw [if_neg (by decide +kernel)]; exact ⟨rfl, rfl⟩))
    (fun os started H enc _ => lifted os started H enc)

end Go.Proofs.Ytjnljbhgbkbmlaa.shapePlays
namespace Go.Proofs.Ytjnljbhgbkbmlaa

/-- the statement, as it was given -/
theorem shapePlays_holds : Rows.ShapePlaysSaid :=
  shapePlays.over
#print axioms shapePlays_holds
end Go.Proofs.Ytjnljbhgbkbmlaa
