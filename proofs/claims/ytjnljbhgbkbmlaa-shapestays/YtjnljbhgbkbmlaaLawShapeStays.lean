/- Whatever is asked for, a shape that is there stays as it is (behind the first 40 acts, of the next 40): ShapeStays is true for every input; no condition. -/
import Derived.Test.YtjnljbhgbkbmlaaShLaw
import Derived.Test.YtjnljbhgbkbmlaaRows
import Derived.WalkKit
import Derived.ProofKit
import Derived.OpenShut
import Derived.ShutString
import Derived.ChangeOld
import Derived.Below
namespace Go.Proofs.Ytjnljbhgbkbmlaa.shapeStays
open Go.ChangeShapes Go.WideShapes Go.ChangeAt Go.RowKit
open Go.ChangeMaps (open_string shut_string)
set_option linter.unusedVariables false

theorem own : ownKnob Try.prog.godebug = none := by kernel_rfl

set_option linter.unusedSimpArgs false
set_option maxRecDepth 100000 in
set_option maxHeartbeats 4000000 in
theorem walk_stay (ao bo : Option Addr) (cap cbp : Nat) (xs ys : List AcT) (u : Int) (w : World) (HR : Hid (RowsArg 4 (.slice ao xs.length cap) (xs.map acC) w)) (HX : Hid (∀ x ∈ xs, acI x)) (HS : Hid (RowsArg 4 (.slice bo ys.length cbp) (ys.map acC) w)) (HY : Hid (∀ x ∈ ys, acI x)) (hu : 0 ≤ u ∧ u ≤ 255) :
    Calls Try.prog 5 #[.slice ao xs.length cap, .slice bo ys.length cbp, .int .u8 u] w fun e w' => e = .returned (.bool true) ∧ Below w.heap.size w w' := by
  go_enter Try.func5, Try.ntmps5
  go_wp2_with fail
  refine (fnew_calls _ 150).mono ?_
  rintro e0 w0 ⟨f, rfl, h0, b0⟩
  rw [show mostS 150 = 150 from by decide] at h0
  have H0 := hid h0
  have B0 := hid b0
  clear h0 b0
  go_wp2_with fail
  go_loopw [8] (fun i wr => ∃ k : Nat, k ≤ xs.length ∧ k ≤ 40 ∧ i = .int .i64 k ∧ Hid (FoB w.heap.size f 150 (runL 150 [] (xs.take k)) wr) ∧ Hid (Below w.heap.size w wr)) (fun i _ => 40 - (intOf i).toNat)
  case atStart => exact ⟨0, by omega, by omega, rfl, H0, B0⟩
  case round =>
    obtain ⟨k, hk, hk4, rfl, hF, hB⟩ := hrel
    by_cases hgo : k < xs.length ∧ k < 40
    · obtain ⟨hkl, hk40⟩ := hgo
      obtain ⟨⟨d, a, b, o⟩, ha⟩ : ∃ a, xs[k]? = some a := ⟨xs[k], List.getElem?_eq_getElem hkl⟩
      obtain ⟨bb, off, rfl, hb, c0, c1, c2, c3⟩ := act_at (rowsArg_on HR.out hB.out) ha
      have hai := HX.out _ (List.mem_of_getElem? ha)
      have HA := hid (act_calls (d := d) (a := a) (b := b) (o := o) wr hF.out hai)
      rw [← runL_take ha] at HA
      have d1 : decide ((k : Int) < 40) = true := decide_eq_true (by omega)
      clear ha hai
      go_wp2_with fail
      refine HA.out.mono ?_
      rintro e1 w1 ⟨⟨u1, rfl⟩, h1⟩
      have R := hid (fob_of hB.out.size h1)
      have B1 := hid (hB.out.trans R.out.2)
      clear h1
      go_wp2_with fail
      exact ⟨⟨k + 1, by omega, by omega, by simp, hid R.out.1, B1⟩, by simp [intOf]; omega⟩
    · have HL := hid (flen_calls wr hF.out)
      generalize hL1 : runL 150 [] (xs.take k) = L1 at *
      have hn1 : L1.length ≤ 150 := hF.out.wf.len
      by_cases hz : L1.length = 0
      · rw [hz] at HL
        clear hL1
        rcases (show k = xs.length ∨ (k < xs.length ∧ k = 40) by omega) with rfl | ⟨hkl, rfl⟩
        all_goals
          clear hgo
          go_wp2_with fail
          refine HL.out.mono ?_
          rintro e1 w1 ⟨rfl, rfl⟩
          go_wp2_with fail
          refine (sworks_calls _).mono ?_
          rintro e2 w2 ⟨rfl, b2⟩
          have B2 := hid (below_on hB.out b2)
          clear b2
          go_wp2_with fail
          go_ret
          exact ⟨rfl, B2.out⟩
      · have dz : ((L1.length : Int) == 0) = false := by simp only [beq_eq_false_iff_ne]; omega
        have m2 := Int.emod_nonneg u (b := (L1.length : Int)) (by omega)
        have m3 := Int.emod_lt_of_pos u (b := (L1.length : Int)) (by omega)
        obtain ⟨i, hi⟩ : ∃ i : Nat, u % (L1.length : Int) = (i : Int) := ⟨(u % (L1.length : Int)).toNat, by omega⟩
        obtain ⟨s, hs⟩ := ex_get (L := L1) (i := i) (by omega)
        have HG1 := hid (show getS L1 (1 + u % (L1.length : Int)) = some s by rw [hi, show (1 + (i : Int)) = ((i + 1 : Nat) : Int) by omega, getS_succ]; exact hs)
        have HSi := hid hs
        have HIi := hid (show (1 + u % (L1.length : Int)) = ((i + 1 : Nat) : Int) by omega)
        clear hL1 hi hs
        rcases (show k = xs.length ∨ (k < xs.length ∧ k = 40) by omega) with rfl | ⟨hkl, rfl⟩
        all_goals
          clear hgo
          go_wp2_with fail
          refine HL.out.mono ?_
          rintro e1 w1 ⟨rfl, rfl⟩
          go_wp2_with fail
          refine HL.out.mono ?_
          rintro e1 w2 ⟨rfl, rfl⟩
          go_wp2_with fail
          generalize 1 + u % (L1.length : Int) = id at *
          refine (fproto_calls _ hF.out id).mono ?_
          rintro e1 w3 ⟨rfl, rfl⟩
          go_wp2_with fail
          refine (fnames_calls _ hF.out id).mono ?_
          rintro e1 w4 ⟨v4, rfl, r4, b4⟩
          rw [show namesF L1 id = s.2 from by unfold namesF; rw [HG1.out]] at r4
          have F4 := hid (fob_hole hF.out b4)
          have B4 := hid (below_on hB.out b4)
          have R4 := hid r4
          have N4 := hid (fun g hg => (row_new (g := g) r4 hg).2)
          obtain ⟨ro, rc, rfl⟩ := row_shape (row_base r4 (Nat.zero_le _))
          have Z4 := hid b4.size
          clear r4 b4
          go_wp2_with fail
          refine (fparent_calls _ F4.out id).mono ?_
          rintro e1 w5 ⟨rfl, rfl⟩
          go_wp2_with fail
          go_loopw [14] (fun q wr => ∃ k : Nat, k ≤ ys.length ∧ k ≤ 40 ∧ q = .int .i64 k ∧ Hid (FoS (Hole w.heap.size w3.heap.size w5.heap.size) f 150 (runL 150 L1 (ys.take k)) wr) ∧ Hid (Below w.heap.size w wr) ∧ Hid (wr.ownsRow w3.heap.size 3 1 (.slice ro s.2.length rc) s.2.length (s.2.map (Value.int .i64))) ∧ Hid (w5.heap.size ≤ wr.heap.size)) (fun q _ => 40 - (intOf q).toNat)
          case atStart => exact ⟨0, by omega, by omega, rfl, F4, B4, R4, hid (Nat.le_refl _)⟩
          case round =>
            obtain ⟨k, hk, hk4, rfl, hF2, hB2, hR2, hZ2⟩ := hrel
            by_cases hgo : k < ys.length ∧ k < 40
            · obtain ⟨hkl, hk40⟩ := hgo
              obtain ⟨⟨d, a, b, o⟩, ha⟩ : ∃ a, ys[k]? = some a := ⟨ys[k], List.getElem?_eq_getElem hkl⟩
              obtain ⟨bb, off, rfl, hb, c0, c1, c2, c3⟩ := act_at (rowsArg_on HS.out hB2.out) ha
              have hai := HY.out _ (List.mem_of_getElem? ha)
              have HA := hid (act_calls (d := d) (a := a) (b := b) (o := o) _ hF2.out hai)
              rw [← runL_take ha] at HA
              clear ha hai
              go_wp2_with fail
              refine HA.out.mono ?_
              rintro e1 w6 ⟨⟨u1, rfl⟩, h6⟩
              have R := hid (hole_of hZ2.out hB2.out.size h6)
              have B6 := hid (hB2.out.trans R.out.2.1)
              have R6 := hid (row_hole hR2.out N4.out R.out.2.2)
              have Z6 := hid (Nat.le_trans hZ2.out h6.2.size)
              clear h6
              go_wp2_with fail
              exact ⟨⟨k + 1, by omega, by omega, by simp, hid R.out.1, B6, R6, Z6⟩, by simp [intOf]; omega⟩
            · have HS2 := hid (runL_stay (M := 150) (ys.take k) L1 HSi.out)
              have HP := hid (parS_stay hF.out.wf hF2.out.wf (fun j t h => runL_stay (M := 150) (ys.take k) L1 h) HSi.out)
              generalize runL 150 L1 (ys.take k) = L2 at *
              have HG2 := hid (show getS L2 id = some s by rw [HIi.out, getS_succ]; exact HS2.out)
              have q1 : protoF L1 id = protoF L2 id := by unfold protoF; rw [HG1.out, HG2.out]
              have q2 : parF L1 id = parF L2 id := by unfold parF; rw [HG1.out, HG2.out]; exact HP.out.symm
              have q3 : (getS L2 id).isSome = true := by rw [HG2.out]; rfl
              rw [q1, q2]
              have HPr := hid (fproto_calls _ hF2.out id)
              rw [q3] at HPr
              have HPa := hid (fun w' (kk : Below wr.heap.size wr w') => fparent_calls w' (hF2.out.on kk) id)
              generalize protoF L2 id = pr at *
              generalize ((parF L2 id : Nat) : Int) = pa at *
              clear q1 q2 q3
              have hfew := hF.out.wf.few _ _ HSi.out
              rcases (show k = ys.length ∨ (k < ys.length ∧ k = 40) by omega) with rfl | ⟨hkl, rfl⟩
              all_goals
                clear hgo
                go_wp2_with fail
                refine HPr.out.mono ?_
                rintro e1 w6 ⟨rfl, rfl⟩
                go_wp2_with fail
                refine (fnames_calls _ hF2.out id).mono ?_
                rintro e1 w7 ⟨v7, rfl, r7, b7⟩
                rw [show namesF L2 id = s.2 from by unfold namesF; rw [HG2.out]] at r7
                have HNu := hid (numbers_calls w7 (intsAt_row r7) (intsAt_on (intsAt_row hR2.out) b7) (by omega))
                rw [decide_eq_true rfl] at HNu
                obtain ⟨so, sc, rfl⟩ := row_shape (row_base r7 (Nat.zero_le _))
                have B7 := hid b7
                clear r7 b7
                go_wp2_with fail
                refine HNu.out.mono ?_
                rintro e1 w8 ⟨rfl, b8⟩
                have B8 := hid (below_on B7.out b8)
                clear b8
                go_wp2_with fail
                refine (HPa.out _ B8.out).mono ?_
                rintro e1 w9 ⟨rfl, rfl⟩
                go_wp2_with fail
                refine (sworks_calls _).mono ?_
                rintro e2 w10 ⟨rfl, b10⟩
                have B10 := hid (below_on hB2.out (below_on B8.out b10))
                clear b10
                go_wp2_with fail
                go_ret
                exact ⟨rfl, B10.out⟩

theorem walk (a0 : Value) (l0 : List (List Value)) (a1 : Value) (l1 : List (List Value)) (a2 : Int) (w : World) (w0 : Hid (RowsArg 4 a0 l0 w)) (n0 : Hid (∀ r ∈ l0, r.length = 4 ∧ FitsF [.i, .i, .i, .b] r)) (w1 : Hid (RowsArg 4 a1 l1 w)) (n1 : Hid (∀ r ∈ l1, r.length = 4 ∧ FitsF [.i, .i, .i, .b] r)) (w2 : (Lit.int .u8 a2).wf = true) :
    Calls Try.prog 5 #[a0, a1, .int .u8 a2] w fun e w' => e = .returned (.bool true) ∧ Below w.heap.size w w' := by
  obtain ⟨xs, rfl, hok⟩ := acts_of n0.out
  obtain ⟨ao, cap, rfl⟩ := acts_shape w0.out
  obtain ⟨ys, rfl, hok2⟩ := acts_of n1.out
  obtain ⟨bo, cbp, rfl⟩ := acts_shape w1.out
  exact walk_stay ao bo cap cbp xs ys a2 w w0 (hid hok) w1 (hid hok2) (bounds_u8 w2)

set_option maxRecDepth 100000 in
theorem lifted (os : Os) (started : os.Started) (H : Type) (enc : TypeId × Value → H) :
    ReturnsInHanded {} Try.checked os 5 .any (Rows.shapeStaysSpec.pre6 enc Try.prog Try.f5 Rows.shapeStaysRow.domain false) (Rows.shapeStaysSpec.post enc Try.prog Try.f5 false true false false) := by
  refine returnsInHanded_of_change (C := Try.checked) own started (by kernel_rfl) Try.func5
    (ChangeSpec.witness6 (enc := enc) (C := Try.checked) false ⟨#[], #[.slice none 0 0, .slice none 0 0, .int .u8 0], []⟩ 8 (by kernel_rfl) (by kernel_rfl) (by kernel_rfl) (by kernel_rfl)) ?_
  intro W base args ds gs before hval0 hW hcnd _
  have hval : ∀ (j : Nat) t v, Try.f5.params[j]? = some t → args[j]? = some v → Value.okWide Try.prog W .any base t v := hval0
  have hW' := hW
  obtain ⟨p, q, hA0, hV, rfl, hfz, hnd⟩ := hW
  have hA : DataW.TrodAll enc Try.prog W 0 (fun _ => true) true Try.f5.params.toList args.toList ds p := hA0
  rw [Try.params5] at hA hval
  obtain ⟨v0, vs0, d0, ds0, p0, q0, hargs, rfl, rfl, h0, r0⟩ := trodAll_cons hA
  obtain ⟨v1, vs1, d1, ds1, p1, q1, rfl, rfl, rfl, h1, r1⟩ := trodAll_cons r0
  obtain ⟨v2, vs2, d2, ds2, p2, q2, rfl, rfl, rfl, h2, r2⟩ := trodAll_cons r1
  obtain ⟨rfl, rfl, rfl⟩ := trodAll_nil r2
  obtain rfl : args = #[v0, v1, v2] := by cases args; simp_all
  obtain ⟨rfl, rfl⟩ := trodVars_none hV
  have hk0 := h0
  have hlt0 : ∀ x ∈ p0, x.block < W.heap.size := fun x hx => by simpa using hW'.lt x (by simp [hx])
  obtain ⟨l0, w0, n0⟩ := open_flats Try.underlying22 (show flat Try.prog 5 29 = some [.i, .i, .i, .b] by kernel_rfl) (show Try.prog.cellsOf 29 = 4 by kernel_rfl) (by decide) (hval 0 22 v0 rfl rfl) h0
  have hk1 := h1
  have hlt1 : ∀ x ∈ p1, x.block < W.heap.size := fun x hx => by simpa using hW'.lt x (by simp [hx])
  obtain ⟨l1, w1, n1⟩ := open_flats Try.underlying22 (show flat Try.prog 5 29 = some [.i, .i, .i, .b] by kernel_rfl) (show Try.prog.cellsOf 29 = 4 by kernel_rfl) (by decide) (hval 1 22 v1 rfl rfl) h1
  obtain ⟨a2, rfl, rfl, rfl, w2⟩ := open_int Try.underlying5 (hval 2 5 v2 rfl rfl) h2
  clear hA0 hval0
  refine (walk v0 l0 v1 l1 a2 W w0 n0 w1 n1 w2).mono fun e W' ⟨he, hg⟩ => ?_
  subst he
  exact ⟨_, rfl, _, _, _, [], _, [], hW', trodAll_mk1 (shut_bool Try.underlying4 _), (trodAll_cons_mk (Below.trod laidOutF (by kernel_rfl) (of_decide_eq_true (by kernel_rfl)) hk0 hg hlt0) (trodAll_cons_mk (Below.trod laidOutF (by kernel_rfl) (of_decide_eq_true (by kernel_rfl)) hk1 hg hlt1) (trodAll_cons_mk (shut_int Try.underlying5 w2) trodAll_mk0))), rfl, hg.frame _, fun h => by cases h⟩

theorem over : Rows.shapeStaysRow.holds Try.pinned (OpenSpec.ofChange Rows.shapeStaysSpec) :=
  OpenClaim.holds_of_wide 5 Try.f5 rfl rfl rfl rfl rfl rfl rfl ⟨rfl, rfl, rfl, rfl, rfl⟩ rfl rfl rfl rfl rfl (by kernel_rfl) Try.func5 (by kernel_rfl)
    (of_decide_eq_true (by kernel_rfl)) (by unfold Func.isWrapper; first | (rw [if_pos (by decide +kernel)]; kernel_rfl) | (rw [if_neg (by decide +kernel)]; exact ⟨rfl, rfl⟩))
    (fun os started H enc _ => lifted os started H enc)

end Go.Proofs.Ytjnljbhgbkbmlaa.shapeStays
namespace Go.Proofs.Ytjnljbhgbkbmlaa

/-- the statement, as it was given -/
theorem shapeStays_holds : Rows.ShapeStaysSaid :=
  shapeStays.over
#print axioms shapeStays_holds
end Go.Proofs.Ytjnljbhgbkbmlaa
