/- A shape with another prototype has the same names in the same slots; moved back it is the one that it was (behind the first 40 acts): ShapeMoves is true for every input; no condition. -/
import Derived.Test.YtjnljbhgbkbmlaaShMove
import Derived.Test.YtjnljbhgbkbmlaaRows
import Derived.WalkKit
import Derived.ProofKit
import Derived.OpenShut
import Derived.ShutString
import Derived.ChangeOld
import Derived.Below
namespace Go.Proofs.Ytjnljbhgbkbmlaa.shapeMoves
open Go.ChangeShapes Go.WideShapes Go.ChangeAt Go.RowKit
open Go.ChangeMaps (open_string shut_string)
set_option linter.unusedVariables false

theorem own : ownKnob Try.prog.godebug = none := by kernel_rfl

set_option linter.unusedSimpArgs false
set_option maxRecDepth 100000 in
set_option maxHeartbeats 4000000 in
theorem walk_move (ao : Option Addr) (cap : Nat) (xs : List AcT) (u p : Int) (w : World) (HR : Hid (RowsArg 4 (.slice ao xs.length cap) (xs.map acC) w)) (HX : Hid (∀ x ∈ xs, acI x)) (hu : 0 ≤ u ∧ u ≤ 255) (hp : Hid (I64 p)) :
    Calls Try.prog 6 #[.slice ao xs.length cap, .int .u8 u, .int .i64 p] w fun e w' => e = .returned (.bool true) ∧ Below w.heap.size w w' := by
  go_enter Try.func6, Try.ntmps6
  go_wp2_with fail
  refine (fnew_calls _ 150).mono ?_
  rintro e0 w0 ⟨f, rfl, h0, b0⟩
  rw [show mostS 150 = 150 from by decide] at h0
  have H0 := hid h0
  have B0 := hid b0
  clear h0 b0
  go_wp2_with fail
  go_loopw [8] (fun i wr => ∃ k : Nat, k ≤ xs.length ∧ k ≤ 40 ∧ i = .int .i64 k ∧ Hid (FoB w.heap.size f 150 (runL 150 [] (xs.take k)) wr) ∧ Hid (Below w.heap.size w wr)) (fun i _ => 40 - (intOf i).toNat)
  case atStart => exact ⟨0, by omega, by omega, rfl, H0, B0⟩
  case round =>
    obtain ⟨k, hk, hk4, rfl, hF, hB⟩ := hrel
    by_cases hgo : k < xs.length ∧ k < 40
    · obtain ⟨hkl, hk40⟩ := hgo
      obtain ⟨⟨d, a, b, o⟩, ha⟩ : ∃ a, xs[k]? = some a := ⟨xs[k], List.getElem?_eq_getElem hkl⟩
      obtain ⟨bb, off, rfl, hb, c0, c1, c2, c3⟩ := act_at (rowsArg_on HR.out hB.out) ha
      have hai := HX.out _ (List.mem_of_getElem? ha)
      have HA := hid (act_calls (d := d) (a := a) (b := b) (o := o) wr hF.out hai)
      rw [← runL_take ha] at HA
      have d1 : decide ((k : Int) < 40) = true := decide_eq_true (by omega)
      clear ha hai
      go_wp2_with fail
      refine HA.out.mono ?_
      rintro e1 w1 ⟨⟨u1, rfl⟩, h1⟩
      have R := hid (fob_of hB.out.size h1)
      have B1 := hid (hB.out.trans R.out.2)
      clear h1
      go_wp2_with fail
      exact ⟨⟨k + 1, by omega, by omega, by simp, hid R.out.1, B1⟩, by simp [intOf]; omega⟩
    · have HL := hid (flen_calls wr hF.out)
      generalize hL1 : runL 150 [] (xs.take k) = L1 at *
      have hn1 : L1.length ≤ 150 := hF.out.wf.len
      by_cases hz : L1.length = 0
      · rw [hz] at HL
        clear hL1
        rcases (show k = xs.length ∨ (k < xs.length ∧ k = 40) by omega) with rfl | ⟨hkl, rfl⟩
        all_goals
          clear hgo
          go_wp2_with fail
          refine HL.out.mono ?_
          rintro e1 w1 ⟨rfl, rfl⟩
          go_wp2_with fail
          refine (sworks_calls _).mono ?_
          rintro e2 w2 ⟨rfl, b2⟩
          have B2 := hid (below_on hB.out b2)
          clear b2
          go_wp2_with fail
          go_ret
          exact ⟨rfl, B2.out⟩
      · have dz : ((L1.length : Int) == 0) = false := by simp only [beq_eq_false_iff_ne]; omega
        have m2 := Int.emod_nonneg u (b := (L1.length : Int)) (by omega)
        have m3 := Int.emod_lt_of_pos u (b := (L1.length : Int)) (by omega)
        obtain ⟨i, hi⟩ : ∃ i : Nat, u % (L1.length : Int) = (i : Int) := ⟨(u % (L1.length : Int)).toNat, by omega⟩
        obtain ⟨s, hs⟩ := ex_get (L := L1) (i := i) (by omega)
        have HSi := hid hs
        have HIi := hid (show (1 + u % (L1.length : Int)) = ((i + 1 : Nat) : Int) by omega)
        have HMv := hid (fmove_calls wr hF.out (1 + u % (L1.length : Int)) p hp.out)
        rw [HIi.out] at HMv
        obtain ⟨hw2, hsp⟩ := move_spec (p := p) hF.out.wf hs hp.out
        have hst := moveP_stay (M := 150) (id := ((i + 1 : Nat) : Int)) (p := p) hs
        generalize moveP 150 L1 ((i + 1 : Nat) : Int) p = r at *
        obtain ⟨to, L2⟩ := r
        dsimp only at hw2 hsp hst HMv
        rw [← HIi.out] at HMv
        clear hL1 hi hs
        rcases hsp with ⟨j, rfl, hj⟩ | ⟨rfl, hor⟩
        · have HW2 := hid hw2
          have HJ := hid hj
          have HST := hid hst
          have HGt := hid (show getS L2 ((j + 1 : Nat) : Int) = some (p, s.2) by rw [getS_succ]; exact hj)
          have HGi := hid (show getS L2 (1 + u % (L1.length : Int)) = some s by rw [HIi.out, getS_succ]; exact hst)
          have hp0 := (hw2.pos j _ hj).1
          have hs0 := hw2.pos i _ hst
          have HBk := hid (move_there (p := s.1) hw2 hj hst hs0.1)
          have hfew := hw2.few i _ hst
          have hI2 := hid hs0.2
          clear hw2 hj hst
          rcases (show k = xs.length ∨ (k < xs.length ∧ k = 40) by omega) with rfl | ⟨hkl, rfl⟩
          all_goals
            clear hgo
            go_wp2_with fail
            refine HL.out.mono ?_
            rintro e1 w1 ⟨rfl, rfl⟩
            go_wp2_with fail
            refine HL.out.mono ?_
            rintro e1 w2 ⟨rfl, rfl⟩
            go_wp2_with fail
            generalize 1 + u % (L1.length : Int) = id at *
            refine HMv.out.mono ?_
            rintro e1 w3 ⟨rfl, h3⟩
            have R3 := fob_of hB.out.size h3
            have F3 := hid R3.1
            have B3 := hid (hB.out.trans R3.2)
            have d1 : ((((j + 1 : Nat) : Int)) == 0) = false := by simp; omega
            clear R3 h3
            generalize hto : ((j + 1 : Nat) : Int) = to at *
            have HTo := hid hto
            clear hto
            have HP1 := hid (fproto_calls _ F3.out to)
            rw [show protoF L2 to = p from by unfold protoF; rw [HGt.out], HGt.out] at HP1
            have HP2 := hid (fproto_calls _ F3.out id)
            rw [show protoF L2 id = s.1 from by unfold protoF; rw [HGi.out], HGi.out] at HP2
            go_wp2_with fail
            refine HP1.out.mono ?_
            rintro e1 w4 ⟨rfl, rfl⟩
            go_wp2_with fail
            refine HP2.out.mono ?_
            rintro e1 w5 ⟨rfl, rfl⟩
            go_wp2_with fail
            refine (fnames_calls _ F3.out to).mono ?_
            rintro e1 w6 ⟨v6, rfl, r6, b6⟩
            rw [show namesF L2 to = s.2 from by unfold namesF; rw [HGt.out]] at r6
            have F6 := hid (F3.out.on b6)
            have B6 := hid (below_on B3.out b6)
            have I6 := hid (intsAt_row r6)
            obtain ⟨ro, rc, rfl⟩ := row_shape (row_base r6 (Nat.zero_le _))
            clear r6 b6
            go_wp2_with fail
            refine (fnames_calls _ F6.out id).mono ?_
            rintro e1 w7 ⟨v7, rfl, r7, b7⟩
            rw [show namesF L2 id = s.2 from by unfold namesF; rw [HGi.out]] at r7
            have F7 := hid (F6.out.on b7)
            have B7 := hid (below_on B6.out b7)
            have HNu := hid (numbers_calls w7 (intsAt_on I6.out b7) (intsAt_row r7) (by omega))
            rw [decide_eq_true rfl] at HNu
            obtain ⟨so, sc, rfl⟩ := row_shape (row_base r7 (Nat.zero_le _))
            clear r7 b7
            go_wp2_with fail
            refine HNu.out.mono ?_
            rintro e1 w8 ⟨rfl, b8⟩
            have F8 := hid (F7.out.on b8)
            have B8 := hid (below_on B7.out b8)
            clear b8
            have HM2 := hid (fmove_calls w8 F8.out to s.1 hI2.out)
            rw [HBk.out] at HM2
            dsimp only at HM2
            rw [← HIi.out] at HM2
            go_wp2_with fail
            refine HM2.out.mono ?_
            rintro e1 w9 ⟨rfl, h9⟩
            have B9 := hid (B8.out.trans (fob_of B8.out.size h9).2)
            clear h9
            go_wp2_with fail
            refine (sworks_calls _).mono ?_
            rintro e2 w10 ⟨rfl, b10⟩
            have B10 := hid (below_on B9.out b10)
            clear b10
            go_wp2_with fail
            go_ret
            exact ⟨rfl, B10.out⟩
        · clear hst
          have hl2 := hw2.len
          have HOr := hid hor
          clear hor hw2
          rcases (show k = xs.length ∨ (k < xs.length ∧ k = 40) by omega) with rfl | ⟨hkl, rfl⟩
          all_goals
            clear hgo
            go_wp2_with fail
            refine HL.out.mono ?_
            rintro e1 w1 ⟨rfl, rfl⟩
            go_wp2_with fail
            refine HL.out.mono ?_
            rintro e1 w2 ⟨rfl, rfl⟩
            go_wp2_with fail
            generalize 1 + u % (L1.length : Int) = id at *
            refine HMv.out.mono ?_
            rintro e1 w3 ⟨rfl, h3⟩
            have R3 := fob_of hB.out.size h3
            have HL3 := hid (flen_calls _ R3.1)
            have B3 := hid (hB.out.trans R3.2)
            clear R3 h3
            by_cases hn : p < 0
            · have dn : decide (p < 0) = true := decide_eq_true hn
              go_wp2_with fail
              refine (sworks_calls _).mono ?_
              rintro e2 w10 ⟨rfl, b10⟩
              have B10 := hid (below_on B3.out b10)
              clear b10
              go_wp2_with fail
              go_ret
              exact ⟨rfl, B10.out⟩
            · have dn : decide (p < 0) = false := decide_eq_false hn
              have hl3 : L2.length = 150 := HOr.out.resolve_left hn
              rw [hl3] at HL3
              clear hl3 hl2
              go_wp2_with fail
              refine HL3.out.mono ?_
              rintro e1 w4 ⟨rfl, rfl⟩
              go_wp2_with fail
              refine (sworks_calls _).mono ?_
              rintro e2 w10 ⟨rfl, b10⟩
              have B10 := hid (below_on B3.out b10)
              clear b10
              go_wp2_with fail
              go_ret
              exact ⟨rfl, B10.out⟩

theorem walk (a0 : Value) (l0 : List (List Value)) (a1 : Int) (a2 : Int) (w : World) (w0 : Hid (RowsArg 4 a0 l0 w)) (n0 : Hid (∀ r ∈ l0, r.length = 4 ∧ FitsF [.i, .i, .i, .b] r)) (w1 : (Lit.int .u8 a1).wf = true) (w2 : (Lit.int .i64 a2).wf = true) :
    Calls Try.prog 6 #[a0, .int .u8 a1, .int .i64 a2] w fun e w' => e = .returned (.bool true) ∧ Below w.heap.size w w' := by
  obtain ⟨xs, rfl, hok⟩ := acts_of n0.out
  obtain ⟨ao, cap, rfl⟩ := acts_shape w0.out
  exact walk_move ao cap xs a1 a2 w w0 (hid hok) (bounds_u8 w1) (hid (bounds_i64 w2))

set_option maxRecDepth 100000 in
theorem lifted (os : Os) (started : os.Started) (H : Type) (enc : TypeId × Value → H) :
    ReturnsInHanded {} Try.checked os 6 .any (Rows.shapeMovesSpec.pre6 enc Try.prog Try.f6 Rows.shapeMovesRow.domain false) (Rows.shapeMovesSpec.post enc Try.prog Try.f6 false true false false) := by
  refine returnsInHanded_of_change (C := Try.checked) own started (by kernel_rfl) Try.func6
    (ChangeSpec.witness6 (enc := enc) (C := Try.checked) false ⟨#[], #[.slice none 0 0, .int .u8 0, .int .i64 0], []⟩ 8 (by kernel_rfl) (by kernel_rfl) (by kernel_rfl) (by kernel_rfl)) ?_
  intro W base args ds gs before hval0 hW hcnd _
  have hval : ∀ (j : Nat) t v, Try.f6.params[j]? = some t → args[j]? = some v → Value.okWide Try.prog W .any base t v := hval0
  have hW' := hW
  obtain ⟨p, q, hA0, hV, rfl, hfz, hnd⟩ := hW
  have hA : DataW.TrodAll enc Try.prog W 0 (fun _ => true) true Try.f6.params.toList args.toList ds p := hA0
  rw [Try.params6] at hA hval
  obtain ⟨v0, vs0, d0, ds0, p0, q0, hargs, rfl, rfl, h0, r0⟩ := trodAll_cons hA
  obtain ⟨v1, vs1, d1, ds1, p1, q1, rfl, rfl, rfl, h1, r1⟩ := trodAll_cons r0
  obtain ⟨v2, vs2, d2, ds2, p2, q2, rfl, rfl, rfl, h2, r2⟩ := trodAll_cons r1
  obtain ⟨rfl, rfl, rfl⟩ := trodAll_nil r2
  obtain rfl : args = #[v0, v1, v2] := by cases args; simp_all
  obtain ⟨rfl, rfl⟩ := trodVars_none hV
  have hk0 := h0
  have hlt0 : ∀ x ∈ p0, x.block < W.heap.size := fun x hx => by simpa using hW'.lt x (by simp [hx])
  obtain ⟨l0, w0, n0⟩ := open_flats Try.underlying22 (show flat Try.prog 5 29 = some [.i, .i, .i, .b] by kernel_rfl) (show Try.prog.cellsOf 29 = 4 by kernel_rfl) (by decide) (hval 0 22 v0 rfl rfl) h0
  obtain ⟨a1, rfl, rfl, rfl, w1⟩ := open_int Try.underlying5 (hval 1 5 v1 rfl rfl) h1
  obtain ⟨a2, rfl, rfl, rfl, w2⟩ := open_int Try.underlying3 (hval 2 3 v2 rfl rfl) h2
  clear hA0 hval0
  refine (walk v0 l0 a1 a2 W w0 n0 w1 w2).mono fun e W' ⟨he, hg⟩ => ?_
  subst he
  exact ⟨_, rfl, _, _, _, [], _, [], hW', trodAll_mk1 (shut_bool Try.underlying4 _), (trodAll_cons_mk (Below.trod laidOutF (by kernel_rfl) (of_decide_eq_true (by kernel_rfl)) hk0 hg hlt0) (trodAll_cons_mk (shut_int Try.underlying5 w1) (trodAll_cons_mk (shut_int Try.underlying3 w2) trodAll_mk0))), rfl, hg.frame _, fun h => by cases h⟩

theorem over : Rows.shapeMovesRow.holds Try.pinned (OpenSpec.ofChange Rows.shapeMovesSpec) :=
  OpenClaim.holds_of_wide 6 Try.f6 rfl rfl rfl rfl rfl rfl rfl ⟨rfl, rfl, rfl, rfl, rfl⟩ rfl rfl rfl rfl rfl (by kernel_rfl) Try.func6 (by kernel_rfl)
    (of_decide_eq_true (by kernel_rfl)) (by unfold Func.isWrapper; first | (rw [if_pos (by decide +kernel)]; kernel_rfl) | (rw [if_neg (by decide +kernel)]; exact ⟨rfl, rfl⟩))
    (fun os started H enc _ => lifted os started H enc)

end Go.Proofs.Ytjnljbhgbkbmlaa.shapeMoves
namespace Go.Proofs.Ytjnljbhgbkbmlaa

/-- the statement, as it was given -/
theorem shapeMoves_holds : Rows.ShapeMovesSaid :=
  shapeMoves.over
#print axioms shapeMoves_holds
end Go.Proofs.Ytjnljbhgbkbmlaa
