/- Whatever is done to objects: a heap tells, and has, step by step, what the document says, or the error; shapes and slots among that (the first 60 acts; texts of more than 300 bytes ask for the law's own test alone): HeapPlays is true for every input; no condition. -/
import Derived.Test.YtemidicgipebjaaGreatRhDone
import Derived.Test.YtemidicgipebjaaGreatRhLike
import Derived.Test.YtemidicgipebjaaGreatJoint15
import Derived.Deep.Cut
import Derived.Deep.CutRange
import Derived.Deep.DeepCutAuto
import Derived.Deep.CutBlock
import Derived.Test.YtemidicgipebjaaGreatRows
import Derived.WalkKit
import Derived.ProofKit
import Derived.OpenShut
import Derived.ShutString
import Derived.ChangeOld
import Derived.Below
namespace Go.Proofs.YtemidicgipebjaaGreat.heapPlays
open Go.ChangeShapes Go.WideShapes Go.ChangeAt Go.RowKit
open Go.ChangeMaps (open_string shut_string)
set_option linter.unusedVariables false
set_option maxRecDepth 100000

theorem own : ownKnob Tryz.prog.godebug = none := by kernel_rfl

theorem open_a0 {H : Type} {enc : TypeId × Value → H} {W : World} {b0 : Nat} {r : Reach} {v : Value} {d : DataW H} {p : List MemPlace} (hv : Value.okWide Tryz.prog W r b0 23 v) (h : DataW.Trod enc Tryz.prog W 0 (fun _ => true) true 23 v d p) :
    ∃ (x0_0 : Int) (x0_1 : Int) (x0_2 : Int) (x0_3 : Int), v = .agg #[.int .i64 x0_0, .int .i64 x0_1, .int .i64 x0_2, .int .i64 x0_3] ∧ (-9223372036854775808 ≤ x0_0 ∧ x0_0 ≤ 9223372036854775807) ∧ (-9223372036854775808 ≤ x0_1 ∧ x0_1 ≤ 9223372036854775807) ∧ (-9223372036854775808 ≤ x0_2 ∧ x0_2 ≤ 9223372036854775807) ∧ (-9223372036854775808 ≤ x0_3 ∧ x0_3 ≤ 9223372036854775807) := by
  obtain ⟨cs, rfl, hl, hf0⟩ := open_flat Tryz.underlying23 (show flat Tryz.prog 5 23 = some [.i, .i, .i, .i] by kernel_rfl) hv h
  rw [show Tryz.prog.cellsOf 23 = 4 by kernel_rfl] at hl
  obtain ⟨_, c0, rfl, ⟨y0, rfl, q0⟩, hf1⟩ := fits_cons hf0
  obtain ⟨_, c1, rfl, ⟨y1, rfl, q1⟩, hf2⟩ := fits_cons hf1
  obtain ⟨_, c2, rfl, ⟨y2, rfl, q2⟩, hf3⟩ := fits_cons hf2
  obtain ⟨_, c3, rfl, ⟨y3, rfl, q3⟩, hf4⟩ := fits_cons hf3
  have e : c3 = [] := List.length_eq_zero_iff.1 (by simpa using hl)
  subst e
  exact ⟨y0, y1, y2, y3, rfl, q0, q1, q2, q3⟩
set_option linter.unusedSimpArgs false
set_option linter.unusedVariables false
set_option maxRecDepth 100000
def nmOf (xs : List AcH) : ByteArray := match xs.getLast? with | some a => a.2.2.2.1 | none => ⟨#[120]⟩
theorem fit_act {H : He} {a : AcH} (h : HFit H) (hv : VFit a.2.2.2.2) : HFit (actY H a) := by
  unfold actY
  split
  · exact hfit_make h
  · split
    · exact hfit_set h hv
    · split
      · exact hfit_del h
      · split
        · exact hfit_proto h
        · split
          · exact hfit_putv h hv
          · split
            · exact hfit_grow h hv
            · split
              · exact hfit_os h (by unfold nextH; cases getS H.L a.2.2.1 <;> rfl)
              · exact h
set_option maxHeartbeats 16000000 in
theorem walk_plays (ao : Option Addr) (cap : Nat) (xs : List AcH) (la ld lb ls u1 : Int) (w : World) (HR : Hid (RowsArg 7 (.slice ao xs.length cap) (xs.map acHC) w)) (HX : Hid (∀ x ∈ xs, acI x)) (hu1 : 0 ≤ u1 ∧ u1 ≤ 255) (hlen : Hid ((xs.length : Int) ≤ 9223372036854775807)) :
    Calls Tryz.prog 3 #[.agg #[.int .i64 la, .int .i64 ld, .int .i64 lb, .int .i64 ls], .int .u8 u1, .slice ao xs.length cap] w fun e w' => e = .returned (.bool true) ∧ Below w.heap.size w w' := by
  have A0 := hid ((Below.refl w.heap.size w).alloc (Nat.le_refl _) (Obj.cells #[.int .i64 la, .int .i64 ld, .int .i64 lb, .int .i64 ls] 23))
  have hwl : w.heap.size < (w.alloc (Obj.cells #[.int .i64 la, .int .i64 ld, .int .i64 lb, .int .i64 ls] 23)).heap.size := by simp
  have z0 : (w.alloc (Obj.cells #[.int .i64 la, .int .i64 ld, .int .i64 lb, .int .i64 ls] 23)).cell? ⟨w.heap.size, 0, none⟩ = some (.int .i64 la) := by simp
  have z1 : (w.alloc (Obj.cells #[.int .i64 la, .int .i64 ld, .int .i64 lb, .int .i64 ls] 23)).cell? ⟨w.heap.size, 1, none⟩ = some (.int .i64 ld) := by simp
  have z2 : (w.alloc (Obj.cells #[.int .i64 la, .int .i64 ld, .int .i64 lb, .int .i64 ls] 23)).cell? ⟨w.heap.size, 2, none⟩ = some (.int .i64 lb) := by simp
  have z3 : (w.alloc (Obj.cells #[.int .i64 la, .int .i64 ld, .int .i64 lb, .int .i64 ls] 23)).cell? ⟨w.heap.size, 3, none⟩ = some (.int .i64 ls) := by simp
  have HNm := hid (show (nmOf xs).size ≤ maxLen by
    unfold nmOf
    cases hx : xs.getLast? with
    | none => decide
    | some a => exact (HX.out a (List.mem_of_getLast? hx)).1)
  generalize hwA : w.alloc (Obj.cells #[.int .i64 la, .int .i64 ld, .int .i64 lb, .int .i64 ls] 23) = wA at *
  go_enter Tryz.func3, Tryz.ntmps3
  go_upto_if 13 with fail
  go_cut [7] (fun a wx => a = .string (nmOf xs) ∧ wx = wA)
  case first =>
    rcases Nat.eq_zero_or_pos xs.length with h0 | h0
    · have hx : xs = [] := List.length_eq_zero_iff.1 h0
      subst hx
      go_wp2_with fail
      go_meet
      exact ⟨rfl, rfl⟩
    · obtain ⟨m, hm⟩ : ∃ m, xs.length = m + 1 := ⟨xs.length - 1, by omega⟩
      obtain ⟨a, ha⟩ : ∃ a, xs[m]? = some a := ⟨xs[m]'(by omega), List.getElem?_eq_getElem (by omega)⟩
      have hlast := hid (show nmOf xs = a.2.2.2.1 by unfold nmOf; rw [List.getLast?_eq_getElem?, hm]; simp [ha])
      have hRk := rowsArg_on HR.out A0.out
      obtain ⟨bb, off, rfl, hbb, c0, c1, c2, c3, c4, c5, c6⟩ := act_at hRk ha
      have hml : m < xs.length := by omega
      have hsub : (xs.length : Int) - 1 = (m : Int) := by omega
      have hw6 : wrap64 (m : Int) = (m : Int) := by have := hlen.out; unfold wrap64; omega
      have dpos : decide (0 < (xs.length : Int)) = true := decide_eq_true (by omega)
      clear hm ha hRk h0
      go_wp2_with fail
      go_meet
      rw [hlast.out]
      exact ⟨rfl, rfl⟩
  case rest =>
    obtain ⟨rfl, rfl⟩ := hcut
    rename World => wA
    generalize nmOf xs = nm at *
    clear HNm
    by_cases hs : 300 < nm.size
    · have ds : decide (300 < (nm.size : Int)) = true := decide_eq_true (by omega)
      go_wp2_with fail
      refine (hworks_calls _).mono ?_
      rintro e2 w2 ⟨rfl, b2⟩
      have B2 := hid (below_on A0.out b2)
      clear b2
      go_wp2_with fail
      go_ret
      exact ⟨rfl, B2.out⟩
    · have ds : decide (300 < (nm.size : Int)) = false := decide_eq_false (by omega)
      have hn3 : nm.size ≤ 1000000 := by omega
      have HN1 := hid (hnew_calls wA la ld lb ls u1)
      unfold limV at HN1
      go_wp2_with fail
      refine HN1.out.mono ?_
      rintro e0 w0 ⟨h, rfl, p0, b0⟩
      have z0 := cell_on z0 hwl b0
      have z1 := cell_on z1 hwl b0
      have z2 := cell_on z2 hwl b0
      have z3 := cell_on z3 hwl b0
      have hwl0 := Nat.lt_of_lt_of_le hwl b0.size
      have HN2 := hid (ynew_calls w0 la ld lb ls u1)
      have P0 := hid p0
      have B0 := hid b0
      clear p0 b0 HN1
      go_wp2_with fail
      refine HN2.out.mono ?_
      rintro e1 w1 ⟨r, rfl, ⟨f, v, tv, q, col, pr, hc⟩, b1⟩
      have T1 : Hid (TwY wA.heap.size (fun _ => False) (40 + 0) h r (newH la lb u1) (newH la lb u1) w1) := hid ⟨f, v, tv, q, col, pr, fun b hb => ⟨Nat.le_trans B0.out.size (hc b hb), fun e => e⟩,
        ((P0.out.mono (T := fun b => wA.heap.size ≤ b ∧ b < w0.heap.size) (fun b hb e => ⟨e, hb⟩)).on b1).mono (fun b _ e => ⟨e.1, fun e => e, Classical.byContradiction (fun n => by have := hc b n; omega)⟩)⟩
      have B1 := hid (below_on B0.out b1)
      have F1 := hid (hfit_new la lb u1)
      clear pr hc b1 HN2 P0 B0 z0 z1 z2 z3 hwl hwl0
      generalize newH la lb u1 = H0 at *
      go_wp2_with fail
      go_loopw [10] (fun i wr => ∃ (H : He) (k : Nat), k ≤ xs.length ∧ k ≤ 60 ∧ i = .int .i64 (k : Int) ∧ Hid (TwY wA.heap.size (fun _ => False) (40 + k) h r H H wr) ∧ Hid (HFit H) ∧ Hid (Below wA.heap.size wA wr)) (fun i _ => 60 - (intOf i).toNat)
      case atStart => exact ⟨H0, 0, Nat.zero_le _, Nat.zero_le _, rfl, T1, F1, B1⟩
      case round =>
        obtain ⟨H, k, hk, hk6, rfl, hT, hF, hB⟩ := hrel
        by_cases hgo : k < xs.length ∧ k < 60
        · obtain ⟨hkl, hk60⟩ := hgo
          obtain ⟨a, ha⟩ : ∃ a, xs[k]? = some a := ⟨xs[k], List.getElem?_eq_getElem hkl⟩
          have hRk := rowsArg_on HR.out (below_on A0.out hB.out)
          obtain ⟨bb, off, rfl, hbb, c0, c1, c2, c3, c4, c5, c6⟩ := act_at hRk ha
          have hai := HX.out _ (List.mem_of_getElem? ha)
          have HL := hid (hlong_calls a hai.1 hai.2.1 wr)
          have HAI := hid hai
          have d1 : decide ((k : Int) < 60) = true := decide_eq_true (by omega)
          clear ha hai hRk
          cases hll : longH a with
          | true =>
            rw [hll] at HL
            go_wp2_with fail
            refine HL.out.mono ?_
            rintro e1 w1 ⟨rfl, b1⟩
            have B1 := hid (below_in hB.out (Nat.le_refl _) b1)
            clear b1
            go_wp2_with fail
            refine (hworks_calls _).mono ?_
            rintro e2 w2 ⟨rfl, b2⟩
            have B2 := hid (below_on A0.out (below_in B1.out (Nat.le_refl _) b2))
            clear b2
            go_wp2_with fail
            go_ret
            exact ⟨rfl, B2.out⟩
          | false =>
            rw [hll] at HL
            have hsz := not_longH hll
            have HV : Hid (VFit a.2.2.2.2) := hid ⟨HAI.out.2.2, by have := hsz.2; omega⟩
            clear hll
            go_wp2_with fail
            refine HL.out.mono ?_
            rintro e1 w1 ⟨rfl, b1⟩
            have c0 := cell_on c0 hbb b1
            have c1 := cell_on c1 hbb b1
            have c2 := cell_on c2 hbb b1
            have c3 := cell_on c3 hbb b1
            have c4 := cell_on c4 hbb b1
            have c5 := cell_on c5 hbb b1
            have c6 := cell_on c6 hbb b1
            have hbb1 : bb < w1.heap.size := Nat.lt_of_lt_of_le hbb b1.size
            have B1 := hid (below_in hB.out (Nat.le_refl _) b1)
            have HD := hid (ydone_calls w1 (hT.out.on b1) (by omega) (by omega) B1.out.size (fun b e => e.elim) a (by have := hsz.1; omega))
            have FA := hid (fit_act hF.out HV.out)
            clear b1 hB HL hT hF
            go_wp2_with fail
            refine HD.out.mono ?_
            rintro e2 w2 ⟨rfl, t2, k2⟩
            have T2 := hid t2
            have B2 := hid (B1.out.trans (k2.below B1.out.size (fun b h => h.1)))
            clear t2 k2 B1 HD
            by_cases hm : (k : Int).tmod 8 = 0
            · have dm : ((k : Int).tmod 8 == 0) = true := by simpa using hm
              have HLk := hid (ylike_calls w2 T2.out (by omega) FA.out nm hn3)
              go_wp2_with fail
              refine HLk.out.mono ?_
              rintro e3 w3 ⟨rfl, b3⟩
              have B3 := hid (below_in B2.out (Nat.le_refl _) b3)
              have T3 := hid (T2.out.on b3)
              clear b3 T2 B2 HLk
              go_wp2_with fail
              exact ⟨⟨actY H a, k + 1, by omega, by omega, by simp, T3, FA, B3⟩, by simp [intOf]; omega⟩
            · have dm : ((k : Int).tmod 8 == 0) = false := by simpa using hm
              go_wp2_with fail
              exact ⟨⟨actY H a, k + 1, by omega, by omega, by simp, T2, FA, B2⟩, by simp [intOf]; omega⟩
        · have HLk := hid (ylike_calls wr hT.out (by omega) hF.out nm hn3)
          rcases (show k = xs.length ∨ (k < xs.length ∧ k = 60) by omega) with rfl | ⟨hkl, rfl⟩
          all_goals
            clear hgo
            go_wp2_with fail
            refine HLk.out.mono ?_
            rintro e3 w3 ⟨rfl, b3⟩
            have B3 := hid (below_in hB.out (Nat.le_refl _) b3)
            clear b3 HLk
            go_wp2_with fail
            refine (hworks_calls _).mono ?_
            rintro e2 w2 ⟨rfl, b2⟩
            have B2 := hid (below_on A0.out (below_in B3.out (Nat.le_refl _) b2))
            clear b2
            go_wp2_with fail
            go_ret
            exact ⟨rfl, B2.out⟩

theorem walk (x0_0 : Int) (x0_1 : Int) (x0_2 : Int) (x0_3 : Int) (a1 : Int) (a2 : Value) (l2 : List (List Value)) (w : World) (w0_0 : (-9223372036854775808 ≤ x0_0 ∧ x0_0 ≤ 9223372036854775807)) (w0_1 : (-9223372036854775808 ≤ x0_1 ∧ x0_1 ≤ 9223372036854775807)) (w0_2 : (-9223372036854775808 ≤ x0_2 ∧ x0_2 ≤ 9223372036854775807)) (w0_3 : (-9223372036854775808 ≤ x0_3 ∧ x0_3 ≤ 9223372036854775807)) (w1 : (Lit.int .u8 a1).wf = true) (w2 : Hid (RowsArg 7 a2 l2 w)) (n2 : Hid (∀ r ∈ l2, r.length = 7 ∧ FitsF [.i, .i, .i, .s, .i, .i, .s] r)) (m2 : l2.length ≤ maxLen) :
    Calls Tryz.prog 3 #[.agg #[.int .i64 x0_0, .int .i64 x0_1, .int .i64 x0_2, .int .i64 x0_3], .int .u8 a1, a2] w fun e w' => e = .returned (.bool true) ∧ Below w.heap.size w w' := by
  obtain ⟨xs, rfl, hok⟩ := acts_of n2.out
  obtain ⟨ao, cap, rfl⟩ := acts_shape w2.out
  exact walk_plays ao cap xs x0_0 x0_1 x0_2 x0_3 a1 w w2 (hid hok) (bounds_u8 w1) (hid (by have h := m2; unfold maxLen at h; simp only [List.length_map] at h; omega))

set_option maxRecDepth 100000 in
theorem lifted (os : Os) (started : os.Started) (H : Type) (enc : TypeId × Value → H) :
    ReturnsInHanded {} Tryz.checked os 3 .any (Rows.heapPlaysSpec.pre6 enc Tryz.prog Tryz.f3 Rows.heapPlaysRow.domain false) (Rows.heapPlaysSpec.post enc Tryz.prog Tryz.f3 false true false false) := by
  refine returnsInHanded_of_change (C := Tryz.checked) own started (by kernel_rfl) Tryz.func3
    (ChangeSpec.witness6 (enc := enc) (C := Tryz.checked) false ⟨#[], #[.agg #[.int .i64 0, .int .i64 0, .int .i64 0, .int .i64 0], .int .u8 0, .slice none 0 0], []⟩ 8 (by kernel_rfl) (by kernel_rfl) (by kernel_rfl) (by kernel_rfl)) ?_
  intro W base args ds gs before hval0 hW hcnd _
  have hval : ∀ (j : Nat) t v, Tryz.f3.params[j]? = some t → args[j]? = some v → Value.okWide Tryz.prog W .any base t v := hval0
  have hW' := hW
  obtain ⟨p, q, hA0, hV, rfl, hfz, hnd⟩ := hW
  have hA : DataW.TrodAll enc Tryz.prog W 0 (fun _ => true) true Tryz.f3.params.toList args.toList ds p := hA0
  rw [Tryz.params3] at hA hval
  obtain ⟨v0, vs0, d0, ds0, p0, q0, hargs, rfl, rfl, h0, r0⟩ := trodAll_cons hA
  obtain ⟨v1, vs1, d1, ds1, p1, q1, rfl, rfl, rfl, h1, r1⟩ := trodAll_cons r0
  obtain ⟨v2, vs2, d2, ds2, p2, q2, rfl, rfl, rfl, h2, r2⟩ := trodAll_cons r1
  obtain ⟨rfl, rfl, rfl⟩ := trodAll_nil r2
  obtain rfl : args = #[v0, v1, v2] := by cases args; simp_all
  obtain ⟨rfl, rfl⟩ := trodVars_none hV
  have hk0 := h0
  have hlt0 : ∀ x ∈ p0, x.block < W.heap.size := fun x hx => by simpa using hW'.lt x (by simp [hx])
  obtain ⟨x0_0, x0_1, x0_2, x0_3, rfl, w0_0, w0_1, w0_2, w0_3⟩ := open_a0 (hval 0 23 v0 rfl rfl) h0
  obtain ⟨a1, rfl, rfl, rfl, w1⟩ := open_int Tryz.underlying5 (hval 1 5 v1 rfl rfl) h1
  have hk2 := h2
  have hlt2 : ∀ x ∈ p2, x.block < W.heap.size := fun x hx => by simpa using hW'.lt x (by simp [hx])
  obtain ⟨l2, w2, n2⟩ := open_flats Tryz.underlying24 (show flat Tryz.prog 5 28 = some [.i, .i, .i, .s, .i, .i, .s] by kernel_rfl) (show Tryz.prog.cellsOf 28 = 7 by kernel_rfl) (by decide) (hval 2 24 v2 rfl rfl) h2
  have m2 := open_len Tryz.underlying24 (hval 2 24 v2 rfl rfl) h2 w2
  clear hA0 hval0
  refine (walk x0_0 x0_1 x0_2 x0_3 a1 v2 l2 W w0_0 w0_1 w0_2 w0_3 w1 w2 n2 m2).mono fun e W' ⟨he, hg⟩ => ?_
  subst he
  exact ⟨_, rfl, _, _, _, [], _, [], hW', trodAll_mk1 (shut_bool Tryz.underlying4 _), (trodAll_cons_mk (Below.trod laidOutF (by kernel_rfl) (of_decide_eq_true (by kernel_rfl)) hk0 hg hlt0) (trodAll_cons_mk (shut_int Tryz.underlying5 w1) (trodAll_cons_mk (Below.trod laidOutF (by kernel_rfl) (of_decide_eq_true (by kernel_rfl)) hk2 hg hlt2) trodAll_mk0))), rfl, hg.frame _, fun h => by cases h⟩

theorem over : Rows.heapPlaysRow.holds Tryz.pinned (OpenSpec.ofChange Rows.heapPlaysSpec) :=
  OpenClaim.holds_of_wide 3 Tryz.f3 rfl rfl rfl rfl rfl rfl rfl ⟨rfl, rfl, rfl, rfl, rfl⟩ rfl rfl rfl rfl rfl (by kernel_rfl) Tryz.func3 (by kernel_rfl)
    (of_decide_eq_true (by kernel_rfl)) (by unfold Func.isWrapper; first | (rw [if_pos (by decide +kernel)]; kernel_rfl) | (rw [if_neg (by decide +kernel)]; exact ⟨rfl, rfl⟩))
    (fun os started H enc _ => lifted os started H enc)

end Go.Proofs.YtemidicgipebjaaGreat.heapPlays
namespace Go.Proofs.YtemidicgipebjaaGreat

/-- the statement, as it was given -/
theorem heapPlays_holds : Rows.HeapPlaysSaid :=
  heapPlays.over
#print axioms heapPlays_holds
end Go.Proofs.YtemidicgipebjaaGreat
