/- What any instruction of a code of at most 400 takes and lays, and what comes behind it, is as the document says, at each place and at any number asked for (of longer codes the law asks its own test alone): CodeEffects is true for every input; no condition. -/
import Derived.Test.YtciobggfefmgnaaCdWork
import Derived.Test.YtciobggfefmgnaaCdRef
import Derived.Test.YtciobggfefmgnaaCdNum
import Derived.Test.YtciobggfefmgnaaCdOpen
import Derived.Test.YtciobggfefmgnaaTk
import Derived.Test.YtciobggfefmgnaaRows
import Derived.WalkKit
import Derived.ProofKit
import Derived.OpenShut
import Derived.ShutString
import Derived.ChangeOld
import Derived.Below
namespace Go.Proofs.Ytciobggfefmgnaa.codeEffects
open Go.ChangeShapes Go.WideShapes Go.ChangeAt Go.RowKit
open Go.ChangeMaps (open_string shut_string)
set_option linter.unusedVariables false
set_option maxRecDepth 100000

theorem own : ownKnob Try.prog.godebug = none := by kernel_rfl

set_option linter.unusedSimpArgs false
theorem tgT_few (is : List In) (k : Int) : (tgT is k).length ≤ 1000000 := by
  unfold tgT
  split
  · simp
  · have := tg_few (is := is) (k := k.toNat)
    omega
theorem nums_same {B : Nat} {xs : List Int} {va vb : Value} {w : World} (hB : B ≤ w.heap.size) (ha : NsIn B w va xs) (hb : NsIn B w vb xs) (hl : xs.length ≤ 1000000) :
    Calls Try.prog 13 #[va, vb] w fun e w' => e = .returned (.bool true) ∧ Below w.heap.size w w' := by
  have := nums_calls B xs xs va vb w hB ha hb hl hl
  rwa [decide_eq_true rfl] at this
set_option maxHeartbeats 3200000 in
theorem walk_eff (p l s d at0 : Int) (is : List In) (ia : Option Addr) (ic : Nat) (w : World) (hI : InsIn w.heap.size w (.slice ia is.length ic) is) :
    Calls Try.prog 5 #[.agg #[.int .i64 p, .int .i64 l, .int .i64 s, .int .i64 d, .slice ia is.length ic], .int .i64 at0] w fun e w' => e = .returned (.bool true) ∧ Below w.heap.size w w' := by
  have AL := hid (box_below w (.cells #[.int .i64 p, .int .i64 l, .int .i64 s, .int .i64 d, .slice ia is.length ic] 37))
  have BL := hid (blk_new w 37 #[.int .i64 p, .int .i64 l, .int .i64 s, .int .i64 d, .slice ia is.length ic])
  have HI := hid hI
  clear hI
  have hsz : (w.alloc (.cells #[.int .i64 p, .int .i64 l, .int .i64 s, .int .i64 d, .slice ia is.length ic] 37)).heap.size = w.heap.size + 1 := by simp
  generalize hW : w.alloc (.cells #[.int .i64 p, .int .i64 l, .int .i64 s, .int .i64 d, .slice ia is.length ic] 37) = w1 at *
  have CELLS := hid (fun (W : World) (q : Below w1.heap.size w1 W) => (show W.cell? ⟨w.heap.size, 0, none⟩ = some (.int .i64 p) ∧ W.cell? ⟨w.heap.size, 1, none⟩ = some (.int .i64 l) ∧ W.cell? ⟨w.heap.size, 2, none⟩ = some (.int .i64 s) ∧ W.cell? ⟨w.heap.size, 3, none⟩ = some (.int .i64 d) ∧ W.cell? ⟨w.heap.size, 4, none⟩ = some (.slice ia is.length ic) from
    have h := blk_on BL.out q
    ⟨blk_cellZ h 0 rfl, blk_cellZ h 1 rfl, blk_cellZ h 2 rfl, blk_cellZ h 3 rfl, blk_cellZ h 4 rfl⟩))
  have LOW := hid (fun (W : World) (q : Below w1.heap.size w1 W) => AL.out.trans (q.mono (by omega)))
  have INS := hid (fun (W : World) (q : Below w1.heap.size w1 W) => insIn_on HI.out (LOW.out W q))
  have c4 := (CELLS.out w1 (Below.refl _ _)).2.2.2.2
  by_cases hbig : 400 < is.length
  · have hbig' : (400 : Int) < (is.length : Int) := by omega
    go_enter Try.func5, Try.ntmps5
    go_wp2_with fail
    refine (works14_calls _).mono ?_
    rintro e w2 ⟨rfl, b2⟩
    have B2 := hid (LOW.out _ b2)
    clear b2
    go_wp2_with fail
    go_ret
    exact ⟨rfl, B2.out⟩
  have hn : is.length ≤ 1000000 := by omega
  have hbig' : ¬ (400 : Int) < (is.length : Int) := by omega
  have TG := hid (fun (k : Int) (W : World) (q : Below w1.heap.size w1 W) => targets_calls w.heap.size ⟨p, l, s, d, is⟩ (.slice ia is.length ic) k W (Nat.le_trans (by omega) q.size) (INS.out W q) hn)
  have TD := hid (fun (k : Int) (W : World) (q : Below w1.heap.size w1 W) => dtargets_calls w.heap.size ⟨p, l, s, d, is⟩ (.slice ia is.length ic) k W (Nat.le_trans (by omega) q.size) (INS.out W q) hn)
  simp only [cdV] at TG TD
  go_enter Try.func5, Try.ntmps5
  go_wp2_with fail
  clear c4
  go_loopw [5] (fun iV wr => ∃ i : Nat, i ≤ is.length ∧ iV = .int .i64 i ∧ Hid (Below w1.heap.size w1 wr)) (fun iV _ => is.length - (intOf iV).toNat)
  case atStart => exact ⟨0, by omega, rfl, hid (Below.refl _ _)⟩
  case round =>
    obtain ⟨i, hi, rfl, hL⟩ := hrel
    have c4 := (CELLS.out wr hL.out).2.2.2.2
    by_cases hil : i < is.length
    · obtain ⟨x, hx⟩ : ∃ x, is[i]? = some x := ⟨_, List.getElem?_eq_getElem hil⟩
      have hil' : (i : Int) < (is.length : Int) := by omega
      have XC := hid (fun (W : World) (q : Below w1.heap.size w1 W) => insIn_at (INS.out W q) hx)
      obtain ⟨ib, off, hia, hib, x0, x1, x2⟩ := XC.out wr hL.out
      subst hia
      obtain ⟨o, a, bb⟩ := x
      simp only at x0 x1 x2
      have EF := hid (effect_calls o a bb)
      have ED := hid (deffect_calls o a bb)
      generalize effI o a = E at *
      go_wp2_with fail
      refine (EF.out _).mono ?_
      rintro e w2 ⟨rfl, b2⟩
      have L2 := hid (below_in hL.out (Nat.le_refl _) b2)
      clear b2 x0 x1 x2 c4
      have c4 := (CELLS.out w2 L2.out).2.2.2.2
      obtain ⟨ib', off', he, hib', x0, x1, x2⟩ := XC.out w2 L2.out
      obtain ⟨rfl, rfl⟩ : ib' = ib ∧ off' = off := by
        injection he with he
        injection he with he1 he2
        exact ⟨he1.symm, he2.symm⟩
      simp only at x0 x1 x2
      go_wp2_with fail
      refine (ED.out _).mono ?_
      rintro e w3 ⟨rfl, b3⟩
      have L3 := hid (below_in L2.out (Nat.le_refl _) b3)
      clear b3 x0 x1 x2 c4 he
      obtain ⟨c0, c1, c2, c3, c4⟩ := CELLS.out w3 L3.out
      go_upto_region 8 with fail
      refine wp_region_held_drew (S := fun aZ => aZ.cell? ⟨w.heap.size, 0, none⟩ = some (.int .i64 p) ∧ aZ.cell? ⟨w.heap.size, 1, none⟩ = some (.int .i64 l) ∧ aZ.cell? ⟨w.heap.size, 2, none⟩ = some (.int .i64 s) ∧ aZ.cell? ⟨w.heap.size, 3, none⟩ = some (.int .i64 d) ∧ aZ.cell? ⟨w.heap.size, 4, none⟩ = some (.slice (some ⟨ib', off', none⟩) is.length ic)) (by kernel_rfl) ?_ (fun hHeld => ?_)
      · (refine ⟨?_, ?_, ?_, ?_, ?_⟩ <;> go_simp)
      refine tkk 0 ?_
      refine tkk 1 ?_
      refine tkk 2 ?_
      refine tkk 3 ?_
      refine tkk 4 ?_
      refine tkk 5 ?_
      refine tkk 6 ?_
      refine tkk 7 ?_
      refine tkk 8 ?_
      refine tkk 9 ?_
      refine tkk 10 ?_
      refine tkk 12 ?_
      refine tkk 13 ?_
      refine rdy 11 (fun K hK => ?_)
      go_simp
      refine (TG.out (i : Int) _ (by first | exact L3.out | exact L3.out.drew)).mono ?_
      rintro e w4 ⟨v4, rfl, g4, b4⟩
      have L4 := hid (below_in (show Below w1.heap.size w1 _ by first | exact L3.out | exact L3.out.drew) (Nat.le_refl _) b4)
      have N4 := hid g4.ns
      have Q4 := hid (CELLS.out _ L4.out)
      clear b4 g4
      go_simp
      refine hK.out _ _ Q4.out (fun _ => ?_)
      clear hK K
      try simp only [Act.put, List.setIfInBounds_toArray, List.set_cons_zero, List.set_cons_succ, List.getElem_toArray, List.getElem_cons_succ, List.getElem_cons_zero]
      refine rdy 14 (fun K hK => ?_)
      go_simp
      refine (TD.out (i : Int) _ L4.out).mono ?_
      rintro e w5 ⟨v5, rfl, g5, b5⟩
      have L5 := hid (below_in L4.out (Nat.le_refl _) b5)
      have N5 := hid g5.ns
      have M5 := hid (nsIn_mono (nsIn_on N4.out b5) b5.size)
      have Q5 := hid (CELLS.out _ L5.out)
      clear b5 g5 N4
      go_simp
      refine hK.out _ _ Q5.out (fun _ => ?_)
      clear hK K
      try simp only [Act.put, List.setIfInBounds_toArray, List.set_cons_zero, List.set_cons_succ, List.getElem_toArray, List.getElem_cons_succ, List.getElem_cons_zero]
      refine rdy 15 (fun K hK => ?_)
      go_simp
      refine (nums_same (Nat.le_refl _) M5.out N5.out (tgT_few _ _)).mono ?_
      rintro e w6 ⟨rfl, b6⟩
      have L6 := hid (below_in L5.out (Nat.le_refl _) b6)
      have Q6 := hid (CELLS.out _ L6.out)
      clear b6
      go_simp
      refine hK.out _ _ Q6.out (fun _ => ?_)
      clear hK K
      try simp only [Act.put, List.setIfInBounds_toArray, List.set_cons_zero, List.set_cons_succ, List.getElem_toArray, List.getElem_cons_succ, List.getElem_cons_zero]
      refine tkk 16 ?_
      refine tkk 17 ?_
      refine wpAnyH_done (by kernel_rfl) ?_ _
      go_wp2_with fail
      exact ⟨⟨i + 1, by omega, by simp, hid (by first | exact L6.out | exact L6.out.drew)⟩, by simp [intOf]; omega⟩
    · have hie : i = is.length := by omega
      subst hie
      clear c4
      obtain ⟨c0, c1, c2, c3, c4⟩ := CELLS.out wr hL.out
      go_upto_region 10 with fail
      refine wp_region_held_drew (S := fun aZ => aZ.cell? ⟨w.heap.size, 0, none⟩ = some (.int .i64 p) ∧ aZ.cell? ⟨w.heap.size, 1, none⟩ = some (.int .i64 l) ∧ aZ.cell? ⟨w.heap.size, 2, none⟩ = some (.int .i64 s) ∧ aZ.cell? ⟨w.heap.size, 3, none⟩ = some (.int .i64 d) ∧ aZ.cell? ⟨w.heap.size, 4, none⟩ = some (.slice ia is.length ic)) (by kernel_rfl) ?_ (fun hHeld => ?_)
      · (refine ⟨?_, ?_, ?_, ?_, ?_⟩ <;> go_simp)
      refine tkk 0 ?_
      refine tkk 1 ?_
      refine tkk 3 ?_
      refine tkk 4 ?_
      refine rdy 2 (fun K hK => ?_)
      go_simp
      refine (TG.out at0 _ (by first | exact hL.out | exact hL.out.drew)).mono ?_
      rintro e w4 ⟨v4, rfl, g4, b4⟩
      have L4 := hid (below_in (show Below w1.heap.size w1 _ by first | exact hL.out | exact hL.out.drew) (Nat.le_refl _) b4)
      have N4 := hid g4.ns
      have Q4 := hid (CELLS.out _ L4.out)
      clear b4 g4
      go_simp
      refine hK.out _ _ Q4.out (fun _ => ?_)
      clear hK K
      try simp only [Act.put, List.setIfInBounds_toArray, List.set_cons_zero, List.set_cons_succ, List.getElem_toArray, List.getElem_cons_succ, List.getElem_cons_zero]
      refine rdy 5 (fun K hK => ?_)
      go_simp
      refine (TD.out at0 _ L4.out).mono ?_
      rintro e w5 ⟨v5, rfl, g5, b5⟩
      have L5 := hid (below_in L4.out (Nat.le_refl _) b5)
      have N5 := hid g5.ns
      have M5 := hid (nsIn_mono (nsIn_on N4.out b5) b5.size)
      have Q5 := hid (CELLS.out _ L5.out)
      clear b5 g5 N4
      go_simp
      refine hK.out _ _ Q5.out (fun _ => ?_)
      clear hK K
      try simp only [Act.put, List.setIfInBounds_toArray, List.set_cons_zero, List.set_cons_succ, List.getElem_toArray, List.getElem_cons_succ, List.getElem_cons_zero]
      refine rdy 6 (fun K hK => ?_)
      go_simp
      refine (nums_same (Nat.le_refl _) M5.out N5.out (tgT_few _ _)).mono ?_
      rintro e w6 ⟨rfl, b6⟩
      have L6 := hid (below_in L5.out (Nat.le_refl _) b6)
      have Q6 := hid (CELLS.out _ L6.out)
      clear b6
      go_simp
      refine hK.out _ _ Q6.out (fun _ => ?_)
      clear hK K
      try simp only [Act.put, List.setIfInBounds_toArray, List.set_cons_zero, List.set_cons_succ, List.getElem_toArray, List.getElem_cons_succ, List.getElem_cons_zero]
      refine tkk 7 ?_
      refine rdy 8 (fun K hK => ?_)
      go_simp
      refine (works14_calls _).mono ?_
      rintro e w7 ⟨rfl, b7⟩
      have L7 := hid (below_in L6.out (Nat.le_refl _) b7)
      have Q7 := hid (CELLS.out _ L7.out)
      clear b7
      go_simp
      refine hK.out _ _ Q7.out (fun _ => ?_)
      clear hK K
      try simp only [Act.put, List.setIfInBounds_toArray, List.set_cons_zero, List.set_cons_succ, List.getElem_toArray, List.getElem_cons_succ, List.getElem_cons_zero]
      refine tkk 9 ?_
      refine tkk 10 ?_
      refine wpAnyH_done (by kernel_rfl) ?_ _
      go_wp2_with fail
      go_ret
      exact ⟨rfl, by first | exact LOW.out _ L7.out | exact (LOW.out _ L7.out).drew⟩

theorem walk (c0 : Cd) (iv0 : Value) (a1 : Int) (w : World) (w0 : Hid (InsIn w.heap.size w iv0 c0.ins)) (w1 : (Lit.int .i64 a1).wf = true) :
    Calls Try.prog 5 #[.agg #[.int .i64 c0.p, .int .i64 c0.l, .int .i64 c0.s, .int .i64 c0.d, iv0], .int .i64 a1] w fun e w' => e = .returned (.bool true) ∧ Below w.heap.size w w' := by
  obtain ⟨p, l, s, d, is⟩ := c0
  obtain ⟨ia, ic, rfl⟩ := insIn_shape w0.out
  exact walk_eff p l s d a1 is ia ic w w0.out

set_option maxRecDepth 100000 in
theorem lifted (os : Os) (started : os.Started) (H : Type) (enc : TypeId × Value → H) :
    ReturnsInHanded {} Try.checked os 5 .any (Rows.codeEffectsSpec.pre6 enc Try.prog Try.f5 Rows.codeEffectsRow.domain false) (Rows.codeEffectsSpec.post enc Try.prog Try.f5 false true false false) := by
  refine returnsInHanded_of_change (C := Try.checked) own started (by kernel_rfl) Try.func5
    (ChangeSpec.witness6 (enc := enc) (C := Try.checked) false ⟨#[], #[.agg #[.int .i64 0, .int .i64 0, .int .i64 0, .int .i64 0, .slice none 0 0], .int .i64 0], []⟩ 8 (by kernel_rfl) (by kernel_rfl) (by kernel_rfl) (by kernel_rfl)) ?_
  intro W base args ds gs before hval0 hW hcnd _
  have hval : ∀ (j : Nat) t v, Try.f5.params[j]? = some t → args[j]? = some v → Value.okWide Try.prog W .any base t v := hval0
  have hW' := hW
  obtain ⟨p, q, hA0, hV, rfl, hfz, hnd⟩ := hW
  have hA : DataW.TrodAll enc Try.prog W 0 (fun _ => true) true Try.f5.params.toList args.toList ds p := hA0
  rw [Try.params5] at hA hval
  obtain ⟨v0, vs0, d0, ds0, p0, q0, hargs, rfl, rfl, h0, r0⟩ := trodAll_cons hA
  obtain ⟨v1, vs1, d1, ds1, p1, q1, rfl, rfl, rfl, h1, r1⟩ := trodAll_cons r0
  obtain ⟨rfl, rfl, rfl⟩ := trodAll_nil r1
  obtain rfl : args = #[v0, v1] := by cases args; simp_all
  obtain ⟨rfl, rfl⟩ := trodVars_none hV
  have hk0 := h0
  have hlt0 : ∀ x ∈ p0, x.block < W.heap.size := fun x hx => by simpa using hW'.lt x (by simp [hx])
  obtain ⟨c0, iv0, rfl, w0⟩ := open_code (hval 0 37 v0 rfl rfl) h0
  obtain ⟨a1, rfl, rfl, rfl, w1⟩ := open_int Try.underlying3 (hval 1 3 v1 rfl rfl) h1
  clear hA0 hval0
  refine (walk c0 iv0 a1 W w0 w1).mono fun e W' ⟨he, hg⟩ => ?_
  subst he
  exact ⟨_, rfl, _, _, _, [], _, [], hW', trodAll_mk1 (shut_bool Try.underlying4 _), (trodAll_cons_mk (Below.trod laidOutC (by kernel_rfl) (of_decide_eq_true (by kernel_rfl)) hk0 hg hlt0) (trodAll_cons_mk (shut_int Try.underlying3 w1) trodAll_mk0)), rfl, hg.frame _, fun h => by cases h⟩

theorem over : Rows.codeEffectsRow.holds Try.pinned (OpenSpec.ofChange Rows.codeEffectsSpec) :=
  OpenClaim.holds_of_wide 5 Try.f5 rfl rfl rfl rfl rfl rfl rfl ⟨rfl, rfl, rfl, rfl, rfl⟩ rfl rfl rfl rfl rfl (by kernel_rfl) Try.func5 (by kernel_rfl)
    (of_decide_eq_true (by kernel_rfl)) (by unfold Func.isWrapper; first | (rw [if_pos (by decide +kernel)]; kernel_rfl) | (rw [if_neg (by decide +kernel)]; exact ⟨rfl, rfl⟩))
    (fun os started H enc _ => lifted os started H enc)

end Go.Proofs.Ytciobggfefmgnaa.codeEffects
namespace Go.Proofs.Ytciobggfefmgnaa

/-- the statement, as it was given -/
theorem codeEffects_holds : Rows.CodeEffectsSaid :=
  codeEffects.over
#print axioms codeEffects_holds
end Go.Proofs.Ytciobggfefmgnaa
