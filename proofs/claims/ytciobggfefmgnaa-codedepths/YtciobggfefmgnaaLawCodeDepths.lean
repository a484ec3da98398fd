/- The stack's depths in any program of at most 400 instructions are as the document says, in each of its codes and at any number asked for (of longer programs the law asks its own test alone): CodeDepths is true for every input; no condition. -/
import Derived.Test.YtciobggfefmgnaaCdWork
import Derived.Test.YtciobggfefmgnaaCdRCk
import Derived.Test.YtciobggfefmgnaaCdNum
import Derived.Test.YtciobggfefmgnaaCdOpen
import Derived.Test.YtciobggfefmgnaaTk
import Derived.Test.YtciobggfefmgnaaRows
import Derived.WalkKit
import Derived.ProofKit
import Derived.OpenShut
import Derived.ShutString
import Derived.ChangeOld
import Derived.Below
namespace Go.Proofs.Ytciobggfefmgnaa.codeDepths
open Go.ChangeShapes Go.WideShapes Go.ChangeAt Go.RowKit
open Go.ChangeMaps (open_string shut_string)
set_option linter.unusedVariables false
set_option maxRecDepth 100000

theorem own : ownKnob Try.prog.godebug = none := by kernel_rfl

set_option linter.unusedSimpArgs false
set_option linter.unusedVariables false
theorem dpt_unique {P : Pg} {f : Int} {ds es : List Int} (h : DptOut P f ds) (k : DptOut P f es) : ds = es := by
  rcases h with ⟨j, rfl, hp, c, hc, hF⟩ | ⟨h1, h2⟩
  · have hl := (List.getElem?_eq_some_iff.1 hc).1
    rcases k with ⟨i, hi, _, d, hd, hE⟩ | ⟨_, h3⟩
    · obtain rfl : j = i := by omega
      rw [hc] at hd
      obtain rfl := Option.some.inj hd
      exact flow_unique hF hE
    · exact absurd ⟨by omega, by omega, hp⟩ h3
  · rcases k with ⟨i, hi, hp, d, hd, hE⟩ | ⟨h3, _⟩
    · have hl := (List.getElem?_eq_some_iff.1 hd).1
      exact absurd ⟨by omega, by omega, hp⟩ h2
    · rw [h1, h3]
theorem dpt_few {P : Pg} {f : Int} {ds : List Int} (hf : FewG P) (h : DptOut P f ds) : ds.length ≤ 1000000 := by
  rcases h with ⟨j, rfl, hp, c, hc, hF⟩ | ⟨h1, h2⟩
  · have := hf.2.2 c (List.mem_of_getElem? hc)
    have := hF.1
    omega
  · rw [h1]; simp
theorem nums_same {B : Nat} {xs : List Int} {va vb : Value} {w : World} (hB : B ≤ w.heap.size) (ha : NsIn B w va xs) (hb : NsIn B w vb xs) (hl : xs.length ≤ 1000000) :
    Calls Try.prog 13 #[va, vb] w fun e w' => e = .returned (.bool true) ∧ Below w.heap.size w w' := by
  have := nums_calls B xs xs va vb w hB ha hb hl hl
  rwa [decide_eq_true rfl] at this
set_option maxHeartbeats 6400000 in
theorem walk_dep (G f : Int) (ss : List ByteArray) (cs : List Cd) (pa ca : Option Addr) (pc cc : Nat) (w : World) (hP : PlIn w.heap.size w (.slice pa ss.length pc) ss) (hS : ∀ s ∈ ss, s.size ≤ maxLen) (hC : CdsIn w.heap.size w (.slice ca cs.length cc) cs) :
    Calls Try.prog 4 #[.agg #[.int .i64 G, .slice pa ss.length pc, .slice ca cs.length cc], .int .i64 f] w fun e w' => e = .returned (.bool true) ∧ Below w.heap.size w w' := by
  have FW := hid (fun W (q : Below w.heap.size w W) => cfew_calls w.heap.size ⟨G, ss, cs⟩ (.slice pa ss.length pc) (.slice ca cs.length cc) W q.size (plIn_on hP q) (cdsIn_on hC q))
  have PG := hid (show FewG ⟨G, ss, cs⟩ → PgIn w.heap.size w ⟨G, ss, cs⟩ (.slice pa ss.length pc) (.slice ca cs.length cc) from fun h => ⟨hP, hC, ⟨Nat.le_trans h.1 (by decide), Nat.le_trans h.2.1 (by decide)⟩, fun c hc => Nat.le_trans (h.2.2 c hc) (by decide), hS⟩)
  simp only [pgV] at FW
  clear hP hC hS
  have AL := hid (box_below w (.cells #[.int .i64 G, .slice pa ss.length pc, .slice ca cs.length cc] 25))
  have BL := hid (blk_new w 25 #[.int .i64 G, .slice pa ss.length pc, .slice ca cs.length cc])
  have hsz : (w.alloc (.cells #[.int .i64 G, .slice pa ss.length pc, .slice ca cs.length cc] 25)).heap.size = w.heap.size + 1 := by simp
  generalize hW : w.alloc (.cells #[.int .i64 G, .slice pa ss.length pc, .slice ca cs.length cc] 25) = w1 at *
  have LOW := hid (fun (W : World) (q : Below w1.heap.size w1 W) => AL.out.trans (q.mono (by omega)))
  have CELLS := hid (fun (W : World) (q : Below w1.heap.size w1 W) => (show W.cell? ⟨w.heap.size, 0, none⟩ = some (.int .i64 G) ∧ W.cell? ⟨w.heap.size, 1, none⟩ = some (.slice pa ss.length pc) ∧ W.cell? ⟨w.heap.size, 2, none⟩ = some (.slice ca cs.length cc) from
    have h := blk_on BL.out q
    ⟨blk_cellZ h 0 rfl, blk_cellZ h 1 rfl, blk_cellZ h 2 rfl⟩))
  obtain ⟨p0, p1, p2⟩ := CELLS.out w1 (Below.refl _ _)
  go_enter Try.func4, Try.ntmps4
  go_wp2_with fail
  refine (FW.out _ AL.out).mono ?_
  rintro e w2 ⟨⟨r, rfl, hfew⟩, b2⟩
  have L2 := hid b2
  clear b2 p0 p1 p2
  cases r with
  | false =>
    clear hfew
    go_wp2_with fail
    refine (works14_calls _).mono ?_
    rintro e w3 ⟨rfl, b3⟩
    have B3 := hid (LOW.out _ (below_in L2.out (Nat.le_refl _) b3))
    clear b3
    go_wp2_with fail
    go_ret
    exact ⟨rfl, B3.out⟩
  | true =>
  have FEW := hid (hfew rfl)
  replace PG := hid (PG.out (hfew rfl))
  clear hfew
  have hfw := PG.out.few
  simp only at hfw
  have DP := hid (fun (f : Int) W (q : Below w.heap.size w W) => cdepths_calls w.heap.size ⟨G, ss, cs⟩ (.slice pa ss.length pc) (.slice ca cs.length cc) f W q.size (PG.out.on q))
  have DQ := hid (fun (f : Int) W (q : Below w.heap.size w W) => rdepths_calls w.heap.size ⟨G, ss, cs⟩ (.slice pa ss.length pc) (.slice ca cs.length cc) f W q.size (PG.out.on q))
  simp only [pgV] at DP DQ
  go_wp2_with fail
  go_loopw [5] (fun iV wr => ∃ i : Nat, i ≤ cs.length ∧ iV = .int .i64 i ∧ Hid (Below w1.heap.size w1 wr)) (fun iV _ => cs.length - (intOf iV).toNat)
  case atStart => exact ⟨0, by omega, rfl, L2⟩
  case round =>
    obtain ⟨i, hi, rfl, hL⟩ := hrel
    rename World => wo
    obtain ⟨p0, p1, p2⟩ := CELLS.out wo hL.out
    by_cases hil : i < cs.length
    · have hil' : (i : Int) < (cs.length : Int) := by omega
      go_upto_region 6 with fail
      refine wp_region_held_drew (S := fun aZ => aZ.cell? ⟨w.heap.size, 0, none⟩ = some (.int .i64 G) ∧ aZ.cell? ⟨w.heap.size, 1, none⟩ = some (.slice pa ss.length pc) ∧ aZ.cell? ⟨w.heap.size, 2, none⟩ = some (.slice ca cs.length cc)) (by kernel_rfl) ?_ (fun hHeld => ?_)
      · (refine ⟨?_, ?_, ?_⟩ <;> go_simp)
      refine tkk 0 ?_
      refine tkk 1 ?_
      refine tkk 3 ?_
      refine tkk 4 ?_
      refine rdy 2 (fun K hK => ?_)
      go_simp
      refine (DP.out (i : Int) _ (LOW.out _ (show Below w1.heap.size w1 _ by first | exact hL.out | exact hL.out.drew))).mono ?_
      rintro e w4 ⟨⟨v4, ds, rfl, o4, n4⟩, b4⟩
      have L4 := hid (below_in (show Below w1.heap.size w1 _ by first | exact hL.out | exact hL.out.drew) (Nat.le_refl _) b4)
      have N4 := hid n4
      have Q4 := hid (CELLS.out _ L4.out)
      clear b4 n4
      go_simp
      refine hK.out _ _ Q4.out (fun _ => ?_)
      clear hK K
      try simp only [Act.put, List.setIfInBounds_toArray, List.set_cons_zero, List.set_cons_succ, List.getElem_toArray, List.getElem_cons_succ, List.getElem_cons_zero]
      refine rdy 5 (fun K hK => ?_)
      go_simp
      refine (DQ.out (i : Int) _ (LOW.out _ L4.out)).mono ?_
      rintro e w5 ⟨⟨v5, es, rfl, o5, n5⟩, b5⟩
      obtain rfl := dpt_unique o4 o5
      have hlen := dpt_few FEW.out o4
      have L5 := hid (below_in L4.out (Nat.le_refl _) b5)
      have N5 := hid n5
      have M5 := hid (nsIn_mono (nsIn_on N4.out b5) b5.size)
      have Q5 := hid (CELLS.out _ L5.out)
      clear b5 n5 N4 o4 o5
      go_simp
      refine hK.out _ _ Q5.out (fun _ => ?_)
      clear hK K
      try simp only [Act.put, List.setIfInBounds_toArray, List.set_cons_zero, List.set_cons_succ, List.getElem_toArray, List.getElem_cons_succ, List.getElem_cons_zero]
      refine rdy 6 (fun K hK => ?_)
      go_simp
      refine (nums_same (Nat.le_refl _) M5.out N5.out hlen).mono ?_
      rintro e w6 ⟨rfl, b6⟩
      have L6 := hid (below_in L5.out (Nat.le_refl _) b6)
      have Q6 := hid (CELLS.out _ L6.out)
      clear b6
      go_simp
      refine hK.out _ _ Q6.out (fun _ => ?_)
      clear hK K
      try simp only [Act.put, List.setIfInBounds_toArray, List.set_cons_zero, List.set_cons_succ, List.getElem_toArray, List.getElem_cons_succ, List.getElem_cons_zero]
      refine tkk 7 ?_
      refine wpAnyH_done (by kernel_rfl) ?_ _
      go_wp2_with fail
      exact ⟨⟨i + 1, by omega, by simp, hid (by first | exact L6.out | exact L6.out.drew)⟩, by simp [intOf]; omega⟩
    · have hie : i = cs.length := by omega
      subst hie
      go_upto_region 8 with fail
      refine wp_region_held_drew (S := fun aZ => aZ.cell? ⟨w.heap.size, 0, none⟩ = some (.int .i64 G) ∧ aZ.cell? ⟨w.heap.size, 1, none⟩ = some (.slice pa ss.length pc) ∧ aZ.cell? ⟨w.heap.size, 2, none⟩ = some (.slice ca cs.length cc)) (by kernel_rfl) ?_ (fun hHeld => ?_)
      · (refine ⟨?_, ?_, ?_⟩ <;> go_simp)
      refine tkk 0 ?_
      refine tkk 1 ?_
      refine tkk 3 ?_
      refine tkk 4 ?_
      refine rdy 2 (fun K hK => ?_)
      go_simp
      refine (DP.out f _ (LOW.out _ (show Below w1.heap.size w1 _ by first | exact hL.out | exact hL.out.drew))).mono ?_
      rintro e w4 ⟨⟨v4, ds, rfl, o4, n4⟩, b4⟩
      have L4 := hid (below_in (show Below w1.heap.size w1 _ by first | exact hL.out | exact hL.out.drew) (Nat.le_refl _) b4)
      have N4 := hid n4
      have Q4 := hid (CELLS.out _ L4.out)
      clear b4 n4
      go_simp
      refine hK.out _ _ Q4.out (fun _ => ?_)
      clear hK K
      try simp only [Act.put, List.setIfInBounds_toArray, List.set_cons_zero, List.set_cons_succ, List.getElem_toArray, List.getElem_cons_succ, List.getElem_cons_zero]
      refine rdy 5 (fun K hK => ?_)
      go_simp
      refine (DQ.out f _ (LOW.out _ L4.out)).mono ?_
      rintro e w5 ⟨⟨v5, es, rfl, o5, n5⟩, b5⟩
      obtain rfl := dpt_unique o4 o5
      have hlen := dpt_few FEW.out o4
      have L5 := hid (below_in L4.out (Nat.le_refl _) b5)
      have N5 := hid n5
      have M5 := hid (nsIn_mono (nsIn_on N4.out b5) b5.size)
      have Q5 := hid (CELLS.out _ L5.out)
      clear b5 n5 N4 o4 o5
      go_simp
      refine hK.out _ _ Q5.out (fun _ => ?_)
      clear hK K
      try simp only [Act.put, List.setIfInBounds_toArray, List.set_cons_zero, List.set_cons_succ, List.getElem_toArray, List.getElem_cons_succ, List.getElem_cons_zero]
      refine rdy 6 (fun K hK => ?_)
      go_simp
      refine (nums_same (Nat.le_refl _) M5.out N5.out hlen).mono ?_
      rintro e w6 ⟨rfl, b6⟩
      have L6 := hid (below_in L5.out (Nat.le_refl _) b6)
      have Q6 := hid (CELLS.out _ L6.out)
      clear b6
      go_simp
      refine hK.out _ _ Q6.out (fun _ => ?_)
      clear hK K
      try simp only [Act.put, List.setIfInBounds_toArray, List.set_cons_zero, List.set_cons_succ, List.getElem_toArray, List.getElem_cons_succ, List.getElem_cons_zero]
      refine tkk 7 ?_
      refine rdy 8 (fun K hK => ?_)
      go_simp
      refine (works14_calls _).mono ?_
      rintro e w7 ⟨rfl, b7⟩
      have L7 := hid (below_in L6.out (Nat.le_refl _) b7)
      have Q7 := hid (CELLS.out _ L7.out)
      clear b7
      go_simp
      refine hK.out _ _ Q7.out (fun _ => ?_)
      clear hK K
      try simp only [Act.put, List.setIfInBounds_toArray, List.set_cons_zero, List.set_cons_succ, List.getElem_toArray, List.getElem_cons_succ, List.getElem_cons_zero]
      refine tkk 9 ?_
      refine tkk 10 ?_
      refine wpAnyH_done (by kernel_rfl) ?_ _
      go_wp2_with fail
      go_ret
      exact ⟨rfl, by first | exact LOW.out _ L7.out | exact (LOW.out _ L7.out).drew⟩

theorem walk (G0 : Int) (pv0 cv0 : Value) (ss0 : List ByteArray) (cs0 : List Cd) (a1 : Int) (w : World) (w0 : Hid ((PlIn w.heap.size w pv0 ss0 ∧ ∀ s ∈ ss0, s.size ≤ maxLen) ∧ CdsIn w.heap.size w cv0 cs0)) (w1 : (Lit.int .i64 a1).wf = true) :
    Calls Try.prog 4 #[.agg #[.int .i64 G0, pv0, cv0], .int .i64 a1] w fun e w' => e = .returned (.bool true) ∧ Below w.heap.size w w' := by
  obtain ⟨pa, pc, rfl⟩ := plIn_shape w0.out.1.1
  obtain ⟨ca, cc, rfl⟩ := cdsIn_shape w0.out.2
  exact walk_dep G0 a1 ss0 cs0 pa ca pc cc w w0.out.1.1 w0.out.1.2 w0.out.2

set_option maxRecDepth 100000 in
theorem lifted (os : Os) (started : os.Started) (H : Type) (enc : TypeId × Value → H) :
    ReturnsInHanded {} Try.checked os 4 .any (Rows.codeDepthsSpec.pre6 enc Try.prog Try.f4 Rows.codeDepthsRow.domain false) (Rows.codeDepthsSpec.post enc Try.prog Try.f4 false true false false) := by
  refine returnsInHanded_of_change (C := Try.checked) own started (by kernel_rfl) Try.func4
    (ChangeSpec.witness6 (enc := enc) (C := Try.checked) false ⟨#[], #[.agg #[.int .i64 0, .slice none 0 0, .slice none 0 0], .int .i64 0], []⟩ 8 (by kernel_rfl) (by kernel_rfl) (by kernel_rfl) (by kernel_rfl)) ?_
  intro W base args ds gs before hval0 hW hcnd _
  have hval : ∀ (j : Nat) t v, Try.f4.params[j]? = some t → args[j]? = some v → Value.okWide Try.prog W .any base t v := hval0
  have hW' := hW
  obtain ⟨p, q, hA0, hV, rfl, hfz, hnd⟩ := hW
  have hA : DataW.TrodAll enc Try.prog W 0 (fun _ => true) true Try.f4.params.toList args.toList ds p := hA0
  rw [Try.params4] at hA hval
  obtain ⟨v0, vs0, d0, ds0, p0, q0, hargs, rfl, rfl, h0, r0⟩ := trodAll_cons hA
  obtain ⟨v1, vs1, d1, ds1, p1, q1, rfl, rfl, rfl, h1, r1⟩ := trodAll_cons r0
  obtain ⟨rfl, rfl, rfl⟩ := trodAll_nil r1
  obtain rfl : args = #[v0, v1] := by cases args; simp_all
  obtain ⟨rfl, rfl⟩ := trodVars_none hV
  have hk0 := h0
  have hlt0 : ∀ x ∈ p0, x.block < W.heap.size := fun x hx => by simpa using hW'.lt x (by simp [hx])
  obtain ⟨G0, pv0, cv0, ss0, cs0, rfl, w0⟩ := open_prog (hval 0 25 v0 rfl rfl) h0
  obtain ⟨a1, rfl, rfl, rfl, w1⟩ := open_int Try.underlying3 (hval 1 3 v1 rfl rfl) h1
  clear hA0 hval0
  refine (walk G0 pv0 cv0 ss0 cs0 a1 W w0 w1).mono fun e W' ⟨he, hg⟩ => ?_
  subst he
  exact ⟨_, rfl, _, _, _, [], _, [], hW', trodAll_mk1 (shut_bool Try.underlying4 _), (trodAll_cons_mk (Below.trod laidOutC (by kernel_rfl) (of_decide_eq_true (by kernel_rfl)) hk0 hg hlt0) (trodAll_cons_mk (shut_int Try.underlying3 w1) trodAll_mk0)), rfl, hg.frame _, fun h => by cases h⟩

theorem over : Rows.codeDepthsRow.holds Try.pinned (OpenSpec.ofChange Rows.codeDepthsSpec) :=
  OpenClaim.holds_of_wide 4 Try.f4 rfl rfl rfl rfl rfl rfl rfl ⟨rfl, rfl, rfl, rfl, rfl⟩ rfl rfl rfl rfl rfl (by kernel_rfl) Try.func4 (by kernel_rfl)
    (of_decide_eq_true (by kernel_rfl)) (by unfold Func.isWrapper; first | (rw [if_pos (by decide +kernel)]; kernel_rfl) | (rw [if_neg (by decide +kernel)]; exact ⟨rfl, rfl⟩))
    (fun os started H enc _ => lifted os started H enc)

end Go.Proofs.Ytciobggfefmgnaa.codeDepths
namespace Go.Proofs.Ytciobggfefmgnaa

/-- the statement, as it was given -/
theorem codeDepths_holds : Rows.CodeDepthsSaid :=
  codeDepths.over
#print axioms codeDepths_holds
end Go.Proofs.Ytciobggfefmgnaa
