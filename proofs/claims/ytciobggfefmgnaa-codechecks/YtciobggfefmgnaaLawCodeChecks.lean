/- Whether any program of at most 400 instructions may be, and whether any two such are alike, is as the document says, and each is like itself (of longer programs the law asks its own test alone): CodeChecks is true for every input; no condition. -/
import Derived.Test.YtciobggfefmgnaaCdWork
import Derived.Test.YtciobggfefmgnaaCdRCk
import Derived.Test.YtciobggfefmgnaaCdRSame
import Derived.Test.YtciobggfefmgnaaCdOpen
import Derived.Test.YtciobggfefmgnaaTk
import Derived.Test.YtciobggfefmgnaaRows
import Derived.WalkKit
import Derived.ProofKit
import Derived.OpenShut
import Derived.ShutString
import Derived.ChangeOld
import Derived.Below
namespace Go.Proofs.Ytciobggfefmgnaa.codeChecks
open Go.ChangeShapes Go.WideShapes Go.ChangeAt Go.RowKit
open Go.ChangeMaps (open_string shut_string)
set_option linter.unusedVariables false
set_option maxRecDepth 100000

theorem own : ownKnob Try.prog.godebug = none := by kernel_rfl

set_option linter.unusedSimpArgs false
set_option linter.unusedVariables false
theorem pgs_of {B : Nat} {w : World} {P : Pg} {pv cv : Value} (h : PgIn B w P pv cv) : PgS B w P pv cv := ⟨h.pool, h.codes, h.few, h.ins⟩
set_option maxHeartbeats 6400000 in
theorem walk_chk (G G' : Int) (ss ss' : List ByteArray) (cs cs' : List Cd) (pa ca pa' ca' : Option Addr) (pc cc pc' cc' : Nat) (w : World) (hP : PlIn w.heap.size w (.slice pa ss.length pc) ss) (hS : ∀ s ∈ ss, s.size ≤ maxLen) (hC : CdsIn w.heap.size w (.slice ca cs.length cc) cs)
    (hP' : PlIn w.heap.size w (.slice pa' ss'.length pc') ss') (hS' : ∀ s ∈ ss', s.size ≤ maxLen) (hC' : CdsIn w.heap.size w (.slice ca' cs'.length cc') cs') :
    Calls Try.prog 3 #[.agg #[.int .i64 G, .slice pa ss.length pc, .slice ca cs.length cc], .agg #[.int .i64 G', .slice pa' ss'.length pc', .slice ca' cs'.length cc']] w fun e w' => e = .returned (.bool true) ∧ Below w.heap.size w w' := by
  have FW := hid (fun W (q : Below w.heap.size w W) => cfew_calls w.heap.size ⟨G, ss, cs⟩ (.slice pa ss.length pc) (.slice ca cs.length cc) W q.size (plIn_on hP q) (cdsIn_on hC q))
  have FW' := hid (fun W (q : Below w.heap.size w W) => cfew_calls w.heap.size ⟨G', ss', cs'⟩ (.slice pa' ss'.length pc') (.slice ca' cs'.length cc') W q.size (plIn_on hP' q) (cdsIn_on hC' q))
  have PG := hid (show FewG ⟨G, ss, cs⟩ → PgIn w.heap.size w ⟨G, ss, cs⟩ (.slice pa ss.length pc) (.slice ca cs.length cc) from fun h => ⟨hP, hC, ⟨Nat.le_trans h.1 (by decide), Nat.le_trans h.2.1 (by decide)⟩, fun c hc => Nat.le_trans (h.2.2 c hc) (by decide), hS⟩)
  have PG' := hid (show FewG ⟨G', ss', cs'⟩ → PgIn w.heap.size w ⟨G', ss', cs'⟩ (.slice pa' ss'.length pc') (.slice ca' cs'.length cc') from fun h => ⟨hP', hC', ⟨Nat.le_trans h.1 (by decide), Nat.le_trans h.2.1 (by decide)⟩, fun c hc => Nat.le_trans (h.2.2 c hc) (by decide), hS'⟩)
  simp only [pgV] at FW FW'
  clear hP hC hS hP' hC' hS'
  have T := two_box w 25 25 #[.int .i64 G, .slice pa ss.length pc, .slice ca cs.length cc] #[.int .i64 G', .slice pa' ss'.length pc', .slice ca' cs'.length cc']
  have AL := hid T.2.2
  have T1 := hid T.1
  have T2 := hid T.2.1
  have hsz : ((w.alloc (.cells #[.int .i64 G, .slice pa ss.length pc, .slice ca cs.length cc] 25)).alloc (.cells #[.int .i64 G', .slice pa' ss'.length pc', .slice ca' cs'.length cc'] 25)).heap.size = w.heap.size + 2 := by simp
  clear T
  go_enter Try.func3, Try.ntmps3
  go_upto_region 1 with fail
  generalize hW : (w.alloc (.cells #[.int .i64 G, .slice pa ss.length pc, .slice ca cs.length cc] 25)).alloc (.cells #[.int .i64 G', .slice pa' ss'.length pc', .slice ca' cs'.length cc'] 25) = w2 at *
  have LOW := hid (fun (W : World) (q : Below w2.heap.size w2 W) => AL.out.trans (q.mono (by omega)))
  have CELLS := hid (fun (W : World) (q : Below w2.heap.size w2 W) => (show W.cell? ⟨w.heap.size, 0, none⟩ = some (.int .i64 G) ∧ W.cell? ⟨w.heap.size, 1, none⟩ = some (.slice pa ss.length pc) ∧ W.cell? ⟨w.heap.size, 2, none⟩ = some (.slice ca cs.length cc) ∧ W.cell? ⟨w.heap.size + 1, 0, none⟩ = some (.int .i64 G') ∧ W.cell? ⟨w.heap.size + 1, 1, none⟩ = some (.slice pa' ss'.length pc') ∧ W.cell? ⟨w.heap.size + 1, 2, none⟩ = some (.slice ca' cs'.length cc') from
    have h := blk_on T1.out q
    have k := blk_on T2.out q
    ⟨blk_cellZ h 0 rfl, blk_cellZ h 1 rfl, blk_cellZ h 2 rfl, blk_cellZ k 0 rfl, blk_cellZ k 1 rfl, blk_cellZ k 2 rfl⟩))
  obtain ⟨p0, p1, p2, q0, q1, q2⟩ := CELLS.out w2 (Below.refl _ _)
  go_wp2_with fail
  refine (FW.out _ AL.out).mono ?_
  rintro e w3 ⟨⟨r, rfl, hfew⟩, b3⟩
  have L3 := hid b3
  clear b3 p0 p1 p2 q0 q1 q2
  cases r with
  | false =>
    clear hfew
    go_wp2_with fail
    refine (works14_calls _).mono ?_
    rintro e wf ⟨rfl, bf⟩
    have BF := hid (LOW.out _ (below_in L3.out (Nat.le_refl _) bf))
    clear bf
    go_wp2_with fail
    go_ret
    exact ⟨rfl, BF.out⟩
  | true =>
  replace PG := hid (PG.out (hfew rfl))
  clear hfew
  obtain ⟨p0, p1, p2, q0, q1, q2⟩ := CELLS.out w3 L3.out
  go_wp2_with fail
  refine (FW'.out _ (LOW.out _ L3.out)).mono ?_
  rintro e w4 ⟨⟨r, rfl, hfew⟩, b4⟩
  have L4 := hid (below_in L3.out (Nat.le_refl _) b4)
  clear b4 p0 p1 p2 q0 q1 q2
  cases r with
  | false =>
    clear hfew
    go_wp2_with fail
    refine (works14_calls _).mono ?_
    rintro e wf ⟨rfl, bf⟩
    have BF := hid (LOW.out _ (below_in L4.out (Nat.le_refl _) bf))
    clear bf
    go_wp2_with fail
    go_ret
    exact ⟨rfl, BF.out⟩
  | true =>
  replace PG' := hid (PG'.out (hfew rfl))
  clear hfew
  have CKP := hid (fun W (q : Below w.heap.size w W) => ccheck_calls w.heap.size ⟨G, ss, cs⟩ (.slice pa ss.length pc) (.slice ca cs.length cc) W q.size (PG.out.on q))
  have CKD := hid (fun W (q : Below w.heap.size w W) => dcheck_calls w.heap.size ⟨G, ss, cs⟩ (.slice pa ss.length pc) (.slice ca cs.length cc) W q.size (PG.out.on q))
  have SMP := hid (fun W (q : Below w.heap.size w W) => csame_calls w.heap.size ⟨G, ss, cs⟩ ⟨G', ss', cs'⟩ (.slice pa ss.length pc) (.slice ca cs.length cc) (.slice pa' ss'.length pc') (.slice ca' cs'.length cc') W q.size (pgs_of (PG.out.on q)) (pgs_of (PG'.out.on q)))
  have SMD := hid (fun W (q : Below w.heap.size w W) => dsame_calls w.heap.size ⟨G, ss, cs⟩ ⟨G', ss', cs'⟩ (.slice pa ss.length pc) (.slice ca cs.length cc) (.slice pa' ss'.length pc') (.slice ca' cs'.length cc') W q.size (pgs_of (PG.out.on q)) (pgs_of (PG'.out.on q)))
  have SMS := hid (fun W (q : Below w.heap.size w W) => csame_calls w.heap.size ⟨G, ss, cs⟩ ⟨G, ss, cs⟩ (.slice pa ss.length pc) (.slice ca cs.length cc) (.slice pa ss.length pc) (.slice ca cs.length cc) W q.size (pgs_of (PG.out.on q)) (pgs_of (PG.out.on q)))
  simp only [pgV] at CKP CKD SMP SMD SMS
  obtain ⟨p0, p1, p2, q0, q1, q2⟩ := CELLS.out w4 L4.out
  go_upto_region 3 with fail
  refine wp_region_held_drew (S := fun aZ => aZ.cell? ⟨w.heap.size, 0, none⟩ = some (.int .i64 G) ∧ aZ.cell? ⟨w.heap.size, 1, none⟩ = some (.slice pa ss.length pc) ∧ aZ.cell? ⟨w.heap.size, 2, none⟩ = some (.slice ca cs.length cc) ∧ aZ.cell? ⟨w.heap.size + 1, 0, none⟩ = some (.int .i64 G') ∧ aZ.cell? ⟨w.heap.size + 1, 1, none⟩ = some (.slice pa' ss'.length pc') ∧ aZ.cell? ⟨w.heap.size + 1, 2, none⟩ = some (.slice ca' cs'.length cc')) (by kernel_rfl) ?_ (fun hHeld => ?_)
  · (refine ⟨?_, ?_, ?_, ?_, ?_, ?_⟩ <;> go_simp)
  refine tkk 0 ?_
  refine tkk 2 ?_
  refine rdy 1 (fun K hK => ?_)
  go_simp
  refine (CKP.out _ (LOW.out _ (show Below w2.heap.size w2 _ by first | exact L4.out | exact L4.out.drew))).mono ?_
  rintro e w5 ⟨⟨r5, rfl, h5⟩, b5⟩
  have L5 := hid (below_in (show Below w2.heap.size w2 _ by first | exact L4.out | exact L4.out.drew) (Nat.le_refl _) b5)
  have Q5 := hid (CELLS.out _ L5.out)
  clear b5
  go_simp
  refine hK.out _ _ Q5.out (fun _ => ?_)
  clear hK K
  try simp only [Act.put, List.setIfInBounds_toArray, List.set_cons_zero, List.set_cons_succ, List.getElem_toArray, List.getElem_cons_succ, List.getElem_cons_zero]
  refine rdy 3 (fun K hK => ?_)
  go_simp
  refine (CKD.out _ (LOW.out _ L5.out)).mono ?_
  rintro e w6 ⟨⟨r6, rfl, h6⟩, b6⟩
  have L6 := hid (below_in L5.out (Nat.le_refl _) b6)
  have Q6 := hid (CELLS.out _ L6.out)
  clear b6
  have hr56 : r6 = r5 := by
    rcases h5 with ⟨rfl, h5⟩ | ⟨rfl, h5⟩ <;> rcases h6 with ⟨rfl, h6⟩ | ⟨rfl, h6⟩
    · rfl
    · exact absurd h5 h6
    · exact absurd h6 h5
    · rfl
  subst hr56
  clear h5 h6
  go_simp
  refine hK.out _ _ Q6.out (fun _ => ?_)
  clear hK K
  try simp only [Act.put, List.setIfInBounds_toArray, List.set_cons_zero, List.set_cons_succ, List.getElem_toArray, List.getElem_cons_succ, List.getElem_cons_zero]
  refine tk 4 (v := .bool true) ?_ ?_
  · (intro w hSw; go_simp <;> (first | with_reducible rfl | simp))
  refine tkk 5 ?_
  refine tkk 6 ?_
  refine tkk 7 ?_
  refine tkk 9 ?_
  refine tkk 10 ?_
  refine rdy 8 (fun K hK => ?_)
  go_simp
  refine (SMP.out _ (LOW.out _ L6.out)).mono ?_
  rintro e w7 ⟨⟨r7, rfl, h7⟩, b7⟩
  have L7 := hid (below_in L6.out (Nat.le_refl _) b7)
  have Q7 := hid (CELLS.out _ L7.out)
  clear b7
  go_simp
  refine hK.out _ _ Q7.out (fun _ => ?_)
  clear hK K
  try simp only [Act.put, List.setIfInBounds_toArray, List.set_cons_zero, List.set_cons_succ, List.getElem_toArray, List.getElem_cons_succ, List.getElem_cons_zero]
  refine rdy 11 (fun K hK => ?_)
  go_simp
  refine (SMD.out _ (LOW.out _ L7.out)).mono ?_
  rintro e w8 ⟨⟨r8, rfl, h8⟩, b8⟩
  have L8 := hid (below_in L7.out (Nat.le_refl _) b8)
  have Q8 := hid (CELLS.out _ L8.out)
  clear b8
  have hr78 : r8 = r7 := by
    have h9 := h7.trans h8.symm
    cases r7 <;> cases r8 <;> simp at h9 <;> rfl
  subst hr78
  clear h7 h8
  go_simp
  refine hK.out _ _ Q8.out (fun _ => ?_)
  clear hK K
  try simp only [Act.put, List.setIfInBounds_toArray, List.set_cons_zero, List.set_cons_succ, List.getElem_toArray, List.getElem_cons_succ, List.getElem_cons_zero]
  refine tk 12 (v := .bool true) ?_ ?_
  · (intro w hSw; go_simp <;> (first | with_reducible rfl | simp))
  refine tkk 13 ?_
  refine tkk 14 ?_
  refine tkk 15 ?_
  refine tkk 16 ?_
  refine rdy 17 (fun K hK => ?_)
  go_simp
  refine (SMS.out _ (LOW.out _ L8.out)).mono ?_
  rintro e w9 ⟨⟨r9, rfl, h9⟩, b9⟩
  have L9 := hid (below_in L8.out (Nat.le_refl _) b9)
  have Q9 := hid (CELLS.out _ L9.out)
  clear b9
  have hr9 : r9 = true := h9.2 (by first | rfl | trivial)
  subst hr9
  clear h9
  go_simp
  refine hK.out _ _ Q9.out (fun _ => ?_)
  clear hK K
  try simp only [Act.put, List.setIfInBounds_toArray, List.set_cons_zero, List.set_cons_succ, List.getElem_toArray, List.getElem_cons_succ, List.getElem_cons_zero]
  refine tkk 18 ?_
  refine tkk 19 ?_
  refine rdy 20 (fun K hK => ?_)
  go_simp
  refine (works14_calls _).mono ?_
  rintro e w10 ⟨rfl, b10⟩
  have L10 := hid (below_in L9.out (Nat.le_refl _) b10)
  have Q10 := hid (CELLS.out _ L10.out)
  clear b10
  go_simp
  refine hK.out _ _ Q10.out (fun _ => ?_)
  clear hK K
  try simp only [Act.put, List.setIfInBounds_toArray, List.set_cons_zero, List.set_cons_succ, List.getElem_toArray, List.getElem_cons_succ, List.getElem_cons_zero]
  refine tkk 21 ?_
  refine tkk 22 ?_
  refine wpAnyH_done (by kernel_rfl) ?_ _
  go_wp2_with fail
  go_ret
  exact ⟨rfl, by first | exact LOW.out _ L10.out | exact (LOW.out _ L10.out).drew⟩

theorem walk (G0 : Int) (pv0 cv0 : Value) (ss0 : List ByteArray) (cs0 : List Cd) (G1 : Int) (pv1 cv1 : Value) (ss1 : List ByteArray) (cs1 : List Cd) (w : World) (w0 : Hid ((PlIn w.heap.size w pv0 ss0 ∧ ∀ s ∈ ss0, s.size ≤ maxLen) ∧ CdsIn w.heap.size w cv0 cs0)) (w1 : Hid ((PlIn w.heap.size w pv1 ss1 ∧ ∀ s ∈ ss1, s.size ≤ maxLen) ∧ CdsIn w.heap.size w cv1 cs1)) :
    Calls Try.prog 3 #[.agg #[.int .i64 G0, pv0, cv0], .agg #[.int .i64 G1, pv1, cv1]] w fun e w' => e = .returned (.bool true) ∧ Below w.heap.size w w' := by
  obtain ⟨pa, pc, rfl⟩ := plIn_shape w0.out.1.1
  obtain ⟨ca, cc, rfl⟩ := cdsIn_shape w0.out.2
  obtain ⟨pa', pc', rfl⟩ := plIn_shape w1.out.1.1
  obtain ⟨ca', cc', rfl⟩ := cdsIn_shape w1.out.2
  exact walk_chk G0 G1 ss0 ss1 cs0 cs1 pa ca pa' ca' pc cc pc' cc' w w0.out.1.1 w0.out.1.2 w0.out.2 w1.out.1.1 w1.out.1.2 w1.out.2

set_option maxRecDepth 100000 in
theorem lifted (os : Os) (started : os.Started) (H : Type) (enc : TypeId × Value → H) :
    ReturnsInHanded {} Try.checked os 3 .any (Rows.codeChecksSpec.pre6 enc Try.prog Try.f3 Rows.codeChecksRow.domain false) (Rows.codeChecksSpec.post enc Try.prog Try.f3 false true false false) := by
  refine returnsInHanded_of_change (C := Try.checked) own started (by kernel_rfl) Try.func3
    (ChangeSpec.witness6 (enc := enc) (C := Try.checked) false ⟨#[], #[.agg #[.int .i64 0, .slice none 0 0, .slice none 0 0], .agg #[.int .i64 0, .slice none 0 0, .slice none 0 0]], []⟩ 8 (by kernel_rfl) (by kernel_rfl) (by kernel_rfl) (by kernel_rfl)) ?_
  intro W base args ds gs before hval0 hW hcnd _
  have hval : ∀ (j : Nat) t v, Try.f3.params[j]? = some t → args[j]? = some v → Value.okWide Try.prog W .any base t v := hval0
  have hW' := hW
  obtain ⟨p, q, hA0, hV, rfl, hfz, hnd⟩ := hW
  have hA : DataW.TrodAll enc Try.prog W 0 (fun _ => true) true Try.f3.params.toList args.toList ds p := hA0
  rw [Try.params3] at hA hval
  obtain ⟨v0, vs0, d0, ds0, p0, q0, hargs, rfl, rfl, h0, r0⟩ := trodAll_cons hA
  obtain ⟨v1, vs1, d1, ds1, p1, q1, rfl, rfl, rfl, h1, r1⟩ := trodAll_cons r0
  obtain ⟨rfl, rfl, rfl⟩ := trodAll_nil r1
  obtain rfl : args = #[v0, v1] := by cases args; simp_all
  obtain ⟨rfl, rfl⟩ := trodVars_none hV
  have hk0 := h0
  have hlt0 : ∀ x ∈ p0, x.block < W.heap.size := fun x hx => by simpa using hW'.lt x (by simp [hx])
  obtain ⟨G0, pv0, cv0, ss0, cs0, rfl, w0⟩ := open_prog (hval 0 25 v0 rfl rfl) h0
  have hk1 := h1
  have hlt1 : ∀ x ∈ p1, x.block < W.heap.size := fun x hx => by simpa using hW'.lt x (by simp [hx])
  obtain ⟨G1, pv1, cv1, ss1, cs1, rfl, w1⟩ := open_prog (hval 1 25 v1 rfl rfl) h1
  clear hA0 hval0
  refine (walk G0 pv0 cv0 ss0 cs0 G1 pv1 cv1 ss1 cs1 W w0 w1).mono fun e W' ⟨he, hg⟩ => ?_
  subst he
  exact ⟨_, rfl, _, _, _, [], _, [], hW', trodAll_mk1 (shut_bool Try.underlying4 _), (trodAll_cons_mk (Below.trod laidOutC (by kernel_rfl) (of_decide_eq_true (by kernel_rfl)) hk0 hg hlt0) (trodAll_cons_mk (Below.trod laidOutC (by kernel_rfl) (of_decide_eq_true (by kernel_rfl)) hk1 hg hlt1) trodAll_mk0)), rfl, hg.frame _, fun h => by cases h⟩

theorem over : Rows.codeChecksRow.holds Try.pinned (OpenSpec.ofChange Rows.codeChecksSpec) :=
  OpenClaim.holds_of_wide 3 Try.f3 rfl rfl rfl rfl rfl rfl rfl ⟨rfl, rfl, rfl, rfl, rfl⟩ rfl rfl rfl rfl rfl (by kernel_rfl) Try.func3 (by kernel_rfl)
    (of_decide_eq_true (by kernel_rfl)) (by unfold Func.isWrapper; first | (rw [if_pos (by decide +kernel)]; kernel_rfl) | (rw [if_neg (by decide +kernel)]; exact ⟨rfl, rfl⟩))
    (fun os started H enc _ => lifted os started H enc)

end Go.Proofs.Ytciobggfefmgnaa.codeChecks
namespace Go.Proofs.Ytciobggfefmgnaa

/-- the statement, as it was given -/
theorem codeChecks_holds : Rows.CodeChecksSaid :=
  codeChecks.over
#print axioms codeChecks_holds
end Go.Proofs.Ytciobggfefmgnaa
