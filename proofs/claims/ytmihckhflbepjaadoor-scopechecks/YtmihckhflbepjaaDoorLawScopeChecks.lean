/- Whether any unit may be, and any two are alike, is as the document says: of any two units of at most 40 functions, at most 60 statements a body, and at most 300 nodes, at most 40 high, with texts of at most 600 bytes and at most 60 names of at most 100 bytes (else the law asks its own test alone), Check tells of the first what the document's Check tells, Same tells of the two what the document's Same tells, and the first is like itself: ScopeChecks is true for every input; no condition. -/
import Derived.Test.YtmihckhflbepjaaDoorJoint14
import Derived.Test.YtmihckhflbepjaaDoorUnOpen
import Derived.Test.YtmihckhflbepjaaDoorJoint5
import Derived.Test.YtmihckhflbepjaaDoorScWorks
import Derived.Test.YtmihckhflbepjaaDoorScCheck
import Derived.Test.YtmihckhflbepjaaDoorJoint12
import Derived.Test.YtmihckhflbepjaaDoorUnSame
import Derived.Test.YtmihckhflbepjaaDoorUnRight
import Derived.Test.YtmihckhflbepjaaDoorUnCheck
import Derived.Test.YtmihckhflbepjaaDoorScFine
import Derived.Test.YtmihckhflbepjaaDoorTk
import Derived.Test.YtmihckhflbepjaaDoorRows
import Derived.WalkKit
import Derived.ProofKit
import Derived.OpenShut
import Derived.ShutString
import Derived.ChangeOld
import Derived.Below
import Derived.Test.YtmihckhflbepjaaDoorTie
import Derived.Test.YtmihckhflbepjaaDoorCards
import Derived.SevenTiedAt
import Derived.Stop.Joined
import Derived.Carry
namespace Go.Proofs.YtmihckhflbepjaaDoor.scopeChecks
open Go.ChangeShapes Go.WideShapes Go.ChangeAt Go.RowKit
open Go.ChangeMaps (open_string shut_string)
set_option linter.unusedVariables false
set_option maxRecDepth 100000

theorem own : ownKnob Tryd.prog.godebug = none := by kernel_rfl

set_option linter.unusedSimpArgs false
theorem few_parts {N : Nat} : ∀ {l : List Nd}, (∀ x ∈ l, smallN x = true ∧ countN x ≤ N) → smallL l = true ∧ countL l ≤ N * l.length
  | [], _ => ⟨by rw [smallL], by rw [countL]; omega⟩
  | x :: r, h => by
    obtain ⟨h1, h2⟩ := few_parts (l := r) (fun y hy => h y (by simp [hy]))
    obtain ⟨h3, h4⟩ := h x (by simp)
    refine ⟨by rw [smallL, h3, h1]; rfl, ?_⟩
    rw [countL, List.length_cons, Nat.mul_add, Nat.mul_one]
    omega
theorem few_of {fs : List Fq} (h : FewV fs) : FewU fs ∧ FineS fs ∧ FineU fs := by
  have hp : ∀ f ∈ fs, smallL f.2.2 = true ∧ countL f.2.2 ≤ 18000 := fun f hf => by
    obtain ⟨h1, h2⟩ := h.2 f hf
    obtain ⟨h3, h4⟩ := few_parts h2
    have : 300 * f.2.2.length ≤ 300 * 60 := Nat.mul_le_mul_left _ h1
    exact ⟨h3, by omega⟩
  have hl := h.1
  refine ⟨⟨by omega, fun f hf => ⟨(hp f hf).1, by have := (hp f hf).2; omega⟩⟩, ⟨by omega, fun f hf => ⟨fun x hx => ((h.2 f hf).2 x hx).1, by have := (hp f hf).2; omega⟩⟩, by omega, fun f hf => ⟨by have := (h.2 f hf).1; omega, fun x hx => ⟨((h.2 f hf).2 x hx).1, by have := ((h.2 f hf).2 x hx).2; omega⟩⟩⟩
theorem fnsIn_up {B C : Nat} {v : Value} {fs : List Fq} {w : World} (hB : B ≤ C) (h : FnsIn B w v fs) : FnsIn C w v fs := by
  rcases h with h | ⟨b, off, cap, h1, h2, h3, h4⟩
  · exact .inl h
  · refine .inr ⟨b, off, cap, h1, by omega, fun i f hi => ?_, h4⟩
    obtain ⟨kv, g1, g2, g3, g4⟩ := h3 i f hi
    exact ⟨kv, g1, g2, g3, kidsIn_up hB g4⟩
theorem right_all : URightAll := fun G L fa fn fc x hL1 hL2 hG1 hG2 hf =>
  uright_calls (fun k o n s ns a1 q1 a2 c2 q2 p B w hB hS hns => fieldsu_calls G L fa fn fc k o n s ns a1 q1 a2 c2 q2 p B w hB hS hns (by omega) (by omega) (by omega)) x
set_option maxHeartbeats 8000000 in
set_option maxRecDepth 100000 in
theorem walk_checks (G0 G1 : Int) (fv0 fv1 : Value) (fs0 fs1 : List Fq) (w : World) (H0 : Hid (FnsIn w.heap.size w fv0 fs0)) (H1 : Hid (FnsIn w.heap.size w fv1 fs1)) (HO : Hid (Ok w.heap.size w)) :
    Calls Tryd.prog 4 #[.agg #[.int .i64 G0, fv0], .agg #[.int .i64 G1, fv1]] w fun e w' => e = .returned (.bool true) ∧ Below w.heap.size w w' := by
  obtain ⟨fa, fc, rfl⟩ := fnsIn_shape H0.out
  obtain ⟨ga, gc, rfl⟩ := fnsIn_shape H1.out
  have T := two_blks w 30 30 #[.int .i64 G0, .slice fa fs0.length fc] #[.int .i64 G1, .slice ga fs1.length gc]
  have X0 := hid T.1
  have X1 := hid T.2.1
  have HA := hid T.2.2
  have hok : ∀ {c : World}, Below w.heap.size w c → Ok c.heap.size c := fun q => ok_up q.size (Nat.le_refl _) (ok_on HO.out q)
  have HOK := hid (fun c => @hok c)
  clear T hok
  go_enter Tryd.func4, Tryd.ntmps4
  go_upto_region 1 with fail
  generalize hW : (w.alloc (.cells #[.int .i64 G0, .slice fa fs0.length fc] 30)).alloc (.cells #[.int .i64 G1, .slice ga fs1.length gc] 30) = w2 at *
  clear hW
  have CE := hid (fun (W : World) (q : Below w2.heap.size w2 W) => (show W.cell? ⟨w.heap.size, 0, none⟩ = some (.int .i64 G0) ∧ W.cell? ⟨w.heap.size, 1, none⟩ = some (.slice fa fs0.length fc) ∧ W.cell? ⟨w.heap.size + 1, 0, none⟩ = some (.int .i64 G1) ∧ W.cell? ⟨w.heap.size + 1, 1, none⟩ = some (.slice ga fs1.length gc) from
    have h := blk_on X0.out q
    have g := blk_on X1.out q
    ⟨(blk_cell h 0).trans rfl, (blk_cell h 1).trans rfl, (blk_cell g 0).trans rfl, (blk_cell g 1).trans rfl⟩))
  have h2 := HA.out.size
  have F0 := hid (fun (W : World) (q : Below w2.heap.size w2 W) => fnsIn_on H0.out (below_on HA.out q))
  have F1 := hid (fun (W : World) (q : Below w2.heap.size w2 W) => fnsIn_on H1.out (below_on HA.out q))
  have LW := hid (fun (W : World) (q : Below w2.heap.size w2 W) => below_on HA.out q)
  obtain ⟨c0, c1, d0, d1⟩ := CE.out w2 (Below.refl _ _)
  go_wp2_with fail
  refine (ufew_calls G0 _ fs0 w.heap.size w2 h2 (hid (F0.out w2 (Below.refl _ _)))).mono ?_
  rintro e3 w3 ⟨⟨r0, rfl, hr0⟩, b3⟩
  have L3 := hid b3
  clear b3 c0 c1 d0 d1
  have hz3 := L3.out.size
  cases r0 with
  | false =>
    clear hr0
    go_wp2_with fail
    refine (works8_calls _ (HOK.out _ (LW.out _ L3.out))).mono ?_
    rintro e9 w9 ⟨rfl, b9⟩
    have B9 := hid (LW.out _ (below_on L3.out b9))
    clear b9
    go_wp2_with fail
    go_ret
    exact ⟨rfl, B9.out⟩
  | true =>
  have V0 := hid (hr0 rfl)
  clear hr0
  obtain ⟨c0, c1, d0, d1⟩ := CE.out w3 L3.out
  go_wp2_with fail
  refine (ufew_calls G1 _ fs1 w.heap.size w3 (by omega) (hid (F1.out w3 L3.out))).mono ?_
  rintro e4 w4 ⟨⟨r1, rfl, hr1⟩, b4⟩
  have L4 := hid (below_on L3.out b4)
  clear b4 c0 c1 d0 d1
  have hz4 := L4.out.size
  cases r1 with
  | false =>
    clear hr1
    go_wp2_with fail
    refine (works8_calls _ (HOK.out _ (LW.out _ L4.out))).mono ?_
    rintro e9 w9 ⟨rfl, b9⟩
    have B9 := hid (LW.out _ (below_on L4.out b9))
    clear b9
    go_wp2_with fail
    go_ret
    exact ⟨rfl, B9.out⟩
  | true =>
  have V1 := hid (hr1 rfl)
  clear hr1
  have FO := hid (few_of V0.out)
  have CK := hid (fun (W : World) (q : Below w2.heap.size w2 W) => check_calls8 G0 fs0 W.heap.size W _ (hid (HOK.out _ (LW.out _ q))) (hid (fnsIn_up (LW.out _ q).size (F0.out W q))) (hid FO.out.1))
  have RK := hid (fun (W : World) (q : Below w2.heap.size w2 W) => rcheckU_calls G0 _ fs0 w.heap.size W (LW.out _ q).size (hid (F0.out W q)) V0 (hid right_all))
  have SM := hid (fun (W : World) (q : Below w2.heap.size w2 W) => scsame_calls G0 G1 fs0 fs1 w.heap.size W _ _ (LW.out _ q).size (hid (F0.out W q)) (hid (F1.out W q)) (hid FO.out.2.1))
  have SS := hid (fun (W : World) (q : Below w2.heap.size w2 W) => (show Calls Tryd.prog 15 #[.agg #[.int .i64 G0, .slice fa fs0.length fc], .agg #[.int .i64 G0, .slice fa fs0.length fc]] W fun e w' => e = .returned (.bool true) ∧ Below W.heap.size W w' by
    have h := scsame_calls G0 G0 fs0 fs0 w.heap.size W _ _ (LW.out _ q).size (hid (F0.out W q)) (hid (F0.out W q)) (hid FO.out.2.1)
    rw [sameU_refl] at h
    exact h))
  have RS := hid (fun (W : World) (q : Below w2.heap.size w2 W) => usame_calls G0 G1 _ _ fs0 fs1 w.heap.size W (LW.out _ q).size (hid (F0.out W q)) (hid (F1.out W q)) (hid FO.out.2.2))
  have WK := hid (fun (W : World) (q : Below w2.heap.size w2 W) => works8_calls W (HOK.out _ (LW.out _ q)))
  generalize checkU G0 fs0 = cu at *
  generalize sameU G0 fs0 G1 fs1 = su at *
  clear FO V0 V1 F0 F1 HOK H0 H1 HO
  obtain ⟨c0, c1, d0, d1⟩ := CE.out w4 L4.out
  go_upto_region 3 with fail
  refine wp_region_held_drew (S := fun aZ => aZ.cell? ⟨w.heap.size, 0, none⟩ = some (.int .i64 G0) ∧ aZ.cell? ⟨w.heap.size, 1, none⟩ = some (.slice fa fs0.length fc) ∧ aZ.cell? ⟨w.heap.size + 1, 0, none⟩ = some (.int .i64 G1) ∧ aZ.cell? ⟨w.heap.size + 1, 1, none⟩ = some (.slice ga fs1.length gc)) (by kernel_rfl) ?_ (fun hHeld => ?_)
  · (refine ⟨?_, ?_, ?_, ?_⟩ <;> go_simp)
  clear c0 c1 d0 d1
  have L5 := hid (show Below w2.heap.size w2 w4.drew from L4.out.drew)
  generalize w4.drew = w5 at *
  refine tkk 0 ?_
  refine tkk 2 ?_
  refine rdy 1 (fun K hK => ?_)
  go_simp
  refine (CK.out _ L5.out).mono ?_
  rintro e6 w6 ⟨rfl, b6⟩
  have L6 := hid (below_on L5.out b6)
  clear b6
  go_simp
  refine hK.out _ _ (CE.out _ L6.out) (fun _ => ?_)
  clear hK K
  try simp only [Act.put, List.setIfInBounds_toArray, List.set_cons_zero, List.set_cons_succ, List.getElem_toArray, List.getElem_cons_succ, List.getElem_cons_zero]
  refine rdy 3 (fun K hK => ?_)
  go_simp
  refine (RK.out _ L6.out).mono ?_
  rintro e7 w7 ⟨rfl, b7⟩
  have L7 := hid (below_on L6.out b7)
  clear b7
  go_simp
  refine hK.out _ _ (CE.out _ L7.out) (fun _ => ?_)
  clear hK K
  try simp only [Act.put, List.setIfInBounds_toArray, List.set_cons_zero, List.set_cons_succ, List.getElem_toArray, List.getElem_cons_succ, List.getElem_cons_zero]
  refine tkk 4 ?_
  refine tkk 5 ?_
  refine tkk 6 ?_
  refine tkk 7 ?_
  refine tkk 9 ?_
  refine tkk 10 ?_
  refine rdy 8 (fun K hK => ?_)
  go_simp
  refine (SM.out _ L7.out).mono ?_
  rintro e8 w8 ⟨rfl, b8⟩
  have L8 := hid (below_on L7.out b8)
  clear b8
  go_simp
  refine hK.out _ _ (CE.out _ L8.out) (fun _ => ?_)
  clear hK K
  try simp only [Act.put, List.setIfInBounds_toArray, List.set_cons_zero, List.set_cons_succ, List.getElem_toArray, List.getElem_cons_succ, List.getElem_cons_zero]
  refine rdy 11 (fun K hK => ?_)
  go_simp
  refine (RS.out _ L8.out).mono ?_
  rintro e9 w9 ⟨rfl, b9⟩
  have L9 := hid (below_on L8.out b9)
  clear b9
  go_simp
  refine hK.out _ _ (CE.out _ L9.out) (fun _ => ?_)
  clear hK K
  try simp only [Act.put, List.setIfInBounds_toArray, List.set_cons_zero, List.set_cons_succ, List.getElem_toArray, List.getElem_cons_succ, List.getElem_cons_zero]
  refine tkk 12 ?_
  refine tkk 13 ?_
  refine tkk 14 ?_
  refine tkk 15 ?_
  refine tkk 16 ?_
  refine rdy 17 (fun K hK => ?_)
  go_simp
  refine (SS.out _ L9.out).mono ?_
  rintro e10 w10 ⟨rfl, b10⟩
  have L10 := hid (below_on L9.out b10)
  clear b10
  go_simp
  refine hK.out _ _ (CE.out _ L10.out) (fun _ => ?_)
  clear hK K
  try simp only [Act.put, List.setIfInBounds_toArray, List.set_cons_zero, List.set_cons_succ, List.getElem_toArray, List.getElem_cons_succ, List.getElem_cons_zero]
  refine tkk 18 ?_
  refine tkk 19 ?_
  refine rdy 20 (fun K hK => ?_)
  go_simp
  refine (WK.out _ L10.out).mono ?_
  rintro e11 w11 ⟨rfl, b11⟩
  have L11 := hid (below_on L10.out b11)
  clear b11
  go_simp
  refine hK.out _ _ (CE.out _ L11.out) (fun _ => ?_)
  clear hK K
  try simp only [Act.put, List.setIfInBounds_toArray, List.set_cons_zero, List.set_cons_succ, List.getElem_toArray, List.getElem_cons_succ, List.getElem_cons_zero]
  refine tkk 21 ?_
  refine tkk 22 ?_
  refine wpAnyH_done (by kernel_rfl) ?_ _
  go_wp2_with fail
  go_ret
  exact ⟨rfl, LW.out _ L11.out⟩

theorem walk (G0 : Int) (fv0 : Value) (fs0 : List Fq) (G1 : Int) (fv1 : Value) (fs1 : List Fq) (w : World) (w0 : Hid (FnsIn w.heap.size w fv0 fs0)) (w1 : Hid (FnsIn w.heap.size w fv1 fs1)) (h0 : 0 < w.heap.size) (SG : Hid (Texts 0 tsgnL w)) :
    Calls Tryd.prog 4 #[.agg #[.int .i64 G0, fv0], .agg #[.int .i64 G1, fv1]] w fun e w' => e = .returned (.bool true) ∧ Below w.heap.size w w' := by
  exact walk_checks G0 G1 fv0 fv1 fs0 fs1 w w0 w1 (hid ⟨Nat.le_refl _, h0, SG.out⟩)

set_option maxRecDepth 100000 in
theorem lifted (os : Os) (started : os.Started) (H : Type) (enc : TypeId × Value → H) :
    ReturnsInHanded {} Tryd.checked os 4 .any (fun w args => (Rows.scopeChecksSpec.pre enc Tryd.prog Tryd.f4 [] false w args ∧ laidMetH Tryd.prog laidS w) ∧ sizedMet enc Tryd.prog Tryd.f4 (OpenSpec.ofChange Rows.scopeChecksSpec) false w args)
      (Rows.scopeChecksSpec.post enc Tryd.prog Tryd.f4 false true false false) := by
  refine returnsInHanded_of_change_and (C := Tryd.checked) (X := fun w _ => laidMetH Tryd.prog laidS w) (fun _ _ _ hh h => h.of_heap hh) own started (by kernel_rfl) Tryd.func4
    (ChangeSpec.witness_shaped (enc := enc) (C := Tryd.checked) (os := os) (X := fun w _ => laidMetH Tryd.prog laidS w) false (World.doorLaid Tryd.prog 14 os) #[.agg #[.int .i64 0, .slice none 0 0], .agg #[.int .i64 0, .slice none 0 0]] 8 rfl (World.shaped_of_RefB (by kernel_rfl) (by kernel_rfl)) (by kernel_rfl) (by kernel_rfl) (by kernel_rfl) (door_met os _)) ?_
  intro W base args ds gs before hval0 hW _ _ hL _
  obtain ⟨hz, hSG⟩ := of_laid hL
  have hval : ∀ (j : Nat) t v, Tryd.f4.params[j]? = some t → args[j]? = some v → Value.okWide Tryd.prog W .any base t v := hval0
  have hW' := hW
  obtain ⟨p, q, hA0, hV, rfl, hfz, hnd⟩ := hW
  have hA : DataW.TrodAll enc Tryd.prog W 0 (fun _ => true) true Tryd.f4.params.toList args.toList ds p := hA0
  rw [Tryd.params4] at hA hval
  obtain ⟨v0, vs0, d0, ds0, p0, q0, hargs, rfl, rfl, h0, r0⟩ := trodAll_cons hA
  obtain ⟨v1, vs1, d1, ds1, p1, q1, rfl, rfl, rfl, h1, r1⟩ := trodAll_cons r0
  obtain ⟨rfl, rfl, rfl⟩ := trodAll_nil r1
  obtain rfl : args = #[v0, v1] := by cases args; simp_all
  obtain ⟨rfl, rfl⟩ := trodVars_none hV
  have hk0 := h0
  have hlt0 : ∀ x ∈ p0, x.block < W.heap.size := fun x hx => by simpa using hW'.lt x (by simp [hx])
  obtain ⟨G0, fv0, fs0, rfl, w0⟩ := open_unit (hval 0 30 v0 rfl rfl) h0
  have hk1 := h1
  have hlt1 : ∀ x ∈ p1, x.block < W.heap.size := fun x hx => by simpa using hW'.lt x (by simp [hx])
  obtain ⟨G1, fv1, fs1, rfl, w1⟩ := open_unit (hval 1 30 v1 rfl rfl) h1
  clear hA0 hval0
  refine (walk G0 fv0 fs0 G1 fv1 fs1 W w0 w1 hz hSG).mono fun e W' ⟨he, hg⟩ => ?_
  subst he
  exact ⟨_, rfl, _, _, _, [], _, [], hW', trodAll_mk1 (shut_bool Tryd.underlying4 _), (trodAll_cons_mk (Below.trod laidOutP (by kernel_rfl) (of_decide_eq_true (by kernel_rfl)) hk0 hg hlt0) (trodAll_cons_mk (Below.trod laidOutP (by kernel_rfl) (of_decide_eq_true (by kernel_rfl)) hk1 hg hlt1) trodAll_mk0)), rfl, hg.frame _, fun h => by cases h⟩

theorem over : Rows.scopeChecksRow.holds Tryd.pinned (OpenSpec.ofChange Rows.scopeChecksSpec) :=
  OpenClaim.holds_of_wide 4 Tryd.f4 rfl rfl rfl rfl rfl rfl rfl ⟨rfl, rfl, rfl, rfl, rfl⟩ rfl rfl rfl rfl rfl (by kernel_rfl) Tryd.func4 (by kernel_rfl)
    (of_decide_eq_true (by kernel_rfl)) (by unfold Func.isWrapper; first | (rw [if_pos (by decide +kernel)]; kernel_rfl) | (rw [if_neg (by decide +kernel)]; exact ⟨rfl, rfl⟩))
    (fun os started H enc _ => lifted os started H enc)

end Go.Proofs.YtmihckhflbepjaaDoor.scopeChecks
namespace Go.Proofs.YtmihckhflbepjaaDoor

/-- the statement, as it was given: the tied card -/
theorem scopeChecks_holds : Rows.ScopeChecksCardSaid :=
  Claim7.holds_tied_plain_at .later [] [.data] true (true, "7d5e83a59477f08df7a78a1eeb2eab4ce7fb9b76639198b4d022ff64f170de32") false
    scopeChecks.over (fun _ h => by cases h) (by kernel_rfl) (fun _ h => by cases h) scopeChecks_row_tie rfl ⟨rfl, rfl⟩ (by kernel_rfl) rfl
    (fun f fn hf hfn => by
      obtain rfl : f = 4 := Option.some.inj ((show Tryd.prog.funcNamed "proteus/proteuslaw08.ScopeChecks" = some 4 by kernel_rfl).symm.trans hf) |>.symm
      obtain rfl : fn = Tryd.f4 := (Option.some.inj (Tryd.func4.symm.trans hfn)).symm
      exact ⟨by kernel_rfl, fun j t ht => by
        rw [Tryd.params4] at ht
        have hm : t ∈ [30, 30] := by simpa using Array.mem_of_getElem? ht
        have hall : ([30, 30].all fun u => !Tryd.prog.wantsStandIn u) = true := by kernel_rfl
        exact (show Tryd.prog.wantsStandIn t = false by simpa using List.all_eq_true.1 hall t hm)⟩)
    (by kernel_rfl)
#print axioms scopeChecks_holds
end Go.Proofs.YtmihckhflbepjaaDoor
