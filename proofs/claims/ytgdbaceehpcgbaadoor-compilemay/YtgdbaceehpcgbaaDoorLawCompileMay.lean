/- What comes of a unit may be: of any unit of at most 40 functions, at most 60 statements a body, and at most 300 nodes, at most 40 high, with texts of at most 600 bytes and at most 60 names of at most 100 bytes (else the law asks its own test alone), Unit tells an error and no codes, or a program that code.Check finds right, of as many codes as there are functions, with the unit's globals, and each function's parameters and locals: CompileMay is true for every input; no condition. -/
import Derived.Test.YtgdbaceehpcgbaaDoorJoint24
import Derived.Test.YtgdbaceehpcgbaaDoorJoint5
import Derived.Test.YtgdbaceehpcgbaaDoorJoint23
import Derived.Test.YtgdbaceehpcgbaaDoorJoint10
import Derived.Test.YtgdbaceehpcgbaaDoorRows
import Derived.WalkKit
import Derived.ProofKit
import Derived.OpenShut
import Derived.ShutString
import Derived.ChangeOld
import Derived.Below
import Derived.Test.YtgdbaceehpcgbaaDoorTie
import Derived.Test.YtgdbaceehpcgbaaDoorCards
import Derived.SevenTiedAt
import Derived.Stop.Joined
import Derived.Carry
namespace Go.Proofs.YtgdbaceehpcgbaaDoor.compileMay
open Go.ChangeShapes Go.WideShapes Go.ChangeAt Go.RowKit
open Go.ChangeMaps (open_string shut_string)
set_option linter.unusedVariables false
set_option maxRecDepth 100000

theorem own : ownKnob Tryd.prog.godebug = none := by kernel_rfl

set_option linter.unusedSimpArgs false
set_option linter.unusedVariables false
set_option maxHeartbeats 6400000 in
set_option maxRecDepth 100000 in
theorem walk_may (G : Int) (fv : Value) (fs : List Fq) (w : World) (H0 : Hid (FnsIn w.heap.size w fv fs)) (HO : Hid (Ok w.heap.size w)) :
    Calls Tryd.prog 4 #[.agg #[.int .i64 G, fv]] w fun e w' => e = .returned (.bool true) ∧ Below w.heap.size w w' := by
  obtain ⟨fa, fc, rfl⟩ := fnsIn_shape H0.out
  have HOK := hid (fun c (q : Below w.heap.size w c) => ok_up q.size (Nat.le_refl _) (ok_on HO.out q))
  have FW := hid (fun W (q : Below w.heap.size w W) => ufewt_calls G (.slice fa fs.length fc) fs w.heap.size W q.size (hid (fnsIn_on H0.out q)))
  have AL := hid (box_below w (.cells #[.int .i64 G, .slice fa fs.length fc] 24))
  have BL := hid (blk_new w 24 #[.int .i64 G, .slice fa fs.length fc])
  have hsz : (w.alloc (.cells #[.int .i64 G, .slice fa fs.length fc] 24)).heap.size = w.heap.size + 1 := by simp
  generalize hW : w.alloc (.cells #[.int .i64 G, .slice fa fs.length fc] 24) = w1 at *
  have LOW := hid (fun (W : World) (q : Below w1.heap.size w1 W) => AL.out.trans (q.mono (by omega)))
  have CELLS := hid (fun (W : World) (q : Below w1.heap.size w1 W) => (show W.cell? ⟨w.heap.size, 0, none⟩ = some (.int .i64 G) ∧ W.cell? ⟨w.heap.size, 1, none⟩ = some (.slice fa fs.length fc) from
    have h := blk_on BL.out q
    ⟨blk_cellZ h 0 rfl, blk_cellZ h 1 rfl⟩))
  obtain ⟨p0, p1⟩ := CELLS.out w1 (Below.refl _ _)
  go_enter Tryd.func4, Tryd.ntmps4
  go_wp2_with fail
  refine (FW.out _ AL.out).mono ?_
  rintro e w2 ⟨⟨r, rfl, hfew⟩, b2⟩
  have L2 := hid b2
  clear b2 p0 p1 hW
  cases r with
  | false =>
    clear hfew
    go_wp2_with fail
    refine (works15_calls _ (HOK.out _ (LOW.out _ L2.out))).mono ?_
    rintro e w3 ⟨rfl, b3⟩
    have B3 := hid (LOW.out _ (below_in L2.out (Nat.le_refl _) b3))
    clear b3
    go_wp2_with fail
    go_ret
    exact ⟨rfl, B3.out⟩
  | true =>
  have FEW := hid (hfew rfl)
  have hcnt : cntU fs ≤ 300 := (hfew rfl).2
  have hfl : fs.length ≤ 40 := (hfew rfl).1.1
  clear hfew
  have UC := hid (fun W (q : Below w.heap.size w W) => unit_calls G fs W.heap.size W (.slice fa fs.length fc) (hid (HOK.out W q)) (hid (cfnsIn_up q.size (fnsIn_on H0.out q))) (hid (fewU_ofV FEW.out.1)) hcnt hfl)
  obtain ⟨p0, p1⟩ := CELLS.out w2 L2.out
  go_wp2_with fail
  refine (UC.out _ (LOW.out _ L2.out)).mono ?_
  rintro e w3 ⟨hUO, b3⟩
  obtain ⟨g, pa, pn, pc, ca, cn, cc, x, rfl, hA⟩ := unit_any hUO
  have UA := hid hA
  have L3 := hid (L2.out.trans (b3.mono L2.out.size))
  have D3 := hid ((Below.refl w3.heap.size w3).alloc (Nat.le_refl _) (.cells #[.int .i64 g, .slice pa pn pc, .slice ca cn cc] 30))
  have BP := hid (blk_new w3 30 #[.int .i64 g, .slice pa pn pc, .slice ca cn cc])
  clear b3 hUO hA p0 p1 UC
  have h3w : w3.heap.size < (w3.alloc (.cells #[.int .i64 g, .slice pa pn pc, .slice ca cn cc] 30)).heap.size := by simp
  go_upto_region 4 with fail
  generalize hW3 : w3.alloc (.cells #[.int .i64 g, .slice pa pn pc, .slice ca cn cc] 30) = w4 at *
  clear hW3 h3w
  have L4 := hid (L3.out.trans (D3.out.mono L3.out.size))
  have PC := hid (fun (W : World) (q : Below w4.heap.size w4 W) => (show W.cell? ⟨w3.heap.size, 0, none⟩ = some (.int .i64 g) ∧ W.cell? ⟨w3.heap.size, 1, none⟩ = some (.slice pa pn pc) ∧ W.cell? ⟨w3.heap.size, 2, none⟩ = some (.slice ca cn cc) from
    have h := blk_on BP.out q
    ⟨blk_cellZ h 0 rfl, blk_cellZ h 1 rfl, blk_cellZ h 2 rfl⟩))
  by_cases hx0 : x = 0
  case neg =>
    rcases UA.out with ⟨_, rfl, _, _⟩ | ⟨h1, _⟩
    · have hd : (x != 0) = true := by simpa using hx0
      obtain ⟨q0, q1, q2⟩ := PC.out w4 (Below.refl _ _)
      clear UA PC
      go_wp2_with fail
      refine (works15_calls _ (HOK.out _ (LOW.out _ L4.out))).mono ?_
      rintro e w7 ⟨rfl, b7⟩
      have L7 := hid (LOW.out _ (L4.out.trans (b7.mono L4.out.size)))
      clear b7
      go_wp2_with fail
      go_ret
      exact ⟨rfl, L7.out⟩
    · exact absurd h1 hx0
  case pos =>
  rcases UA.out with ⟨h1, _⟩ | ⟨_, rfl, cs, L, hu, rfl, rfl, hP⟩
  · exact absurd hx0 h1
  obtain ⟨u1, u2, u3, u4⟩ := unit_ok hu
  have hchk : checkP ⟨g, L, cs⟩ := ⟨u3, u4⟩
  have CK := hid (ccheck_calls w3.heap.size ⟨g, L, cs⟩ (.slice pa L.length pc) (.slice ca cs.length cc) w4 D3.out.size (hP.on D3.out))
  have HA := hid (built_at u1)
  have HLL := hid (show cs.length = fs.length from u2)
  have HCH := hid hchk
  have CI := hid (fun (W : World) (q : Below w4.heap.size w4 W) => cdsIn_on hP.codes (D3.out.trans (q.mono D3.out.size)))
  have FI := hid (fun (W : World) (q : Below w4.heap.size w4 W) => fnsIn_on H0.out (LOW.out _ (L4.out.trans (q.mono L4.out.size))))
  have CE4 := hid (fun (W : World) (q : Below w4.heap.size w4 W) => CELLS.out W (L4.out.trans (q.mono L4.out.size)))
  simp only [pgV] at CK
  have hd : (x != 0) = false := by simp [hx0]
  obtain ⟨q0, q1, q2⟩ := PC.out w4 (Below.refl _ _)
  obtain ⟨p0, p1⟩ := CE4.out w4 (Below.refl _ _)
  clear UA hP hu u1 u2 u3 u4 hchk hx0
  go_wp2_with fail
  refine CK.out.mono ?_
  rintro e w5 ⟨⟨r, rfl, hr⟩, b5⟩
  have hr0 : r = 0 := by
    rcases hr with ⟨h, _⟩ | ⟨_, h⟩
    · exact h
    · exact absurd HCH.out h
  subst hr0
  have B5 := hid (show Below w4.heap.size w4 w5 from b5)
  clear b5 hr q0 q1 q2 p0 p1
  obtain ⟨q0, q1, q2⟩ := PC.out w5 B5.out
  obtain ⟨p0, p1⟩ := CE4.out w5 B5.out
  have hne : ((cs.length : Int) != (fs.length : Int)) = false := by simp [HLL.out]
  go_wp2_with fail
  clear q0 q1 q2 p0 p1 hne
  go_loopw [5] (fun kV wr => ∃ k : Nat, k ≤ fs.length ∧ kV = .int .i64 k ∧ Hid (Below w4.heap.size w4 wr)) (fun kV _ => fs.length - (intOf kV).toNat)
  case atStart => exact ⟨0, by omega, rfl, B5⟩
  case round =>
    obtain ⟨k, hk, rfl, hL⟩ := hrel
    rename World => wo
    obtain ⟨q0, q1, q2⟩ := PC.out wo hL.out
    obtain ⟨p0, p1⟩ := CE4.out wo hL.out
    by_cases hkl : k < fs.length
    · have hkc : k < cs.length := by rw [HLL.out]; exact hkl
      have hx : fs[k]? = some fs[k] := List.getElem?_eq_getElem hkl
      have hy : cs[k]? = some cs[k] := List.getElem?_eq_getElem hkc
      obtain ⟨b, off, rfl, hbB, kv, d0, d1, d2, hkk⟩ := fnsIn_at (FI.out wo hL.out) hx
      obtain ⟨b2, off2, rfl, hbB2, iv, e0, e1, e2, e3, e4, hI⟩ := cdsIn_at (CI.out wo hL.out) hy
      obtain ⟨m1, m2⟩ := HA.out k _ _ hy hx
      rw [m1] at e0
      rw [m2] at e1
      generalize fs[k] = f at *
      generalize cs[k] = c at *
      obtain ⟨pp, qq, l⟩ := f
      dsimp only at *
      clear hx hy d2 hkk e2 e3 e4 hI m1 m2 q0 q1 p0 CI FI
      go_upto_region 11 with fail
      refine wp_region_held_drew (S := fun aZ => aZ.cell? ⟨w3.heap.size, 2, none⟩ = some (.slice (some ⟨b2, off2, none⟩) cs.length cc) ∧ aZ.cell? ⟨w.heap.size, 1, none⟩ = some (.slice (some ⟨b, off, none⟩) fs.length fc) ∧ aZ.cell? ⟨b2, off2 + k * 5, none⟩ = some (.int .i64 pp) ∧ aZ.cell? ⟨b2, off2 + k * 5 + 1, none⟩ = some (.int .i64 qq) ∧ aZ.cell? ⟨b, off + k * 3, none⟩ = some (.int .i64 pp) ∧ aZ.cell? ⟨b, off + k * 3 + 1, none⟩ = some (.int .i64 qq)) (by kernel_rfl) ?_ (fun hHeld => ?_)
      · (refine ⟨?_, ?_, ?_, ?_, ?_, ?_⟩ <;> go_simp)
      clear q2 p1 d0 d1 e0 e1
      refine tkk 0 ?_
      refine tkk 1 ?_
      refine tkk 2 ?_
      refine tkk 3 ?_
      refine tkk 4 ?_
      refine tkk 5 ?_
      refine tkk 6 ?_
      refine tkk 7 ?_
      refine tkk 8 ?_
      refine tkk 9 ?_
      refine tkk 10 ?_
      refine tkk 11 ?_
      refine tkk 12 ?_
      refine tkk 13 ?_
      refine tkk 14 ?_
      refine tkk 15 ?_
      refine tkk 16 ?_
      refine tkk 17 ?_
      refine tkk 18 ?_
      refine tkk 19 ?_
      refine tkk 20 ?_
      refine tkk 21 ?_
      refine tkk 22 ?_
      refine tkk 23 ?_
      refine tkk 24 ?_
      refine tkk 25 ?_
      refine tkk 26 ?_
      refine tkk 27 ?_
      refine wpAnyH_done (by kernel_rfl) ?_ _
      go_wp2_with fail
      go_roundw
      case rel => exact ⟨k + 1, by omega, by go_num, hid hL.out.drew⟩
      case measure => simp [intOf]; omega
    · clear q0 q1 q2 CI FI PC
      go_wp2_with fail
      refine (works15_calls _ (HOK.out _ (LOW.out _ (L4.out.trans (hL.out.mono L4.out.size))))).mono ?_
      rintro e w7 ⟨rfl, b7⟩
      have L7 := hid (LOW.out _ ((L4.out.trans (hL.out.mono L4.out.size)).trans (b7.mono (L4.out.trans (hL.out.mono L4.out.size)).size)))
      clear b7
      go_wp2_with fail
      go_ret
      exact ⟨rfl, L7.out⟩

theorem walk (G0 : Int) (fv0 : Value) (fs0 : List Fq) (w : World) (w0 : Hid (FnsIn w.heap.size w fv0 fs0)) (h0 : 0 < w.heap.size) (SG : Hid (Texts 0 tsgnL w)) :
    Calls Tryd.prog 4 #[.agg #[.int .i64 G0, fv0]] w fun e w' => e = .returned (.bool true) ∧ Below w.heap.size w w' := by
  exact walk_may G0 fv0 fs0 w w0 (hid ⟨Nat.le_refl _, h0, SG.out⟩)

set_option maxRecDepth 100000 in
theorem lifted (os : Os) (started : os.Started) (H : Type) (enc : TypeId × Value → H) :
    ReturnsInHanded {} Tryd.checked os 4 .any (fun w args => (Rows.compileMaySpec.pre enc Tryd.prog Tryd.f4 [] false w args ∧ laidMetH Tryd.prog laidS w) ∧ sizedMet enc Tryd.prog Tryd.f4 (OpenSpec.ofChange Rows.compileMaySpec) false w args)
      (Rows.compileMaySpec.post enc Tryd.prog Tryd.f4 false true false false) := by
  refine returnsInHanded_of_change_and (C := Tryd.checked) (X := fun w _ => laidMetH Tryd.prog laidS w) (fun _ _ _ hh h => h.of_heap hh) own started (by kernel_rfl) Tryd.func4
    (ChangeSpec.witness_shaped (enc := enc) (C := Tryd.checked) (os := os) (X := fun w _ => laidMetH Tryd.prog laidS w) false (World.doorLaid Tryd.prog 14 os) #[.agg #[.int .i64 0, .slice none 0 0]] 8 rfl (World.shaped_of_RefB (by kernel_rfl) (by kernel_rfl)) (by kernel_rfl) (by kernel_rfl) (by kernel_rfl) (door_met os _)) ?_
  intro W base args ds gs before hval0 hW _ _ hL _
  obtain ⟨hz, hSG⟩ := of_laid hL
  have hval : ∀ (j : Nat) t v, Tryd.f4.params[j]? = some t → args[j]? = some v → Value.okWide Tryd.prog W .any base t v := hval0
  have hW' := hW
  obtain ⟨p, q, hA0, hV, rfl, hfz, hnd⟩ := hW
  have hA : DataW.TrodAll enc Tryd.prog W 0 (fun _ => true) true Tryd.f4.params.toList args.toList ds p := hA0
  rw [Tryd.params4] at hA hval
  obtain ⟨v0, vs0, d0, ds0, p0, q0, hargs, rfl, rfl, h0, r0⟩ := trodAll_cons hA
  obtain ⟨rfl, rfl, rfl⟩ := trodAll_nil r0
  obtain rfl : args = #[v0] := by cases args; simp_all
  obtain ⟨rfl, rfl⟩ := trodVars_none hV
  have hk0 := h0
  have hlt0 : ∀ x ∈ p0, x.block < W.heap.size := fun x hx => by simpa using hW'.lt x (by simp [hx])
  obtain ⟨G0, fv0, fs0, rfl, w0⟩ := open_unit (hval 0 24 v0 rfl rfl) h0
  clear hA0 hval0
  refine (walk G0 fv0 fs0 W w0 hz hSG).mono fun e W' ⟨he, hg⟩ => ?_
  subst he
  exact ⟨_, rfl, _, _, _, [], _, [], hW', trodAll_mk1 (shut_bool Tryd.underlying4 _), (trodAll_cons_mk (Below.trod laidOutP (by kernel_rfl) (of_decide_eq_true (by kernel_rfl)) hk0 hg hlt0) trodAll_mk0), rfl, hg.frame _, fun h => by cases h⟩

theorem over : Rows.compileMayRow.holds Tryd.pinned (OpenSpec.ofChange Rows.compileMaySpec) :=
  OpenClaim.holds_of_wide 4 Tryd.f4 rfl rfl rfl rfl rfl rfl rfl ⟨rfl, rfl, rfl, rfl, rfl⟩ rfl rfl rfl rfl rfl (by kernel_rfl) Tryd.func4 (by kernel_rfl)
    (of_decide_eq_true (by kernel_rfl)) (by unfold Func.isWrapper; first | (rw [if_pos (by decide +kernel)]; kernel_rfl) | (rw [if_neg (by decide +kernel)]; exact ⟨rfl, rfl⟩))
    (fun os started H enc _ => lifted os started H enc)

end Go.Proofs.YtgdbaceehpcgbaaDoor.compileMay
namespace Go.Proofs.YtgdbaceehpcgbaaDoor

/-- the statement, as it was given: the tied card -/
theorem compileMay_holds : Rows.CompileMayCardSaid :=
  Claim7.holds_tied_plain_at .later [] [.data] true (true, "9c31a867761a43e28d5f78fbfb89532fad3cc1587c39cf2682819e1fb18bc378") false
    compileMay.over (fun _ h => by cases h) (by kernel_rfl) (fun _ h => by cases h) compileMay_row_tie rfl ⟨rfl, rfl⟩ (by kernel_rfl) rfl
    (fun f fn hf hfn => by
      obtain rfl : f = 4 := Option.some.inj ((show Tryd.prog.funcNamed "proteus/proteuslaw15.CompileMay" = some 4 by kernel_rfl).symm.trans hf) |>.symm
      obtain rfl : fn = Tryd.f4 := (Option.some.inj (Tryd.func4.symm.trans hfn)).symm
      exact ⟨by kernel_rfl, fun j t ht => by
        rw [Tryd.params4] at ht
        have hm : t ∈ [24] := by simpa using Array.mem_of_getElem? ht
        have hall : ([24].all fun u => !Tryd.prog.wantsStandIn u) = true := by kernel_rfl
        exact (show Tryd.prog.wantsStandIn t = false by simpa using List.all_eq_true.1 hall t hm)⟩)
    (by kernel_rfl)
#print axioms compileMay_holds
end Go.Proofs.YtgdbaceehpcgbaaDoor
