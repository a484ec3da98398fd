/- What comes of a unit has just as many steps as the unit has nodes: of any unit of at most 40 functions, at most 60 statements a body, and at most 300 nodes, at most 40 high, with texts of at most 600 bytes and at most 60 names of at most 100 bytes (else the law asks its own test alone), Unit tells an error, or a program whose Ticks are as many as there are nodes: CompileTicks is true for every input; no condition. -/
import Derived.Test.YtgdbaceehpcgbaaDoorJoint24
import Derived.Test.YtgdbaceehpcgbaaDoorJoint5
import Derived.Test.YtgdbaceehpcgbaaDoorRows
import Derived.WalkKit
import Derived.ProofKit
import Derived.OpenShut
import Derived.ShutString
import Derived.ChangeOld
import Derived.Below
import Derived.Test.YtgdbaceehpcgbaaDoorTie
import Derived.Test.YtgdbaceehpcgbaaDoorCards
import Derived.SevenTiedAt
import Derived.Stop.Joined
import Derived.Carry
namespace Go.Proofs.YtgdbaceehpcgbaaDoor.compileTicks
open Go.ChangeShapes Go.WideShapes Go.ChangeAt Go.RowKit
open Go.ChangeMaps (open_string shut_string)
set_option linter.unusedVariables false
set_option maxRecDepth 100000

theorem own : ownKnob Tryd.prog.godebug = none := by kernel_rfl

set_option linter.unusedSimpArgs false
set_option linter.unusedVariables false
set_option maxHeartbeats 6400000 in
set_option maxRecDepth 100000 in
theorem walk_ticks (G : Int) (fv : Value) (fs : List Fq) (w : World) (H0 : Hid (FnsIn w.heap.size w fv fs)) (HO : Hid (Ok w.heap.size w)) :
    Calls Tryd.prog 5 #[.agg #[.int .i64 G, fv]] w fun e w' => e = .returned (.bool true) ∧ Below w.heap.size w w' := by
  obtain ⟨fa, fc, rfl⟩ := fnsIn_shape H0.out
  have HOK := hid (fun c (q : Below w.heap.size w c) => ok_up q.size (Nat.le_refl _) (ok_on HO.out q))
  have FW := hid (fun W (q : Below w.heap.size w W) => ufewt_calls G (.slice fa fs.length fc) fs w.heap.size W q.size (hid (fnsIn_on H0.out q)))
  have AL := hid (box_below w (.cells #[.int .i64 G, .slice fa fs.length fc] 24))
  have BL := hid (blk_new w 24 #[.int .i64 G, .slice fa fs.length fc])
  have hsz : (w.alloc (.cells #[.int .i64 G, .slice fa fs.length fc] 24)).heap.size = w.heap.size + 1 := by simp
  generalize hW : w.alloc (.cells #[.int .i64 G, .slice fa fs.length fc] 24) = w1 at *
  have LOW := hid (fun (W : World) (q : Below w1.heap.size w1 W) => AL.out.trans (q.mono (by omega)))
  have CELLS := hid (fun (W : World) (q : Below w1.heap.size w1 W) => (show W.cell? ⟨w.heap.size, 0, none⟩ = some (.int .i64 G) ∧ W.cell? ⟨w.heap.size, 1, none⟩ = some (.slice fa fs.length fc) from
    have h := blk_on BL.out q
    ⟨blk_cellZ h 0 rfl, blk_cellZ h 1 rfl⟩))
  obtain ⟨p0, p1⟩ := CELLS.out w1 (Below.refl _ _)
  go_enter Tryd.func5, Tryd.ntmps5
  go_wp2_with fail
  refine (FW.out _ AL.out).mono ?_
  rintro e w2 ⟨⟨r, rfl, hfew⟩, b2⟩
  have L2 := hid b2
  clear b2 p0 p1 hW
  cases r with
  | false =>
    clear hfew
    go_wp2_with fail
    refine (works15_calls _ (HOK.out _ (LOW.out _ L2.out))).mono ?_
    rintro e w3 ⟨rfl, b3⟩
    have B3 := hid (LOW.out _ (below_in L2.out (Nat.le_refl _) b3))
    clear b3
    go_wp2_with fail
    go_ret
    exact ⟨rfl, B3.out⟩
  | true =>
  have FEW := hid (hfew rfl)
  have hcnt : cntU fs ≤ 300 := (hfew rfl).2
  have hfl : fs.length ≤ 40 := (hfew rfl).1.1
  clear hfew
  have UC := hid (fun W (q : Below w.heap.size w W) => unit_calls G fs W.heap.size W (.slice fa fs.length fc) (hid (HOK.out W q)) (hid (cfnsIn_up q.size (fnsIn_on H0.out q))) (hid (fewU_ofV FEW.out.1)) hcnt hfl)
  obtain ⟨p0, p1⟩ := CELLS.out w2 L2.out
  go_wp2_with fail
  refine (UC.out _ (LOW.out _ L2.out)).mono ?_
  rintro e w3 ⟨hUO, b3⟩
  obtain ⟨g, pa, pn, pc, ca, cn, cc, x, rfl, hA⟩ := unit_any hUO
  have UA := hid hA
  have L3 := hid (L2.out.trans (b3.mono L2.out.size))
  have D3 := hid ((Below.refl w3.heap.size w3).alloc (Nat.le_refl _) (.cells #[.int .i64 g, .slice pa pn pc, .slice ca cn cc] 30))
  have BP := hid (blk_new w3 30 #[.int .i64 g, .slice pa pn pc, .slice ca cn cc])
  clear b3 hUO hA p0 p1 UC
  have h3w : w3.heap.size < (w3.alloc (.cells #[.int .i64 g, .slice pa pn pc, .slice ca cn cc] 30)).heap.size := by simp
  go_wp2_with fail
  generalize hW3 : w3.alloc (.cells #[.int .i64 g, .slice pa pn pc, .slice ca cn cc] 30) = w4 at *
  clear hW3 h3w
  have L4 := hid (L3.out.trans (D3.out.mono L3.out.size))
  have PC := hid (fun (W : World) (q : Below w4.heap.size w4 W) => (show W.cell? ⟨w3.heap.size, 0, none⟩ = some (.int .i64 g) ∧ W.cell? ⟨w3.heap.size, 1, none⟩ = some (.slice pa pn pc) ∧ W.cell? ⟨w3.heap.size, 2, none⟩ = some (.slice ca cn cc) from
    have h := blk_on BP.out q
    ⟨blk_cellZ h 0 rfl, blk_cellZ h 1 rfl, blk_cellZ h 2 rfl⟩))
  have FI := hid (fun (W : World) (q : Below w4.heap.size w4 W) => fnsIn_on H0.out (LOW.out _ (L4.out.trans (q.mono L4.out.size))))
  have CE4 := hid (fun (W : World) (q : Below w4.heap.size w4 W) => CELLS.out W (L4.out.trans (q.mono L4.out.size)))
  go_loopw [5, 6] (fun nV kV wr => ∃ k : Nat, k ≤ fs.length ∧ kV = .int .i64 k ∧ nV = .int .i64 (cntU (fs.take k)) ∧ Hid (Below w4.heap.size w4 wr)) (fun _ kV _ => fs.length - (intOf kV).toNat)
  case atStart => exact ⟨0, by omega, rfl, by simp [cntU], hid (Below.refl _ _)⟩
  case round =>
    obtain ⟨k, hk, rfl, rfl, hL⟩ := hrel
    rename World => wo
    obtain ⟨p0, p1⟩ := CE4.out wo hL.out
    by_cases hkl : k < fs.length
    · have hx : fs[k]? = some fs[k] := List.getElem?_eq_getElem hkl
      obtain ⟨b, off, rfl, hbB, kv, d0, d1, d2, hkk⟩ := fnsIn_at (FI.out wo hL.out) hx
      have HC := hid (cntU_take hkl)
      have hcl := cntU_le fs k
      have hcl2 := cntU_le fs (k + 1)
      have hf60 : fs[k].2.2.length ≤ 60 := (FEW.out.1.2 fs[k] (List.getElem_mem hkl)).1
      generalize fs[k] = f at *
      obtain ⟨pp, qq, l⟩ := f
      dsimp only at *
      obtain ⟨ka, kc, rfl, hks⟩ := kidsIn_cases hkk
      have KS := hid hks
      have hwo : w.heap.size ≤ wo.heap.size := by have h1 := (LOW.out _ (L4.out.trans (hL.out.mono L4.out.size))).size; omega
      have D2 := hid (fun (W : World) (q : Below wo.heap.size wo W) => (q.cell (p := ⟨b, off + k * 3 + 2, none⟩) (by show b < _; omega)).trans d2)
      generalize cntU (fs.take k) = c0 at *
      have hcl60 : countL l ≤ 300 := by have := HC.out; omega
      clear hx hkk hks d0 d1
      go_wp2_with fail
      clear p0 p1 d2
      go_loopw [5, 7] (fun nV jV wr' => ∃ j : Nat, j ≤ l.length ∧ jV = .int .i64 j ∧ nV = .int .i64 ((c0 + countL (l.take j) : Nat) : Int) ∧ Hid (Below wo.heap.size wo wr')) (fun _ jV _ => l.length - (intOf jV).toNat)
      case atStart => exact ⟨0, by omega, rfl, by simp [countL], hid (Below.refl _ _)⟩
      case round =>
        obtain ⟨j, hj, rfl, rfl, hI⟩ := hrel
        rename World => wi
        have d2 := D2.out wi hI.out
        have LI := hid (hL.out.trans (hI.out.mono hL.out.size))
        obtain ⟨p0, p1⟩ := CE4.out wi LI.out
        by_cases hjl : j < l.length
        · obtain ⟨b2, off2, rfl, hb2, hat⟩ := KS.out.resolve_left (fun h => by rw [h] at hjl; cases hjl)
          obtain ⟨nv1, kv1, hnode, hin⟩ := ndsAt_get hat j hjl
          have hq := hid (hI.out.mono hwo)
          obtain ⟨g0, g1, g2, g3, g4, g5, g6⟩ := nodeAt_on hnode hb2 hq.out
          have HT := hid (show countL (l.take (j + 1)) = countL (l.take j) + countN l[j] by rw [take_one l j hjl, countL_snoc])
          have hct := countL_take l (j + 1)
          have CN := hid (refcount_calls l[j] w.heap.size wi nv1 kv1 (Nat.le_trans hwo hI.out.size) (hid (ndIn_on hq.out _ _ _ hin)) (by have := HT.out; omega))
          generalize l[j] = x at *
          obtain ⟨a1, z1, a2, z2, rfl, rfl⟩ := ndIn_shape hin
          have hcx : countN x ≤ 300 := by have := HT.out; omega
          have hcj := countL_take l j
          clear hin hnode hat KS
          generalize countL (l.take j) = cj at *
          go_wp2_with fail
          refine CN.out.mono ?_
          rintro e5 w5 ⟨rfl, b5⟩
          have B5 := hid (below_on hI.out b5)
          clear b5 CN p0 p1 d2 g0 g1 g2 g3 g4 g5 g6
          generalize countN x = cx at *
          have hs : ((c0 + cj : Nat) : Int) + (cx : Int) = ((c0 + (cj + cx) : Nat) : Int) := by push_cast; omega
          go_wp2_with fail
          go_roundw
          case rel => exact ⟨j + 1, by omega, by go_num, by rw [HT.out]; first | rfl | (congr 1; push_cast; omega) | (rw [← hs]; rfl), B5⟩
          case measure => simp [intOf]; omega
        · have e : l.take j = l := List.take_of_length_le (by omega)
          rw [e, ← HC.out]
          clear e KS
          go_wp2_with fail
          go_roundw
          case rel => exact ⟨k + 1, by omega, by go_num, rfl, LI⟩
          case measure => simp [intOf]; omega
    · have e : fs.take k = fs := List.take_of_length_le (by omega)
      rw [e]
      obtain ⟨q0, q1, q2⟩ := PC.out wo hL.out
      have L5 := hid (L4.out.trans (hL.out.mono L4.out.size))
      clear e PC FI CE4
      by_cases hx0 : x = 0
      · rcases UA.out with ⟨h1, _⟩ | ⟨_, rfl, cs, L, hu, rfl, rfl, hP⟩
        · exact absurd hx0 h1
        · have hd : (x != 0) = false := by simp [hx0]
          have TK := hid (ticks_calls w3.heap.size ⟨g, L, cs⟩ (.slice pa L.length pc) (.slice ca cs.length cc) wo (by have h1 := D3.out.size; have h2 := hL.out.size; omega) (hid (pgIn_tick (hP.on (D3.out.trans (hL.out.mono D3.out.size))))))
          have ht := unit_tick hu
          simp only [pgV] at TK
          rw [ht] at TK
          have hw : wr64 (cntU fs : Int) = (cntU fs : Int) := by simp only [wr64_is, IntKind.wrap_i64]; omega
          rw [hw] at TK
          clear hP hu ht hw UA
          generalize cntU fs = n at *
          go_wp2_with fail
          refine TK.out.mono ?_
          rintro e w6 ⟨rfl, b6⟩
          have L6 := hid (L5.out.trans (b6.mono L5.out.size))
          clear b6
          go_wp2_with fail
          refine (works15_calls _ (HOK.out _ (LOW.out _ L6.out))).mono ?_
          rintro e w7 ⟨rfl, b7⟩
          have L7 := hid (LOW.out _ (L6.out.trans (b7.mono L6.out.size)))
          clear b7
          go_wp2_with fail
          go_ret
          exact ⟨rfl, L7.out⟩
      · have hd : (x != 0) = true := by simpa using hx0
        clear UA
        go_wp2_with fail
        refine (works15_calls _ (HOK.out _ (LOW.out _ L5.out))).mono ?_
        rintro e w7 ⟨rfl, b7⟩
        have L7 := hid (LOW.out _ (L5.out.trans (b7.mono L5.out.size)))
        clear b7
        go_wp2_with fail
        go_ret
        exact ⟨rfl, L7.out⟩

theorem walk (G0 : Int) (fv0 : Value) (fs0 : List Fq) (w : World) (w0 : Hid (FnsIn w.heap.size w fv0 fs0)) (h0 : 0 < w.heap.size) (SG : Hid (Texts 0 tsgnL w)) :
    Calls Tryd.prog 5 #[.agg #[.int .i64 G0, fv0]] w fun e w' => e = .returned (.bool true) ∧ Below w.heap.size w w' := by
  exact walk_ticks G0 fv0 fs0 w w0 (hid ⟨Nat.le_refl _, h0, SG.out⟩)

set_option maxRecDepth 100000 in
theorem lifted (os : Os) (started : os.Started) (H : Type) (enc : TypeId × Value → H) :
    ReturnsInHanded {} Tryd.checked os 5 .any (fun w args => (Rows.compileTicksSpec.pre enc Tryd.prog Tryd.f5 [] false w args ∧ laidMetH Tryd.prog laidS w) ∧ sizedMet enc Tryd.prog Tryd.f5 (OpenSpec.ofChange Rows.compileTicksSpec) false w args)
      (Rows.compileTicksSpec.post enc Tryd.prog Tryd.f5 false true false false) := by
  refine returnsInHanded_of_change_and (C := Tryd.checked) (X := fun w _ => laidMetH Tryd.prog laidS w) (fun _ _ _ hh h => h.of_heap hh) own started (by kernel_rfl) Tryd.func5
    (ChangeSpec.witness_shaped (enc := enc) (C := Tryd.checked) (os := os) (X := fun w _ => laidMetH Tryd.prog laidS w) false (World.doorLaid Tryd.prog 14 os) #[.agg #[.int .i64 0, .slice none 0 0]] 8 rfl (World.shaped_of_RefB (by kernel_rfl) (by kernel_rfl)) (by kernel_rfl) (by kernel_rfl) (by kernel_rfl) (door_met os _)) ?_
  intro W base args ds gs before hval0 hW _ _ hL _
  obtain ⟨hz, hSG⟩ := of_laid hL
  have hval : ∀ (j : Nat) t v, Tryd.f5.params[j]? = some t → args[j]? = some v → Value.okWide Tryd.prog W .any base t v := hval0
  have hW' := hW
  obtain ⟨p, q, hA0, hV, rfl, hfz, hnd⟩ := hW
  have hA : DataW.TrodAll enc Tryd.prog W 0 (fun _ => true) true Tryd.f5.params.toList args.toList ds p := hA0
  rw [Tryd.params5] at hA hval
  obtain ⟨v0, vs0, d0, ds0, p0, q0, hargs, rfl, rfl, h0, r0⟩ := trodAll_cons hA
  obtain ⟨rfl, rfl, rfl⟩ := trodAll_nil r0
  obtain rfl : args = #[v0] := by cases args; simp_all
  obtain ⟨rfl, rfl⟩ := trodVars_none hV
  have hk0 := h0
  have hlt0 : ∀ x ∈ p0, x.block < W.heap.size := fun x hx => by simpa using hW'.lt x (by simp [hx])
  obtain ⟨G0, fv0, fs0, rfl, w0⟩ := open_unit (hval 0 24 v0 rfl rfl) h0
  clear hA0 hval0
  refine (walk G0 fv0 fs0 W w0 hz hSG).mono fun e W' ⟨he, hg⟩ => ?_
  subst he
  exact ⟨_, rfl, _, _, _, [], _, [], hW', trodAll_mk1 (shut_bool Tryd.underlying4 _), (trodAll_cons_mk (Below.trod laidOutP (by kernel_rfl) (of_decide_eq_true (by kernel_rfl)) hk0 hg hlt0) trodAll_mk0), rfl, hg.frame _, fun h => by cases h⟩

theorem over : Rows.compileTicksRow.holds Tryd.pinned (OpenSpec.ofChange Rows.compileTicksSpec) :=
  OpenClaim.holds_of_wide 5 Tryd.f5 rfl rfl rfl rfl rfl rfl rfl ⟨rfl, rfl, rfl, rfl, rfl⟩ rfl rfl rfl rfl rfl (by kernel_rfl) Tryd.func5 (by kernel_rfl)
    (of_decide_eq_true (by kernel_rfl)) (by unfold Func.isWrapper; first | (rw [if_pos (by decide +kernel)]; kernel_rfl) | (rw [if_neg (by decide +kernel)]; exact ⟨rfl, rfl⟩))
    (fun os started H enc _ => lifted os started H enc)

end Go.Proofs.YtgdbaceehpcgbaaDoor.compileTicks
namespace Go.Proofs.YtgdbaceehpcgbaaDoor

/-- the statement, as it was given: the tied card -/
theorem compileTicks_holds : Rows.CompileTicksCardSaid :=
  Claim7.holds_tied_plain_at .later [] [.data] true (true, "9c31a867761a43e28d5f78fbfb89532fad3cc1587c39cf2682819e1fb18bc378") false
    compileTicks.over (fun _ h => by cases h) (by kernel_rfl) (fun _ h => by cases h) compileTicks_row_tie rfl ⟨rfl, rfl⟩ (by kernel_rfl) rfl
    (fun f fn hf hfn => by
      obtain rfl : f = 5 := Option.some.inj ((show Tryd.prog.funcNamed "proteus/proteuslaw15.CompileTicks" = some 5 by kernel_rfl).symm.trans hf) |>.symm
      obtain rfl : fn = Tryd.f5 := (Option.some.inj (Tryd.func5.symm.trans hfn)).symm
      exact ⟨by kernel_rfl, fun j t ht => by
        rw [Tryd.params5] at ht
        have hm : t ∈ [24] := by simpa using Array.mem_of_getElem? ht
        have hall : ([24].all fun u => !Tryd.prog.wantsStandIn u) = true := by kernel_rfl
        exact (show Tryd.prog.wantsStandIn t = false by simpa using List.all_eq_true.1 hall t hm)⟩)
    (by kernel_rfl)
#print axioms compileTicks_holds
end Go.Proofs.YtgdbaceehpcgbaaDoor
