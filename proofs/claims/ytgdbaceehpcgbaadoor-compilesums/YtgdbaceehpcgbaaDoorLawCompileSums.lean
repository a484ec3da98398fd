/- The steps of any program are the sum of its Ticks: of any program of at most 130 strings, 40 codes, and 400 instructions a code (else the law asks its own test alone), Ticks tells the sum, wrapped, of A of all instructions that are a Tick: CompileSums is true for every input; no condition. -/
import Derived.Test.YtgdbaceehpcgbaaDoorJoint15
import Derived.Test.YtgdbaceehpcgbaaDoorCpWork
import Derived.Test.YtgdbaceehpcgbaaDoorJoint24
import Derived.Test.YtgdbaceehpcgbaaDoorRows
import Derived.WalkKit
import Derived.ProofKit
import Derived.OpenShut
import Derived.ShutString
import Derived.ChangeOld
import Derived.Below
import Derived.Test.YtgdbaceehpcgbaaDoorTie
import Derived.Test.YtgdbaceehpcgbaaDoorCards
import Derived.SevenTiedAt
import Derived.Stop.Joined
import Derived.Carry
namespace Go.Proofs.YtgdbaceehpcgbaaDoor.compileSums
open Go.ChangeShapes Go.WideShapes Go.ChangeAt Go.RowKit
open Go.ChangeMaps (open_string shut_string)
set_option linter.unusedVariables false
set_option maxRecDepth 100000

theorem own : ownKnob Tryd.prog.godebug = none := by kernel_rfl

set_option linter.unusedSimpArgs false
set_option linter.unusedVariables false
set_option maxHeartbeats 6400000 in
set_option maxRecDepth 100000 in
theorem walk_sums (G : Int) (ss : List ByteArray) (cs : List Cd) (pa ca : Option Addr) (pc cc : Nat) (w : World) (HO : Hid (Ok w.heap.size w)) (hP : PlIn w.heap.size w (.slice pa ss.length pc) ss) (hC : CdsIn w.heap.size w (.slice ca cs.length cc) cs) :
    Calls Tryd.prog 7 #[.agg #[.int .i64 G, .slice pa ss.length pc, .slice ca cs.length cc]] w fun e w' => e = .returned (.bool true) ∧ Below w.heap.size w w' := by
  have FW := hid (fun W (q : Below w.heap.size w W) => cfew_calls w.heap.size ⟨G, ss, cs⟩ (.slice pa ss.length pc) (.slice ca cs.length cc) W q.size (plIn_on hP q) (cdsIn_on hC q))
  have TK := hid (fun (h : FewG ⟨G, ss, cs⟩) W (q : Below w.heap.size w W) => ticks_calls w.heap.size ⟨G, ss, cs⟩ (.slice pa ss.length pc) (.slice ca cs.length cc) W q.size (hid ⟨⟨pa, (ss.length, pc), rfl⟩, cdsIn_on hC q, Nat.le_trans h.2.1 (by decide), fun c hc => Nat.le_trans (h.2.2 c hc) (by decide)⟩))
  have HC := hid hC
  have HOK := hid (fun c (q : Below w.heap.size w c) => ok_up q.size (Nat.le_refl _) (ok_on HO.out q))
  simp only [pgV] at FW TK
  clear hP hC
  have AL := hid (box_below w (.cells #[.int .i64 G, .slice pa ss.length pc, .slice ca cs.length cc] 30))
  have BL := hid (blk_new w 30 #[.int .i64 G, .slice pa ss.length pc, .slice ca cs.length cc])
  have hsz : (w.alloc (.cells #[.int .i64 G, .slice pa ss.length pc, .slice ca cs.length cc] 30)).heap.size = w.heap.size + 1 := by simp
  generalize hW : w.alloc (.cells #[.int .i64 G, .slice pa ss.length pc, .slice ca cs.length cc] 30) = w1 at *
  have LOW := hid (fun (W : World) (q : Below w1.heap.size w1 W) => AL.out.trans (q.mono (by omega)))
  have CELLS := hid (fun (W : World) (q : Below w1.heap.size w1 W) => (show W.cell? ⟨w.heap.size, 0, none⟩ = some (.int .i64 G) ∧ W.cell? ⟨w.heap.size, 1, none⟩ = some (.slice pa ss.length pc) ∧ W.cell? ⟨w.heap.size, 2, none⟩ = some (.slice ca cs.length cc) from
    have h := blk_on BL.out q
    ⟨blk_cellZ h 0 rfl, blk_cellZ h 1 rfl, blk_cellZ h 2 rfl⟩))
  obtain ⟨p0, p1, p2⟩ := CELLS.out w1 (Below.refl _ _)
  go_enter Tryd.func7, Tryd.ntmps7
  go_wp2_with fail
  refine (FW.out _ AL.out).mono ?_
  rintro e w2 ⟨⟨r, rfl, hfew⟩, b2⟩
  have L2 := hid b2
  clear b2 p0 p1 p2 hW
  cases r with
  | false =>
    clear hfew
    go_wp2_with fail
    refine (works15_calls _ (HOK.out _ (LOW.out _ L2.out))).mono ?_
    rintro e w3 ⟨rfl, b3⟩
    have B3 := hid (LOW.out _ (below_in L2.out (Nat.le_refl _) b3))
    clear b3
    go_wp2_with fail
    go_ret
    exact ⟨rfl, B3.out⟩
  | true =>
  have FEW := hid (hfew rfl)
  have hcl : cs.length ≤ 40 := (hfew rfl).2.1
  replace TK := hid (TK.out (hfew rfl))
  clear hfew
  have hw0 : wr64 (tickQ (cs.take 0)) = 0 := by simp [wr64_is, tickQ, IntKind.wrap_i64]
  obtain ⟨p0, p1, p2⟩ := CELLS.out w2 L2.out
  go_wp2_with fail
  clear p0 p1 p2
  go_loopw [3, 4] (fun sV iV wr => ∃ i : Nat, i ≤ cs.length ∧ iV = .int .i64 i ∧ sV = .int .i64 (wr64 (tickQ (cs.take i))) ∧ Hid (Below w1.heap.size w1 wr)) (fun _ iV _ => cs.length - (intOf iV).toNat)
  case atStart => exact ⟨0, by omega, rfl, by rw [hw0], L2⟩
  case round =>
    obtain ⟨i, hi, rfl, rfl, hL⟩ := hrel
    rename World => wo
    obtain ⟨p0, p1, p2⟩ := CELLS.out wo hL.out
    by_cases hil : i < cs.length
    · have hx : cs[i]? = some cs[i] := List.getElem?_eq_getElem hil
      have hq := hid (LOW.out _ hL.out)
      obtain ⟨b, off, rfl, hbB, iv, c0, c1, c2, c3, c4, hI⟩ := cdsIn_at (cdsIn_on HC.out hq.out) hx
      have hin := FEW.out.2.2 cs[i] (List.getElem_mem hil)
      have hT := hid (tickQ_take hx)
      generalize cs[i] = c at *
      obtain ⟨ia, ic, rfl⟩ := insIn_shape hI
      have KI := hid hI
      have hbw : b < wo.heap.size := by have := hq.out.size; omega
      clear hx hI c0 c1 c2 c3
      go_wp2_with fail
      generalize hts : tickQ (cs.take i) = t0 at *
      clear hts
      go_loopw [3, 5] (fun sV jV wr' => ∃ j : Nat, j ≤ c.ins.length ∧ jV = .int .i64 j ∧ sV = .int .i64 (wr64 (t0 + tickS (c.ins.take j))) ∧ wr' = wo) (fun _ jV _ => c.ins.length - (intOf jV).toNat)
      case atStart => exact ⟨0, by omega, rfl, by simp [tickS], rfl⟩
      case round =>
        obtain ⟨j, hj, rfl, rfl, hwe⟩ := hrel
        subst hwe
        rename World => wi
        by_cases hjl : j < c.ins.length
        · have hx : c.ins[j]? = some c.ins[j] := List.getElem?_eq_getElem hjl
          obtain ⟨b2, off2, rfl, hb2, d0, d1, d2⟩ := insIn_at KI.out hx
          have hT2 := hid (tickS_take hx)
          generalize c.ins[j] = x at *
          obtain ⟨o, a, z⟩ := x
          dsimp only at *
          clear hx
          by_cases ho : o = 1
          · subst ho
            have hT3 := hid (show wr64 (t0 + tickS (c.ins.take (j + 1))) = wr64 (wr64 (t0 + tickS (c.ins.take j)) + a) by rw [wr64_add, hT2.out]; congr 1; simp [tickI]; omega)
            generalize wr64 (t0 + tickS (c.ins.take j)) = s0 at *
            go_wp2_with fail
            go_roundw
            case rel => exact ⟨j + 1, by omega, by go_num, by rw [hT3.out], trivial⟩
            case measure => simp [intOf]; omega
          · have hd : (o == 1) = false := by simpa using ho
            have hT3 := hid (show wr64 (t0 + tickS (c.ins.take (j + 1))) = wr64 (t0 + tickS (c.ins.take j)) by rw [hT2.out]; congr 1; simp [tickI, ho])
            generalize wr64 (t0 + tickS (c.ins.take j)) = s0 at *
            go_wp2_with fail
            go_roundw
            case rel => exact ⟨j + 1, by omega, by go_num, by rw [hT3.out], trivial⟩
            case measure => simp [intOf]; omega
        · have e : c.ins.take j = c.ins := List.take_of_length_le (by omega)
          rw [e, ← hT.out]
          clear e
          go_wp2_with fail
          go_roundw
          case rel => exact ⟨i + 1, by omega, by go_num, rfl, hL⟩
          case measure => simp [intOf]; omega
    · have e : cs.take i = cs := List.take_of_length_le (by omega)
      rw [e]
      have HT2 := hid (TK.out _ (LOW.out _ hL.out))
      clear e TK
      generalize wr64 (tickQ cs) = tt at *
      go_wp2_with fail
      refine HT2.out.mono ?_
      rintro e w3 ⟨rfl, b3⟩
      have L3 := hid (hL.out.trans (b3.mono hL.out.size))
      clear b3
      go_wp2_with fail
      refine (works15_calls _ (HOK.out _ (LOW.out _ L3.out))).mono ?_
      rintro e w4 ⟨rfl, b4⟩
      have L4 := hid (LOW.out _ (L3.out.trans (b4.mono L3.out.size)))
      clear b4
      go_wp2_with fail
      go_ret
      exact ⟨rfl, L4.out⟩

theorem walk (G0 : Int) (pv0 cv0 : Value) (ss0 : List ByteArray) (cs0 : List Cd) (w : World) (w0 : Hid ((PlIn w.heap.size w pv0 ss0 ∧ ∀ s ∈ ss0, s.size ≤ maxLen) ∧ CdsIn w.heap.size w cv0 cs0)) (h0 : 0 < w.heap.size) (SG : Hid (Texts 0 tsgnL w)) :
    Calls Tryd.prog 7 #[.agg #[.int .i64 G0, pv0, cv0]] w fun e w' => e = .returned (.bool true) ∧ Below w.heap.size w w' := by
  obtain ⟨pa, pc, rfl⟩ := plIn_shape w0.out.1.1
  obtain ⟨ca, cc, rfl⟩ := cdsIn_shape w0.out.2
  exact walk_sums G0 ss0 cs0 pa ca pc cc w (hid ⟨Nat.le_refl _, h0, SG.out⟩) w0.out.1.1 w0.out.2

set_option maxRecDepth 100000 in
theorem lifted (os : Os) (started : os.Started) (H : Type) (enc : TypeId × Value → H) :
    ReturnsInHanded {} Tryd.checked os 7 .any (fun w args => (Rows.compileSumsSpec.pre enc Tryd.prog Tryd.f7 [] false w args ∧ laidMetH Tryd.prog laidS w) ∧ sizedMet enc Tryd.prog Tryd.f7 (OpenSpec.ofChange Rows.compileSumsSpec) false w args)
      (Rows.compileSumsSpec.post enc Tryd.prog Tryd.f7 false true false false) := by
  refine returnsInHanded_of_change_and (C := Tryd.checked) (X := fun w _ => laidMetH Tryd.prog laidS w) (fun _ _ _ hh h => h.of_heap hh) own started (by kernel_rfl) Tryd.func7
    (ChangeSpec.witness_shaped (enc := enc) (C := Tryd.checked) (os := os) (X := fun w _ => laidMetH Tryd.prog laidS w) false (World.doorLaid Tryd.prog 14 os) #[.agg #[.int .i64 0, .slice none 0 0, .slice none 0 0]] 8 rfl (World.shaped_of_RefB (by kernel_rfl) (by kernel_rfl)) (by kernel_rfl) (by kernel_rfl) (by kernel_rfl) (door_met os _)) ?_
  intro W base args ds gs before hval0 hW _ _ hL _
  obtain ⟨hz, hSG⟩ := of_laid hL
  have hval : ∀ (j : Nat) t v, Tryd.f7.params[j]? = some t → args[j]? = some v → Value.okWide Tryd.prog W .any base t v := hval0
  have hW' := hW
  obtain ⟨p, q, hA0, hV, rfl, hfz, hnd⟩ := hW
  have hA : DataW.TrodAll enc Tryd.prog W 0 (fun _ => true) true Tryd.f7.params.toList args.toList ds p := hA0
  rw [Tryd.params7] at hA hval
  obtain ⟨v0, vs0, d0, ds0, p0, q0, hargs, rfl, rfl, h0, r0⟩ := trodAll_cons hA
  obtain ⟨rfl, rfl, rfl⟩ := trodAll_nil r0
  obtain rfl : args = #[v0] := by cases args; simp_all
  obtain ⟨rfl, rfl⟩ := trodVars_none hV
  have hk0 := h0
  have hlt0 : ∀ x ∈ p0, x.block < W.heap.size := fun x hx => by simpa using hW'.lt x (by simp [hx])
  obtain ⟨G0, pv0, cv0, ss0, cs0, rfl, w0⟩ := open_prog (hval 0 30 v0 rfl rfl) h0
  clear hA0 hval0
  refine (walk G0 pv0 cv0 ss0 cs0 W w0 hz hSG).mono fun e W' ⟨he, hg⟩ => ?_
  subst he
  exact ⟨_, rfl, _, _, _, [], _, [], hW', trodAll_mk1 (shut_bool Tryd.underlying4 _), (trodAll_cons_mk (Below.trod laidOutC (by kernel_rfl) (of_decide_eq_true (by kernel_rfl)) hk0 hg hlt0) trodAll_mk0), rfl, hg.frame _, fun h => by cases h⟩

theorem over : Rows.compileSumsRow.holds Tryd.pinned (OpenSpec.ofChange Rows.compileSumsSpec) :=
  OpenClaim.holds_of_wide 7 Tryd.f7 rfl rfl rfl rfl rfl rfl rfl ⟨rfl, rfl, rfl, rfl, rfl⟩ rfl rfl rfl rfl rfl (by kernel_rfl) Tryd.func7 (by kernel_rfl)
    (of_decide_eq_true (by kernel_rfl)) (by unfold Func.isWrapper; first | (rw [if_pos (by decide +kernel)]; kernel_rfl) | (rw [if_neg (by decide +kernel)]; exact ⟨rfl, rfl⟩))
    (fun os started H enc _ => lifted os started H enc)

end Go.Proofs.YtgdbaceehpcgbaaDoor.compileSums
namespace Go.Proofs.YtgdbaceehpcgbaaDoor

/-- the statement, as it was given: the tied card -/
theorem compileSums_holds : Rows.CompileSumsCardSaid :=
  Claim7.holds_tied_plain_at .later [] [.data] true (true, "9c31a867761a43e28d5f78fbfb89532fad3cc1587c39cf2682819e1fb18bc378") false
    compileSums.over (fun _ h => by cases h) (by kernel_rfl) (fun _ h => by cases h) compileSums_row_tie rfl ⟨rfl, rfl⟩ (by kernel_rfl) rfl
    (fun f fn hf hfn => by
      obtain rfl : f = 7 := Option.some.inj ((show Tryd.prog.funcNamed "proteus/proteuslaw15.CompileSums" = some 7 by kernel_rfl).symm.trans hf) |>.symm
      obtain rfl : fn = Tryd.f7 := (Option.some.inj (Tryd.func7.symm.trans hfn)).symm
      exact ⟨by kernel_rfl, fun j t ht => by
        rw [Tryd.params7] at ht
        have hm : t ∈ [30] := by simpa using Array.mem_of_getElem? ht
        have hall : ([30].all fun u => !Tryd.prog.wantsStandIn u) = true := by kernel_rfl
        exact (show Tryd.prog.wantsStandIn t = false by simpa using List.all_eq_true.1 hall t hm)⟩)
    (by kernel_rfl)
#print axioms compileSums_holds
end Go.Proofs.YtgdbaceehpcgbaaDoor
