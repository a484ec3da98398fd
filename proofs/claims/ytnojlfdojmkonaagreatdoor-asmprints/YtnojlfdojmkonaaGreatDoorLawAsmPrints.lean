/- A program of at most 400 instructions a code has the text that the document says, or the error 16 and no text; any instruction has the name that it says (of longer programs the law asks its own test alone): AsmPrints is true for every input; no condition. -/
import Derived.Test.YtnojlfdojmkonaaGreatDoorAsLaid
import Derived.Test.YtnojlfdojmkonaaGreatDoorAsWk
import Derived.Test.YtnojlfdojmkonaaGreatDoorCdFew
import Derived.Test.YtnojlfdojmkonaaGreatDoorCdRCk
import Derived.Test.YtnojlfdojmkonaaGreatDoorJoint7
import Derived.Test.YtnojlfdojmkonaaGreatDoorCdOpen
import Derived.Test.YtnojlfdojmkonaaGreatDoorRows
import Derived.WalkKit
import Derived.ProofKit
import Derived.OpenShut
import Derived.ShutString
import Derived.ChangeOld
import Derived.Below
import Derived.Test.YtnojlfdojmkonaaGreatDoorTie
import Derived.Test.YtnojlfdojmkonaaGreatDoorCards
import Derived.SevenTiedAt
import Derived.Stop.Joined
import Derived.Carry
namespace Go.Proofs.YtnojlfdojmkonaaGreatDoor.asmPrints
open Go.ChangeShapes Go.WideShapes Go.ChangeAt Go.RowKit
open Go.ChangeMaps (open_string shut_string)
set_option linter.unusedVariables false
set_option maxRecDepth 100000

theorem own : ownKnob Tryz.prog.godebug = none := by kernel_rfl

set_option linter.unusedSimpArgs false
set_option linter.unusedVariables false
set_option maxHeartbeats 12800000 in
set_option maxRecDepth 100000 in
theorem walk_prints (G : Int) (ss : List ByteArray) (cs : List Cd) (pa ca : Option Addr) (pc cc : Nat) (op : Int) (w : World) (LB : Hid (LibW w.heap.size w)) (hPl : Hid (PlIn w.heap.size w (.slice pa ss.length pc) ss)) (hS : ∀ s ∈ ss, s.size ≤ maxLen) (hC : Hid (CdsIn w.heap.size w (.slice ca cs.length cc) cs)) :
    Calls Tryz.prog 3 #[.agg #[.int .i64 G, .slice pa ss.length pc, .slice ca cs.length cc], .int .i64 op] w fun e w' => e = .returned (.bool true) ∧ Below w.heap.size w w' := by
  have WK := hid (fun W (q : Below w.heap.size w W) => works16_calls W (LB.out.on q))
  obtain ⟨P, hP⟩ : ∃ P : Pg, P = ⟨G, ss, cs⟩ := ⟨_, rfl⟩
  have eg : G = P.g := by rw [hP]
  have ep : ss = P.pool := by rw [hP]
  have ec : cs = P.codes := by rw [hP]
  subst eg ep ec
  clear hP
  have HSZ := hid hS
  have FW := hid (fun W (q : Below w.heap.size w W) => cfew_calls w.heap.size P (.slice pa P.pool.length pc) (.slice ca P.codes.length cc) W q.size (plIn_on hPl.out q) (cdsIn_on hC.out q))
  have PG := hid (fun (hf : FewG P) => (⟨hPl.out, hC.out, ⟨by have := hf.1; omega, by have := hf.2.1; omega⟩, fun c hc => by have := hf.2.2 c hc; omega, HSZ.out⟩ : PgIn w.heap.size w P (.slice pa P.pool.length pc) (.slice ca P.codes.length cc)))
  have PR := hid (fun W (q : Below w.heap.size w W) hf => aprint_calls w.heap.size P (.slice pa P.pool.length pc) (.slice ca P.codes.length cc) W q.size (hid ((PG.out hf).on q)))
  have DP := hid (fun W (q : Below w.heap.size w W) hf => dprint_calls w.heap.size P (.slice pa P.pool.length pc) (.slice ca P.codes.length cc) W q.size (hid ((PG.out hf).on q)))
  have AL := hid (box_below w (.cells #[.int .i64 P.g, .slice pa P.pool.length pc, .slice ca P.codes.length cc] 25))
  have BL := hid (blk_new w 25 #[.int .i64 P.g, .slice pa P.pool.length pc, .slice ca P.codes.length cc])
  have WSZ := hid (Nat.le_refl w.heap.size)
  clear hS
  simp only [pgV] at *
  generalize hW1 : w.alloc (.cells #[.int .i64 P.g, .slice pa P.pool.length pc, .slice ca P.codes.length cc] 25) = w1 at *
  have CELLS := hid (fun (W : World) (q : Below w1.heap.size w1 W) => (show W.cell? ⟨w.heap.size, 0, none⟩ = some (.int .i64 P.g) ∧ W.cell? ⟨w.heap.size, 1, none⟩ = some (.slice pa P.pool.length pc) ∧ W.cell? ⟨w.heap.size, 2, none⟩ = some (.slice ca P.codes.length cc) from
    have h := blk_on BL.out q
    ⟨blk_cellZ h 0 rfl, blk_cellZ h 1 rfl, blk_cellZ h 2 rfl⟩))
  have LOW := hid (fun (W : World) (q : Below w1.heap.size w1 W) => AL.out.trans (q.mono AL.out.size))
  obtain ⟨p0, p1, p2⟩ := CELLS.out w1 (Below.refl _ _)
  go_enter Tryz.func3, Tryz.ntmps3
  go_wp2_with fail
  refine (FW.out w1 AL.out).mono ?_
  rintro e w2 ⟨⟨r, rfl, hr⟩, b2⟩
  have B2 := hid (LOW.out _ b2)
  have Q2 := hid b2
  have HR := hid hr
  clear b2 hr p0 p1 p2 hW1
  cases r with
  | false =>
    go_wp2_with fail
    refine (WK.out w2 B2.out).mono ?_
    rintro e w3 ⟨rfl, b3⟩
    have B3 := hid (B2.out.trans (b3.mono B2.out.size))
    clear b3
    go_wp2_with fail
    go_ret
    exact ⟨rfl, B3.out⟩
  | true =>
    have HF := hid (HR.out rfl)
    obtain ⟨p0, p1, p2⟩ := CELLS.out w2 Q2.out
    go_wp2_with fail
    refine (PR.out w2 B2.out HF.out).mono ?_
    rintro e w3 ⟨⟨r, t, rfl, hr⟩, b3⟩
    have B3 := hid (B2.out.trans (b3.mono B2.out.size))
    have Q3 := hid (Q2.out.trans (b3.mono Q2.out.size))
    have HR3 := hid hr
    clear b3 hr p0 p1 p2
    obtain ⟨p0, p1, p2⟩ := CELLS.out w3 Q3.out
    go_wp2_with fail
    refine (DP.out w3 B3.out HF.out).mono ?_
    rintro e w4 ⟨⟨r', t', rfl, hr⟩, b4⟩
    have B4 := hid (B3.out.trans (b4.mono B3.out.size))
    have Q4 := hid (Q3.out.trans (b4.mono Q3.out.size))
    have hee : r' = r ∧ t' = t := by
      rcases hr with ⟨h1, h2, h3⟩ | ⟨h1, h2, h3⟩ <;> rcases HR3.out with ⟨g1, g2, g3⟩ | ⟨g1, g2, g3⟩
      · exact ⟨h1.trans g1.symm, h3.trans g3.symm⟩
      · exact absurd h2 g2
      · exact absurd g2 h2
      · exact ⟨h1.trans g1.symm, h3.trans g3.symm⟩
    obtain ⟨rfl, rfl⟩ := hee
    clear b4 hr p0 p1 p2 HR3
    go_wp2_with fail
    refine (aname_calls op w4).mono ?_
    rintro e w5 ⟨rfl, b5⟩
    have B5 := hid (B4.out.trans (b5.mono B4.out.size))
    clear b5
    go_wp2_with fail
    refine (rname_calls op w5).mono ?_
    rintro e w6 ⟨rfl, b6⟩
    have B6 := hid (B5.out.trans (b6.mono B5.out.size))
    clear b6
    go_wp2_with fail
    refine (WK.out w6 B6.out).mono ?_
    rintro e w7 ⟨rfl, b7⟩
    have B7 := hid (B6.out.trans (b7.mono B6.out.size))
    clear b7
    go_wp2_with fail
    go_ret
    exact ⟨rfl, B7.out⟩

theorem walk (G0 : Int) (pv0 cv0 : Value) (ss0 : List ByteArray) (cs0 : List Cd) (a1 : Int) (w : World) (w0 : Hid ((PlIn w.heap.size w pv0 ss0 ∧ ∀ s ∈ ss0, s.size ≤ maxLen) ∧ CdsIn w.heap.size w cv0 cs0)) (w1 : (Lit.int .i64 a1).wf = true) (LB : Hid (LibW w.heap.size w)) :
    Calls Tryz.prog 3 #[.agg #[.int .i64 G0, pv0, cv0], .int .i64 a1] w fun e w' => e = .returned (.bool true) ∧ Below w.heap.size w w' := by
  obtain ⟨⟨hP, hS⟩, hC⟩ := w0.out
  obtain ⟨pa, pc, rfl⟩ := plIn_shape hP
  obtain ⟨ca, cc, rfl⟩ := cdsIn_shape hC
  exact walk_prints G0 ss0 cs0 pa ca pc cc a1 w LB (hid hP) hS (hid hC)

set_option maxRecDepth 100000 in
theorem lifted (os : Os) (started : os.Started) (H : Type) (enc : TypeId × Value → H) :
    ReturnsInHanded {} Tryz.checked os 3 .any (fun w args => (Rows.asmPrintsSpec.pre enc Tryz.prog Tryz.f3 [] false w args ∧ laidMetH Tryz.prog laidS w) ∧ sizedMet enc Tryz.prog Tryz.f3 (OpenSpec.ofChange Rows.asmPrintsSpec) false w args)
      (Rows.asmPrintsSpec.post enc Tryz.prog Tryz.f3 false true false false) := by
  refine returns_shaped (C := Tryz.checked) (X := fun w _ => laidMetH Tryz.prog laidS w) (fun _ _ _ hh h => h.of_heap hh) own started (by kernel_rfl) Tryz.func3
    (ChangeSpec.witness_shaped (enc := enc) (C := Tryz.checked) (os := os) (X := fun w _ => laidMetH Tryz.prog laidS w) false (World.laidAll Tryz.prog os laidS) #[.agg #[.int .i64 0, .slice none 0 0, .slice none 0 0], .int .i64 0] 8 (World.laidAll_os _ _ _) (start_shaped os _) (by kernel_rfl) (by kernel_rfl) (by kernel_rfl) (start_met os _)) ?_
  intro W base args ds gs before hval0 hW hL hSH
  have hLB := of_laid hL hSH
  have hval : ∀ (j : Nat) t v, Tryz.f3.params[j]? = some t → args[j]? = some v → Value.okWide Tryz.prog W .any base t v := hval0
  have hW' := hW
  obtain ⟨p, q, hA0, hV, rfl, hfz, hnd⟩ := hW
  have hA : DataW.TrodAll enc Tryz.prog W 0 (fun _ => true) true Tryz.f3.params.toList args.toList ds p := hA0
  rw [Tryz.params3] at hA hval
  obtain ⟨v0, vs0, d0, ds0, p0, q0, hargs, rfl, rfl, h0, r0⟩ := trodAll_cons hA
  obtain ⟨v1, vs1, d1, ds1, p1, q1, rfl, rfl, rfl, h1, r1⟩ := trodAll_cons r0
  obtain ⟨rfl, rfl, rfl⟩ := trodAll_nil r1
  obtain rfl : args = #[v0, v1] := by cases args; simp_all
  obtain ⟨rfl, rfl⟩ := trodVars_none hV
  have hk0 := h0
  have hlt0 : ∀ x ∈ p0, x.block < W.heap.size := fun x hx => by simpa using hW'.lt x (by simp [hx])
  obtain ⟨G0, pv0, cv0, ss0, cs0, rfl, w0⟩ := open_prog (hval 0 25 v0 rfl rfl) h0
  obtain ⟨a1, rfl, rfl, rfl, w1⟩ := open_int Tryz.underlying3 (hval 1 3 v1 rfl rfl) h1
  clear hA0 hval0
  refine (walk G0 pv0 cv0 ss0 cs0 a1 W w0 w1 (hid hLB)).mono fun e W' ⟨he, hg⟩ => ?_
  subst he
  exact ⟨_, rfl, _, _, _, [], _, [], hW', trodAll_mk1 (shut_bool Tryz.underlying4 _), (trodAll_cons_mk (Below.trod laidOutC (by kernel_rfl) (of_decide_eq_true (by kernel_rfl)) hk0 hg hlt0) (trodAll_cons_mk (shut_int Tryz.underlying3 w1) trodAll_mk0)), rfl, hg.frame _, fun h => by cases h⟩

theorem over : Rows.asmPrintsRow.holds Tryz.pinned (OpenSpec.ofChange Rows.asmPrintsSpec) :=
  OpenClaim.holds_of_wide 3 Tryz.f3 rfl rfl rfl rfl rfl rfl rfl ⟨rfl, rfl, rfl, rfl, rfl⟩ rfl rfl rfl rfl rfl (by kernel_rfl) Tryz.func3 (by kernel_rfl)
    (of_decide_eq_true (by kernel_rfl)) (by unfold Func.isWrapper; first | (rw [if_pos (by decide +kernel)]; kernel_rfl) | (rw [if_neg (by decide +kernel)]; exact ⟨rfl, rfl⟩))
    (fun os started H enc _ => lifted os started H enc)

end Go.Proofs.YtnojlfdojmkonaaGreatDoor.asmPrints
namespace Go.Proofs.YtnojlfdojmkonaaGreatDoor

/-- the statement, as it was given: the tied card -/
theorem asmPrints_holds : Rows.AsmPrintsCardSaid :=
  Claim7.holds_tied_plain_at .later [] [.data, .data, .data, .data, .sentinel, .sentinel, .pinned] true (true, "578d9c5b0b0532944ecec09dea6206759946b6aa2dae46e44ba14dec00c0b6bb") true
    asmPrints.over (fun _ h => by cases h) (by kernel_rfl) (fun _ h => by cases h) asmPrints_row_tie rfl ⟨rfl, rfl⟩ (by kernel_rfl) rfl
    (fun f fn hf hfn => by
      obtain rfl : f = 3 := Option.some.inj ((show Tryz.prog.funcNamed "proteus/proteuslaw16.AsmPrints" = some 3 by kernel_rfl).symm.trans hf) |>.symm
      obtain rfl : fn = Tryz.f3 := (Option.some.inj (Tryz.func3.symm.trans hfn)).symm
      exact ⟨by kernel_rfl, fun j t ht => by
        rw [Tryz.params3] at ht
        have hm : t ∈ [25, 3] := by simpa using Array.mem_of_getElem? ht
        have hall : ([25, 3].all fun u => !Tryz.prog.wantsStandIn u) = true := by kernel_rfl
        exact (show Tryz.prog.wantsStandIn t = false by simpa using List.all_eq_true.1 hall t hm)⟩)
    (by kernel_rfl)
#print axioms asmPrints_holds
end Go.Proofs.YtnojlfdojmkonaaGreatDoor
