/- A program of at most 400 instructions a code that may be is printed, and what is printed is read as that program again (of other programs the law asks its own test alone): AsmBack is true for every input; no condition. -/
import Derived.Test.YtnojlfdojmkonaaGreatDoorAsLaid
import Derived.Test.YtnojlfdojmkonaaGreatDoorAsWk
import Derived.Test.YtnojlfdojmkonaaGreatDoorCdFew
import Derived.Test.YtnojlfdojmkonaaGreatDoorCdRCk
import Derived.Test.YtnojlfdojmkonaaGreatDoorCdRSame
import Derived.Test.YtnojlfdojmkonaaGreatDoorCdOpen
import Derived.Test.YtnojlfdojmkonaaGreatDoorRows
import Derived.WalkKit
import Derived.ProofKit
import Derived.OpenShut
import Derived.ShutString
import Derived.ChangeOld
import Derived.Below
import Derived.Test.YtnojlfdojmkonaaGreatDoorTie
import Derived.Test.YtnojlfdojmkonaaGreatDoorCards
import Derived.SevenTiedAt
import Derived.Stop.Joined
import Derived.Carry
namespace Go.Proofs.YtnojlfdojmkonaaGreatDoor.asmBack
open Go.ChangeShapes Go.WideShapes Go.ChangeAt Go.RowKit
open Go.ChangeMaps (open_string shut_string)
set_option linter.unusedVariables false
set_option maxRecDepth 100000

theorem own : ownKnob Tryz.prog.godebug = none := by kernel_rfl

set_option linter.unusedSimpArgs false
set_option linter.unusedVariables false
theorem pgs_of {B : Nat} {w : World} {P : Pg} {pv cv : Value} (h : PgIn B w P pv cv) : PgS B w P pv cv := ⟨h.pool, h.codes, h.few, h.ins⟩
set_option maxHeartbeats 12800000 in
set_option maxRecDepth 100000 in
theorem walk_back (G : Int) (ss : List ByteArray) (cs : List Cd) (pa ca : Option Addr) (pc cc : Nat) (w : World) (LB : Hid (LibW w.heap.size w)) (hPl : Hid (PlIn w.heap.size w (.slice pa ss.length pc) ss)) (hS : ∀ s ∈ ss, s.size ≤ maxLen) (hC : Hid (CdsIn w.heap.size w (.slice ca cs.length cc) cs)) :
    Calls Tryz.prog 5 #[.agg #[.int .i64 G, .slice pa ss.length pc, .slice ca cs.length cc]] w fun e w' => e = .returned (.bool true) ∧ Below w.heap.size w w' := by
  have WK := hid (fun W (q : Below w.heap.size w W) => works16_calls W (LB.out.on q))
  obtain ⟨P, hP⟩ : ∃ P : Pg, P = ⟨G, ss, cs⟩ := ⟨_, rfl⟩
  have eg : G = P.g := by rw [hP]
  have ep : ss = P.pool := by rw [hP]
  have ec : cs = P.codes := by rw [hP]
  subst eg ep ec
  clear hP
  have HSZ := hid hS
  have FW := hid (fun W (q : Below w.heap.size w W) => cfew_calls w.heap.size P (.slice pa P.pool.length pc) (.slice ca P.codes.length cc) W q.size (plIn_on hPl.out q) (cdsIn_on hC.out q))
  have PG := hid (fun (hf : FewG P) => (⟨hPl.out, hC.out, ⟨by have := hf.1; omega, by have := hf.2.1; omega⟩, fun c hc => by have := hf.2.2 c hc; omega, HSZ.out⟩ : PgIn w.heap.size w P (.slice pa P.pool.length pc) (.slice ca P.codes.length cc)))
  have DC := hid (fun W (q : Below w.heap.size w W) hf => dcheck_calls w.heap.size P (.slice pa P.pool.length pc) (.slice ca P.codes.length cc) W q.size ((PG.out hf).on q))
  have PR := hid (fun W (q : Below w.heap.size w W) hf => aprint_calls w.heap.size P (.slice pa P.pool.length pc) (.slice ca P.codes.length cc) W q.size (hid ((PG.out hf).on q)))
  have RD := hid (fun t W (hs : t.size ≤ 1000000) (q : Below w.heap.size w W) => aread_calls t W (hid (libW_up (LB.out.on q) q.size (Nat.le_refl _))) hs)
  have SM := hid (fun B Q pv cv W hB ha hb => dsame_calls B P Q (.slice pa P.pool.length pc) (.slice ca P.codes.length cc) pv cv W hB ha hb)
  have TF := hid (fun h1 (h2 : FewG P) => text_few (P := P) h1 h2.2.2)
  have RO := hid (fun h => fun {Q a e} => read_of (P := P) h (Q := Q) (a := a) (e := e))
  have AL := hid (box_below w (.cells #[.int .i64 P.g, .slice pa P.pool.length pc, .slice ca P.codes.length cc] 25))
  have BL := hid (blk_new w 25 #[.int .i64 P.g, .slice pa P.pool.length pc, .slice ca P.codes.length cc])
  clear hS
  simp only [pgV] at *
  generalize hW1 : w.alloc (.cells #[.int .i64 P.g, .slice pa P.pool.length pc, .slice ca P.codes.length cc] 25) = w1 at *
  have CELLS := hid (fun (W : World) (q : Below w1.heap.size w1 W) => (show W.cell? ⟨w.heap.size, 0, none⟩ = some (.int .i64 P.g) ∧ W.cell? ⟨w.heap.size, 1, none⟩ = some (.slice pa P.pool.length pc) ∧ W.cell? ⟨w.heap.size, 2, none⟩ = some (.slice ca P.codes.length cc) from
    have h := blk_on BL.out q
    ⟨blk_cellZ h 0 rfl, blk_cellZ h 1 rfl, blk_cellZ h 2 rfl⟩))
  have LOW := hid (fun (W : World) (q : Below w1.heap.size w1 W) => AL.out.trans (q.mono AL.out.size))
  obtain ⟨p0, p1, p2⟩ := CELLS.out w1 (Below.refl _ _)
  go_enter Tryz.func5, Tryz.ntmps5
  go_wp2_with fail
  refine (FW.out w1 AL.out).mono ?_
  rintro e w2 ⟨⟨r, rfl, hr⟩, b2⟩
  have B2 := hid (LOW.out _ b2)
  have Q2 := hid b2
  have HR := hid hr
  clear b2 hr p0 p1 p2 hW1
  cases r with
  | false =>
    go_wp2_with fail
    refine (WK.out w2 B2.out).mono ?_
    rintro e w3 ⟨rfl, b3⟩
    have B3 := hid (B2.out.trans (b3.mono B2.out.size))
    clear b3
    go_wp2_with fail
    go_ret
    exact ⟨rfl, B3.out⟩
  | true =>
    have HF := hid (HR.out rfl)
    obtain ⟨p0, p1, p2⟩ := CELLS.out w2 Q2.out
    go_wp2_with fail
    refine (DC.out w2 B2.out HF.out).mono ?_
    rintro e w3 ⟨⟨r, rfl, hr⟩, b3⟩
    have B3 := hid (B2.out.trans (b3.mono B2.out.size))
    have Q3 := hid (Q2.out.trans (b3.mono Q2.out.size))
    have HR3 := hid hr
    clear b3 hr p0 p1 p2
    by_cases h0 : r = 0
    · subst h0
      have HC := hid (show checkP P by
        rcases HR3.out with ⟨_, h⟩ | ⟨h, _⟩
        · exact h
        · exact absurd h (by decide))
      obtain ⟨p0, p1, p2⟩ := CELLS.out w3 Q3.out
      go_wp2_with fail
      refine (PR.out w3 B3.out HF.out).mono ?_
      rintro e w4 ⟨⟨r, t, rfl, hr⟩, b4⟩
      have B4 := hid (B3.out.trans (b4.mono B3.out.size))
      have Q4 := hid (Q3.out.trans (b4.mono Q3.out.size))
      have hrt : r = 0 ∧ t = ⟨(txL (pgLP P)).toArray⟩ := by
        rcases hr with ⟨h1, _, h2⟩ | ⟨_, h, _⟩
        · exact ⟨h1, h2⟩
        · exact absurd HC.out h
      obtain ⟨rfl, ht⟩ := hrt
      have HT := hid ht
      have hts : t.size ≤ 1000000 := by
        have h1 := Lib.size_eq t
        rw [ht] at h1
        have h2 := TF.out HC.out HF.out
        simp only [List.toList_toArray] at h1
        rw [ht]
        omega
      clear hr b4 p0 p1 p2 ht
      go_wp2_with fail
      refine (RD.out t w4 hts B4.out).mono ?_
      rintro e w5 ⟨⟨Q, pv, cv, a, er, rfl, hI, hPQ⟩, b5⟩
      have hq := RO.out HC.out (show ReadIs (txL (pgLP P)) Q a er by
        have := hI
        rw [HT.out] at this
        exact this)
      obtain ⟨rfl, rfl, rfl⟩ := hq
      have B5 := hid (B4.out.trans (b5.mono B4.out.size))
      have Q5 := hid (Q4.out.trans (b5.mono Q4.out.size))
      have HPQ := hid hPQ
      obtain ⟨qa, qc, rfl⟩ := plIn_shape hPQ.pool
      obtain ⟨ra, rc, rfl⟩ := cdsIn_shape hPQ.codes
      have AL5 := hid (box_below w5 (.cells #[.int .i64 Q.g, .slice qa Q.pool.length qc, .slice ra Q.codes.length rc] 25))
      have BL5 := hid (blk_new w5 25 #[.int .i64 Q.g, .slice qa Q.pool.length qc, .slice ra Q.codes.length rc])
      clear hI b5 hPQ
      have hlt : w.heap.size < w5.heap.size := by
        have h1 := Q5.out.size
        have h2 := blk_lt BL.out
        omega
      have hne : ¬ w.heap.size = w5.heap.size := by omega
      have hne2 : ¬ w5.heap.size = w.heap.size := by omega
      obtain ⟨p0, p1, p2⟩ := CELLS.out w5 Q5.out
      go_wp2_with fail
      generalize hW6 : w5.alloc (.cells #[.int .i64 Q.g, .slice qa Q.pool.length qc, .slice ra Q.codes.length rc] 25) = w6 at *
      clear hW6 p0 p1 p2 hlt hne hne2
      have B6 := hid (B5.out.trans (AL5.out.mono B5.out.size))
      have SAME := SM.out w6.heap.size Q (.slice qa Q.pool.length qc) (.slice ra Q.codes.length rc) w6 (Nat.le_refl _) (pgs_of (((PG.out HF.out).on B6.out).mono B6.out.size)) (pgs_of ((HPQ.out.on AL5.out).mono AL5.out.size))
      simp only [pgV] at SAME
      refine SAME.mono ?_
      rintro e w7 ⟨⟨r, rfl, hr⟩, b7⟩
      have hr1 : r = true := hr.2 (by first | rfl | trivial)
      subst hr1
      have B7 := hid (B6.out.trans (b7.mono B6.out.size))
      clear hr b7 SAME
      go_wp2_with fail
      refine (WK.out w7 B7.out).mono ?_
      rintro e w8 ⟨rfl, b8⟩
      have B8 := hid (B7.out.trans (b8.mono B7.out.size))
      clear b8
      go_wp2_with fail
      go_ret
      exact ⟨rfl, B8.out⟩
    · have hne : (r != 0) = true := by simpa using h0
      clear h0 HR3
      go_wp2_with fail
      refine (WK.out w3 B3.out).mono ?_
      rintro e w4 ⟨rfl, b4⟩
      have B4 := hid (B3.out.trans (b4.mono B3.out.size))
      clear b4
      go_wp2_with fail
      go_ret
      exact ⟨rfl, B4.out⟩

theorem walk (G0 : Int) (pv0 cv0 : Value) (ss0 : List ByteArray) (cs0 : List Cd) (w : World) (w0 : Hid ((PlIn w.heap.size w pv0 ss0 ∧ ∀ s ∈ ss0, s.size ≤ maxLen) ∧ CdsIn w.heap.size w cv0 cs0)) (LB : Hid (LibW w.heap.size w)) :
    Calls Tryz.prog 5 #[.agg #[.int .i64 G0, pv0, cv0]] w fun e w' => e = .returned (.bool true) ∧ Below w.heap.size w w' := by
  obtain ⟨⟨hP, hS⟩, hC⟩ := w0.out
  obtain ⟨pa, pc, rfl⟩ := plIn_shape hP
  obtain ⟨ca, cc, rfl⟩ := cdsIn_shape hC
  exact walk_back G0 ss0 cs0 pa ca pc cc w LB (hid hP) hS (hid hC)

set_option maxRecDepth 100000 in
theorem lifted (os : Os) (started : os.Started) (H : Type) (enc : TypeId × Value → H) :
    ReturnsInHanded {} Tryz.checked os 5 .any (fun w args => (Rows.asmBackSpec.pre enc Tryz.prog Tryz.f5 [] false w args ∧ laidMetH Tryz.prog laidS w) ∧ sizedMet enc Tryz.prog Tryz.f5 (OpenSpec.ofChange Rows.asmBackSpec) false w args)
      (Rows.asmBackSpec.post enc Tryz.prog Tryz.f5 false true false false) := by
  refine returns_shaped (C := Tryz.checked) (X := fun w _ => laidMetH Tryz.prog laidS w) (fun _ _ _ hh h => h.of_heap hh) own started (by kernel_rfl) Tryz.func5
    (ChangeSpec.witness_shaped (enc := enc) (C := Tryz.checked) (os := os) (X := fun w _ => laidMetH Tryz.prog laidS w) false (World.laidAll Tryz.prog os laidS) #[.agg #[.int .i64 0, .slice none 0 0, .slice none 0 0]] 8 (World.laidAll_os _ _ _) (start_shaped os _) (by kernel_rfl) (by kernel_rfl) (by kernel_rfl) (start_met os _)) ?_
  intro W base args ds gs before hval0 hW hL hSH
  have hLB := of_laid hL hSH
  have hval : ∀ (j : Nat) t v, Tryz.f5.params[j]? = some t → args[j]? = some v → Value.okWide Tryz.prog W .any base t v := hval0
  have hW' := hW
  obtain ⟨p, q, hA0, hV, rfl, hfz, hnd⟩ := hW
  have hA : DataW.TrodAll enc Tryz.prog W 0 (fun _ => true) true Tryz.f5.params.toList args.toList ds p := hA0
  rw [Tryz.params5] at hA hval
  obtain ⟨v0, vs0, d0, ds0, p0, q0, hargs, rfl, rfl, h0, r0⟩ := trodAll_cons hA
  obtain ⟨rfl, rfl, rfl⟩ := trodAll_nil r0
  obtain rfl : args = #[v0] := by cases args; simp_all
  obtain ⟨rfl, rfl⟩ := trodVars_none hV
  have hk0 := h0
  have hlt0 : ∀ x ∈ p0, x.block < W.heap.size := fun x hx => by simpa using hW'.lt x (by simp [hx])
  obtain ⟨G0, pv0, cv0, ss0, cs0, rfl, w0⟩ := open_prog (hval 0 25 v0 rfl rfl) h0
  clear hA0 hval0
  refine (walk G0 pv0 cv0 ss0 cs0 W w0 (hid hLB)).mono fun e W' ⟨he, hg⟩ => ?_
  subst he
  exact ⟨_, rfl, _, _, _, [], _, [], hW', trodAll_mk1 (shut_bool Tryz.underlying4 _), (trodAll_cons_mk (Below.trod laidOutC (by kernel_rfl) (of_decide_eq_true (by kernel_rfl)) hk0 hg hlt0) trodAll_mk0), rfl, hg.frame _, fun h => by cases h⟩

theorem over : Rows.asmBackRow.holds Tryz.pinned (OpenSpec.ofChange Rows.asmBackSpec) :=
  OpenClaim.holds_of_wide 5 Tryz.f5 rfl rfl rfl rfl rfl rfl rfl ⟨rfl, rfl, rfl, rfl, rfl⟩ rfl rfl rfl rfl rfl (by kernel_rfl) Tryz.func5 (by kernel_rfl)
    (of_decide_eq_true (by kernel_rfl)) (by unfold Func.isWrapper; first | (rw [if_pos (by decide +kernel)]; kernel_rfl) | (rw [if_neg (by decide +kernel)]; exact ⟨rfl, rfl⟩))
    (fun os started H enc _ => lifted os started H enc)

end Go.Proofs.YtnojlfdojmkonaaGreatDoor.asmBack
namespace Go.Proofs.YtnojlfdojmkonaaGreatDoor

/-- the statement, as it was given: the tied card -/
theorem asmBack_holds : Rows.AsmBackCardSaid :=
  Claim7.holds_tied_plain_at .later [] [.data, .data, .data, .data, .sentinel, .sentinel, .pinned] true (true, "578d9c5b0b0532944ecec09dea6206759946b6aa2dae46e44ba14dec00c0b6bb") true
    asmBack.over (fun _ h => by cases h) (by kernel_rfl) (fun _ h => by cases h) asmBack_row_tie rfl ⟨rfl, rfl⟩ (by kernel_rfl) rfl
    (fun f fn hf hfn => by
      obtain rfl : f = 5 := Option.some.inj ((show Tryz.prog.funcNamed "proteus/proteuslaw16.AsmBack" = some 5 by kernel_rfl).symm.trans hf) |>.symm
      obtain rfl : fn = Tryz.f5 := (Option.some.inj (Tryz.func5.symm.trans hfn)).symm
      exact ⟨by kernel_rfl, fun j t ht => by
        rw [Tryz.params5] at ht
        have hm : t ∈ [25] := by simpa using Array.mem_of_getElem? ht
        have hall : ([25].all fun u => !Tryz.prog.wantsStandIn u) = true := by kernel_rfl
        exact (show Tryz.prog.wantsStandIn t = false by simpa using List.all_eq_true.1 hall t hm)⟩)
    (by kernel_rfl)
#print axioms asmBack_holds
end Go.Proofs.YtnojlfdojmkonaaGreatDoor
