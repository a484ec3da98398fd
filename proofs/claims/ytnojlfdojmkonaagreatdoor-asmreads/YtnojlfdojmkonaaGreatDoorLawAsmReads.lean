/- The program of any text of at most 3000 bytes, or the error and its line, is as the document says (of longer texts the law asks its own test alone): AsmReads is true for every input; no condition. -/
import Derived.Test.YtnojlfdojmkonaaGreatDoorJoint8
import Derived.Test.YtnojlfdojmkonaaGreatDoorJoint12
import Derived.Test.YtnojlfdojmkonaaGreatDoorDrR
import Derived.Test.YtnojlfdojmkonaaGreatDoorCdRSame
import Derived.Test.YtnojlfdojmkonaaGreatDoorRows
import Derived.WalkKit
import Derived.ProofKit
import Derived.OpenShut
import Derived.ShutString
import Derived.ChangeOld
import Derived.Below
import Derived.Test.YtnojlfdojmkonaaGreatDoorTie
import Derived.Test.YtnojlfdojmkonaaGreatDoorCards
import Derived.SevenTiedAt
import Derived.Stop.Joined
import Derived.Carry
namespace Go.Proofs.YtnojlfdojmkonaaGreatDoor.asmReads
open Go.ChangeShapes Go.WideShapes Go.ChangeAt Go.RowKit
open Go.ChangeMaps (open_string shut_string)
set_option linter.unusedVariables false
set_option maxRecDepth 100000

theorem own : ownKnob Tryz.prog.godebug = none := by kernel_rfl

set_option linter.unusedSimpArgs false
theorem pgs_of {B : Nat} {w : World} {P : Pg} {pv cv : Value} (h : PgIn B w P pv cv) : PgS B w P pv cv := ⟨h.pool, h.codes, h.few, h.ins⟩
theorem read_one {s : List UInt8} {P Q : Pg} {a b e f : Int} (h : ReadIs s P a e) (k : ReadIs s Q b f) : Q = P ∧ b = a ∧ f = e := by
  unfold ReadIs at h k
  cases hr : readL s with
  | bad n =>
    rw [hr] at h k
    exact ⟨k.1.trans h.1.symm, k.2.1.trans h.2.1.symm, k.2.2.trans h.2.2.symm⟩
  | got R =>
    rw [hr] at h k
    rcases h with ⟨h0, h1, h2, h3⟩ | ⟨h0, h1, h2, h3⟩ <;> rcases k with ⟨k0, k1, k2, k3⟩ | ⟨k0, k1, k2, k3⟩
    · exact ⟨k1.trans h1.symm, k2.trans h2.symm, k3.trans h3.symm⟩
    · exact absurd h0 k0
    · exact absurd k0 h0
    · exact ⟨k1.trans h1.symm, k2.trans h2.symm, k3.trans h3.symm⟩
set_option maxHeartbeats 6400000 in
set_option maxRecDepth 100000 in
theorem walk_reads (s : ByteArray) (w : World) (LB : Hid (LibW w.heap.size w)) :
    Calls Tryz.prog 4 #[.string s] w fun e w' => e = .returned (.bool true) ∧ Below w.heap.size w w' := by
  have WK := hid (fun W (q : Below w.heap.size w W) => works16_calls W (LB.out.on q))
  by_cases hb : 3000 < s.size
  · have hd : decide ((s.size : Int) > 3000) = true := decide_eq_true (by omega)
    clear hb
    go_enter Tryz.func4, Tryz.ntmps4
    go_wp2_with fail
    refine (WK.out w (Below.refl _ _)).mono ?_
    rintro e w2 ⟨rfl, b2⟩
    have B2 := hid b2
    clear b2
    go_wp2_with fail
    go_ret
    exact ⟨rfl, B2.out⟩
  · have hd : decide ((s.size : Int) > 3000) = false := decide_eq_false (by omega)
    have RD := hid (aread_calls s w LB (by omega))
    have DR := hid (fun W => dread_calls s W (by omega))
    clear hb
    go_enter Tryz.func4, Tryz.ntmps4
    go_wp2_with fail
    refine RD.out.mono ?_
    rintro e w2 ⟨⟨P, pv, cv, a, er, rfl, hI, hP⟩, b2⟩
    have B2 := hid b2
    have HI := hid hI
    have HP := hid hP
    obtain ⟨pa, pc, rfl⟩ := plIn_shape hP.pool
    obtain ⟨ca, cc, rfl⟩ := cdsIn_shape hP.codes
    have AL := hid (box_below w2 (.cells #[.int .i64 P.g, .slice pa P.pool.length pc, .slice ca P.codes.length cc] 25))
    have BL := hid (blk_new w2 25 #[.int .i64 P.g, .slice pa P.pool.length pc, .slice ca P.codes.length cc])
    clear hI b2 RD hP
    simp only [pgV] at *
    go_wp2_with fail
    generalize hW3 : w2.alloc (.cells #[.int .i64 P.g, .slice pa P.pool.length pc, .slice ca P.codes.length cc] 25) = w3 at *
    clear hW3
    refine (DR.out w3).mono ?_
    rintro e w4 ⟨⟨Q, pv', cv', b, f, rfl, kI, kP⟩, b4⟩
    obtain ⟨rfl, rfl, rfl⟩ := read_one HI.out kI
    have L24 := hid (AL.out.trans (b4.mono AL.out.size))
    have L4 := hid (B2.out.trans (L24.out.mono B2.out.size))
    have KP := hid kP
    obtain ⟨qa, qc, rfl⟩ := plIn_shape kP.pool
    obtain ⟨ra, rc, rfl⟩ := cdsIn_shape kP.codes
    have BL4 := hid (blk_on BL.out b4)
    have AL4 := hid (box_below w4 (.cells #[.int .i64 Q.g, .slice qa Q.pool.length qc, .slice ra Q.codes.length rc] 25))
    have hlt : w2.heap.size < w4.heap.size := blk_lt BL4.out
    have hne : ¬ w2.heap.size = w4.heap.size := by omega
    have hne2 : ¬ w4.heap.size = w2.heap.size := by omega
    have p0 : w4.cell? ⟨w2.heap.size, 0, none⟩ = some (.int .i64 Q.g) := blk_cellZ BL4.out 0 rfl
    have p1 : w4.cell? ⟨w2.heap.size, 1, none⟩ = some (.slice pa Q.pool.length pc) := blk_cellZ BL4.out 1 rfl
    have p2 : w4.cell? ⟨w2.heap.size, 2, none⟩ = some (.slice ca Q.codes.length cc) := blk_cellZ BL4.out 2 rfl
    clear kI b4 kP HI
    go_wp2_with fail
    generalize hW5 : w4.alloc (.cells #[.int .i64 Q.g, .slice qa Q.pool.length qc, .slice ra Q.codes.length rc] 25) = w5 at *
    clear hW5 p0 p1 p2 hlt hne hne2
    have L5 := hid (L4.out.trans (AL4.out.mono L4.out.size))
    have L25 := hid (L24.out.trans (AL4.out.mono L24.out.size))
    have SAME := dsame_calls w5.heap.size Q Q (.slice pa Q.pool.length pc) (.slice ca Q.codes.length cc) (.slice qa Q.pool.length qc) (.slice ra Q.codes.length rc) w5 (Nat.le_refl _) (pgs_of ((PgIn.on HP.out L25.out).mono L25.out.size)) (pgs_of ((PgIn.on KP.out AL4.out).mono AL4.out.size))
    simp only [pgV] at SAME
    refine SAME.mono ?_
    rintro e w6 ⟨⟨r, rfl, hr⟩, b6⟩
    have hr1 : r = true := hr.2 (by first | rfl | trivial)
    subst hr1
    have L6 := hid (L5.out.trans (b6.mono L5.out.size))
    clear hr b6 SAME
    go_wp2_with fail
    refine (WK.out w6 L6.out).mono ?_
    rintro e w7 ⟨rfl, b7⟩
    have L7 := hid (L6.out.trans (b7.mono L6.out.size))
    clear b7
    go_wp2_with fail
    go_ret
    exact ⟨rfl, L7.out⟩

theorem walk (a0 : ByteArray) (w : World) (w0 : a0.size ≤ maxLen) (LB : Hid (LibW w.heap.size w)) :
    Calls Tryz.prog 4 #[.string a0] w fun e w' => e = .returned (.bool true) ∧ Below w.heap.size w w' := by
  exact walk_reads a0 w LB

set_option maxRecDepth 100000 in
theorem lifted (os : Os) (started : os.Started) (H : Type) (enc : TypeId × Value → H) :
    ReturnsInHanded {} Tryz.checked os 4 .any (fun w args => (Rows.asmReadsSpec.pre enc Tryz.prog Tryz.f4 [] false w args ∧ laidMetH Tryz.prog laidS w) ∧ sizedMet enc Tryz.prog Tryz.f4 (OpenSpec.ofChange Rows.asmReadsSpec) false w args)
      (Rows.asmReadsSpec.post enc Tryz.prog Tryz.f4 false true false false) := by
  refine returns_shaped (C := Tryz.checked) (X := fun w _ => laidMetH Tryz.prog laidS w) (fun _ _ _ hh h => h.of_heap hh) own started (by kernel_rfl) Tryz.func4
    (ChangeSpec.witness_shaped (enc := enc) (C := Tryz.checked) (os := os) (X := fun w _ => laidMetH Tryz.prog laidS w) false (World.laidAll Tryz.prog os laidS) #[.string ByteArray.empty] 8 (World.laidAll_os _ _ _) (start_shaped os _) (by kernel_rfl) (by kernel_rfl) (by kernel_rfl) (start_met os _)) ?_
  intro W base args ds gs before hval0 hW hL hSH
  have hLB := of_laid hL hSH
  have hval : ∀ (j : Nat) t v, Tryz.f4.params[j]? = some t → args[j]? = some v → Value.okWide Tryz.prog W .any base t v := hval0
  have hW' := hW
  obtain ⟨p, q, hA0, hV, rfl, hfz, hnd⟩ := hW
  have hA : DataW.TrodAll enc Tryz.prog W 0 (fun _ => true) true Tryz.f4.params.toList args.toList ds p := hA0
  rw [Tryz.params4] at hA hval
  obtain ⟨v0, vs0, d0, ds0, p0, q0, hargs, rfl, rfl, h0, r0⟩ := trodAll_cons hA
  obtain ⟨rfl, rfl, rfl⟩ := trodAll_nil r0
  obtain rfl : args = #[v0] := by cases args; simp_all
  obtain ⟨rfl, rfl⟩ := trodVars_none hV
  obtain ⟨a0, rfl, rfl, rfl, w0⟩ := open_string Tryz.underlying9 (hval 0 9 v0 rfl rfl) h0
  clear hA0 hval0
  refine (walk a0 W w0 (hid hLB)).mono fun e W' ⟨he, hg⟩ => ?_
  subst he
  exact ⟨_, rfl, _, _, _, [], _, [], hW', trodAll_mk1 (shut_bool Tryz.underlying4 _), (trodAll_cons_mk (shut_string Tryz.underlying9 w0) trodAll_mk0), rfl, hg.frame _, fun h => by cases h⟩

theorem over : Rows.asmReadsRow.holds Tryz.pinned (OpenSpec.ofChange Rows.asmReadsSpec) :=
  OpenClaim.holds_of_wide 4 Tryz.f4 rfl rfl rfl rfl rfl rfl rfl ⟨rfl, rfl, rfl, rfl, rfl⟩ rfl rfl rfl rfl rfl (by kernel_rfl) Tryz.func4 (by kernel_rfl)
    (of_decide_eq_true (by kernel_rfl)) (by unfold Func.isWrapper; first | (rw [if_pos (by decide +kernel)]; kernel_rfl) | (rw [if_neg (by decide +kernel)]; exact ⟨rfl, rfl⟩))
    (fun os started H enc _ => lifted os started H enc)

end Go.Proofs.YtnojlfdojmkonaaGreatDoor.asmReads
namespace Go.Proofs.YtnojlfdojmkonaaGreatDoor

/-- the statement, as it was given: the tied card -/
theorem asmReads_holds : Rows.AsmReadsCardSaid :=
  Claim7.holds_tied_plain_at .later [] [.data, .data, .data, .data, .sentinel, .sentinel, .pinned] true (true, "578d9c5b0b0532944ecec09dea6206759946b6aa2dae46e44ba14dec00c0b6bb") true
    asmReads.over (fun _ h => by cases h) (by kernel_rfl) (fun _ h => by cases h) asmReads_row_tie rfl ⟨rfl, rfl⟩ (by kernel_rfl) rfl
    (fun f fn hf hfn => by
      obtain rfl : f = 4 := Option.some.inj ((show Tryz.prog.funcNamed "proteus/proteuslaw16.AsmReads" = some 4 by kernel_rfl).symm.trans hf) |>.symm
      obtain rfl : fn = Tryz.f4 := (Option.some.inj (Tryz.func4.symm.trans hfn)).symm
      exact ⟨by kernel_rfl, fun j t ht => by
        rw [Tryz.params4] at ht
        have hm : t ∈ [9] := by simpa using Array.mem_of_getElem? ht
        have hall : ([9].all fun u => !Tryz.prog.wantsStandIn u) = true := by kernel_rfl
        exact (show Tryz.prog.wantsStandIn t = false by simpa using List.all_eq_true.1 hall t hm)⟩)
    (by kernel_rfl)
#print axioms asmReads_holds
end Go.Proofs.YtnojlfdojmkonaaGreatDoor
