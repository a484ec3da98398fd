/- A text of at most 3000 bytes that is read is printed just so, and its program may be; one that is not read gives the empty program (of longer texts the law asks its own test alone): AsmOnce is true for every input; no condition. -/
import Derived.Test.YtnojlfdojmkonaaGreatDoorAsLaid
import Derived.Test.YtnojlfdojmkonaaGreatDoorAsWk
import Derived.Test.YtnojlfdojmkonaaGreatDoorRows
import Derived.WalkKit
import Derived.ProofKit
import Derived.OpenShut
import Derived.ShutString
import Derived.ChangeOld
import Derived.Below
import Derived.Test.YtnojlfdojmkonaaGreatDoorTie
import Derived.Test.YtnojlfdojmkonaaGreatDoorCards
import Derived.SevenTiedAt
import Derived.Stop.Joined
import Derived.Carry
namespace Go.Proofs.YtnojlfdojmkonaaGreatDoor.asmOnce
open Go.ChangeShapes Go.WideShapes Go.ChangeAt Go.RowKit
open Go.ChangeMaps (open_string shut_string)
set_option linter.unusedVariables false
set_option maxRecDepth 100000

theorem own : ownKnob Tryz.prog.godebug = none := by kernel_rfl

set_option linter.unusedSimpArgs false
set_option maxHeartbeats 6400000 in
set_option maxRecDepth 100000 in
theorem walk_once (s : ByteArray) (w : World) (LB : Hid (LibW w.heap.size w)) :
    Calls Tryz.prog 6 #[.string s] w fun e w' => e = .returned (.bool true) ∧ Below w.heap.size w w' := by
  have WK := hid (fun W (q : Below w.heap.size w W) => works16_calls W (LB.out.on q))
  by_cases hb : 3000 < s.size
  · have hd : decide ((s.size : Int) > 3000) = true := decide_eq_true (by omega)
    clear hb
    go_enter Tryz.func6, Tryz.ntmps6
    go_wp2_with fail
    refine (WK.out w (Below.refl _ _)).mono ?_
    rintro e w2 ⟨rfl, b2⟩
    have B2 := hid b2
    clear b2
    go_wp2_with fail
    go_ret
    exact ⟨rfl, B2.out⟩
  · have hd : decide ((s.size : Int) > 3000) = false := decide_eq_false (by omega)
    have RD := hid (aread_calls s w LB (by omega))
    clear hb
    go_enter Tryz.func6, Tryz.ntmps6
    go_wp2_with fail
    refine RD.out.mono ?_
    rintro e w2 ⟨⟨P, pv, cv, a, er, rfl, hI, hP⟩, b2⟩
    have B2 := hid b2
    have HI := hid hI
    by_cases he : er = 0
    · subst he
      obtain ⟨hck, htx, _⟩ := read_good hI
      have HCK := hid hck
      have HTX := hid (show (⟨(txL (pgLP P)).toArray⟩ : ByteArray) = s from arr_list (by rw [htx]))
      have HP := hid hP
      obtain ⟨pa, pc, rfl⟩ := plIn_shape hP.pool
      obtain ⟨ca, cc, rfl⟩ := cdsIn_shape hP.codes
      have PR := hid (aprint_calls w2.heap.size P (.slice pa P.pool.length pc) (.slice ca P.codes.length cc))
      have CK := hid (ccheck_calls w2.heap.size P (.slice pa P.pool.length pc) (.slice ca P.codes.length cc))
      have AL := hid (box_below w2 (.cells #[.int .i64 P.g, .slice pa P.pool.length pc, .slice ca P.codes.length cc] 25))
      have BL := hid (blk_new w2 25 #[.int .i64 P.g, .slice pa P.pool.length pc, .slice ca P.codes.length cc])
      clear hI hck htx b2 RD hP
      simp only [pgV] at *
      go_wp2_with fail
      generalize hW3 : w2.alloc (.cells #[.int .i64 P.g, .slice pa P.pool.length pc, .slice ca P.codes.length cc] 25) = w3 at *
      clear hW3
      have HP3 := hid (PgIn.on HP.out AL.out)
      refine (PR.out w3 AL.out.size HP3).mono ?_
      rintro e w4 ⟨⟨r, t, rfl, hr⟩, b4⟩
      have hrt : r = 0 ∧ t = s := by
        rcases hr with ⟨h1, _, h2⟩ | ⟨_, h, _⟩
        · exact ⟨h1, by rw [h2]; exact HTX.out⟩
        · exact absurd HCK.out h
      obtain ⟨rfl, rfl⟩ := hrt
      have L24 := hid (AL.out.trans (b4.mono AL.out.size))
      have L4 := hid (B2.out.trans (L24.out.mono B2.out.size))
      have hb4 := blk_on BL.out b4
      have p0 : w4.cell? ⟨w2.heap.size, 0, none⟩ = some (.int .i64 P.g) := blk_cellZ hb4 0 rfl
      have p1 : w4.cell? ⟨w2.heap.size, 1, none⟩ = some (.slice pa P.pool.length pc) := blk_cellZ hb4 1 rfl
      have p2 : w4.cell? ⟨w2.heap.size, 2, none⟩ = some (.slice ca P.codes.length cc) := blk_cellZ hb4 2 rfl
      clear hr b4 hb4
      go_wp2_with fail
      refine (CK.out w4 L24.out.size (PgIn.on HP.out L24.out)).mono ?_
      rintro e w5 ⟨⟨r, rfl, hr⟩, b5⟩
      have hr0 : r = 0 := by
        rcases hr with ⟨h, _⟩ | ⟨_, h⟩
        · exact h
        · exact absurd HCK.out h
      subst hr0
      have L5 := hid (L4.out.trans (b5.mono L4.out.size))
      clear hr b5
      go_wp2_with fail
      refine (WK.out _ L5.out).mono ?_
      rintro e w6 ⟨rfl, b6⟩
      have L6 := hid (L5.out.trans (b6.mono L5.out.size))
      clear b6
      go_wp2_with fail
      go_ret
      exact ⟨rfl, L6.out⟩
    · have hp := read_poor hI he
      subst hp
      have hne : (er != 0) = true := by simpa using he
      obtain ⟨pa, pc, rfl⟩ := plIn_shape hP.pool
      obtain ⟨ca, cc, rfl⟩ := cdsIn_shape hP.codes
      have AL := hid (box_below w2 (.cells #[.int .i64 0, .slice pa 0 pc, .slice ca 0 cc] 25))
      clear hI b2 RD hP he
      simp only [pgV, pg0_g, pg0_p, pg0_c] at *
      go_wp2_with fail
      have L3 := hid (B2.out.trans (AL.out.mono B2.out.size))
      refine (WK.out _ L3.out).mono ?_
      rintro e w6 ⟨rfl, b6⟩
      have L6 := hid (L3.out.trans (b6.mono L3.out.size))
      clear b6
      go_wp2_with fail
      go_ret
      exact ⟨rfl, L6.out⟩

theorem walk (a0 : ByteArray) (w : World) (w0 : a0.size ≤ maxLen) (LB : Hid (LibW w.heap.size w)) :
    Calls Tryz.prog 6 #[.string a0] w fun e w' => e = .returned (.bool true) ∧ Below w.heap.size w w' := by
  exact walk_once a0 w LB

set_option maxRecDepth 100000 in
theorem lifted (os : Os) (started : os.Started) (H : Type) (enc : TypeId × Value → H) :
    ReturnsInHanded {} Tryz.checked os 6 .any (fun w args => (Rows.asmOnceSpec.pre enc Tryz.prog Tryz.f6 [] false w args ∧ laidMetH Tryz.prog laidS w) ∧ sizedMet enc Tryz.prog Tryz.f6 (OpenSpec.ofChange Rows.asmOnceSpec) false w args)
      (Rows.asmOnceSpec.post enc Tryz.prog Tryz.f6 false true false false) := by
  refine returns_shaped (C := Tryz.checked) (X := fun w _ => laidMetH Tryz.prog laidS w) (fun _ _ _ hh h => h.of_heap hh) own started (by kernel_rfl) Tryz.func6
    (ChangeSpec.witness_shaped (enc := enc) (C := Tryz.checked) (os := os) (X := fun w _ => laidMetH Tryz.prog laidS w) false (World.laidAll Tryz.prog os laidS) #[.string ByteArray.empty] 8 (World.laidAll_os _ _ _) (start_shaped os _) (by kernel_rfl) (by kernel_rfl) (by kernel_rfl) (start_met os _)) ?_
  intro W base args ds gs before hval0 hW hL hSH
  have hLB := of_laid hL hSH
  have hval : ∀ (j : Nat) t v, Tryz.f6.params[j]? = some t → args[j]? = some v → Value.okWide Tryz.prog W .any base t v := hval0
  have hW' := hW
  obtain ⟨p, q, hA0, hV, rfl, hfz, hnd⟩ := hW
  have hA : DataW.TrodAll enc Tryz.prog W 0 (fun _ => true) true Tryz.f6.params.toList args.toList ds p := hA0
  rw [Tryz.params6] at hA hval
  obtain ⟨v0, vs0, d0, ds0, p0, q0, hargs, rfl, rfl, h0, r0⟩ := trodAll_cons hA
  obtain ⟨rfl, rfl, rfl⟩ := trodAll_nil r0
  obtain rfl : args = #[v0] := by cases args; simp_all
  obtain ⟨rfl, rfl⟩ := trodVars_none hV
  obtain ⟨a0, rfl, rfl, rfl, w0⟩ := open_string Tryz.underlying9 (hval 0 9 v0 rfl rfl) h0
  clear hA0 hval0
  refine (walk a0 W w0 (hid hLB)).mono fun e W' ⟨he, hg⟩ => ?_
  subst he
  exact ⟨_, rfl, _, _, _, [], _, [], hW', trodAll_mk1 (shut_bool Tryz.underlying4 _), (trodAll_cons_mk (shut_string Tryz.underlying9 w0) trodAll_mk0), rfl, hg.frame _, fun h => by cases h⟩

theorem over : Rows.asmOnceRow.holds Tryz.pinned (OpenSpec.ofChange Rows.asmOnceSpec) :=
  OpenClaim.holds_of_wide 6 Tryz.f6 rfl rfl rfl rfl rfl rfl rfl ⟨rfl, rfl, rfl, rfl, rfl⟩ rfl rfl rfl rfl rfl (by kernel_rfl) Tryz.func6 (by kernel_rfl)
    (of_decide_eq_true (by kernel_rfl)) (by unfold Func.isWrapper; first | (rw [if_pos (by decide +kernel)]; kernel_rfl) | (rw [if_neg (by decide +kernel)]; exact ⟨rfl, rfl⟩))
    (fun os started H enc _ => lifted os started H enc)

end Go.Proofs.YtnojlfdojmkonaaGreatDoor.asmOnce
namespace Go.Proofs.YtnojlfdojmkonaaGreatDoor

/-- the statement, as it was given: the tied card -/
theorem asmOnce_holds : Rows.AsmOnceCardSaid :=
  Claim7.holds_tied_plain_at .later [] [.data, .data, .data, .data, .sentinel, .sentinel, .pinned] true (true, "578d9c5b0b0532944ecec09dea6206759946b6aa2dae46e44ba14dec00c0b6bb") true
    asmOnce.over (fun _ h => by cases h) (by kernel_rfl) (fun _ h => by cases h) asmOnce_row_tie rfl ⟨rfl, rfl⟩ (by kernel_rfl) rfl
    (fun f fn hf hfn => by
      obtain rfl : f = 6 := Option.some.inj ((show Tryz.prog.funcNamed "proteus/proteuslaw16.AsmOnce" = some 6 by kernel_rfl).symm.trans hf) |>.symm
      obtain rfl : fn = Tryz.f6 := (Option.some.inj (Tryz.func6.symm.trans hfn)).symm
      exact ⟨by kernel_rfl, fun j t ht => by
        rw [Tryz.params6] at ht
        have hm : t ∈ [9] := by simpa using Array.mem_of_getElem? ht
        have hall : ([9].all fun u => !Tryz.prog.wantsStandIn u) = true := by kernel_rfl
        exact (show Tryz.prog.wantsStandIn t = false by simpa using List.all_eq_true.1 hall t hm)⟩)
    (by kernel_rfl)
#print axioms asmOnce_holds
end Go.Proofs.YtnojlfdojmkonaaGreatDoor
