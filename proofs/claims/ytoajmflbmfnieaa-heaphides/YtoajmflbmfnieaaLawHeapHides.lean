/- Shapes do not show: whatever is done, but for Put, Grow and Next, with other numbers of shapes that there may be all is answered alike (the first 60 acts; a text of more than 300 bytes asks for the law's own test alone): HeapHides is true for every input; no condition. -/
import Derived.Test.YtoajmflbmfnieaaHpPair
import Derived.Test.YtoajmflbmfnieaaRows
import Derived.WalkKit
import Derived.ProofKit
import Derived.OpenShut
import Derived.ShutString
import Derived.ChangeOld
import Derived.Below
namespace Go.Proofs.Ytoajmflbmfnieaa.heapHides
open Go.ChangeShapes Go.WideShapes Go.ChangeAt Go.RowKit
open Go.ChangeMaps (open_string shut_string)
set_option linter.unusedVariables false
set_option maxRecDepth 100000

theorem own : ownKnob Try.prog.godebug = none := by kernel_rfl

set_option linter.unusedSimpArgs false
set_option maxHeartbeats 16000000 in
theorem walk_hides (ao : Option Addr) (cap : Nat) (xs : List AcH) (u1 u2 : Int) (w : World) (HR : Hid (RowsArg 7 (.slice ao xs.length cap) (xs.map acHC) w)) (HX : Hid (∀ x ∈ xs, acI x)) (hu1 : 0 ≤ u1 ∧ u1 ≤ 255) (hu2 : 0 ≤ u2 ∧ u2 ≤ 255) :
    Calls Try.prog 3 #[.int .u8 u1, .int .u8 u2, .slice ao xs.length cap] w fun e w' => e = .returned (.bool true) ∧ Below w.heap.size w w' := by
  have HN1 := hid (hnew_calls (w.alloc (Obj.cells #[.int .i64 20, .int .i64 0, .int .i64 10, .int .i64 0] 24)) 20 0 10 0 u1)
  unfold limV at HN1
  go_enter Try.func3, Try.ntmps3
  go_wp2_with fail
  refine HN1.out.mono ?_
  rintro e0 w0 ⟨h, rfl, p0, b0⟩
  have A0 := (Below.refl w.heap.size w).alloc (Nat.le_refl _) (Obj.cells #[.int .i64 20, .int .i64 0, .int .i64 10, .int .i64 0] 24)
  have hwl : w.heap.size < (w.alloc (Obj.cells #[.int .i64 20, .int .i64 0, .int .i64 10, .int .i64 0] 24)).heap.size := by simp
  have z0 := cell_on (g := w.heap.size) (i := 0) (v := .int .i64 20) (by simp) hwl b0
  have z1 := cell_on (g := w.heap.size) (i := 1) (v := .int .i64 0) (by simp) hwl b0
  have z2 := cell_on (g := w.heap.size) (i := 2) (v := .int .i64 10) (by simp) hwl b0
  have z3 := cell_on (g := w.heap.size) (i := 3) (v := .int .i64 0) (by simp) hwl b0
  have P0 := hid p0
  have B0 := hid (below_on A0 b0)
  have hwl0 := Nat.lt_of_lt_of_le hwl b0.size
  have HN2 := hid (hnew_calls w0 20 0 10 0 u2)
  unfold limV at HN2
  clear p0 b0 A0 HN1 hwl
  go_wp2_with fail
  refine HN2.out.mono ?_
  rintro e1 w1 ⟨g, rfl, p1, b1⟩
  have hzA : (w.alloc (Obj.cells #[.int .i64 20, .int .i64 0, .int .i64 10, .int .i64 0] 24)).heap.size = w.heap.size + 1 := by simp
  have hz0 := B0.out.size
  have hz1 := b1.size
  have Q1 : HpS (fun b => w.heap.size ≤ b ∧ b < w0.heap.size) 40 h (newH 20 10 u1) w0 := P0.out.mono (fun b hb h => by rw [hzA] at h; exact ⟨by omega, hb⟩)
  have Q2 : HpS (fun b => w0.heap.size ≤ b ∧ b < w1.heap.size) 40 g (newH 20 10 u2) w1 := p1.mono (fun b hb h => ⟨h, hb⟩)
  have Q3 : PairH w.heap.size (fun _ => False) (40 + 2 * 0) h g (newH 20 10 u1) (newH 20 10 u2) w1 := by
    refine ⟨_, _, Q1.on b1, Q2, fun b h1 h2 => by omega, fun b hb => ?_⟩
    rcases hb with hb | hb
    · exact ⟨hb.1, fun e => e, by omega⟩
    · exact ⟨by omega, fun e => e, hb.2⟩
  have T1 : Hid (TwoH w.heap.size (fun _ => False) (40 + 2 * 0) h g w1) := hid ⟨newH 20 10 u1, newH 20 10 u2, Q3, alike_new _ _ _ _, hfit_new _ _ _, hfit_new _ _ _⟩
  clear Q1 Q2 Q3 hzA hz0 hz1
  have B1 := hid (below_in B0.out (Nat.le_refl _) b1)
  clear p1 b1 P0 B0 HN2 z0 z1 z2 z3 hwl0
  go_wp2_with fail
  go_loopw [10] (fun i wr => ∃ k : Nat, k ≤ xs.length ∧ k ≤ 60 ∧ i = .int .i64 k ∧ Hid (TwoH w.heap.size (fun _ => False) (40 + 2 * k) h g wr) ∧ Hid (Below w.heap.size w wr)) (fun i _ => 60 - (intOf i).toNat)
  case atStart => exact ⟨0, by omega, by omega, rfl, T1, B1⟩
  case round =>
    clear T1 B1
    rename World => wA
    obtain ⟨k, hk, hk4, rfl, hF, hB⟩ := hrel
    by_cases hgo : k < xs.length ∧ k < 60
    · obtain ⟨hkl, hk60⟩ := hgo
      obtain ⟨⟨a0, aa, ab, an, av⟩, ha⟩ : ∃ a, xs[k]? = some a := ⟨xs[k], List.getElem?_eq_getElem hkl⟩
      obtain ⟨bb, off, rfl, hbb, c0, c1, c2, c3, c4, c5, c6⟩ := act_at (rowsArg_on HR.out hB.out) ha
      dsimp only at c0 c1 c2 c3 c4 c5 c6
      have hai := HX.out _ (List.mem_of_getElem? ha)
      have A1 := (Below.refl wA.heap.size wA).alloc (Nat.le_refl _) (acHO (a0, aa, ab, an, av))
      have HL := hid (hlong_calls (a0, aa, ab, an, av) hai.1 hai.2.1 (wA.alloc (acHO (a0, aa, ab, an, av))))
      have HAI := hid hai
      have d1 : decide ((k : Int) < 60) = true := decide_eq_true (by omega)
      have HA1 := hid A1
      clear ha hai A1
      cases hll : longH (a0, aa, ab, an, av) with
      | true =>
        rw [hll] at HL
        go_wp2_with fail
        refine HL.out.mono ?_
        rintro e1 w1 ⟨rfl, b1⟩
        have B1 := hid (below_in hB.out (Nat.le_refl _) (below_on HA1.out b1))
        clear b1
        go_wp2_with fail
        refine (hworks_calls _).mono ?_
        rintro e2 w2 ⟨rfl, b2⟩
        have B2 := hid (below_in B1.out (Nat.le_refl _) b2)
        clear b2
        go_wp2_with fail
        go_ret
        exact ⟨rfl, B2.out⟩
      | false =>
        rw [hll] at HL
        have hsz := not_longH hll
        dsimp only at hsz
        have HV : Hid (VFit av) := hid ⟨HAI.out.2.2, by have := hsz.2; omega⟩
        have hn : an.size ≤ 1000000 := by omega
        clear hll
        go_wp2_with fail
        refine HL.out.mono ?_
        rintro e1 w1 ⟨rfl, b1⟩
        have K1 : Hid (BoxH wA.heap.size (a0, aa, ab, an, av) w1) := hid (boxH_on ⟨by simp, by simp, by simp, by simp, by simp, by simp, by simp, by simp⟩ b1)
        have B1 := hid (below_in hB.out (Nat.le_refl _) (below_on HA1.out b1))
        obtain ⟨H, G, p, al, fh, fg⟩ := hF.out
        have P1 : Hid (PairH w.heap.size (fun b => b = wA.heap.size) (40 + 2 * k) h g H G w1) := hid ((p.law (Y := fun b => b = wA.heap.size) (fun b hb e => by omega)).on (below_on HA1.out b1))
        have AL0 := hid al
        have FH0 := hid fh
        have FG0 := hid fg
        clear p al fh fg b1 HL HA1 hF c0 c1 c2 c3 c4 c5 c6
        by_cases hd : a0 = 1
        · skip
          have wD := (Below.refl w1.heap.size w1).drew
          have P2 := hid (P1.out.on wD)
          have K2 := hid (boxH_on K1.out wD)
          have HC1 := hid (pair_call P2.out (J := 40 + 2 * k + 1) (by omega) (by show w.heap.size ≤ w1.heap.size; exact B1.out.size) (fun b e => by subst e; exact K1.out.1) (fun S p => hset_calls _ p (by omega) (by omega) aa an hn av))
          obtain ⟨l0, n0, n1, n2, n3, n4, n5, n6⟩ := K1.out
          dsimp only at n0 n1 n2 n3 n4 n5 n6
          subst hd
          go_wp2_with fail
          refine wp_region_held_drew (S := fun aZ => aZ.cell? ⟨wA.heap.size, 1, none⟩ = some (.int .i64 aa) ∧ aZ.cell? ⟨wA.heap.size, 2, none⟩ = some (.int .i64 ab) ∧ aZ.cell? ⟨wA.heap.size, 3, none⟩ = some (.string an) ∧ aZ.cell? ⟨wA.heap.size, 4, none⟩ = some (.int .i64 av.1) ∧ aZ.cell? ⟨wA.heap.size, 5, none⟩ = some (.int .i64 av.2.1) ∧ aZ.cell? ⟨wA.heap.size, 6, none⟩ = some (.string av.2.2)) (by kernel_rfl) ?_ (fun hHeld => ?_)
          · (refine ⟨?_, ?_, ?_, ?_, ?_, ?_⟩ <;> go_simp)
          refine wpAnyH_take (i := 0) (v := ?v1) rfl (by kernel_rfl) (by kernel_rfl) (by kernel_rfl) (fun _ _ _ h => h) (Or.inl ⟨by rfl, ?hy1⟩) (by assumption) ?_
          case hy1 => (intro w hSw; go_simp <;> (try with_reducible rfl))
          simp only [Act.put, List.setIfInBounds_toArray, List.set_cons_zero, List.set_cons_succ, List.getElem_toArray, List.getElem_cons_succ, List.getElem_cons_zero]
          refine wpAnyH_take (i := 1) (v := ?v2) rfl (by kernel_rfl) (by kernel_rfl) (by kernel_rfl) (fun _ _ _ h => h) (Or.inl ⟨by rfl, ?hy2⟩) (by assumption) ?_
          case hy2 => (intro w hSw; go_simp <;> (try with_reducible rfl))
          simp only [Act.put, List.setIfInBounds_toArray, List.set_cons_zero, List.set_cons_succ, List.getElem_toArray, List.getElem_cons_succ, List.getElem_cons_zero]
          refine wpAnyH_take (i := 2) (v := ?v3) rfl (by kernel_rfl) (by kernel_rfl) (by kernel_rfl) (fun _ _ _ h => h) (Or.inl ⟨by rfl, ?hy3⟩) (by assumption) ?_
          case hy3 => (intro w hSw; go_simp <;> (try with_reducible rfl))
          simp only [Act.put, List.setIfInBounds_toArray, List.set_cons_zero, List.set_cons_succ, List.getElem_toArray, List.getElem_cons_succ, List.getElem_cons_zero]
          refine wpAnyH_take (i := 3) (v := ?v4) rfl (by kernel_rfl) (by kernel_rfl) (by kernel_rfl) (fun _ _ _ h => h) (Or.inl ⟨by rfl, ?hy4⟩) (by assumption) ?_
          case hy4 => (intro w hSw; go_simp <;> (try with_reducible rfl))
          simp only [Act.put, List.setIfInBounds_toArray, List.set_cons_zero, List.set_cons_succ, List.getElem_toArray, List.getElem_cons_succ, List.getElem_cons_zero]
          refine wpAnyH_take (i := 4) (v := ?v5) rfl (by kernel_rfl) (by kernel_rfl) (by kernel_rfl) (fun _ _ _ h => h) (Or.inl ⟨by rfl, ?hy5⟩) (by assumption) ?_
          case hy5 => (intro w hSw; go_simp <;> (try with_reducible rfl))
          simp only [Act.put, List.setIfInBounds_toArray, List.set_cons_zero, List.set_cons_succ, List.getElem_toArray, List.getElem_cons_succ, List.getElem_cons_zero]
          refine wpAnyH_take (i := 5) (v := ?v6) rfl (by kernel_rfl) (by kernel_rfl) (by kernel_rfl) (fun _ _ _ h => h) (Or.inl ⟨by rfl, ?hy6⟩) (by assumption) ?_
          case hy6 => (intro w hSw; go_simp <;> (try with_reducible rfl))
          simp only [Act.put, List.setIfInBounds_toArray, List.set_cons_zero, List.set_cons_succ, List.getElem_toArray, List.getElem_cons_succ, List.getElem_cons_zero]
          refine wpAnyH_take (i := 6) (v := ?v7) rfl (by kernel_rfl) (by kernel_rfl) (by kernel_rfl) (fun _ _ _ h => h) (Or.inl ⟨by rfl, ?hy7⟩) (by assumption) ?_
          case hy7 => (intro w hSw; go_simp <;> (try with_reducible rfl))
          simp only [Act.put, List.setIfInBounds_toArray, List.set_cons_zero, List.set_cons_succ, List.getElem_toArray, List.getElem_cons_succ, List.getElem_cons_zero]
          refine wpAnyH_take (i := 8) (v := ?v8) rfl (by kernel_rfl) (by kernel_rfl) (by kernel_rfl) (fun _ _ _ h => h) (Or.inl ⟨by rfl, ?hy8⟩) (by assumption) ?_
          case hy8 => (intro w hSw; go_simp <;> (try with_reducible rfl))
          simp only [Act.put, List.setIfInBounds_toArray, List.set_cons_zero, List.set_cons_succ, List.getElem_toArray, List.getElem_cons_succ, List.getElem_cons_zero]
          refine wpAnyH_take (i := 9) (v := ?v9) rfl (by kernel_rfl) (by kernel_rfl) (by kernel_rfl) (fun _ _ _ h => h) (Or.inl ⟨by rfl, ?hy9⟩) (by assumption) ?_
          case hy9 => (intro w hSw; go_simp <;> (try with_reducible rfl))
          simp only [Act.put, List.setIfInBounds_toArray, List.set_cons_zero, List.set_cons_succ, List.getElem_toArray, List.getElem_cons_succ, List.getElem_cons_zero]
          refine wpAnyH_take (i := 10) (v := ?v10) rfl (by kernel_rfl) (by kernel_rfl) (by kernel_rfl) (fun _ _ _ h => h) (Or.inl ⟨by rfl, ?hy10⟩) (by assumption) ?_
          case hy10 => (intro w hSw; go_simp <;> (try with_reducible rfl))
          simp only [Act.put, List.setIfInBounds_toArray, List.set_cons_zero, List.set_cons_succ, List.getElem_toArray, List.getElem_cons_succ, List.getElem_cons_zero]
          refine wpAnyH_take (i := 11) (v := ?v11) rfl (by kernel_rfl) (by kernel_rfl) (by kernel_rfl) (fun _ _ _ h => h) (Or.inl ⟨by rfl, ?hy11⟩) (by assumption) ?_
          case hy11 => (intro w hSw; go_simp <;> (try with_reducible rfl))
          simp only [Act.put, List.setIfInBounds_toArray, List.set_cons_zero, List.set_cons_succ, List.getElem_toArray, List.getElem_cons_succ, List.getElem_cons_zero]
          refine wpAnyH_take (i := 12) (v := ?v12) rfl (by kernel_rfl) (by kernel_rfl) (by kernel_rfl) (fun _ _ _ h => h) (Or.inl ⟨by rfl, ?hy12⟩) (by assumption) ?_
          case hy12 => (intro w hSw; go_simp <;> (try with_reducible rfl))
          simp only [Act.put, List.setIfInBounds_toArray, List.set_cons_zero, List.set_cons_succ, List.getElem_toArray, List.getElem_cons_succ, List.getElem_cons_zero]
          refine wpAnyH_take (i := 13) (v := ?v13) rfl (by kernel_rfl) (by kernel_rfl) (by kernel_rfl) (fun _ _ _ h => h) (Or.inl ⟨by rfl, ?hy13⟩) (by assumption) ?_
          case hy13 => (intro w hSw; go_simp <;> (try with_reducible rfl))
          simp only [Act.put, List.setIfInBounds_toArray, List.set_cons_zero, List.set_cons_succ, List.getElem_toArray, List.getElem_cons_succ, List.getElem_cons_zero]
          refine wpAnyH_take (i := 14) (v := ?v14) rfl (by kernel_rfl) (by kernel_rfl) (by kernel_rfl) (fun _ _ _ h => h) (Or.inl ⟨by rfl, ?hy14⟩) (by assumption) ?_
          case hy14 => (intro w hSw; go_simp <;> (try with_reducible rfl))
          simp only [Act.put, List.setIfInBounds_toArray, List.set_cons_zero, List.set_cons_succ, List.getElem_toArray, List.getElem_cons_succ, List.getElem_cons_zero]
          refine wpAnyH_ready (rs := [7]) (by kernel_rfl) (by simp) ?_
          refine AllReadyH.cons rfl (fun K hK => ?_) AllReadyH.nil
          go_simp
          refine HC1.out.mono ?_
          rintro e2 w2 ⟨rfl, p2, k2⟩
          have K3 := hid (boxH_keep K2.out k2 (fun h => h.2 rfl))
          have B2 := hid (B1.out.trans ((Below.refl w.heap.size w1).drew.trans (k2.below (by show w.heap.size ≤ w1.heap.size; exact B1.out.size) (fun b h => h.1))))
          have HC2 := hid (pair_call p2.swap (J := 40 + 2 * k + 1 + 1) (by omega) B2.out.size (fun b e => by subst e; exact K3.out.1) (fun S p => hset_calls w2 p (by omega) (by omega) aa an hn av))
          rw [← (alike_set AL0.out aa an av).1] at HC2
          obtain ⟨m0, m7, m1, m2, m3, m4, m5, m6⟩ := K3.out
          dsimp only at m7 m1 m2 m3 m4 m5 m6
          clear p2 k2 HC1
          generalize setE H aa an = se at *
          go_simp
          refine hK.out _ _ ?_ (fun _ => ?_)
          · (refine ⟨?_, ?_, ?_, ?_, ?_, ?_⟩ <;> (first | assumption | go_simp))
          clear hK K
          refine wpAnyH_ready (rs := [15]) (by kernel_rfl) (by simp) ?_
          refine AllReadyH.cons rfl (fun K hK => ?_) AllReadyH.nil
          go_simp
          refine HC2.out.mono ?_
          rintro e3 w3 ⟨rfl, p3, k3⟩
          have K4 := hid (boxH_keep K3.out k3 (fun h => h.2 rfl))
          have BL := hid (B2.out.trans (k3.below B2.out.size (fun b h => h.1)))
          have PL := hid p3.swap
          have AL : Hid (Alike (setH H aa an av) (setH G aa an av)) := hid ((alike_set AL0.out aa an av).2)
          have FH : Hid (HFit (setH H aa an av)) := hid (hfit_set FH0.out HV.out)
          have FG : Hid (HFit (setH G aa an av)) := hid (hfit_set FG0.out HV.out)
          obtain ⟨m0, m7, m1, m2, m3, m4, m5, m6⟩ := K4.out
          dsimp only at m7 m1 m2 m3 m4 m5 m6
          clear k3 HC2
          go_simp
          refine hK.out _ _ ?_ (fun _ => ?_)
          · (refine ⟨?_, ?_, ?_, ?_, ?_, ?_⟩ <;> (first | assumption | go_simp))
          clear hK K
          refine wpAnyH_take (i := 16) (v := ?v17) rfl (by kernel_rfl) (by kernel_rfl) (by kernel_rfl) (fun _ _ _ h => h) (Or.inl ⟨by rfl, ?hy17⟩) (by assumption) ?_
          case hy17 => (intro w hSw; go_simp <;> (try with_reducible rfl))
          simp only [Act.put, List.setIfInBounds_toArray, List.set_cons_zero, List.set_cons_succ, List.getElem_toArray, List.getElem_cons_succ, List.getElem_cons_zero]
          refine wpAnyH_take (i := 17) (v := ?v18) rfl (by kernel_rfl) (by kernel_rfl) (by kernel_rfl) (fun _ _ _ h => h) (Or.inl ⟨by rfl, ?hy18⟩) (by assumption) ?_
          case hy18 => (intro w hSw; go_simp <;> (try with_reducible rfl))
          simp only [Act.put, List.setIfInBounds_toArray, List.set_cons_zero, List.set_cons_succ, List.getElem_toArray, List.getElem_cons_succ, List.getElem_cons_zero]
          refine wpAnyH_done (by kernel_rfl) ?_ _
          obtain ⟨S1, PL1⟩ := p3.swap.one
          obtain ⟨S2, PL2⟩ := p3.one
          have HD1 := hid (hdump_calls w3 PL1 (by omega) FH.out)
          have HD2 := hid (fun (wx : World) (b : Below w3.heap.size w3 wx) => hdump_calls wx (PL2.on b) (by omega) FG.out)
          rw [← AL.out.dump] at HD2
          generalize (⟨(dumpT (setH H aa an av)).toArray⟩ : ByteArray) = dt at *
          go_wp2_with fail
          refine HD1.out.mono ?_
          rintro e8 w8 ⟨rfl, b8⟩
          go_wp2_with fail
          refine (HD2.out w8 b8).mono ?_
          rintro e9 w9 ⟨rfl, b9⟩
          have b9' := below_on b8 b9
          have B9 := hid (below_in BL.out (Nat.le_refl _) b9')
          have T9 : Hid (TwoH w.heap.size (fun _ => False) (40 + 2 * (k + 1)) h g w9) := hid ⟨setH H aa an av, setH G aa an av, ((PL.out.on b9').law (fun _ _ e => e.elim)).more (by omega), AL.out, FH.out, FG.out⟩
          clear b8 b9 b9' HD1 HD2
          go_wp2_with fail
          exact ⟨⟨k + 1, by omega, by omega, by simp, T9, B9⟩, by simp [intOf]; omega⟩
        · by_cases hd2 : a0 = 2
          · have hd := hd2
            clear hd2
            have wD := (Below.refl w1.heap.size w1).drew
            have P2 := hid (P1.out.on wD)
            have K2 := hid (boxH_on K1.out wD)
            have HC1 := hid (pair_call P2.out (J := 40 + 2 * k + 1) (by omega) (by show w.heap.size ≤ w1.heap.size; exact B1.out.size) (fun b e => by subst e; exact K1.out.1) (fun S p => hdel_calls _ p (by omega) (by omega) aa an hn))
            obtain ⟨l0, n0, n1, n2, n3, n4, n5, n6⟩ := K1.out
            dsimp only at n0 n1 n2 n3 n4 n5 n6
            subst hd
            go_wp2_with fail
            refine wp_region_held_drew (S := fun aZ => aZ.cell? ⟨wA.heap.size, 1, none⟩ = some (.int .i64 aa) ∧ aZ.cell? ⟨wA.heap.size, 2, none⟩ = some (.int .i64 ab) ∧ aZ.cell? ⟨wA.heap.size, 3, none⟩ = some (.string an) ∧ aZ.cell? ⟨wA.heap.size, 4, none⟩ = some (.int .i64 av.1) ∧ aZ.cell? ⟨wA.heap.size, 5, none⟩ = some (.int .i64 av.2.1) ∧ aZ.cell? ⟨wA.heap.size, 6, none⟩ = some (.string av.2.2)) (by kernel_rfl) ?_ (fun hHeld => ?_)
            · (refine ⟨?_, ?_, ?_, ?_, ?_, ?_⟩ <;> go_simp)
            refine wpAnyH_take (i := 0) (v := ?v19) rfl (by kernel_rfl) (by kernel_rfl) (by kernel_rfl) (fun _ _ _ h => h) (Or.inl ⟨by rfl, ?hy19⟩) (by assumption) ?_
            case hy19 => (intro w hSw; go_simp <;> (try with_reducible rfl))
            simp only [Act.put, List.setIfInBounds_toArray, List.set_cons_zero, List.set_cons_succ, List.getElem_toArray, List.getElem_cons_succ, List.getElem_cons_zero]
            refine wpAnyH_take (i := 1) (v := ?v20) rfl (by kernel_rfl) (by kernel_rfl) (by kernel_rfl) (fun _ _ _ h => h) (Or.inl ⟨by rfl, ?hy20⟩) (by assumption) ?_
            case hy20 => (intro w hSw; go_simp <;> (try with_reducible rfl))
            simp only [Act.put, List.setIfInBounds_toArray, List.set_cons_zero, List.set_cons_succ, List.getElem_toArray, List.getElem_cons_succ, List.getElem_cons_zero]
            refine wpAnyH_take (i := 2) (v := ?v21) rfl (by kernel_rfl) (by kernel_rfl) (by kernel_rfl) (fun _ _ _ h => h) (Or.inl ⟨by rfl, ?hy21⟩) (by assumption) ?_
            case hy21 => (intro w hSw; go_simp <;> (try with_reducible rfl))
            simp only [Act.put, List.setIfInBounds_toArray, List.set_cons_zero, List.set_cons_succ, List.getElem_toArray, List.getElem_cons_succ, List.getElem_cons_zero]
            refine wpAnyH_take (i := 3) (v := ?v22) rfl (by kernel_rfl) (by kernel_rfl) (by kernel_rfl) (fun _ _ _ h => h) (Or.inl ⟨by rfl, ?hy22⟩) (by assumption) ?_
            case hy22 => (intro w hSw; go_simp <;> (try with_reducible rfl))
            simp only [Act.put, List.setIfInBounds_toArray, List.set_cons_zero, List.set_cons_succ, List.getElem_toArray, List.getElem_cons_succ, List.getElem_cons_zero]
            refine wpAnyH_take (i := 4) (v := ?v23) rfl (by kernel_rfl) (by kernel_rfl) (by kernel_rfl) (fun _ _ _ h => h) (Or.inl ⟨by rfl, ?hy23⟩) (by assumption) ?_
            case hy23 => (intro w hSw; go_simp <;> (try with_reducible rfl))
            simp only [Act.put, List.setIfInBounds_toArray, List.set_cons_zero, List.set_cons_succ, List.getElem_toArray, List.getElem_cons_succ, List.getElem_cons_zero]
            refine wpAnyH_take (i := 6) (v := ?v24) rfl (by kernel_rfl) (by kernel_rfl) (by kernel_rfl) (fun _ _ _ h => h) (Or.inl ⟨by rfl, ?hy24⟩) (by assumption) ?_
            case hy24 => (intro w hSw; go_simp <;> (try with_reducible rfl))
            simp only [Act.put, List.setIfInBounds_toArray, List.set_cons_zero, List.set_cons_succ, List.getElem_toArray, List.getElem_cons_succ, List.getElem_cons_zero]
            refine wpAnyH_take (i := 7) (v := ?v25) rfl (by kernel_rfl) (by kernel_rfl) (by kernel_rfl) (fun _ _ _ h => h) (Or.inl ⟨by rfl, ?hy25⟩) (by assumption) ?_
            case hy25 => (intro w hSw; go_simp <;> (try with_reducible rfl))
            simp only [Act.put, List.setIfInBounds_toArray, List.set_cons_zero, List.set_cons_succ, List.getElem_toArray, List.getElem_cons_succ, List.getElem_cons_zero]
            refine wpAnyH_take (i := 8) (v := ?v26) rfl (by kernel_rfl) (by kernel_rfl) (by kernel_rfl) (fun _ _ _ h => h) (Or.inl ⟨by rfl, ?hy26⟩) (by assumption) ?_
            case hy26 => (intro w hSw; go_simp <;> (try with_reducible rfl))
            simp only [Act.put, List.setIfInBounds_toArray, List.set_cons_zero, List.set_cons_succ, List.getElem_toArray, List.getElem_cons_succ, List.getElem_cons_zero]
            refine wpAnyH_take (i := 9) (v := ?v27) rfl (by kernel_rfl) (by kernel_rfl) (by kernel_rfl) (fun _ _ _ h => h) (Or.inl ⟨by rfl, ?hy27⟩) (by assumption) ?_
            case hy27 => (intro w hSw; go_simp <;> (try with_reducible rfl))
            simp only [Act.put, List.setIfInBounds_toArray, List.set_cons_zero, List.set_cons_succ, List.getElem_toArray, List.getElem_cons_succ, List.getElem_cons_zero]
            refine wpAnyH_take (i := 10) (v := ?v28) rfl (by kernel_rfl) (by kernel_rfl) (by kernel_rfl) (fun _ _ _ h => h) (Or.inl ⟨by rfl, ?hy28⟩) (by assumption) ?_
            case hy28 => (intro w hSw; go_simp <;> (try with_reducible rfl))
            simp only [Act.put, List.setIfInBounds_toArray, List.set_cons_zero, List.set_cons_succ, List.getElem_toArray, List.getElem_cons_succ, List.getElem_cons_zero]
            refine wpAnyH_ready (rs := [5]) (by kernel_rfl) (by simp) ?_
            refine AllReadyH.cons rfl (fun K hK => ?_) AllReadyH.nil
            go_simp
            refine HC1.out.mono ?_
            rintro e2 w2 ⟨rfl, p2, k2⟩
            have K3 := hid (boxH_keep K2.out k2 (fun h => h.2 rfl))
            have B2 := hid (B1.out.trans ((Below.refl w.heap.size w1).drew.trans (k2.below (by show w.heap.size ≤ w1.heap.size; exact B1.out.size) (fun b h => h.1))))
            have HC2 := hid (pair_call p2.swap (J := 40 + 2 * k + 1 + 1) (by omega) B2.out.size (fun b e => by subst e; exact K3.out.1) (fun S p => hdel_calls w2 p (by omega) (by omega) aa an hn))
            rw [← AL0.out.own aa an] at HC2
            obtain ⟨m0, m7, m1, m2, m3, m4, m5, m6⟩ := K3.out
            dsimp only at m7 m1 m2 m3 m4 m5 m6
            clear p2 k2 HC1
            generalize (ownH H aa an).isSome = se at *
            go_simp
            refine hK.out _ _ ?_ (fun _ => ?_)
            · (refine ⟨?_, ?_, ?_, ?_, ?_, ?_⟩ <;> (first | assumption | go_simp))
            clear hK K
            refine wpAnyH_ready (rs := [11]) (by kernel_rfl) (by simp) ?_
            refine AllReadyH.cons rfl (fun K hK => ?_) AllReadyH.nil
            go_simp
            refine HC2.out.mono ?_
            rintro e3 w3 ⟨rfl, p3, k3⟩
            have K4 := hid (boxH_keep K3.out k3 (fun h => h.2 rfl))
            have BL := hid (B2.out.trans (k3.below B2.out.size (fun b h => h.1)))
            have PL := hid p3.swap
            have AL : Hid (Alike (delH H aa an) (delH G aa an)) := hid (alike_del AL0.out aa an)
            have FH : Hid (HFit (delH H aa an)) := hid (hfit_del FH0.out)
            have FG : Hid (HFit (delH G aa an)) := hid (hfit_del FG0.out)
            obtain ⟨m0, m7, m1, m2, m3, m4, m5, m6⟩ := K4.out
            dsimp only at m7 m1 m2 m3 m4 m5 m6
            clear k3 HC2
            go_simp
            refine hK.out _ _ ?_ (fun _ => ?_)
            · (refine ⟨?_, ?_, ?_, ?_, ?_, ?_⟩ <;> (first | assumption | go_simp))
            clear hK K
            refine wpAnyH_take (i := 12) (v := ?v31) rfl (by kernel_rfl) (by kernel_rfl) (by kernel_rfl) (fun _ _ _ h => h) (Or.inl ⟨by rfl, ?hy31⟩) (by assumption) ?_
            case hy31 => (intro w hSw; go_simp <;> (try with_reducible rfl))
            simp only [Act.put, List.setIfInBounds_toArray, List.set_cons_zero, List.set_cons_succ, List.getElem_toArray, List.getElem_cons_succ, List.getElem_cons_zero]
            refine wpAnyH_take (i := 13) (v := ?v32) rfl (by kernel_rfl) (by kernel_rfl) (by kernel_rfl) (fun _ _ _ h => h) (Or.inl ⟨by rfl, ?hy32⟩) (by assumption) ?_
            case hy32 => (intro w hSw; go_simp <;> (try with_reducible rfl))
            simp only [Act.put, List.setIfInBounds_toArray, List.set_cons_zero, List.set_cons_succ, List.getElem_toArray, List.getElem_cons_succ, List.getElem_cons_zero]
            refine wpAnyH_done (by kernel_rfl) ?_ _
            obtain ⟨S1, PL1⟩ := p3.swap.one
            obtain ⟨S2, PL2⟩ := p3.one
            have HD1 := hid (hdump_calls w3 PL1 (by omega) FH.out)
            have HD2 := hid (fun (wx : World) (b : Below w3.heap.size w3 wx) => hdump_calls wx (PL2.on b) (by omega) FG.out)
            rw [← AL.out.dump] at HD2
            generalize (⟨(dumpT (delH H aa an)).toArray⟩ : ByteArray) = dt at *
            go_wp2_with fail
            refine HD1.out.mono ?_
            rintro e8 w8 ⟨rfl, b8⟩
            go_wp2_with fail
            refine (HD2.out w8 b8).mono ?_
            rintro e9 w9 ⟨rfl, b9⟩
            have b9' := below_on b8 b9
            have B9 := hid (below_in BL.out (Nat.le_refl _) b9')
            have T9 : Hid (TwoH w.heap.size (fun _ => False) (40 + 2 * (k + 1)) h g w9) := hid ⟨delH H aa an, delH G aa an, ((PL.out.on b9').law (fun _ _ e => e.elim)).more (by omega), AL.out, FH.out, FG.out⟩
            clear b8 b9 b9' HD1 HD2
            go_wp2_with fail
            exact ⟨⟨k + 1, by omega, by omega, by simp, T9, B9⟩, by simp [intOf]; omega⟩
          · by_cases hd3 : a0 = 3
            · have hd := hd3
              clear hd3
              have wD := (Below.refl w1.heap.size w1).drew
              have P2 := hid (P1.out.on wD)
              have K2 := hid (boxH_on K1.out wD)
              have HC1 := hid (pair_call P2.out (J := 40 + 2 * k + 1) (by omega) (by show w.heap.size ≤ w1.heap.size; exact B1.out.size) (fun b e => by subst e; exact K1.out.1) (fun S p => hsetproto_calls _ p (by omega) (by omega) aa ab))
              obtain ⟨l0, n0, n1, n2, n3, n4, n5, n6⟩ := K1.out
              dsimp only at n0 n1 n2 n3 n4 n5 n6
              subst hd
              go_wp2_with fail
              refine wp_region_held_drew (S := fun aZ => aZ.cell? ⟨wA.heap.size, 1, none⟩ = some (.int .i64 aa) ∧ aZ.cell? ⟨wA.heap.size, 2, none⟩ = some (.int .i64 ab) ∧ aZ.cell? ⟨wA.heap.size, 3, none⟩ = some (.string an) ∧ aZ.cell? ⟨wA.heap.size, 4, none⟩ = some (.int .i64 av.1) ∧ aZ.cell? ⟨wA.heap.size, 5, none⟩ = some (.int .i64 av.2.1) ∧ aZ.cell? ⟨wA.heap.size, 6, none⟩ = some (.string av.2.2)) (by kernel_rfl) ?_ (fun hHeld => ?_)
              · (refine ⟨?_, ?_, ?_, ?_, ?_, ?_⟩ <;> go_simp)
              refine wpAnyH_take (i := 0) (v := ?v33) rfl (by kernel_rfl) (by kernel_rfl) (by kernel_rfl) (fun _ _ _ h => h) (Or.inl ⟨by rfl, ?hy33⟩) (by assumption) ?_
              case hy33 => (intro w hSw; go_simp <;> (try with_reducible rfl))
              simp only [Act.put, List.setIfInBounds_toArray, List.set_cons_zero, List.set_cons_succ, List.getElem_toArray, List.getElem_cons_succ, List.getElem_cons_zero]
              refine wpAnyH_take (i := 1) (v := ?v34) rfl (by kernel_rfl) (by kernel_rfl) (by kernel_rfl) (fun _ _ _ h => h) (Or.inl ⟨by rfl, ?hy34⟩) (by assumption) ?_
              case hy34 => (intro w hSw; go_simp <;> (try with_reducible rfl))
              simp only [Act.put, List.setIfInBounds_toArray, List.set_cons_zero, List.set_cons_succ, List.getElem_toArray, List.getElem_cons_succ, List.getElem_cons_zero]
              refine wpAnyH_take (i := 2) (v := ?v35) rfl (by kernel_rfl) (by kernel_rfl) (by kernel_rfl) (fun _ _ _ h => h) (Or.inl ⟨by rfl, ?hy35⟩) (by assumption) ?_
              case hy35 => (intro w hSw; go_simp <;> (try with_reducible rfl))
              simp only [Act.put, List.setIfInBounds_toArray, List.set_cons_zero, List.set_cons_succ, List.getElem_toArray, List.getElem_cons_succ, List.getElem_cons_zero]
              refine wpAnyH_take (i := 3) (v := ?v36) rfl (by kernel_rfl) (by kernel_rfl) (by kernel_rfl) (fun _ _ _ h => h) (Or.inl ⟨by rfl, ?hy36⟩) (by assumption) ?_
              case hy36 => (intro w hSw; go_simp <;> (try with_reducible rfl))
              simp only [Act.put, List.setIfInBounds_toArray, List.set_cons_zero, List.set_cons_succ, List.getElem_toArray, List.getElem_cons_succ, List.getElem_cons_zero]
              refine wpAnyH_take (i := 4) (v := ?v37) rfl (by kernel_rfl) (by kernel_rfl) (by kernel_rfl) (fun _ _ _ h => h) (Or.inl ⟨by rfl, ?hy37⟩) (by assumption) ?_
              case hy37 => (intro w hSw; go_simp <;> (try with_reducible rfl))
              simp only [Act.put, List.setIfInBounds_toArray, List.set_cons_zero, List.set_cons_succ, List.getElem_toArray, List.getElem_cons_succ, List.getElem_cons_zero]
              refine wpAnyH_take (i := 6) (v := ?v38) rfl (by kernel_rfl) (by kernel_rfl) (by kernel_rfl) (fun _ _ _ h => h) (Or.inl ⟨by rfl, ?hy38⟩) (by assumption) ?_
              case hy38 => (intro w hSw; go_simp <;> (try with_reducible rfl))
              simp only [Act.put, List.setIfInBounds_toArray, List.set_cons_zero, List.set_cons_succ, List.getElem_toArray, List.getElem_cons_succ, List.getElem_cons_zero]
              refine wpAnyH_take (i := 7) (v := ?v39) rfl (by kernel_rfl) (by kernel_rfl) (by kernel_rfl) (fun _ _ _ h => h) (Or.inl ⟨by rfl, ?hy39⟩) (by assumption) ?_
              case hy39 => (intro w hSw; go_simp <;> (try with_reducible rfl))
              simp only [Act.put, List.setIfInBounds_toArray, List.set_cons_zero, List.set_cons_succ, List.getElem_toArray, List.getElem_cons_succ, List.getElem_cons_zero]
              refine wpAnyH_take (i := 8) (v := ?v40) rfl (by kernel_rfl) (by kernel_rfl) (by kernel_rfl) (fun _ _ _ h => h) (Or.inl ⟨by rfl, ?hy40⟩) (by assumption) ?_
              case hy40 => (intro w hSw; go_simp <;> (try with_reducible rfl))
              simp only [Act.put, List.setIfInBounds_toArray, List.set_cons_zero, List.set_cons_succ, List.getElem_toArray, List.getElem_cons_succ, List.getElem_cons_zero]
              refine wpAnyH_take (i := 9) (v := ?v41) rfl (by kernel_rfl) (by kernel_rfl) (by kernel_rfl) (fun _ _ _ h => h) (Or.inl ⟨by rfl, ?hy41⟩) (by assumption) ?_
              case hy41 => (intro w hSw; go_simp <;> (try with_reducible rfl))
              simp only [Act.put, List.setIfInBounds_toArray, List.set_cons_zero, List.set_cons_succ, List.getElem_toArray, List.getElem_cons_succ, List.getElem_cons_zero]
              refine wpAnyH_take (i := 10) (v := ?v42) rfl (by kernel_rfl) (by kernel_rfl) (by kernel_rfl) (fun _ _ _ h => h) (Or.inl ⟨by rfl, ?hy42⟩) (by assumption) ?_
              case hy42 => (intro w hSw; go_simp <;> (try with_reducible rfl))
              simp only [Act.put, List.setIfInBounds_toArray, List.set_cons_zero, List.set_cons_succ, List.getElem_toArray, List.getElem_cons_succ, List.getElem_cons_zero]
              refine wpAnyH_ready (rs := [5]) (by kernel_rfl) (by simp) ?_
              refine AllReadyH.cons rfl (fun K hK => ?_) AllReadyH.nil
              go_simp
              refine HC1.out.mono ?_
              rintro e2 w2 ⟨rfl, p2, k2⟩
              have K3 := hid (boxH_keep K2.out k2 (fun h => h.2 rfl))
              have B2 := hid (B1.out.trans ((Below.refl w.heap.size w1).drew.trans (k2.below (by show w.heap.size ≤ w1.heap.size; exact B1.out.size) (fun b h => h.1))))
              have HC2 := hid (pair_call p2.swap (J := 40 + 2 * k + 1 + 1) (by omega) B2.out.size (fun b e => by subst e; exact K3.out.1) (fun S p => hsetproto_calls w2 p (by omega) (by omega) aa ab))
              rw [← (alike_proto AL0.out aa ab).1] at HC2
              obtain ⟨m0, m7, m1, m2, m3, m4, m5, m6⟩ := K3.out
              dsimp only at m7 m1 m2 m3 m4 m5 m6
              clear p2 k2 HC1
              generalize protoE H aa ab = se at *
              go_simp
              refine hK.out _ _ ?_ (fun _ => ?_)
              · (refine ⟨?_, ?_, ?_, ?_, ?_, ?_⟩ <;> (first | assumption | go_simp))
              clear hK K
              refine wpAnyH_ready (rs := [11]) (by kernel_rfl) (by simp) ?_
              refine AllReadyH.cons rfl (fun K hK => ?_) AllReadyH.nil
              go_simp
              refine HC2.out.mono ?_
              rintro e3 w3 ⟨rfl, p3, k3⟩
              have K4 := hid (boxH_keep K3.out k3 (fun h => h.2 rfl))
              have BL := hid (B2.out.trans (k3.below B2.out.size (fun b h => h.1)))
              have PL := hid p3.swap
              have AL : Hid (Alike (protoS H aa ab) (protoS G aa ab)) := hid ((alike_proto AL0.out aa ab).2)
              have FH : Hid (HFit (protoS H aa ab)) := hid (hfit_proto FH0.out)
              have FG : Hid (HFit (protoS G aa ab)) := hid (hfit_proto FG0.out)
              obtain ⟨m0, m7, m1, m2, m3, m4, m5, m6⟩ := K4.out
              dsimp only at m7 m1 m2 m3 m4 m5 m6
              clear k3 HC2
              go_simp
              refine hK.out _ _ ?_ (fun _ => ?_)
              · (refine ⟨?_, ?_, ?_, ?_, ?_, ?_⟩ <;> (first | assumption | go_simp))
              clear hK K
              refine wpAnyH_take (i := 12) (v := ?v45) rfl (by kernel_rfl) (by kernel_rfl) (by kernel_rfl) (fun _ _ _ h => h) (Or.inl ⟨by rfl, ?hy45⟩) (by assumption) ?_
              case hy45 => (intro w hSw; go_simp <;> (try with_reducible rfl))
              simp only [Act.put, List.setIfInBounds_toArray, List.set_cons_zero, List.set_cons_succ, List.getElem_toArray, List.getElem_cons_succ, List.getElem_cons_zero]
              refine wpAnyH_take (i := 13) (v := ?v46) rfl (by kernel_rfl) (by kernel_rfl) (by kernel_rfl) (fun _ _ _ h => h) (Or.inl ⟨by rfl, ?hy46⟩) (by assumption) ?_
              case hy46 => (intro w hSw; go_simp <;> (try with_reducible rfl))
              simp only [Act.put, List.setIfInBounds_toArray, List.set_cons_zero, List.set_cons_succ, List.getElem_toArray, List.getElem_cons_succ, List.getElem_cons_zero]
              refine wpAnyH_done (by kernel_rfl) ?_ _
              obtain ⟨S1, PL1⟩ := p3.swap.one
              obtain ⟨S2, PL2⟩ := p3.one
              have HD1 := hid (hdump_calls w3 PL1 (by omega) FH.out)
              have HD2 := hid (fun (wx : World) (b : Below w3.heap.size w3 wx) => hdump_calls wx (PL2.on b) (by omega) FG.out)
              rw [← AL.out.dump] at HD2
              generalize (⟨(dumpT (protoS H aa ab)).toArray⟩ : ByteArray) = dt at *
              go_wp2_with fail
              refine HD1.out.mono ?_
              rintro e8 w8 ⟨rfl, b8⟩
              go_wp2_with fail
              refine (HD2.out w8 b8).mono ?_
              rintro e9 w9 ⟨rfl, b9⟩
              have b9' := below_on b8 b9
              have B9 := hid (below_in BL.out (Nat.le_refl _) b9')
              have T9 : Hid (TwoH w.heap.size (fun _ => False) (40 + 2 * (k + 1)) h g w9) := hid ⟨protoS H aa ab, protoS G aa ab, ((PL.out.on b9').law (fun _ _ e => e.elim)).more (by omega), AL.out, FH.out, FG.out⟩
              clear b8 b9 b9' HD1 HD2
              go_wp2_with fail
              exact ⟨⟨k + 1, by omega, by omega, by simp, T9, B9⟩, by simp [intOf]; omega⟩
            · by_cases hd0 : a0 = 0
              · subst hd0
                have HC1 := hid (pair_call P1.out (J := 40 + 2 * k) (Nat.le_refl _) B1.out.size (fun b e => by subst e; exact K1.out.1) (fun S p => hmake_calls _ p))
                obtain ⟨l0, n0, n1, n2, n3, n4, n5, n6⟩ := K1.out
                dsimp only at n0 n1 n2 n3 n4 n5 n6
                go_wp2_with fail
                refine HC1.out.mono ?_
                rintro e2 w2 ⟨rfl, p2, k2⟩
                have K3 := hid (boxH_keep K1.out k2 (fun h => h.2 rfl))
                have B2 := hid (B1.out.trans (k2.below B1.out.size (fun b h => h.1)))
                have HC2 := hid (pair_call p2.swap (J := 40 + 2 * k) (Nat.le_refl _) B2.out.size (fun b e => by subst e; exact K3.out.1) (fun S p => hmake_calls _ p))
                rw [← (alike_make AL0.out).1, ← (alike_make AL0.out).2.1] at HC2
                clear p2 k2 HC1
                generalize (makeN H : Int) = se at *
                generalize makeE H = sf at *
                go_wp2_with fail
                refine HC2.out.mono ?_
                rintro e3 w3 ⟨rfl, p3, k3⟩
                have BL := hid (B2.out.trans (k3.below B2.out.size (fun b h => h.1)))
                have PL := hid p3.swap
                have AL := hid ((alike_make AL0.out).2.2)
                have FH : Hid (HFit (makeH H)) := hid (hfit_make FH0.out)
                have FG : Hid (HFit (makeH G)) := hid (hfit_make FG0.out)
                clear k3 HC2
                obtain ⟨S1, PL1⟩ := p3.swap.one
                obtain ⟨S2, PL2⟩ := p3.one
                have HD1 := hid (hdump_calls w3 PL1 (by omega) FH.out)
                have HD2 := hid (fun (wx : World) (b : Below w3.heap.size w3 wx) => hdump_calls wx (PL2.on b) (by omega) FG.out)
                rw [← AL.out.dump] at HD2
                generalize (⟨(dumpT (makeH H)).toArray⟩ : ByteArray) = dt at *
                go_wp2_with fail
                refine HD1.out.mono ?_
                rintro e8 w8 ⟨rfl, b8⟩
                go_wp2_with fail
                refine (HD2.out w8 b8).mono ?_
                rintro e9 w9 ⟨rfl, b9⟩
                have b9' := below_on b8 b9
                have B9 := hid (below_in BL.out (Nat.le_refl _) b9')
                have T9 : Hid (TwoH w.heap.size (fun _ => False) (40 + 2 * (k + 1)) h g w9) := hid ⟨makeH H, makeH G, ((PL.out.on b9').law (fun _ _ e => e.elim)).more (by omega), AL.out, FH.out, FG.out⟩
                clear b8 b9 b9' HD1 HD2
                go_wp2_with fail
                exact ⟨⟨k + 1, by omega, by omega, by simp, T9, B9⟩, by simp [intOf]; omega⟩
              · have q0 : ¬ a0 = 0 := hd0
                have q1 : ¬ a0 = 1 := hd
                have q2 : ¬ a0 = 2 := hd2
                have q3 : ¬ a0 = 3 := hd3
                have D := (Below.refl w1.heap.size w1).drew
                obtain ⟨S1, PP1⟩ := P1.out.one
                obtain ⟨S2, PP2⟩ := P1.out.swap.one
                have HG1 := hid (fun (wx : World) (b : Below w1.heap.size w1 wx) => hget_calls wx (PP1.on b) (by omega) aa an hn)
                have HG2 := hid (fun (wx : World) (b : Below w1.heap.size w1 wx) => hget_calls wx (PP2.on b) (by omega) aa an hn)
                rw [← AL0.out.got aa an] at HG2
                have HE1 := hid (fun (wx : World) (b : Below w1.heap.size w1 wx) => hepoch_calls wx (PP1.on b) aa)
                have HE2 := hid (fun (wx : World) (b : Below w1.heap.size w1 wx) => hepoch_calls wx (PP2.on b) aa)
                rw [← AL0.out.epoch aa] at HE2
                have HDw := hid D
                unfold vlV at HG1 HG2
                generalize gotH H aa an = z at *
                generalize (epochH H aa : Int) = ep at *
                obtain ⟨l0, n0, n1, n2, n3, n4, n5, n6⟩ := K1.out
                dsimp only at n0 n1 n2 n3 n4 n5 n6
                clear D
                go_wp2_with fail
                refine wp_region_held_drew (S := fun aZ => aZ.cell? ⟨wA.heap.size, 1, none⟩ = some (.int .i64 aa) ∧ aZ.cell? ⟨wA.heap.size, 2, none⟩ = some (.int .i64 ab) ∧ aZ.cell? ⟨wA.heap.size, 3, none⟩ = some (.string an) ∧ aZ.cell? ⟨wA.heap.size, 4, none⟩ = some (.int .i64 av.1) ∧ aZ.cell? ⟨wA.heap.size, 5, none⟩ = some (.int .i64 av.2.1) ∧ aZ.cell? ⟨wA.heap.size, 6, none⟩ = some (.string av.2.2)) (by kernel_rfl) ?_ (fun hHeld => ?_)
                · (refine ⟨?_, ?_, ?_, ?_, ?_, ?_⟩ <;> go_simp)
                refine wpAnyH_take (i := 0) (v := ?v47) rfl (by kernel_rfl) (by kernel_rfl) (by kernel_rfl) (fun _ _ _ h => h) (Or.inl ⟨by rfl, ?hy47⟩) (by assumption) ?_
                case hy47 => (intro w hSw; go_simp <;> (try with_reducible rfl))
                simp only [Act.put, List.setIfInBounds_toArray, List.set_cons_zero, List.set_cons_succ, List.getElem_toArray, List.getElem_cons_succ, List.getElem_cons_zero]
                refine wpAnyH_take (i := 1) (v := ?v48) rfl (by kernel_rfl) (by kernel_rfl) (by kernel_rfl) (fun _ _ _ h => h) (Or.inl ⟨by rfl, ?hy48⟩) (by assumption) ?_
                case hy48 => (intro w hSw; go_simp <;> (try with_reducible rfl))
                simp only [Act.put, List.setIfInBounds_toArray, List.set_cons_zero, List.set_cons_succ, List.getElem_toArray, List.getElem_cons_succ, List.getElem_cons_zero]
                refine wpAnyH_take (i := 2) (v := ?v49) rfl (by kernel_rfl) (by kernel_rfl) (by kernel_rfl) (fun _ _ _ h => h) (Or.inl ⟨by rfl, ?hy49⟩) (by assumption) ?_
                case hy49 => (intro w hSw; go_simp <;> (try with_reducible rfl))
                simp only [Act.put, List.setIfInBounds_toArray, List.set_cons_zero, List.set_cons_succ, List.getElem_toArray, List.getElem_cons_succ, List.getElem_cons_zero]
                refine wpAnyH_take (i := 3) (v := ?v50) rfl (by kernel_rfl) (by kernel_rfl) (by kernel_rfl) (fun _ _ _ h => h) (Or.inl ⟨by rfl, ?hy50⟩) (by assumption) ?_
                case hy50 => (intro w hSw; go_simp <;> (try with_reducible rfl))
                simp only [Act.put, List.setIfInBounds_toArray, List.set_cons_zero, List.set_cons_succ, List.getElem_toArray, List.getElem_cons_succ, List.getElem_cons_zero]
                refine wpAnyH_take (i := 4) (v := ?v51) rfl (by kernel_rfl) (by kernel_rfl) (by kernel_rfl) (fun _ _ _ h => h) (Or.inl ⟨by rfl, ?hy51⟩) (by assumption) ?_
                case hy51 => (intro w hSw; go_simp <;> (try with_reducible rfl))
                simp only [Act.put, List.setIfInBounds_toArray, List.set_cons_zero, List.set_cons_succ, List.getElem_toArray, List.getElem_cons_succ, List.getElem_cons_zero]
                refine wpAnyH_take (i := 6) (v := ?v52) rfl (by kernel_rfl) (by kernel_rfl) (by kernel_rfl) (fun _ _ _ h => h) (Or.inl ⟨by rfl, ?hy52⟩) (by assumption) ?_
                case hy52 => (intro w hSw; go_simp <;> (try with_reducible rfl))
                simp only [Act.put, List.setIfInBounds_toArray, List.set_cons_zero, List.set_cons_succ, List.getElem_toArray, List.getElem_cons_succ, List.getElem_cons_zero]
                refine wpAnyH_take (i := 7) (v := ?v53) rfl (by kernel_rfl) (by kernel_rfl) (by kernel_rfl) (fun _ _ _ h => h) (Or.inl ⟨by rfl, ?hy53⟩) (by assumption) ?_
                case hy53 => (intro w hSw; go_simp <;> (try with_reducible rfl))
                simp only [Act.put, List.setIfInBounds_toArray, List.set_cons_zero, List.set_cons_succ, List.getElem_toArray, List.getElem_cons_succ, List.getElem_cons_zero]
                refine wpAnyH_take (i := 8) (v := ?v54) rfl (by kernel_rfl) (by kernel_rfl) (by kernel_rfl) (fun _ _ _ h => h) (Or.inl ⟨by rfl, ?hy54⟩) (by assumption) ?_
                case hy54 => (intro w hSw; go_simp <;> (try with_reducible rfl))
                simp only [Act.put, List.setIfInBounds_toArray, List.set_cons_zero, List.set_cons_succ, List.getElem_toArray, List.getElem_cons_succ, List.getElem_cons_zero]
                refine wpAnyH_take (i := 9) (v := ?v55) rfl (by kernel_rfl) (by kernel_rfl) (by kernel_rfl) (fun _ _ _ h => h) (Or.inl ⟨by rfl, ?hy55⟩) (by assumption) ?_
                case hy55 => (intro w hSw; go_simp <;> (try with_reducible rfl))
                simp only [Act.put, List.setIfInBounds_toArray, List.set_cons_zero, List.set_cons_succ, List.getElem_toArray, List.getElem_cons_succ, List.getElem_cons_zero]
                refine wpAnyH_take (i := 10) (v := ?v56) rfl (by kernel_rfl) (by kernel_rfl) (by kernel_rfl) (fun _ _ _ h => h) (Or.inl ⟨by rfl, ?hy56⟩) (by assumption) ?_
                case hy56 => (intro w hSw; go_simp <;> (try with_reducible rfl))
                simp only [Act.put, List.setIfInBounds_toArray, List.set_cons_zero, List.set_cons_succ, List.getElem_toArray, List.getElem_cons_succ, List.getElem_cons_zero]
                refine wpAnyH_ready (rs := [5]) (by kernel_rfl) (by simp) ?_
                refine AllReadyH.cons rfl (fun K hK => ?_) AllReadyH.nil
                go_simp
                refine (HG1.out _ HDw.out).mono ?_
                rintro e2 w2 ⟨rfl, bx2⟩
                have b2 := HDw.out.trans bx2
                obtain ⟨m0, m7, m1, m2, m3, m4, m5, m6⟩ := boxH_on K1.out b2
                dsimp only at m7 m1 m2 m3 m4 m5 m6
                have BB2 := hid b2
                clear bx2 b2
                go_simp
                refine hK.out _ _ ?_ (fun _ => ?_)
                · (refine ⟨?_, ?_, ?_, ?_, ?_, ?_⟩ <;> (first | assumption | go_simp))
                clear hK K
                refine wpAnyH_ready (rs := [11]) (by kernel_rfl) (by simp) ?_
                refine AllReadyH.cons rfl (fun K hK => ?_) AllReadyH.nil
                go_simp
                refine (HG2.out _ BB2.out).mono ?_
                rintro e3 w3 ⟨rfl, bx3⟩
                have b3 := below_on BB2.out bx3
                obtain ⟨m0, m7, m1, m2, m3, m4, m5, m6⟩ := boxH_on K1.out b3
                dsimp only at m7 m1 m2 m3 m4 m5 m6
                have BB3 := hid b3
                clear bx3 b3
                go_simp
                refine hK.out _ _ ?_ (fun _ => ?_)
                · (refine ⟨?_, ?_, ?_, ?_, ?_, ?_⟩ <;> (first | assumption | go_simp))
                clear hK K
                refine wpAnyH_take (i := 12) (v := .bool true) rfl (by kernel_rfl) (by kernel_rfl) (by kernel_rfl) (fun _ _ _ h => h) (Or.inl ⟨by rfl, ?_⟩) (by assumption) ?_
                · (intro w hSw; go_simp <;> skip)
                simp only [Act.put, List.setIfInBounds_toArray, List.set_cons_zero, List.set_cons_succ, List.getElem_toArray, List.getElem_cons_succ, List.getElem_cons_zero]
                refine wpAnyH_take (i := 13) (v := ?v59) rfl (by kernel_rfl) (by kernel_rfl) (by kernel_rfl) (fun _ _ _ h => h) (Or.inl ⟨by rfl, ?hy59⟩) (by assumption) ?_
                case hy59 => (intro w hSw; go_simp <;> (try with_reducible rfl))
                simp only [Act.put, List.setIfInBounds_toArray, List.set_cons_zero, List.set_cons_succ, List.getElem_toArray, List.getElem_cons_succ, List.getElem_cons_zero]
                refine wpAnyH_take (i := 14) (v := ?v60) rfl (by kernel_rfl) (by kernel_rfl) (by kernel_rfl) (fun _ _ _ h => h) (Or.inl ⟨by rfl, ?hy60⟩) (by assumption) ?_
                case hy60 => (intro w hSw; go_simp <;> (try with_reducible rfl))
                simp only [Act.put, List.setIfInBounds_toArray, List.set_cons_zero, List.set_cons_succ, List.getElem_toArray, List.getElem_cons_succ, List.getElem_cons_zero]
                refine wpAnyH_take (i := 15) (v := ?v61) rfl (by kernel_rfl) (by kernel_rfl) (by kernel_rfl) (fun _ _ _ h => h) (Or.inl ⟨by rfl, ?hy61⟩) (by assumption) ?_
                case hy61 => (intro w hSw; go_simp <;> (try with_reducible rfl))
                simp only [Act.put, List.setIfInBounds_toArray, List.set_cons_zero, List.set_cons_succ, List.getElem_toArray, List.getElem_cons_succ, List.getElem_cons_zero]
                refine wpAnyH_take (i := 16) (v := ?v62) rfl (by kernel_rfl) (by kernel_rfl) (by kernel_rfl) (fun _ _ _ h => h) (Or.inl ⟨by rfl, ?hy62⟩) (by assumption) ?_
                case hy62 => (intro w hSw; go_simp <;> (try with_reducible rfl))
                simp only [Act.put, List.setIfInBounds_toArray, List.set_cons_zero, List.set_cons_succ, List.getElem_toArray, List.getElem_cons_succ, List.getElem_cons_zero]
                refine wpAnyH_take (i := 18) (v := ?v63) rfl (by kernel_rfl) (by kernel_rfl) (by kernel_rfl) (fun _ _ _ h => h) (Or.inl ⟨by rfl, ?hy63⟩) (by assumption) ?_
                case hy63 => (intro w hSw; go_simp <;> (try with_reducible rfl))
                simp only [Act.put, List.setIfInBounds_toArray, List.set_cons_zero, List.set_cons_succ, List.getElem_toArray, List.getElem_cons_succ, List.getElem_cons_zero]
                refine wpAnyH_take (i := 19) (v := ?v64) rfl (by kernel_rfl) (by kernel_rfl) (by kernel_rfl) (fun _ _ _ h => h) (Or.inl ⟨by rfl, ?hy64⟩) (by assumption) ?_
                case hy64 => (intro w hSw; go_simp <;> (try with_reducible rfl))
                simp only [Act.put, List.setIfInBounds_toArray, List.set_cons_zero, List.set_cons_succ, List.getElem_toArray, List.getElem_cons_succ, List.getElem_cons_zero]
                refine wpAnyH_take (i := 20) (v := ?v65) rfl (by kernel_rfl) (by kernel_rfl) (by kernel_rfl) (fun _ _ _ h => h) (Or.inl ⟨by rfl, ?hy65⟩) (by assumption) ?_
                case hy65 => (intro w hSw; go_simp <;> (try with_reducible rfl))
                simp only [Act.put, List.setIfInBounds_toArray, List.set_cons_zero, List.set_cons_succ, List.getElem_toArray, List.getElem_cons_succ, List.getElem_cons_zero]
                refine wpAnyH_ready (rs := [17]) (by kernel_rfl) (by simp) ?_
                refine AllReadyH.cons rfl (fun K hK => ?_) AllReadyH.nil
                go_simp
                refine (HE1.out _ BB3.out).mono ?_
                rintro e4 w4 ⟨rfl, bx4⟩
                have b4 := below_on BB3.out bx4
                obtain ⟨m0, m7, m1, m2, m3, m4, m5, m6⟩ := boxH_on K1.out b4
                dsimp only at m7 m1 m2 m3 m4 m5 m6
                have BB4 := hid b4
                clear bx4 b4
                go_simp
                refine hK.out _ _ ?_ (fun _ => ?_)
                · (refine ⟨?_, ?_, ?_, ?_, ?_, ?_⟩ <;> (first | assumption | go_simp))
                clear hK K
                refine wpAnyH_ready (rs := [21]) (by kernel_rfl) (by simp) ?_
                refine AllReadyH.cons rfl (fun K hK => ?_) AllReadyH.nil
                go_simp
                refine (HE2.out _ BB4.out).mono ?_
                rintro e5 w5 ⟨rfl, bx5⟩
                have b5 := below_on BB4.out bx5
                obtain ⟨m0, m7, m1, m2, m3, m4, m5, m6⟩ := boxH_on K1.out b5
                dsimp only at m7 m1 m2 m3 m4 m5 m6
                have BL := hid (below_in B1.out (Nat.le_refl _) b5)
                have PL := hid (P1.out.on b5)
                have AL := AL0
                have FH := FH0
                have FG := FG0
                have PL1 := PP1.on b5
                have PL2 := PP2.on b5
                clear bx5 b5
                go_simp
                refine hK.out _ _ ?_ (fun _ => ?_)
                · (refine ⟨?_, ?_, ?_, ?_, ?_, ?_⟩ <;> (first | assumption | go_simp))
                clear hK K
                refine wpAnyH_take (i := 22) (v := ?v68) rfl (by kernel_rfl) (by kernel_rfl) (by kernel_rfl) (fun _ _ _ h => h) (Or.inl ⟨by rfl, ?hy68⟩) (by assumption) ?_
                case hy68 => (intro w hSw; go_simp <;> (try with_reducible rfl))
                simp only [Act.put, List.setIfInBounds_toArray, List.set_cons_zero, List.set_cons_succ, List.getElem_toArray, List.getElem_cons_succ, List.getElem_cons_zero]
                refine wpAnyH_take (i := 23) (v := ?v69) rfl (by kernel_rfl) (by kernel_rfl) (by kernel_rfl) (fun _ _ _ h => h) (Or.inl ⟨by rfl, ?hy69⟩) (by assumption) ?_
                case hy69 => (intro w hSw; go_simp <;> (try with_reducible rfl))
                simp only [Act.put, List.setIfInBounds_toArray, List.set_cons_zero, List.set_cons_succ, List.getElem_toArray, List.getElem_cons_succ, List.getElem_cons_zero]
                refine wpAnyH_take (i := 24) (v := ?v70) rfl (by kernel_rfl) (by kernel_rfl) (by kernel_rfl) (fun _ _ _ h => h) (Or.inl ⟨by rfl, ?hy70⟩) (by assumption) ?_
                case hy70 => (intro w hSw; go_simp <;> (try with_reducible rfl))
                simp only [Act.put, List.setIfInBounds_toArray, List.set_cons_zero, List.set_cons_succ, List.getElem_toArray, List.getElem_cons_succ, List.getElem_cons_zero]
                refine wpAnyH_done (by kernel_rfl) ?_ _
                have HD1 := hid (hdump_calls w5 PL1 (by omega) FH.out)
                have HD2 := hid (fun (wx : World) (b : Below w5.heap.size w5 wx) => hdump_calls wx (PL2.on b) (by omega) FG.out)
                rw [← AL.out.dump] at HD2
                generalize (⟨(dumpT (H)).toArray⟩ : ByteArray) = dt at *
                go_wp2_with fail
                refine HD1.out.mono ?_
                rintro e8 w8 ⟨rfl, b8⟩
                go_wp2_with fail
                refine (HD2.out w8 b8).mono ?_
                rintro e9 w9 ⟨rfl, b9⟩
                have b9' := below_on b8 b9
                have B9 := hid (below_in BL.out (Nat.le_refl _) b9')
                have T9 : Hid (TwoH w.heap.size (fun _ => False) (40 + 2 * (k + 1)) h g w9) := hid ⟨H, G, ((PL.out.on b9').law (fun _ _ e => e.elim)).more (by omega), AL.out, FH.out, FG.out⟩
                clear b8 b9 b9' HD1 HD2
                go_wp2_with fail
                exact ⟨⟨k + 1, by omega, by omega, by simp, T9, B9⟩, by simp [intOf]; omega⟩
    · rcases (show k = xs.length ∨ (k < xs.length ∧ k = 60) by omega) with rfl | ⟨hkl, rfl⟩
      all_goals
        clear hgo
        go_wp2_with fail
        refine (hworks_calls _).mono ?_
        rintro e2 w2 ⟨rfl, b2⟩
        have B2 := hid (below_in hB.out (Nat.le_refl _) b2)
        clear b2
        go_wp2_with fail
        go_ret
        exact ⟨rfl, B2.out⟩

theorem walk (a0 : Int) (a1 : Int) (a2 : Value) (l2 : List (List Value)) (w : World) (w0 : (Lit.int .u8 a0).wf = true) (w1 : (Lit.int .u8 a1).wf = true) (w2 : Hid (RowsArg 7 a2 l2 w)) (n2 : Hid (∀ r ∈ l2, r.length = 7 ∧ FitsF [.i, .i, .i, .s, .i, .i, .s] r)) :
    Calls Try.prog 3 #[.int .u8 a0, .int .u8 a1, a2] w fun e w' => e = .returned (.bool true) ∧ Below w.heap.size w w' := by
  obtain ⟨xs, rfl, hok⟩ := acts_of n2.out
  obtain ⟨ao, cap, rfl⟩ := acts_shape w2.out
  exact walk_hides ao cap xs a0 a1 w w2 (hid hok) (bounds_u8 w0) (bounds_u8 w1)

set_option maxRecDepth 100000 in
theorem lifted (os : Os) (started : os.Started) (H : Type) (enc : TypeId × Value → H) :
    ReturnsInHanded {} Try.checked os 3 .any (Rows.heapHidesSpec.pre6 enc Try.prog Try.f3 Rows.heapHidesRow.domain false) (Rows.heapHidesSpec.post enc Try.prog Try.f3 false true false false) := by
  refine returnsInHanded_of_change (C := Try.checked) own started (by kernel_rfl) Try.func3
    (ChangeSpec.witness6 (enc := enc) (C := Try.checked) false ⟨#[], #[.int .u8 0, .int .u8 0, .slice none 0 0], []⟩ 8 (by kernel_rfl) (by kernel_rfl) (by kernel_rfl) (by kernel_rfl)) ?_
  intro W base args ds gs before hval0 hW hcnd _
  have hval : ∀ (j : Nat) t v, Try.f3.params[j]? = some t → args[j]? = some v → Value.okWide Try.prog W .any base t v := hval0
  have hW' := hW
  obtain ⟨p, q, hA0, hV, rfl, hfz, hnd⟩ := hW
  have hA : DataW.TrodAll enc Try.prog W 0 (fun _ => true) true Try.f3.params.toList args.toList ds p := hA0
  rw [Try.params3] at hA hval
  obtain ⟨v0, vs0, d0, ds0, p0, q0, hargs, rfl, rfl, h0, r0⟩ := trodAll_cons hA
  obtain ⟨v1, vs1, d1, ds1, p1, q1, rfl, rfl, rfl, h1, r1⟩ := trodAll_cons r0
  obtain ⟨v2, vs2, d2, ds2, p2, q2, rfl, rfl, rfl, h2, r2⟩ := trodAll_cons r1
  obtain ⟨rfl, rfl, rfl⟩ := trodAll_nil r2
  obtain rfl : args = #[v0, v1, v2] := by cases args; simp_all
  obtain ⟨rfl, rfl⟩ := trodVars_none hV
  obtain ⟨a0, rfl, rfl, rfl, w0⟩ := open_int Try.underlying5 (hval 0 5 v0 rfl rfl) h0
  obtain ⟨a1, rfl, rfl, rfl, w1⟩ := open_int Try.underlying5 (hval 1 5 v1 rfl rfl) h1
  have hk2 := h2
  have hlt2 : ∀ x ∈ p2, x.block < W.heap.size := fun x hx => by simpa using hW'.lt x (by simp [hx])
  obtain ⟨l2, w2, n2⟩ := open_flats Try.underlying22 (show flat Try.prog 5 30 = some [.i, .i, .i, .s, .i, .i, .s] by kernel_rfl) (show Try.prog.cellsOf 30 = 7 by kernel_rfl) (by decide) (hval 2 22 v2 rfl rfl) h2
  clear hA0 hval0
  refine (walk a0 a1 v2 l2 W w0 w1 w2 n2).mono fun e W' ⟨he, hg⟩ => ?_
  subst he
  exact ⟨_, rfl, _, _, _, [], _, [], hW', trodAll_mk1 (shut_bool Try.underlying4 _), (trodAll_cons_mk (shut_int Try.underlying5 w0) (trodAll_cons_mk (shut_int Try.underlying5 w1) (trodAll_cons_mk (Below.trod laidOutF (by kernel_rfl) (of_decide_eq_true (by kernel_rfl)) hk2 hg hlt2) trodAll_mk0))), rfl, hg.frame _, fun h => by cases h⟩

theorem over : Rows.heapHidesRow.holds Try.pinned (OpenSpec.ofChange Rows.heapHidesSpec) :=
  OpenClaim.holds_of_wide 3 Try.f3 rfl rfl rfl rfl rfl rfl rfl ⟨rfl, rfl, rfl, rfl, rfl⟩ rfl rfl rfl rfl rfl (by kernel_rfl) Try.func3 (by kernel_rfl)
    (of_decide_eq_true (by kernel_rfl)) (by unfold Func.isWrapper; first | (rw [if_pos (by decide +kernel)]; kernel_rfl) | (rw [if_neg (by decide +kernel)]; exact ⟨rfl, rfl⟩))
    (fun os started H enc _ => lifted os started H enc)

end Go.Proofs.Ytoajmflbmfnieaa.heapHides
namespace Go.Proofs.Ytoajmflbmfnieaa

/-- the statement, as it was given -/
theorem heapHides_holds : Rows.HeapHidesSaid :=
  heapHides.over
#print axioms heapHides_holds
end Go.Proofs.Ytoajmflbmfnieaa
