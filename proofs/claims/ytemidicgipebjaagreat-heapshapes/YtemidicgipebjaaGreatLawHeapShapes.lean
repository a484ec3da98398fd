/- Two objects of one shape have the same names in the same slots, and the same prototype; each slot has the property's value (behind the first 60 acts; texts of more than 300 bytes ask for the law's own test alone): HeapShapes is true for every input; no condition. -/
import Derived.Test.YtemidicgipebjaaGreatHpWas
import Derived.Test.YtemidicgipebjaaGreatHpShapP
import Derived.Deep.Cut
import Derived.Deep.CutRange
import Derived.Deep.DeepCutAuto
import Derived.Deep.CutBlock
import Derived.Test.YtemidicgipebjaaGreatRows
import Derived.WalkKit
import Derived.ProofKit
import Derived.OpenShut
import Derived.ShutString
import Derived.ChangeOld
import Derived.Below
namespace Go.Proofs.YtemidicgipebjaaGreat.heapShapes
open Go.ChangeShapes Go.WideShapes Go.ChangeAt Go.RowKit
open Go.ChangeMaps (open_string shut_string)
set_option linter.unusedVariables false
set_option maxRecDepth 100000

theorem own : ownKnob Tryz.prog.godebug = none := by kernel_rfl

set_option linter.unusedSimpArgs false
set_option maxRecDepth 100000
set_option maxHeartbeats 8000000 in
theorem walk_shapes (ao : Option Addr) (cap : Nat) (xs : List AcH) (w : World) (HR : Hid (RowsArg 7 (.slice ao xs.length cap) (xs.map acHC) w)) (HX : Hid (∀ x ∈ xs, acI x)) :
    Calls Tryz.prog 4 #[.slice ao xs.length cap] w fun e w' => e = .returned (.bool true) ∧ Below w.heap.size w w' := by
  have HB0 := hid (Below.refl w.heap.size w)
  go_enter Tryz.func4, Tryz.ntmps4
  go_wp2_with fail
  refine (hnew_calls w 20 0 20 0 150).mono ?_
  rintro e0 w0 ⟨h, rfl, p0, b0⟩
  have P0 := hid p0
  have B0 := hid b0
  clear p0 b0
  go_wp2_with fail
  go_loopw [4] (fun i wr => ∃ k : Nat, k ≤ xs.length ∧ k ≤ 60 ∧ i = .int .i64 k ∧ Hid (HpS (fun b => w.heap.size ≤ b) (40 + k) h (runH (newH 20 20 150) (xs.take k)) wr) ∧ Hid (Below w.heap.size w wr)) (fun i _ => 60 - (intOf i).toNat)
  case atStart => exact ⟨0, by omega, by omega, rfl, P0, B0⟩
  case round =>
    obtain ⟨k, hk, hk4, rfl, hF, hB⟩ := hrel
    by_cases hgo : k < xs.length ∧ k < 60
    · obtain ⟨hkl, hk60⟩ := hgo
      obtain ⟨a, ha⟩ : ∃ a, xs[k]? = some a := ⟨xs[k], List.getElem?_eq_getElem hkl⟩
      have hRk := rowsArg_on HR.out (below_on HB0.out hB.out)
      obtain ⟨bb, off, rfl, hbb, c0, c1, c2, c3, c4, c5, c6⟩ := act_at hRk ha
      have hai := HX.out _ (List.mem_of_getElem? ha)
      have HRk := hid hRk
      have HL := hid (hlong_calls a hai.1 hai.2.1 wr)
      have HT := hid (runH_take (H := newH 20 20 150) ha)
      have HAt := hid ha
      have d1 : decide ((k : Int) < 60) = true := decide_eq_true (by omega)
      clear ha hai hRk
      cases hll : longH a with
      | true =>
        rw [hll] at HL
        go_wp2_with fail
        refine HL.out.mono ?_
        rintro e1 w1 ⟨rfl, b1⟩
        have B1 := hid (below_in hB.out (Nat.le_refl _) b1)
        clear b1
        go_wp2_with fail
        refine (hworks_calls _).mono ?_
        rintro e2 w2 ⟨rfl, b2⟩
        have B2 := hid (below_on HB0.out (below_in B1.out (Nat.le_refl _) b2))
        clear b2
        go_wp2_with fail
        go_ret
        exact ⟨rfl, B2.out⟩
      | false =>
        rw [hll] at HL
        have hsz := not_longH hll
        clear hll
        go_wp2_with fail
        refine HL.out.mono ?_
        rintro e1 w1 ⟨rfl, b1⟩
        have D1 := b1.drew
        have HD1 := hid D1
        have c0 := cell_on c0 hbb b1
        have c1 := cell_on c1 hbb b1
        have c2 := cell_on c2 hbb b1
        have c3 := cell_on c3 hbb b1
        have c4 := cell_on c4 hbb b1
        have c5 := cell_on c5 hbb b1
        have c6 := cell_on c6 hbb b1
        have hbb1 : bb < w1.heap.size := Nat.lt_of_lt_of_le hbb b1.size
        clear b1 D1
        go_wp2_with fail
        refine wp_region_held_drew (S := fun aZ => aZ.cell? ⟨bb, off + k * 7, none⟩ = some (.int .i64 a.1) ∧ aZ.cell? ⟨bb, off + k * 7 + 1, none⟩ = some (.int .i64 a.2.1) ∧ aZ.cell? ⟨bb, off + k * 7 + 2, none⟩ = some (.int .i64 a.2.2.1) ∧ aZ.cell? ⟨bb, off + k * 7 + 3, none⟩ = some (.string a.2.2.2.1) ∧ aZ.cell? ⟨bb, off + k * 7 + 4, none⟩ = some (.int .i64 a.2.2.2.2.1) ∧ aZ.cell? ⟨bb, off + k * 7 + 5, none⟩ = some (.int .i64 a.2.2.2.2.2.1) ∧ aZ.cell? ⟨bb, off + k * 7 + 6, none⟩ = some (.string a.2.2.2.2.2.2)) (by kernel_rfl) ?_ (fun hHeld => ?_)
        · (refine ⟨?_, ?_, ?_, ?_, ?_, ?_, ?_⟩ <;> go_simp)
        refine wpAnyH_take (i := 0) (v := ?v1) rfl (by kernel_rfl) (by kernel_rfl) (by kernel_rfl) (fun _ _ _ h => h) (Or.inl ⟨by rfl, ?hy1⟩) (by assumption) ?_
        case hy1 => (intro w hSw; go_simp <;> (try with_reducible rfl))
        simp only [Act.put, List.setIfInBounds_toArray, List.set_cons_zero, List.set_cons_succ, List.getElem_toArray, List.getElem_cons_succ, List.getElem_cons_zero]
        refine wpAnyH_take (i := 1) (v := ?v2) rfl (by kernel_rfl) (by kernel_rfl) (by kernel_rfl) (fun _ _ _ h => h) (Or.inl ⟨by rfl, ?hy2⟩) (by assumption) ?_
        case hy2 => (intro w hSw; go_simp <;> (try with_reducible rfl))
        simp only [Act.put, List.setIfInBounds_toArray, List.set_cons_zero, List.set_cons_succ, List.getElem_toArray, List.getElem_cons_succ, List.getElem_cons_zero]
        refine wpAnyH_take (i := 3) (v := ?v3) rfl (by kernel_rfl) (by kernel_rfl) (by kernel_rfl) (fun _ _ _ h => h) (Or.inl ⟨by rfl, ?hy3⟩) (by assumption) ?_
        case hy3 => (intro w hSw; go_simp <;> (try with_reducible rfl))
        simp only [Act.put, List.setIfInBounds_toArray, List.set_cons_zero, List.set_cons_succ, List.getElem_toArray, List.getElem_cons_succ, List.getElem_cons_zero]
        refine wpAnyH_take (i := 4) (v := ?v4) rfl (by kernel_rfl) (by kernel_rfl) (by kernel_rfl) (fun _ _ _ h => h) (Or.inl ⟨by rfl, ?hy4⟩) (by assumption) ?_
        case hy4 => (intro w hSw; go_simp <;> (try with_reducible rfl))
        simp only [Act.put, List.setIfInBounds_toArray, List.set_cons_zero, List.set_cons_succ, List.getElem_toArray, List.getElem_cons_succ, List.getElem_cons_zero]
        refine wpAnyH_take (i := 5) (v := ?v5) rfl (by kernel_rfl) (by kernel_rfl) (by kernel_rfl) (fun _ _ _ h => h) (Or.inl ⟨by rfl, ?hy5⟩) (by assumption) ?_
        case hy5 => (intro w hSw; go_simp <;> (try with_reducible rfl))
        simp only [Act.put, List.setIfInBounds_toArray, List.set_cons_zero, List.set_cons_succ, List.getElem_toArray, List.getElem_cons_succ, List.getElem_cons_zero]
        refine wpAnyH_take (i := 6) (v := ?v6) rfl (by kernel_rfl) (by kernel_rfl) (by kernel_rfl) (fun _ _ _ h => h) (Or.inl ⟨by rfl, ?hy6⟩) (by assumption) ?_
        case hy6 => (intro w hSw; go_simp <;> (try with_reducible rfl))
        simp only [Act.put, List.setIfInBounds_toArray, List.set_cons_zero, List.set_cons_succ, List.getElem_toArray, List.getElem_cons_succ, List.getElem_cons_zero]
        refine wpAnyH_ready (rs := [2]) (by kernel_rfl) (by simp) ?_
        refine AllReadyH.cons rfl (fun K hK => ?_) AllReadyH.nil
        go_simp
        refine (rnew0 _).mono ?_
        rintro e2 w2 ⟨r, f, rfl, r0, bx, hr, hf⟩
        have b2 := below_on HD1.out bx
        have hXr : wr.heap.size ≤ r := Nat.le_trans HD1.out.size hr
        have hXf : wr.heap.size ≤ f := Nat.le_trans HD1.out.size hf
        have P2 : HpX w.heap.size (fun b => wr.heap.size ≤ b ∧ b < w2.heap.size) (40 + k) h (runH (newH 20 20 150) (xs.take k)) w2 := (hF.out.mono (T := fun b => w.heap.size ≤ b ∧ ¬ (wr.heap.size ≤ b ∧ b < w2.heap.size)) (fun b hb h => ⟨h, by omega⟩)).on b2
        have HDn := hid (done0_calls w2 P2 (by omega) (by omega) (Nat.le_trans hB.out.size b2.size) (fun b h => h.2) r0 ⟨hXr, (r0.cells).2.2.2.2.1⟩ ⟨hXf, (r0.cells).2.2.2.2.2⟩ a (by omega))
        have B2 := hid (below_in hB.out (Nat.le_refl _) b2)
        have d0 := cell_on c0 hbb1 ((Below.refl w1.heap.size w1).drew.trans bx)
        have d1 := cell_on c1 hbb1 ((Below.refl w1.heap.size w1).drew.trans bx)
        have d2 := cell_on c2 hbb1 ((Below.refl w1.heap.size w1).drew.trans bx)
        have d3 := cell_on c3 hbb1 ((Below.refl w1.heap.size w1).drew.trans bx)
        have d4 := cell_on c4 hbb1 ((Below.refl w1.heap.size w1).drew.trans bx)
        have d5 := cell_on c5 hbb1 ((Below.refl w1.heap.size w1).drew.trans bx)
        have d6 := cell_on c6 hbb1 ((Below.refl w1.heap.size w1).drew.trans bx)
        clear r0 bx b2 P2 hXr hXf hr hf
        go_simp
        refine hK.out _ _ ?_ (fun _ => ?_)
        · (refine ⟨?_, ?_, ?_, ?_, ?_, ?_, ?_⟩ <;> (first | assumption | go_simp))
        clear hK K
        refine wpAnyH_ready (rs := [7]) (by kernel_rfl) (by simp) ?_
        refine AllReadyH.cons rfl (fun K hK => ?_) AllReadyH.nil
        go_simp
        refine HDn.out.mono ?_
        rintro e3 w3 ⟨bl, rfl, p3, k3⟩
        have b3 : Below w.heap.size w2 w3 := k3.below B2.out.size (fun b h => h.1)
        have B3 := hid (B2.out.trans b3)
        have P3 : Hid (HpS (fun b => w.heap.size ≤ b) (40 + (k + 1)) h (runH (newH 20 20 150) (xs.take (k + 1))) w3) := hid (by rw [HT.out]; exact p3.mono (fun b _ h => h.1))
        obtain ⟨bb', off', eo, hbb3, f0, f1, f2, f3, f4, f5, f6⟩ := act_at (rowsArg_on HR.out (below_on HB0.out B3.out)) HAt.out
        injection eo with eo
        injection eo with eo1 eo2
        subst eo1 eo2
        clear p3 k3 b3 HDn
        go_simp
        refine hK.out _ _ ?_ (fun _ => ?_)
        · (refine ⟨?_, ?_, ?_, ?_, ?_, ?_, ?_⟩ <;> (first | assumption | go_simp))
        clear hK K
        refine wpAnyH_done (by kernel_rfl) ?_ _
        go_wp2_with fail
        exact ⟨⟨k + 1, by omega, by omega, by simp, P3, B3⟩, by simp [intOf]; omega⟩
    · have HW := hid hF.out.wf
      have hlen : (runH (newH 20 20 150) (xs.take k)).os.length ≤ 200 := by have := hF.out.wf.len; have := hF.out.wf.most; omega
      generalize runH (newH 20 20 150) (xs.take k) = H at *
      generalize hKK : 40 + k = KK at *
      have hK9 : KK ≤ 900000 := by omega
      clear hKK
      rename World => wA
      go_upto_region 3 with fail
      go_cut [28] (fun c wx => c = .bool false ∧ wx = wA)
      case first =>
        rcases (show k = xs.length ∨ (k < xs.length ∧ k = 60) by omega) with rfl | ⟨hkl, rfl⟩
        all_goals
          clear hgo
          go_wp2_with fail
          go_meet
          exact ⟨rfl, rfl⟩
      case rest =>
        obtain ⟨rfl, rfl⟩ := hcut
        clear hgo P0 B0 HX HR
        rename World => wA
        have HLn := hid (fun (wx : World) (b : Below wA.heap.size wA wx) => hlen_calls wx (hF.out.on b))
        have HSh := hid (fun (wx : World) (b : Below wA.heap.size wA wx) (o : Int) => hshape_calls wx (hF.out.on b) o)
        have HCt := hid (fun (wx : World) (b : Below wA.heap.size wA wx) (o : Int) => hcount_calls wx (hF.out.on b) o)
        have HPr := hid (fun (wx : World) (b : Below wA.heap.size wA wx) (o : Int) => hproto_calls wx (hF.out.on b) hK9 o)
        have HKy := hid (fun (wx : World) (b : Below wA.heap.size wA wx) (o j : Int) => hkey_calls wx (hF.out.on b) hK9 o j)
        have HSl := hid (fun (wx : World) (b : Below wA.heap.size wA wx) (o j : Int) => hslot_calls wx (hF.out.on b) o j)
        have HOw := hid (fun (wx : World) (b : Below wA.heap.size wA wx) (o : Int) (nm : ByteArray) (hs : nm.size ≤ 1000000) => hown_calls wx (hF.out.on b) o nm hs)
        have HSo := hid (fun (wx : World) (b : Below wA.heap.size wA wx) (id : Int) (nm : ByteArray) (hs : nm.size ≤ 1000000) => hslotof_calls wx (hF.out.on b) id nm hs)
        clear hF
        go_wp2_with fail
        go_loopw [5] (fun i wr => ∃ n : Nat, n ≤ H.os.length ∧ i = .int .i64 ((n : Int) + 1) ∧ Hid (Below wA.heap.size wA wr)) (fun i _ => 202 - (intOf i).toNat)
        case atStart => exact ⟨0, Nat.zero_le _, rfl, hid (Below.refl _ _)⟩
        case round =>
          obtain ⟨n, hn, rfl, hBq⟩ := hrel
          by_cases hnl : n < H.os.length
          · have hd2 : decide ((n : Int) + 1 ≤ (H.os.length : Int)) = true := decide_eq_true (by omega)
            go_wp2_with fail
            refine (HLn.out _ hBq.out).mono ?_
            rintro e1 w1 ⟨rfl, rfl⟩
            have HS := hid (HSh.out _ hBq.out ((n : Int) + 1))
            by_cases hs0 : shapeH H ((n : Int) + 1) = 0
            · rw [hs0] at HS
              go_wp2_with fail
              refine HS.out.mono ?_
              rintro e2 w2 ⟨rfl, b2⟩
              have B2 := hid (below_on hBq.out b2)
              clear b2
              go_wp2_with fail
              exact ⟨⟨n + 1, by omega, by simp, B2⟩, by simp [intOf]; omega⟩
            · have hs2 : (((shapeH H ((n : Int) + 1) : Nat) : Int) == 0) = false := by simpa using (show ((shapeH H ((n : Int) + 1) : Nat) : Int) ≠ 0 by omega)
              have FS := hid (fun (i : Nat) (hi : i < countH H ((n : Int) + 1)) => shape_facts HW.out hs0 hi)
              have FT := hid (fun (b : Int) (hb : shapeH H ((n : Int) + 1) = shapeH H b) => shape_two HW.out hb hs0)
              have hc32 := count_le HW.out ((n : Int) + 1)
              clear hs0
              generalize hsh : shapeH H ((n : Int) + 1) = sh at *
              generalize hct : countH H ((n : Int) + 1) = ct at *
              have HHs := hid hsh
              have HHc := hid hct
              clear hsh hct
              go_wp2_with fail
              refine HS.out.mono ?_
              rintro e2 w2 ⟨rfl, b2⟩
              have B2 := hid (below_on hBq.out b2)
              clear b2 HS hBq
              go_wp2_with fail
              -- the names of one
              go_loopw [6] (fun i wr => ∃ j : Nat, j ≤ ct ∧ i = .int .i64 (j : Int) ∧ Hid (Below wA.heap.size wA wr)) (fun i _ => ct - (intOf i).toNat)
              case atStart => exact ⟨0, Nat.zero_le _, rfl, B2⟩
              case round =>
                obtain ⟨j, hj, rfl, hBj⟩ := hrel
                have HC := hid (HCt.out _ hBj.out ((n : Int) + 1))
                rw [HHc.out] at HC
                by_cases hjn : j < ct
                · have hdj : decide ((j : Int) < (ct : Int)) = true := decide_eq_true (by omega)
                  obtain ⟨nm, v, k1, k2, k3, k4, k5⟩ := FS.out j hjn
                  go_wp2_with fail
                  refine HC.out.mono ?_
                  rintro e3 w3 ⟨rfl, b3⟩
                  have B3 := hid (below_on hBj.out b3)
                  clear b3 HC
                  have HK := hid (HKy.out _ B3.out ((n : Int) + 1) (j : Int))
                  rw [k1] at HK
                  unfold strO at HK
                  dsimp only [Option.getD_some, Option.isSome_some] at HK
                  go_wp2_with fail
                  refine HK.out.mono ?_
                  rintro e4 w4 ⟨rfl, b4⟩
                  have B4 := hid (below_on B3.out b4)
                  clear b4 HK
                  have HL := hid (HSl.out _ B4.out ((n : Int) + 1) (j : Int))
                  rw [k2] at HL
                  unfold vlV vlO at HL
                  dsimp only [Option.getD_some, Option.isSome_some] at HL
                  go_wp2_with fail
                  refine HL.out.mono ?_
                  rintro e5 w5 ⟨rfl, b5⟩
                  have a5 := (Below.refl w5.heap.size w5).alloc (Nat.le_refl _) (.cells #[.int .i64 v.1, .int .i64 v.2.1, .string v.2.2] 26)
                  have B5 := hid (below_on B4.out (below_on b5 a5))
                  have W5 := hid (was_new w5 rfl 26 v)
                  clear b5 a5 HL
                  generalize hw6 : w5.alloc (.cells #[.int .i64 v.1, .int .i64 v.2.1, .string v.2.2] 26) = w6 at *
                  generalize hg5 : w5.heap.size = g5 at *
                  have HO := hid (HOw.out _ B5.out ((n : Int) + 1) nm k5)
                  rw [k3] at HO
                  unfold vlV vlO at HO
                  dsimp only [Option.getD_some, Option.isSome_some] at HO
                  go_wp2_with fail
                  refine HO.out.mono ?_
                  rintro e7 w7 ⟨rfl, b7⟩
                  have a7 := (Below.refl w7.heap.size w7).alloc (Nat.le_refl _) (.cells #[.int .i64 v.1, .int .i64 v.2.1, .string v.2.2] 26)
                  have B7 := hid (below_on B5.out (below_on b7 a7))
                  have W8 := hid (was_on W5.out (below_on b7 a7))
                  have W7 := hid (was_new w7 rfl 26 v)
                  clear b7 a7 HO W5 hw6 hg5
                  generalize hw8 : w7.alloc (.cells #[.int .i64 v.1, .int .i64 v.2.1, .string v.2.2] 26) = w8 at *
                  generalize hg7 : w7.heap.size = g7 at *
                  obtain ⟨_, u0, u1, u2, _, _, _⟩ := W8.out
                  obtain ⟨_, v0, v1, v2, _, _, _⟩ := W7.out
                  have HS := hid (HSh.out _ B7.out ((n : Int) + 1))
                  rw [HHs.out] at HS
                  go_wp2_with fail
                  refine HS.out.mono ?_
                  rintro e9 w9 ⟨rfl, b9⟩
                  have B9 := hid (below_on B7.out b9)
                  clear b9 HS
                  have HT := hid (HSo.out _ B9.out (sh : Int) nm k5)
                  rw [k4] at HT
                  go_wp2_with fail
                  refine HT.out.mono ?_
                  rintro e10 w10 ⟨rfl, b10⟩
                  have B10 := hid (below_on B9.out b10)
                  clear b10 HT hw8 hg7
                  go_wp2_with fail
                  exact ⟨⟨j + 1, by omega, by simp, B10⟩, by simp [intOf]; omega⟩
                · have hje : j = ct := by omega
                  subst hje
                  clear hj hjn
                  have hdj : decide ((j : Int) < (j : Int)) = false := decide_eq_false (by omega)
                  go_wp2_with fail
                  refine HC.out.mono ?_
                  rintro e3 w3 ⟨rfl, b3⟩
                  have B3 := hid (below_on hBj.out b3)
                  clear b3 HC FS
                  go_wp2_with fail
                  -- two of one shape
                  go_loopw [13] (fun i wr => ∃ m : Nat, m ≤ n ∧ i = .int .i64 ((m : Int) + 1) ∧ Hid (Below wA.heap.size wA wr)) (fun i _ => 202 - (intOf i).toNat)
                  case atStart => exact ⟨0, Nat.zero_le _, rfl, B3⟩
                  case round =>
                    obtain ⟨m, hm, rfl, hBm⟩ := hrel
                    by_cases hmn : m < n
                    · have hdm : decide ((m : Int) + 1 < (n : Int) + 1) = true := decide_eq_true (by omega)
                      have hdm' : decide ((m : Int) < (n : Int)) = true := decide_eq_true (by omega)
                      have HS1 := hid (HSh.out _ hBm.out ((n : Int) + 1))
                      rw [HHs.out] at HS1
                      go_wp2_with fail
                      refine HS1.out.mono ?_
                      rintro e4 w4 ⟨rfl, b4⟩
                      have B4 := hid (below_on hBm.out b4)
                      clear b4 HS1
                      have HS2 := hid (HSh.out _ B4.out ((m : Int) + 1))
                      by_cases hsm : sh = shapeH H ((m : Int) + 1)
                      · rw [← hsm] at HS2
                        obtain ⟨t1, t2, t3⟩ := FT.out _ hsm
                        have T1 := hid t1
                        have T2 := hid t2
                        have T3 := hid t3
                        clear hsm t1 t2 t3
                        go_wp2_with fail
                        refine HS2.out.mono ?_
                        rintro e5 w5 ⟨rfl, b5⟩
                        have B5 := hid (below_on B4.out b5)
                        clear b5 HS2
                        have HC1 := hid (HCt.out _ B5.out ((n : Int) + 1))
                        rw [HHc.out] at HC1
                        go_wp2_with fail
                        refine HC1.out.mono ?_
                        rintro e6 w6 ⟨rfl, b6⟩
                        have B6 := hid (below_on B5.out b6)
                        clear b6 HC1
                        have HC2 := hid (HCt.out _ B6.out ((m : Int) + 1))
                        rw [← T1.out] at HC2
                        go_wp2_with fail
                        refine HC2.out.mono ?_
                        rintro e7 w7 ⟨rfl, b7⟩
                        have B7 := hid (below_on B6.out b7)
                        clear b7 HC2
                        have HP1 := hid (HPr.out _ B7.out ((n : Int) + 1))
                        go_wp2_with fail
                        refine HP1.out.mono ?_
                        rintro e8 w8 ⟨rfl, b8⟩
                        have B8 := hid (below_on B7.out b8)
                        clear b8 HP1
                        have HP2 := hid (HPr.out _ B8.out ((m : Int) + 1))
                        rw [← T2.out] at HP2
                        go_wp2_with fail
                        refine HP2.out.mono ?_
                        rintro e9 w9 ⟨rfl, b9⟩
                        have B9 := hid (below_on B8.out b9)
                        clear b9 HP2 T1 T2
                        go_wp2_with fail
                        -- their names
                        go_loopw [14] (fun i wr => ∃ q : Nat, q ≤ j ∧ i = .int .i64 (q : Int) ∧ Hid (Below wA.heap.size wA wr)) (fun i _ => j - (intOf i).toNat)
                        case atStart => exact ⟨0, Nat.zero_le _, rfl, B9⟩
                        case round =>
                          obtain ⟨q, hq, rfl, hBx⟩ := hrel
                          have HC := hid (HCt.out _ hBx.out ((n : Int) + 1))
                          rw [HHc.out] at HC
                          by_cases hqn : q < j
                          · have hdq : decide ((q : Int) < (j : Int)) = true := decide_eq_true (by omega)
                            go_wp2_with fail
                            refine HC.out.mono ?_
                            rintro e10 w10 ⟨rfl, b10⟩
                            have B10 := hid (below_on hBx.out b10)
                            clear b10 HC
                            have HK1 := hid (HKy.out _ B10.out ((n : Int) + 1) (q : Int))
                            have HK2 := hid (fun (wx : World) (b : Below wA.heap.size wA wx) => HKy.out wx b ((m : Int) + 1) (q : Int))
                            rw [T3.out] at HK1
                            generalize strO (keyH H ((m : Int) + 1) (q : Int)) = s at *
                            generalize (keyH H ((m : Int) + 1) (q : Int)).isSome = bs at *
                            go_wp2_with fail
                            refine HK1.out.mono ?_
                            rintro e11 w11 ⟨rfl, b11⟩
                            have B11 := hid (below_on B10.out b11)
                            clear b11 HK1
                            go_wp2_with fail
                            refine (HK2.out _ B11.out).mono ?_
                            rintro e12 w12 ⟨rfl, b12⟩
                            have B12 := hid (below_on B11.out b12)
                            clear b12 HK2
                            go_wp2_with fail
                            exact ⟨⟨q + 1, by omega, by simp, B12⟩, by simp [intOf]; omega⟩
                          · have hqe : q = j := by omega
                            subst hqe
                            clear hq hqn
                            go_wp2_with fail
                            refine HC.out.mono ?_
                            rintro e10 w10 ⟨rfl, b10⟩
                            have B10 := hid (below_on hBx.out b10)
                            clear b10 HC
                            go_wp2_with fail
                            exact ⟨⟨m + 1, by omega, by simp, B10⟩, by simp [intOf]; omega⟩
                      · have hsm' : ((sh : Int) != ((shapeH H ((m : Int) + 1) : Nat) : Int)) = true := by simpa using (show ¬ ((sh : Int) = ((shapeH H ((m : Int) + 1) : Nat) : Int)) by omega)
                        go_wp2_with fail
                        refine HS2.out.mono ?_
                        rintro e5 w5 ⟨rfl, b5⟩
                        have B5 := hid (below_on B4.out b5)
                        clear b5 HS2
                        go_wp2_with fail
                        exact ⟨⟨m + 1, by omega, by simp, B5⟩, by simp [intOf]; omega⟩
                    · have hme : m = n := by omega
                      subst hme
                      clear hm hmn
                      go_wp2_with fail
                      exact ⟨⟨m + 1, by omega, by simp, hBm⟩, by simp [intOf]; omega⟩
          · have hne : n = H.os.length := by omega
            subst hne
            go_wp2_with fail
            refine (HLn.out _ hBq.out).mono ?_
            rintro e1 w1 ⟨rfl, rfl⟩
            go_wp2_with fail
            refine (hworks_calls _).mono ?_
            rintro e2 w2 ⟨rfl, b2⟩
            have B2 := hid (below_in hB.out (Nat.le_refl _) (below_on hBq.out b2))
            clear b2
            go_wp2_with fail
            go_ret
            exact ⟨rfl, B2.out⟩

theorem walk (a0 : Value) (l0 : List (List Value)) (w : World) (w0 : Hid (RowsArg 7 a0 l0 w)) (n0 : Hid (∀ r ∈ l0, r.length = 7 ∧ FitsF [.i, .i, .i, .s, .i, .i, .s] r)) :
    Calls Tryz.prog 4 #[a0] w fun e w' => e = .returned (.bool true) ∧ Below w.heap.size w w' := by
  obtain ⟨xs, rfl, hok⟩ := acts_of n0.out
  obtain ⟨ao, cap, rfl⟩ := acts_shape w0.out
  exact walk_shapes ao cap xs w w0 (hid hok)

set_option maxRecDepth 100000 in
theorem lifted (os : Os) (started : os.Started) (H : Type) (enc : TypeId × Value → H) :
    ReturnsInHanded {} Tryz.checked os 4 .any (Rows.heapShapesSpec.pre6 enc Tryz.prog Tryz.f4 Rows.heapShapesRow.domain false) (Rows.heapShapesSpec.post enc Tryz.prog Tryz.f4 false true false false) := by
  refine returnsInHanded_of_change (C := Tryz.checked) own started (by kernel_rfl) Tryz.func4
    (ChangeSpec.witness6 (enc := enc) (C := Tryz.checked) false ⟨#[], #[.slice none 0 0], []⟩ 8 (by kernel_rfl) (by kernel_rfl) (by kernel_rfl) (by kernel_rfl)) ?_
  intro W base args ds gs before hval0 hW hcnd _
  have hval : ∀ (j : Nat) t v, Tryz.f4.params[j]? = some t → args[j]? = some v → Value.okWide Tryz.prog W .any base t v := hval0
  have hW' := hW
  obtain ⟨p, q, hA0, hV, rfl, hfz, hnd⟩ := hW
  have hA : DataW.TrodAll enc Tryz.prog W 0 (fun _ => true) true Tryz.f4.params.toList args.toList ds p := hA0
  rw [Tryz.params4] at hA hval
  obtain ⟨v0, vs0, d0, ds0, p0, q0, hargs, rfl, rfl, h0, r0⟩ := trodAll_cons hA
  obtain ⟨rfl, rfl, rfl⟩ := trodAll_nil r0
  obtain rfl : args = #[v0] := by cases args; simp_all
  obtain ⟨rfl, rfl⟩ := trodVars_none hV
  have hk0 := h0
  have hlt0 : ∀ x ∈ p0, x.block < W.heap.size := fun x hx => by simpa using hW'.lt x (by simp [hx])
  obtain ⟨l0, w0, n0⟩ := open_flats Tryz.underlying24 (show flat Tryz.prog 5 28 = some [.i, .i, .i, .s, .i, .i, .s] by kernel_rfl) (show Tryz.prog.cellsOf 28 = 7 by kernel_rfl) (by decide) (hval 0 24 v0 rfl rfl) h0
  clear hA0 hval0
  refine (walk v0 l0 W w0 n0).mono fun e W' ⟨he, hg⟩ => ?_
  subst he
  exact ⟨_, rfl, _, _, _, [], _, [], hW', trodAll_mk1 (shut_bool Tryz.underlying4 _), (trodAll_cons_mk (Below.trod laidOutF (by kernel_rfl) (of_decide_eq_true (by kernel_rfl)) hk0 hg hlt0) trodAll_mk0), rfl, hg.frame _, fun h => by cases h⟩

theorem over : Rows.heapShapesRow.holds Tryz.pinned (OpenSpec.ofChange Rows.heapShapesSpec) :=
  OpenClaim.holds_of_wide 4 Tryz.f4 rfl rfl rfl rfl rfl rfl rfl ⟨rfl, rfl, rfl, rfl, rfl⟩ rfl rfl rfl rfl rfl (by kernel_rfl) Tryz.func4 (by kernel_rfl)
    (of_decide_eq_true (by kernel_rfl)) (by unfold Func.isWrapper; first | (rw [if_pos (by decide +kernel)]; kernel_rfl) | (rw [if_neg (by decide +kernel)]; exact ⟨rfl, rfl⟩))
    (fun os started H enc _ => lifted os started H enc)

end Go.Proofs.YtemidicgipebjaaGreat.heapShapes
namespace Go.Proofs.YtemidicgipebjaaGreat

/-- the statement, as it was given -/
theorem heapShapes_holds : Rows.HeapShapesSaid :=
  heapShapes.over
#print axioms heapShapes_holds
end Go.Proofs.YtemidicgipebjaaGreat
