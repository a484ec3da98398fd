/- Nobody is on the chain of its own prototype; what is got of an object is its own, or what is got of its prototype (behind the first 60 acts; texts of more than 300 bytes ask for the law's own test alone): HeapChains is true for every input; no condition. -/
import Derived.Test.YtemidicgipebjaaGreatHpActs
import Derived.Deep.Cut
import Derived.Deep.CutRange
import Derived.Deep.DeepCutAuto
import Derived.Deep.CutBlock
import Derived.Test.YtemidicgipebjaaGreatRows
import Derived.WalkKit
import Derived.ProofKit
import Derived.OpenShut
import Derived.ShutString
import Derived.ChangeOld
import Derived.Below
namespace Go.Proofs.YtemidicgipebjaaGreat.heapChains
open Go.ChangeShapes Go.WideShapes Go.ChangeAt Go.RowKit
open Go.ChangeMaps (open_string shut_string)
set_option linter.unusedVariables false
set_option maxRecDepth 100000

theorem own : ownKnob Tryz.prog.godebug = none := by kernel_rfl

set_option linter.unusedSimpArgs false
/-- a value stands at block g, and may be written -/
def Was (g : Nat) (z : Vl) (w : World) : Prop :=
  g < w.heap.size ∧ w.cell? ⟨g, 0, none⟩ = some (.int .i64 z.1) ∧ w.cell? ⟨g, 1, none⟩ = some (.int .i64 z.2.1) ∧ w.cell? ⟨g, 2, none⟩ = some (.string z.2.2) ∧
    w.frozen? ⟨g, 0, none⟩ = false ∧ w.frozen? ⟨g, 1, none⟩ = false ∧ w.frozen? ⟨g, 2, none⟩ = false
theorem was_on {g : Nat} {z : Vl} {a b : World} (h : Was g z a) (k : Below a.heap.size a b) : Was g z b := by
  obtain ⟨h0, h1, h2, h3, h4, h5, h6⟩ := h
  exact ⟨Nat.lt_of_lt_of_le h0 k.size, (k.cell (p := ⟨g, 0, none⟩) h0).trans h1, (k.cell (p := ⟨g, 1, none⟩) h0).trans h2, (k.cell (p := ⟨g, 2, none⟩) h0).trans h3, (k.frozen (p := ⟨g, 0, none⟩) h0).trans h4, (k.frozen (p := ⟨g, 1, none⟩) h0).trans h5, (k.frozen (p := ⟨g, 2, none⟩) h0).trans h6⟩
theorem was_new (w : World) {g : Nat} (hg : g = w.heap.size) (t : TypeId) (z : Vl) : Was g z (w.alloc (Obj.cells #[.int .i64 z.1, .int .i64 z.2.1, .string z.2.2] t)) := by
  subst hg
  refine ⟨by simp, by simp, by simp, by simp, by simp, by simp, by simp⟩
theorem was_put {g : Nat} {z : Vl} {w : World} (h : Was g z w) (u : Vl) : Was g u (((w.setCell ⟨g, 0, none⟩ (.int .i64 u.1)).setCell ⟨g, 1, none⟩ (.int .i64 u.2.1)).setCell ⟨g, 2, none⟩ (.string u.2.2)) := by
  obtain ⟨h0, h1, h2, h3, h4, h5, h6⟩ := h
  refine ⟨by simpa using h0, ?_, ?_, ?_, ?_, ?_, ?_⟩ <;> simp [go_sem, h1, h2, h3, h4, h5, h6]
set_option maxHeartbeats 8000000 in
theorem walk_chain (ao : Option Addr) (cap : Nat) (xs : List AcH) (nm : ByteArray) (w : World) (HR : Hid (RowsArg 7 (.slice ao xs.length cap) (xs.map acHC) w)) (HX : Hid (∀ x ∈ xs, acI x)) (hnm : nm.size ≤ maxLen) :
    Calls Tryz.prog 5 #[.slice ao xs.length cap, .string nm] w fun e w' => e = .returned (.bool true) ∧ Below w.heap.size w w' := by
  unfold maxLen at hnm
  by_cases hlong : 300 < nm.size
  · have hd : decide ((300 : Int) < (nm.size : Int)) = true := decide_eq_true (by omega)
    go_enter Tryz.func5, Tryz.ntmps5
    go_wp2_with fail
    refine (hworks_calls _).mono ?_
    rintro e2 w2 ⟨rfl, b2⟩
    have B2 := hid b2
    clear b2
    go_wp2_with fail
    go_ret
    exact ⟨rfl, B2.out⟩
  have hd : decide ((300 : Int) < (nm.size : Int)) = false := decide_eq_false (by omega)
  go_enter Tryz.func5, Tryz.ntmps5
  go_wp2_with fail
  refine (hnew_calls w 20 0 20 0 30).mono ?_
  rintro e0 w0 ⟨h, rfl, p0, b0⟩
  have P0 := hid p0
  have B0 := hid b0
  clear p0 b0
  go_wp2_with fail
  go_loopw [6] (fun i wr => ∃ k : Nat, k ≤ xs.length ∧ k ≤ 60 ∧ i = .int .i64 k ∧ Hid (HpS (fun b => w.heap.size ≤ b) (40 + k) h (runH (newH 20 20 30) (xs.take k)) wr) ∧ Hid (Below w.heap.size w wr)) (fun i _ => 60 - (intOf i).toNat)
  case atStart => exact ⟨0, by omega, by omega, rfl, P0, B0⟩
  case round =>
    obtain ⟨k, hk, hk4, rfl, hF, hB⟩ := hrel
    by_cases hgo : k < xs.length ∧ k < 60
    · obtain ⟨hkl, hk60⟩ := hgo
      obtain ⟨a, ha⟩ : ∃ a, xs[k]? = some a := ⟨xs[k], List.getElem?_eq_getElem hkl⟩
      have hRk := rowsArg_on HR.out hB.out
      obtain ⟨bb, off, rfl, hbb, c0, c1, c2, c3, c4, c5, c6⟩ := act_at hRk ha
      have hai := HX.out _ (List.mem_of_getElem? ha)
      have HRk := hid hRk
      have HL := hid (hlong_calls a hai.1 hai.2.1 wr)
      have HT := hid (runH_take (H := newH 20 20 30) ha)
      have HAt := hid ha
      have d1 : decide ((k : Int) < 60) = true := decide_eq_true (by omega)
      clear ha hai hRk
      cases hll : longH a with
      | true =>
        rw [hll] at HL
        go_wp2_with fail
        refine HL.out.mono ?_
        rintro e1 w1 ⟨rfl, b1⟩
        have B1 := hid (below_in hB.out (Nat.le_refl _) b1)
        clear b1
        go_wp2_with fail
        refine (hworks_calls _).mono ?_
        rintro e2 w2 ⟨rfl, b2⟩
        have B2 := hid (below_in B1.out (Nat.le_refl _) b2)
        clear b2
        go_wp2_with fail
        go_ret
        exact ⟨rfl, B2.out⟩
      | false =>
        rw [hll] at HL
        have hsz := not_longH hll
        clear hll
        go_wp2_with fail
        refine HL.out.mono ?_
        rintro e1 w1 ⟨rfl, b1⟩
        have D1 := b1.drew
        have HD1 := hid D1
        have c0 := cell_on c0 hbb b1
        have c1 := cell_on c1 hbb b1
        have c2 := cell_on c2 hbb b1
        have c3 := cell_on c3 hbb b1
        have c4 := cell_on c4 hbb b1
        have c5 := cell_on c5 hbb b1
        have c6 := cell_on c6 hbb b1
        have hbb1 : bb < w1.heap.size := Nat.lt_of_lt_of_le hbb b1.size
        clear b1 D1
        go_wp2_with fail
        refine wp_region_held_drew (S := fun aZ => aZ.cell? ⟨bb, off + k * 7, none⟩ = some (.int .i64 a.1) ∧ aZ.cell? ⟨bb, off + k * 7 + 1, none⟩ = some (.int .i64 a.2.1) ∧ aZ.cell? ⟨bb, off + k * 7 + 2, none⟩ = some (.int .i64 a.2.2.1) ∧ aZ.cell? ⟨bb, off + k * 7 + 3, none⟩ = some (.string a.2.2.2.1) ∧ aZ.cell? ⟨bb, off + k * 7 + 4, none⟩ = some (.int .i64 a.2.2.2.2.1) ∧ aZ.cell? ⟨bb, off + k * 7 + 5, none⟩ = some (.int .i64 a.2.2.2.2.2.1) ∧ aZ.cell? ⟨bb, off + k * 7 + 6, none⟩ = some (.string a.2.2.2.2.2.2)) (by kernel_rfl) ?_ (fun hHeld => ?_)
        · (refine ⟨?_, ?_, ?_, ?_, ?_, ?_, ?_⟩ <;> go_simp)
        refine wpAnyH_take (i := 0) (v := ?v1) rfl (by kernel_rfl) (by kernel_rfl) (by kernel_rfl) (fun _ _ _ h => h) (Or.inl ⟨by rfl, ?hy1⟩) (by assumption) ?_
        case hy1 => (intro w hSw; go_simp <;> (try with_reducible rfl))
        simp only [Act.put, List.setIfInBounds_toArray, List.set_cons_zero, List.set_cons_succ, List.getElem_toArray, List.getElem_cons_succ, List.getElem_cons_zero]
        refine wpAnyH_take (i := 1) (v := ?v2) rfl (by kernel_rfl) (by kernel_rfl) (by kernel_rfl) (fun _ _ _ h => h) (Or.inl ⟨by rfl, ?hy2⟩) (by assumption) ?_
        case hy2 => (intro w hSw; go_simp <;> (try with_reducible rfl))
        simp only [Act.put, List.setIfInBounds_toArray, List.set_cons_zero, List.set_cons_succ, List.getElem_toArray, List.getElem_cons_succ, List.getElem_cons_zero]
        refine wpAnyH_take (i := 3) (v := ?v3) rfl (by kernel_rfl) (by kernel_rfl) (by kernel_rfl) (fun _ _ _ h => h) (Or.inl ⟨by rfl, ?hy3⟩) (by assumption) ?_
        case hy3 => (intro w hSw; go_simp <;> (try with_reducible rfl))
        simp only [Act.put, List.setIfInBounds_toArray, List.set_cons_zero, List.set_cons_succ, List.getElem_toArray, List.getElem_cons_succ, List.getElem_cons_zero]
        refine wpAnyH_take (i := 4) (v := ?v4) rfl (by kernel_rfl) (by kernel_rfl) (by kernel_rfl) (fun _ _ _ h => h) (Or.inl ⟨by rfl, ?hy4⟩) (by assumption) ?_
        case hy4 => (intro w hSw; go_simp <;> (try with_reducible rfl))
        simp only [Act.put, List.setIfInBounds_toArray, List.set_cons_zero, List.set_cons_succ, List.getElem_toArray, List.getElem_cons_succ, List.getElem_cons_zero]
        refine wpAnyH_take (i := 5) (v := ?v5) rfl (by kernel_rfl) (by kernel_rfl) (by kernel_rfl) (fun _ _ _ h => h) (Or.inl ⟨by rfl, ?hy5⟩) (by assumption) ?_
        case hy5 => (intro w hSw; go_simp <;> (try with_reducible rfl))
        simp only [Act.put, List.setIfInBounds_toArray, List.set_cons_zero, List.set_cons_succ, List.getElem_toArray, List.getElem_cons_succ, List.getElem_cons_zero]
        refine wpAnyH_take (i := 6) (v := ?v6) rfl (by kernel_rfl) (by kernel_rfl) (by kernel_rfl) (fun _ _ _ h => h) (Or.inl ⟨by rfl, ?hy6⟩) (by assumption) ?_
        case hy6 => (intro w hSw; go_simp <;> (try with_reducible rfl))
        simp only [Act.put, List.setIfInBounds_toArray, List.set_cons_zero, List.set_cons_succ, List.getElem_toArray, List.getElem_cons_succ, List.getElem_cons_zero]
        refine wpAnyH_ready (rs := [2]) (by kernel_rfl) (by simp) ?_
        refine AllReadyH.cons rfl (fun K hK => ?_) AllReadyH.nil
        go_simp
        refine (rnew0 _).mono ?_
        rintro e2 w2 ⟨r, f, rfl, r0, bx, hr, hf⟩
        have b2 := below_on HD1.out bx
        have hXr : wr.heap.size ≤ r := Nat.le_trans HD1.out.size hr
        have hXf : wr.heap.size ≤ f := Nat.le_trans HD1.out.size hf
        have P2 : HpX w.heap.size (fun b => wr.heap.size ≤ b ∧ b < w2.heap.size) (40 + k) h (runH (newH 20 20 30) (xs.take k)) w2 := (hF.out.mono (T := fun b => w.heap.size ≤ b ∧ ¬ (wr.heap.size ≤ b ∧ b < w2.heap.size)) (fun b hb h => ⟨h, by omega⟩)).on b2
        have HDn := hid (done0_calls w2 P2 (by omega) (by omega) (Nat.le_trans hB.out.size b2.size) (fun b h => h.2) r0 ⟨hXr, (r0.cells).2.2.2.2.1⟩ ⟨hXf, (r0.cells).2.2.2.2.2⟩ a (by omega))
        have B2 := hid (below_in hB.out (Nat.le_refl _) b2)
        have d0 := cell_on c0 hbb1 ((Below.refl w1.heap.size w1).drew.trans bx)
        have d1 := cell_on c1 hbb1 ((Below.refl w1.heap.size w1).drew.trans bx)
        have d2 := cell_on c2 hbb1 ((Below.refl w1.heap.size w1).drew.trans bx)
        have d3 := cell_on c3 hbb1 ((Below.refl w1.heap.size w1).drew.trans bx)
        have d4 := cell_on c4 hbb1 ((Below.refl w1.heap.size w1).drew.trans bx)
        have d5 := cell_on c5 hbb1 ((Below.refl w1.heap.size w1).drew.trans bx)
        have d6 := cell_on c6 hbb1 ((Below.refl w1.heap.size w1).drew.trans bx)
        clear r0 bx b2 P2 hXr hXf hr hf
        go_simp
        refine hK.out _ _ ?_ (fun _ => ?_)
        · (refine ⟨?_, ?_, ?_, ?_, ?_, ?_, ?_⟩ <;> (first | assumption | go_simp))
        clear hK K
        refine wpAnyH_ready (rs := [7]) (by kernel_rfl) (by simp) ?_
        refine AllReadyH.cons rfl (fun K hK => ?_) AllReadyH.nil
        go_simp
        refine HDn.out.mono ?_
        rintro e3 w3 ⟨bl, rfl, p3, k3⟩
        have b3 : Below w.heap.size w2 w3 := k3.below B2.out.size (fun b h => h.1)
        have B3 := hid (B2.out.trans b3)
        have P3 : Hid (HpS (fun b => w.heap.size ≤ b) (40 + (k + 1)) h (runH (newH 20 20 30) (xs.take (k + 1))) w3) := hid (by rw [HT.out]; exact p3.mono (fun b _ h => h.1))
        obtain ⟨bb', off', eo, hbb3, f0, f1, f2, f3, f4, f5, f6⟩ := act_at (rowsArg_on HR.out B3.out) HAt.out
        injection eo with eo
        injection eo with eo1 eo2
        subst eo1 eo2
        clear p3 k3 b3 HDn
        go_simp
        refine hK.out _ _ ?_ (fun _ => ?_)
        · (refine ⟨?_, ?_, ?_, ?_, ?_, ?_, ?_⟩ <;> (first | assumption | go_simp))
        clear hK K
        refine wpAnyH_done (by kernel_rfl) ?_ _
        go_wp2_with fail
        exact ⟨⟨k + 1, by omega, by omega, by simp, P3, B3⟩, by simp [intOf]; omega⟩
    · have HW := hid hF.out.wf
      have hlen : (runH (newH 20 20 30) (xs.take k)).os.length ≤ 200 := by have := hF.out.wf.len; have := hF.out.wf.most; omega
      generalize runH (newH 20 20 30) (xs.take k) = H at *
      generalize hKK : 40 + k = KK at *
      have hK9 : KK ≤ 900000 := by omega
      clear hKK
      rename World => wA
      go_upto_region 5 with fail
      go_cut [26] (fun c wx => c = .bool false ∧ wx = wA)
      case first =>
        rcases (show k = xs.length ∨ (k < xs.length ∧ k = 60) by omega) with rfl | ⟨hkl, rfl⟩
        all_goals
          clear hgo
          go_wp2_with fail
          go_meet
          exact ⟨rfl, rfl⟩
      case rest =>
        obtain ⟨rfl, rfl⟩ := hcut
        clear hgo
        rename World => wA
        go_wp2_with fail
        go_loopw [7] (fun i wr => ∃ n : Nat, n ≤ H.os.length ∧ i = .int .i64 ((n : Int) + 1) ∧ Hid (Below wA.heap.size wA wr)) (fun i _ => 202 - (intOf i).toNat)
        case atStart => exact ⟨0, Nat.zero_le _, rfl, hid (Below.refl _ _)⟩
        case round =>
          obtain ⟨n, hn, rfl, hBq⟩ := hrel
          have HLn := hid (hlen_calls wr (hF.out.on hBq.out))
          by_cases hnl : n < H.os.length
          · have hd2 : decide ((n : Int) + 1 ≤ (H.os.length : Int)) = true := decide_eq_true (by omega)
            go_wp2_with fail
            refine HLn.out.mono ?_
            rintro e1 w1 ⟨rfl, rfl⟩
            go_wp2_with fail
            go_loopw [8, 9] (fun a b wr => ∃ (q : Nat) (at_ : Int), q ≤ H.os.length + 1 ∧ b = .int .i64 (q : Int) ∧ a = .int .i64 at_ ∧ Hid (at_ = upN H q ((n : Int) + 1)) ∧ Hid (0 ≤ at_) ∧ Hid (Below wA.heap.size wA wr)) (fun _ b _ => 202 - (intOf b).toNat)
            case atStart => exact ⟨0, _, Nat.zero_le _, rfl, rfl, hid rfl, hid (by omega), hBq⟩
            case round =>
              obtain ⟨q, at_, hq, rfl, rfl, hAt, hat0, hBz⟩ := hrel
              have HLz := hid (hlen_calls wr (hF.out.on hBz.out))
              by_cases hgo2 : q ≤ H.os.length ∧ at_ ≠ 0
              · obtain ⟨hq1, ha1⟩ := hgo2
                have ha2 : (at_ != 0) = true := by simpa using ha1
                have HPr := hid (hproto_calls wr (hF.out.on hBz.out) hK9 at_)
                have HUp := hid (show ((protoH H at_ : Nat) : Int) = upN H (q + 1) ((n : Int) + 1) by rw [Nat.add_comm, upN_add, ← hAt.out]; rfl)
                go_wp2_with fail
                refine HLz.out.mono ?_
                rintro e2 w2 ⟨rfl, rfl⟩
                go_wp2_with fail
                refine HPr.out.mono ?_
                rintro e3 w3 ⟨rfl, b3⟩
                have B3 := hid (below_on hBz.out b3)
                clear b3
                go_wp2_with fail
                exact ⟨⟨q + 1, _, by omega, by simp, rfl, HUp, hid (by omega), B3⟩, by simp [intOf]; omega⟩
              · have haz : at_ = 0 := by
                  by_cases hq2 : q ≤ H.os.length
                  · exact Decidable.byContradiction (fun h => hgo2 ⟨hq2, h⟩)
                  · have hqe : q = H.os.length + 1 := by omega
                    have := HW.out.within ((n : Int) + 1)
                    rw [← hqe, ← hAt.out] at this
                    have := hat0.out
                    omega
                subst haz
                have HOw := hid (fun (wx : World) (b : Below wA.heap.size wA wx) => hown_calls wx (hF.out.on b) ((n : Int) + 1) nm (by omega))
                have HPr := hid (fun (wx : World) (b : Below wA.heap.size wA wx) => hproto_calls wx (hF.out.on b) hK9 ((n : Int) + 1))
                have HGt := hid (fun (wx : World) (b : Below wA.heap.size wA wx) (o : Int) => hget_calls wx (hF.out.on b) hK9 o nm (by omega))
                have HEq := hid (gotH_eq HW.out ((n : Int) + 1) nm)
                generalize hvo : ownH H ((n : Int) + 1) nm = vo at *
                generalize hpo : protoH H ((n : Int) + 1) = po at *
                clear hgo2 hvo hpo
                rename World => wB
                go_upto_region 15 with fail
                go_cut [57] (fun c wx => c = .bool false ∧ wx = wB)
                case first =>
                  rcases (show (q ≤ H.os.length) ∨ (H.os.length < q) by omega) with hq3 | hq3
                  all_goals
                    go_wp2_with fail
                    refine HLz.out.mono ?_
                    rintro e2 w2 ⟨rfl, rfl⟩
                    go_wp2_with fail
                    go_meet
                    exact ⟨rfl, rfl⟩
                case rest =>
                  obtain ⟨rfl, rfl⟩ := hcut
                  rename World => wB
                  go_wp2_with fail
                  refine (HOw.out wB hBz.out).mono ?_
                  rintro e3 w3 ⟨rfl, b3⟩
                  have B3 := hid (below_on hBz.out b3)
                  clear b3
                  obtain ⟨z0, hz0⟩ : ∃ z0, vlO vo = z0 := ⟨_, rfl⟩
                  obtain ⟨b0, hb0⟩ : ∃ b0, vo.isSome = b0 := ⟨_, rfl⟩
                  obtain ⟨zz, hzz⟩ : ∃ zz, gotH H ((n : Int) + 1) nm = zz := ⟨_, rfl⟩
                  have HZ := hid (show zz = if b0 then z0 else if 0 < po then gotH H (po : Int) nm else z0 by
                    rw [← hzz, ← hb0, ← hz0]
                    have := HEq.out
                    cases vo with
                    | some z => simpa [vlO] using this
                    | none => simpa [vlO] using this)
                  rw [hz0, hb0]
                  have HG := hid (fun (wx : World) (b : Below wA.heap.size wA wx) => HGt.out wx b ((n : Int) + 1))
                  rw [hzz] at HG
                  have a1 := (Below.refl w3.heap.size w3).alloc (Nat.le_refl _) (.cells #[.int .i64 z0.1, .int .i64 z0.2.1, .string z0.2.2] 26)
                  have a2 := a1.alloc (by simp) (.cells #[.int .i64 z0.1, .int .i64 z0.2.1, .string z0.2.2] 26)
                  have B4 := hid (below_on B3.out a2)
                  have Wz := hid (was_new (w3.alloc (.cells #[.int .i64 z0.1, .int .i64 z0.2.1, .string z0.2.2] 26)) (g := w3.heap.size + 1) (by simp) 26 z0)
                  have hg3 : wA.heap.size ≤ w3.heap.size + 1 := by have := B3.out.size; omega
                  clear hz0 hb0 hzz HEq HOw a1 a2
                  unfold vlV
                  go_upto_region 20 with fail
                  generalize hW4 : (w3.alloc (.cells #[.int .i64 z0.1, .int .i64 z0.2.1, .string z0.2.2] 26)).alloc (.cells #[.int .i64 z0.1, .int .i64 z0.2.1, .string z0.2.2] 26) = w4 at *
                  clear hW4
                  generalize hg4 : w3.heap.size + 1 = g4 at *
                  clear hg4
                  have HP4 := hid (HPr.out w4 B4.out)
                  go_cut [78] (fun c wx => c = .bool (!b0 && decide ((0 : Int) < (po : Int))) ∧ Hid (Was g4 z0 wx) ∧ Hid (Below wA.heap.size wA wx))
                  case first =>
                    cases b0 with
                    | true =>
                      go_wp2_with fail
                      go_meet
                      exact ⟨rfl, Wz, B4⟩
                    | false =>
                      go_wp2_with fail
                      refine HP4.out.mono ?_
                      rintro e5 w5 ⟨rfl, b5⟩
                      have B5 := hid (below_on B4.out b5)
                      have W5 := hid (was_on Wz.out b5)
                      clear b5
                      go_wp2_with fail
                      go_meet
                      exact ⟨by simp, W5, B5⟩
                  case rest =>
                   obtain ⟨rfl, W4, B4⟩ := hcut
                   clear HP4
                   rename World => wD
                   have HP4 := hid (HPr.out wD B4.out)
                   have HZ2 := hid (show zz = if (!b0 && decide ((0 : Int) < (po : Int))) then gotH H (po : Int) nm else z0 by
                     rw [HZ.out]
                     cases b0 <;> by_cases hp0 : 0 < po <;> simp [hp0])
                   generalize (!b0 && decide ((0 : Int) < (po : Int))) = c0 at *
                   go_upto_if 78 with fail
                   go_cut [] (fun wx => Hid (Was g4 zz wx) ∧ Hid (Below wA.heap.size wA wx))
                   case first =>
                    cases c0 with
                    | true =>
                      have hzz2 : zz = gotH H (po : Int) nm := by simpa using HZ2.out
                      go_wp2_with fail
                      refine HP4.out.mono ?_
                      rintro e6 w6 ⟨rfl, b6⟩
                      have B6 := hid (below_on B4.out b6)
                      have W6 := hid (was_on W4.out b6)
                      have HG6 := hid (HGt.out w6 B6.out (po : Int))
                      rw [← hzz2] at HG6
                      clear b6 hzz2
                      go_wp2_with fail
                      refine HG6.out.mono ?_
                      rintro e7 w7 ⟨rfl, b7⟩
                      have B7 := hid (below_on B6.out b7)
                      have W7 := hid (was_on W6.out b7)
                      obtain ⟨l7, x0, x1, x2, f0, f1, f2⟩ := W7.out
                      clear b7
                      unfold vlV
                      go_wp2_with fail
                      go_meet
                      exact ⟨hid (was_put W7.out zz), hid (put3 B7.out hg3 _ _ _)⟩
                    | false =>
                      have hzz2 : zz = z0 := by simpa using HZ2.out
                      subst hzz2
                      go_wp2_with fail
                      go_meet
                      exact ⟨W4, B4⟩
                   case rest =>
                    obtain ⟨WZ, BZ⟩ := hcut
                    obtain ⟨lz, x0, x1, x2, _, _, _⟩ := WZ.out
                    have B5 := hid (below_on BZ.out (Below.refl _ _).drew)
                    have HGc := hid (HG.out wc.drew B5.out)
                    unfold vlV at HGc
                    clear HG HGt HPr HZ HZ2 HP4 W4 B4 HLz HLn
                    go_wp2_with fail
                    refine wp_region_held_drew (S := fun aZ => aZ.cell? ⟨g4, 0, none⟩ = some (.int .i64 zz.1) ∧ aZ.cell? ⟨g4, 1, none⟩ = some (.int .i64 zz.2.1) ∧ aZ.cell? ⟨g4, 2, none⟩ = some (.string zz.2.2)) (by kernel_rfl) ?_ (fun hHeld => ?_)
                    · (refine ⟨?_, ?_, ?_⟩ <;> go_simp)
                    refine wpAnyH_take (i := 0) (v := ?v9) rfl (by kernel_rfl) (by kernel_rfl) (by kernel_rfl) (fun _ _ _ h => h) (Or.inl ⟨by rfl, ?hy9⟩) (by assumption) ?_
                    case hy9 => (intro w hSw; go_simp <;> (try with_reducible rfl))
                    simp only [Act.put, List.setIfInBounds_toArray, List.set_cons_zero, List.set_cons_succ, List.getElem_toArray, List.getElem_cons_succ, List.getElem_cons_zero]
                    refine wpAnyH_take (i := 1) (v := ?v10) rfl (by kernel_rfl) (by kernel_rfl) (by kernel_rfl) (fun _ _ _ h => h) (Or.inl ⟨by rfl, ?hy10⟩) (by assumption) ?_
                    case hy10 => (intro w hSw; go_simp <;> (try with_reducible rfl))
                    simp only [Act.put, List.setIfInBounds_toArray, List.set_cons_zero, List.set_cons_succ, List.getElem_toArray, List.getElem_cons_succ, List.getElem_cons_zero]
                    refine wpAnyH_take (i := 2) (v := ?v11) rfl (by kernel_rfl) (by kernel_rfl) (by kernel_rfl) (fun _ _ _ h => h) (Or.inl ⟨by rfl, ?hy11⟩) (by assumption) ?_
                    case hy11 => (intro w hSw; go_simp <;> (try with_reducible rfl))
                    simp only [Act.put, List.setIfInBounds_toArray, List.set_cons_zero, List.set_cons_succ, List.getElem_toArray, List.getElem_cons_succ, List.getElem_cons_zero]
                    refine wpAnyH_take (i := 3) (v := ?v12) rfl (by kernel_rfl) (by kernel_rfl) (by kernel_rfl) (fun _ _ _ h => h) (Or.inl ⟨by rfl, ?hy12⟩) (by assumption) ?_
                    case hy12 => (intro w hSw; go_simp <;> (try with_reducible rfl))
                    simp only [Act.put, List.setIfInBounds_toArray, List.set_cons_zero, List.set_cons_succ, List.getElem_toArray, List.getElem_cons_succ, List.getElem_cons_zero]
                    refine wpAnyH_take (i := 4) (v := ?v13) rfl (by kernel_rfl) (by kernel_rfl) (by kernel_rfl) (fun _ _ _ h => h) (Or.inl ⟨by rfl, ?hy13⟩) (by assumption) ?_
                    case hy13 => (intro w hSw; go_simp <;> (try with_reducible rfl))
                    simp only [Act.put, List.setIfInBounds_toArray, List.set_cons_zero, List.set_cons_succ, List.getElem_toArray, List.getElem_cons_succ, List.getElem_cons_zero]
                    refine wpAnyH_take (i := 5) (v := ?v14) rfl (by kernel_rfl) (by kernel_rfl) (by kernel_rfl) (fun _ _ _ h => h) (Or.inl ⟨by rfl, ?hy14⟩) (by assumption) ?_
                    case hy14 => (intro w hSw; go_simp <;> (try with_reducible rfl))
                    simp only [Act.put, List.setIfInBounds_toArray, List.set_cons_zero, List.set_cons_succ, List.getElem_toArray, List.getElem_cons_succ, List.getElem_cons_zero]
                    refine wpAnyH_take (i := 7) (v := ?v15) rfl (by kernel_rfl) (by kernel_rfl) (by kernel_rfl) (fun _ _ _ h => h) (Or.inl ⟨by rfl, ?hy15⟩) (by assumption) ?_
                    case hy15 => (intro w hSw; go_simp <;> (try with_reducible rfl))
                    simp only [Act.put, List.setIfInBounds_toArray, List.set_cons_zero, List.set_cons_succ, List.getElem_toArray, List.getElem_cons_succ, List.getElem_cons_zero]
                    refine wpAnyH_ready (rs := [6]) (by kernel_rfl) (by simp) ?_
                    refine AllReadyH.cons rfl (fun K hK => ?_) AllReadyH.nil
                    go_simp
                    refine HGc.out.mono ?_
                    rintro e9 w9 ⟨rfl, b9⟩
                    have y0 := cell_on (a := wc.drew) (i := 0) (g := g4) (v := .int .i64 zz.1) (by go_simp) lz b9
                    have y1 := cell_on (a := wc.drew) (i := 1) (g := g4) (v := .int .i64 zz.2.1) (by go_simp) lz b9
                    have y2 := cell_on (a := wc.drew) (i := 2) (g := g4) (v := .string zz.2.2) (by go_simp) lz b9
                    have B9 := hid (below_on B5.out b9)
                    clear b9 HGc
                    go_simp
                    refine hK.out _ _ ?_ (fun _ => ?_)
                    · (refine ⟨?_, ?_, ?_⟩ <;> (first | assumption | go_simp))
                    clear hK K
                    refine wpAnyH_take (i := 8) (v := ?v17) rfl (by kernel_rfl) (by kernel_rfl) (by kernel_rfl) (fun _ _ _ h => h) (Or.inl ⟨by rfl, ?hy17⟩) (by assumption) ?_
                    case hy17 => (intro w hSw; go_simp <;> (try with_reducible rfl))
                    simp only [Act.put, List.setIfInBounds_toArray, List.set_cons_zero, List.set_cons_succ, List.getElem_toArray, List.getElem_cons_succ, List.getElem_cons_zero]
                    refine wpAnyH_take (i := 9) (v := ?v18) rfl (by kernel_rfl) (by kernel_rfl) (by kernel_rfl) (fun _ _ _ h => h) (Or.inl ⟨by rfl, ?hy18⟩) (by assumption) ?_
                    case hy18 => (intro w hSw; go_simp <;> (try with_reducible rfl))
                    simp only [Act.put, List.setIfInBounds_toArray, List.set_cons_zero, List.set_cons_succ, List.getElem_toArray, List.getElem_cons_succ, List.getElem_cons_zero]
                    refine wpAnyH_done (by kernel_rfl) ?_ _
                    go_wp2_with fail
                    exact ⟨⟨n + 1, by omega, by simp, B9⟩, by simp [intOf]; omega⟩
          · have hne : n = H.os.length := by omega
            subst hne
            go_wp2_with fail
            refine HLn.out.mono ?_
            rintro e1 w1 ⟨rfl, rfl⟩
            go_wp2_with fail
            refine (hworks_calls _).mono ?_
            rintro e2 w2 ⟨rfl, b2⟩
            have B2 := hid (below_in hB.out (Nat.le_refl _) (below_on hBq.out b2))
            clear b2
            go_wp2_with fail
            go_ret
            exact ⟨rfl, B2.out⟩

theorem walk (a0 : Value) (l0 : List (List Value)) (a1 : ByteArray) (w : World) (w0 : Hid (RowsArg 7 a0 l0 w)) (n0 : Hid (∀ r ∈ l0, r.length = 7 ∧ FitsF [.i, .i, .i, .s, .i, .i, .s] r)) (w1 : a1.size ≤ maxLen) :
    Calls Tryz.prog 5 #[a0, .string a1] w fun e w' => e = .returned (.bool true) ∧ Below w.heap.size w w' := by
  obtain ⟨xs, rfl, hok⟩ := acts_of n0.out
  obtain ⟨ao, cap, rfl⟩ := acts_shape w0.out
  exact walk_chain ao cap xs a1 w w0 (hid hok) (by assumption)

set_option maxRecDepth 100000 in
theorem lifted (os : Os) (started : os.Started) (H : Type) (enc : TypeId × Value → H) :
    ReturnsInHanded {} Tryz.checked os 5 .any (Rows.heapChainsSpec.pre6 enc Tryz.prog Tryz.f5 Rows.heapChainsRow.domain false) (Rows.heapChainsSpec.post enc Tryz.prog Tryz.f5 false true false false) := by
  refine returnsInHanded_of_change (C := Tryz.checked) own started (by kernel_rfl) Tryz.func5
    (ChangeSpec.witness6 (enc := enc) (C := Tryz.checked) false ⟨#[], #[.slice none 0 0, .string ByteArray.empty], []⟩ 8 (by kernel_rfl) (by kernel_rfl) (by kernel_rfl) (by kernel_rfl)) ?_
  intro W base args ds gs before hval0 hW hcnd _
  have hval : ∀ (j : Nat) t v, Tryz.f5.params[j]? = some t → args[j]? = some v → Value.okWide Tryz.prog W .any base t v := hval0
  have hW' := hW
  obtain ⟨p, q, hA0, hV, rfl, hfz, hnd⟩ := hW
  have hA : DataW.TrodAll enc Tryz.prog W 0 (fun _ => true) true Tryz.f5.params.toList args.toList ds p := hA0
  rw [Tryz.params5] at hA hval
  obtain ⟨v0, vs0, d0, ds0, p0, q0, hargs, rfl, rfl, h0, r0⟩ := trodAll_cons hA
  obtain ⟨v1, vs1, d1, ds1, p1, q1, rfl, rfl, rfl, h1, r1⟩ := trodAll_cons r0
  obtain ⟨rfl, rfl, rfl⟩ := trodAll_nil r1
  obtain rfl : args = #[v0, v1] := by cases args; simp_all
  obtain ⟨rfl, rfl⟩ := trodVars_none hV
  have hk0 := h0
  have hlt0 : ∀ x ∈ p0, x.block < W.heap.size := fun x hx => by simpa using hW'.lt x (by simp [hx])
  obtain ⟨l0, w0, n0⟩ := open_flats Tryz.underlying24 (show flat Tryz.prog 5 28 = some [.i, .i, .i, .s, .i, .i, .s] by kernel_rfl) (show Tryz.prog.cellsOf 28 = 7 by kernel_rfl) (by decide) (hval 0 24 v0 rfl rfl) h0
  obtain ⟨a1, rfl, rfl, rfl, w1⟩ := open_string Tryz.underlying9 (hval 1 9 v1 rfl rfl) h1
  clear hA0 hval0
  refine (walk v0 l0 a1 W w0 n0 w1).mono fun e W' ⟨he, hg⟩ => ?_
  subst he
  exact ⟨_, rfl, _, _, _, [], _, [], hW', trodAll_mk1 (shut_bool Tryz.underlying4 _), (trodAll_cons_mk (Below.trod laidOutF (by kernel_rfl) (of_decide_eq_true (by kernel_rfl)) hk0 hg hlt0) (trodAll_cons_mk (shut_string Tryz.underlying9 w1) trodAll_mk0)), rfl, hg.frame _, fun h => by cases h⟩

theorem over : Rows.heapChainsRow.holds Tryz.pinned (OpenSpec.ofChange Rows.heapChainsSpec) :=
  OpenClaim.holds_of_wide 5 Tryz.f5 rfl rfl rfl rfl rfl rfl rfl ⟨rfl, rfl, rfl, rfl, rfl⟩ rfl rfl rfl rfl rfl (by kernel_rfl) Tryz.func5 (by kernel_rfl)
    (of_decide_eq_true (by kernel_rfl)) (by unfold Func.isWrapper; first | (rw [if_pos (by decide +kernel)]; kernel_rfl) | (rw [if_neg (by decide +kernel)]; exact ⟨rfl, rfl⟩))
    (fun os started H enc _ => lifted os started H enc)

end Go.Proofs.YtemidicgipebjaaGreat.heapChains
namespace Go.Proofs.YtemidicgipebjaaGreat

/-- the statement, as it was given -/
theorem heapChains_holds : Rows.HeapChainsSaid :=
  heapChains.over
#print axioms heapChains_holds
end Go.Proofs.YtemidicgipebjaaGreat
