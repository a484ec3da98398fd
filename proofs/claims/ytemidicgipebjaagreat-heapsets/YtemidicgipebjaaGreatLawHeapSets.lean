/- A property that was set without an error is there, with that value; all other properties, of that object and of others, are as they were, and stand in the same order (behind the first 40 acts; texts of more than 300 bytes ask for the law's own test alone): HeapSets is true for every input; no condition. -/
import Derived.Test.YtemidicgipebjaaGreatHpWas
import Derived.Deep.Cut
import Derived.Deep.CutRange
import Derived.Deep.DeepCutAuto
import Derived.Deep.CutBlock
import Derived.Test.YtemidicgipebjaaGreatRows
import Derived.WalkKit
import Derived.ProofKit
import Derived.OpenShut
import Derived.ShutString
import Derived.ChangeOld
import Derived.Below
namespace Go.Proofs.YtemidicgipebjaaGreat.heapSets
open Go.ChangeShapes Go.WideShapes Go.ChangeAt Go.RowKit
open Go.ChangeMaps (open_string shut_string)
set_option linter.unusedVariables false
set_option maxRecDepth 100000

theorem own : ownKnob Tryz.prog.godebug = none := by kernel_rfl

theorem open_a1 {H : Type} {enc : TypeId × Value → H} {W : World} {b0 : Nat} {r : Reach} {v : Value} {d : DataW H} {p : List MemPlace} (hv : Value.okWide Tryz.prog W r b0 28 v) (h : DataW.Trod enc Tryz.prog W 0 (fun _ => true) true 28 v d p) :
    ∃ (x1_0 : Int) (x1_1 : Int) (x1_2 : Int) (x1_3 : ByteArray) (x1_4 : Int) (x1_5 : Int) (x1_6 : ByteArray), v = .agg #[.int .i64 x1_0, .int .i64 x1_1, .int .i64 x1_2, .string x1_3, .int .i64 x1_4, .int .i64 x1_5, .string x1_6] ∧ (-9223372036854775808 ≤ x1_0 ∧ x1_0 ≤ 9223372036854775807) ∧ (-9223372036854775808 ≤ x1_1 ∧ x1_1 ≤ 9223372036854775807) ∧ (-9223372036854775808 ≤ x1_2 ∧ x1_2 ≤ 9223372036854775807) ∧ (x1_3.size ≤ maxLen) ∧ (-9223372036854775808 ≤ x1_4 ∧ x1_4 ≤ 9223372036854775807) ∧ (-9223372036854775808 ≤ x1_5 ∧ x1_5 ≤ 9223372036854775807) ∧ (x1_6.size ≤ maxLen) := by
  obtain ⟨cs, rfl, hl, hf0⟩ := open_flat Tryz.underlying28 (show flat Tryz.prog 5 28 = some [.i, .i, .i, .s, .i, .i, .s] by kernel_rfl) hv h
  rw [show Tryz.prog.cellsOf 28 = 7 by kernel_rfl] at hl
  obtain ⟨_, c0, rfl, ⟨y0, rfl, q0⟩, hf1⟩ := fits_cons hf0
  obtain ⟨_, c1, rfl, ⟨y1, rfl, q1⟩, hf2⟩ := fits_cons hf1
  obtain ⟨_, c2, rfl, ⟨y2, rfl, q2⟩, hf3⟩ := fits_cons hf2
  obtain ⟨_, c3, rfl, ⟨y3, rfl, q3⟩, hf4⟩ := fits_cons hf3
  obtain ⟨_, c4, rfl, ⟨y4, rfl, q4⟩, hf5⟩ := fits_cons hf4
  obtain ⟨_, c5, rfl, ⟨y5, rfl, q5⟩, hf6⟩ := fits_cons hf5
  obtain ⟨_, c6, rfl, ⟨y6, rfl, q6⟩, hf7⟩ := fits_cons hf6
  have e : c6 = [] := List.length_eq_zero_iff.1 (by simpa using hl)
  subst e
  exact ⟨y0, y1, y2, y3, y4, y5, y6, rfl, q0, q1, q2, q3, q4, q5, q6⟩
theorem open_a2 {H : Type} {enc : TypeId × Value → H} {W : World} {b0 : Nat} {r : Reach} {v : Value} {d : DataW H} {p : List MemPlace} (hv : Value.okWide Tryz.prog W r b0 28 v) (h : DataW.Trod enc Tryz.prog W 0 (fun _ => true) true 28 v d p) :
    ∃ (x2_0 : Int) (x2_1 : Int) (x2_2 : Int) (x2_3 : ByteArray) (x2_4 : Int) (x2_5 : Int) (x2_6 : ByteArray), v = .agg #[.int .i64 x2_0, .int .i64 x2_1, .int .i64 x2_2, .string x2_3, .int .i64 x2_4, .int .i64 x2_5, .string x2_6] ∧ (-9223372036854775808 ≤ x2_0 ∧ x2_0 ≤ 9223372036854775807) ∧ (-9223372036854775808 ≤ x2_1 ∧ x2_1 ≤ 9223372036854775807) ∧ (-9223372036854775808 ≤ x2_2 ∧ x2_2 ≤ 9223372036854775807) ∧ (x2_3.size ≤ maxLen) ∧ (-9223372036854775808 ≤ x2_4 ∧ x2_4 ≤ 9223372036854775807) ∧ (-9223372036854775808 ≤ x2_5 ∧ x2_5 ≤ 9223372036854775807) ∧ (x2_6.size ≤ maxLen) := by
  obtain ⟨cs, rfl, hl, hf0⟩ := open_flat Tryz.underlying28 (show flat Tryz.prog 5 28 = some [.i, .i, .i, .s, .i, .i, .s] by kernel_rfl) hv h
  rw [show Tryz.prog.cellsOf 28 = 7 by kernel_rfl] at hl
  obtain ⟨_, c0, rfl, ⟨y0, rfl, q0⟩, hf1⟩ := fits_cons hf0
  obtain ⟨_, c1, rfl, ⟨y1, rfl, q1⟩, hf2⟩ := fits_cons hf1
  obtain ⟨_, c2, rfl, ⟨y2, rfl, q2⟩, hf3⟩ := fits_cons hf2
  obtain ⟨_, c3, rfl, ⟨y3, rfl, q3⟩, hf4⟩ := fits_cons hf3
  obtain ⟨_, c4, rfl, ⟨y4, rfl, q4⟩, hf5⟩ := fits_cons hf4
  obtain ⟨_, c5, rfl, ⟨y5, rfl, q5⟩, hf6⟩ := fits_cons hf5
  obtain ⟨_, c6, rfl, ⟨y6, rfl, q6⟩, hf7⟩ := fits_cons hf6
  have e : c6 = [] := List.length_eq_zero_iff.1 (by simpa using hl)
  subst e
  exact ⟨y0, y1, y2, y3, y4, y5, y6, rfl, q0, q1, q2, q3, q4, q5, q6⟩
set_option linter.unusedSimpArgs false
set_option maxRecDepth 100000
set_option maxHeartbeats 4000000 in
theorem walk_long (ao : Option Addr) (cap : Nat) (n : Nat) (a b : AcH) (w : World) (ha : acI a) (hb : acI b) (hl : longH a = true ∨ longH a = false ∧ longH b = true) :
    Calls Tryz.prog 7 #[.slice ao n cap, acHV a, acHV b] w fun e w' => e = .returned (.bool true) ∧ Below w.heap.size w w' := by
  have A := ((Below.refl w.heap.size w).alloc (Nat.le_refl _) (acHO a)).alloc (by simp) (acHO b)
  have XB := boxF_new (w.alloc (acHO a)) (g := w.heap.size + 1) (by simp) b
  have HLa := hid (hlong_calls a ha.1 ha.2.1 ((w.alloc (acHO a)).alloc (acHO b)))
  have HLb := hid (fun wx => hlong_calls b hb.1 hb.2.1 wx)
  have HA := hid A
  have HXB := hid XB
  clear A XB
  rcases hl with hl | ⟨hl, hl2⟩
  · rw [hl] at HLa
    go_enter Tryz.func7, Tryz.ntmps7
    go_wp2_with fail
    refine HLa.out.mono ?_
    rintro e1 w1 ⟨rfl, b1⟩
    have B1 := hid (below_on HA.out b1)
    clear b1
    go_wp2_with fail
    refine (hworks_calls _).mono ?_
    rintro e2 w2 ⟨rfl, b2⟩
    have B2 := hid (below_on B1.out b2)
    clear b2
    go_wp2_with fail
    go_ret
    exact ⟨rfl, B2.out⟩
  · rw [hl] at HLa
    rw [hl2] at HLb
    go_enter Tryz.func7, Tryz.ntmps7
    go_wp2_with fail
    refine HLa.out.mono ?_
    rintro e1 w1 ⟨rfl, b1⟩
    have B1 := hid (below_on HA.out b1)
    obtain ⟨_, x0, x1, x2, x3, x4, x5, x6⟩ := boxF_on HXB.out b1 (by simp)
    clear b1
    go_wp2_with fail
    refine (HLb.out _).mono ?_
    rintro e3 w3 ⟨rfl, b3⟩
    have B3 := hid (below_on B1.out b3)
    clear b3
    go_wp2_with fail
    refine (hworks_calls _).mono ?_
    rintro e2 w2 ⟨rfl, b2⟩
    have B2 := hid (below_on B3.out b2)
    clear b2
    go_wp2_with fail
    go_ret
    exact ⟨rfl, B2.out⟩
set_option maxHeartbeats 8000000 in
theorem walk_sets (ao : Option Addr) (cap : Nat) (xs : List AcH) (a b : AcH) (w : World) (HR : Hid (RowsArg 7 (.slice ao xs.length cap) (xs.map acHC) w)) (HX : Hid (∀ x ∈ xs, acI x)) (ha : acI a) (hb : acI b) (la : longH a = false) (lb : longH b = false) :
    Calls Tryz.prog 7 #[.slice ao xs.length cap, acHV a, acHV b] w fun e w' => e = .returned (.bool true) ∧ Below w.heap.size w w' := by
  have A := ((Below.refl w.heap.size w).alloc (Nat.le_refl _) (acHO a)).alloc (by simp) (acHO b)
  have XA := boxF_on (boxF_new w rfl a) ((Below.refl (w.heap.size + 1) (w.alloc (acHO a))).alloc (by simp) (acHO b)) (by omega)
  have XB := boxF_new (w.alloc (acHO a)) (g := w.heap.size + 1) (by simp) b
  have HLa := hid (hlong_calls a ha.1 ha.2.1 ((w.alloc (acHO a)).alloc (acHO b)))
  have HLb := hid (fun wx => hlong_calls b hb.1 hb.2.1 wx)
  have sa := not_longH la
  have sb := not_longH lb
  rw [la] at HLa
  rw [lb] at HLb
  have HA := hid A
  have HXA := hid XA
  have HXB := hid XB
  clear A XA XB la lb ha hb
  go_enter Tryz.func7, Tryz.ntmps7
  go_wp2_with fail
  refine HLa.out.mono ?_
  rintro e1 w1 ⟨rfl, b1⟩
  have B1 := hid (below_on HA.out b1)
  have XB1 := hid (boxF_on HXB.out b1 (by simp))
  have XA1 := hid (boxF_on HXA.out b1 (by simp; omega))
  obtain ⟨_, x0, x1, x2, x3, x4, x5, x6⟩ := XB1.out
  clear b1
  go_wp2_with fail
  refine (HLb.out _).mono ?_
  rintro e3 wb ⟨rfl, b3⟩
  have HB0 := hid (below_on B1.out b3)
  have XBb := hid (boxF_on XB1.out b3 XB1.out.1)
  have XAb := hid (boxF_on XA1.out b3 XA1.out.1)
  clear b3 x0 x1 x2 x3 x4 x5 x6 HLa HLb B1 XB1 XA1 HXA HXB HA
  go_wp2_with fail
  refine (hnew_calls wb 20 0 20 0 30).mono ?_
  rintro e0 w0 ⟨h, rfl, p0, b0⟩
  have P0 := hid p0
  have B0 := hid b0
  clear p0 b0
  go_wp2_with fail
  go_loopw [8] (fun i wr => ∃ k : Nat, k ≤ xs.length ∧ k ≤ 40 ∧ i = .int .i64 k ∧ Hid (HpS (fun b => wb.heap.size ≤ b) (40 + k) h (runH (newH 20 20 30) (xs.take k)) wr) ∧ Hid (Below wb.heap.size wb wr)) (fun i _ => 40 - (intOf i).toNat)
  case atStart => exact ⟨0, by omega, by omega, rfl, P0, B0⟩
  case round =>
    obtain ⟨k, hk, hk4, rfl, hF, hB⟩ := hrel
    by_cases hgo : k < xs.length ∧ k < 40
    · obtain ⟨hkl, hk60⟩ := hgo
      obtain ⟨a, ha⟩ : ∃ a, xs[k]? = some a := ⟨xs[k], List.getElem?_eq_getElem hkl⟩
      have hRk := rowsArg_on HR.out (below_on HB0.out hB.out)
      obtain ⟨bb, off, rfl, hbb, c0, c1, c2, c3, c4, c5, c6⟩ := act_at hRk ha
      have hai := HX.out _ (List.mem_of_getElem? ha)
      have HRk := hid hRk
      have HL := hid (hlong_calls a hai.1 hai.2.1 wr)
      have HT := hid (runH_take (H := newH 20 20 30) ha)
      have HAt := hid ha
      have d1 : decide ((k : Int) < 40) = true := decide_eq_true (by omega)
      clear ha hai hRk
      cases hll : longH a with
      | true =>
        rw [hll] at HL
        go_wp2_with fail
        refine HL.out.mono ?_
        rintro e1 w1 ⟨rfl, b1⟩
        have B1 := hid (below_in hB.out (Nat.le_refl _) b1)
        clear b1
        go_wp2_with fail
        refine (hworks_calls _).mono ?_
        rintro e2 w2 ⟨rfl, b2⟩
        have B2 := hid (below_on HB0.out (below_in B1.out (Nat.le_refl _) b2))
        clear b2
        go_wp2_with fail
        go_ret
        exact ⟨rfl, B2.out⟩
      | false =>
        rw [hll] at HL
        have hsz := not_longH hll
        clear hll
        go_wp2_with fail
        refine HL.out.mono ?_
        rintro e1 w1 ⟨rfl, b1⟩
        have D1 := b1.drew
        have HD1 := hid D1
        have c0 := cell_on c0 hbb b1
        have c1 := cell_on c1 hbb b1
        have c2 := cell_on c2 hbb b1
        have c3 := cell_on c3 hbb b1
        have c4 := cell_on c4 hbb b1
        have c5 := cell_on c5 hbb b1
        have c6 := cell_on c6 hbb b1
        have hbb1 : bb < w1.heap.size := Nat.lt_of_lt_of_le hbb b1.size
        clear b1 D1
        go_wp2_with fail
        refine wp_region_held_drew (S := fun aZ => aZ.cell? ⟨bb, off + k * 7, none⟩ = some (.int .i64 a.1) ∧ aZ.cell? ⟨bb, off + k * 7 + 1, none⟩ = some (.int .i64 a.2.1) ∧ aZ.cell? ⟨bb, off + k * 7 + 2, none⟩ = some (.int .i64 a.2.2.1) ∧ aZ.cell? ⟨bb, off + k * 7 + 3, none⟩ = some (.string a.2.2.2.1) ∧ aZ.cell? ⟨bb, off + k * 7 + 4, none⟩ = some (.int .i64 a.2.2.2.2.1) ∧ aZ.cell? ⟨bb, off + k * 7 + 5, none⟩ = some (.int .i64 a.2.2.2.2.2.1) ∧ aZ.cell? ⟨bb, off + k * 7 + 6, none⟩ = some (.string a.2.2.2.2.2.2)) (by kernel_rfl) ?_ (fun hHeld => ?_)
        · (refine ⟨?_, ?_, ?_, ?_, ?_, ?_, ?_⟩ <;> go_simp)
        refine wpAnyH_take (i := 0) (v := ?v1) rfl (by kernel_rfl) (by kernel_rfl) (by kernel_rfl) (fun _ _ _ h => h) (Or.inl ⟨by rfl, ?hy1⟩) (by assumption) ?_
        case hy1 => (intro w hSw; go_simp <;> (try with_reducible rfl))
        simp only [Act.put, List.setIfInBounds_toArray, List.set_cons_zero, List.set_cons_succ, List.getElem_toArray, List.getElem_cons_succ, List.getElem_cons_zero]
        refine wpAnyH_take (i := 1) (v := ?v2) rfl (by kernel_rfl) (by kernel_rfl) (by kernel_rfl) (fun _ _ _ h => h) (Or.inl ⟨by rfl, ?hy2⟩) (by assumption) ?_
        case hy2 => (intro w hSw; go_simp <;> (try with_reducible rfl))
        simp only [Act.put, List.setIfInBounds_toArray, List.set_cons_zero, List.set_cons_succ, List.getElem_toArray, List.getElem_cons_succ, List.getElem_cons_zero]
        refine wpAnyH_take (i := 3) (v := ?v3) rfl (by kernel_rfl) (by kernel_rfl) (by kernel_rfl) (fun _ _ _ h => h) (Or.inl ⟨by rfl, ?hy3⟩) (by assumption) ?_
        case hy3 => (intro w hSw; go_simp <;> (try with_reducible rfl))
        simp only [Act.put, List.setIfInBounds_toArray, List.set_cons_zero, List.set_cons_succ, List.getElem_toArray, List.getElem_cons_succ, List.getElem_cons_zero]
        refine wpAnyH_take (i := 4) (v := ?v4) rfl (by kernel_rfl) (by kernel_rfl) (by kernel_rfl) (fun _ _ _ h => h) (Or.inl ⟨by rfl, ?hy4⟩) (by assumption) ?_
        case hy4 => (intro w hSw; go_simp <;> (try with_reducible rfl))
        simp only [Act.put, List.setIfInBounds_toArray, List.set_cons_zero, List.set_cons_succ, List.getElem_toArray, List.getElem_cons_succ, List.getElem_cons_zero]
        refine wpAnyH_take (i := 5) (v := ?v5) rfl (by kernel_rfl) (by kernel_rfl) (by kernel_rfl) (fun _ _ _ h => h) (Or.inl ⟨by rfl, ?hy5⟩) (by assumption) ?_
        case hy5 => (intro w hSw; go_simp <;> (try with_reducible rfl))
        simp only [Act.put, List.setIfInBounds_toArray, List.set_cons_zero, List.set_cons_succ, List.getElem_toArray, List.getElem_cons_succ, List.getElem_cons_zero]
        refine wpAnyH_take (i := 6) (v := ?v6) rfl (by kernel_rfl) (by kernel_rfl) (by kernel_rfl) (fun _ _ _ h => h) (Or.inl ⟨by rfl, ?hy6⟩) (by assumption) ?_
        case hy6 => (intro w hSw; go_simp <;> (try with_reducible rfl))
        simp only [Act.put, List.setIfInBounds_toArray, List.set_cons_zero, List.set_cons_succ, List.getElem_toArray, List.getElem_cons_succ, List.getElem_cons_zero]
        refine wpAnyH_ready (rs := [2]) (by kernel_rfl) (by simp) ?_
        refine AllReadyH.cons rfl (fun K hK => ?_) AllReadyH.nil
        go_simp
        refine (rnew0 _).mono ?_
        rintro e2 w2 ⟨r, f, rfl, r0, bx, hr, hf⟩
        have b2 := below_on HD1.out bx
        have hXr : wr.heap.size ≤ r := Nat.le_trans HD1.out.size hr
        have hXf : wr.heap.size ≤ f := Nat.le_trans HD1.out.size hf
        have P2 : HpX wb.heap.size (fun b => wr.heap.size ≤ b ∧ b < w2.heap.size) (40 + k) h (runH (newH 20 20 30) (xs.take k)) w2 := (hF.out.mono (T := fun b => wb.heap.size ≤ b ∧ ¬ (wr.heap.size ≤ b ∧ b < w2.heap.size)) (fun b hb h => ⟨h, by omega⟩)).on b2
        have HDn := hid (done0_calls w2 P2 (by omega) (by omega) (Nat.le_trans hB.out.size b2.size) (fun b h => h.2) r0 ⟨hXr, (r0.cells).2.2.2.2.1⟩ ⟨hXf, (r0.cells).2.2.2.2.2⟩ a (by omega))
        have B2 := hid (below_in hB.out (Nat.le_refl _) b2)
        have d0 := cell_on c0 hbb1 ((Below.refl w1.heap.size w1).drew.trans bx)
        have d1 := cell_on c1 hbb1 ((Below.refl w1.heap.size w1).drew.trans bx)
        have d2 := cell_on c2 hbb1 ((Below.refl w1.heap.size w1).drew.trans bx)
        have d3 := cell_on c3 hbb1 ((Below.refl w1.heap.size w1).drew.trans bx)
        have d4 := cell_on c4 hbb1 ((Below.refl w1.heap.size w1).drew.trans bx)
        have d5 := cell_on c5 hbb1 ((Below.refl w1.heap.size w1).drew.trans bx)
        have d6 := cell_on c6 hbb1 ((Below.refl w1.heap.size w1).drew.trans bx)
        clear r0 bx b2 P2 hXr hXf hr hf
        go_simp
        refine hK.out _ _ ?_ (fun _ => ?_)
        · (refine ⟨?_, ?_, ?_, ?_, ?_, ?_, ?_⟩ <;> (first | assumption | go_simp))
        clear hK K
        refine wpAnyH_ready (rs := [7]) (by kernel_rfl) (by simp) ?_
        refine AllReadyH.cons rfl (fun K hK => ?_) AllReadyH.nil
        go_simp
        refine HDn.out.mono ?_
        rintro e3 w3 ⟨bl, rfl, p3, k3⟩
        have b3 : Below wb.heap.size w2 w3 := k3.below B2.out.size (fun b h => h.1)
        have B3 := hid (B2.out.trans b3)
        have P3 : Hid (HpS (fun b => wb.heap.size ≤ b) (40 + (k + 1)) h (runH (newH 20 20 30) (xs.take (k + 1))) w3) := hid (by rw [HT.out]; exact p3.mono (fun b _ h => h.1))
        obtain ⟨bb', off', eo, hbb3, f0, f1, f2, f3, f4, f5, f6⟩ := act_at (rowsArg_on HR.out (below_on HB0.out B3.out)) HAt.out
        injection eo with eo
        injection eo with eo1 eo2
        subst eo1 eo2
        clear p3 k3 b3 HDn
        go_simp
        refine hK.out _ _ ?_ (fun _ => ?_)
        · (refine ⟨?_, ?_, ?_, ?_, ?_, ?_, ?_⟩ <;> (first | assumption | go_simp))
        clear hK K
        refine wpAnyH_done (by kernel_rfl) ?_ _
        go_wp2_with fail
        exact ⟨⟨k + 1, by omega, by omega, by simp, P3, B3⟩, by simp [intOf]; omega⟩
    · have HW := hid hF.out.wf
      generalize runH (newH 20 20 30) (xs.take k) = H at *
      generalize hKK : 40 + k = KK at *
      have hK9 : KK ≤ 800000 := by omega
      have hK4 : 40 ≤ KK := by omega
      clear hKK
      rename World => wA
      go_upto_region 5 with fail
      go_cut [43] (fun c wx => c = .bool false ∧ wx = wA)
      case first =>
        rcases (show k = xs.length ∨ (k < xs.length ∧ k = 40) by omega) with rfl | ⟨hkl, rfl⟩
        all_goals
          clear hgo
          go_wp2_with fail
          go_meet
          exact ⟨rfl, rfl⟩
      case rest =>
        obtain ⟨rfl, rfl⟩ := hcut
        clear hgo P0 B0 HX HR
        rename World => wA
        have PF : Hid (HpS (fun x => wb.heap.size ≤ x ∧ x < wA.heap.size) KK h H wA) := hid (hF.out.mono (fun x hx e => ⟨e, hx⟩))
        have XA := hid (boxF_on XAb.out hB.out XAb.out.1)
        have XB := hid (boxF_on XBb.out hB.out XBb.out.1)
        have HCnt := count_le HW.out a.2.1
        have ga := XAb.out.1
        have gb := XBb.out.1
        have BW := hid (below_on HB0.out hB.out)
        have hbA := hB.out.size
        obtain ⟨f1, f2, f3, f4⟩ := set_facts H a.2.1 a.2.2.2.1 a.2.2.2.2
        have HSt := hid (fun (wx : World) (q : HpS (fun x => wb.heap.size ≤ x ∧ x < wA.heap.size) KK h H wx) => hset_calls wx q hK4 (by omega) a.2.1 a.2.2.2.1 (by omega) a.2.2.2.2)
        generalize hG : setH H a.2.1 a.2.2.2.1 a.2.2.2.2 = G at *
        generalize hE : setE H a.2.1 a.2.2.2.1 = E at *
        have F1 := hid (f1 b.2.1 b.2.2.2.1)
        have F2 := hid f2
        have F3 := hid f3
        have F4 := hid f4
        clear f1 f2 f3 f4 hG hE
        obtain ⟨_, y0, y1, y2, y3, y4, y5, y6⟩ := XB.out
        have HO := hid (hown_calls wA PF.out b.2.1 b.2.2.2.1 (by omega))
        obtain ⟨vb, hvb⟩ : ∃ vb, ownH H b.2.1 b.2.2.2.1 = vb := ⟨_, rfl⟩
        rw [hvb] at HO F1
        clear hvb
        unfold vlV at HO
        generalize hz : vlO vb = zb at *
        generalize hib : vb.isSome = ib at *
        have HZ := hid hz
        have HI := hid hib
        clear hz hib
        -- MARK1
        go_wp2_with fail
        refine HO.out.mono ?_
        rintro e4 w4 ⟨rfl, b4⟩
        have B4 := hid b4
        have W4 := hid (was_new w4 rfl 26 zb)
        have b5 := below_on b4 ((Below.refl w4.heap.size w4).alloc (Nat.le_refl _) (.cells #[.int .i64 zb.1, .int .i64 zb.2.1, .string zb.2.2] 26))
        have B5 := hid b5
        have g4l := b4.size
        generalize hw5 : w4.alloc (.cells #[.int .i64 zb.1, .int .i64 zb.2.1, .string zb.2.2] 26) = w5 at *
        generalize hg4 : w4.heap.size = g4 at *
        clear y0 y1 y2 y3 y4 y5 y6 b4 b5 HO B4
        obtain ⟨_, x0, x1, x2, x3, x4, x5, x6⟩ := boxF_on XA.out B5.out XA.out.1
        have HO := hid (hown_calls w5 (PF.out.on B5.out) a.2.1 a.2.2.2.1 (by omega))
        obtain ⟨va, hva⟩ : ∃ va, ownH H a.2.1 a.2.2.2.1 = va := ⟨_, rfl⟩
        rw [hva] at HO F3 F4
        clear hva
        unfold vlV at HO
        generalize hza : vlO va = za at *
        generalize hia : va.isSome = ia at *
        have HZA := hid hza
        have HIA := hid hia
        clear hza hia
        go_wp2_with fail
        refine HO.out.mono ?_
        rintro e6 w6 ⟨rfl, b6⟩
        have b7 := below_on b6 ((Below.refl w6.heap.size w6).alloc (Nat.le_refl _) (.cells #[.int .i64 za.1, .int .i64 za.2.1, .string za.2.2] 26))
        have B7 := hid (below_on B5.out b7)
        have W7 := hid (was_on W4.out b7)
        clear b6 b7 x0 x1 x2 x3 x4 x5 x6 HO W4 hw5 hg4
        generalize hw7 : w6.alloc (.cells #[.int .i64 za.1, .int .i64 za.2.1, .string za.2.2] 26) = w7 at *
        obtain ⟨_, x0, x1, x2, x3, x4, x5, x6⟩ := boxF_on XA.out B7.out XA.out.1
        have HC := hid (hcount_calls w7 (PF.out.on B7.out) a.2.1)
        generalize hn : countH H a.2.1 = n at *
        clear hn
        go_wp2_with fail
        refine HC.out.mono ?_
        rintro e8 w8 ⟨rfl, b8⟩
        have B8 := hid (below_on B7.out b8)
        have W8 := hid (was_on W7.out b8)
        clear b8 x0 x1 x2 x3 x4 x5 x6 HC W7 B7 hw7 B5
        go_wp2_with fail
        -- the names
        go_loopw [14, 15] (fun kv i wr => ∃ j : Nat, j ≤ n ∧ i = .int .i64 j ∧ Hid (wr.ownsRow 0 9 1 kv j ((List.range j).map fun i => Value.string (strO (keyH H a.2.1 (i : Nat))))) ∧ Hid (∀ g, kv.ownBlock = some g → w8.heap.size ≤ g) ∧ Hid (Below w8.heap.size w8 wr)) (fun _ i _ => n - (intOf i).toNat)
        case atStart => exact ⟨0, Nat.zero_le _, rfl, hid (World.ownsRow_nil _ _ _ _), hid (fun g hg => by simp [Value.ownBlock] at hg), hid (Below.refl _ _)⟩
        case round =>
          obtain ⟨j, hj, rfl, hR, hO, hBr⟩ := hrel
          obtain ⟨ka, kc, rfl⟩ := row_shape hR.out
          have Br := hid (below_on B8.out hBr.out)
          obtain ⟨_, x0, x1, x2, x3, x4, x5, x6⟩ := boxF_on XA.out Br.out XA.out.1
          by_cases hjn : j < n
          · have HK := hid (hkey_calls wr (PF.out.on Br.out) (by omega) a.2.1 (j : Int))
            have hdj : decide ((j : Int) < (n : Int)) = true := decide_eq_true (by omega)
            generalize hs : strO (keyH H a.2.1 (j : Int)) = s at *
            generalize (keyH H a.2.1 (j : Int)).isSome = bs at *
            go_wp2_with fail
            refine HK.out.mono ?_
            rintro e9 w9 ⟨rfl, b9⟩
            have R9 : Hid (w9.ownsRow 0 9 1 (.slice ka j kc) j ((List.range j).map fun i => Value.string (strO (keyH H a.2.1 (i : Nat))))) := hid (row_keep hR.out (fun g hg => by
              obtain ⟨cur, hc⟩ := row_lt hR.out hg
              exact b9.block g (blk_lt hc)))
            have B9 := hid (below_on hBr.out b9)
            have HS := hid hs
            clear b9 hR hs HK
            go_wp2_with (first | (at_builtin; refine row_app elStS (by decide) (by decide) rfl _ _ rfl j _ [.string s] rfl (by intro u hu; simp at hu; subst hu; rfl) (.slice ka j kc) (by rfl) R9.out w9.heap.size (by rfl) rfl (by omega) ?_; intro g cap w10 h10 g10 t10))
            have B10 : Hid (Below w8.heap.size w8 w10) := hid (B9.out.grown g10 B9.out.size (fun k hk => hO.out k hk))
            exact ⟨⟨j + 1, by omega, by simp, by
              rw [List.range_succ, List.map_append]
              simpa [HS.out] using hid h10, hid (fun g' hg' => by
              simp [Value.ownBlock] at hg'
              subst hg'
              rcases t10 with t | t
              · exact hO.out _ t
              · exact Nat.le_trans B9.out.size t), B10⟩, by simp [intOf]; omega⟩
          · have hje : j = n := by omega
            subst hje
            clear hj hjn
            rename World => wC
            have HSc := hid (HSt.out wC (PF.out.on Br.out))
            have WC := hid (was_on W8.out hBr.out)
            have XBC := hid (boxF_on XB.out Br.out XB.out.1)
            have XAC := hid (boxF_on XA.out Br.out XA.out.1)
            have nSa : ¬ (wb.heap.size ≤ w.heap.size ∧ w.heap.size < wA.heap.size) := by omega
            have nSb : ¬ (wb.heap.size ≤ w.heap.size + 1 ∧ w.heap.size + 1 < wA.heap.size) := by omega
            have nSg : ¬ (wb.heap.size ≤ g4 ∧ g4 < wA.heap.size) := by omega
            have hAC := Br.out.size
            have hA8 := B8.out.size
            clear HSt
            go_wp2_with fail
            refine HSc.out.mono ?_
            rintro e11 w11 ⟨rfl, p11, k11⟩
            have P11 := hid p11
            have W11 := hid (was_keep WC.out k11 nSg)
            have XA11 := hid (boxF_keep XAC.out k11 nSa)
            have XB11 := hid (boxF_keep XBC.out k11 nSb)
            have R11 : Hid (w11.ownsRow 0 9 1 (.slice ka j kc) j ((List.range j).map fun i => Value.string (strO (keyH H a.2.1 (i : Nat))))) := hid (row_keep hR.out (fun g hg => by
              obtain ⟨cur, hc⟩ := row_lt hR.out hg
              have := hO.out g hg
              exact k11.block g (blk_lt hc) (by omega)))
            have B11 : Hid (Below w.heap.size w w11) := hid (below_on HB0.out ((hB.out.trans (Br.out.mono hbA)).trans (k11.below (by omega) (fun k hk => hk.1))))
            clear p11 k11 HSc WC XBC XAC hR hO hBr Br PF XA XB W8 B8 x0 x1 x2 x3 x4 x5 x6 hAC hA8 nSa nSb nSg hF
            obtain ⟨_, y0, y1, y2, y3, y4, y5, y6⟩ := XB11.out
            have HO := hid (hown_calls w11 P11.out b.2.1 b.2.2.2.1 (by omega))
            obtain ⟨vb2, hvb⟩ : ∃ vb, ownH G b.2.1 b.2.2.2.1 = vb := ⟨_, rfl⟩
            rw [hvb] at HO F1
            clear hvb
            unfold vlV at HO
            generalize hz : vlO vb2 = z2 at *
            generalize hib : vb2.isSome = i2 at *
            have F1' := hid (show ¬ (b.2.1 = a.2.1 ∧ b.2.2.2.1 = a.2.2.2.1) → z2 = zb ∧ i2 = ib from fun hne => ⟨by rw [← hz, ← HZ.out, F1.out hne], by rw [← hib, ← HI.out, F1.out hne]⟩)
            clear hz hib HZ HI F1
            go_wp2_with fail
            refine HO.out.mono ?_
            rintro e12 w12 ⟨rfl, b12⟩
            have a12 := (Below.refl w12.heap.size w12).alloc (Nat.le_refl _) (.cells #[.int .i64 z2.1, .int .i64 z2.2.1, .string z2.2.2] 26)
            have b13 := below_on b12 a12
            have WN := hid (was_new w12 rfl 26 z2)
            have W13 := hid (was_on W11.out b13)
            have XA13 := hid (boxF_on XA11.out b13 XA11.out.1)
            have XB13 := hid (boxF_on XB11.out b13 XB11.out.1)
            have P13 := hid (P11.out.on b13)
            have B13 := hid (below_on B11.out b13)
            have R13 : Hid ((w12.alloc (.cells #[.int .i64 z2.1, .int .i64 z2.2.1, .string z2.2.2] 26)).ownsRow 0 9 1 (.slice ka j kc) j ((List.range j).map fun i => Value.string (strO (keyH H a.2.1 (i : Nat))))) := hid (row_keep R11.out (fun g hg => by
              obtain ⟨cur, hc⟩ := row_lt R11.out hg
              exact b13.block g (blk_lt hc)))
            clear y0 y1 y2 y3 y4 y5 y6 a12 b12 b13 HO P11 W11 XA11 XB11 R11 B11
            generalize hw13 : w12.alloc (.cells #[.int .i64 z2.1, .int .i64 z2.2.1, .string z2.2.2] 26) = w13 at *
            generalize hg12 : w12.heap.size = g12 at *
            -- MARK3
            go_upto_region 21 with fail
            obtain ⟨_, x0, x1, x2, x3, x4, x5, x6⟩ := XA13.out
            obtain ⟨_, y0, y1, y2, y3, y4, y5, y6⟩ := XB13.out
            go_cut [21] (fun c wx => c = .bool (decide (b.2.1 = a.2.1 ∧ b.2.2.2.1 = a.2.2.2.1)) ∧ wx = w13)
            case first =>
              by_cases h1 : a.2.1 = b.2.1
              · have e1 : (a.2.1 == b.2.1) = true := by simpa using h1
                by_cases h2 : a.2.2.2.1 = b.2.2.2.1
                · have e2 : a.2.2.2.1.toList = b.2.2.2.1.toList := by rw [h2]
                  go_wp2_with fail
                  go_meet
                  exact ⟨by simp [h1, h2], rfl⟩
                · have e2 : ¬ (a.2.2.2.1.toList = b.2.2.2.1.toList) := fun e => h2 (bytes_inj e)
                  go_wp2_with fail
                  go_meet
                  exact ⟨by simp [h1, h2, Ne.symm h2, e2], rfl⟩
              · have e1 : (a.2.1 == b.2.1) = false := by simpa using h1
                go_wp2_with fail
                go_meet
                exact ⟨by simp [Ne.symm h1], rfl⟩
            case rest =>
              obtain ⟨rfl, rfl⟩ := hcut
              clear y0 y1 y2 y3 y4 y5 y6
              rename World => w13
              have F1 := hid (show decide (b.2.1 = a.2.1 ∧ b.2.2.2.1 = a.2.2.2.1) = false → z2 = zb ∧ i2 = ib from fun h => F1'.out (of_decide_eq_false h))
              generalize decide (b.2.1 = a.2.1 ∧ b.2.2.2.1 = a.2.2.2.1) = sm at *
              clear F1'
              obtain ⟨_, u0, u1, u2, _, _, _⟩ := W13.out
              obtain ⟨_, v0, v1, v2, _, _, _⟩ := WN.out
              go_upto_region 22 with fail
              go_cut [139] (fun c wx => c = .bool false ∧ wx = w13)
              case first =>
                cases sm with
                | true =>
                  go_wp2_with fail
                  go_meet
                  exact ⟨rfl, rfl⟩
                | false =>
                  obtain ⟨rfl, rfl⟩ := F1.out rfl
                  cases i2 <;>
                  · go_wp2_with fail
                    go_meet
                    exact ⟨rfl, rfl⟩
              case rest =>
                obtain ⟨rfl, rfl⟩ := hcut
                rename World => w13
                clear u0 u1 u2 v0 v1 v2 F1
                go_wp2_with fail
                go_loopw [22] (fun i wr => ∃ q : Nat, q ≤ j ∧ i = .int .i64 q ∧ Hid (Below w13.heap.size w13 wr)) (fun i _ => j - (intOf i).toNat)
                case atStart => exact ⟨0, Nat.zero_le _, rfl, hid (Below.refl _ _)⟩
                case round =>
                  obtain ⟨q, hq, rfl, hBq⟩ := hrel
                  obtain ⟨_, x0, x1, x2, x3, x4, x5, x6⟩ := boxF_on XA13.out hBq.out XA13.out.1
                  by_cases hqn : q < j
                  · have HK := hid (hkey_calls wr (P13.out.on hBq.out) (by omega) a.2.1 (q : Int))
                    have hdj : decide ((q : Int) < (j : Int)) = true := decide_eq_true (by omega)
                    rw [F2.out q hqn] at HK
                    obtain ⟨g, cap', eg, _, hgl⟩ := R13.out.form (by omega)
                    injection eg with eg1 _ eg2
                    subst eg1 eg2
                    have hc : w13.cell? ⟨g, q, none⟩ = some (.string (strO (keyH H a.2.1 (q : Int)))) := row_cell R13.out (by simp [hqn])
                    generalize strO (keyH H a.2.1 (q : Int)) = s at *
                    generalize (keyH H a.2.1 (q : Int)).isSome = bs at *
                    have hcr := (hBq.out.cell (p := ⟨g, q, none⟩) hgl).trans hc
                    go_wp2_with fail
                    refine HK.out.mono ?_
                    rintro e9 w9 ⟨rfl, b9⟩
                    have B9 := hid (below_on hBq.out b9)
                    have hc9 := cell_on hcr (Nat.lt_of_lt_of_le hgl hBq.out.size) b9
                    clear b9 hcr hc HK
                    go_wp2_with fail
                    exact ⟨⟨q + 1, by omega, by simp, B9⟩, by simp [intOf]; omega⟩
                  · have hqe : q = j := by omega
                    subst hqe
                    clear hq hqn
                    rename World => wQ
                    have HO := hid (hown_calls wQ (P13.out.on hBq.out) a.2.1 a.2.2.2.1 (by omega))
                    by_cases hE : E = 0
                    · subst hE
                      obtain ⟨g1, g2⟩ := F4.out rfl
                      rw [g1] at HO
                      unfold vlV vlO at HO
                      dsimp only [Option.getD_some, Option.isSome_some] at HO
                      go_wp2_with fail
                      refine HO.out.mono ?_
                      rintro e14 w14 ⟨rfl, b14⟩
                      have b15 := below_on hBq.out (below_on b14 ((Below.refl w14.heap.size w14).alloc (Nat.le_refl _) (.cells #[.int .i64 a.2.2.2.2.1, .int .i64 a.2.2.2.2.2.1, .string a.2.2.2.2.2.2] 26)))
                      obtain ⟨_, y0, y1, y2, y3, y4, y5, y6⟩ := boxF_on XA13.out b15 XA13.out.1
                      have HC := hid (hcount_calls _ (P13.out.on b15) a.2.1)
                      rw [g2] at HC
                      have B15 := hid (below_on B13.out b15)
                      clear b14 b15 HO g1 g2 x0 x1 x2 x3 x4 x5 x6
                      cases ia with
                      | true =>
                        rw [if_pos rfl] at HC
                        go_wp2_with fail
                        refine HC.out.mono ?_
                        rintro e16 w16 ⟨rfl, b16⟩
                        have B16 := hid (below_on B15.out b16)
                        clear b16
                        go_wp2_with fail
                        refine (hworks_calls _).mono ?_
                        rintro e17 w17 ⟨rfl, b17⟩
                        have B17 := hid (below_on B16.out b17)
                        clear b17
                        go_wp2_with fail
                        go_ret
                        exact ⟨rfl, B17.out⟩
                      | false =>
                        rw [if_neg (by decide)] at HC
                        push_cast at HC
                        go_wp2_with fail
                        refine HC.out.mono ?_
                        rintro e16 w16 ⟨rfl, b16⟩
                        have B16 := hid (below_on B15.out b16)
                        clear b16
                        go_wp2_with fail
                        refine (hworks_calls _).mono ?_
                        rintro e17 w17 ⟨rfl, b17⟩
                        have B17 := hid (below_on B16.out b17)
                        clear b17
                        go_wp2_with fail
                        go_ret
                        exact ⟨rfl, B17.out⟩
                    · obtain ⟨g1, g2⟩ := F3.out hE
                      have hE2 : (E != 0) = true := by simpa using hE
                      rw [g1, HZA.out, HIA.out] at HO
                      unfold vlV at HO
                      go_wp2_with fail
                      refine HO.out.mono ?_
                      rintro e14 w14 ⟨rfl, b14⟩
                      have b15 := below_on hBq.out (below_on b14 ((Below.refl w14.heap.size w14).alloc (Nat.le_refl _) (.cells #[.int .i64 za.1, .int .i64 za.2.1, .string za.2.2] 26)))
                      obtain ⟨_, y0, y1, y2, y3, y4, y5, y6⟩ := boxF_on XA13.out b15 XA13.out.1
                      have HC := hid (hcount_calls _ (P13.out.on b15) a.2.1)
                      rw [g2] at HC
                      have B15 := hid (below_on B13.out b15)
                      clear b14 b15 HO g1 g2 x0 x1 x2 x3 x4 x5 x6
                      cases ia <;>
                      · go_wp2_with fail
                        refine HC.out.mono ?_
                        rintro e16 w16 ⟨rfl, b16⟩
                        have B16 := hid (below_on B15.out b16)
                        clear b16
                        go_wp2_with fail
                        refine (hworks_calls _).mono ?_
                        rintro e17 w17 ⟨rfl, b17⟩
                        have B17 := hid (below_on B16.out b17)
                        clear b17
                        go_wp2_with fail
                        go_ret
                        exact ⟨rfl, B17.out⟩

theorem walk (a0 : Value) (l0 : List (List Value)) (x1_0 : Int) (x1_1 : Int) (x1_2 : Int) (x1_3 : ByteArray) (x1_4 : Int) (x1_5 : Int) (x1_6 : ByteArray) (x2_0 : Int) (x2_1 : Int) (x2_2 : Int) (x2_3 : ByteArray) (x2_4 : Int) (x2_5 : Int) (x2_6 : ByteArray) (w : World) (w0 : Hid (RowsArg 7 a0 l0 w)) (n0 : Hid (∀ r ∈ l0, r.length = 7 ∧ FitsF [.i, .i, .i, .s, .i, .i, .s] r)) (w1_0 : (-9223372036854775808 ≤ x1_0 ∧ x1_0 ≤ 9223372036854775807)) (w1_1 : (-9223372036854775808 ≤ x1_1 ∧ x1_1 ≤ 9223372036854775807)) (w1_2 : (-9223372036854775808 ≤ x1_2 ∧ x1_2 ≤ 9223372036854775807)) (w1_3 : (x1_3.size ≤ maxLen)) (w1_4 : (-9223372036854775808 ≤ x1_4 ∧ x1_4 ≤ 9223372036854775807)) (w1_5 : (-9223372036854775808 ≤ x1_5 ∧ x1_5 ≤ 9223372036854775807)) (w1_6 : (x1_6.size ≤ maxLen)) (w2_0 : (-9223372036854775808 ≤ x2_0 ∧ x2_0 ≤ 9223372036854775807)) (w2_1 : (-9223372036854775808 ≤ x2_1 ∧ x2_1 ≤ 9223372036854775807)) (w2_2 : (-9223372036854775808 ≤ x2_2 ∧ x2_2 ≤ 9223372036854775807)) (w2_3 : (x2_3.size ≤ maxLen)) (w2_4 : (-9223372036854775808 ≤ x2_4 ∧ x2_4 ≤ 9223372036854775807)) (w2_5 : (-9223372036854775808 ≤ x2_5 ∧ x2_5 ≤ 9223372036854775807)) (w2_6 : (x2_6.size ≤ maxLen)) :
    Calls Tryz.prog 7 #[a0, .agg #[.int .i64 x1_0, .int .i64 x1_1, .int .i64 x1_2, .string x1_3, .int .i64 x1_4, .int .i64 x1_5, .string x1_6], .agg #[.int .i64 x2_0, .int .i64 x2_1, .int .i64 x2_2, .string x2_3, .int .i64 x2_4, .int .i64 x2_5, .string x2_6]] w fun e w' => e = .returned (.bool true) ∧ Below w.heap.size w w' := by
  obtain ⟨xs, rfl, hok⟩ := acts_of n0.out
  obtain ⟨ao, cap, rfl⟩ := acts_shape w0.out
  have ha : acI (x1_0, x1_1, x1_2, x1_3, x1_4, x1_5, x1_6) := ⟨by assumption, by assumption, by assumption⟩
  have hb : acI (x2_0, x2_1, x2_2, x2_3, x2_4, x2_5, x2_6) := ⟨by assumption, by assumption, by assumption⟩
  cases la : longH (x1_0, x1_1, x1_2, x1_3, x1_4, x1_5, x1_6) with
  | true => exact walk_long ao cap xs.length (x1_0, x1_1, x1_2, x1_3, x1_4, x1_5, x1_6) (x2_0, x2_1, x2_2, x2_3, x2_4, x2_5, x2_6) w ha hb (.inl la)
  | false =>
    cases lb : longH (x2_0, x2_1, x2_2, x2_3, x2_4, x2_5, x2_6) with
    | true => exact walk_long ao cap xs.length (x1_0, x1_1, x1_2, x1_3, x1_4, x1_5, x1_6) (x2_0, x2_1, x2_2, x2_3, x2_4, x2_5, x2_6) w ha hb (.inr ⟨la, lb⟩)
    | false => exact walk_sets ao cap xs (x1_0, x1_1, x1_2, x1_3, x1_4, x1_5, x1_6) (x2_0, x2_1, x2_2, x2_3, x2_4, x2_5, x2_6) w w0 (hid hok) ha hb la lb

set_option maxRecDepth 100000 in
theorem lifted (os : Os) (started : os.Started) (H : Type) (enc : TypeId × Value → H) :
    ReturnsInHanded {} Tryz.checked os 7 .any (Rows.heapSetsSpec.pre6 enc Tryz.prog Tryz.f7 Rows.heapSetsRow.domain false) (Rows.heapSetsSpec.post enc Tryz.prog Tryz.f7 false true false false) := by
  refine returnsInHanded_of_change (C := Tryz.checked) own started (by kernel_rfl) Tryz.func7
    (ChangeSpec.witness6 (enc := enc) (C := Tryz.checked) false ⟨#[], #[.slice none 0 0, .agg #[.int .i64 0, .int .i64 0, .int .i64 0, .string ByteArray.empty, .int .i64 0, .int .i64 0, .string ByteArray.empty], .agg #[.int .i64 0, .int .i64 0, .int .i64 0, .string ByteArray.empty, .int .i64 0, .int .i64 0, .string ByteArray.empty]], []⟩ 8 (by kernel_rfl) (by kernel_rfl) (by kernel_rfl) (by kernel_rfl)) ?_
  intro W base args ds gs before hval0 hW hcnd _
  have hval : ∀ (j : Nat) t v, Tryz.f7.params[j]? = some t → args[j]? = some v → Value.okWide Tryz.prog W .any base t v := hval0
  have hW' := hW
  obtain ⟨p, q, hA0, hV, rfl, hfz, hnd⟩ := hW
  have hA : DataW.TrodAll enc Tryz.prog W 0 (fun _ => true) true Tryz.f7.params.toList args.toList ds p := hA0
  rw [Tryz.params7] at hA hval
  obtain ⟨v0, vs0, d0, ds0, p0, q0, hargs, rfl, rfl, h0, r0⟩ := trodAll_cons hA
  obtain ⟨v1, vs1, d1, ds1, p1, q1, rfl, rfl, rfl, h1, r1⟩ := trodAll_cons r0
  obtain ⟨v2, vs2, d2, ds2, p2, q2, rfl, rfl, rfl, h2, r2⟩ := trodAll_cons r1
  obtain ⟨rfl, rfl, rfl⟩ := trodAll_nil r2
  obtain rfl : args = #[v0, v1, v2] := by cases args; simp_all
  obtain ⟨rfl, rfl⟩ := trodVars_none hV
  have hk0 := h0
  have hlt0 : ∀ x ∈ p0, x.block < W.heap.size := fun x hx => by simpa using hW'.lt x (by simp [hx])
  obtain ⟨l0, w0, n0⟩ := open_flats Tryz.underlying24 (show flat Tryz.prog 5 28 = some [.i, .i, .i, .s, .i, .i, .s] by kernel_rfl) (show Tryz.prog.cellsOf 28 = 7 by kernel_rfl) (by decide) (hval 0 24 v0 rfl rfl) h0
  have hk1 := h1
  have hlt1 : ∀ x ∈ p1, x.block < W.heap.size := fun x hx => by simpa using hW'.lt x (by simp [hx])
  obtain ⟨x1_0, x1_1, x1_2, x1_3, x1_4, x1_5, x1_6, rfl, w1_0, w1_1, w1_2, w1_3, w1_4, w1_5, w1_6⟩ := open_a1 (hval 1 28 v1 rfl rfl) h1
  have hk2 := h2
  have hlt2 : ∀ x ∈ p2, x.block < W.heap.size := fun x hx => by simpa using hW'.lt x (by simp [hx])
  obtain ⟨x2_0, x2_1, x2_2, x2_3, x2_4, x2_5, x2_6, rfl, w2_0, w2_1, w2_2, w2_3, w2_4, w2_5, w2_6⟩ := open_a2 (hval 2 28 v2 rfl rfl) h2
  clear hA0 hval0
  refine (walk v0 l0 x1_0 x1_1 x1_2 x1_3 x1_4 x1_5 x1_6 x2_0 x2_1 x2_2 x2_3 x2_4 x2_5 x2_6 W w0 n0 w1_0 w1_1 w1_2 w1_3 w1_4 w1_5 w1_6 w2_0 w2_1 w2_2 w2_3 w2_4 w2_5 w2_6).mono fun e W' ⟨he, hg⟩ => ?_
  subst he
  exact ⟨_, rfl, _, _, _, [], _, [], hW', trodAll_mk1 (shut_bool Tryz.underlying4 _), (trodAll_cons_mk (Below.trod laidOutF (by kernel_rfl) (of_decide_eq_true (by kernel_rfl)) hk0 hg hlt0) (trodAll_cons_mk (Below.trod laidOutF (by kernel_rfl) (of_decide_eq_true (by kernel_rfl)) hk1 hg hlt1) (trodAll_cons_mk (Below.trod laidOutF (by kernel_rfl) (of_decide_eq_true (by kernel_rfl)) hk2 hg hlt2) trodAll_mk0))), rfl, hg.frame _, fun h => by cases h⟩

theorem over : Rows.heapSetsRow.holds Tryz.pinned (OpenSpec.ofChange Rows.heapSetsSpec) :=
  OpenClaim.holds_of_wide 7 Tryz.f7 rfl rfl rfl rfl rfl rfl rfl ⟨rfl, rfl, rfl, rfl, rfl⟩ rfl rfl rfl rfl rfl (by kernel_rfl) Tryz.func7 (by kernel_rfl)
    (of_decide_eq_true (by kernel_rfl)) (by unfold Func.isWrapper; first | (rw [if_pos (by decide +kernel)]; kernel_rfl) | (rw [if_neg (by decide +kernel)]; exact ⟨rfl, rfl⟩))
    (fun os started H enc _ => lifted os started H enc)

end Go.Proofs.YtemidicgipebjaaGreat.heapSets
namespace Go.Proofs.YtemidicgipebjaaGreat

/-- the statement, as it was given -/
theorem heapSets_holds : Rows.HeapSetsSaid :=
  heapSets.over
#print axioms heapSets_holds
end Go.Proofs.YtemidicgipebjaaGreat
