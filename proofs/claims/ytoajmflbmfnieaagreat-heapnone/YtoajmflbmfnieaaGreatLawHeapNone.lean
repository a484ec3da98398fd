/- A heap that is not there, and one that no call made, has no objects, and makes none, whatever object, slot, shape, name and value is asked for (texts of more than 300 bytes ask for the law's own test alone): HeapNone is true for every input; no condition. -/
import Derived.Test.YtoajmflbmfnieaaGreatHpLaw
import Derived.Test.YtoajmflbmfnieaaGreatHpNone
import Derived.Test.YtoajmflbmfnieaaGreatRows
import Derived.WalkKit
import Derived.ProofKit
import Derived.OpenShut
import Derived.ShutString
import Derived.ChangeOld
import Derived.Below
namespace Go.Proofs.YtoajmflbmfnieaaGreat.heapNone
open Go.ChangeShapes Go.WideShapes Go.ChangeAt Go.RowKit
open Go.ChangeMaps (open_string shut_string)
set_option linter.unusedVariables false
set_option maxRecDepth 100000

theorem own : ownKnob Tryz.prog.godebug = none := by kernel_rfl

theorem open_a0 {H : Type} {enc : TypeId × Value → H} {W : World} {b0 : Nat} {r : Reach} {v : Value} {d : DataW H} {p : List MemPlace} (hv : Value.okWide Tryz.prog W r b0 28 v) (h : DataW.Trod enc Tryz.prog W 0 (fun _ => true) true 28 v d p) :
    ∃ (x0_0 : Int) (x0_1 : Int) (x0_2 : Int) (x0_3 : ByteArray) (x0_4 : Int) (x0_5 : Int) (x0_6 : ByteArray), v = .agg #[.int .i64 x0_0, .int .i64 x0_1, .int .i64 x0_2, .string x0_3, .int .i64 x0_4, .int .i64 x0_5, .string x0_6] ∧ (-9223372036854775808 ≤ x0_0 ∧ x0_0 ≤ 9223372036854775807) ∧ (-9223372036854775808 ≤ x0_1 ∧ x0_1 ≤ 9223372036854775807) ∧ (-9223372036854775808 ≤ x0_2 ∧ x0_2 ≤ 9223372036854775807) ∧ (x0_3.size ≤ maxLen) ∧ (-9223372036854775808 ≤ x0_4 ∧ x0_4 ≤ 9223372036854775807) ∧ (-9223372036854775808 ≤ x0_5 ∧ x0_5 ≤ 9223372036854775807) ∧ (x0_6.size ≤ maxLen) := by
  obtain ⟨cs, rfl, hl, hf0⟩ := open_flat Tryz.underlying28 (show flat Tryz.prog 5 28 = some [.i, .i, .i, .s, .i, .i, .s] by kernel_rfl) hv h
  rw [show Tryz.prog.cellsOf 28 = 7 by kernel_rfl] at hl
  obtain ⟨_, c0, rfl, ⟨y0, rfl, q0⟩, hf1⟩ := fits_cons hf0
  obtain ⟨_, c1, rfl, ⟨y1, rfl, q1⟩, hf2⟩ := fits_cons hf1
  obtain ⟨_, c2, rfl, ⟨y2, rfl, q2⟩, hf3⟩ := fits_cons hf2
  obtain ⟨_, c3, rfl, ⟨y3, rfl, q3⟩, hf4⟩ := fits_cons hf3
  obtain ⟨_, c4, rfl, ⟨y4, rfl, q4⟩, hf5⟩ := fits_cons hf4
  obtain ⟨_, c5, rfl, ⟨y5, rfl, q5⟩, hf6⟩ := fits_cons hf5
  obtain ⟨_, c6, rfl, ⟨y6, rfl, q6⟩, hf7⟩ := fits_cons hf6
  have e : c6 = [] := List.length_eq_zero_iff.1 (by simpa using hl)
  subst e
  exact ⟨y0, y1, y2, y3, y4, y5, y6, rfl, q0, q1, q2, q3, q4, q5, q6⟩
set_option linter.unusedSimpArgs false
set_option maxRecDepth 100000
theorem walk_long (a : AcH) (h1 : a.2.2.2.1.size ≤ maxLen) (h2 : a.2.2.2.2.2.2.size ≤ maxLen) (hl : longH a = true) (w : World) :
    Calls Tryz.prog 6 #[acHV a] w fun e w' => e = .returned (.bool true) ∧ Below w.heap.size w w' := by
  have HL := hid (hlong_calls a h1 h2 (w.alloc (acHO a)))
  rw [hl] at HL
  go_enter Tryz.func6, Tryz.ntmps6
  go_wp2_with fail
  refine HL.out.mono ?_
  rintro e1 w1 ⟨rfl, b1⟩
  have B1 := hid (below_on ((Below.refl w.heap.size w).alloc (Nat.le_refl _) (acHO a)) b1)
  clear b1 HL
  go_wp2_with fail
  refine (hworks_calls _).mono ?_
  rintro e2 w2 ⟨rfl, b2⟩
  have B2 := hid (below_on B1.out b2)
  clear b2 B1
  go_wp2_with fail
  go_ret
  exact ⟨rfl, B2.out⟩
/-- the act's cells -/
def BoxA (g : Nat) (a : AcH) (w : World) : Prop := g < w.heap.size ∧ w.cell? ⟨g, 1, none⟩ = some (.int .i64 a.2.1) ∧ w.cell? ⟨g, 2, none⟩ = some (.int .i64 a.2.2.1) ∧ w.cell? ⟨g, 3, none⟩ = some (.string a.2.2.2.1) ∧ w.cell? ⟨g, 4, none⟩ = some (.int .i64 a.2.2.2.2.1) ∧ w.cell? ⟨g, 5, none⟩ = some (.int .i64 a.2.2.2.2.2.1) ∧ w.cell? ⟨g, 6, none⟩ = some (.string a.2.2.2.2.2.2)
theorem boxA_on {g : Nat} {a : AcH} {x y : World} (h : BoxA g a x) (k : Below x.heap.size x y) : BoxA g a y := by
  obtain ⟨h0, h1, h2, h3, h4, h5, h6⟩ := h
  exact ⟨Nat.lt_of_lt_of_le h0 k.size, cell_on h1 h0 k, cell_on h2 h0 k, cell_on h3 h0 k, cell_on h4 h0 k, cell_on h5 h0 k, cell_on h6 h0 k⟩
set_option maxHeartbeats 4000000 in
theorem walk_short (a : AcH) (h1 : a.2.2.2.1.size ≤ maxLen) (h2 : a.2.2.2.2.2.2.size ≤ maxLen) (hl : longH a = false) (w : World) :
    Calls Tryz.prog 6 #[acHV a] w fun e w' => e = .returned (.bool true) ∧ Below w.heap.size w w' := by
  have HL := hid (hlong_calls a h1 h2 (w.alloc (acHO a)))
  rw [hl] at HL
  go_enter Tryz.func6, Tryz.ntmps6
  go_wp2_with fail
  refine HL.out.mono ?_
  rintro e1 w1 ⟨rfl, b1⟩
  have A0 := (Below.refl w.heap.size w).alloc (Nat.le_refl _) (acHO a)
  have K1 : Hid (BoxA w.heap.size a w1) := hid (boxA_on ⟨by simp, by simp, by simp, by simp, by simp, by simp, by simp⟩ b1)
  have B1 := hid (below_on A0 b1)
  clear b1 HL A0
  go_wp2_with fail
  have D1 := (Below.refl w1.heap.size w1).alloc (Nat.le_refl _) (.cells #[.pointer none] 51)
  have D2 := D1.alloc (by simp) (.cells #[.pointer none, .pointer (some ⟨w1.heap.size, 0, none⟩)] 30)
  have d1 := blk_on (blk_new w1 51 #[.pointer none]) ((Below.refl (w1.alloc (.cells #[.pointer none] 51)).heap.size (w1.alloc (.cells #[.pointer none] 51))).alloc (Nat.le_refl _) (.cells #[.pointer none, .pointer (some ⟨w1.heap.size, 0, none⟩)] 30))
  have d2 := blk_new (w1.alloc (.cells #[.pointer none] 51)) 30 #[.pointer none, .pointer (some ⟨w1.heap.size, 0, none⟩)]
  rw [World.size_alloc] at d2
  have k2 := boxA_on K1.out D2
  have B2 := below_on B1.out D2
  generalize hW : (w1.alloc (.cells #[.pointer none] 51)).alloc (.cells #[.pointer none, .pointer (some ⟨w1.heap.size, 0, none⟩)] 30) = w2 at *
  have X1 := hid d1
  have X2 := hid d2
  have X3 := hid k2
  have X4 := hid B2
  clear D1 D2 d1 d2 k2 B2 K1 B1 hW
  go_loopw [5] (fun j wr => ∃ k : Nat, k ≤ 2 ∧ j = .int .i64 k ∧ Hid (Below w2.heap.size w2 wr)) (fun j _ => 2 - (intOf j).toNat)
  case atStart => exact ⟨0, by omega, rfl, hid (Below.refl _ _)⟩
  case round =>
    obtain ⟨k, hk, rfl, hB⟩ := hrel
    have y1 := blk_on X1.out hB.out
    have y2 := blk_on X2.out hB.out
    have Y3 := hid (boxA_on X3.out hB.out)
    have Y4 := hid (below_on X4.out hB.out)
    rcases (show k = 2 ∨ k = 0 ∨ k = 1 by omega) with rfl | hk01
    · clear hB y1 y2
      go_wp2_with fail
      refine (hworks_calls _).mono ?_
      rintro e2 w3 ⟨rfl, b2⟩
      have B3 := hid (below_on Y4.out b2)
      clear b2 Y4
      go_wp2_with fail
      go_ret
      exact ⟨rfl, B3.out⟩
    · obtain ⟨v, hv, hno⟩ : ∃ v, wr.cell? ⟨w1.heap.size + 1, k, none⟩ = some v ∧ NoHp v wr := by
        rcases hk01 with rfl | rfl
        · exact ⟨_, by rw [blk_cell y2]; rfl, .inl rfl⟩
        · exact ⟨_, by rw [blk_cell y2]; rfl, .inr ⟨_, rfl, blk_lt y1, by rw [blk_cell y1]; rfl⟩⟩
      obtain ⟨pt, rfl⟩ := noHp_shape hno
      have hk2 : k < 2 := by omega
      have N0 := hid hno
      clear hno y1 y2 hk01
      obtain ⟨l0, n1, n2, n3, n4, n5, n6⟩ := Y3.out
      go_wp2_with fail
      refine (make_no _ N0.out).mono ?_
      rintro e2 w3 ⟨rfl, rfl⟩
      go_wp2_with fail
      refine (hown_no _ N0.out a.2.1 a.2.2.2.1).mono ?_
      rintro e3 w4 ⟨rfl, b4⟩
      have A4 := b4.alloc b4.size (.cells #[.int .i64 0, .int .i64 0, .string ⟨#[]⟩] 26)
      have N4 := hid (noHp_on N0.out A4)
      have Z4 := hid (boxA_on Y3.out A4)
      have B4 := hid (below_on hB.out A4)
      clear b4 A4 N0 Y3 n1 n2 n3 n4 n5 n6 hv
      obtain ⟨l0, n1, n2, n3, n4, n5, n6⟩ := Z4.out
      go_wp2_with fail
      refine (hkey_no _ N4.out a.2.1 a.2.2.1).mono ?_
      rintro e5 w5 ⟨rfl, rfl⟩
      go_wp2_with fail
      refine (hslot_no _ N4.out a.2.1 a.2.2.1).mono ?_
      rintro e6 w6 ⟨rfl, b6⟩
      have A6 := b6.alloc b6.size (.cells #[.int .i64 0, .int .i64 0, .string ⟨#[]⟩] 26)
      have N6 := hid (noHp_on N4.out A6)
      have Z6 := hid (boxA_on Z4.out A6)
      have B6 := hid (below_on B4.out A6)
      clear b6 A6 N4 Z4 n1 n2 n3 n4 n5 n6 l0 B4
      obtain ⟨l0, n1, n2, n3, n4, n5, n6⟩ := Z6.out
      go_wp2_with fail
      refine (hget_no _ N6.out a.2.1 a.2.2.2.1).mono ?_
      rintro e7 w7 ⟨rfl, b7⟩
      have N7 := hid (noHp_on N6.out b7)
      have Z7 := hid (boxA_on Z6.out b7)
      have B7 := hid (below_on B6.out b7)
      clear b7 N6 Z6 n1 n2 n3 n4 n5 n6 l0 B6
      obtain ⟨l0, n1, n2, n3, n4, n5, n6⟩ := Z7.out
      go_wp2_with fail
      refine (hset_no _ N7.out a.2.1 a.2.2.2.1 a.2.2.2.2).mono ?_
      rintro e8 w8 ⟨rfl, b8⟩
      have N8 := hid (noHp_on N7.out b8)
      have Z8 := hid (boxA_on Z7.out b8)
      have B8 := hid (below_on B7.out b8)
      clear b8 N7 Z7 n1 n2 n3 n4 n5 n6 l0 B7
      obtain ⟨l0, n1, n2, n3, n4, n5, n6⟩ := Z8.out
      go_wp2_with fail
      refine (hdel_no _ N8.out a.2.1 a.2.2.2.1).mono ?_
      rintro e9 w9 ⟨rfl, b9⟩
      have N9 := hid (noHp_on N8.out b9)
      have Z9 := hid (boxA_on Z8.out b9)
      have B9 := hid (below_on B8.out b9)
      clear b9 N8 Z8 n1 n2 n3 n4 n5 n6 l0 B8
      obtain ⟨l0, n1, n2, n3, n4, n5, n6⟩ := Z9.out
      go_wp2_with fail
      refine (hproto_no _ N9.out a.2.1).mono ?_
      rintro e10 w10 ⟨rfl, rfl⟩
      go_wp2_with fail
      refine (hsetproto_no _ N9.out a.2.1 a.2.2.1).mono ?_
      rintro e11 w11 ⟨rfl, rfl⟩
      go_wp2_with fail
      have ND := hid (noHp_on N9.out (Below.refl _ _).drew)
      refine wp_region_held_drew (S := fun aZ => aZ.cell? ⟨w.heap.size, 1, none⟩ = some (.int .i64 a.2.1) ∧ aZ.cell? ⟨w.heap.size, 2, none⟩ = some (.int .i64 a.2.2.1) ∧ aZ.cell? ⟨w.heap.size, 3, none⟩ = some (.string a.2.2.2.1) ∧ aZ.cell? ⟨w.heap.size, 4, none⟩ = some (.int .i64 a.2.2.2.2.1) ∧ aZ.cell? ⟨w.heap.size, 5, none⟩ = some (.int .i64 a.2.2.2.2.2.1) ∧ aZ.cell? ⟨w.heap.size, 6, none⟩ = some (.string a.2.2.2.2.2.2)) (by kernel_rfl) ?_ (fun hHeld => ?_)
      · (refine ⟨?_, ?_, ?_, ?_, ?_, ?_⟩ <;> go_simp)
      refine wpAnyH_take (i := 0) (v := ?v1) rfl (by kernel_rfl) (by kernel_rfl) (by kernel_rfl) (fun _ _ _ h => h) (Or.inl ⟨by rfl, ?hy1⟩) (by assumption) ?_
      case hy1 => (intro w hSw; go_simp <;> (try with_reducible rfl))
      simp only [Act.put, List.setIfInBounds_toArray, List.set_cons_zero, List.set_cons_succ, List.getElem_toArray, List.getElem_cons_succ, List.getElem_cons_zero]
      refine wpAnyH_take (i := 1) (v := ?v2) rfl (by kernel_rfl) (by kernel_rfl) (by kernel_rfl) (fun _ _ _ h => h) (Or.inl ⟨by rfl, ?hy2⟩) (by assumption) ?_
      case hy2 => (intro w hSw; go_simp <;> (try with_reducible rfl))
      simp only [Act.put, List.setIfInBounds_toArray, List.set_cons_zero, List.set_cons_succ, List.getElem_toArray, List.getElem_cons_succ, List.getElem_cons_zero]
      refine wpAnyH_take (i := 2) (v := ?v3) rfl (by kernel_rfl) (by kernel_rfl) (by kernel_rfl) (fun _ _ _ h => h) (Or.inl ⟨by rfl, ?hy3⟩) (by assumption) ?_
      case hy3 => (intro w hSw; go_simp <;> (try with_reducible rfl))
      simp only [Act.put, List.setIfInBounds_toArray, List.set_cons_zero, List.set_cons_succ, List.getElem_toArray, List.getElem_cons_succ, List.getElem_cons_zero]
      refine wpAnyH_take (i := 4) (v := ?v4) rfl (by kernel_rfl) (by kernel_rfl) (by kernel_rfl) (fun _ _ _ h => h) (Or.inl ⟨by rfl, ?hy4⟩) (by assumption) ?_
      case hy4 => (intro w hSw; go_simp <;> (try with_reducible rfl))
      simp only [Act.put, List.setIfInBounds_toArray, List.set_cons_zero, List.set_cons_succ, List.getElem_toArray, List.getElem_cons_succ, List.getElem_cons_zero]
      refine wpAnyH_take (i := 7) (v := ?v5) rfl (by kernel_rfl) (by kernel_rfl) (by kernel_rfl) (fun _ _ _ h => h) (Or.inl ⟨by rfl, ?hy5⟩) (by assumption) ?_
      case hy5 => (intro w hSw; go_simp <;> (try with_reducible rfl))
      simp only [Act.put, List.setIfInBounds_toArray, List.set_cons_zero, List.set_cons_succ, List.getElem_toArray, List.getElem_cons_succ, List.getElem_cons_zero]
      refine wpAnyH_take (i := 8) (v := ?v6) rfl (by kernel_rfl) (by kernel_rfl) (by kernel_rfl) (fun _ _ _ h => h) (Or.inl ⟨by rfl, ?hy6⟩) (by assumption) ?_
      case hy6 => (intro w hSw; go_simp <;> (try with_reducible rfl))
      simp only [Act.put, List.setIfInBounds_toArray, List.set_cons_zero, List.set_cons_succ, List.getElem_toArray, List.getElem_cons_succ, List.getElem_cons_zero]
      refine wpAnyH_take (i := 9) (v := ?v7) rfl (by kernel_rfl) (by kernel_rfl) (by kernel_rfl) (fun _ _ _ h => h) (Or.inl ⟨by rfl, ?hy7⟩) (by assumption) ?_
      case hy7 => (intro w hSw; go_simp <;> (try with_reducible rfl))
      simp only [Act.put, List.setIfInBounds_toArray, List.set_cons_zero, List.set_cons_succ, List.getElem_toArray, List.getElem_cons_succ, List.getElem_cons_zero]
      refine wpAnyH_take (i := 12) (v := ?v8) rfl (by kernel_rfl) (by kernel_rfl) (by kernel_rfl) (fun _ _ _ h => h) (Or.inl ⟨by rfl, ?hy8⟩) (by assumption) ?_
      case hy8 => (intro w hSw; go_simp <;> (try with_reducible rfl))
      simp only [Act.put, List.setIfInBounds_toArray, List.set_cons_zero, List.set_cons_succ, List.getElem_toArray, List.getElem_cons_succ, List.getElem_cons_zero]
      refine wpAnyH_take (i := 13) (v := ?v9) rfl (by kernel_rfl) (by kernel_rfl) (by kernel_rfl) (fun _ _ _ h => h) (Or.inl ⟨by rfl, ?hy9⟩) (by assumption) ?_
      case hy9 => (intro w hSw; go_simp <;> (try with_reducible rfl))
      simp only [Act.put, List.setIfInBounds_toArray, List.set_cons_zero, List.set_cons_succ, List.getElem_toArray, List.getElem_cons_succ, List.getElem_cons_zero]
      refine wpAnyH_take (i := 14) (v := ?v10) rfl (by kernel_rfl) (by kernel_rfl) (by kernel_rfl) (fun _ _ _ h => h) (Or.inl ⟨by rfl, ?hy10⟩) (by assumption) ?_
      case hy10 => (intro w hSw; go_simp <;> (try with_reducible rfl))
      simp only [Act.put, List.setIfInBounds_toArray, List.set_cons_zero, List.set_cons_succ, List.getElem_toArray, List.getElem_cons_succ, List.getElem_cons_zero]
      refine wpAnyH_take (i := 17) (v := ?v11) rfl (by kernel_rfl) (by kernel_rfl) (by kernel_rfl) (fun _ _ _ h => h) (Or.inl ⟨by rfl, ?hy11⟩) (by assumption) ?_
      case hy11 => (intro w hSw; go_simp <;> (try with_reducible rfl))
      simp only [Act.put, List.setIfInBounds_toArray, List.set_cons_zero, List.set_cons_succ, List.getElem_toArray, List.getElem_cons_succ, List.getElem_cons_zero]
      refine wpAnyH_take (i := 18) (v := ?v12) rfl (by kernel_rfl) (by kernel_rfl) (by kernel_rfl) (fun _ _ _ h => h) (Or.inl ⟨by rfl, ?hy12⟩) (by assumption) ?_
      case hy12 => (intro w hSw; go_simp <;> (try with_reducible rfl))
      simp only [Act.put, List.setIfInBounds_toArray, List.set_cons_zero, List.set_cons_succ, List.getElem_toArray, List.getElem_cons_succ, List.getElem_cons_zero]
      refine wpAnyH_take (i := 19) (v := ?v13) rfl (by kernel_rfl) (by kernel_rfl) (by kernel_rfl) (fun _ _ _ h => h) (Or.inl ⟨by rfl, ?hy13⟩) (by assumption) ?_
      case hy13 => (intro w hSw; go_simp <;> (try with_reducible rfl))
      simp only [Act.put, List.setIfInBounds_toArray, List.set_cons_zero, List.set_cons_succ, List.getElem_toArray, List.getElem_cons_succ, List.getElem_cons_zero]
      refine wpAnyH_take (i := 20) (v := ?v14) rfl (by kernel_rfl) (by kernel_rfl) (by kernel_rfl) (fun _ _ _ h => h) (Or.inl ⟨by rfl, ?hy14⟩) (by assumption) ?_
      case hy14 => (intro w hSw; go_simp <;> (try with_reducible rfl))
      simp only [Act.put, List.setIfInBounds_toArray, List.set_cons_zero, List.set_cons_succ, List.getElem_toArray, List.getElem_cons_succ, List.getElem_cons_zero]
      refine wpAnyH_take (i := 21) (v := ?v15) rfl (by kernel_rfl) (by kernel_rfl) (by kernel_rfl) (fun _ _ _ h => h) (Or.inl ⟨by rfl, ?hy15⟩) (by assumption) ?_
      case hy15 => (intro w hSw; go_simp <;> (try with_reducible rfl))
      simp only [Act.put, List.setIfInBounds_toArray, List.set_cons_zero, List.set_cons_succ, List.getElem_toArray, List.getElem_cons_succ, List.getElem_cons_zero]
      refine wpAnyH_ready (rs := [3]) (by kernel_rfl) (by simp) ?_
      refine AllReadyH.cons rfl (fun K hK => ?_) AllReadyH.nil
      go_simp
      refine (hcount_no _ ND.out a.2.1).mono ?_
      rintro e12 w12 ⟨rfl, rfl⟩
      go_simp
      refine hK.out _ _ ?_ (fun _ => ?_)
      · (refine ⟨?_, ?_, ?_, ?_, ?_, ?_⟩ <;> (first | assumption | go_simp))
      clear hK K
      refine wpAnyH_ready (rs := [5]) (by kernel_rfl) (by simp) ?_
      refine AllReadyH.cons rfl (fun K hK => ?_) AllReadyH.nil
      go_simp
      refine (len_no _ ND.out).mono ?_
      rintro e12 w12 ⟨rfl, rfl⟩
      go_simp
      refine hK.out _ _ ?_ (fun _ => ?_)
      · (refine ⟨?_, ?_, ?_, ?_, ?_, ?_⟩ <;> (first | assumption | go_simp))
      clear hK K
      refine wpAnyH_take (i := 6) (v := ?v18) rfl (by kernel_rfl) (by kernel_rfl) (by kernel_rfl) (fun _ _ _ h => h) (Or.inl ⟨by rfl, ?hy18⟩) (by assumption) ?_
      case hy18 => (intro w hSw; go_simp <;> (try with_reducible rfl))
      simp only [Act.put, List.setIfInBounds_toArray, List.set_cons_zero, List.set_cons_succ, List.getElem_toArray, List.getElem_cons_succ, List.getElem_cons_zero]
      refine wpAnyH_ready (rs := [10]) (by kernel_rfl) (by simp) ?_
      refine AllReadyH.cons rfl (fun K hK => ?_) AllReadyH.nil
      go_simp
      refine (hshape_no _ ND.out a.2.1).mono ?_
      rintro e12 w12 ⟨rfl, rfl⟩
      go_simp
      refine hK.out _ _ ?_ (fun _ => ?_)
      · (refine ⟨?_, ?_, ?_, ?_, ?_, ?_⟩ <;> (first | assumption | go_simp))
      clear hK K
      refine wpAnyH_take (i := 11) (v := ?v20) rfl (by kernel_rfl) (by kernel_rfl) (by kernel_rfl) (fun _ _ _ h => h) (Or.inl ⟨by rfl, ?hy20⟩) (by assumption) ?_
      case hy20 => (intro w hSw; go_simp <;> (try with_reducible rfl))
      simp only [Act.put, List.setIfInBounds_toArray, List.set_cons_zero, List.set_cons_succ, List.getElem_toArray, List.getElem_cons_succ, List.getElem_cons_zero]
      refine wpAnyH_ready (rs := [15]) (by kernel_rfl) (by simp) ?_
      refine AllReadyH.cons rfl (fun K hK => ?_) AllReadyH.nil
      go_simp
      refine (hepoch_no _ ND.out a.2.1).mono ?_
      rintro e12 w12 ⟨rfl, rfl⟩
      go_simp
      refine hK.out _ _ ?_ (fun _ => ?_)
      · (refine ⟨?_, ?_, ?_, ?_, ?_, ?_⟩ <;> (first | assumption | go_simp))
      clear hK K
      refine wpAnyH_take (i := 16) (v := ?v22) rfl (by kernel_rfl) (by kernel_rfl) (by kernel_rfl) (fun _ _ _ h => h) (Or.inl ⟨by rfl, ?hy22⟩) (by assumption) ?_
      case hy22 => (intro w hSw; go_simp <;> (try with_reducible rfl))
      simp only [Act.put, List.setIfInBounds_toArray, List.set_cons_zero, List.set_cons_succ, List.getElem_toArray, List.getElem_cons_succ, List.getElem_cons_zero]
      refine wpAnyH_ready (rs := [22]) (by kernel_rfl) (by simp) ?_
      refine AllReadyH.cons rfl (fun K hK => ?_) AllReadyH.nil
      go_simp
      refine (hnext_no _ ND.out a.2.2.1 a.2.2.2.1).mono ?_
      rintro e12 w12 ⟨rfl, rfl⟩
      go_simp
      refine hK.out _ _ ?_ (fun _ => ?_)
      · (refine ⟨?_, ?_, ?_, ?_, ?_, ?_⟩ <;> (first | assumption | go_simp))
      clear hK K
      refine wpAnyH_take (i := 23) (v := ?v24) rfl (by kernel_rfl) (by kernel_rfl) (by kernel_rfl) (fun _ _ _ h => h) (Or.inl ⟨by rfl, ?hy24⟩) (by assumption) ?_
      case hy24 => (intro w hSw; go_simp <;> (try with_reducible rfl))
      simp only [Act.put, List.setIfInBounds_toArray, List.set_cons_zero, List.set_cons_succ, List.getElem_toArray, List.getElem_cons_succ, List.getElem_cons_zero]
      refine wpAnyH_take (i := 24) (v := ?v25) rfl (by kernel_rfl) (by kernel_rfl) (by kernel_rfl) (fun _ _ _ h => h) (Or.inl ⟨by rfl, ?hy25⟩) (by assumption) ?_
      case hy25 => (intro w hSw; go_simp <;> (try with_reducible rfl))
      simp only [Act.put, List.setIfInBounds_toArray, List.set_cons_zero, List.set_cons_succ, List.getElem_toArray, List.getElem_cons_succ, List.getElem_cons_zero]
      refine wpAnyH_take (i := 25) (v := ?v26) rfl (by kernel_rfl) (by kernel_rfl) (by kernel_rfl) (fun _ _ _ h => h) (Or.inl ⟨by rfl, ?hy26⟩) (by assumption) ?_
      case hy26 => (intro w hSw; go_simp <;> (try with_reducible rfl))
      simp only [Act.put, List.setIfInBounds_toArray, List.set_cons_zero, List.set_cons_succ, List.getElem_toArray, List.getElem_cons_succ, List.getElem_cons_zero]
      refine wpAnyH_take (i := 26) (v := ?v27) rfl (by kernel_rfl) (by kernel_rfl) (by kernel_rfl) (fun _ _ _ h => h) (Or.inl ⟨by rfl, ?hy27⟩) (by assumption) ?_
      case hy27 => (intro w hSw; go_simp <;> (try with_reducible rfl))
      simp only [Act.put, List.setIfInBounds_toArray, List.set_cons_zero, List.set_cons_succ, List.getElem_toArray, List.getElem_cons_succ, List.getElem_cons_zero]
      refine wpAnyH_take (i := 27) (v := ?v28) rfl (by kernel_rfl) (by kernel_rfl) (by kernel_rfl) (fun _ _ _ h => h) (Or.inl ⟨by rfl, ?hy28⟩) (by assumption) ?_
      case hy28 => (intro w hSw; go_simp <;> (try with_reducible rfl))
      simp only [Act.put, List.setIfInBounds_toArray, List.set_cons_zero, List.set_cons_succ, List.getElem_toArray, List.getElem_cons_succ, List.getElem_cons_zero]
      refine wpAnyH_take (i := 28) (v := ?v29) rfl (by kernel_rfl) (by kernel_rfl) (by kernel_rfl) (fun _ _ _ h => h) (Or.inl ⟨by rfl, ?hy29⟩) (by assumption) ?_
      case hy29 => (intro w hSw; go_simp <;> (try with_reducible rfl))
      simp only [Act.put, List.setIfInBounds_toArray, List.set_cons_zero, List.set_cons_succ, List.getElem_toArray, List.getElem_cons_succ, List.getElem_cons_zero]
      refine wpAnyH_take (i := 29) (v := ?v30) rfl (by kernel_rfl) (by kernel_rfl) (by kernel_rfl) (fun _ _ _ h => h) (Or.inl ⟨by rfl, ?hy30⟩) (by assumption) ?_
      case hy30 => (intro w hSw; go_simp <;> (try with_reducible rfl))
      simp only [Act.put, List.setIfInBounds_toArray, List.set_cons_zero, List.set_cons_succ, List.getElem_toArray, List.getElem_cons_succ, List.getElem_cons_zero]
      refine wpAnyH_take (i := 30) (v := ?v31) rfl (by kernel_rfl) (by kernel_rfl) (by kernel_rfl) (fun _ _ _ h => h) (Or.inl ⟨by rfl, ?hy31⟩) (by assumption) ?_
      case hy31 => (intro w hSw; go_simp <;> (try with_reducible rfl))
      simp only [Act.put, List.setIfInBounds_toArray, List.set_cons_zero, List.set_cons_succ, List.getElem_toArray, List.getElem_cons_succ, List.getElem_cons_zero]
      refine wpAnyH_ready (rs := [31]) (by kernel_rfl) (by simp) ?_
      refine AllReadyH.cons rfl (fun K hK => ?_) AllReadyH.nil
      go_simp
      refine (hslotof_no _ ND.out a.2.2.1 a.2.2.2.1).mono ?_
      rintro e12 w12 ⟨rfl, rfl⟩
      go_simp
      refine hK.out _ _ ?_ (fun _ => ?_)
      · (refine ⟨?_, ?_, ?_, ?_, ?_, ?_⟩ <;> (first | assumption | go_simp))
      clear hK K
      refine wpAnyH_take (i := 32) (v := ?v33) rfl (by kernel_rfl) (by kernel_rfl) (by kernel_rfl) (fun _ _ _ h => h) (Or.inl ⟨by rfl, ?hy33⟩) (by assumption) ?_
      case hy33 => (intro w hSw; go_simp <;> (try with_reducible rfl))
      simp only [Act.put, List.setIfInBounds_toArray, List.set_cons_zero, List.set_cons_succ, List.getElem_toArray, List.getElem_cons_succ, List.getElem_cons_zero]
      refine wpAnyH_take (i := 33) (v := ?v34) rfl (by kernel_rfl) (by kernel_rfl) (by kernel_rfl) (fun _ _ _ h => h) (Or.inl ⟨by rfl, ?hy34⟩) (by assumption) ?_
      case hy34 => (intro w hSw; go_simp <;> (try with_reducible rfl))
      simp only [Act.put, List.setIfInBounds_toArray, List.set_cons_zero, List.set_cons_succ, List.getElem_toArray, List.getElem_cons_succ, List.getElem_cons_zero]
      refine wpAnyH_take (i := 34) (v := ?v35) rfl (by kernel_rfl) (by kernel_rfl) (by kernel_rfl) (fun _ _ _ h => h) (Or.inl ⟨by rfl, ?hy35⟩) (by assumption) ?_
      case hy35 => (intro w hSw; go_simp <;> (try with_reducible rfl))
      simp only [Act.put, List.setIfInBounds_toArray, List.set_cons_zero, List.set_cons_succ, List.getElem_toArray, List.getElem_cons_succ, List.getElem_cons_zero]
      refine wpAnyH_take (i := 35) (v := ?v36) rfl (by kernel_rfl) (by kernel_rfl) (by kernel_rfl) (fun _ _ _ h => h) (Or.inl ⟨by rfl, ?hy36⟩) (by assumption) ?_
      case hy36 => (intro w hSw; go_simp <;> (try with_reducible rfl))
      simp only [Act.put, List.setIfInBounds_toArray, List.set_cons_zero, List.set_cons_succ, List.getElem_toArray, List.getElem_cons_succ, List.getElem_cons_zero]
      refine wpAnyH_take (i := 36) (v := ?v37) rfl (by kernel_rfl) (by kernel_rfl) (by kernel_rfl) (fun _ _ _ h => h) (Or.inl ⟨by rfl, ?hy37⟩) (by assumption) ?_
      case hy37 => (intro w hSw; go_simp <;> (try with_reducible rfl))
      simp only [Act.put, List.setIfInBounds_toArray, List.set_cons_zero, List.set_cons_succ, List.getElem_toArray, List.getElem_cons_succ, List.getElem_cons_zero]
      refine wpAnyH_take (i := 37) (v := ?v38) rfl (by kernel_rfl) (by kernel_rfl) (by kernel_rfl) (fun _ _ _ h => h) (Or.inl ⟨by rfl, ?hy38⟩) (by assumption) ?_
      case hy38 => (intro w hSw; go_simp <;> (try with_reducible rfl))
      simp only [Act.put, List.setIfInBounds_toArray, List.set_cons_zero, List.set_cons_succ, List.getElem_toArray, List.getElem_cons_succ, List.getElem_cons_zero]
      refine wpAnyH_take (i := 38) (v := ?v39) rfl (by kernel_rfl) (by kernel_rfl) (by kernel_rfl) (fun _ _ _ h => h) (Or.inl ⟨by rfl, ?hy39⟩) (by assumption) ?_
      case hy39 => (intro w hSw; go_simp <;> (try with_reducible rfl))
      simp only [Act.put, List.setIfInBounds_toArray, List.set_cons_zero, List.set_cons_succ, List.getElem_toArray, List.getElem_cons_succ, List.getElem_cons_zero]
      refine wpAnyH_take (i := 39) (v := ?v40) rfl (by kernel_rfl) (by kernel_rfl) (by kernel_rfl) (fun _ _ _ h => h) (Or.inl ⟨by rfl, ?hy40⟩) (by assumption) ?_
      case hy40 => (intro w hSw; go_simp <;> (try with_reducible rfl))
      simp only [Act.put, List.setIfInBounds_toArray, List.set_cons_zero, List.set_cons_succ, List.getElem_toArray, List.getElem_cons_succ, List.getElem_cons_zero]
      refine wpAnyH_take (i := 40) (v := ?v41) rfl (by kernel_rfl) (by kernel_rfl) (by kernel_rfl) (fun _ _ _ h => h) (Or.inl ⟨by rfl, ?hy41⟩) (by assumption) ?_
      case hy41 => (intro w hSw; go_simp <;> (try with_reducible rfl))
      simp only [Act.put, List.setIfInBounds_toArray, List.set_cons_zero, List.set_cons_succ, List.getElem_toArray, List.getElem_cons_succ, List.getElem_cons_zero]
      refine wpAnyH_take (i := 41) (v := ?v42) rfl (by kernel_rfl) (by kernel_rfl) (by kernel_rfl) (fun _ _ _ h => h) (Or.inl ⟨by rfl, ?hy42⟩) (by assumption) ?_
      case hy42 => (intro w hSw; go_simp <;> (try with_reducible rfl))
      simp only [Act.put, List.setIfInBounds_toArray, List.set_cons_zero, List.set_cons_succ, List.getElem_toArray, List.getElem_cons_succ, List.getElem_cons_zero]
      refine wpAnyH_ready (rs := [42]) (by kernel_rfl) (by simp) ?_
      refine AllReadyH.cons rfl (fun K hK => ?_) AllReadyH.nil
      go_simp
      refine (hput_no _ ND.out a.2.1 a.2.2.1 a.2.2.2.2).mono ?_
      rintro e13 w13 ⟨rfl, bx⟩
      have b13 := (Below.refl _ _).drew.trans bx
      clear bx ND
      have N13 := hid (noHp_on N9.out b13)
      have Z13 := hid (boxA_on Z9.out b13)
      have B13 := hid (below_on B9.out b13)
      clear b13 N9 Z9 n1 n2 n3 n4 n5 n6 l0 B9
      obtain ⟨l0, n1, n2, n3, n4, n5, n6⟩ := Z13.out
      go_simp
      refine hK.out _ _ ?_ (fun _ => ?_)
      · (refine ⟨?_, ?_, ?_, ?_, ?_, ?_⟩ <;> (first | assumption | go_simp))
      clear hK K
      refine wpAnyH_take (i := 43) (v := ?v44) rfl (by kernel_rfl) (by kernel_rfl) (by kernel_rfl) (fun _ _ _ h => h) (Or.inl ⟨by rfl, ?hy44⟩) (by assumption) ?_
      case hy44 => (intro w hSw; go_simp <;> (try with_reducible rfl))
      simp only [Act.put, List.setIfInBounds_toArray, List.set_cons_zero, List.set_cons_succ, List.getElem_toArray, List.getElem_cons_succ, List.getElem_cons_zero]
      refine wpAnyH_take (i := 44) (v := ?v45) rfl (by kernel_rfl) (by kernel_rfl) (by kernel_rfl) (fun _ _ _ h => h) (Or.inl ⟨by rfl, ?hy45⟩) (by assumption) ?_
      case hy45 => (intro w hSw; go_simp <;> (try with_reducible rfl))
      simp only [Act.put, List.setIfInBounds_toArray, List.set_cons_zero, List.set_cons_succ, List.getElem_toArray, List.getElem_cons_succ, List.getElem_cons_zero]
      refine wpAnyH_take (i := 45) (v := ?v46) rfl (by kernel_rfl) (by kernel_rfl) (by kernel_rfl) (fun _ _ _ h => h) (Or.inl ⟨by rfl, ?hy46⟩) (by assumption) ?_
      case hy46 => (intro w hSw; go_simp <;> (try with_reducible rfl))
      simp only [Act.put, List.setIfInBounds_toArray, List.set_cons_zero, List.set_cons_succ, List.getElem_toArray, List.getElem_cons_succ, List.getElem_cons_zero]
      refine wpAnyH_take (i := 46) (v := ?v47) rfl (by kernel_rfl) (by kernel_rfl) (by kernel_rfl) (fun _ _ _ h => h) (Or.inl ⟨by rfl, ?hy47⟩) (by assumption) ?_
      case hy47 => (intro w hSw; go_simp <;> (try with_reducible rfl))
      simp only [Act.put, List.setIfInBounds_toArray, List.set_cons_zero, List.set_cons_succ, List.getElem_toArray, List.getElem_cons_succ, List.getElem_cons_zero]
      refine wpAnyH_take (i := 47) (v := ?v48) rfl (by kernel_rfl) (by kernel_rfl) (by kernel_rfl) (fun _ _ _ h => h) (Or.inl ⟨by rfl, ?hy48⟩) (by assumption) ?_
      case hy48 => (intro w hSw; go_simp <;> (try with_reducible rfl))
      simp only [Act.put, List.setIfInBounds_toArray, List.set_cons_zero, List.set_cons_succ, List.getElem_toArray, List.getElem_cons_succ, List.getElem_cons_zero]
      refine wpAnyH_take (i := 48) (v := ?v49) rfl (by kernel_rfl) (by kernel_rfl) (by kernel_rfl) (fun _ _ _ h => h) (Or.inl ⟨by rfl, ?hy49⟩) (by assumption) ?_
      case hy49 => (intro w hSw; go_simp <;> (try with_reducible rfl))
      simp only [Act.put, List.setIfInBounds_toArray, List.set_cons_zero, List.set_cons_succ, List.getElem_toArray, List.getElem_cons_succ, List.getElem_cons_zero]
      refine wpAnyH_take (i := 49) (v := ?v50) rfl (by kernel_rfl) (by kernel_rfl) (by kernel_rfl) (fun _ _ _ h => h) (Or.inl ⟨by rfl, ?hy50⟩) (by assumption) ?_
      case hy50 => (intro w hSw; go_simp <;> (try with_reducible rfl))
      simp only [Act.put, List.setIfInBounds_toArray, List.set_cons_zero, List.set_cons_succ, List.getElem_toArray, List.getElem_cons_succ, List.getElem_cons_zero]
      refine wpAnyH_take (i := 50) (v := ?v51) rfl (by kernel_rfl) (by kernel_rfl) (by kernel_rfl) (fun _ _ _ h => h) (Or.inl ⟨by rfl, ?hy51⟩) (by assumption) ?_
      case hy51 => (intro w hSw; go_simp <;> (try with_reducible rfl))
      simp only [Act.put, List.setIfInBounds_toArray, List.set_cons_zero, List.set_cons_succ, List.getElem_toArray, List.getElem_cons_succ, List.getElem_cons_zero]
      refine wpAnyH_take (i := 51) (v := ?v52) rfl (by kernel_rfl) (by kernel_rfl) (by kernel_rfl) (fun _ _ _ h => h) (Or.inl ⟨by rfl, ?hy52⟩) (by assumption) ?_
      case hy52 => (intro w hSw; go_simp <;> (try with_reducible rfl))
      simp only [Act.put, List.setIfInBounds_toArray, List.set_cons_zero, List.set_cons_succ, List.getElem_toArray, List.getElem_cons_succ, List.getElem_cons_zero]
      refine wpAnyH_ready (rs := [52]) (by kernel_rfl) (by simp) ?_
      refine AllReadyH.cons rfl (fun K hK => ?_) AllReadyH.nil
      go_simp
      refine (hgrow_no _ N13.out a.2.1 a.2.2.1 a.2.2.2.2).mono ?_
      rintro e14 w14 ⟨rfl, b14⟩
      have N14 := hid (noHp_on N13.out b14)
      have Z14 := hid (boxA_on Z13.out b14)
      have B14 := hid (below_on B13.out b14)
      clear b14 N13 Z13 n1 n2 n3 n4 n5 n6 l0 B13
      obtain ⟨l0, n1, n2, n3, n4, n5, n6⟩ := Z14.out
      go_simp
      refine hK.out _ _ ?_ (fun _ => ?_)
      · (refine ⟨?_, ?_, ?_, ?_, ?_, ?_⟩ <;> (first | assumption | go_simp))
      clear hK K
      refine wpAnyH_take (i := 53) (v := ?v54) rfl (by kernel_rfl) (by kernel_rfl) (by kernel_rfl) (fun _ _ _ h => h) (Or.inl ⟨by rfl, ?hy54⟩) (by assumption) ?_
      case hy54 => (intro w hSw; go_simp <;> (try with_reducible rfl))
      simp only [Act.put, List.setIfInBounds_toArray, List.set_cons_zero, List.set_cons_succ, List.getElem_toArray, List.getElem_cons_succ, List.getElem_cons_zero]
      refine wpAnyH_take (i := 54) (v := ?v55) rfl (by kernel_rfl) (by kernel_rfl) (by kernel_rfl) (fun _ _ _ h => h) (Or.inl ⟨by rfl, ?hy55⟩) (by assumption) ?_
      case hy55 => (intro w hSw; go_simp <;> (try with_reducible rfl))
      simp only [Act.put, List.setIfInBounds_toArray, List.set_cons_zero, List.set_cons_succ, List.getElem_toArray, List.getElem_cons_succ, List.getElem_cons_zero]
      refine wpAnyH_take (i := 55) (v := ?v56) rfl (by kernel_rfl) (by kernel_rfl) (by kernel_rfl) (fun _ _ _ h => h) (Or.inl ⟨by rfl, ?hy56⟩) (by assumption) ?_
      case hy56 => (intro w hSw; go_simp <;> (try with_reducible rfl))
      simp only [Act.put, List.setIfInBounds_toArray, List.set_cons_zero, List.set_cons_succ, List.getElem_toArray, List.getElem_cons_succ, List.getElem_cons_zero]
      refine wpAnyH_take (i := 56) (v := ?v57) rfl (by kernel_rfl) (by kernel_rfl) (by kernel_rfl) (fun _ _ _ h => h) (Or.inl ⟨by rfl, ?hy57⟩) (by assumption) ?_
      case hy57 => (intro w hSw; go_simp <;> (try with_reducible rfl))
      simp only [Act.put, List.setIfInBounds_toArray, List.set_cons_zero, List.set_cons_succ, List.getElem_toArray, List.getElem_cons_succ, List.getElem_cons_zero]
      refine wpAnyH_ready (rs := [57]) (by kernel_rfl) (by simp) ?_
      refine AllReadyH.cons rfl (fun K hK => ?_) AllReadyH.nil
      go_simp
      refine (hdump_no _ N14.out).mono ?_
      rintro e15 w15 ⟨rfl, b15⟩
      have N15 := hid (noHp_on N14.out b15)
      have Z15 := hid (boxA_on Z14.out b15)
      have B15 := hid (below_on B14.out b15)
      clear b15 N14 Z14 n1 n2 n3 n4 n5 n6 l0 B14
      obtain ⟨l0, n1, n2, n3, n4, n5, n6⟩ := Z15.out
      go_simp
      refine hK.out _ _ ?_ (fun _ => ?_)
      · (refine ⟨?_, ?_, ?_, ?_, ?_, ?_⟩ <;> (first | assumption | go_simp))
      clear hK K
      refine wpAnyH_take (i := 58) (v := ?v59) rfl (by kernel_rfl) (by kernel_rfl) (by kernel_rfl) (fun _ _ _ h => h) (Or.inl ⟨by rfl, ?hy59⟩) (by assumption) ?_
      case hy59 => (intro w hSw; go_simp <;> (try with_reducible rfl))
      simp only [Act.put, List.setIfInBounds_toArray, List.set_cons_zero, List.set_cons_succ, List.getElem_toArray, List.getElem_cons_succ, List.getElem_cons_zero]
      refine wpAnyH_take (i := 59) (v := ?v60) rfl (by kernel_rfl) (by kernel_rfl) (by kernel_rfl) (fun _ _ _ h => h) (Or.inl ⟨by rfl, ?hy60⟩) (by assumption) ?_
      case hy60 => (intro w hSw; go_simp <;> (try with_reducible rfl))
      simp only [Act.put, List.setIfInBounds_toArray, List.set_cons_zero, List.set_cons_succ, List.getElem_toArray, List.getElem_cons_succ, List.getElem_cons_zero]
      refine wpAnyH_done (by kernel_rfl) ?_ _
      go_wp2_with fail
      exact ⟨⟨k + 1, by omega, by simp, B15⟩, by simp [intOf]; omega⟩

theorem walk (x0_0 : Int) (x0_1 : Int) (x0_2 : Int) (x0_3 : ByteArray) (x0_4 : Int) (x0_5 : Int) (x0_6 : ByteArray) (w : World) (w0_0 : (-9223372036854775808 ≤ x0_0 ∧ x0_0 ≤ 9223372036854775807)) (w0_1 : (-9223372036854775808 ≤ x0_1 ∧ x0_1 ≤ 9223372036854775807)) (w0_2 : (-9223372036854775808 ≤ x0_2 ∧ x0_2 ≤ 9223372036854775807)) (w0_3 : (x0_3.size ≤ maxLen)) (w0_4 : (-9223372036854775808 ≤ x0_4 ∧ x0_4 ≤ 9223372036854775807)) (w0_5 : (-9223372036854775808 ≤ x0_5 ∧ x0_5 ≤ 9223372036854775807)) (w0_6 : (x0_6.size ≤ maxLen)) :
    Calls Tryz.prog 6 #[.agg #[.int .i64 x0_0, .int .i64 x0_1, .int .i64 x0_2, .string x0_3, .int .i64 x0_4, .int .i64 x0_5, .string x0_6]] w fun e w' => e = .returned (.bool true) ∧ Below w.heap.size w w' := by
  cases hl : longH (x0_0, x0_1, x0_2, x0_3, x0_4, x0_5, x0_6) with
  | true => exact walk_long (x0_0, x0_1, x0_2, x0_3, x0_4, x0_5, x0_6) w0_3 w0_6 hl w
  | false => exact walk_short (x0_0, x0_1, x0_2, x0_3, x0_4, x0_5, x0_6) w0_3 w0_6 hl w

set_option maxRecDepth 100000 in
theorem lifted (os : Os) (started : os.Started) (H : Type) (enc : TypeId × Value → H) :
    ReturnsInHanded {} Tryz.checked os 6 .any (Rows.heapNoneSpec.pre6 enc Tryz.prog Tryz.f6 Rows.heapNoneRow.domain false) (Rows.heapNoneSpec.post enc Tryz.prog Tryz.f6 false true false false) := by
  refine returnsInHanded_of_change (C := Tryz.checked) own started (by kernel_rfl) Tryz.func6
    (ChangeSpec.witness6 (enc := enc) (C := Tryz.checked) false ⟨#[], #[.agg #[.int .i64 0, .int .i64 0, .int .i64 0, .string ByteArray.empty, .int .i64 0, .int .i64 0, .string ByteArray.empty]], []⟩ 8 (by kernel_rfl) (by kernel_rfl) (by kernel_rfl) (by kernel_rfl)) ?_
  intro W base args ds gs before hval0 hW hcnd _
  have hval : ∀ (j : Nat) t v, Tryz.f6.params[j]? = some t → args[j]? = some v → Value.okWide Tryz.prog W .any base t v := hval0
  have hW' := hW
  obtain ⟨p, q, hA0, hV, rfl, hfz, hnd⟩ := hW
  have hA : DataW.TrodAll enc Tryz.prog W 0 (fun _ => true) true Tryz.f6.params.toList args.toList ds p := hA0
  rw [Tryz.params6] at hA hval
  obtain ⟨v0, vs0, d0, ds0, p0, q0, hargs, rfl, rfl, h0, r0⟩ := trodAll_cons hA
  obtain ⟨rfl, rfl, rfl⟩ := trodAll_nil r0
  obtain rfl : args = #[v0] := by cases args; simp_all
  obtain ⟨rfl, rfl⟩ := trodVars_none hV
  have hk0 := h0
  have hlt0 : ∀ x ∈ p0, x.block < W.heap.size := fun x hx => by simpa using hW'.lt x (by simp [hx])
  obtain ⟨x0_0, x0_1, x0_2, x0_3, x0_4, x0_5, x0_6, rfl, w0_0, w0_1, w0_2, w0_3, w0_4, w0_5, w0_6⟩ := open_a0 (hval 0 28 v0 rfl rfl) h0
  clear hA0 hval0
  refine (walk x0_0 x0_1 x0_2 x0_3 x0_4 x0_5 x0_6 W w0_0 w0_1 w0_2 w0_3 w0_4 w0_5 w0_6).mono fun e W' ⟨he, hg⟩ => ?_
  subst he
  exact ⟨_, rfl, _, _, _, [], _, [], hW', trodAll_mk1 (shut_bool Tryz.underlying4 _), (trodAll_cons_mk (Below.trod laidOutF (by kernel_rfl) (of_decide_eq_true (by kernel_rfl)) hk0 hg hlt0) trodAll_mk0), rfl, hg.frame _, fun h => by cases h⟩

theorem over : Rows.heapNoneRow.holds Tryz.pinned (OpenSpec.ofChange Rows.heapNoneSpec) :=
  OpenClaim.holds_of_wide 6 Tryz.f6 rfl rfl rfl rfl rfl rfl rfl ⟨rfl, rfl, rfl, rfl, rfl⟩ rfl rfl rfl rfl rfl (by kernel_rfl) Tryz.func6 (by kernel_rfl)
    (of_decide_eq_true (by kernel_rfl)) (by unfold Func.isWrapper; first | (rw [if_pos (by decide +kernel)]; kernel_rfl) | (rw [if_neg (by decide +kernel)]; exact ⟨rfl, rfl⟩))
    (fun os started H enc _ => lifted os started H enc)

end Go.Proofs.YtoajmflbmfnieaaGreat.heapNone
namespace Go.Proofs.YtoajmflbmfnieaaGreat

/-- the statement, as it was given -/
theorem heapNone_holds : Rows.HeapNoneSaid :=
  heapNone.over
#print axioms heapNone_holds
end Go.Proofs.YtoajmflbmfnieaaGreat
