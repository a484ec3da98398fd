/- A dict that is not there, and one that no call made, has nothing, and takes nothing, whatever name, value and place is asked for (texts of more than 300 bytes ask for the law's own test alone): DictNone is true for every input; no condition. -/
import Derived.Test.YtphniknckmfilaaDcNil
import Derived.Test.YtphniknckmfilaaDcLong
import Derived.Test.YtphniknckmfilaaOpenFlat
import Derived.Test.YtphniknckmfilaaRows
import Derived.WalkKit
import Derived.ProofKit
import Derived.OpenShut
import Derived.ShutString
import Derived.ChangeOld
import Derived.Below
namespace Go.Proofs.Ytphniknckmfilaa.dictNone
open Go.ChangeShapes Go.WideShapes Go.ChangeAt Go.RowKit
open Go.ChangeMaps (open_string shut_string)
set_option linter.unusedVariables false

theorem own : ownKnob Try.prog.godebug = none := by kernel_rfl

theorem open_a0 {H : Type} {enc : TypeId × Value → H} {W : World} {b0 : Nat} {r : Reach} {v : Value} {d : DataW H} {p : List MemPlace} (hv : Value.okWide Try.prog W r b0 34 v) (h : DataW.Trod enc Try.prog W 0 (fun _ => true) true 34 v d p) :
    ∃ (x0_0 : Int) (x0_1 : ByteArray) (x0_2 : Int) (x0_3 : Int) (x0_4 : ByteArray), v = .agg #[.int .i64 x0_0, .string x0_1, .int .i64 x0_2, .int .i64 x0_3, .string x0_4] ∧ (-9223372036854775808 ≤ x0_0 ∧ x0_0 ≤ 9223372036854775807) ∧ (x0_1.size ≤ maxLen) ∧ (-9223372036854775808 ≤ x0_2 ∧ x0_2 ≤ 9223372036854775807) ∧ (-9223372036854775808 ≤ x0_3 ∧ x0_3 ≤ 9223372036854775807) ∧ (x0_4.size ≤ maxLen) := by
  obtain ⟨cs, rfl, hl, hf0⟩ := open_flat Try.underlying34 (show flat Try.prog 5 34 = some [.i, .s, .i, .i, .s] by kernel_rfl) hv h
  rw [show Try.prog.cellsOf 34 = 5 by kernel_rfl] at hl
  obtain ⟨_, c0, rfl, ⟨y0, rfl, q0⟩, hf1⟩ := fits_cons hf0
  obtain ⟨_, c1, rfl, ⟨y1, rfl, q1⟩, hf2⟩ := fits_cons hf1
  obtain ⟨_, c2, rfl, ⟨y2, rfl, q2⟩, hf3⟩ := fits_cons hf2
  obtain ⟨_, c3, rfl, ⟨y3, rfl, q3⟩, hf4⟩ := fits_cons hf3
  obtain ⟨_, c4, rfl, ⟨y4, rfl, q4⟩, hf5⟩ := fits_cons hf4
  have e : c4 = [] := List.length_eq_zero_iff.1 (by simpa using hl)
  subst e
  exact ⟨y0, y1, y2, y3, y4, rfl, q0, q1, q2, q3, q4⟩
abbrev actV (a : Ac) : Value := .agg #[.int .i64 a.1, .string a.2.1, .int .i64 a.2.2.1, .int .i64 a.2.2.2.1, .string a.2.2.2.2]
abbrev actO (a : Ac) : Obj := .cells #[.int .i64 a.1, .string a.2.1, .int .i64 a.2.2.1, .int .i64 a.2.2.2.1, .string a.2.2.2.2] 34
theorem walk_long (a : Ac) (h1 : a.2.1.size ≤ maxLen) (h2 : a.2.2.2.2.size ≤ maxLen) (hl : longA a = true) (i : Int) (w : World) :
    Calls Try.prog 6 #[actV a, .int .i64 i] w fun e w' => e = .returned (.bool true) ∧ Below w.heap.size w w' := by
  have HL := hid (long_calls a h1 h2 (w.alloc (actO a)))
  rw [hl] at HL
  go_enter Try.func6, Try.ntmps6
  go_wp2_with fail
  refine HL.out.mono ?_
  rintro e1 w1 ⟨rfl, b1⟩
  have B1 := hid (below_on ((Below.refl w.heap.size w).alloc (Nat.le_refl _) (actO a)) b1)
  clear b1 HL
  go_wp2_with fail
  refine (works_calls _).mono ?_
  rintro e2 w2 ⟨rfl, b2⟩
  have B2 := hid (below_on B1.out b2)
  clear b2 B1
  go_wp2_with fail
  go_ret
  exact ⟨rfl, B2.out⟩

set_option maxHeartbeats 2000000 in
theorem walk_short (a : Ac) (h1 : a.2.1.size ≤ maxLen) (h2 : a.2.2.2.2.size ≤ maxLen) (hl : longA a = false) (i : Int) (w : World) :
    Calls Try.prog 6 #[actV a, .int .i64 i] w fun e w' => e = .returned (.bool true) ∧ Below w.heap.size w w' := by
  have HL := hid (long_calls a h1 h2 (w.alloc (actO a)))
  rw [hl] at HL
  go_enter Try.func6, Try.ntmps6
  go_wp2_with fail
  refine HL.out.mono ?_
  rintro e1 w1 ⟨rfl, b1⟩
  have A0 := (Below.refl w.heap.size w).alloc (Nat.le_refl _) (actO a)
  have hw1 : w.heap.size < w1.heap.size := by have := b1.size; simp at this; omega
  have k1 : Blk w.heap.size 34 #[.int .i64 a.1, .string a.2.1, .int .i64 a.2.2.1, .int .i64 a.2.2.2.1, .string a.2.2.2.2] w1 := blk_on (blk_new w _ _) b1
  have K1 := hid k1
  have B1 := hid (below_on A0 b1)
  clear b1 HL A0 k1
  go_wp2_with fail
  have D1 := (Below.refl w1.heap.size w1).alloc (Nat.le_refl _) (.cells #[.pointer none] 50)
  have D2 := D1.alloc (by simp) (.cells #[.pointer none, .pointer (some ⟨w1.heap.size, 0, none⟩)] 23)
  have d1 := blk_on (blk_new w1 50 #[.pointer none]) ((Below.refl (w1.alloc (.cells #[.pointer none] 50)).heap.size (w1.alloc (.cells #[.pointer none] 50))).alloc (Nat.le_refl _) (.cells #[.pointer none, .pointer (some ⟨w1.heap.size, 0, none⟩)] 23))
  have d2 := blk_new (w1.alloc (.cells #[.pointer none] 50)) 23 #[.pointer none, .pointer (some ⟨w1.heap.size, 0, none⟩)]
  rw [World.size_alloc] at d2
  have k2 := blk_on K1.out D2
  have B2 := below_on B1.out D2
  generalize hW : (w1.alloc (.cells #[.pointer none] 50)).alloc (.cells #[.pointer none, .pointer (some ⟨w1.heap.size, 0, none⟩)] 23) = w2 at *
  have X1 := hid d1
  have X2 := hid d2
  have X3 := hid k2
  have X4 := hid B2
  clear D1 D2 d1 d2 k2 B2 K1 B1 hW
  go_loopw [7] (fun j wr => ∃ k : Nat, k ≤ 2 ∧ j = .int .i64 k ∧ Hid (Below w2.heap.size w2 wr)) (fun j _ => 2 - (intOf j).toNat)
  case atStart => exact ⟨0, by omega, rfl, hid (Below.refl _ _)⟩
  case round =>
    obtain ⟨k, hk, rfl, hB⟩ := hrel
    have y1 := blk_on X1.out hB.out
    have y2 := blk_on X2.out hB.out
    have y3 := blk_on X3.out hB.out
    have Y4 := hid (below_on X4.out hB.out)
    have l3 := blk_lt y3
    have n0 : wr.cell? ⟨w.heap.size, 1, none⟩ = some (.string a.2.1) := by rw [blk_cell y3]; rfl
    have n1 : wr.cell? ⟨w.heap.size, 2, none⟩ = some (.int .i64 a.2.2.1) := by rw [blk_cell y3]; rfl
    have n2 : wr.cell? ⟨w.heap.size, 3, none⟩ = some (.int .i64 a.2.2.2.1) := by rw [blk_cell y3]; rfl
    have n3 : wr.cell? ⟨w.heap.size, 4, none⟩ = some (.string a.2.2.2.2) := by rw [blk_cell y3]; rfl
    rcases (show k = 2 ∨ k = 0 ∨ k = 1 by omega) with rfl | hk01
    · clear hB y1 y2 y3 n0 n1 n2 n3
      go_wp2_with fail
      refine (works_calls _).mono ?_
      rintro e2 w3 ⟨rfl, b2⟩
      have B3 := hid (below_on Y4.out b2)
      clear b2 Y4
      go_wp2_with fail
      go_ret
      exact ⟨rfl, B3.out⟩
    · obtain ⟨v, hv, hno⟩ : ∃ v, wr.cell? ⟨w1.heap.size + 1, k, none⟩ = some v ∧ NoDict v wr := by
        rcases hk01 with rfl | rfl
        · exact ⟨_, by rw [blk_cell y2]; rfl, .inl rfl⟩
        · exact ⟨_, by rw [blk_cell y2]; rfl, .inr ⟨_, rfl, blk_lt y1, by rw [blk_cell y1]; rfl⟩⟩
      obtain ⟨pt, rfl⟩ := noDict_shape hno
      have hk2 : k < 2 := by omega
      have N0 := hid hno
      have Y3 := hid y3
      clear hno y1 y2 y3 hk01
      go_wp2_with fail
      refine (get_no _ N0.out a.2.1).mono ?_
      rintro e2 w3 ⟨rfl, b3⟩
      have A3 := b3.alloc b3.size (.cells #[.int .i64 0, .int .i64 0, .string ⟨#[]⟩] 32)
      have N3 := hid (noDict_on N0.out A3)
      have Z3 := hid (blk_on Y3.out A3)
      have B3 := hid (below_on hB.out A3)
      clear b3 A3 N0 Y3 n0 n1 n2 n3 hv
      go_wp2_with fail
      refine (key_no _ N3.out i).mono ?_
      rintro e3 w4 ⟨rfl, rfl⟩
      have n0 : (w3.alloc (.cells #[.int .i64 0, .int .i64 0, .string ⟨#[]⟩] 32)).cell? ⟨w.heap.size, 1, none⟩ = some (.string a.2.1) := by rw [blk_cell Z3.out]; rfl
      have n1 : (w3.alloc (.cells #[.int .i64 0, .int .i64 0, .string ⟨#[]⟩] 32)).cell? ⟨w.heap.size, 2, none⟩ = some (.int .i64 a.2.2.1) := by rw [blk_cell Z3.out]; rfl
      have n2 : (w3.alloc (.cells #[.int .i64 0, .int .i64 0, .string ⟨#[]⟩] 32)).cell? ⟨w.heap.size, 3, none⟩ = some (.int .i64 a.2.2.2.1) := by rw [blk_cell Z3.out]; rfl
      have n3 : (w3.alloc (.cells #[.int .i64 0, .int .i64 0, .string ⟨#[]⟩] 32)).cell? ⟨w.heap.size, 4, none⟩ = some (.string a.2.2.2.2) := by rw [blk_cell Z3.out]; rfl
      generalize w3.alloc (.cells #[.int .i64 0, .int .i64 0, .string ⟨#[]⟩] 32) = w5 at *
      go_wp2_with fail
      refine (set_no _ N3.out a.2.1 a.2.2).mono ?_
      rintro e5 w6 ⟨rfl, b6⟩
      have N6 := hid (noDict_on N3.out b6)
      have z6 := blk_on Z3.out b6
      have m0 : w6.cell? ⟨w.heap.size, 1, none⟩ = some (.string a.2.1) := by rw [blk_cell z6]; rfl
      have B6 := hid (below_on B3.out b6)
      clear b6 N3 Z3 B3 z6
      go_wp2_with fail
      refine (del_no _ N6.out a.2.1).mono ?_
      rintro e5 w7 ⟨rfl, rfl⟩
      go_wp2_with fail
      refine (len_no _ N6.out).mono ?_
      rintro e5 w7 ⟨rfl, rfl⟩
      go_wp2_with fail
      refine (names_no _ N6.out).mono ?_
      rintro e5 w7 ⟨rfl, rfl⟩
      go_wp2_with fail
      refine (clone_no _ N6.out).mono ?_
      rintro e5 w7 ⟨rfl, rfl⟩
      go_wp2_with fail
      exact ⟨⟨k + 1, by omega, by simp, B6⟩, by simp [intOf]; omega⟩

theorem walk (x0_0 : Int) (x0_1 : ByteArray) (x0_2 : Int) (x0_3 : Int) (x0_4 : ByteArray) (a1 : Int) (w : World) (w0_0 : (-9223372036854775808 ≤ x0_0 ∧ x0_0 ≤ 9223372036854775807)) (w0_1 : (x0_1.size ≤ maxLen)) (w0_2 : (-9223372036854775808 ≤ x0_2 ∧ x0_2 ≤ 9223372036854775807)) (w0_3 : (-9223372036854775808 ≤ x0_3 ∧ x0_3 ≤ 9223372036854775807)) (w0_4 : (x0_4.size ≤ maxLen)) (w1 : (Lit.int .i64 a1).wf = true) :
    Calls Try.prog 6 #[.agg #[.int .i64 x0_0, .string x0_1, .int .i64 x0_2, .int .i64 x0_3, .string x0_4], .int .i64 a1] w fun e w' => e = .returned (.bool true) ∧ Below w.heap.size w w' := by
  cases hl : longA (x0_0, x0_1, x0_2, x0_3, x0_4) with
  | true => exact walk_long (x0_0, x0_1, x0_2, x0_3, x0_4) w0_1 w0_4 hl a1 w
  | false => exact walk_short (x0_0, x0_1, x0_2, x0_3, x0_4) w0_1 w0_4 hl a1 w

set_option maxRecDepth 100000 in
theorem lifted (os : Os) (started : os.Started) (H : Type) (enc : TypeId × Value → H) :
    ReturnsInHanded {} Try.checked os 6 .any (Rows.dictNoneSpec.pre6 enc Try.prog Try.f6 Rows.dictNoneRow.domain false) (Rows.dictNoneSpec.post enc Try.prog Try.f6 false true false false) := by
  refine returnsInHanded_of_change (C := Try.checked) own started (by kernel_rfl) Try.func6
    (ChangeSpec.witness6 (enc := enc) (C := Try.checked) false ⟨#[], #[.agg #[.int .i64 0, .string ByteArray.empty, .int .i64 0, .int .i64 0, .string ByteArray.empty], .int .i64 0], []⟩ 8 (by kernel_rfl) (by kernel_rfl) (by kernel_rfl) (by kernel_rfl)) ?_
  intro W base args ds gs before hval0 hW hcnd _
  have hval : ∀ (j : Nat) t v, Try.f6.params[j]? = some t → args[j]? = some v → Value.okWide Try.prog W .any base t v := hval0
  have hW' := hW
  obtain ⟨p, q, hA0, hV, rfl, hfz, hnd⟩ := hW
  have hA : DataW.TrodAll enc Try.prog W 0 (fun _ => true) true Try.f6.params.toList args.toList ds p := hA0
  rw [Try.params6] at hA hval
  obtain ⟨v0, vs0, d0, ds0, p0, q0, hargs, rfl, rfl, h0, r0⟩ := trodAll_cons hA
  obtain ⟨v1, vs1, d1, ds1, p1, q1, rfl, rfl, rfl, h1, r1⟩ := trodAll_cons r0
  obtain ⟨rfl, rfl, rfl⟩ := trodAll_nil r1
  obtain rfl : args = #[v0, v1] := by cases args; simp_all
  obtain ⟨rfl, rfl⟩ := trodVars_none hV
  have hk0 := h0
  have hlt0 : ∀ x ∈ p0, x.block < W.heap.size := fun x hx => by simpa using hW'.lt x (by simp [hx])
  obtain ⟨x0_0, x0_1, x0_2, x0_3, x0_4, rfl, w0_0, w0_1, w0_2, w0_3, w0_4⟩ := open_a0 (hval 0 34 v0 rfl rfl) h0
  obtain ⟨a1, rfl, rfl, rfl, w1⟩ := open_int Try.underlying3 (hval 1 3 v1 rfl rfl) h1
  clear hA0 hval0
  refine (walk x0_0 x0_1 x0_2 x0_3 x0_4 a1 W w0_0 w0_1 w0_2 w0_3 w0_4 w1).mono fun e W' ⟨he, hg⟩ => ?_
  subst he
  exact ⟨_, rfl, _, _, _, [], _, [], hW', trodAll_mk1 (shut_bool Try.underlying4 _), (trodAll_cons_mk (Below.trod laidOutP (by kernel_rfl) (of_decide_eq_true (by kernel_rfl)) hk0 hg hlt0) (trodAll_cons_mk (shut_int Try.underlying3 w1) trodAll_mk0)), rfl, hg.frame _, fun h => by cases h⟩

theorem over : Rows.dictNoneRow.holds Try.pinned (OpenSpec.ofChange Rows.dictNoneSpec) :=
  OpenClaim.holds_of_wide 6 Try.f6 rfl rfl rfl rfl rfl rfl rfl ⟨rfl, rfl, rfl, rfl, rfl⟩ rfl rfl rfl rfl rfl (by kernel_rfl) Try.func6 (by kernel_rfl)
    (of_decide_eq_true (by kernel_rfl)) (by unfold Func.isWrapper; first | (rw [if_pos (by decide +kernel)]; kernel_rfl) | (rw [if_neg (by decide +kernel)]; exact ⟨rfl, rfl⟩))
    (fun os started H enc _ => lifted os started H enc)

end Go.Proofs.Ytphniknckmfilaa.dictNone
namespace Go.Proofs.Ytphniknckmfilaa

/-- the statement, as it was given -/
theorem dictNone_holds : Rows.DictNoneSaid :=
  dictNone.over
#print axioms dictNone_holds
end Go.Proofs.Ytphniknckmfilaa
