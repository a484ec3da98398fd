/- Names of instructions, and how many numbers they have. -/
import Derived.Test.YtnojlfdojmkonaaGreatDoorAsLib
import Derived.Test.YtnojlfdojmkonaaGreatDoorCdMem
import Derived.Deep.WholeRow
namespace Go.Proofs.YtnojlfdojmkonaaGreatDoor
set_option linter.unusedSimpArgs false
set_option maxRecDepth 100000
open Go.RowKit

/-- the names as values -/
def namA : Array Value := (namL.map Value.string).toArray
theorem results_cell {fn : Func} {t : Tmp} {T : TypeId} (h : fn.results = #[.cell t T]) (tmps : Array Value) (P : Program) (w : World) {a : Addr} {v : Value} (ha : tmps.getD t undef = .pointer (some a)) (hv : (loadVar T a).run P w = .ok v w) : (results fn tmps).run P w = .ok v w := by
  rw [Array.getD_eq_getD_getElem?] at ha
  simp [results, h, ha, asAddr, hv]
theorem index_arr {P : Program} (w : World) {t e : TypeId} {n : Nat} {cs : Array Value} {i : Int} {v : Value} (hu : P.underlying t = some (.array n e)) (hs : ∀ w, (sizeOf e).run P w = .ok 1 w) (hi : 0 ≤ i ∧ i < (n : Int)) (ha : ∀ w, (isAgg e).run P w = .ok false w) (hv : cs[i.toNat]? = some v) : (Instr.index t (.agg cs) (.int .i64 i)).run P w = .ok v w := by
  simp [Instr.index, run_underlying hu, asIntOf, hi, hs, part, ha, hv, go_sem]
/-- a whole array is stored into the block that was made last -/
theorem store_arr {ops : Array Oper} {rest : List Oper} {o : Oper} {a : Act} {Q : Exit → Act → World → Prop} {w : World} {T : TypeId} {c c' : Array Value} (hgd : o.guard = none) (p v : Operand) (ho : o.op = .store T p v) (hp : a.eval p = .pointer (some ⟨w.heap.size, 0, none⟩)) (hv : a.eval v = .agg c')
    (hi : (Tryz.prog.info? T).map (·.size) = some c'.size) (hs : c.size = c'.size) (h1 : c'.all (·.oneCell') = true) (h : wpList Tryz.prog ops Q rest (a.put o.dst undef) (w.alloc (.cells c' T))) : wpList Tryz.prog ops Q (o :: rest) a (w.alloc (.cells c T)) := by
  refine wpList_plain hgd fun _ hK => ?_
  have hrun := run_storeAt_new (P := Tryz.prog) w T c c' hi hs h1
  unfold Oper.wp
  simp [execOp, ho, hp, hv, hrun, Result.andThen]
  exact hK _ _ h
set_option maxHeartbeats 1600000 in
theorem names_calls (w : World) : Calls Tryz.prog 21 #[] w fun e w' => e = .returned (.agg namA) ∧ Below w.heap.size w w' := by
  have AL := hid (fun (o : Obj) => (Below.refl w.heap.size w).alloc (Nat.le_refl _) o)
  go_enter Tryz.func21, Tryz.ntmps21
  go_wp2_with (first | (refine store_arr (c' := namA) rfl _ _ rfl rfl rfl (by kernel_rfl) rfl (by kernel_rfl) ?_) | fail)
  refine bodyPost_ret (v := .agg namA) (results_cell rfl _ _ _ rfl ?_) rfl ?_
  · as_aux_lemma => exact run_loadVar_new w 56 _ 33 9 Tryz.underlying56 (by kernel_rfl)
  · as_aux_lemma => exact ⟨rfl, AL.out _⟩
theorem nam_val {o : Int} (h : 1 ≤ o ∧ o ≤ 32) : namA[o.toNat]? = some (.string ⟨(opW o).toArray⟩) := by
  have hat := nam_at ⟨o.toNat, by omega⟩ (by simp; omega)
  have e : ((⟨o.toNat, by omega⟩ : Fin 33).val : Int) = o := by simp; omega
  rw [e] at hat
  simp only at hat
  unfold namA
  have hl : o.toNat < namL.length := by rw [nam_len]; omega
  rw [List.getElem?_toArray, List.getElem?_map, List.getElem?_eq_getElem hl]
  rw [List.getD_eq_getElem?_getD, List.getElem?_eq_getElem hl, Option.getD_some] at hat
  simp only [Option.map_some, Option.some.injEq, Value.string.injEq]
  exact arr_list hat
set_option maxHeartbeats 1600000 in
theorem aname_calls (o : Int) (w : World) : Calls Tryz.prog 11 #[.int .i64 o] w fun e w' => e = .returned (.string ⟨(opW o).toArray⟩) ∧ Below w.heap.size w w' := by
  by_cases h1 : o < 1
  · have e : opW o = [] := by unfold opW; rw [if_neg (by omega)]
    rw [e]
    have d1 : decide (o < 1) = true := decide_eq_true h1
    go_enter Tryz.func11, Tryz.ntmps11
    go_wp2_with fail
    go_ret
    exact ⟨rfl, Below.refl _ _⟩
  · have d1 : decide (o < 1) = false := decide_eq_false h1
    by_cases h2 : 32 < o
    · have e : opW o = [] := by unfold opW; rw [if_neg (by omega)]
      rw [e]
      have d2 : decide (o > 32) = true := decide_eq_true h2
      go_enter Tryz.func11, Tryz.ntmps11
      go_wp2_with fail
      go_ret
      exact ⟨rfl, Below.refl _ _⟩
    · have d2 : decide (o > 32) = false := decide_eq_false (by omega)
      have hv := nam_val (o := o) ⟨by omega, by omega⟩
      have NC := hid (names_calls w)
      obtain ⟨A, hA⟩ : ∃ A, A = namA := ⟨_, rfl⟩
      have hs : A.size = 33 := by rw [hA]; rfl
      rw [← hA] at hv NC
      clear hA
      have hix := fun W => index_arr (P := Tryz.prog) W Tryz.underlying56 Tryz.sizeOf9 (i := o) ⟨by omega, by omega⟩ Tryz.isAgg9 hv
      generalize opW o = z at *
      go_enter Tryz.func11, Tryz.ntmps11
      go_wp2_with fail
      refine NC.out.mono ?_
      rintro e w2 ⟨rfl, b2⟩
      have B2 := hid b2
      clear b2
      go_wp2_with fail
      go_ret
      exact ⟨rfl, B2.out⟩

/-! how many numbers -/
theorem aparts_calls (o : Int) (w : World) : Calls Tryz.prog 33 #[.int .i64 o] w fun e w' => e = .returned (.int .i64 (prtN o : Nat)) ∧ w' = w := by
  by_cases h0 : o = 2 ∨ o = 6 ∨ o = 12 ∨ o = 16 ∨ o = 17 ∨ o = 19 ∨ o = 30 ∨ o = 31 ∨ o = 32
  · rcases h0 with rfl | rfl | rfl | rfl | rfl | rfl | rfl | rfl | rfl
    all_goals
      go_enter Tryz.func33, Tryz.ntmps33
      go_wp2_with fail
      go_ret
      exact ⟨rfl, rfl⟩
  by_cases h2 : o = 13 ∨ o = 14 ∨ o = 15 ∨ o = 27
  · rcases h2 with rfl | rfl | rfl | rfl
    all_goals
      go_enter Tryz.func33, Tryz.ntmps33
      go_wp2_with fail
      go_ret
      exact ⟨rfl, rfl⟩
  have hp : prtN o = 1 := by unfold prtN; rw [if_neg h0, if_neg h2]
  rw [hp]
  have d2 : (o == 2) = false := by rw [beq_eq_false_iff_ne]; omega
  have d6 : (o == 6) = false := by rw [beq_eq_false_iff_ne]; omega
  have d12 : (o == 12) = false := by rw [beq_eq_false_iff_ne]; omega
  have d16 : (o == 16) = false := by rw [beq_eq_false_iff_ne]; omega
  have d17 : (o == 17) = false := by rw [beq_eq_false_iff_ne]; omega
  have d19 : (o == 19) = false := by rw [beq_eq_false_iff_ne]; omega
  have d30 : (o == 30) = false := by rw [beq_eq_false_iff_ne]; omega
  have d31 : (o == 31) = false := by rw [beq_eq_false_iff_ne]; omega
  have d32 : (o == 32) = false := by rw [beq_eq_false_iff_ne]; omega
  have d13 : (o == 13) = false := by rw [beq_eq_false_iff_ne]; omega
  have d14 : (o == 14) = false := by rw [beq_eq_false_iff_ne]; omega
  have d15 : (o == 15) = false := by rw [beq_eq_false_iff_ne]; omega
  have d27 : (o == 27) = false := by rw [beq_eq_false_iff_ne]; omega
  clear h0 h2 hp
  go_enter Tryz.func33, Tryz.ntmps33
  go_wp2_with fail
  go_ret
  exact ⟨rfl, rfl⟩
theorem rparts_calls (o : Int) (w : World) : Calls Tryz.prog 41 #[.int .i64 o] w fun e w' => e = .returned (.int .i64 (prtN o : Nat)) ∧ w' = w := by
  by_cases h0 : o = 2 ∨ o = 6 ∨ o = 12 ∨ o = 16 ∨ o = 17 ∨ o = 19 ∨ o = 30 ∨ o = 31 ∨ o = 32
  · rcases h0 with rfl | rfl | rfl | rfl | rfl | rfl | rfl | rfl | rfl
    all_goals
      go_enter Tryz.func41, Tryz.ntmps41
      go_wp2_with fail
      go_ret
      exact ⟨rfl, rfl⟩
  by_cases h2 : o = 13 ∨ o = 14 ∨ o = 15 ∨ o = 27
  · rcases h2 with rfl | rfl | rfl | rfl
    all_goals
      go_enter Tryz.func41, Tryz.ntmps41
      go_wp2_with fail
      go_ret
      exact ⟨rfl, rfl⟩
  have hp : prtN o = 1 := by unfold prtN; rw [if_neg h0, if_neg h2]
  rw [hp]
  have d2 : (o == 2) = false := by rw [beq_eq_false_iff_ne]; omega
  have d6 : (o == 6) = false := by rw [beq_eq_false_iff_ne]; omega
  have d12 : (o == 12) = false := by rw [beq_eq_false_iff_ne]; omega
  have d16 : (o == 16) = false := by rw [beq_eq_false_iff_ne]; omega
  have d17 : (o == 17) = false := by rw [beq_eq_false_iff_ne]; omega
  have d19 : (o == 19) = false := by rw [beq_eq_false_iff_ne]; omega
  have d30 : (o == 30) = false := by rw [beq_eq_false_iff_ne]; omega
  have d31 : (o == 31) = false := by rw [beq_eq_false_iff_ne]; omega
  have d32 : (o == 32) = false := by rw [beq_eq_false_iff_ne]; omega
  have d13 : (o == 13) = false := by rw [beq_eq_false_iff_ne]; omega
  have d14 : (o == 14) = false := by rw [beq_eq_false_iff_ne]; omega
  have d15 : (o == 15) = false := by rw [beq_eq_false_iff_ne]; omega
  have d27 : (o == 27) = false := by rw [beq_eq_false_iff_ne]; omega
  clear h0 h2 hp
  go_enter Tryz.func41, Tryz.ntmps41
  go_wp2_with fail
  go_ret
  exact ⟨rfl, rfl⟩

end Go.Proofs.YtnojlfdojmkonaaGreatDoor
