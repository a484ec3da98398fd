/- What instructions take, and lay: the program's word. -/
import Derived.Test.YtnojlfdojmkonaaGreatDoorCdMem
import Derived.Test.YtnojlfdojmkonaaGreatDoorJoint2
import Derived.Test.YtnojlfdojmkonaaGreatDoorProg
import Derived.Deep.WholeRow
import Derived.Deep.Cut
namespace Go.Proofs.YtnojlfdojmkonaaGreatDoor
set_option linter.unusedSimpArgs false
set_option maxRecDepth 100000
open Go.RowKit

theorem kept_calls (o : Int) (w : World) : Calls Tryz.prog 50 #[.int .i64 o] w fun e w' => e = .returned (.bool (keepB o)) ∧ w = w' := by
  have H := hid (show keepB o = ((o == 24) || (o == 25)) from rfl)
  by_cases h1 : o = 24
  · subst h1
    go_enter Tryz.func50, Tryz.ntmps50
    go_wp2_with fail
    go_ret
    exact ⟨rfl, rfl⟩
  · have e1 : (o == 24) = false := beq_eq_false_iff_ne.2 h1
    go_enter Tryz.func50, Tryz.ntmps50
    go_wp2_with fail
    go_ret
    exact ⟨by rw [H.out, e1]; rfl, rfl⟩
theorem goes_calls (o : Int) (w : World) : Calls Tryz.prog 47 #[.int .i64 o] w fun e w' => e = .returned (.bool (goB o)) ∧ w = w' := by
  have H := hid (show goB o = ((o == 22) || ((o == 23) || keepB o)) from rfl)
  by_cases h1 : o = 22
  · subst h1
    go_enter Tryz.func47, Tryz.ntmps47
    go_wp2_with fail
    go_ret
    exact ⟨rfl, rfl⟩
  · have e1 : (o == 22) = false := beq_eq_false_iff_ne.2 h1
    by_cases h2 : o = 23
    · subst h2
      go_enter Tryz.func47, Tryz.ntmps47
      go_wp2_with fail
      go_ret
      exact ⟨rfl, rfl⟩
    · have e2 : (o == 23) = false := beq_eq_false_iff_ne.2 h2
      go_enter Tryz.func47, Tryz.ntmps47
      go_wp2_with fail
      refine (kept_calls o _).mono ?_
      rintro e w1 ⟨rfl, rfl⟩
      go_wp2_with fail
      go_ret
      exact ⟨by rw [H.out, e1, e2]; rfl, rfl⟩
theorem tbuilt_calls (o : Int) (w : World) :
    Calls Tryz.prog 69 #[.int .i64 o] w fun e w' => ∃ s : ByteArray, e = .returned (.tuple #[.string s, .int .i64 (bltN o)]) ∧ s.toList.isEmpty = !(decide (1 ≤ o) && decide (o ≤ 7)) ∧ w = w' := by
  by_cases h : 1 ≤ o ∧ o ≤ 7
  · obtain rfl | rfl | rfl | rfl | rfl | rfl | rfl : o = 1 ∨ o = 2 ∨ o = 3 ∨ o = 4 ∨ o = 5 ∨ o = 6 ∨ o = 7 := by omega
    all_goals
      clear h
      go_enter Tryz.func69, Tryz.ntmps69
      go_wp2_with fail
      go_ret2
      exact ⟨_, rfl, by decide +kernel, rfl⟩
  · have H := hid (show bltN o = 0 by unfold bltN; rw [if_neg (by omega), if_neg h])
    have HB := hid (show (decide (1 ≤ o) && decide (o ≤ 7)) = false by rw [Bool.eq_false_iff]; simpa using h)
    have hne : ∀ j : Int, 1 ≤ j → j ≤ 7 → (o == j) = false := fun j h1 h2 => beq_eq_false_iff_ne.2 (by omega)
    have e1 := hne 1 (by decide) (by decide)
    have e2 := hne 2 (by decide) (by decide)
    have e3 := hne 3 (by decide) (by decide)
    have e4 := hne 4 (by decide) (by decide)
    have e5 := hne 5 (by decide) (by decide)
    have e6 := hne 6 (by decide) (by decide)
    have e7 := hne 7 (by decide) (by decide)
    clear h hne
    go_enter Tryz.func69, Tryz.ntmps69
    go_wp2_with fail
    go_ret2
    exact ⟨⟨#[]⟩, by rw [H.out]; rfl, by rw [HB.out]; decide +kernel, rfl⟩

def effA (o : Int) : Int × Int := if o = 26 then (1, 1) else if o = 28 then (2, 1) else if o = 29 then (0, 1) else effP o
theorem wpl_val {P : Program} {ops : Array Oper} {Q : Exit → Act → World → Prop} {a : Act} {w : World} {rest : List Oper} {o : Oper} (v : Value) (hy : ∀ w, (execOp a.eval o).run P w = .ok (.value v) w) (h : wpList P ops Q rest (a.put o.dst v) w) (hg : o.guard = none := by rfl) : wpList P ops Q (o :: rest) a w :=
  wpList_plain hg fun K hK => by unfold Oper.wp; rw [hy]; exact hK _ _ h
theorem wpl_new {P : Program} {ops : Array Oper} {Q : Exit → Act → World → Prop} {a : Act} {w w1 : World} {rest : List Oper} {o : Oper} (v : Value) (hy : (execOp a.eval o).run P w = .ok (.value v) w1) (h : wpList P ops Q rest (a.put o.dst v) w1) (hg : o.guard = none := by rfl) : wpList P ops Q (o :: rest) a w :=
  wpList_plain hg fun K hK => by unfold Oper.wp; rw [hy]; exact hK _ _ h
theorem wpl_store {P : Program} {ops : Array Oper} {rest : List Oper} {op : Oper} {a : Act} {w : World} {Q : Exit → Act → World → Prop} (ty : TypeId) (x y : Operand) (ho : op.op = .store ty x y) (c cells : Array Value) (hx : a.eval x = .pointer (some ⟨w.heap.size, 0, none⟩)) (hy : a.eval y = .agg cells)
    (hi : (P.info? ty).map (·.size) = some cells.size) (hc : c.size = cells.size) (h1 : cells.all (·.oneCell') = true) (h : wpList P ops Q rest (a.put op.dst undef) (w.alloc (.cells cells ty))) (hg : op.guard = none := by rfl) : wpList P ops Q (op :: rest) a (w.alloc (.cells c ty)) :=
  wpList_plain hg fun _ hK => by
    unfold Oper.wp execOp
    simp only [ho, hx, hy, Instr.storeAt, Instr.sureAddr, Sem.run_bind, Sem.run_pure, Result.andThen_ok, run_storeVar_new w ty c cells hi hc h1]
    exact hK _ _ h
theorem wpl_end {P : Program} {ops : Array Oper} {Q : Exit → Act → World → Prop} {a b : Act} {w : World} (hab : a = b) (h : Q .normal b w) : wpList P ops Q [] a w := by subst hab; unfold wpList; exact h
abbrev effCells : Array Value := #[.int .i64 0, .int .i64 0, .int .i64 0, .int .i64 0, .int .i64 0, .int .i64 1, .int .i64 0, .int .i64 1, .int .i64 0, .int .i64 1, .int .i64 0, .int .i64 1, .int .i64 0, .int .i64 1, .int .i64 0, .int .i64 1, .int .i64 0, .int .i64 1, .int .i64 1, .int .i64 0, .int .i64 0, .int .i64 1, .int .i64 1, .int .i64 0, .int .i64 0, .int .i64 1, .int .i64 2, .int .i64 1, .int .i64 1, .int .i64 1, .int .i64 2, .int .i64 0, .int .i64 2, .int .i64 1, .int .i64 3, .int .i64 0, .int .i64 1, .int .i64 0, .int .i64 2, .int .i64 0, .int .i64 1, .int .i64 1, .int .i64 2, .int .i64 1, .int .i64 0, .int .i64 0, .int .i64 1, .int .i64 0, .int .i64 1, .int .i64 0, .int .i64 1, .int .i64 0, .int .i64 1, .int .i64 1, .int .i64 1, .int .i64 2, .int .i64 2, .int .i64 1, .int .i64 0, .int .i64 1, .int .i64 1, .int .i64 0, .int .i64 1, .int .i64 0, .int .i64 1, .int .i64 0]
theorem effCells_at (j : Nat) (hj : j < 33) : effCells[j * 2]? = some (.int .i64 (effA j).1) ∧ effCells[j * 2 + 1]? = some (.int .i64 (effA j).2) := by
  rcases (show j = 0 ∨ j = 1 ∨ j = 2 ∨ j = 3 ∨ j = 4 ∨ j = 5 ∨ j = 6 ∨ j = 7 ∨ j = 8 ∨ j = 9 ∨ j = 10 ∨ j = 11 ∨ j = 12 ∨ j = 13 ∨ j = 14 ∨ j = 15 ∨ j = 16 ∨ j = 17 ∨ j = 18 ∨ j = 19 ∨ j = 20 ∨ j = 21 ∨ j = 22 ∨ j = 23 ∨ j = 24 ∨ j = 25 ∨ j = 26 ∨ j = 27 ∨ j = 28 ∨ j = 29 ∨ j = 30 ∨ j = 31 ∨ j = 32 from by omega) with rfl | rfl | rfl | rfl | rfl | rfl | rfl | rfl | rfl | rfl | rfl | rfl | rfl | rfl | rfl | rfl | rfl | rfl | rfl | rfl | rfl | rfl | rfl | rfl | rfl | rfl | rfl | rfl | rfl | rfl | rfl | rfl | rfl
  all_goals exact ⟨by rfl, by rfl⟩
set_option maxHeartbeats 3200000 in
theorem cdplain_calls (o : Int) (w : World) (h : 1 ≤ o ∧ o ≤ 32) :
    Calls Tryz.prog 68 #[.int .i64 o] w fun e w' => e = .returned (.tuple #[.int .i64 (effA o).1, .int .i64 (effA o).2]) ∧ Below w.heap.size w w' := by
  obtain ⟨j, rfl⟩ : ∃ j : Nat, o = (j : Int) := ⟨o.toNat, by omega⟩
  have hj : j < 33 := by omega
  have hji : (j : Int) < 33 := by omega
  have hb := hid (blk_new w 116 effCells)
  have BW := hid (box_below w (.cells effCells 116))
  have hat := effCells_at j hj
  have d1 := blk_cellZ hb.out (j * 2) hat.1
  have d2 := blk_cellZ hb.out (j * 2 + 1) hat.2
  clear h hat
  generalize effA j = E at *
  go_enter Tryz.func68, Tryz.ntmps68
  go_upto_region 1 with fail
  refine wp_region_lit ?_
  refine wpl_val (.agg #[.int .i64 0, .int .i64 1]) (fun w => by kernel_rfl) ?_
  refine wpl_val (.agg #[.int .i64 0, .int .i64 1]) (fun w => by kernel_rfl) ?_
  refine wpl_val (.agg #[.int .i64 0, .int .i64 1]) (fun w => by kernel_rfl) ?_
  refine wpl_val (.agg #[.int .i64 0, .int .i64 1]) (fun w => by kernel_rfl) ?_
  refine wpl_val (.agg #[.int .i64 0, .int .i64 1]) (fun w => by kernel_rfl) ?_
  refine wpl_val (.agg #[.int .i64 0, .int .i64 1]) (fun w => by kernel_rfl) ?_
  refine wpl_val (.agg #[.int .i64 0, .int .i64 1]) (fun w => by kernel_rfl) ?_
  refine wpl_val (.agg #[.int .i64 1, .int .i64 0]) (fun w => by kernel_rfl) ?_
  refine wpl_val (.agg #[.int .i64 0, .int .i64 1]) (fun w => by kernel_rfl) ?_
  refine wpl_val (.agg #[.int .i64 1, .int .i64 0]) (fun w => by kernel_rfl) ?_
  refine wpl_val (.agg #[.int .i64 0, .int .i64 1]) (fun w => by kernel_rfl) ?_
  refine wpl_val (.agg #[.int .i64 2, .int .i64 1]) (fun w => by kernel_rfl) ?_
  refine wpl_val (.agg #[.int .i64 1, .int .i64 1]) (fun w => by kernel_rfl) ?_
  refine wpl_val (.agg #[.int .i64 2, .int .i64 0]) (fun w => by kernel_rfl) ?_
  refine wpl_val (.agg #[.int .i64 2, .int .i64 1]) (fun w => by kernel_rfl) ?_
  refine wpl_val (.agg #[.int .i64 3, .int .i64 0]) (fun w => by kernel_rfl) ?_
  refine wpl_val (.agg #[.int .i64 1, .int .i64 0]) (fun w => by kernel_rfl) ?_
  refine wpl_val (.agg #[.int .i64 2, .int .i64 0]) (fun w => by kernel_rfl) ?_
  refine wpl_val (.agg #[.int .i64 1, .int .i64 1]) (fun w => by kernel_rfl) ?_
  refine wpl_val (.agg #[.int .i64 2, .int .i64 1]) (fun w => by kernel_rfl) ?_
  refine wpl_val (.agg #[.int .i64 1, .int .i64 0]) (fun w => by kernel_rfl) ?_
  refine wpl_val (.agg #[.int .i64 1, .int .i64 0]) (fun w => by kernel_rfl) ?_
  refine wpl_val (.agg #[.int .i64 1, .int .i64 0]) (fun w => by kernel_rfl) ?_
  refine wpl_val (.agg #[.int .i64 1, .int .i64 1]) (fun w => by kernel_rfl) ?_
  refine wpl_val (.agg #[.int .i64 1, .int .i64 2]) (fun w => by kernel_rfl) ?_
  refine wpl_val (.agg #[.int .i64 2, .int .i64 1]) (fun w => by kernel_rfl) ?_
  refine wpl_val (.agg #[.int .i64 0, .int .i64 1]) (fun w => by kernel_rfl) ?_
  refine wpl_val (.agg #[.int .i64 1, .int .i64 0]) (fun w => by kernel_rfl) ?_
  refine wpl_val (.agg #[.int .i64 1, .int .i64 0]) (fun w => by kernel_rfl) ?_
  refine wpl_val (.agg #[.int .i64 1, .int .i64 0]) (fun w => by kernel_rfl) ?_
  refine wpl_val (.agg effCells) (fun w => by kernel_rfl) ?_
  refine wpl_new (w1 := w.alloc (.cells #[.int .i64 0, .int .i64 0, .int .i64 0, .int .i64 0, .int .i64 0, .int .i64 0, .int .i64 0, .int .i64 0, .int .i64 0, .int .i64 0, .int .i64 0, .int .i64 0, .int .i64 0, .int .i64 0, .int .i64 0, .int .i64 0, .int .i64 0, .int .i64 0, .int .i64 0, .int .i64 0, .int .i64 0, .int .i64 0, .int .i64 0, .int .i64 0, .int .i64 0, .int .i64 0, .int .i64 0, .int .i64 0, .int .i64 0, .int .i64 0, .int .i64 0, .int .i64 0, .int .i64 0, .int .i64 0, .int .i64 0, .int .i64 0, .int .i64 0, .int .i64 0, .int .i64 0, .int .i64 0, .int .i64 0, .int .i64 0, .int .i64 0, .int .i64 0, .int .i64 0, .int .i64 0, .int .i64 0, .int .i64 0, .int .i64 0, .int .i64 0, .int .i64 0, .int .i64 0, .int .i64 0, .int .i64 0, .int .i64 0, .int .i64 0, .int .i64 0, .int .i64 0, .int .i64 0, .int .i64 0, .int .i64 0, .int .i64 0, .int .i64 0, .int .i64 0, .int .i64 0, .int .i64 0] 116)) (.pointer (some ⟨w.heap.size, 0, none⟩)) (by kernel_rfl) ?_
  refine wpl_store 116 (.tmp 4) (.tmp 35) rfl _ effCells (by kernel_rfl) (by kernel_rfl) (by kernel_rfl) rfl (by kernel_rfl) ?_
  refine wpl_end (b := ⟨#[.int .i64 j, undef, .int .i64 0, .int .i64 0, .pointer (some ⟨w.heap.size, 0, none⟩), .agg #[.int .i64 0, .int .i64 1], .agg #[.int .i64 0, .int .i64 1], .agg #[.int .i64 0, .int .i64 1], .agg #[.int .i64 0, .int .i64 1], .agg #[.int .i64 0, .int .i64 1], .agg #[.int .i64 0, .int .i64 1], .agg #[.int .i64 0, .int .i64 1], .agg #[.int .i64 1, .int .i64 0], .agg #[.int .i64 0, .int .i64 1], .agg #[.int .i64 1, .int .i64 0], .agg #[.int .i64 0, .int .i64 1], .agg #[.int .i64 2, .int .i64 1], .agg #[.int .i64 1, .int .i64 1], .agg #[.int .i64 2, .int .i64 0], .agg #[.int .i64 2, .int .i64 1], .agg #[.int .i64 3, .int .i64 0], .agg #[.int .i64 1, .int .i64 0], .agg #[.int .i64 2, .int .i64 0], .agg #[.int .i64 1, .int .i64 1], .agg #[.int .i64 2, .int .i64 1], .agg #[.int .i64 1, .int .i64 0], .agg #[.int .i64 1, .int .i64 0], .agg #[.int .i64 1, .int .i64 0], .agg #[.int .i64 1, .int .i64 1], .agg #[.int .i64 1, .int .i64 2], .agg #[.int .i64 2, .int .i64 1], .agg #[.int .i64 0, .int .i64 1], .agg #[.int .i64 1, .int .i64 0], .agg #[.int .i64 1, .int .i64 0], .agg #[.int .i64 1, .int .i64 0], .agg effCells, undef, undef, undef, undef, undef, undef, undef, undef], []⟩) (by kernel_rfl) ?_
  generalize Value.agg effCells = AG at *
  generalize hW : w.alloc (.cells effCells 116) = w1 at *
  go_wp2_with fail
  refine wp_region_held_drew (S := fun aZ => aZ.cell? ⟨w.heap.size, j * 2, none⟩ = some (.int .i64 E.1) ∧ aZ.cell? ⟨w.heap.size, j * 2 + 1, none⟩ = some (.int .i64 E.2)) (by kernel_rfl) ?_ (fun hHeld => ?_)
  · (refine ⟨?_, ?_⟩ <;> go_simp)
  refine tkk 0 ?_
  refine tkk 1 ?_
  refine tkk 2 ?_
  refine tkk 3 ?_
  refine tkk 4 ?_
  refine tkk 5 ?_
  refine tkk 6 ?_
  refine tkk 7 ?_
  refine tkk 8 ?_
  refine tkk 9 ?_
  refine wpAnyH_done (by kernel_rfl) ?_ _
  go_wp2_with fail
  go_ret2
  exact ⟨rfl, BW.out.drew⟩

theorem effI_A (o a : Int) (h1 : o ≠ 26) (h2 : o ≠ 28) (h3 : o ≠ 29) : effI o a = effA o := by
  unfold effI effA
  rw [if_neg h1, if_neg h2, if_neg h3, if_neg h1, if_neg h2, if_neg h3]
theorem effP_no (o : Int) (h : o < 1 ∨ 32 < o) : effP o = (0, 0) := by
  unfold effP
  rw [if_neg (by omega), if_neg (by omega), if_neg (by omega), if_neg (by omega), if_neg (by omega), if_neg (by omega), if_neg (by omega)]
theorem effI_no (o a : Int) (h : o < 1 ∨ 32 < o) : effI o a = (0, 0) := by
  rw [effI_A o a (by omega) (by omega) (by omega)]
  unfold effA
  rw [if_neg (by omega), if_neg (by omega), if_neg (by omega), effP_no o h]
set_option maxHeartbeats 3200000 in
theorem effect_calls (o a b : Int) (w : World) : Calls Tryz.prog 48 #[.agg #[.int .i64 o, .int .i64 a, .int .i64 b]] w fun e w' => e = .returned (.tuple #[.int .i64 (effI o a).1, .int .i64 (effI o a).2]) ∧ Below w.heap.size w w' := by
  have AL := hid (box_below w (.cells #[.int .i64 o, .int .i64 a, .int .i64 b] 67))
  have BL := hid (blk_new w 67 #[.int .i64 o, .int .i64 a, .int .i64 b])
  by_cases h1 : o < 1
  · have H := hid (effI_no o a (.inl h1))
    go_enter Tryz.func48, Tryz.ntmps48
    go_wp2_with fail
    go_ret2
    exact ⟨by rw [H.out]; rfl, AL.out⟩
  by_cases h2 : 32 < o
  · have H := hid (effI_no o a (.inr h2))
    go_enter Tryz.func48, Tryz.ntmps48
    go_wp2_with fail
    go_ret2
    exact ⟨by rw [H.out]; rfl, AL.out⟩
  have c0 := blk_cellZ BL.out 0 rfl
  have c1 := blk_cellZ BL.out 1 rfl
  have c2 := blk_cellZ BL.out 2 rfl
  have hsz : (w.alloc (.cells #[.int .i64 o, .int .i64 a, .int .i64 b] 67)).heap.size = w.heap.size + 1 := by simp
  by_cases h26 : o = 26 ∨ o = 28
  · have ho : 1 ≤ o ∧ o ≤ 32 := by omega
    have PL := hid (fun W => cdplain_calls o W ho)
    obtain ⟨x, hx1, hx2⟩ : ∃ x : Int, effA o = (x, 1) ∧ effI o a = if 0 ≤ a ∧ a ≤ 6 then (a + x, 1) else (0, 0) := by
      rcases h26 with rfl | rfl
      · exact ⟨1, rfl, rfl⟩
      · exact ⟨2, rfl, rfl⟩
    have hx3 : 1 ≤ x ∧ x ≤ 2 := by
      rcases h26 with rfl | rfl
      · have := congrArg Prod.fst hx1
        have h : (1 : Int) = x := this
        omega
      · have := congrArg Prod.fst hx1
        have h : (2 : Int) = x := this
        omega
    rw [hx1] at PL
    have HX := hid hx2
    clear hx1 hx2 ho h1 h2
    generalize hW : w.alloc (.cells #[.int .i64 o, .int .i64 a, .int .i64 b] 67) = w1 at *
    rcases h26 with rfl | rfl
    all_goals
      go_enter Tryz.func48, Tryz.ntmps48
      go_wp2_with fail
      refine (PL.out _).mono ?_
      rintro e w2 ⟨rfl, b2⟩
      replace c0 := cellB b2 (by simp; omega) c0
      replace c1 := cellB b2 (by simp; omega) c1
      have B2 := hid (AL.out.trans (b2.mono (by omega)))
      clear b2 PL c2
      by_cases ha : 0 ≤ a
      · by_cases hb : a ≤ 6
        · have H := hid (HX.out.trans (if_pos ⟨ha, hb⟩))
          go_wp2_with fail
          go_ret2
          exact ⟨by rw [H.out]; simp; omega, B2.out⟩
        · have H := hid (HX.out.trans (if_neg (by omega)))
          go_wp2_with fail
          go_ret2
          exact ⟨by rw [H.out]; rfl, B2.out⟩
      · have H := hid (HX.out.trans (if_neg (by omega)))
        go_wp2_with fail
        go_ret2
        exact ⟨by rw [H.out]; rfl, B2.out⟩
  have ho : 1 ≤ o ∧ o ≤ 32 := by omega
  have PL := hid (fun W => cdplain_calls o W ho)
  by_cases h29 : o = 29
  · subst h29
    rw [show effA 29 = (0, 1) from rfl] at PL
    have HX := hid (show effI 29 a = if 1 ≤ a ∧ a ≤ 7 then (bltN a, 1) else (0, 0) from rfl)
    clear ho h1 h2 h26
    generalize hW : w.alloc (.cells #[.int .i64 29, .int .i64 a, .int .i64 b] 67) = w1 at *
    go_enter Tryz.func48, Tryz.ntmps48
    go_wp2_with fail
    refine (PL.out _).mono ?_
    rintro e w2 ⟨rfl, b2⟩
    replace c0 := cellB b2 (by simp; omega) c0
    replace c1 := cellB b2 (by simp; omega) c1
    have B2 := hid (AL.out.trans (b2.mono (by omega)))
    clear b2 PL c2
    go_wp2_with fail
    refine (tbuilt_calls a _).mono ?_
    rintro e w3 ⟨s, rfl, hs, rfl⟩
    have hbl : 0 ≤ bltN a ∧ bltN a ≤ 2 := by
      unfold bltN
      split
      · omega
      · split <;> omega
    by_cases ha : 1 ≤ a ∧ a ≤ 7
    · have H := hid (HX.out.trans (if_pos ha))
      replace hs : s.toList.isEmpty = false := by rw [hs]; simpa using ha
      clear HX ha
      go_wp2_with fail
      go_ret2
      exact ⟨by rw [H.out]; simp, B2.out⟩
    · have H := hid (HX.out.trans (if_neg ha))
      replace hs : s.toList.isEmpty = true := by rw [hs]; simp; omega
      clear HX ha
      go_wp2_with fail
      go_ret2
      exact ⟨by rw [H.out]; rfl, B2.out⟩
  have H := hid (effI_A o a (by omega) (by omega) h29)
  have e26 : (o == 26) = false := beq_eq_false_iff_ne.2 (by omega)
  have e28 : (o == 28) = false := beq_eq_false_iff_ne.2 (by omega)
  have e29 : (o == 29) = false := beq_eq_false_iff_ne.2 (by omega)
  have l1 : decide (o < 1) = false := decide_eq_false h1
  have l2 : decide (32 < o) = false := decide_eq_false h2
  clear ho h1 h2 h26 h29
  generalize effA o = E at *
  generalize hW : w.alloc (.cells #[.int .i64 o, .int .i64 a, .int .i64 b] 67) = w1 at *
  go_enter Tryz.func48, Tryz.ntmps48
  go_wp2_with fail
  refine (PL.out _).mono ?_
  rintro e w2 ⟨rfl, b2⟩
  replace c0 := cellB b2 (by simp; omega) c0
  replace c1 := cellB b2 (by simp; omega) c1
  have B2 := hid (AL.out.trans (b2.mono (by omega)))
  clear b2 PL c2
  go_wp2_with fail
  go_ret2
  exact ⟨by rw [H.out]; rfl, B2.out⟩

end Go.Proofs.YtnojlfdojmkonaaGreatDoor
