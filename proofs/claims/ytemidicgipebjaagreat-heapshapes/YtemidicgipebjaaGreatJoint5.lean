/- Objects of slots: a value changed, a slot more, as a dictionary. A property more, one less, another prototype: of dictionaries. A property more, one less, another prototype: of objects of slots. -/
import Derived.Test.YtemidicgipebjaaGreatHpObj
import Derived.Test.YtemidicgipebjaaGreatHpDic
import Derived.Test.YtemidicgipebjaaGreatRowApp
namespace Go.Proofs.YtemidicgipebjaaGreat
set_option linter.unusedSimpArgs false
set_option maxRecDepth 100000
open Go.RowKit

set_option maxHeartbeats 1000000 in
theorem schange_calls {H : He} {c n f q : Nat} {col : Nat → Nat} {sh : Int} {l : List Ent} {v : Value} (w : World) (C : Cls H c n f col w) (h : SlAt c sh l q v w) (s : ByteArray) (hs : s.size ≤ 1000000) (x : Vl) :
    Calls Tryz.prog 160 #[.pointer (some ⟨q, 0, none⟩), .string s, vlV x] w fun e w' => e = .returned (.bool (slotL l (slotN H.N H.L sh s)).isSome) ∧ SlAt c sh (putL l (slotN H.N H.L sh s) x) q v w' ∧ Keep (FtL q v) w w' := by
  obtain ⟨c0, c1, c2, hq⟩ := h.cells
  have hqn : q ≠ w.heap.size := by omega
  have A := ((Below.refl w.heap.size w).alloc (Nat.le_refl _) (Obj.cells #[.int .i64 x.1, .int .i64 x.2.1, .string x.2.2] 26)).drew
  have HA := hid A
  have HH := hid (h.on A)
  have HSl := hid (cslot_calls _ (C.on A) sh s hs)
  have hvb : Hid (∀ b, FtL q v b → b < w.heap.size) := hid (fun b hb => h.lt hb)
  clear h C A
  generalize slotN H.N H.L sh s = i at *
  unfold vlV
  go_enter Tryz.func160, Tryz.ntmps160
  go_wp2_with fail
  refine wp_region_held_drew (S := fun a => a.cell? ⟨q, 0, none⟩ = some (.pointer (some ⟨c, 0, none⟩)) ∧ a.cell? ⟨q, 1, none⟩ = some (.int .i64 sh) ∧ a.cell? ⟨w.heap.size, 0, none⟩ = some (.int .i64 x.1) ∧ a.cell? ⟨w.heap.size, 1, none⟩ = some (.int .i64 x.2.1) ∧ a.cell? ⟨w.heap.size, 2, none⟩ = some (.string x.2.2)) (by kernel_rfl) ?_ (fun hHeld => ?_)
  · (refine ⟨?_, ?_, ?_, ?_, ?_⟩ <;> go_simp)
  refine wpAnyH_take (i := 0) (v := ?v1) rfl (by kernel_rfl) (by kernel_rfl) (by kernel_rfl) (fun _ _ _ h => h) (Or.inl ⟨by rfl, ?hy1⟩) (by assumption) ?_
  case hy1 => (intro w hSw; go_simp <;> (try with_reducible rfl))
  simp only [Act.put, List.setIfInBounds_toArray, List.set_cons_zero, List.set_cons_succ, List.getElem_toArray, List.getElem_cons_succ, List.getElem_cons_zero]
  refine wpAnyH_take (i := 1) (v := ?v2) rfl (by kernel_rfl) (by kernel_rfl) (by kernel_rfl) (fun _ _ _ h => h) (Or.inl ⟨by rfl, ?hy2⟩) (by assumption) ?_
  case hy2 => (intro w hSw; go_simp <;> (try with_reducible rfl))
  simp only [Act.put, List.setIfInBounds_toArray, List.set_cons_zero, List.set_cons_succ, List.getElem_toArray, List.getElem_cons_succ, List.getElem_cons_zero]
  refine wpAnyH_take (i := 2) (v := ?v3) rfl (by kernel_rfl) (by kernel_rfl) (by kernel_rfl) (fun _ _ _ h => h) (Or.inl ⟨by rfl, ?hy3⟩) (by assumption) ?_
  case hy3 => (intro w hSw; go_simp <;> (try with_reducible rfl))
  simp only [Act.put, List.setIfInBounds_toArray, List.set_cons_zero, List.set_cons_succ, List.getElem_toArray, List.getElem_cons_succ, List.getElem_cons_zero]
  refine wpAnyH_take (i := 3) (v := ?v4) rfl (by kernel_rfl) (by kernel_rfl) (by kernel_rfl) (fun _ _ _ h => h) (Or.inl ⟨by rfl, ?hy4⟩) (by assumption) ?_
  case hy4 => (intro w hSw; go_simp <;> (try with_reducible rfl))
  simp only [Act.put, List.setIfInBounds_toArray, List.set_cons_zero, List.set_cons_succ, List.getElem_toArray, List.getElem_cons_succ, List.getElem_cons_zero]
  refine wpAnyH_take (i := 4) (v := ?v5) rfl (by kernel_rfl) (by kernel_rfl) (by kernel_rfl) (fun _ _ _ h => h) (Or.inl ⟨by rfl, ?hy5⟩) (by assumption) ?_
  case hy5 => (intro w hSw; go_simp <;> (try with_reducible rfl))
  simp only [Act.put, List.setIfInBounds_toArray, List.set_cons_zero, List.set_cons_succ, List.getElem_toArray, List.getElem_cons_succ, List.getElem_cons_zero]
  refine wpAnyH_take (i := 5) (v := ?v6) rfl (by kernel_rfl) (by kernel_rfl) (by kernel_rfl) (fun _ _ _ h => h) (Or.inl ⟨by rfl, ?hy6⟩) (by assumption) ?_
  case hy6 => (intro w hSw; go_simp <;> (try with_reducible rfl))
  simp only [Act.put, List.setIfInBounds_toArray, List.set_cons_zero, List.set_cons_succ, List.getElem_toArray, List.getElem_cons_succ, List.getElem_cons_zero]
  refine wpAnyH_take (i := 6) (v := ?v7) rfl (by kernel_rfl) (by kernel_rfl) (by kernel_rfl) (fun _ _ _ h => h) (Or.inl ⟨by rfl, ?hy7⟩) (by assumption) ?_
  case hy7 => (intro w hSw; go_simp <;> (try with_reducible rfl))
  simp only [Act.put, List.setIfInBounds_toArray, List.set_cons_zero, List.set_cons_succ, List.getElem_toArray, List.getElem_cons_succ, List.getElem_cons_zero]
  refine wpAnyH_take (i := 7) (v := ?v8) rfl (by kernel_rfl) (by kernel_rfl) (by kernel_rfl) (fun _ _ _ h => h) (Or.inl ⟨by rfl, ?hy8⟩) (by assumption) ?_
  case hy8 => (intro w hSw; go_simp <;> (try with_reducible rfl))
  simp only [Act.put, List.setIfInBounds_toArray, List.set_cons_zero, List.set_cons_succ, List.getElem_toArray, List.getElem_cons_succ, List.getElem_cons_zero]
  refine wpAnyH_take (i := 8) (v := ?v9) rfl (by kernel_rfl) (by kernel_rfl) (by kernel_rfl) (fun _ _ _ h => h) (Or.inl ⟨by rfl, ?hy9⟩) (by assumption) ?_
  case hy9 => (intro w hSw; go_simp <;> (try with_reducible rfl))
  simp only [Act.put, List.setIfInBounds_toArray, List.set_cons_zero, List.set_cons_succ, List.getElem_toArray, List.getElem_cons_succ, List.getElem_cons_zero]
  refine wpAnyH_take (i := 9) (v := ?v10) rfl (by kernel_rfl) (by kernel_rfl) (by kernel_rfl) (fun _ _ _ h => h) (Or.inl ⟨by rfl, ?hy10⟩) (by assumption) ?_
  case hy10 => (intro w hSw; go_simp <;> (try with_reducible rfl))
  simp only [Act.put, List.setIfInBounds_toArray, List.set_cons_zero, List.set_cons_succ, List.getElem_toArray, List.getElem_cons_succ, List.getElem_cons_zero]
  refine wpAnyH_take (i := 11) (v := ?v11) rfl (by kernel_rfl) (by kernel_rfl) (by kernel_rfl) (fun _ _ _ h => h) (Or.inl ⟨by rfl, ?hy11⟩) (by assumption) ?_
  case hy11 => (intro w hSw; go_simp <;> (try with_reducible rfl))
  simp only [Act.put, List.setIfInBounds_toArray, List.set_cons_zero, List.set_cons_succ, List.getElem_toArray, List.getElem_cons_succ, List.getElem_cons_zero]
  refine wpAnyH_ready (rs := [10]) (by kernel_rfl) (by simp) ?_
  refine AllReadyH.cons rfl (fun K hK => ?_) AllReadyH.nil
  go_simp
  refine HSl.out.mono ?_
  rintro e1 w1 ⟨rfl, b1⟩
  have HV := hid (sput_calls w1 (HH.out.on b1) i x)
  have B1 := hid (below_on HA.out b1)
  obtain ⟨d0, d1, _, dq⟩ := (HH.out.on b1).cells
  have wl : w.heap.size < ((w.alloc (Obj.cells #[.int .i64 x.1, .int .i64 x.2.1, .string x.2.2] 26)).drew).heap.size := by simp
  have x0 := cell_on (c := w1) (a := (w.alloc (Obj.cells #[.int .i64 x.1, .int .i64 x.2.1, .string x.2.2] 26)).drew) (g := w.heap.size) (i := 0) (v := .int .i64 x.1) (by simp) wl b1
  have x1 := cell_on (c := w1) (a := (w.alloc (Obj.cells #[.int .i64 x.1, .int .i64 x.2.1, .string x.2.2] 26)).drew) (g := w.heap.size) (i := 1) (v := .int .i64 x.2.1) (by simp) wl b1
  have x2 := cell_on (c := w1) (a := (w.alloc (Obj.cells #[.int .i64 x.1, .int .i64 x.2.1, .string x.2.2] 26)).drew) (g := w.heap.size) (i := 2) (v := .string x.2.2) (by simp) wl b1
  have wl1 := Nat.lt_of_lt_of_le wl b1.size
  unfold vlV at HV
  clear b1 HSl HA wl
  go_simp
  refine hK.out _ _ ?_ (fun _ => ?_)
  · (refine ⟨?_, ?_, ?_, ?_, ?_⟩ <;> (first | assumption | go_simp))
  clear hK K
  refine wpAnyH_ready (rs := [12]) (by kernel_rfl) (by simp) ?_
  refine AllReadyH.cons rfl (fun K hK => ?_) AllReadyH.nil
  go_simp
  refine HV.out.mono ?_
  rintro e2 w2 ⟨rfl, h2, k2⟩
  have R := hid (show SlAt c sh (putL l i x) q v w2 ∧ Keep (FtL q v) w w2 from ⟨h2, (Keep.of B1.out).trans k2 (fun _ _ h => h)⟩)
  have nw : ¬ FtL q v w.heap.size := fun e => Nat.lt_irrefl _ (hvb.out _ e)
  obtain ⟨p0, p1, _, _⟩ := h2.cells
  have x0 := cell_keep x0 wl1 k2 nw
  have x1 := cell_keep x1 wl1 k2 nw
  have x2 := cell_keep x2 wl1 k2 nw
  clear h2 k2 HV nw HH d0 d1
  go_simp
  refine hK.out _ _ ?_ (fun _ => ?_)
  · (refine ⟨?_, ?_, ?_, ?_, ?_⟩ <;> (first | assumption | go_simp))
  clear hK K
  refine wpAnyH_take (i := 13) (v := ?v14) rfl (by kernel_rfl) (by kernel_rfl) (by kernel_rfl) (fun _ _ _ h => h) (Or.inl ⟨by rfl, ?hy14⟩) (by assumption) ?_
  case hy14 => (intro w hSw; go_simp <;> (try with_reducible rfl))
  simp only [Act.put, List.setIfInBounds_toArray, List.set_cons_zero, List.set_cons_succ, List.getElem_toArray, List.getElem_cons_succ, List.getElem_cons_zero]
  refine wpAnyH_done (by kernel_rfl) ?_ _
  go_wp2_with fail
  go_ret
  exact ⟨rfl, R.out⟩

theorem cell_blk {g i : Nat} {v : Value} {a c : World} (e : c.heap[g]? = a.heap[g]?) (h : a.cell? ⟨g, i, none⟩ = some v) : c.cell? ⟨g, i, none⟩ = some v := by
  unfold World.cell? at h ⊢
  simp only [e]
  exact h
theorem elVl : Elem 82 26 3 32 := elem_of (z0 := .agg #[.int .i64 0, .int .i64 0, .string ⟨#[]⟩]) (by kernel_rfl) (by kernel_rfl) rfl
/-- a slot more, in memory -/
theorem SlAt.grow {c q g cap : Nat} {sh to : Int} {l : List Ent} {v : Value} {s : ByteArray} {x : Vl} {w w1 w3 : World} (h : SlAt c sh l q v w) (h1 : w1 = (w.setCell ⟨q, 1, none⟩ (.int .i64 to)).alloc (Obj.cells #[.int .i64 x.1, .int .i64 x.2.1, .string x.2.2] 26))
    (hown : w3.ownsRow 0 26 3 (.slice (some ⟨g, 0, none⟩) (l.length + 1) cap) (l.length + 1) (valsC l ++ valC x)) (hg : w1.grownBy w3 v.ownBlock) (hat : v.ownBlock = some g ∨ w1.heap.size ≤ g) :
    Blk q 91 #[.pointer (some ⟨c, 0, none⟩), .int .i64 to, v] w3 ∧ SlAt c to (l ++ [(s, x)]) q (.slice (some ⟨g, 0, none⟩) (l.length + 1) cap) (w3.setCell ⟨q, 2, none⟩ (.slice (some ⟨g, 0, none⟩) (l.length + 1) cap)) ∧
      Keep (FtL q v) w (w3.setCell ⟨q, 2, none⟩ (.slice (some ⟨g, 0, none⟩) (l.length + 1) cap)) ∧ ∀ b, FtL q (.slice (some ⟨g, 0, none⟩) (l.length + 1) cap) b → FtL q v b ∨ w.heap.size ≤ b := by
  have hq := blk_lt h.blk
  have k1 : Keep (fun b => b = q) w w1 := by
    rw [h1]
    exact (Keep.set (S := fun b => b = q) rfl w 1 _).trans (Keep.alloc _ _ _) (fun _ _ e => e)
  have b1 : Blk q 91 #[.pointer (some ⟨c, 0, none⟩), .int .i64 to, v] w1 := by
    rw [h1]
    exact blk_on (blk_set h.blk 1 (.int .i64 to)) ((Below.refl _ _).alloc (Nat.le_refl _) _)
  have k3 : Keep (FtL q v) w w3 := (k1.mono (fun b _ e => .inl e)).trans (Keep.grown (S := FtL q v) hg (fun k hk => .inr hk)) (fun _ _ e => e)
  have b3 : Blk q 91 #[.pointer (some ⟨c, 0, none⟩), .int .i64 to, v] w3 := (hg.block q (blk_lt b1) (fun e => h.ne e.symm rfl)).trans b1
  have hgq : g ≠ q := by
    rcases hat with h' | h'
    · exact h.ne h'
    · have := k1.size
      omega
  have K := Keep.set (S := fun b => b = q) rfl w3 2 (.slice (some ⟨g, 0, none⟩) (l.length + 1) cap)
  refine ⟨b3, ⟨blk_set b3 2 _, ?_⟩, k3.trans K (fun b _ e => .inl e), ?_⟩
  · rw [List.length_append, valsC_append]
    exact row_keep hown (fun k hk => by
      simp [Value.ownBlock] at hk
      subst hk
      obtain ⟨cur, hc⟩ := row_lt hown (g := g) rfl
      exact K.block g (blk_lt hc) hgq)
  · rintro b (rfl | hb)
    · exact .inl (.inl rfl)
    · simp [Value.ownBlock] at hb
      subst hb
      rcases hat with h' | h'
      · exact .inl (.inr h')
      · exact .inr (Nat.le_trans k1.size h')
set_option maxHeartbeats 2000000 in
theorem sgrown_calls {c q : Nat} {sh : Int} {l : List Ent} {v : Value} (w : World) (h : SlAt c sh l q v w) (to : Int) (s : ByteArray) (x : Vl) (hl : l.length ≤ 1000000) :
    Calls Tryz.prog 66 #[.pointer (some ⟨q, 0, none⟩), .int .i64 to, vlV x] w fun e w' => e = .returned (.iface 88 (.pointer (some ⟨q, 0, none⟩))) ∧ ∃ v', SlAt c to (l ++ [(s, x)]) q v' w' ∧ Keep (FtL q v) w w' ∧ ∀ b, FtL q v' b → FtL q v b ∨ w.heap.size ≤ b := by
  obtain ⟨c0, c1, c2, hq⟩ := h.cells
  have hqn : q ≠ w.heap.size := by omega
  have fq1 := blk_free h.blk 1
  have fq2 := blk_free h.blk 2
  have HH := hid h
  have HG := hid (fun g cap w3 h1 h2 h3 => h.grow (w1 := (w.setCell ⟨q, 1, none⟩ (.int .i64 to)).alloc (Obj.cells #[.int .i64 x.1, .int .i64 x.2.1, .string x.2.2] 26)) (w3 := w3) (g := g) (cap := cap) (to := to) (s := s) (x := x) rfl h1 h2 h3)
  have RW := hid (row_keep (c := (w.setCell ⟨q, 1, none⟩ (.int .i64 to)).alloc (Obj.cells #[.int .i64 x.1, .int .i64 x.2.1, .string x.2.2] 26)) h.row (fun g hg => by
    have k1 : Keep (fun b => b = q) w ((w.setCell ⟨q, 1, none⟩ (.int .i64 to)).alloc (Obj.cells #[.int .i64 x.1, .int .i64 x.2.1, .string x.2.2] 26)) := (Keep.set (S := fun b => b = q) rfl w 1 _).trans (Keep.alloc _ _ _) (fun _ _ e => e)
    exact k1.block g (h.lt (.inr hg)) (h.ne hg)))
  obtain ⟨ao, cap, rfl⟩ := row_shape h.row
  clear h
  unfold vlV
  go_enter Tryz.func66, Tryz.ntmps66
  go_wp2_with fail
  refine wp_region_held_drew (S := fun a => a.cell? ⟨w.heap.size, 0, none⟩ = some (.int .i64 x.1) ∧ a.cell? ⟨w.heap.size, 1, none⟩ = some (.int .i64 x.2.1) ∧ a.cell? ⟨w.heap.size, 2, none⟩ = some (.string x.2.2)) (by kernel_rfl) ?_ (fun hHeld => ?_)
  · (refine ⟨?_, ?_, ?_⟩ <;> go_simp)
  refine wpAnyH_take (i := 0) (v := ?v15) rfl (by kernel_rfl) (by kernel_rfl) (by kernel_rfl) (fun _ _ _ h => h) (Or.inl ⟨by rfl, ?hy15⟩) (by assumption) ?_
  case hy15 => (intro w hSw; go_simp <;> (try with_reducible rfl))
  simp only [Act.put, List.setIfInBounds_toArray, List.set_cons_zero, List.set_cons_succ, List.getElem_toArray, List.getElem_cons_succ, List.getElem_cons_zero]
  refine wpAnyH_take (i := 1) (v := ?v16) rfl (by kernel_rfl) (by kernel_rfl) (by kernel_rfl) (fun _ _ _ h => h) (Or.inl ⟨by rfl, ?hy16⟩) (by assumption) ?_
  case hy16 => (intro w hSw; go_simp <;> (try with_reducible rfl))
  simp only [Act.put, List.setIfInBounds_toArray, List.set_cons_zero, List.set_cons_succ, List.getElem_toArray, List.getElem_cons_succ, List.getElem_cons_zero]
  refine wpAnyH_take (i := 2) (v := ?v17) rfl (by kernel_rfl) (by kernel_rfl) (by kernel_rfl) (fun _ _ _ h => h) (Or.inl ⟨by rfl, ?hy17⟩) (by assumption) ?_
  case hy17 => (intro w hSw; go_simp <;> (try with_reducible rfl))
  simp only [Act.put, List.setIfInBounds_toArray, List.set_cons_zero, List.set_cons_succ, List.getElem_toArray, List.getElem_cons_succ, List.getElem_cons_zero]
  refine wpAnyH_take (i := 3) (v := ?v18) rfl (by kernel_rfl) (by kernel_rfl) (by kernel_rfl) (fun _ _ _ h => h) (Or.inl ⟨by rfl, ?hy18⟩) (by assumption) ?_
  case hy18 => (intro w hSw; go_simp <;> (try with_reducible rfl))
  simp only [Act.put, List.setIfInBounds_toArray, List.set_cons_zero, List.set_cons_succ, List.getElem_toArray, List.getElem_cons_succ, List.getElem_cons_zero]
  refine wpAnyH_take (i := 5) (v := ?v19) rfl (by kernel_rfl) (by kernel_rfl) (by kernel_rfl) (fun _ _ _ h => h) (Or.inl ⟨by rfl, ?hy19⟩) (by assumption) ?_
  case hy19 => (intro w hSw; go_simp <;> (try with_reducible rfl))
  simp only [Act.put, List.setIfInBounds_toArray, List.set_cons_zero, List.set_cons_succ, List.getElem_toArray, List.getElem_cons_succ, List.getElem_cons_zero]
  refine wpAnyH_ready (rs := [4, 6]) (by kernel_rfl) (by simp) ?_
  refine AllReadyH.cons rfl (fun K hK => ?_) (AllReadyH.cons rfl (fun K hK => ?_) AllReadyH.nil)
  go_simp
  refine hK.out _ _ ?_ (fun _ => ?_)
  · (refine ⟨?_, ?_, ?_⟩ <;> (first | assumption | go_simp))
  clear hK K
  refine wpAnyH_ready (rs := [6]) (by kernel_rfl) (by simp) ?_
  refine AllReadyH.cons rfl (fun K hK => ?_) AllReadyH.nil
  go_simp
  refine hK.out _ _ ?_ (fun _ => ?_)
  · (refine ⟨?_, ?_, ?_⟩ <;> (first | assumption | go_simp))
  clear hK K
  rotate_left 1
  go_simp
  refine hK.out _ _ ?_ (fun _ => ?_)
  · (refine ⟨?_, ?_, ?_⟩ <;> (first | assumption | go_simp))
  clear hK K
  refine wpAnyH_ready (rs := [4]) (by kernel_rfl) (by simp) ?_
  refine AllReadyH.cons rfl (fun K hK => ?_) AllReadyH.nil
  go_simp
  refine hK.out _ _ ?_ (fun _ => ?_)
  · (refine ⟨?_, ?_, ?_⟩ <;> (first | assumption | go_simp))
  clear hK K
  rotate_left 1
  all_goals
    refine wpAnyH_ready (rs := [7]) (by kernel_rfl) (by simp) ?_
    refine AllReadyH.cons rfl (fun K hK => ?_) AllReadyH.nil
    refine row_app_step elVl (by decide) (by decide) rfl _ _ rfl l.length (valsC l) (valC x) rfl (valC_one x) (.slice ao l.length cap) (by rfl) RW.out (w.heap.size + 1) (by rfl) (by simp) hl (.inr (.inr rfl)) ?_
    intro g cp w3 hown hgrow hat
    have E := hid (HG.out g cp w3 hown hgrow hat)
    have eb := hgrow.block w.heap.size (by simp) (fun e => Nat.lt_irrefl _ (HH.out.lt (.inr e.symm)))
    have x0 := cell_blk (a := (w.setCell ⟨q, 1, none⟩ (.int .i64 to)).alloc (Obj.cells #[.int .i64 x.1, .int .i64 x.2.1, .string x.2.2] 26)) (i := 0) (v := .int .i64 x.1) eb (by go_simp)
    have x1 := cell_blk (a := (w.setCell ⟨q, 1, none⟩ (.int .i64 to)).alloc (Obj.cells #[.int .i64 x.1, .int .i64 x.2.1, .string x.2.2] 26)) (i := 1) (v := .int .i64 x.2.1) eb (by go_simp)
    have x2 := cell_blk (a := (w.setCell ⟨q, 1, none⟩ (.int .i64 to)).alloc (Obj.cells #[.int .i64 x.1, .int .i64 x.2.1, .string x.2.2] 26)) (i := 2) (v := .string x.2.2) eb (by go_simp)
    have q1 : w3.cell? ⟨q, 2, none⟩ = some (.slice ao l.length cap) := by rw [blk_cell E.out.1]; rfl
    have q3 : w3.frozen? ⟨q, 2, none⟩ = false := blk_free E.out.1 2
    refine hK.out _ _ ⟨x0, x1, x2⟩ (fun _ => ?_)
    clear hK K hown hgrow hat eb
    simp only [Act.put, List.setIfInBounds_toArray, List.set_cons_zero, List.set_cons_succ, List.getElem_toArray, List.getElem_cons_succ, List.getElem_cons_zero]
    refine wpAnyH_take (i := 8) (v := ?_) rfl (by kernel_rfl) (by kernel_rfl) (by kernel_rfl) (fun _ _ _ h => h) (Or.inl ⟨by rfl, ?_⟩) (by assumption) ?_
    rotate_left 1
    · (intro w hSw; go_simp <;> (try with_reducible rfl))
    simp only [Act.put, List.setIfInBounds_toArray, List.set_cons_zero, List.set_cons_succ, List.getElem_toArray, List.getElem_cons_succ, List.getElem_cons_zero]
    refine wpAnyH_take (i := 9) (v := ?_) rfl (by kernel_rfl) (by kernel_rfl) (by kernel_rfl) (fun _ _ _ h => h) (Or.inl ⟨by rfl, ?_⟩) (by assumption) ?_
    rotate_left 1
    · (intro w hSw; go_simp <;> (try with_reducible rfl))
    simp only [Act.put, List.setIfInBounds_toArray, List.set_cons_zero, List.set_cons_succ, List.getElem_toArray, List.getElem_cons_succ, List.getElem_cons_zero]
    refine wpAnyH_ready (rs := [10]) (by kernel_rfl) (by simp) ?_
    refine AllReadyH.cons rfl (fun K hK => ?_) AllReadyH.nil
    go_simp
    refine hK.out _ _ ?_ (fun _ => ?_)
    · (refine ⟨?_, ?_, ?_⟩ <;> (first | assumption | go_simp))
    clear hK K
    refine wpAnyH_done (by kernel_rfl) ?_ _
    go_wp2_with fail
    go_ret
    exact ⟨rfl, _, E.out.2⟩

theorem take_set {l : List Ent} {k : Nat} {s : ByteArray} {u : Vl} (ho : OnceL l) (h : l[k]? = some (s, u)) : setL (l.take k) s u = l.take (k + 1) := by
  have hn : hasL (l.take k) s = false := by
    have h1 := live_no (L := l.map some) (j := k) (e := (s, u)) (by rw [live_some]; exact ho) (by rw [List.getElem?_map, h]; rfl)
    rw [← List.map_take, live_some] at h1
    exact h1
  rw [setL_new u hn, List.take_add_one, h]
  rfl
set_option maxHeartbeats 2000000 in
theorem loose_calls {H : He} {c n f q : Nat} {col : Nat → Nat} {sh : Int} {l : List Ent} {v : Value} (w : World) (C : Cls H c n f col w) (h : SlAt c sh l q v w) (hN : Named H sh l) (ho : OkL l) (hl : l.length ≤ 1000) :
    Calls Tryz.prog 91 #[.pointer (some ⟨q, 0, none⟩)] w fun e w' => ∃ dq, e = .returned (.pointer (some ⟨dq, 0, none⟩)) ∧ DiS (fun b => w.heap.size ≤ b) (protoF H.L sh) l dq l.length w' ∧ Below w.heap.size w w' := by
  obtain ⟨c0, c1, c2, hq⟩ := h.cells
  obtain ⟨ao, cap, rfl⟩ := row_shape h.row
  have HP := hid (sproto_calls w C h)
  have HC := hid C
  have HH := hid h
  have HN := hid hN
  have HO := hid ho
  clear h C hN ho
  generalize protoF H.L sh = pr at *
  go_enter Tryz.func91, Tryz.ntmps91
  go_wp2_with fail
  refine HP.out.mono ?_
  rintro e1 w1 ⟨rfl, b1⟩
  have B1 := hid b1
  clear b1 HP
  go_wp2_with fail
  refine (new_calls w1).mono ?_
  rintro e2 w2 ⟨d, rfl, h2, b2⟩
  have H2 := hid h2
  have B2 := hid (below_in B1.out (Nat.le_refl _) b2)
  have L0 : Hid (DiS (fun b => w.heap.size ≤ b) pr [] w2.heap.size 0 (w2.alloc (Obj.cells #[.int .i64 pr, .pointer (some ⟨d, 0, none⟩)] 137)) ∧ Below w.heap.size w (w2.alloc (Obj.cells #[.int .i64 pr, .pointer (some ⟨d, 0, none⟩)] 137))) := by
    have a := (Below.refl w2.heap.size w2).alloc (Nat.le_refl _) (Obj.cells #[.int .i64 pr, .pointer (some ⟨d, 0, none⟩)] 137)
    have hz := B1.out.size
    exact hid ⟨⟨d, blk_new _ _ _, (h2.mono (T := fun b => w.heap.size ≤ b ∧ b ≠ w2.heap.size) (fun b hb h => ⟨by omega, by omega⟩) (Nat.le_refl _)).on a, B2.out.size⟩, below_in B2.out (Nat.le_refl _) a⟩
  have c2 := cell_on c2 hq B2.out
  have hq2 : q < w2.heap.size := Nat.lt_of_lt_of_le hq B2.out.size
  clear h2 b2 H2
  go_wp2_with fail
  go_loopw [18] (fun a wr => ∃ k : Nat, k ≤ l.length ∧ a = .int .i64 k ∧ Hid (DiS (fun b => w.heap.size ≤ b) pr (l.take k) w2.heap.size k wr ∧ Below w.heap.size w wr)) (fun a _ => l.length - (intOf a).toNat)
  case atStart => exact ⟨0, Nat.zero_le _, rfl, by rw [List.take_zero]; exact L0⟩
  case round =>
    obtain ⟨k, hk, rfl, hR⟩ := hrel
    by_cases hkl : k < l.length
    · obtain ⟨⟨s, u⟩, hx⟩ : ∃ x, l[k]? = some x := ⟨l[k], List.getElem?_eq_getElem hkl⟩
      obtain ⟨g, cp, hgf, hgl, v0, v1, v2, _⟩ := (HH.out.on hR.out.2).value hx
      injection hgf with hg1 hg2 hg3
      subst hg1 hg3
      have hsz : s.size ≤ 1000000 := HO.out.2 _ (List.mem_of_getElem? hx)
      have HX := hid hx
      have A := (Below.refl wr.heap.size wr).alloc (Nat.le_refl _) (Obj.cells #[.int .i64 u.1, .int .i64 u.2.1, .string u.2.2] 26)
      have BA := below_in hR.out.2 (Nat.le_refl _) A
      have HK := hid (skey_calls _ (HC.out.on BA) (HH.out.on BA) HN.out (k : Int))
      rw [keyL_at hx] at HK
      have HR := hid hR.out
      have HBA := hid BA
      obtain ⟨d', hb, hd, _⟩ := hR.out.1
      have y0 : wr.cell? ⟨w2.heap.size, 1, none⟩ = some (.pointer (some ⟨d', 0, none⟩)) := by rw [blk_cell hb]; rfl
      have hdl := blk_lt hb
      have HD := hid hd
      have HB := hid hb
      have hne : w2.heap.size ≠ wr.heap.size := by omega
      have hwl : wr.heap.size < (wr.alloc (Obj.cells #[.int .i64 u.1, .int .i64 u.2.1, .string u.2.2] 26)).heap.size := by simp
      have z0 : (wr.alloc (Obj.cells #[.int .i64 u.1, .int .i64 u.2.1, .string u.2.2] 26)).cell? ⟨wr.heap.size, 0, none⟩ = some (.int .i64 u.1) := by simp
      have z1 : (wr.alloc (Obj.cells #[.int .i64 u.1, .int .i64 u.2.1, .string u.2.2] 26)).cell? ⟨wr.heap.size, 1, none⟩ = some (.int .i64 u.2.1) := by simp
      have z2 : (wr.alloc (Obj.cells #[.int .i64 u.1, .int .i64 u.2.1, .string u.2.2] 26)).cell? ⟨wr.heap.size, 2, none⟩ = some (.string u.2.2) := by simp
      have HAA := hid A
      clear hx A BA hR hb hd
      go_wp2_with fail
      refine HK.out.mono ?_
      rintro e3 w3 ⟨rfl, b3⟩
      have b4 := b3.drew
      have z0 := cell_on z0 hwl b3
      have z1 := cell_on z1 hwl b3
      have z2 := cell_on z2 hwl b3
      have y0 := cell_on (cell_on y0 hdl HAA.out) (Nat.lt_of_lt_of_le hdl HAA.out.size) b3
      have hw3 : wr.heap.size < w3.heap.size := Nat.lt_of_lt_of_le hwl b3.size
      have B4 := hid (below_in HBA.out (Nat.le_refl _) b4)
      have B5 := hid (below_on HAA.out b4)
      have HS := hid (dset_calls w3.drew ((HD.out.mono (T := fun b => (w.heap.size ≤ b ∧ b ≠ w2.heap.size) ∧ b < wr.heap.size) (fun b hb h => ⟨h, hb⟩) (Nat.le_refl _)).on B5.out) (by omega) s hsz u)
      rw [take_set HO.out.1 HX.out] at HS
      unfold vlV at HS
      have hd3 : w2.heap.size < w3.heap.size := by omega
      clear b3 b4 HK HBA
      go_wp2_with fail
      refine wp_region_held_drew (S := fun a => a.cell? ⟨w2.heap.size, 1, none⟩ = some (.pointer (some ⟨d', 0, none⟩)) ∧ a.cell? ⟨wr.heap.size, 0, none⟩ = some (.int .i64 u.1) ∧ a.cell? ⟨wr.heap.size, 1, none⟩ = some (.int .i64 u.2.1) ∧ a.cell? ⟨wr.heap.size, 2, none⟩ = some (.string u.2.2)) (by kernel_rfl) ?_ (fun hHeld => ?_)
      · (refine ⟨?_, ?_, ?_, ?_⟩ <;> go_simp)
      refine wpAnyH_take (i := 0) (v := ?v26) rfl (by kernel_rfl) (by kernel_rfl) (by kernel_rfl) (fun _ _ _ h => h) (Or.inl ⟨by rfl, ?hy26⟩) (by assumption) ?_
      case hy26 => (intro w hSw; go_simp <;> (try with_reducible rfl))
      simp only [Act.put, List.setIfInBounds_toArray, List.set_cons_zero, List.set_cons_succ, List.getElem_toArray, List.getElem_cons_succ, List.getElem_cons_zero]
      refine wpAnyH_take (i := 1) (v := ?v27) rfl (by kernel_rfl) (by kernel_rfl) (by kernel_rfl) (fun _ _ _ h => h) (Or.inl ⟨by rfl, ?hy27⟩) (by assumption) ?_
      case hy27 => (intro w hSw; go_simp <;> (try with_reducible rfl))
      simp only [Act.put, List.setIfInBounds_toArray, List.set_cons_zero, List.set_cons_succ, List.getElem_toArray, List.getElem_cons_succ, List.getElem_cons_zero]
      refine wpAnyH_take (i := 2) (v := ?v28) rfl (by kernel_rfl) (by kernel_rfl) (by kernel_rfl) (fun _ _ _ h => h) (Or.inl ⟨by rfl, ?hy28⟩) (by assumption) ?_
      case hy28 => (intro w hSw; go_simp <;> (try with_reducible rfl))
      simp only [Act.put, List.setIfInBounds_toArray, List.set_cons_zero, List.set_cons_succ, List.getElem_toArray, List.getElem_cons_succ, List.getElem_cons_zero]
      refine wpAnyH_take (i := 3) (v := ?v29) rfl (by kernel_rfl) (by kernel_rfl) (by kernel_rfl) (fun _ _ _ h => h) (Or.inl ⟨by rfl, ?hy29⟩) (by assumption) ?_
      case hy29 => (intro w hSw; go_simp <;> (try with_reducible rfl))
      simp only [Act.put, List.setIfInBounds_toArray, List.set_cons_zero, List.set_cons_succ, List.getElem_toArray, List.getElem_cons_succ, List.getElem_cons_zero]
      refine wpAnyH_take (i := 4) (v := ?v30) rfl (by kernel_rfl) (by kernel_rfl) (by kernel_rfl) (fun _ _ _ h => h) (Or.inl ⟨by rfl, ?hy30⟩) (by assumption) ?_
      case hy30 => (intro w hSw; go_simp <;> (try with_reducible rfl))
      simp only [Act.put, List.setIfInBounds_toArray, List.set_cons_zero, List.set_cons_succ, List.getElem_toArray, List.getElem_cons_succ, List.getElem_cons_zero]
      refine wpAnyH_take (i := 5) (v := ?v31) rfl (by kernel_rfl) (by kernel_rfl) (by kernel_rfl) (fun _ _ _ h => h) (Or.inl ⟨by rfl, ?hy31⟩) (by assumption) ?_
      case hy31 => (intro w hSw; go_simp <;> (try with_reducible rfl))
      simp only [Act.put, List.setIfInBounds_toArray, List.set_cons_zero, List.set_cons_succ, List.getElem_toArray, List.getElem_cons_succ, List.getElem_cons_zero]
      refine wpAnyH_ready (rs := [6]) (by kernel_rfl) (by simp) ?_
      refine AllReadyH.cons rfl (fun K hK => ?_) AllReadyH.nil
      go_simp
      refine HS.out.mono ?_
      rintro e4 w4 ⟨rfl, h4, k4⟩
      have R : Hid (DiS (fun b => w.heap.size ≤ b) pr (l.take (k + 1)) w2.heap.size (k + 1) w4 ∧ Below w.heap.size w w4) := by
        have hz := HR.out.2.size
        have hz2 := B2.out.size
        refine hid ⟨⟨d', blk_keep (blk_on HB.out B5.out) k4 (fun h => h.1.2 rfl), h4.mono (fun b _ h => ?_) (Nat.le_refl _), hz2⟩, B4.out.trans (k4.below (by show w.heap.size ≤ w3.heap.size; omega) (fun b h => h.1.1))⟩
        rcases h with h | h
        · exact h.1
        · exact ⟨by have : w3.heap.size ≤ b := h; omega, by have : w3.heap.size ≤ b := h; omega⟩
      have y0 := cell_keep (c := w4) (a := w3.drew) y0 hd3 k4 (fun h => h.1.2 rfl)
      have z0 := cell_keep (c := w4) (a := w3.drew) z0 hw3 k4 (fun h => Nat.lt_irrefl _ h.2)
      have z1 := cell_keep (c := w4) (a := w3.drew) z1 hw3 k4 (fun h => Nat.lt_irrefl _ h.2)
      have z2 := cell_keep (c := w4) (a := w3.drew) z2 hw3 k4 (fun h => Nat.lt_irrefl _ h.2)
      clear h4 k4 HS
      go_simp
      refine hK.out _ _ ?_ (fun _ => ?_)
      · (refine ⟨?_, ?_, ?_, ?_⟩ <;> (first | assumption | go_simp))
      clear hK K
      refine wpAnyH_done (by kernel_rfl) ?_ _
      go_wp2_with fail
      exact ⟨⟨k + 1, by omega, by simp, R⟩, by simp [intOf]; omega⟩
    · have hke : k = l.length := by omega
      subst hke
      go_wp2_with fail
      go_ret
      have h1 := hR.out
      rw [List.take_length] at h1
      exact ⟨_, rfl, h1⟩

end Go.Proofs.YtemidicgipebjaaGreat

namespace Go.Proofs.YtemidicgipebjaaGreat
set_option linter.unusedSimpArgs false
set_option maxRecDepth 100000
open Go.RowKit

theorem ta_ds (q : Nat) (w : World) : (Instr.typeAssert (.iface 133 (.pointer (some ⟨q, 0, none⟩))) 95 88 true).run Tryz.prog w = .ok (.tuple #[.pointer none, .bool false]) w := by kernel_rfl
theorem ta_dd (q : Nat) (w : World) : (Instr.typeAssert (.iface 133 (.pointer (some ⟨q, 0, none⟩))) 95 133 true).run Tryz.prog w = .ok (.tuple #[.pointer (some ⟨q, 0, none⟩), .bool true]) w := by kernel_rfl
theorem ta_ss (q : Nat) (w : World) : (Instr.typeAssert (.iface 88 (.pointer (some ⟨q, 0, none⟩))) 95 88 true).run Tryz.prog w = .ok (.tuple #[.pointer (some ⟨q, 0, none⟩), .bool true]) w := by kernel_rfl

set_option maxHeartbeats 1000000 in
theorem with_dict {S : Nat → Prop} {pr : Int} {l : List Ent} {q n : Nat} (w : World) (h : DiS S pr l q n w) (hn : n ≤ 1000000) (s : ByteArray) (hs : s.size ≤ 1000000) (x : Vl) :
    Calls Tryz.prog 58 #[.iface 133 (.pointer (some ⟨q, 0, none⟩)), .string s, vlV x] w fun e w' => e = .returned (.iface 133 (.pointer (some ⟨q, 0, none⟩))) ∧ DiS (Up S w) pr (setL l s x) q (n + 1) w' ∧ Keep S w w' := by
  obtain ⟨d, h1, h2, h3⟩ := h
  have c1 : w.cell? ⟨q, 1, none⟩ = some (.pointer (some ⟨d, 0, none⟩)) := by rw [blk_cell h1]; rfl
  have hq := blk_lt h1
  have hqn : q ≠ w.heap.size := by omega
  have A := ((Below.refl w.heap.size w).alloc (Nat.le_refl _) (Obj.cells #[.int .i64 x.1, .int .i64 x.2.1, .string x.2.2] 26)).drew
  have HS := hid (dset_calls _ ((h2.mono (T := fun b => (S b ∧ b ≠ q) ∧ b < w.heap.size) (fun b hb h => ⟨h, hb⟩) (Nat.le_refl _)).on A) hn s hs x)
  unfold vlV at HS ⊢
  have HA := hid A
  have HB := hid h1
  have HQ := hid h3
  clear h1 h2 h3 A
  have t1 := ta_ds q
  have t2 := ta_dd q
  go_enter Tryz.func58, Tryz.ntmps58
  go_wp2_with fail
  refine wp_region_held_drew (S := fun a => a.cell? ⟨q, 1, none⟩ = some (.pointer (some ⟨d, 0, none⟩)) ∧ a.cell? ⟨w.heap.size, 0, none⟩ = some (.int .i64 x.1) ∧ a.cell? ⟨w.heap.size, 1, none⟩ = some (.int .i64 x.2.1) ∧ a.cell? ⟨w.heap.size, 2, none⟩ = some (.string x.2.2)) (by kernel_rfl) ?_ (fun hHeld => ?_)
  · (refine ⟨?_, ?_, ?_, ?_⟩ <;> go_simp)
  refine wpAnyH_take (i := 0) (v := ?v1) rfl (by kernel_rfl) (by kernel_rfl) (by kernel_rfl) (fun _ _ _ h => h) (Or.inl ⟨by rfl, ?hy1⟩) (by assumption) ?_
  case hy1 => (intro w hSw; go_simp <;> (try with_reducible rfl))
  simp only [Act.put, List.setIfInBounds_toArray, List.set_cons_zero, List.set_cons_succ, List.getElem_toArray, List.getElem_cons_succ, List.getElem_cons_zero]
  refine wpAnyH_take (i := 1) (v := ?v2) rfl (by kernel_rfl) (by kernel_rfl) (by kernel_rfl) (fun _ _ _ h => h) (Or.inl ⟨by rfl, ?hy2⟩) (by assumption) ?_
  case hy2 => (intro w hSw; go_simp <;> (try with_reducible rfl))
  simp only [Act.put, List.setIfInBounds_toArray, List.set_cons_zero, List.set_cons_succ, List.getElem_toArray, List.getElem_cons_succ, List.getElem_cons_zero]
  refine wpAnyH_take (i := 2) (v := ?v3) rfl (by kernel_rfl) (by kernel_rfl) (by kernel_rfl) (fun _ _ _ h => h) (Or.inl ⟨by rfl, ?hy3⟩) (by assumption) ?_
  case hy3 => (intro w hSw; go_simp <;> (try with_reducible rfl))
  simp only [Act.put, List.setIfInBounds_toArray, List.set_cons_zero, List.set_cons_succ, List.getElem_toArray, List.getElem_cons_succ, List.getElem_cons_zero]
  refine wpAnyH_take (i := 3) (v := ?v4) rfl (by kernel_rfl) (by kernel_rfl) (by kernel_rfl) (fun _ _ _ h => h) (Or.inl ⟨by rfl, ?hy4⟩) (by assumption) ?_
  case hy4 => (intro w hSw; go_simp <;> (try with_reducible rfl))
  simp only [Act.put, List.setIfInBounds_toArray, List.set_cons_zero, List.set_cons_succ, List.getElem_toArray, List.getElem_cons_succ, List.getElem_cons_zero]
  refine wpAnyH_take (i := 4) (v := ?v5) rfl (by kernel_rfl) (by kernel_rfl) (by kernel_rfl) (fun _ _ _ h => h) (Or.inl ⟨by rfl, ?hy5⟩) (by assumption) ?_
  case hy5 => (intro w hSw; go_simp <;> (try with_reducible rfl))
  simp only [Act.put, List.setIfInBounds_toArray, List.set_cons_zero, List.set_cons_succ, List.getElem_toArray, List.getElem_cons_succ, List.getElem_cons_zero]
  refine wpAnyH_take (i := 5) (v := ?v6) rfl (by kernel_rfl) (by kernel_rfl) (by kernel_rfl) (fun _ _ _ h => h) (Or.inl ⟨by rfl, ?hy6⟩) (by assumption) ?_
  case hy6 => (intro w hSw; go_simp <;> (try with_reducible rfl))
  simp only [Act.put, List.setIfInBounds_toArray, List.set_cons_zero, List.set_cons_succ, List.getElem_toArray, List.getElem_cons_succ, List.getElem_cons_zero]
  refine wpAnyH_ready (rs := [6]) (by kernel_rfl) (by simp) ?_
  refine AllReadyH.cons rfl (fun K hK => ?_) AllReadyH.nil
  go_simp
  refine HS.out.mono ?_
  rintro e3 w3 ⟨rfl, h3, k3⟩
  have hz : w.heap.size < ((w.alloc (Obj.cells #[.int .i64 x.1, .int .i64 x.2.1, .string x.2.2] 26)).drew).heap.size := by simp
  have R : Hid (DiS (Up S w) pr (setL l s x) q (n + 1) w3 ∧ Keep S w w3) := by
    refine hid ⟨⟨d, blk_keep (blk_on HB.out HA.out) k3 (fun h => h.1.2 rfl), h3.mono (fun b _ h => ?_) (Nat.le_refl _), .inl HQ.out⟩, (Keep.of HA.out).trans k3 (fun b _ h => h.1.1)⟩
    rcases h with h | h
    · exact ⟨.inl h.1.1, h.1.2⟩
    · exact ⟨.inr (by omega), by omega⟩
  have y0 := cell_keep (c := w3) (a := (w.alloc (Obj.cells #[.int .i64 x.1, .int .i64 x.2.1, .string x.2.2] 26)).drew) (g := q) (i := 1) (v := .pointer (some ⟨d, 0, none⟩)) (by go_simp) (by simp; omega) k3 (fun h => h.1.2 rfl)
  have y1 := cell_keep (c := w3) (a := (w.alloc (Obj.cells #[.int .i64 x.1, .int .i64 x.2.1, .string x.2.2] 26)).drew) (g := w.heap.size) (i := 0) (v := .int .i64 x.1) (by go_simp) hz k3 (fun h => Nat.lt_irrefl _ h.2)
  have y2 := cell_keep (c := w3) (a := (w.alloc (Obj.cells #[.int .i64 x.1, .int .i64 x.2.1, .string x.2.2] 26)).drew) (g := w.heap.size) (i := 1) (v := .int .i64 x.2.1) (by go_simp) hz k3 (fun h => Nat.lt_irrefl _ h.2)
  have y3 := cell_keep (c := w3) (a := (w.alloc (Obj.cells #[.int .i64 x.1, .int .i64 x.2.1, .string x.2.2] 26)).drew) (g := w.heap.size) (i := 2) (v := .string x.2.2) (by go_simp) hz k3 (fun h => Nat.lt_irrefl _ h.2)
  clear h3 k3
  go_simp
  refine hK.out _ _ ?_ (fun _ => ?_)
  · (refine ⟨?_, ?_, ?_, ?_⟩ <;> (first | assumption | go_simp))
  clear hK K
  refine wpAnyH_done (by kernel_rfl) ?_ _
  go_wp2_with fail
  go_ret
  exact ⟨rfl, R.out⟩
theorem without_dict {S : Nat → Prop} {pr : Int} {l : List Ent} {q n : Nat} (w : World) (h : DiS S pr l q n w) (hn : n ≤ 1000000) (s : ByteArray) (hs : s.size ≤ 1000000) :
    Calls Tryz.prog 59 #[.iface 133 (.pointer (some ⟨q, 0, none⟩)), .string s] w fun e w' => e = .returned (.iface 133 (.pointer (some ⟨q, 0, none⟩))) ∧ DiS (Up S w) pr (dropL l s) q n w' ∧ Keep S w w' := by
  obtain ⟨d, h1, h2, h3⟩ := h
  have c1 : w.cell? ⟨q, 1, none⟩ = some (.pointer (some ⟨d, 0, none⟩)) := by rw [blk_cell h1]; rfl
  have HS := hid (ddel_calls w h2 hn s hs)
  have HB := hid h1
  have HQ := hid h3
  clear h1 h2 h3
  have t1 := ta_ds q
  have t2 := ta_dd q
  go_enter Tryz.func59, Tryz.ntmps59
  go_wp2_with fail
  refine HS.out.mono ?_
  rintro e3 w3 ⟨rfl, h3, k3⟩
  have R := hid (DiS.of HB.out HQ.out h3 k3)
  clear h3 k3
  go_wp2_with fail
  go_ret
  exact ⟨rfl, R.out⟩
theorem under_dict {S : Nat → Prop} {pr : Int} {l : List Ent} {q n : Nat} (w : World) (h : DiS S pr l q n w) (p : Int) :
    Calls Tryz.prog 61 #[.iface 133 (.pointer (some ⟨q, 0, none⟩)), .int .i64 p] w fun e w' => e = .returned (.iface 133 (.pointer (some ⟨q, 0, none⟩))) ∧ DiS S p l q n w' ∧ Keep S w w' := by
  obtain ⟨d, h1, h2, h3⟩ := h
  have c0 : w.cell? ⟨q, 0, none⟩ = some (.int .i64 pr) := by rw [blk_cell h1]; rfl
  have f0 := blk_free h1 0
  have hq := blk_lt h1
  have R : Hid (DiS S p l q n (w.setCell ⟨q, 0, none⟩ (.int .i64 p)) ∧ Keep S w (w.setCell ⟨q, 0, none⟩ (.int .i64 p))) :=
    hid ⟨⟨d, blk_set h1 0 (.int .i64 p), h2.keep (Keep.set (S := fun b => b = q) rfl w 0 _) (fun b _ h e => h.2 e), h3⟩, Keep.set h3 w 0 _⟩
  clear h1 h2 h3
  have t1 := ta_ds q
  have t2 := ta_dd q
  go_enter Tryz.func61, Tryz.ntmps61
  go_wp2_with fail
  go_ret
  exact ⟨rfl, R.out⟩

/-- what was written, by colours, and how new blocks are coloured -/
structure Grew (P : Nat → Prop) (col col' : Nat → Nat) (w w' : World) : Prop where
  old : ∀ b, b < w.heap.size → col' b = col b
  top : ∀ b, w'.heap.size ≤ b → col' b = 0
  keep : Keep (fun b => P (col b)) w w'
theorem Grew.trans {P : Nat → Prop} {c1 c2 c3 : Nat → Nat} {a b c : World} (h : Grew P c1 c2 a b) (k : Grew P c2 c3 b c) : Grew P c1 c3 a c :=
  ⟨fun x hx => (k.old x (Nat.lt_of_lt_of_le hx h.keep.size)).trans (h.old x hx), k.top, h.keep.trans k.keep (fun x hx e => by rw [← h.old x hx]; exact e)⟩
theorem Grew.mono {P Q : Nat → Prop} {c1 c2 : Nat → Nat} {a b : World} (h : Grew P c1 c2 a b) (hp : ∀ t, P t → Q t) : Grew Q c1 c2 a b := ⟨h.old, h.top, h.keep.mono (fun _ _ e => hp _ e)⟩
theorem Grew.below {P : Nat → Prop} {c1 : Nat → Nat} {a b : World} (k : Below a.heap.size a b) (ht : ∀ y, a.heap.size ≤ y → c1 y = 0) : Grew P c1 c1 a b := ⟨fun _ _ => rfl, fun x hx => ht x (Nat.le_trans k.size hx), Keep.of k⟩
/-- new blocks are of colour t -/
def ext (col : Nat → Nat) (n m t : Nat) (b : Nat) : Nat := if b < n then col b else if b < m then t else 0
theorem ext_old {col : Nat → Nat} {n m t b : Nat} (h : b < n) : ext col n m t b = col b := by unfold ext; rw [if_pos h]
theorem grew_ext {col : Nat → Nat} {t : Nat} {w w' : World} (k : Keep (fun b => col b = t) w w') : Grew (fun u => u = t) col (ext col w.heap.size w'.heap.size t) w w' :=
  ⟨fun b hb => ext_old hb, fun b hb => by have := k.size; unfold ext; rw [if_neg (by omega), if_neg (by omega)], k⟩
theorem ext_new {col : Nat → Nat} {n m t b : Nat} (hb : b < m) (h : col b = t ∨ n ≤ b) : ext col n m t b = t := by
  unfold ext
  by_cases h1 : b < n
  · rw [if_pos h1]
    rcases h with h | h
    · exact h
    · omega
  · rw [if_neg h1, if_pos hb]

/-- as an object is kept: of slots or of a dictionary, in the blocks of S -/
def KeptO (K c : Nat) (x : Ob) (q : Nat) (S : Nat → Prop) (w : World) : Prop :=
  (x.sh ≠ 0 ∧ ∃ v, SlAt c x.sh x.l q v w ∧ ∀ b, FtL q v b → S b) ∨ (x.sh = 0 ∧ ∃ n, DiS S x.pr x.l q n w ∧ n ≤ K + 12)
def ivO (x : Ob) (q : Nat) : Value := if x.sh = 0 then .iface 133 (.pointer (some ⟨q, 0, none⟩)) else .iface 88 (.pointer (some ⟨q, 0, none⟩))
theorem KeptO.mono {K J c q : Nat} {x : Ob} {S T : Nat → Prop} {w : World} (h : KeptO K c x q S w) (hS : ∀ b, b < w.heap.size → S b → T b) (hK : K ≤ J) : KeptO J c x q T w := by
  rcases h with ⟨h0, v, h1, h2⟩ | ⟨h0, n, h1, h2⟩
  · exact .inl ⟨h0, v, h1, fun b hb => hS b (h1.lt hb) (h2 b hb)⟩
  · exact .inr ⟨h0, n, h1.mono hS (Nat.le_refl _), by omega⟩
theorem KeptO.keep {K c q : Nat} {x : Ob} {S T : Nat → Prop} {a b : World} (h : KeptO K c x q S a) (k : Keep T a b) (hT : ∀ b, b < a.heap.size → S b → ¬ T b) : KeptO K c x q S b := by
  rcases h with ⟨h0, v, h1, h2⟩ | ⟨h0, n, h1, h2⟩
  · exact .inl ⟨h0, v, h1.keep (fun b hb => k.block b (h1.lt hb) (hT b (h1.lt hb) (h2 b hb))), h2⟩
  · exact .inr ⟨h0, n, h1.keep k hT, h2⟩
theorem KeptO.on {K c q : Nat} {x : Ob} {S : Nat → Prop} {a b : World} (h : KeptO K c x q S a) (k : Below a.heap.size a b) : KeptO K c x q S b := h.keep (T := fun _ => False) (Keep.of k) (fun _ _ _ h => h)
theorem KeptO.lt {K c q : Nat} {x : Ob} {S : Nat → Prop} {w : World} (h : KeptO K c x q S w) : q < w.heap.size := by
  rcases h with ⟨h0, v, h1, h2⟩ | ⟨h0, n, ⟨d, h1, _⟩, h2⟩
  · exact blk_lt h1.blk
  · exact blk_lt h1
/-- an object that another one's change leaves alone -/
theorem KeptO.grew {P : Nat → Prop} {K c q t : Nat} {x : Ob} {col col' : Nat → Nat} {a b : World} (h : KeptO K c x q (fun b => col b = t) a) (g : Grew P col col' a b) (ht : ¬ P t) : KeptO K c x q (fun b => col' b = t) b :=
  (h.mono (T := fun b => col' b = t) (fun b hb e => (g.old b hb).trans e) (Nat.le_refl _)).keep g.keep (fun b hb e hp => ht (by rw [← e, g.old b hb]; exact hp))
theorem Cls.grew {P : Nat → Prop} {H : He} {c n f : Nat} {col col' : Nat → Nat} {a b : World} (h : Cls H c n f col a) (hc : ¬ P (col c)) (g : Grew P col col' a b) (h2 : ¬ P 2) (h3 : ¬ P 3) : Cls H c n f col' b :=
  (h.mono (col' := col') (fun b hb => g.old b hb)).keep g.keep hc (fun x hx e hp => by
    rw [g.old x hx] at e
    rcases e with e | e
    · exact h2 (e ▸ hp)
    · exact h3 (e ▸ hp))

set_option maxHeartbeats 1000000 in
theorem cnext_calls {H : He} {c n f : Nat} {col : Nat → Nat} (w : World) (h : Cls H c n f col w) (hc : col c = 1) (ht : ∀ b, w.heap.size ≤ b → col b = 0) (hl : H.N.length ≤ 1000000) (id : Int) (s : ByteArray) (hs : s.size ≤ 1000000) :
    Calls Tryz.prog 62 #[.pointer (some ⟨c, 0, none⟩), .int .i64 id, .string s] w fun e w' => e = .returned (.int .i64 (nextN H id s : Int)) ∧ ∃ col', Cls (nextH H id s) c n f col' w' ∧ Grew (fun u => u = 2 ∨ u = 3) col col' w w' := by
  obtain ⟨c0, c1, hcl⟩ := h.cells
  have HP := hid (fproto_calls w h.fo id)
  cases hg : getS H.L id with
  | none =>
    rw [show nextN H id s = 0 by unfold nextN; rw [hg], show nextH H id s = H by unfold nextH; rw [hg]]
    rw [hg] at HP
    have R := hid (show ∃ col', Cls H c n f col' w ∧ Grew (fun u => u = 2 ∨ u = 3) col col' w w from ⟨col, h, Grew.below (Below.refl _ _) ht⟩)
    clear h
    generalize protoF H.L id = z at *
    go_enter Tryz.func62, Tryz.ntmps62
    go_wp2_with fail
    refine HP.out.mono ?_
    rintro e1 w1 ⟨rfl, rfl⟩
    go_wp2_with fail
    go_ret
    exact ⟨rfl, R.out⟩
  | some y =>
    rw [show nextN H id s = addN H.M H.L id (numT H.N s : Int) by unfold nextN; rw [hg], show nextH H id s = { H with N := ofT H.N s, L := addL H.M H.L id (numT H.N s : Int) } by unfold nextH; rw [hg]]
    rw [hg] at HP
    have D := (Below.refl w.heap.size w).drew
    have HO := hid (tof_calls w.drew (h.nm.on D) s (by unfold maxLen; omega) hl)
    have HF := hid (h.fo.on D)
    have HB := hid (blk_on h.blk D)
    have hI : Hid (I64 (numT H.N s : Int)) := hid (by have := ofT_at H.N s; have := (ofT_len H.N s).1; unfold I64; omega)
    have HT := hid ht
    have hcc := hid hc
    clear h D hg ht hc
    generalize protoF H.L id = z at *
    generalize (numT H.N s : Int) = m at *
    go_enter Tryz.func62, Tryz.ntmps62
    go_wp2_with fail
    refine HP.out.mono ?_
    rintro e1 w1 ⟨rfl, rfl⟩
    go_wp2_with fail
    refine wp_region_held_drew (S := fun a => a.cell? ⟨c, 0, none⟩ = some (.pointer (some ⟨n, 0, none⟩)) ∧ a.cell? ⟨c, 1, none⟩ = some (.pointer (some ⟨f, 0, none⟩))) (by kernel_rfl) ?_ (fun hHeld => ?_)
    · (refine ⟨?_, ?_⟩ <;> go_simp)
    refine wpAnyH_take (i := 0) (v := ?v8) rfl (by kernel_rfl) (by kernel_rfl) (by kernel_rfl) (fun _ _ _ h => h) (Or.inl ⟨by rfl, ?hy8⟩) (by assumption) ?_
    case hy8 => (intro w hSw; go_simp <;> (try with_reducible rfl))
    simp only [Act.put, List.setIfInBounds_toArray, List.set_cons_zero, List.set_cons_succ, List.getElem_toArray, List.getElem_cons_succ, List.getElem_cons_zero]
    refine wpAnyH_take (i := 1) (v := ?v9) rfl (by kernel_rfl) (by kernel_rfl) (by kernel_rfl) (fun _ _ _ h => h) (Or.inl ⟨by rfl, ?hy9⟩) (by assumption) ?_
    case hy9 => (intro w hSw; go_simp <;> (try with_reducible rfl))
    simp only [Act.put, List.setIfInBounds_toArray, List.set_cons_zero, List.set_cons_succ, List.getElem_toArray, List.getElem_cons_succ, List.getElem_cons_zero]
    refine wpAnyH_take (i := 2) (v := ?v10) rfl (by kernel_rfl) (by kernel_rfl) (by kernel_rfl) (fun _ _ _ h => h) (Or.inl ⟨by rfl, ?hy10⟩) (by assumption) ?_
    case hy10 => (intro w hSw; go_simp <;> (try with_reducible rfl))
    simp only [Act.put, List.setIfInBounds_toArray, List.set_cons_zero, List.set_cons_succ, List.getElem_toArray, List.getElem_cons_succ, List.getElem_cons_zero]
    refine wpAnyH_take (i := 3) (v := ?v11) rfl (by kernel_rfl) (by kernel_rfl) (by kernel_rfl) (fun _ _ _ h => h) (Or.inl ⟨by rfl, ?hy11⟩) (by assumption) ?_
    case hy11 => (intro w hSw; go_simp <;> (try with_reducible rfl))
    simp only [Act.put, List.setIfInBounds_toArray, List.set_cons_zero, List.set_cons_succ, List.getElem_toArray, List.getElem_cons_succ, List.getElem_cons_zero]
    refine wpAnyH_take (i := 4) (v := ?v12) rfl (by kernel_rfl) (by kernel_rfl) (by kernel_rfl) (fun _ _ _ h => h) (Or.inl ⟨by rfl, ?hy12⟩) (by assumption) ?_
    case hy12 => (intro w hSw; go_simp <;> (try with_reducible rfl))
    simp only [Act.put, List.setIfInBounds_toArray, List.set_cons_zero, List.set_cons_succ, List.getElem_toArray, List.getElem_cons_succ, List.getElem_cons_zero]
    refine wpAnyH_take (i := 5) (v := ?v13) rfl (by kernel_rfl) (by kernel_rfl) (by kernel_rfl) (fun _ _ _ h => h) (Or.inl ⟨by rfl, ?hy13⟩) (by assumption) ?_
    case hy13 => (intro w hSw; go_simp <;> (try with_reducible rfl))
    simp only [Act.put, List.setIfInBounds_toArray, List.set_cons_zero, List.set_cons_succ, List.getElem_toArray, List.getElem_cons_succ, List.getElem_cons_zero]
    refine wpAnyH_take (i := 6) (v := ?v14) rfl (by kernel_rfl) (by kernel_rfl) (by kernel_rfl) (fun _ _ _ h => h) (Or.inl ⟨by rfl, ?hy14⟩) (by assumption) ?_
    case hy14 => (intro w hSw; go_simp <;> (try with_reducible rfl))
    simp only [Act.put, List.setIfInBounds_toArray, List.set_cons_zero, List.set_cons_succ, List.getElem_toArray, List.getElem_cons_succ, List.getElem_cons_zero]
    refine wpAnyH_take (i := 7) (v := ?v15) rfl (by kernel_rfl) (by kernel_rfl) (by kernel_rfl) (fun _ _ _ h => h) (Or.inl ⟨by rfl, ?hy15⟩) (by assumption) ?_
    case hy15 => (intro w hSw; go_simp <;> (try with_reducible rfl))
    simp only [Act.put, List.setIfInBounds_toArray, List.set_cons_zero, List.set_cons_succ, List.getElem_toArray, List.getElem_cons_succ, List.getElem_cons_zero]
    refine wpAnyH_take (i := 8) (v := ?v16) rfl (by kernel_rfl) (by kernel_rfl) (by kernel_rfl) (fun _ _ _ h => h) (Or.inl ⟨by rfl, ?hy16⟩) (by assumption) ?_
    case hy16 => (intro w hSw; go_simp <;> (try with_reducible rfl))
    simp only [Act.put, List.setIfInBounds_toArray, List.set_cons_zero, List.set_cons_succ, List.getElem_toArray, List.getElem_cons_succ, List.getElem_cons_zero]
    refine wpAnyH_take (i := 9) (v := ?v17) rfl (by kernel_rfl) (by kernel_rfl) (by kernel_rfl) (fun _ _ _ h => h) (Or.inl ⟨by rfl, ?hy17⟩) (by assumption) ?_
    case hy17 => (intro w hSw; go_simp <;> (try with_reducible rfl))
    simp only [Act.put, List.setIfInBounds_toArray, List.set_cons_zero, List.set_cons_succ, List.getElem_toArray, List.getElem_cons_succ, List.getElem_cons_zero]
    refine wpAnyH_ready (rs := [10]) (by kernel_rfl) (by simp) ?_
    refine AllReadyH.cons rfl (fun K hK => ?_) AllReadyH.nil
    go_simp
    refine HO.out.mono ?_
    rintro e2 w2 ⟨rfl, h2, k2⟩
    have hz2 : w1.heap.size ≤ w2.heap.size := k2.size
    have G2 : Grew (fun u => u = 2) col (ext col w1.heap.size w2.heap.size 2) w1 w2 := ⟨(grew_ext k2).old, (grew_ext k2).top, ⟨k2.os, k2.tape, k2.output, k2.size, k2.block⟩⟩
    have F2 := hid (show FoS (fun b => ext col w1.heap.size w2.heap.size 2 b = 3) f H.M H.L w2 from (HF.out.mono (T := fun b => ext col w1.heap.size w2.heap.size 2 b = 3) (fun b hb e => (ext_old hb).trans e)).keep k2 (fun b hb e h => by have h' : col b = 2 := h; have hb' : b < w1.heap.size := hb; rw [ext_old hb', h'] at e; cases e))
    have N2 := hid (h2.mono (T := fun b => ext col w1.heap.size w2.heap.size 2 b = 2) (fun b hb e => ext_new hb e))
    have B2 := hid (blk_keep HB.out k2 (fun h => by rw [hcc.out] at h; cases h))
    have HG2 := hid G2
    have c0 := cell_keep (c := w2) (a := w1.drew) c0 hcl k2 (fun h => by rw [hcc.out] at h; cases h)
    have c1 := cell_keep (c := w2) (a := w1.drew) c1 hcl k2 (fun h => by rw [hcc.out] at h; cases h)
    have HA := hid (fadd_calls w2 F2.out id m hI.out)
    have hc2 : c < w2.heap.size := Nat.lt_of_lt_of_le hcl hz2
    clear h2 k2 G2 HO HF HB
    go_simp
    refine hK.out _ _ ?_ (fun _ => ?_)
    · (refine ⟨?_, ?_⟩ <;> (first | assumption | go_simp))
    clear hK K
    refine wpAnyH_ready (rs := [11]) (by kernel_rfl) (by simp) ?_
    refine AllReadyH.cons rfl (fun K hK => ?_) AllReadyH.nil
    go_simp
    refine HA.out.mono ?_
    rintro e3 w3 ⟨rfl, h3, k3⟩
    have G3 := grew_ext k3
    have F3 := h3.mono (T := fun b => ext (ext col w1.heap.size w2.heap.size 2) w2.heap.size w3.heap.size 3 b = 3) (fun b hb e => ext_new hb e)
    have N3 := (N2.out.mono (T := fun b => ext (ext col w1.heap.size w2.heap.size 2) w2.heap.size w3.heap.size 3 b = 2) (fun b hb e => (ext_old hb).trans e)).keep k3 (fun b hb e h => by rw [ext_old hb, h] at e; cases e)
    have hc3 : ¬ ext col w1.heap.size w2.heap.size 2 c = 3 := by rw [ext_old hcl, hcc.out]; decide
    have R := hid (show ∃ col', Cls { H with N := ofT H.N s, L := addL H.M H.L id m } c n f col' w3 ∧ Grew (fun u => u = 2 ∨ u = 3) col col' w1 w3 from ⟨_, ⟨blk_keep B2.out k3 hc3, N3, F3⟩, (HG2.out.mono (fun _ e => .inl e)).trans (G3.mono (fun _ e => .inr e))⟩)
    have c0 := cell_keep c0 hc2 k3 hc3
    have c1 := cell_keep c1 hc2 k3 hc3
    clear h3 k3 G3 F3 N3 HA
    go_simp
    refine hK.out _ _ ?_ (fun _ => ?_)
    · (refine ⟨?_, ?_⟩ <;> (first | assumption | go_simp))
    clear hK K
    refine wpAnyH_take (i := 12) (v := ?v20) rfl (by kernel_rfl) (by kernel_rfl) (by kernel_rfl) (fun _ _ _ h => h) (Or.inl ⟨by rfl, ?hy20⟩) (by assumption) ?_
    case hy20 => (intro w hSw; go_simp <;> (try with_reducible rfl))
    simp only [Act.put, List.setIfInBounds_toArray, List.set_cons_zero, List.set_cons_succ, List.getElem_toArray, List.getElem_cons_succ, List.getElem_cons_zero]
    refine wpAnyH_done (by kernel_rfl) ?_ _
    go_wp2_with fail
    go_ret
    exact ⟨rfl, R.out⟩

theorem Named.more {H H' : He} {sh : Int} {l : List Ent} {y : Sh} (h : Named H sh l) (hg : getS H.L sh = some y) (hL : ∀ (i : Nat) (s : Sh), H.L[i]? = some s → H'.L[i]? = some s) (hT : ∀ (i : Nat) (s : ByteArray), H.N[i]? = some s → H'.N[i]? = some s) (hn : H'.N.length ≤ 1000000) :
    Named H' sh l ∧ protoF H'.L sh = protoF H.L sh := by
  obtain ⟨i, rfl, hi⟩ := getS_some hg
  have hg' : getS H'.L ((i + 1 : Nat) : Int) = some y := by rw [getS_succ]; exact hL i y hi
  have e1 : namesF H'.L ((i + 1 : Nat) : Int) = namesF H.L ((i + 1 : Nat) : Int) := by unfold namesF; rw [hg, hg']
  have hlen : H.N.length ≤ H'.N.length := by
    by_cases h0 : H.N.length = 0
    · omega
    · have := lt_of_get (hT (H.N.length - 1) _ (List.getElem?_eq_getElem (by omega)))
      omega
  refine ⟨⟨?_, ?_, hn⟩, by unfold protoF; rw [hg, hg']⟩
  · rw [e1, h.nm]
    refine List.map_congr_left (fun x hx => ?_)
    have hb := h.nums x hx
    obtain ⟨j, rfl⟩ : ∃ j : Nat, x = ((j + 1 : Nat) : Int) := ⟨(x - 1).toNat, by omega⟩
    have hj : j < H.N.length := by omega
    have h2 := List.getElem?_eq_getElem hj
    rw [textN_at h2, textN_at (hT j _ h2)]
  · intro x hx
    rw [e1] at hx
    have := h.nums x hx
    omega
theorem next_stay {H : He} {id : Int} {s : ByteArray} : (∀ (i : Nat) (y : Sh), H.L[i]? = some y → (nextH H id s).L[i]? = some y) ∧ (∀ (i : Nat) (y : ByteArray), H.N[i]? = some y → (nextH H id s).N[i]? = some y) ∧ (nextH H id s).N.length ≤ H.N.length + 1 ∧ (nextH H id s).M = H.M ∧ (nextH H id s).os = H.os := by
  unfold nextH
  cases getS H.L id with
  | none => exact ⟨fun _ _ h => h, fun _ _ h => h, Nat.le_succ _, rfl, rfl⟩
  | some y => exact ⟨fun _ _ h => addL_stay h, fun _ _ h => ofT_get h, (ofT_len _ _).1, rfl, rfl⟩
/-- what a call on an object as it is kept comes to -/
def Turned (K : Nat) (H' : He) (c n f t : Nat) (x' : Ob) (col : Nat → Nat) (w : World) (e : Ending) (w' : World) : Prop :=
  ∃ q' col', e = .returned (ivO x' q') ∧ Cls H' c n f col' w' ∧ KeptO K c x' q' (fun b => col' b = t) w' ∧ Grew (fun u => u = 2 ∨ u = 3 ∨ u = t) col col' w w'

end Go.Proofs.YtemidicgipebjaaGreat

namespace Go.Proofs.YtemidicgipebjaaGreat
set_option linter.unusedSimpArgs false
set_option maxRecDepth 100000
open Go.RowKit

set_option maxHeartbeats 2000000 in
theorem with_slot {J : Nat} {H : He} {c n f q t : Nat} {col : Nat → Nat} {x : Ob} {v : Value} {y : Sh} (w : World) (C : Cls H c n f col w) (hc : col c = 1) (ht : ∀ b, w.heap.size ≤ b → col b = 0) (h4 : 4 ≤ t) (h : SlAt c x.sh x.l q v w) (hb : ∀ b, FtL q v b → col b = t)
    (hN : Named H x.sh x.l) (hy : getS H.L x.sh = some y) (hp : protoF H.L x.sh = (x.pr : Int)) (ho : OkL x.l) (hl : x.l.length ≤ 32) (hnl : H.N.length < 1000000) (hK : 40 ≤ J) (s : ByteArray) (hs : s.size ≤ 1000000) (hh : hasL x.l s = false) (u : Vl) :
    Calls Tryz.prog 58 #[.iface 88 (.pointer (some ⟨q, 0, none⟩)), .string s, vlV u] w fun e w' => Turned J (nextH H x.sh s) c n f t { x with l := x.l ++ [(s, u)], ep := x.ep + 1, sh := nextN H x.sh s } col w e w' := by
  obtain ⟨c0, c1, c2, hq⟩ := h.cells
  have hqn : q ≠ w.heap.size := by omega
  have hct : col q = t := hb q (.inl rfl)
  have A := ((Below.refl w.heap.size w).alloc (Nat.le_refl _) (Obj.cells #[.int .i64 u.1, .int .i64 u.2.1, .string u.2.2] 26)).drew
  have HNx := hid (cnext_calls _ (C.on A) hc (fun b hb => ht b (Nat.le_trans A.size hb)) (by omega) (x.sh : Int) s hs)
  have HH := hid (h.on A)
  have HA := hid A
  have hvb : Hid (∀ b, FtL q v b → b < w.heap.size) := hid (fun b hb => h.lt hb)
  have HM := hid (hN.more (H' := nextH H x.sh s) hy next_stay.1 next_stay.2.1 (by have := (next_stay (H := H) (id := x.sh) (s := s)).2.2.1; omega))
  have hwl : w.heap.size < ((w.alloc (Obj.cells #[.int .i64 u.1, .int .i64 u.2.1, .string u.2.2] 26)).drew).heap.size := by simp
  have hcw := ht w.heap.size (Nat.le_refl _)
  have HT := hid ht
  have HBB := hid hb
  have HO := hid ho
  have HPr := hid hp
  have hcc := hid hc
  have HSet := hid (setL_new u hh)
  clear h C A hN hy ht hb ho hp hc hh
  have t1 := ta_ss q
  unfold vlV
  generalize hto : nextN H x.sh s = to at *
  generalize hHH : nextH H x.sh s = H' at *
  go_enter Tryz.func58, Tryz.ntmps58
  go_wp2_with fail
  refine wp_region_held_drew (S := fun a => a.cell? ⟨q, 0, none⟩ = some (.pointer (some ⟨c, 0, none⟩)) ∧ a.cell? ⟨q, 1, none⟩ = some (.int .i64 x.sh) ∧ a.cell? ⟨w.heap.size, 0, none⟩ = some (.int .i64 u.1) ∧ a.cell? ⟨w.heap.size, 1, none⟩ = some (.int .i64 u.2.1) ∧ a.cell? ⟨w.heap.size, 2, none⟩ = some (.string u.2.2)) (by kernel_rfl) ?_ (fun hHeld => ?_)
  · (refine ⟨?_, ?_, ?_, ?_, ?_⟩ <;> go_simp)
  refine wpAnyH_take (i := 0) (v := ?v1) rfl (by kernel_rfl) (by kernel_rfl) (by kernel_rfl) (fun _ _ _ h => h) (Or.inl ⟨by rfl, ?hy1⟩) (by assumption) ?_
  case hy1 => (intro w hSw; go_simp <;> (try with_reducible rfl))
  simp only [Act.put, List.setIfInBounds_toArray, List.set_cons_zero, List.set_cons_succ, List.getElem_toArray, List.getElem_cons_succ, List.getElem_cons_zero]
  refine wpAnyH_take (i := 1) (v := ?v2) rfl (by kernel_rfl) (by kernel_rfl) (by kernel_rfl) (fun _ _ _ h => h) (Or.inl ⟨by rfl, ?hy2⟩) (by assumption) ?_
  case hy2 => (intro w hSw; go_simp <;> (try with_reducible rfl))
  simp only [Act.put, List.setIfInBounds_toArray, List.set_cons_zero, List.set_cons_succ, List.getElem_toArray, List.getElem_cons_succ, List.getElem_cons_zero]
  refine wpAnyH_take (i := 2) (v := ?v3) rfl (by kernel_rfl) (by kernel_rfl) (by kernel_rfl) (fun _ _ _ h => h) (Or.inl ⟨by rfl, ?hy3⟩) (by assumption) ?_
  case hy3 => (intro w hSw; go_simp <;> (try with_reducible rfl))
  simp only [Act.put, List.setIfInBounds_toArray, List.set_cons_zero, List.set_cons_succ, List.getElem_toArray, List.getElem_cons_succ, List.getElem_cons_zero]
  refine wpAnyH_take (i := 3) (v := ?v4) rfl (by kernel_rfl) (by kernel_rfl) (by kernel_rfl) (fun _ _ _ h => h) (Or.inl ⟨by rfl, ?hy4⟩) (by assumption) ?_
  case hy4 => (intro w hSw; go_simp <;> (try with_reducible rfl))
  simp only [Act.put, List.setIfInBounds_toArray, List.set_cons_zero, List.set_cons_succ, List.getElem_toArray, List.getElem_cons_succ, List.getElem_cons_zero]
  refine wpAnyH_take (i := 4) (v := ?v5) rfl (by kernel_rfl) (by kernel_rfl) (by kernel_rfl) (fun _ _ _ h => h) (Or.inl ⟨by rfl, ?hy5⟩) (by assumption) ?_
  case hy5 => (intro w hSw; go_simp <;> (try with_reducible rfl))
  simp only [Act.put, List.setIfInBounds_toArray, List.set_cons_zero, List.set_cons_succ, List.getElem_toArray, List.getElem_cons_succ, List.getElem_cons_zero]
  refine wpAnyH_take (i := 5) (v := ?v6) rfl (by kernel_rfl) (by kernel_rfl) (by kernel_rfl) (fun _ _ _ h => h) (Or.inl ⟨by rfl, ?hy6⟩) (by assumption) ?_
  case hy6 => (intro w hSw; go_simp <;> (try with_reducible rfl))
  simp only [Act.put, List.setIfInBounds_toArray, List.set_cons_zero, List.set_cons_succ, List.getElem_toArray, List.getElem_cons_succ, List.getElem_cons_zero]
  refine wpAnyH_take (i := 6) (v := ?v7) rfl (by kernel_rfl) (by kernel_rfl) (by kernel_rfl) (fun _ _ _ h => h) (Or.inl ⟨by rfl, ?hy7⟩) (by assumption) ?_
  case hy7 => (intro w hSw; go_simp <;> (try with_reducible rfl))
  simp only [Act.put, List.setIfInBounds_toArray, List.set_cons_zero, List.set_cons_succ, List.getElem_toArray, List.getElem_cons_succ, List.getElem_cons_zero]
  refine wpAnyH_take (i := 7) (v := ?v8) rfl (by kernel_rfl) (by kernel_rfl) (by kernel_rfl) (fun _ _ _ h => h) (Or.inl ⟨by rfl, ?hy8⟩) (by assumption) ?_
  case hy8 => (intro w hSw; go_simp <;> (try with_reducible rfl))
  simp only [Act.put, List.setIfInBounds_toArray, List.set_cons_zero, List.set_cons_succ, List.getElem_toArray, List.getElem_cons_succ, List.getElem_cons_zero]
  refine wpAnyH_take (i := 8) (v := ?v9) rfl (by kernel_rfl) (by kernel_rfl) (by kernel_rfl) (fun _ _ _ h => h) (Or.inl ⟨by rfl, ?hy9⟩) (by assumption) ?_
  case hy9 => (intro w hSw; go_simp <;> (try with_reducible rfl))
  simp only [Act.put, List.setIfInBounds_toArray, List.set_cons_zero, List.set_cons_succ, List.getElem_toArray, List.getElem_cons_succ, List.getElem_cons_zero]
  refine wpAnyH_ready (rs := [9]) (by kernel_rfl) (by simp) ?_
  refine AllReadyH.cons rfl (fun K hK => ?_) AllReadyH.nil
  go_simp
  refine HNx.out.mono ?_
  rintro e1 w1 ⟨rfl, col1, C1, G1⟩
  have n0 : ¬ (col w.heap.size = 2 ∨ col w.heap.size = 3) := by rw [hcw]; decide
  have nq : ¬ (col q = 2 ∨ col q = 3) := by rw [hct]; omega
  have hq' : q < ((w.alloc (Obj.cells #[.int .i64 u.1, .int .i64 u.2.1, .string u.2.2] 26)).drew).heap.size := by simp; omega
  have z0 := cell_keep (c := w1) (g := w.heap.size) (i := 0) (v := .int .i64 u.1) (by go_simp) hwl G1.keep n0
  have z1 := cell_keep (c := w1) (g := w.heap.size) (i := 1) (v := .int .i64 u.2.1) (by go_simp) hwl G1.keep n0
  have z2 := cell_keep (c := w1) (g := w.heap.size) (i := 2) (v := .string u.2.2) (by go_simp) hwl G1.keep n0
  have c0 := cell_keep (c := w1) (g := q) (i := 0) (v := .pointer (some ⟨c, 0, none⟩)) (by go_simp) hq' G1.keep nq
  have c1 := cell_keep (c := w1) (g := q) (i := 1) (v := .int .i64 x.sh) (by go_simp) hq' G1.keep nq
  have hwl1 := Nat.lt_of_lt_of_le hwl G1.keep.size
  have hq1 := Nat.lt_of_lt_of_le hq' G1.keep.size
  have H1 := hid (HH.out.keep (b := w1) (fun b hb => G1.keep.block b (HH.out.lt hb) (by rw [HBB.out b hb]; omega)))
  have HG1 := hid (show Grew (fun u => u = 2 ∨ u = 3 ∨ u = t) col col1 w w1 from (Grew.below (P := fun u => u = 2 ∨ u = 3 ∨ u = t) HA.out HT.out).trans (G1.mono (fun _ e => by rcases e with e | e; exact .inl e; exact .inr (.inl e))))
  have HC1 := hid C1
  have B1 : Hid (∀ b, FtL q v b → col1 b = t) := hid (fun b hb => (G1.old b (HH.out.lt hb)).trans (HBB.out b hb))
  have hcl : c < w.heap.size := Nat.lt_of_not_le (fun h => by have := HT.out c h; rw [hcc.out] at this; cases this)
  have hc1 : Hid (col1 c = 1) := hid ((G1.old c (Nat.lt_trans hcl hwl)).trans hcc.out)
  clear C1 G1 HNx hqn HH HA n0 nq HT hcl
  go_simp
  refine hK.out _ _ ?_ (fun _ => ?_)
  · (refine ⟨?_, ?_, ?_, ?_, ?_⟩ <;> (first | assumption | go_simp))
  clear hK K
  refine wpAnyH_take (i := 10) (v := ?v11) rfl (by kernel_rfl) (by kernel_rfl) (by kernel_rfl) (fun _ _ _ h => h) (Or.inl ⟨by rfl, ?hy11⟩) (by assumption) ?_
  case hy11 => (intro w hSw; go_simp <;> (try with_reducible rfl))
  simp only [Act.put, List.setIfInBounds_toArray, List.set_cons_zero, List.set_cons_succ, List.getElem_toArray, List.getElem_cons_succ, List.getElem_cons_zero]
  refine wpAnyH_done (by kernel_rfl) ?_ _
  by_cases hto0 : to = 0
  · subst hto0
    have HL := hid (loose_calls w1.drew (HC1.out.on (Below.refl _ _).drew) (H1.out.on (Below.refl _ _).drew) HM.out.1 HO.out (by omega))
    go_wp2_with fail
    refine wp_region_held_drew (S := fun a => a.cell? ⟨w.heap.size, 0, none⟩ = some (.int .i64 u.1) ∧ a.cell? ⟨w.heap.size, 1, none⟩ = some (.int .i64 u.2.1) ∧ a.cell? ⟨w.heap.size, 2, none⟩ = some (.string u.2.2)) (by kernel_rfl) ?_ (fun hHeld => ?_)
    · (refine ⟨?_, ?_, ?_⟩ <;> go_simp)
    refine wpAnyH_take (i := 0) (v := ?v12) rfl (by kernel_rfl) (by kernel_rfl) (by kernel_rfl) (fun _ _ _ h => h) (Or.inl ⟨by rfl, ?hy12⟩) (by assumption) ?_
    case hy12 => (intro w hSw; go_simp <;> (try with_reducible rfl))
    simp only [Act.put, List.setIfInBounds_toArray, List.set_cons_zero, List.set_cons_succ, List.getElem_toArray, List.getElem_cons_succ, List.getElem_cons_zero]
    refine wpAnyH_take (i := 3) (v := ?v13) rfl (by kernel_rfl) (by kernel_rfl) (by kernel_rfl) (fun _ _ _ h => h) (Or.inl ⟨by rfl, ?hy13⟩) (by assumption) ?_
    case hy13 => (intro w hSw; go_simp <;> (try with_reducible rfl))
    simp only [Act.put, List.setIfInBounds_toArray, List.set_cons_zero, List.set_cons_succ, List.getElem_toArray, List.getElem_cons_succ, List.getElem_cons_zero]
    refine wpAnyH_take (i := 4) (v := ?v14) rfl (by kernel_rfl) (by kernel_rfl) (by kernel_rfl) (fun _ _ _ h => h) (Or.inl ⟨by rfl, ?hy14⟩) (by assumption) ?_
    case hy14 => (intro w hSw; go_simp <;> (try with_reducible rfl))
    simp only [Act.put, List.setIfInBounds_toArray, List.set_cons_zero, List.set_cons_succ, List.getElem_toArray, List.getElem_cons_succ, List.getElem_cons_zero]
    refine wpAnyH_ready (rs := [1]) (by kernel_rfl) (by simp) ?_
    refine AllReadyH.cons rfl (fun K hK => ?_) AllReadyH.nil
    go_simp
    refine HL.out.mono ?_
    rintro e2 w2 ⟨dq, rfl, h2, b2⟩
    have b2' : Below w1.heap.size w1 w2 := ((Below.refl w1.heap.size w1).drew).trans b2
    rw [HM.out.2, HPr.out] at h2
    have HW := hid (with_dict w2 (h2.mono (T := fun b => w1.heap.size ≤ b ∧ b < w2.heap.size) (fun b hb h => ⟨h, hb⟩) (Nat.le_refl _)) (by omega) s hs u)
    rw [HSet.out] at HW
    unfold vlV at HW
    have z0 := cell_on z0 hwl1 b2'
    have z1 := cell_on z1 hwl1 b2'
    have z2 := cell_on z2 hwl1 b2'
    have B2 := hid b2'
    have hwl2 := Nat.lt_of_lt_of_le hwl1 b2'.size
    clear h2 b2 b2' HL
    go_simp
    refine hK.out _ _ ?_ (fun _ => ?_)
    · (refine ⟨?_, ?_, ?_⟩ <;> (first | assumption | go_simp))
    clear hK K
    refine wpAnyH_take (i := 2) (v := ?v16) rfl (by kernel_rfl) (by kernel_rfl) (by kernel_rfl) (fun _ _ _ h => h) (Or.inl ⟨by rfl, ?hy16⟩) (by assumption) ?_
    case hy16 => (intro w hSw; go_simp <;> (try with_reducible rfl))
    simp only [Act.put, List.setIfInBounds_toArray, List.set_cons_zero, List.set_cons_succ, List.getElem_toArray, List.getElem_cons_succ, List.getElem_cons_zero]
    refine wpAnyH_ready (rs := [5]) (by kernel_rfl) (by simp) ?_
    refine AllReadyH.cons rfl (fun K hK => ?_) AllReadyH.nil
    go_simp
    refine HW.out.mono ?_
    rintro e3 w3 ⟨rfl, h3, k3⟩
    have hb3 : Below w1.heap.size w1 w3 := B2.out.trans (k3.below B2.out.size (fun b h => h.1))
    have z0 := cell_keep z0 hwl2 k3 (fun h => by omega)
    have z1 := cell_keep z1 hwl2 k3 (fun h => by omega)
    have z2 := cell_keep z2 hwl2 k3 (fun h => by omega)
    have R : Hid (Turned J H' c n f t { x with l := x.l ++ [(s, u)], ep := x.ep + 1, sh := 0 } col w (.returned (.iface 133 (.pointer (some ⟨dq, 0, none⟩)))) w3) := by
      have g3 : Grew (fun u => u = t) col1 (ext col1 w1.heap.size w3.heap.size t) w1 w3 := grew_ext (Keep.of hb3)
      refine hid ⟨dq, _, rfl, HC1.out.grew (by rw [hc1.out]; omega) g3 (by omega) (by omega), .inr ⟨rfl, x.l.length + 1, h3.mono (fun b hb h => ext_new hb (.inr ?_)) (Nat.le_refl _), by omega⟩, HG1.out.trans (g3.mono (fun _ e => .inr (.inr e)))⟩
      rcases h with h | h
      · exact h.1
      · exact Nat.le_trans B2.out.size h
    clear h3 k3 HW hb3
    go_simp
    refine hK.out _ _ ?_ (fun _ => ?_)
    · (refine ⟨?_, ?_, ?_⟩ <;> (first | assumption | go_simp))
    clear hK K
    refine wpAnyH_take (i := 6) (v := ?v18) rfl (by kernel_rfl) (by kernel_rfl) (by kernel_rfl) (fun _ _ _ h => h) (Or.inl ⟨by rfl, ?hy18⟩) (by assumption) ?_
    case hy18 => (intro w hSw; go_simp <;> (try with_reducible rfl))
    simp only [Act.put, List.setIfInBounds_toArray, List.set_cons_zero, List.set_cons_succ, List.getElem_toArray, List.getElem_cons_succ, List.getElem_cons_zero]
    refine wpAnyH_done (by kernel_rfl) ?_ _
    go_wp2_with fail
    go_ret
    exact R.out
  · have hgt : 0 < to := by omega
    have HGr := hid (sgrown_calls w1 H1.out (to : Int) s u (by omega))
    unfold vlV at HGr
    go_wp2_with fail
    refine HGr.out.mono ?_
    rintro e2 w2 ⟨rfl, v', h2, k2, f2⟩
    have R : Hid (Turned J H' c n f t { x with l := x.l ++ [(s, u)], ep := x.ep + 1, sh := to } col w (.returned (.iface 88 (.pointer (some ⟨q, 0, none⟩)))) w2) := by
      have g2 : Grew (fun u => u = t) col1 (ext col1 w1.heap.size w2.heap.size t) w1 w2 := grew_ext (k2.mono (fun b _ h => B1.out b h))
      refine hid ⟨q, _, by simp [ivO, hto0], HC1.out.grew (by rw [hc1.out]; omega) g2 (by omega) (by omega), .inl ⟨hto0, v', h2, fun b hb => ext_new (h2.lt hb) ?_⟩, HG1.out.trans (g2.mono (fun _ e => .inr (.inr e)))⟩
      rcases f2 b hb with h | h
      · exact .inl (B1.out b h)
      · exact .inr h
    clear h2 k2 f2 HGr
    go_wp2_with fail
    go_ret
    exact R.out

set_option maxHeartbeats 1000000 in
theorem without_slot {K : Nat} {H : He} {c n f q t : Nat} {col : Nat → Nat} {x : Ob} {v : Value} (w : World) (C : Cls H c n f col w) (hc : col c = 1) (ht : ∀ b, w.heap.size ≤ b → col b = 0) (h4 : 4 ≤ t) (h : SlAt c x.sh x.l q v w)
    (hN : Named H x.sh x.l) (hp : protoF H.L x.sh = (x.pr : Int)) (ho : OkL x.l) (hl : x.l.length ≤ 32) (hK : 40 ≤ K) (s : ByteArray) (hs : s.size ≤ 1000000) :
    Calls Tryz.prog 59 #[.iface 88 (.pointer (some ⟨q, 0, none⟩)), .string s] w fun e w' => Turned K H c n f t { x with l := dropL x.l s, ep := x.ep + 1, sh := 0 } col w e w' := by
  have HL := hid (loose_calls w C h hN ho (by omega))
  rw [hp] at HL
  have HC := hid C
  have hcc := hid hc
  have HT := hid ht
  clear C h hN hp ho ht hc
  have t1 := ta_ss q
  go_enter Tryz.func59, Tryz.ntmps59
  go_wp2_with fail
  refine HL.out.mono ?_
  rintro e2 w2 ⟨dq, rfl, h2, b2⟩
  have HW := hid (without_dict w2 h2 (by omega) s hs)
  have B2 := hid b2
  clear h2 b2 HL
  go_wp2_with fail
  refine HW.out.mono ?_
  rintro e3 w3 ⟨rfl, h3, k3⟩
  have hb3 : Below w.heap.size w w3 := B2.out.trans (k3.below B2.out.size (fun b h => h))
  have R : Hid (Turned K H c n f t { x with l := dropL x.l s, ep := x.ep + 1, sh := 0 } col w (.returned (.iface 133 (.pointer (some ⟨dq, 0, none⟩)))) w3) := by
    have g3 : Grew (fun u => u = t) col (ext col w.heap.size w3.heap.size t) w w3 := grew_ext (Keep.of hb3)
    refine hid ⟨dq, _, rfl, HC.out.grew (by rw [hcc.out]; omega) g3 (by omega) (by omega), .inr ⟨rfl, x.l.length, h3.mono (fun b hb h => ext_new hb (.inr ?_)) (Nat.le_refl _), by omega⟩, g3.mono (fun _ e => .inr (.inr e))⟩
    rcases h with h | h
    · exact h
    · exact Nat.le_trans B2.out.size h
  clear h3 k3 HW hb3
  go_wp2_with fail
  go_ret
  exact R.out

set_option maxHeartbeats 2000000 in
theorem under_slot {K : Nat} {H : He} {c n f q t : Nat} {col : Nat → Nat} {x : Ob} {v : Value} {y : Sh} (w : World) (C : Cls H c n f col w) (hc : col c = 1) (ht : ∀ b, w.heap.size ≤ b → col b = 0) (h4 : 4 ≤ t) (h : SlAt c x.sh x.l q v w) (hb : ∀ b, FtL q v b → col b = t)
    (hN : Named H x.sh x.l) (hy : getS H.L x.sh = some y) (ho : OkL x.l) (hl : x.l.length ≤ 32) (hK : 40 ≤ K) (p : Nat) (hp : p ≤ 1000000) :
    Calls Tryz.prog 61 #[.iface 88 (.pointer (some ⟨q, 0, none⟩)), .int .i64 (p : Int)] w fun e w' => Turned K { H with L := (moveP H.M H.L x.sh p).2 } c n f t { x with pr := p, ep := x.ep + 1, sh := (moveP H.M H.L x.sh p).1 } col w e w' := by
  obtain ⟨c0, c1, c2, hq⟩ := h.cells
  obtain ⟨d0, d1, hcl⟩ := C.cells
  have hct : col q = t := hb q (.inl rfl)
  have fq1 := blk_free h.blk 1
  have D := (Below.refl w.heap.size w).drew
  have HMv := hid (fmove_calls w.drew (C.fo.on D) (x.sh : Int) (p : Int) (by unfold I64; omega))
  have HM := hid (hN.more (H' := { H with L := (moveP H.M H.L x.sh p).2 }) hy (fun _ _ h => moveP_stay h) (fun _ _ h => h) hN.len)
  have HH := hid h
  have HC := hid C
  have HT := hid ht
  have HBB := hid hb
  have HO := hid ho
  have hcc := hid hc
  clear h C D hN hy ht hb ho hc
  have t1 := ta_ss q
  generalize hmv : moveP H.M H.L x.sh p = mv at *
  obtain ⟨to, L'⟩ := mv
  dsimp only at *
  go_enter Tryz.func61, Tryz.ntmps61
  go_wp2_with fail
  refine wp_region_held_drew (S := fun a => a.cell? ⟨q, 0, none⟩ = some (.pointer (some ⟨c, 0, none⟩)) ∧ a.cell? ⟨q, 1, none⟩ = some (.int .i64 x.sh) ∧ a.cell? ⟨c, 1, none⟩ = some (.pointer (some ⟨f, 0, none⟩))) (by kernel_rfl) ?_ (fun hHeld => ?_)
  · (refine ⟨?_, ?_, ?_⟩ <;> go_simp)
  refine wpAnyH_take (i := 0) (v := ?v19) rfl (by kernel_rfl) (by kernel_rfl) (by kernel_rfl) (fun _ _ _ h => h) (Or.inl ⟨by rfl, ?hy19⟩) (by assumption) ?_
  case hy19 => (intro w hSw; go_simp <;> (try with_reducible rfl))
  simp only [Act.put, List.setIfInBounds_toArray, List.set_cons_zero, List.set_cons_succ, List.getElem_toArray, List.getElem_cons_succ, List.getElem_cons_zero]
  refine wpAnyH_take (i := 1) (v := ?v20) rfl (by kernel_rfl) (by kernel_rfl) (by kernel_rfl) (fun _ _ _ h => h) (Or.inl ⟨by rfl, ?hy20⟩) (by assumption) ?_
  case hy20 => (intro w hSw; go_simp <;> (try with_reducible rfl))
  simp only [Act.put, List.setIfInBounds_toArray, List.set_cons_zero, List.set_cons_succ, List.getElem_toArray, List.getElem_cons_succ, List.getElem_cons_zero]
  refine wpAnyH_take (i := 2) (v := ?v21) rfl (by kernel_rfl) (by kernel_rfl) (by kernel_rfl) (fun _ _ _ h => h) (Or.inl ⟨by rfl, ?hy21⟩) (by assumption) ?_
  case hy21 => (intro w hSw; go_simp <;> (try with_reducible rfl))
  simp only [Act.put, List.setIfInBounds_toArray, List.set_cons_zero, List.set_cons_succ, List.getElem_toArray, List.getElem_cons_succ, List.getElem_cons_zero]
  refine wpAnyH_take (i := 3) (v := ?v22) rfl (by kernel_rfl) (by kernel_rfl) (by kernel_rfl) (fun _ _ _ h => h) (Or.inl ⟨by rfl, ?hy22⟩) (by assumption) ?_
  case hy22 => (intro w hSw; go_simp <;> (try with_reducible rfl))
  simp only [Act.put, List.setIfInBounds_toArray, List.set_cons_zero, List.set_cons_succ, List.getElem_toArray, List.getElem_cons_succ, List.getElem_cons_zero]
  refine wpAnyH_take (i := 4) (v := ?v23) rfl (by kernel_rfl) (by kernel_rfl) (by kernel_rfl) (fun _ _ _ h => h) (Or.inl ⟨by rfl, ?hy23⟩) (by assumption) ?_
  case hy23 => (intro w hSw; go_simp <;> (try with_reducible rfl))
  simp only [Act.put, List.setIfInBounds_toArray, List.set_cons_zero, List.set_cons_succ, List.getElem_toArray, List.getElem_cons_succ, List.getElem_cons_zero]
  refine wpAnyH_take (i := 5) (v := ?v24) rfl (by kernel_rfl) (by kernel_rfl) (by kernel_rfl) (fun _ _ _ h => h) (Or.inl ⟨by rfl, ?hy24⟩) (by assumption) ?_
  case hy24 => (intro w hSw; go_simp <;> (try with_reducible rfl))
  simp only [Act.put, List.setIfInBounds_toArray, List.set_cons_zero, List.set_cons_succ, List.getElem_toArray, List.getElem_cons_succ, List.getElem_cons_zero]
  refine wpAnyH_take (i := 6) (v := ?v25) rfl (by kernel_rfl) (by kernel_rfl) (by kernel_rfl) (fun _ _ _ h => h) (Or.inl ⟨by rfl, ?hy25⟩) (by assumption) ?_
  case hy25 => (intro w hSw; go_simp <;> (try with_reducible rfl))
  simp only [Act.put, List.setIfInBounds_toArray, List.set_cons_zero, List.set_cons_succ, List.getElem_toArray, List.getElem_cons_succ, List.getElem_cons_zero]
  refine wpAnyH_take (i := 7) (v := ?v26) rfl (by kernel_rfl) (by kernel_rfl) (by kernel_rfl) (fun _ _ _ h => h) (Or.inl ⟨by rfl, ?hy26⟩) (by assumption) ?_
  case hy26 => (intro w hSw; go_simp <;> (try with_reducible rfl))
  simp only [Act.put, List.setIfInBounds_toArray, List.set_cons_zero, List.set_cons_succ, List.getElem_toArray, List.getElem_cons_succ, List.getElem_cons_zero]
  refine wpAnyH_take (i := 8) (v := ?v27) rfl (by kernel_rfl) (by kernel_rfl) (by kernel_rfl) (fun _ _ _ h => h) (Or.inl ⟨by rfl, ?hy27⟩) (by assumption) ?_
  case hy27 => (intro w hSw; go_simp <;> (try with_reducible rfl))
  simp only [Act.put, List.setIfInBounds_toArray, List.set_cons_zero, List.set_cons_succ, List.getElem_toArray, List.getElem_cons_succ, List.getElem_cons_zero]
  refine wpAnyH_take (i := 9) (v := ?v28) rfl (by kernel_rfl) (by kernel_rfl) (by kernel_rfl) (fun _ _ _ h => h) (Or.inl ⟨by rfl, ?hy28⟩) (by assumption) ?_
  case hy28 => (intro w hSw; go_simp <;> (try with_reducible rfl))
  simp only [Act.put, List.setIfInBounds_toArray, List.set_cons_zero, List.set_cons_succ, List.getElem_toArray, List.getElem_cons_succ, List.getElem_cons_zero]
  refine wpAnyH_take (i := 10) (v := ?v29) rfl (by kernel_rfl) (by kernel_rfl) (by kernel_rfl) (fun _ _ _ h => h) (Or.inl ⟨by rfl, ?hy29⟩) (by assumption) ?_
  case hy29 => (intro w hSw; go_simp <;> (try with_reducible rfl))
  simp only [Act.put, List.setIfInBounds_toArray, List.set_cons_zero, List.set_cons_succ, List.getElem_toArray, List.getElem_cons_succ, List.getElem_cons_zero]
  refine wpAnyH_take (i := 11) (v := ?v30) rfl (by kernel_rfl) (by kernel_rfl) (by kernel_rfl) (fun _ _ _ h => h) (Or.inl ⟨by rfl, ?hy30⟩) (by assumption) ?_
  case hy30 => (intro w hSw; go_simp <;> (try with_reducible rfl))
  simp only [Act.put, List.setIfInBounds_toArray, List.set_cons_zero, List.set_cons_succ, List.getElem_toArray, List.getElem_cons_succ, List.getElem_cons_zero]
  refine wpAnyH_ready (rs := [12]) (by kernel_rfl) (by simp) ?_
  refine AllReadyH.cons rfl (fun K hK => ?_) AllReadyH.nil
  go_simp
  refine HMv.out.mono ?_
  rintro e1 w1 ⟨rfl, h1, k1⟩
  have G1 : Grew (fun u => u = 3) col (ext col w.heap.size w1.heap.size 3) w w1 := ⟨(grew_ext k1).old, (grew_ext k1).top, ⟨k1.os, k1.tape, k1.output, k1.size, k1.block⟩⟩
  have hz1 : w.heap.size ≤ w1.heap.size := k1.size
  have F1 := h1.mono (T := fun b => ext col w.heap.size w1.heap.size 3 b = 3) (fun b hb e => ext_new hb e)
  have N1 := (HC.out.nm.mono (T := fun b => ext col w.heap.size w1.heap.size 3 b = 2) (fun b hb e => (ext_old hb).trans e)).keep G1.keep (fun b hb e h => by rw [ext_old hb, h] at e; cases e)
  have n3 : ¬ col c = 3 := by rw [hcc.out]; decide
  have nq : ¬ col q = 3 := by rw [hct]; omega
  have C1 := hid (show Cls { H with L := L' } c n f (ext col w.heap.size w1.heap.size 3) w1 from ⟨blk_keep HC.out.blk G1.keep n3, N1, F1⟩)
  have c0 := cell_keep c0 hq G1.keep nq
  have c1 := cell_keep c1 hq G1.keep nq
  have d1 := cell_keep d1 hcl G1.keep n3
  have H1 := hid (HH.out.keep (b := w1) (fun b hb => G1.keep.block b (HH.out.lt hb) (by rw [HBB.out b hb]; omega)))
  have HG1 := hid (G1.mono (Q := fun u => u = 2 ∨ u = 3 ∨ u = t) (fun _ e => .inr (.inl e)))
  have B1 : Hid (∀ b, FtL q v b → ext col w.heap.size w1.heap.size 3 b = t) := hid (fun b hb => (G1.old b (HH.out.lt hb)).trans (HBB.out b hb))
  have hc1 : Hid (ext col w.heap.size w1.heap.size 3 c = 1) := hid ((G1.old c hcl).trans hcc.out)
  generalize ext col w.heap.size w1.heap.size 3 = col1 at *
  have hq1 : q < w1.heap.size := Nat.lt_of_lt_of_le hq hz1
  have fq := blk_free H1.out.blk 1
  clear h1 k1 G1 F1 N1 HMv n3 nq HH HC HT fq1
  go_simp
  refine hK.out _ _ ?_ (fun _ => ?_)
  · (refine ⟨?_, ?_, ?_⟩ <;> (first | assumption | go_simp))
  clear hK K
  refine wpAnyH_take (i := 13) (v := ?v32) rfl (by kernel_rfl) (by kernel_rfl) (by kernel_rfl) (fun _ _ _ h => h) (Or.inl ⟨by rfl, ?hy32⟩) (by assumption) ?_
  case hy32 => (intro w hSw; go_simp <;> (try with_reducible rfl))
  simp only [Act.put, List.setIfInBounds_toArray, List.set_cons_zero, List.set_cons_succ, List.getElem_toArray, List.getElem_cons_succ, List.getElem_cons_zero]
  refine wpAnyH_done (by kernel_rfl) ?_ _
  by_cases hto0 : to = 0
  · subst hto0
    have HL := hid (loose_calls w1 C1.out H1.out HM.out.1 HO.out (by omega))
    go_wp2_with fail
    refine HL.out.mono ?_
    rintro e2 w2 ⟨dq, rfl, h2, b2⟩
    have HW := hid (under_dict w2 h2 (p : Int))
    have B2 := hid b2
    clear h2 b2 HL
    go_wp2_with fail
    refine HW.out.mono ?_
    rintro e3 w3 ⟨rfl, h3, k3⟩
    have hb3 : Below w1.heap.size w1 w3 := B2.out.trans (k3.below B2.out.size (fun b h => h))
    have R : Hid (Turned K { H with L := L' } c n f t { x with pr := p, ep := x.ep + 1, sh := 0 } col w (.returned (.iface 133 (.pointer (some ⟨dq, 0, none⟩)))) w3) := by
      have g3 : Grew (fun u => u = t) col1 (ext col1 w1.heap.size w3.heap.size t) w1 w3 := grew_ext (Keep.of hb3)
      exact hid ⟨dq, _, rfl, C1.out.grew (by rw [hc1.out]; omega) g3 (by omega) (by omega), .inr ⟨rfl, x.l.length, h3.mono (fun b hb h => ext_new hb (.inr h)) (Nat.le_refl _), by omega⟩, HG1.out.trans (g3.mono (fun _ e => .inr (.inr e)))⟩
    clear h3 k3 HW hb3
    go_wp2_with fail
    go_ret
    exact R.out
  · have hgt : 0 < to := by omega
    have R : Hid (Turned K { H with L := L' } c n f t { x with pr := p, ep := x.ep + 1, sh := to } col w (.returned (.iface 88 (.pointer (some ⟨q, 0, none⟩)))) (w1.setCell ⟨q, 1, none⟩ (.int .i64 (to : Int)))) := by
      have kq := Keep.set (S := fun b => b = q) rfl w1 1 (.int .i64 (to : Int))
      have g2 : Grew (fun u => u = t) col1 (ext col1 w1.heap.size (w1.setCell ⟨q, 1, none⟩ (.int .i64 (to : Int))).heap.size t) w1 (w1.setCell ⟨q, 1, none⟩ (.int .i64 (to : Int))) := grew_ext (kq.mono (fun b _ h => by rw [h]; exact B1.out q (.inl rfl)))
      have h2 : SlAt c (to : Int) x.l q v (w1.setCell ⟨q, 1, none⟩ (.int .i64 (to : Int))) := ⟨blk_set H1.out.blk 1 _, row_keep H1.out.row (fun g hg => kq.block g (H1.out.lt (.inr hg)) (H1.out.ne hg))⟩
      exact hid ⟨q, _, by simp [ivO, hto0], C1.out.grew (by rw [hc1.out]; omega) g2 (by omega) (by omega), .inl ⟨hto0, v, h2, fun b hb => ext_new (h2.lt hb) (.inl (B1.out b hb))⟩, HG1.out.trans (g2.mono (fun _ e => .inr (.inr e)))⟩
    go_wp2_with fail
    go_ret
    exact R.out

end Go.Proofs.YtemidicgipebjaaGreat
