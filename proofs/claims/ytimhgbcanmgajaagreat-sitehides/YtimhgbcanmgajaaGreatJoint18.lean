/- What an entry says and does. What an entry says, and what a set's entry does. -/
import Derived.Test.YtimhgbcanmgajaaGreatJoint2
import Derived.Test.YtimhgbcanmgajaaGreatJoint17
import Derived.Test.YtimhgbcanmgajaaGreatJoint16
import Derived.Test.YtimhgbcanmgajaaGreatHpGrow
namespace Go.Proofs.YtimhgbcanmgajaaGreat
set_option linter.unusedSimpArgs false
set_option linter.unusedVariables false
set_option maxRecDepth 100000
open Go.RowKit

theorem CeAt.cell4 {s x : Nat} {t : St} {v : Value} {l : List (En × Value)} {w : World} (h : CeAt s x t v l w) : w.cell? ⟨x, 4, none⟩ = some v ∧ x < w.heap.size := by
  refine ⟨?_, blk_lt h.blk⟩
  rw [blk_cell h.blk]
  unfold ceC
  split <;> rfl
theorem sfind_calls (w : World) {s x : Nat} {t : St} {v : Value} {l : List (En × Value)} (C : CeAt s x t v l w) (hl : t.l.length ≤ 4) (sh : Nat) :
    Calls Tryz.prog 108 #[.pointer (some ⟨x, 0, none⟩), .agg #[.pointer (some ⟨s, 0, none⟩)], .int .i64 (sh : Int)] w fun e w' => e = .returned (.int .i64 (idxL l sh)) ∧ Below w.heap.size w w' := by
  obtain ⟨x4, lx⟩ := C.cell4
  have A := ((Below.refl w.heap.size w).alloc (Nat.le_refl _) (Obj.cells #[.pointer (some ⟨s, 0, none⟩)] 83)).alloc (by simp) (Obj.cells #[.int .i64 (sh : Int)] 3)
  have HI := hid (sindex_calls ((w.alloc (Obj.cells #[.pointer (some ⟨s, 0, none⟩)] 83)).alloc (Obj.cells #[.int .i64 (sh : Int)] 3)) s w.heap.size (w.heap.size + 1) sh v l (C.on A).row (by simp) (by simp) (by simp; omega) (by simp) (by have := C.len; omega))
  have HA := hid A
  clear A C
  go_enter Tryz.func108, Tryz.ntmps108
  go_wp2_with fail
  refine HI.out.mono ?_
  rintro e1 w1 ⟨rfl, b1⟩
  have B1 := hid (below_on HA.out b1)
  clear b1
  go_wp2_with fail
  go_ret
  exact ⟨rfl, B1.out⟩
theorem sknown_nil (w : World) (a : Value) (o : Int) :
    Calls Tryz.prog 53 #[.pointer none, a, .int .i64 o] w fun e w' => e = .returned (.tuple #[keZ, .bool false]) ∧ Below w.heap.size w w' := by
  go_enter Tryz.func53, Tryz.ntmps53
  go_wp2_with fail
  exact bodyPost_ret (ret_kb rfl rfl ⟨by simp, by simp, by simp, by simp, by simp, by simp⟩) rfl ⟨rfl, (Below.refl _ _).alloc (Nat.le_refl _) _⟩
set_option maxHeartbeats 1000000 in
theorem sknown_calls (w : World) {s x : Nat} {t : St} {v : Value} {l : List (En × Value)} (C : CeAt s x t v l w) (hl : t.l.length ≤ 4) {SH : Nat → Prop} {J h : Nat} {H : He} (ph : HpZ SH J h s H w) (o : Int) :
    Calls Tryz.prog 53 #[.pointer (some ⟨x, 0, none⟩), .pointer (some ⟨h, 0, none⟩), .int .i64 o] w fun e w' => Below w.heap.size w w' ∧
      ((findE t.l (shapeH H o) = none ∧ e = .returned (.tuple #[keZ, .bool false])) ∨ ∃ i p, findE t.l (shapeH H o) = some i ∧ l[i]? = some p ∧ t.l[i]? = some p.1 ∧ e = .returned (.tuple #[keV s p, .bool true])) := by
  have hes := C.es
  obtain ⟨x4, lx⟩ := C.cell4
  have hh : w.cell? ⟨h, 0, none⟩ = some (.pointer (some ⟨s, 0, none⟩)) ∧ h < w.heap.size := by
    obtain ⟨c, n, f, v, g, q, col, p, _⟩ := ph
    obtain ⟨k0, _, _, _, _, k5, _⟩ := p.cells
    exact ⟨k0, k5⟩
  obtain ⟨h0, lh⟩ := hh
  have A := (Below.refl w.heap.size w).alloc (Nat.le_refl _) (Obj.cells #[.int .i64 0, .int .i64 0, .int .i64 0, .int .i64 0, .slice none 0 0, .pointer none] 141)
  have HS := hid (hshape_calls _ (ph.s.on A.drew) o)
  have HF := hid (fun (wx : World) (b : Below w.heap.size w wx) => sfind_calls wx (C.on b) hl (shapeH H o))
  have HC := hid C
  have HA := hid A
  clear A C ph
  have HE := hid hes
  clear hes
  generalize shapeH H o = sh at *
  go_enter Tryz.func53, Tryz.ntmps53
  go_wp2_with fail
  refine wp_region_held_drew (S := fun aZ => aZ.cell? ⟨h, 0, none⟩ = some (.pointer (some ⟨s, 0, none⟩)) ∧ aZ.cell? ⟨x, 4, none⟩ = some (v)) (by kernel_rfl) ?_ (fun hHeld => ?_)
  · (refine ⟨?_, ?_⟩ <;> go_simp)
  refine tkk 0 ?_
  refine tkk 1 ?_
  refine tkk 2 ?_
  refine tkk 3 ?_
  refine tkk 4 ?_
  refine tkk 5 ?_
  refine rdy 6 (fun K hK => ?_)
  go_simp
  refine HS.out.mono ?_
  rintro e1 w1 ⟨rfl, b1⟩
  have B1 := hid (below_on HA.out.drew b1)
  have QB := hid (blk_on (blk_on (blk_new w 141 #[.int .i64 0, .int .i64 0, .int .i64 0, .int .i64 0, .slice none 0 0, .pointer none]) (Below.refl _ _).drew) b1)
  have HF1 := hid (HF.out w1 B1.out)
  have y0 := hcell_on h0 lh B1.out
  have y4 := hcell_on x4 lx B1.out
  clear b1 HS HF
  go_simp
  refine hK.out _ _ ?_ (fun _ => ?_)
  · (refine ⟨?_, ?_⟩ <;> (first | assumption | go_simp))
  clear hK K
  refine rdy 7 (fun K hK => ?_)
  go_simp
  refine HF1.out.mono ?_
  rintro e2 w2 ⟨rfl, b2⟩
  have B2 := hid (below_on B1.out b2)
  have QB2 := hid (blk_on QB.out b2)
  have z0 := hcell_on y0 (Nat.lt_of_lt_of_le lh B1.out.size) b2
  have z4 := hcell_on y4 (Nat.lt_of_lt_of_le lx B1.out.size) b2
  have lx2 := Nat.lt_of_lt_of_le lx B2.out.size
  have Cw := hid (HC.out.on B2.out)
  have lq := blk_lt QB2.out
  have fz : ∀ j, w2.frozen? ⟨w.heap.size, j, none⟩ = false := fun j => blk_free QB2.out j
  have q0 := blk_cell QB2.out 0
  have q1 := blk_cell QB2.out 1
  have q2 := blk_cell QB2.out 2
  have q3 := blk_cell QB2.out 3
  have q4 := blk_cell QB2.out 4
  have q5 := blk_cell QB2.out 5
  simp only [List.getElem?_toArray, List.getElem?_cons_zero, List.getElem?_cons_succ] at q0 q1 q2 q3 q4 q5
  clear b2 HF1 QB
  go_simp
  refine hK.out _ _ ?_ (fun _ => ?_)
  · (refine ⟨?_, ?_⟩ <;> (first | assumption | go_simp))
  clear hK K
  refine tkk 8 ?_
  refine wpAnyH_done (by kernel_rfl) ?_ _
  cases hf : findE t.l sh with
  | none =>
    rw [show idxL l sh = (-1 : Int) by unfold idxL; rw [HE.out, hf]]
    go_wp2_with fail
    refine bodyPost_ret (ret_kb rfl rfl ⟨by simp [go_sem, q0], by simp [go_sem, q1], by simp [go_sem, q2], by simp [go_sem, q3], by simp [go_sem, q4], by simp [go_sem, q5]⟩) rfl ⟨?_, .inl ⟨(by first | exact hf | rfl), rfl⟩⟩
    exact (((((B2.out.setCell (Nat.le_refl _) _).setCell (Nat.le_refl _) _).setCell (Nat.le_refl _) _).setCell (Nat.le_refl _) _).setCell (Nat.le_refl _) _).setCell (Nat.le_refl _) _
  | some i =>
    rw [show idxL l sh = (i : Int) by unfold idxL; rw [HE.out, hf]]
    obtain ⟨e, he, _⟩ := find_some hf
    have hel : t.l[i]? = some e := he
    rw [← HE.out, List.getElem?_map] at hel
    cases hp : l[i]? with
    | none => rw [hp] at hel; cases hel
    | some p =>
      obtain ⟨pe, pv⟩ := p
      obtain ⟨ao2, cap2, hpv⟩ := (Cw.out.dps (pe, pv) (List.mem_of_getElem? hp)).shape
      dsimp only at hpv
      subst hpv
      rw [hp] at hel
      have hpe : pe = e := by injection hel
      obtain ⟨g, cap, hv, hg, c0, c1, c2, c3, c4, c5⟩ := kept_at Cw.out.row hp
      have hil : i < l.length := lt_of_get hp
      have HP := hid hp
      have HEE := hid he
      have HPE := hid hpe
      have HFF := hid hf
      subst hv
      clear hel he hpe hp hf
      dsimp only at c0 c1 c2 c3 c4 c5
      go_wp2_with fail
      refine bodyPost_ret (ret_kb rfl rfl ⟨by simp [go_sem, q0], by simp [go_sem, q1], by simp [go_sem, q2], by simp [go_sem, q3], by simp [go_sem, q4], by simp [go_sem, q5]⟩) rfl ⟨?_, .inr ⟨i, (pe, _), (by first | exact HFF.out | rfl | trivial), HP.out, (by show _ = some pe; rw [HPE.out]; exact HEE.out), rfl⟩⟩
      exact (((((B2.out.setCell (Nat.le_refl _) _).setCell (Nat.le_refl _) _).setCell (Nat.le_refl _) _).setCell (Nat.le_refl _) _).setCell (Nat.le_refl _) _).setCell (Nat.le_refl _) _
set_option maxHeartbeats 1000000 in
theorem sholds_calls (w : World) {s : Nat} {p : En × Value} (D : DpV 113 p.2 p.1.deps w) (hl : p.1.deps.length ≤ 1000000) {SH : Nat → Prop} {J h : Nat} {H : He} (ph : HpS SH J h H w) :
    Calls Tryz.prog 54 #[keV s p, .pointer (some ⟨h, 0, none⟩)] w fun e w' => e = .returned (.bool (holdsE H p.1)) ∧ Below w.heap.size w w' := by
  obtain ⟨⟨sh, ho, sl, to, ds⟩, dv⟩ := p
  dsimp only at D hl ⊢
  unfold keV holdsE
  dsimp only
  obtain ⟨ao, cap0, rfl⟩ := D.shape
  have HP := hid ph
  have HD := hid D
  have A := hid ((Below.refl w.heap.size w).alloc (Nat.le_refl _) (Obj.cells #[.int .i64 (sh : Int), .int .i64 ho, .int .i64 sl, .int .i64 (to : Int), .slice ao ds.length cap0, .pointer (some ⟨s, 0, none⟩)] 141))
  clear ph D
  go_enter Tryz.func54, Tryz.ntmps54
  go_wp2_with fail
  go_loopw [11] (fun i wr => ∃ k : Nat, k ≤ ds.length ∧ i = .int .i64 k ∧ (∀ (j : Nat) (d : Dp), j < k → ds[j]? = some d → epochH H (d.ob : Int) = d.ep) ∧ Hid (Below w.heap.size w wr)) (fun i _ => ds.length - (intOf i).toNat)
  case atStart => exact ⟨0, by omega, rfl, fun j x hj => by omega, A⟩
  case round =>
    obtain ⟨k, hk, rfl, hno, hB⟩ := hrel
    by_cases hgo : k < ds.length
    · obtain ⟨d, hd⟩ : ∃ d, ds[k]? = some d := ⟨ds[k], List.getElem?_eq_getElem hgo⟩
      obtain ⟨g, cap, hv, hg, c0, c1⟩ := (HD.out.on hB.out).at' hd
      injection hv with hv1 _ hv2
      subst hv1 hv2
      have A2 := hid ((Below.refl wr.heap.size wr).alloc (Nat.le_refl _) (Obj.cells #[.int .i64 (d.ob : Int), .int .i64 (d.ep : Int)] 113))
      have HC := hid (hepoch_calls _ (HP.out.on (below_in hB.out (Nat.le_refl _) A2.out.drew)) (d.ob : Int))
      have HDk := hid hd
      have HN := hid hno
      clear hd hno
      go_wp2_with fail
      refine wp_region_held_drew (S := fun aZ => aZ.cell? ⟨wr.heap.size, 0, none⟩ = some (.int .i64 (d.ob : Int)) ∧ aZ.cell? ⟨wr.heap.size, 1, none⟩ = some (.int .i64 (d.ep : Int))) (by kernel_rfl) ?_ (fun hHeld => ?_)
      · (refine ⟨?_, ?_⟩ <;> go_simp)
      refine tkk 0 ?_
      refine tkk 1 ?_
      refine tkk 2 ?_
      refine tkk 4 ?_
      refine tkk 5 ?_
      refine rdy 3 (fun K hK => ?_)
      go_simp
      refine HC.out.mono ?_
      rintro e1 w1 ⟨rfl, b1⟩
      have B1 := hid (below_in (below_in hB.out (Nat.le_refl _) A2.out.drew) (Nat.le_refl _) b1)
      have y0 := hcell_on (g := wr.heap.size) (i := 0) (v := .int .i64 (d.ob : Int)) (a := (wr.alloc (Obj.cells #[.int .i64 (d.ob : Int), .int .i64 (d.ep : Int)] 113)).drew) (by simp) (by simp) b1
      have y1 := hcell_on (g := wr.heap.size) (i := 1) (v := .int .i64 (d.ep : Int)) (a := (wr.alloc (Obj.cells #[.int .i64 (d.ob : Int), .int .i64 (d.ep : Int)] 113)).drew) (by simp) (by simp) b1
      clear b1 HC
      by_cases he : epochH H (d.ob : Int) = d.ep
      · have HE := hid he
        rw [he]
        clear he
        go_simp
        refine hK.out _ _ ?_ (fun _ => ?_)
        · (refine ⟨?_, ?_⟩ <;> (first | assumption | go_simp))
        clear hK K
        refine tkk 6 ?_
        refine wpAnyH_done (by kernel_rfl) ?_ _
        go_wp2_with fail
        go_roundw
        case rel => exact ⟨k + 1, by omega, rfl, fun j x hj hx => by
          by_cases e : j = k
          · subst e; rw [HDk.out] at hx; injection hx with hx; subst hx; exact HE.out
          · exact HN.out j x (by omega) hx, B1⟩
        case measure => simp [intOf]; omega
      · have HE := hid he
        have hq : (((epochH H (d.ob : Int) : Nat) : Int) != (d.ep : Int)) = true := by simp; omega
        have HF2 : Hid ((ds.all fun d => decide (epochH H (d.ob : Int) = d.ep)) = false) := hid (by
          rw [List.all_eq_false]
          exact ⟨d, List.mem_of_getElem? HDk.out, by simpa using he⟩)
        clear he
        generalize epochH H (d.ob : Int) = ee at *
        go_simp
        refine hK.out _ _ ?_ (fun _ => ?_)
        · (refine ⟨?_, ?_⟩ <;> (first | assumption | go_simp))
        clear hK K
        refine tk 6 (v := .bool true) ?_ ?_
        · (intro w hSw; go_simp <;> (first | rfl | exact hq | (simp at hq; simp [hq]) | omega))
        refine wpAnyH_done (by kernel_rfl) ?_ _
        go_wp2_with fail
        go_ret
        refine ⟨?_, B1.out⟩
        rw [HF2.out]
        rfl
    · have HN := hid hno
      have HK : Hid (k = ds.length) := hid (by omega)
      clear hno
      go_wp2_with fail
      go_ret
      refine ⟨?_, hB.out⟩
      have hf : (ds.all fun d => decide (epochH H (d.ob : Int) = d.ep)) = true := by
        rw [List.all_eq_true]
        intro d hd
        obtain ⟨j, hj⟩ := List.getElem?_of_mem hd
        have := HN.out j d (by have := lt_of_get hj; have := HK.out; omega) hj
        simpa using this
      rw [hf]
      rfl
end Go.Proofs.YtimhgbcanmgajaaGreat

namespace Go.Proofs.YtimhgbcanmgajaaGreat
set_option linter.unusedSimpArgs false
set_option linter.unusedVariables false
set_option maxRecDepth 100000
open Go.RowKit

theorem below_set {B g i : Nat} {w w1 : World} (h : Below B w w1) (hg : B ≤ g) (v : Value) : Below B w (w1.setCell ⟨g, i, none⟩ v) := h.setCell hg v
theorem blk_own {g : Nat} {T : TypeId} {cs : Array Value} {w : World} (h : Blk g T cs w) : (∀ j, w.frozen? ⟨g, j, none⟩ = false) ∧ (∀ j, w.cell? ⟨g, j, none⟩ = cs[j]?) ∧ g < w.heap.size := ⟨fun j => blk_free h j, fun j => blk_cell h j, blk_lt h⟩
set_option maxHeartbeats 1000000 in
theorem svalue_of (w : World) {s : Nat} {p : En × Value} {SH : Nat → Prop} {J h : Nat} {H : He} (ph : HpS SH J h H w) (o : Int) (hp : p.1.holder = 0 ∨ p.1.holder = -1 ∨ 0 < p.1.holder) (hv : ∃ ao n cap, p.2 = .slice ao n cap) :
    Calls Tryz.prog 56 #[keV s p, .pointer (some ⟨h, 0, none⟩), .int .i64 o] w fun e w' => e = .returned (vlV (saysE H o p.1)) ∧ Below w.heap.size w w' := by
  obtain ⟨⟨sh, ho, sl, to, ds⟩, dv⟩ := p
  obtain ⟨ao, n, cap, rfl⟩ := hv
  dsimp only at hp ⊢
  unfold keV
  dsimp only
  obtain ⟨W3, hW3⟩ : ∃ W3, W3 = ((w.alloc (Obj.cells #[.int .i64 (sh : Int), .int .i64 ho, .int .i64 sl, .int .i64 (to : Int), .slice ao n cap, .pointer (some ⟨s, 0, none⟩)] 141)).alloc (Obj.cells #[.int .i64 0, .int .i64 0, .string ⟨#[]⟩] 37)).alloc (Obj.cells #[.int .i64 0, .int .i64 0, .string ⟨#[]⟩] 37) := ⟨_, rfl⟩
  have A : Below w.heap.size w W3 := by rw [hW3]; exact (((Below.refl w.heap.size w).alloc (Nat.le_refl _) _).alloc (by simp) _).alloc (by simp; omega) _
  have b1 : Blk (w.heap.size + 1) 37 #[.int .i64 0, .int .i64 0, .string ⟨#[]⟩] W3 := by
    rw [hW3]
    have := blk_on (blk_new (w.alloc (Obj.cells #[.int .i64 (sh : Int), .int .i64 ho, .int .i64 sl, .int .i64 (to : Int), .slice ao n cap, .pointer (some ⟨s, 0, none⟩)] 141)) 37 #[.int .i64 0, .int .i64 0, .string ⟨#[]⟩]) ((Below.refl _ _).alloc (Nat.le_refl _) (Obj.cells #[.int .i64 0, .int .i64 0, .string ⟨#[]⟩] 37))
    simpa using this
  have b2 : Blk (w.heap.size + 2) 37 #[.int .i64 0, .int .i64 0, .string ⟨#[]⟩] W3 := by
    rw [hW3]
    have := blk_new ((w.alloc (Obj.cells #[.int .i64 (sh : Int), .int .i64 ho, .int .i64 sl, .int .i64 (to : Int), .slice ao n cap, .pointer (some ⟨s, 0, none⟩)] 141)).alloc (Obj.cells #[.int .i64 0, .int .i64 0, .string ⟨#[]⟩] 37)) 37 #[.int .i64 0, .int .i64 0, .string ⟨#[]⟩]
    simpa using this
  have HW := hid hW3
  have HA := hid A
  have HS1 := hid (hslot_calls W3 (ph.on A) o sl)
  have HS2 := hid (hslot_calls W3 (ph.on A) ho sl)
  have B1 := hid b1
  have B2 := hid b2
  clear ph A b1 b2 hW3
  unfold vlV at HS1 HS2 ⊢
  by_cases h0 : ho = 0
  · subst h0
    have hS : saysE H o ⟨sh, 0, sl, to, ds⟩ = vlO (slotH H o sl) := by unfold saysE vlO; rw [if_pos rfl]
    rw [hS]
    generalize vlO (slotH H o sl) = u at *
    generalize (slotH H o sl).isSome = bb at *
    clear hS HS2
    go_enter Tryz.func56, Tryz.ntmps56
    go_wp2_with fail
    rw [← HW.out]
    refine HS1.out.mono ?_
    rintro e1 w1 ⟨rfl, k1⟩
    have C1 := hid (blk_on B1.out k1)
    have C2 := hid (blk_on B2.out k1)
    have K1 := hid (below_on HA.out k1)
    obtain ⟨f1, c1, l1⟩ := blk_own C1.out
    obtain ⟨f2, c2, l2⟩ := blk_own C2.out
    have hne : w.heap.size + 1 ≠ w.heap.size + 2 := by omega
    have hne2 : w.heap.size + 2 ≠ w.heap.size + 1 := by omega
    clear k1 HS1
    go_wp2_with fail
    refine bodyPost_ret (ret_v (g := w.heap.size + 1) rfl rfl ⟨?_, ?_, ?_⟩) rfl ⟨rfl, ?_⟩
    · simp [go_sem, c1, c2]
    · simp [go_sem, c1, c2]
    · simp [go_sem, c1, c2]
    · exact below_set (below_set (below_set (below_set (below_set (below_set K1.out (by omega) _) (by omega) _) (by omega) _) (by omega) _) (by omega) _) (by omega) _
  · by_cases h1 : ho = -1
    · subst h1
      have hS : saysE H o ⟨sh, -1, sl, to, ds⟩ = vl0 := by unfold saysE chainV; rw [if_neg (by show ¬ ((-1 : Int) = 0); decide), if_pos (by show (-1 : Int) < 0; decide)]
      rw [hS]
      obtain ⟨f1, c1, l1⟩ := blk_own B1.out
      obtain ⟨f2, c2, l2⟩ := blk_own B2.out
      have hne : w.heap.size + 1 ≠ w.heap.size + 2 := by omega
      have hne2 : w.heap.size + 2 ≠ w.heap.size + 1 := by omega
      clear hS HS1 HS2 hp h0
      dsimp only [vl0]
      go_enter Tryz.func56, Tryz.ntmps56
      go_wp2_with fail
      refine bodyPost_ret (ret_v (g := w.heap.size + 1) rfl rfl ⟨?_, ?_, ?_⟩) rfl ⟨rfl, ?_⟩
      · simp [go_sem]
      · simp [go_sem]
      · simp [go_sem]
      · (first
          | exact (((Below.refl w.heap.size w).alloc (Nat.le_refl _) _).alloc (by simp) _).alloc (by simp; omega) _
          | (rw [← HW.out]; exact HA.out))
    · have hpos : 0 < ho := by omega
      have hS : saysE H o ⟨sh, ho, sl, to, ds⟩ = vlO (slotH H ho sl) := by unfold saysE chainV vlO; rw [if_neg h0, if_neg (by show ¬ ho < 0; omega)]
      rw [hS]
      generalize vlO (slotH H ho sl) = u at *
      generalize (slotH H ho sl).isSome = bb at *
      have e0 : (ho == 0) = false := by simp; omega
      have e1 : (ho == -1) = false := by simp; omega
      clear hS HS1 hp hpos h0 h1
      go_enter Tryz.func56, Tryz.ntmps56
      go_wp2_with fail
      rw [← HW.out]
      refine HS2.out.mono ?_
      rintro e1 w1 ⟨rfl, k1⟩
      have C1 := hid (blk_on B1.out k1)
      have C2 := hid (blk_on B2.out k1)
      have K1 := hid (below_on HA.out k1)
      obtain ⟨f1, c1, l1⟩ := blk_own C1.out
      obtain ⟨f2, c2, l2⟩ := blk_own C2.out
      have hne : w.heap.size + 1 ≠ w.heap.size + 2 := by omega
      have hne2 : w.heap.size + 2 ≠ w.heap.size + 1 := by omega
      clear k1 HS2
      go_wp2_with fail
      refine bodyPost_ret (ret_v (g := w.heap.size + 1) rfl rfl ⟨?_, ?_, ?_⟩) rfl ⟨rfl, ?_⟩
      · simp [go_sem, c1, c2]
      · simp [go_sem, c1, c2]
      · simp [go_sem, c1, c2]
      · exact below_set (below_set (below_set (below_set (below_set (below_set K1.out (by omega) _) (by omega) _) (by omega) _) (by omega) _) (by omega) _) (by omega) _
/-- a set's entry -/
theorem sset_of (w : World) {s : Nat} {p : En × Value} {SH : Nat → Prop} {J h : Nat} {H : He} (ph : HpZ SH J h s H w) (hJ : J ≤ 900000) (o : Int) (u : Vl) (hv : ∃ ao n cap, p.2 = .slice ao n cap) :
    Calls Tryz.prog 60 #[keV s p, .pointer (some ⟨h, 0, none⟩), .int .i64 o, vlV u] w fun e w' => e = .returned (.int .i64 (if p.1.to = 0 then 0 else growE H o p.1.to)) ∧ HpZ (Up SH w) (J + 1) h s (if p.1.to = 0 then putH H o p.1.slot u else growH H o p.1.to u) w' ∧ Keep SH w w' := by
  obtain ⟨⟨sh, ho, sl, to, ds⟩, dv⟩ := p
  obtain ⟨ao, n, cap, rfl⟩ := hv
  dsimp only
  unfold keV
  dsimp only
  obtain ⟨W3, hW3⟩ : ∃ W3, W3 = (w.alloc (Obj.cells #[.int .i64 (sh : Int), .int .i64 ho, .int .i64 sl, .int .i64 (to : Int), .slice ao n cap, .pointer (some ⟨s, 0, none⟩)] 141)).alloc (Obj.cells #[.int .i64 u.1, .int .i64 u.2.1, .string u.2.2] 37) := ⟨_, rfl⟩
  have A : Below w.heap.size w W3 := by rw [hW3]; exact ((Below.refl w.heap.size w).alloc (Nat.le_refl _) _).alloc (by simp) _
  have HA := hid A
  have HG := hid (hgrow_z W3 (ph.on A) hJ o (to : Int) u)
  have HP := hid (hput_z W3 (ph.on A) o sl u)
  have up : ∀ {X : Nat → Prop}, Up X W3 = fun b => X b ∨ W3.heap.size ≤ b := rfl
  unfold vlV at HG HP ⊢
  by_cases h0 : to = 0
  · subst h0
    rw [show ((0 : Nat) : Int) = 0 from rfl] at hW3 ⊢
    clear HG A ph
    go_enter Tryz.func60, Tryz.ntmps60
    go_wp2_with fail
    rw [← hW3]
    refine HP.out.mono ?_
    rintro e1 w1 ⟨rfl, p1, k1⟩
    have P1 := hid p1
    have K1 := hid k1
    clear p1 k1 HP
    go_wp2_with fail
    go_ret
    refine ⟨rfl, (P1.out.mono (fun b _ e => ?_)).more (Nat.le_succ _), (Keep.of HA.out).trans K1.out (fun _ _ e => e)⟩
    rcases e with e | e
    · exact .inl e
    · exact .inr (Nat.le_trans HA.out.size e)
  · rw [if_neg h0, if_neg h0]
    have h1 : (0 : Int) < (to : Int) := by omega
    clear HP A ph
    go_enter Tryz.func60, Tryz.ntmps60
    go_wp2_with fail
    rw [← hW3]
    refine HG.out.mono ?_
    rintro e1 w1 ⟨rfl, p1, k1⟩
    have P1 := hid p1
    have K1 := hid k1
    clear p1 k1 HG
    go_wp2_with fail
    go_ret
    refine ⟨rfl, HpZ.mono P1.out (fun b _ e => ?_), (Keep.of HA.out).trans K1.out (fun _ _ e => e)⟩
    rcases e with e | e
    · exact .inl e
    · exact .inr (Nat.le_trans HA.out.size e)
set_option maxHeartbeats 1000000 in
/-- the entry that a set makes -/
theorem sbecame_calls (w : World) {s : Nat} {SH : Nat → Prop} {J h : Nat} {H : He} (ph : HpZ SH J h s H w) (was to : Nat) (nm : ByteArray) (hn : nm.size ≤ 1000000) :
    Calls Tryz.prog 62 #[.pointer (some ⟨h, 0, none⟩), .int .i64 (was : Int), .int .i64 (to : Int), .string nm] w fun e w' => e = .returned (keV s (if was = to then ⟨was, 0, slotofH H was nm, 0, []⟩ else ⟨was, 0, 0, to, []⟩, .slice none 0 0)) ∧ Below w.heap.size w w' := by
  have hh : w.cell? ⟨h, 0, none⟩ = some (.pointer (some ⟨s, 0, none⟩)) ∧ h < w.heap.size := by
    obtain ⟨c, n, f, v, g, q, col, p, _⟩ := ph
    obtain ⟨k0, _, _, _, _, k5, _⟩ := p.cells
    exact ⟨k0, k5⟩
  obtain ⟨h0, lh⟩ := hh
  obtain ⟨W3, hW3⟩ : ∃ W3, W3 = (w.alloc (Obj.cells #[.int .i64 0, .int .i64 0, .int .i64 0, .int .i64 0, .slice none 0 0, .pointer none] 141)).alloc (Obj.cells #[.int .i64 (was : Int), .int .i64 0, .int .i64 0, .int .i64 (to : Int), .slice none 0 0] 65) := ⟨_, rfl⟩
  have A : Below w.heap.size w W3 := by rw [hW3]; exact ((Below.refl w.heap.size w).alloc (Nat.le_refl _) _).alloc (by simp) _
  have b1 : Blk w.heap.size 141 #[.int .i64 0, .int .i64 0, .int .i64 0, .int .i64 0, .slice none 0 0, .pointer none] W3 := by
    rw [hW3]
    exact blk_on (blk_new w 141 _) ((Below.refl _ _).alloc (Nat.le_refl _) _)
  have b2 : Blk (w.heap.size + 1) 65 #[.int .i64 (was : Int), .int .i64 0, .int .i64 0, .int .i64 (to : Int), .slice none 0 0] W3 := by
    rw [hW3]
    have := blk_new (w.alloc (Obj.cells #[.int .i64 0, .int .i64 0, .int .i64 0, .int .i64 0, .slice none 0 0, .pointer none] 141)) 65 #[.int .i64 (was : Int), .int .i64 0, .int .i64 0, .int .i64 (to : Int), .slice none 0 0]
    simpa using this
  have HA := hid A
  have HW := hid hW3
  have HS := hid (hslotof_calls W3 (ph.on A).s (was : Int) nm hn)
  have B1 := hid b1
  have B2 := hid b2
  have g0 := hcell_on h0 lh A
  have lh3 := Nat.lt_of_lt_of_le lh A.size
  clear A b1 b2 ph
  by_cases he : was = to
  · subst he
    rw [if_pos rfl]
    unfold keV
    dsimp only
    clear hW3
    generalize slotofH H was nm = sl at *
    go_enter Tryz.func62, Tryz.ntmps62
    go_wp2_with fail
    rw [← HW.out]
    refine HS.out.mono ?_
    rintro e1 w1 ⟨rfl, k1⟩
    have C1 := hid (blk_on B1.out k1)
    have C2 := hid (blk_on B2.out k1)
    have K1 := hid (below_on HA.out k1)
    have d0 := hcell_on g0 lh3 k1
    have ld := Nat.lt_of_lt_of_le lh3 k1.size
    obtain ⟨f1, c1, l1⟩ := blk_own C1.out
    obtain ⟨f2, c2, l2⟩ := blk_own C2.out
    have hne : w.heap.size ≠ w.heap.size + 1 := by omega
    have hne2 : w.heap.size + 1 ≠ w.heap.size := by omega
    have hnh : h ≠ w.heap.size + 1 := by omega
    have hnh2 : w.heap.size + 1 ≠ h := by omega
    clear k1 HS
    go_wp2_with fail
    refine wp_region_held_drew (S := fun aZ => aZ.cell? ⟨(w.heap.size+1), 0, none⟩ = some (.int .i64 (was : Int)) ∧ aZ.cell? ⟨(w.heap.size+1), 1, none⟩ = some (.int .i64 0) ∧ aZ.cell? ⟨(w.heap.size+1), 2, none⟩ = some (.int .i64 sl) ∧ aZ.cell? ⟨(w.heap.size+1), 3, none⟩ = some (.int .i64 0) ∧ aZ.cell? ⟨(w.heap.size+1), 4, none⟩ = some (.slice none 0 0) ∧ aZ.cell? ⟨h, 0, none⟩ = some (.pointer (some ⟨s, 0, none⟩))) (by kernel_rfl) ?_ (fun hHeld => ?_)
    · (refine ⟨?_, ?_, ?_, ?_, ?_, ?_⟩ <;> go_simp)
    refine tkk 0 ?_
    refine tkk 1 ?_
    refine tkk 2 ?_
    refine tkk 3 ?_
    refine tkk 4 ?_
    refine rdy 5 (fun K hK => ?_)
    go_simp
    refine hK.out _ _ ?_ (fun _ => ?_)
    · (refine ⟨?_, ?_, ?_, ?_, ?_, ?_⟩ <;> go_simp)
    clear hK K
    refine wpAnyH_done (by kernel_rfl) ?_ _
    go_wp2_with fail
    refine bodyPost_ret (ret_k (g := w.heap.size) rfl rfl ⟨by simp [go_sem, c1, c2], by simp [go_sem, c1, c2], by simp [go_sem, c1, c2], by simp [go_sem, c1, c2], by simp [go_sem, c1, c2], by simp [go_sem, c1, c2]⟩) rfl ⟨rfl, ?_⟩
    exact RowKit.Below.drew (below_set (below_set (below_set (below_set (below_set (below_set (below_set (below_set (K1.out) (by omega) _) (by omega) _) (by omega) _) (by omega) _) (by omega) _) (by omega) _) (by omega) _) (by omega) _)
  · rw [if_neg he]
    unfold keV
    dsimp only
    have he' : ¬ ((was : Nat) : Int) = (to : Int) := by omega
    obtain ⟨f1, c1, l1⟩ := blk_own B1.out
    obtain ⟨f2, c2, l2⟩ := blk_own B2.out
    have hne : w.heap.size ≠ w.heap.size + 1 := by omega
    have hne2 : w.heap.size + 1 ≠ w.heap.size := by omega
    have hnh : h ≠ w.heap.size + 1 := by omega
    have hnh2 : w.heap.size + 1 ≠ h := by omega
    clear HS he
    go_enter Tryz.func62, Tryz.ntmps62
    go_wp2_with fail
    rw [← hW3]
    refine wp_region_held_drew (S := fun aZ => aZ.cell? ⟨(w.heap.size+1), 0, none⟩ = some (.int .i64 (was : Int)) ∧ aZ.cell? ⟨(w.heap.size+1), 1, none⟩ = some (.int .i64 0) ∧ aZ.cell? ⟨(w.heap.size+1), 2, none⟩ = some (.int .i64 0) ∧ aZ.cell? ⟨(w.heap.size+1), 3, none⟩ = some (.int .i64 (to : Int)) ∧ aZ.cell? ⟨(w.heap.size+1), 4, none⟩ = some (.slice none 0 0) ∧ aZ.cell? ⟨h, 0, none⟩ = some (.pointer (some ⟨s, 0, none⟩))) (by kernel_rfl) ?_ (fun hHeld => ?_)
    · (refine ⟨?_, ?_, ?_, ?_, ?_, ?_⟩ <;> go_simp)
    refine tkk 0 ?_
    refine tkk 1 ?_
    refine tkk 2 ?_
    refine tkk 3 ?_
    refine tkk 4 ?_
    refine rdy 5 (fun K hK => ?_)
    go_simp
    refine hK.out _ _ ?_ (fun _ => ?_)
    · (refine ⟨?_, ?_, ?_, ?_, ?_, ?_⟩ <;> go_simp)
    clear hK K
    refine wpAnyH_done (by kernel_rfl) ?_ _
    go_wp2_with fail
    refine bodyPost_ret (ret_k (g := w.heap.size) rfl rfl ⟨by simp [go_sem, c1, c2], by simp [go_sem, c1, c2], by simp [go_sem, c1, c2], by simp [go_sem, c1, c2], by simp [go_sem, c1, c2], by simp [go_sem, c1, c2]⟩) rfl ⟨rfl, ?_⟩
    exact (((Below.refl w.heap.size w).alloc (Nat.le_refl _) _).alloc (by simp) _).drew
end Go.Proofs.YtimhgbcanmgajaaGreat
