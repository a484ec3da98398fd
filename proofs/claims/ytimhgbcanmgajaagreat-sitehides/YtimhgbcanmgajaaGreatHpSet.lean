/- Set. -/
import Derived.Test.YtimhgbcanmgajaaGreatJoint2
import Derived.Test.YtimhgbcanmgajaaGreatJoint14
namespace Go.Proofs.YtimhgbcanmgajaaGreat
set_option linter.unusedSimpArgs false
set_option maxRecDepth 100000
open Go.RowKit

set_option maxHeartbeats 4000000 in
theorem hset_slot {S : Nat → Prop} {J : Nat} {H : He} {h s c n f i : Nat} {v : Value} {g q col : Nat → Nat} {x : Ob} (w : World) (p : HpAt J H h s c n f v g q col w) (h40 : 40 ≤ J) (hK2 : J ≤ 900000) (hi : H.os[i]? = some x) (hS : ∀ b, col b ≠ 0 → S b) (h0 : x.sh ≠ 0) (nm : ByteArray) (hn : nm.size ≤ 1000000) (u : Vl) :
    Calls Tryz.prog 22 #[.pointer (some ⟨h, 0, none⟩), .int .i64 ((i + 1 : Nat) : Int), .string nm, vlV u] w fun e w' => e = .returned (.int .i64 (setE H ((i + 1 : Nat) : Int) nm)) ∧ HpZ (Up S w) (J + 1) h s (setH H ((i + 1 : Nat) : Int) nm u) w' ∧ Keep S w w' := by
  have hgo : getO H ((i + 1 : Nat) : Int) = some x := by rw [getO_succ]; exact hi
  have A := (Below.refl w.heap.size w).alloc (Nat.le_refl _) (Obj.cells #[.int .i64 u.1, .int .i64 u.2.1, .string u.2.2] 37)
  have pA := p.on A
  have hcw := p.top w.heap.size (Nat.le_refl _)
  have HM := hid (hmade_calls (S := fun _ => True) (w.alloc (Obj.cells #[.int .i64 u.1, .int .i64 u.2.1, .string u.2.2] 37)) ⟨s, c, n, f, v, g, q, col, pA, fun _ _ => trivial⟩)
  have HN := hid (hat_some (w.alloc (Obj.cells #[.int .i64 u.1, .int .i64 u.2.1, .string u.2.2] 37)) pA (lt_of_get hi))
  have D := (Below.refl (w.alloc (Obj.cells #[.int .i64 u.1, .int .i64 u.2.1, .string u.2.2] 37)).heap.size (w.alloc (Obj.cells #[.int .i64 u.1, .int .i64 u.2.1, .string u.2.2] 37))).drew
  have HC := hid (change_slot _ (pA.on D) hi h0 nm hn u)
  obtain ⟨b1, _, hc1⟩ := p.ob i x hi
  have hgl := blk_lt b1
  have e0 : w.cell? ⟨g i, 0, none⟩ = some (.iface 161 (.pointer (some ⟨q i, 0, none⟩))) := by rw [blk_cell b1]; simp [ivO, h0]
  have hgn : g i ≠ w.heap.size := by omega
  have HAD := hid (A.drew)
  have HI := hid hi
  have HS := hid hS
  have hwl : w.heap.size < (w.alloc (Obj.cells #[.int .i64 u.1, .int .i64 u.2.1, .string u.2.2] 37)).drew.heap.size := by simp
  have hgl1 : g i < (w.alloc (Obj.cells #[.int .i64 u.1, .int .i64 u.2.1, .string u.2.2] 37)).drew.heap.size := by simp; omega
  have hns : ¬ col w.heap.size = 4 + i := by rw [hcw]; omega
  have hng : ¬ col (g i) = 4 + i := by rw [hc1]; omega
  have hpr : H.props ≤ 32 := p.wf.props
  have hxl : x.l.length ≤ 32 := (p.wf.obs i x hi).few
  have H0 := hid h0
  have hSE : setE H ((i + 1 : Nat) : Int) nm = if hasL x.l nm then 0 else if H.props ≤ x.l.length then 42 else 0 := by unfold setE; rw [hgo]
  have hSH : setH H ((i + 1 : Nat) : Int) nm u = if hasL x.l nm then putI H i { x with l := setL x.l nm u } else if H.props ≤ x.l.length then H else putI (nextH H x.sh nm) i { x with l := x.l ++ [(nm, u)], ep := x.ep + 1, sh := nextN H x.sh nm } := by
    unfold setH
    rw [hgo]
    dsimp only
    rw [putO_succ, putO_succ]
  rw [hSE, hSH]
  clear p pA b1 A D hi hS h0 hgo hSE hSH
  unfold vlV at HC ⊢
  generalize ((i + 1 : Nat) : Int) = o at *
  cases hh : hasL x.l nm with
  | true =>
    simp only [if_true]
    rw [hh] at HC
    go_enter Tryz.func22, Tryz.ntmps22
    go_wp2_with fail
    refine HM.out.mono ?_
    rintro e1 w1 ⟨rfl, rfl⟩
    go_wp2_with fail
    refine HN.out.mono ?_
    rintro e2 w2 ⟨rfl, rfl⟩
    go_wp2_with fail
    refine wp_region_held_drew (S := fun aZ => aZ.cell? ⟨g i, 0, none⟩ = some (.iface 161 (.pointer (some ⟨q i, 0, none⟩))) ∧ aZ.cell? ⟨w.heap.size, 0, none⟩ = some (.int .i64 u.1) ∧ aZ.cell? ⟨w.heap.size, 1, none⟩ = some (.int .i64 u.2.1) ∧ aZ.cell? ⟨w.heap.size, 2, none⟩ = some (.string u.2.2)) (by kernel_rfl) ?_ (fun hHeld => ?_)
    · (refine ⟨?_, ?_, ?_, ?_⟩ <;> go_simp)
    refine tkk 0 ?_
    refine tkk 1 ?_
    refine tkk 2 ?_
    refine tkk 3 ?_
    refine tkk 4 ?_
    refine tkk 5 ?_
    refine rdy 6 (fun K hK => ?_)
    go_simp
    refine HC.out.mono ?_
    rintro e3 w3 ⟨rfl, hC⟩
    obtain ⟨col3, p3, G3⟩ := hC.1 hh
    have y0 := hcell_keep (c := w3) (g := g i) (i := 0) (v := .iface 161 (.pointer (some ⟨q i, 0, none⟩))) (by go_simp) hgl1 G3.keep hng
    have z0 := hcell_keep (c := w3) (a := (w.alloc (Obj.cells #[.int .i64 u.1, .int .i64 u.2.1, .string u.2.2] 37)).drew) (g := w.heap.size) (i := 0) (v := .int .i64 u.1) (by go_simp) hwl G3.keep hns
    have z1 := hcell_keep (c := w3) (a := (w.alloc (Obj.cells #[.int .i64 u.1, .int .i64 u.2.1, .string u.2.2] 37)).drew) (g := w.heap.size) (i := 1) (v := .int .i64 u.2.1) (by go_simp) hwl G3.keep hns
    have z2 := hcell_keep (c := w3) (a := (w.alloc (Obj.cells #[.int .i64 u.1, .int .i64 u.2.1, .string u.2.2] 37)).drew) (g := w.heap.size) (i := 2) (v := .string u.2.2) (by go_simp) hwl G3.keep hns
    have R : Hid (HpZ (Up S w) (J + 1) h s (putI H i { x with l := setL x.l nm u }) w3 ∧ Keep S w w3) := hid (tnd_done p3 ((Keep.of HAD.out).trans G3.keep (fun b _ e => by rw [e]; omega)) (fun b hb => G3.old b (Nat.lt_of_lt_of_le hb HAD.out.size)) HS.out)
    clear hC p3 G3 HC
    go_simp
    refine hK.out _ _ ?_ (fun _ => ?_)
    · (refine ⟨?_, ?_, ?_, ?_⟩ <;> (first | assumption | go_simp))
    clear hK K
    refine wpAnyH_done (by kernel_rfl) ?_ _
    go_wp2_with fail
    go_ret
    exact ⟨rfl, R.out⟩
  | false =>
    simp only [Bool.false_eq_true, if_false]
    rw [hh] at HC
    have HH := hid hh
    by_cases hfull : H.props ≤ x.l.length
    · simp only [hfull, if_true]
      go_enter Tryz.func22, Tryz.ntmps22
      go_wp2_with fail
      refine HM.out.mono ?_
      rintro e1 w1 ⟨rfl, rfl⟩
      go_wp2_with fail
      refine HN.out.mono ?_
      rintro e2 w2 ⟨rfl, rfl⟩
      go_wp2_with fail
      refine wp_region_held_drew (S := fun aZ => aZ.cell? ⟨g i, 0, none⟩ = some (.iface 161 (.pointer (some ⟨q i, 0, none⟩))) ∧ aZ.cell? ⟨w.heap.size, 0, none⟩ = some (.int .i64 u.1) ∧ aZ.cell? ⟨w.heap.size, 1, none⟩ = some (.int .i64 u.2.1) ∧ aZ.cell? ⟨w.heap.size, 2, none⟩ = some (.string u.2.2)) (by kernel_rfl) ?_ (fun hHeld => ?_)
      · (refine ⟨?_, ?_, ?_, ?_⟩ <;> go_simp)
      refine tkk 0 ?_
      refine tkk 1 ?_
      refine tkk 2 ?_
      refine tkk 3 ?_
      refine tkk 4 ?_
      refine tkk 5 ?_
      refine rdy 6 (fun K hK => ?_)
      go_simp
      refine HC.out.mono ?_
      rintro e3 w3 ⟨rfl, hC⟩
      obtain ⟨col3, p3, G3⟩ := hC.2 hh
      have y0 := hcell_keep (c := w3) (g := g i) (i := 0) (v := .iface 161 (.pointer (some ⟨q i, 0, none⟩))) (by go_simp) hgl1 G3.keep hng
      have z0 := hcell_keep (c := w3) (a := (w.alloc (Obj.cells #[.int .i64 u.1, .int .i64 u.2.1, .string u.2.2] 37)).drew) (g := w.heap.size) (i := 0) (v := .int .i64 u.1) (by go_simp) hwl G3.keep hns
      have z1 := hcell_keep (c := w3) (a := (w.alloc (Obj.cells #[.int .i64 u.1, .int .i64 u.2.1, .string u.2.2] 37)).drew) (g := w.heap.size) (i := 1) (v := .int .i64 u.2.1) (by go_simp) hwl G3.keep hns
      have z2 := hcell_keep (c := w3) (a := (w.alloc (Obj.cells #[.int .i64 u.1, .int .i64 u.2.1, .string u.2.2] 37)).drew) (g := w.heap.size) (i := 2) (v := .string u.2.2) (by go_simp) hwl G3.keep hns
      have D1 := (Below.refl w3.heap.size w3).drew
      have R : Hid (HpZ (Up S w) (J + 1) h s H w3.drew ∧ Keep S w w3.drew) := hid (tnd_done ((p3.more (Nat.le_succ J)).on D1) (((Keep.of HAD.out).trans G3.keep (fun b _ e => by rw [e]; omega)).trans (Keep.of D1) (fun _ _ e => e)) (fun b hb => G3.old b (Nat.lt_of_lt_of_le hb HAD.out.size)) HS.out)
      obtain ⟨cw, CV, _⟩ := p3.slotted HI.out H0.out
      have HCn := hid (scount_calls w3.drew (CV.on D1))
      obtain ⟨k0, _, k1, _, _, k2, k3⟩ := p3.cells
      clear hC G3 HC p3 D1 CV
      go_simp
      refine hK.out _ _ ?_ (fun _ => ?_)
      · (refine ⟨?_, ?_, ?_, ?_⟩ <;> (first | assumption | go_simp))
      clear hK K
      refine wpAnyH_done (by kernel_rfl) ?_ _
      go_wp2_with fail
      refine wp_region_held_drew (S := fun aZ => aZ.cell? ⟨g i, 0, none⟩ = some (.iface 161 (.pointer (some ⟨q i, 0, none⟩))) ∧ aZ.cell? ⟨h, 0, none⟩ = some (.pointer (some ⟨s, 0, none⟩)) ∧ aZ.cell? ⟨s, 1, none⟩ = some (.int .i64 (H.props : Int))) (by kernel_rfl) ?_ (fun hHeld => ?_)
      · (refine ⟨?_, ?_, ?_⟩ <;> go_simp)
      refine tkk 0 ?_
      refine tkk 1 ?_
      refine tkk 2 ?_
      refine tkk 3 ?_
      refine tkk 5 ?_
      refine tkk 6 ?_
      refine tkk 7 ?_
      refine tkk 8 ?_
      refine tkk 9 ?_
      refine tkk 10 ?_
      refine tkk 11 ?_
      refine rdy 4 (fun K hK => ?_)
      go_simp
      refine HCn.out.mono ?_
      rintro e4 w4 ⟨rfl, rfl⟩
      go_simp
      refine hK.out _ _ ?_ (fun _ => ?_)
      · (refine ⟨?_, ?_, ?_⟩ <;> (first | assumption | go_simp))
      clear hK K
      refine tkk 12 ?_
      refine wpAnyH_done (by kernel_rfl) ?_ _
      go_wp2_with fail
      go_ret
      exact ⟨rfl, R.out⟩
    · simp only [hfull, if_false]
      have hlt : x.l.length < H.props := by omega
      go_enter Tryz.func22, Tryz.ntmps22
      go_wp2_with fail
      refine HM.out.mono ?_
      rintro e1 w1 ⟨rfl, rfl⟩
      go_wp2_with fail
      refine HN.out.mono ?_
      rintro e2 w2 ⟨rfl, rfl⟩
      go_wp2_with fail
      refine wp_region_held_drew (S := fun aZ => aZ.cell? ⟨g i, 0, none⟩ = some (.iface 161 (.pointer (some ⟨q i, 0, none⟩))) ∧ aZ.cell? ⟨w.heap.size, 0, none⟩ = some (.int .i64 u.1) ∧ aZ.cell? ⟨w.heap.size, 1, none⟩ = some (.int .i64 u.2.1) ∧ aZ.cell? ⟨w.heap.size, 2, none⟩ = some (.string u.2.2)) (by kernel_rfl) ?_ (fun hHeld => ?_)
      · (refine ⟨?_, ?_, ?_, ?_⟩ <;> go_simp)
      refine tkk 0 ?_
      refine tkk 1 ?_
      refine tkk 2 ?_
      refine tkk 3 ?_
      refine tkk 4 ?_
      refine tkk 5 ?_
      refine rdy 6 (fun K hK => ?_)
      go_simp
      refine HC.out.mono ?_
      rintro e3 w3 ⟨rfl, hC⟩
      obtain ⟨col3, p3, G3⟩ := hC.2 hh
      have y0 := hcell_keep (c := w3) (g := g i) (i := 0) (v := .iface 161 (.pointer (some ⟨q i, 0, none⟩))) (by go_simp) hgl1 G3.keep hng
      have z0 := hcell_keep (c := w3) (a := (w.alloc (Obj.cells #[.int .i64 u.1, .int .i64 u.2.1, .string u.2.2] 37)).drew) (g := w.heap.size) (i := 0) (v := .int .i64 u.1) (by go_simp) hwl G3.keep hns
      have z1 := hcell_keep (c := w3) (a := (w.alloc (Obj.cells #[.int .i64 u.1, .int .i64 u.2.1, .string u.2.2] 37)).drew) (g := w.heap.size) (i := 1) (v := .int .i64 u.2.1) (by go_simp) hwl G3.keep hns
      have z2 := hcell_keep (c := w3) (a := (w.alloc (Obj.cells #[.int .i64 u.1, .int .i64 u.2.1, .string u.2.2] 37)).drew) (g := w.heap.size) (i := 2) (v := .string u.2.2) (by go_simp) hwl G3.keep hns
      have D1 := (Below.refl w3.heap.size w3).drew
      have D2 := D1.drew
      obtain ⟨cw, CV, _⟩ := p3.slotted HI.out H0.out
      have HCn := hid (scount_calls w3.drew (CV.on D1))
      have HW := hid (hwith_slot w3.drew.drew (p3.on D2) h40 hK2 HI.out H0.out nm hn HH.out hlt u)
      unfold vlV at HW
      obtain ⟨k0, _, k1, _, _, k2, k3⟩ := p3.cells
      have K3 := hid (show Keep (fun b => col b ≠ 0) w w3.drew.drew from ((Keep.of HAD.out).trans G3.keep (fun b _ e => by rw [e]; omega)).trans (Keep.of D2) (fun _ _ e => e))
      have O3 : Hid (∀ b, b < w.heap.size → col3 b = col b) := hid (fun b hb => G3.old b (Nat.lt_of_lt_of_le hb HAD.out.size))
      have hc3 : col3 w.heap.size = 0 := (G3.old _ hwl).trans hcw
      have hwl3 : w.heap.size < w3.heap.size := Nat.lt_of_lt_of_le hwl G3.keep.size
      have hgl3 : g i < w3.heap.size := Nat.lt_of_lt_of_le hgl1 G3.keep.size
      clear hC G3 HC p3 D1 CV D2
      go_simp
      refine hK.out _ _ ?_ (fun _ => ?_)
      · (refine ⟨?_, ?_, ?_, ?_⟩ <;> (first | assumption | go_simp))
      clear hK K
      refine wpAnyH_done (by kernel_rfl) ?_ _
      go_wp2_with fail
      refine wp_region_held_drew (S := fun aZ => aZ.cell? ⟨g i, 0, none⟩ = some (.iface 161 (.pointer (some ⟨q i, 0, none⟩))) ∧ aZ.cell? ⟨h, 0, none⟩ = some (.pointer (some ⟨s, 0, none⟩)) ∧ aZ.cell? ⟨s, 1, none⟩ = some (.int .i64 (H.props : Int))) (by kernel_rfl) ?_ (fun hHeld => ?_)
      · (refine ⟨?_, ?_, ?_⟩ <;> go_simp)
      refine tkk 0 ?_
      refine tkk 1 ?_
      refine tkk 2 ?_
      refine tkk 3 ?_
      refine tkk 5 ?_
      refine tkk 6 ?_
      refine tkk 7 ?_
      refine tkk 8 ?_
      refine tkk 9 ?_
      refine tkk 10 ?_
      refine tkk 11 ?_
      refine rdy 4 (fun K hK => ?_)
      go_simp
      refine HCn.out.mono ?_
      rintro e4 w4 ⟨rfl, rfl⟩
      go_simp
      refine hK.out _ _ ?_ (fun _ => ?_)
      · (refine ⟨?_, ?_, ?_⟩ <;> (first | assumption | go_simp))
      clear hK K
      refine tkk 12 ?_
      refine wpAnyH_done (by kernel_rfl) ?_ _
      go_wp2_with fail
      refine wp_region_held_drew (S := fun aZ => aZ.cell? ⟨w.heap.size, 0, none⟩ = some (.int .i64 u.1) ∧ aZ.cell? ⟨w.heap.size, 1, none⟩ = some (.int .i64 u.2.1) ∧ aZ.cell? ⟨w.heap.size, 2, none⟩ = some (.string u.2.2)) (by kernel_rfl) ?_ (fun hHeld => ?_)
      · (refine ⟨?_, ?_, ?_⟩ <;> go_simp)
      refine tkk 0 ?_
      refine tkk 1 ?_
      refine tkk 2 ?_
      refine tkk 3 ?_
      refine tkk 5 ?_
      refine tkk 6 ?_
      refine rdy 4 (fun K hK => ?_)
      go_simp
      refine hK.out _ _ ?_ (fun _ => ?_)
      · (refine ⟨?_, ?_, ?_⟩ <;> (first | assumption | go_simp))
      clear hK K
      refine rdy 7 (fun K hK => ?_)
      go_simp
      refine HW.out.mono ?_
      rintro e5 w5 ⟨T, qi, col5, x5, rfl, hx5, hep, b5, f5, _, hz5, p5, k5, o5⟩
      have x0 := cell_blk (f5 w.heap.size hc3 hwl3) (show w3.drew.drew.cell? ⟨w.heap.size, 0, none⟩ = some (.int .i64 u.1) from z0)
      have x1 := cell_blk (f5 w.heap.size hc3 hwl3) (show w3.drew.drew.cell? ⟨w.heap.size, 1, none⟩ = some (.int .i64 u.2.1) from z1)
      have x2 := cell_blk (f5 w.heap.size hc3 hwl3) (show w3.drew.drew.cell? ⟨w.heap.size, 2, none⟩ = some (.string u.2.2) from z2)
      have HB5 := hid (hbecome_calls (T := T) (a := ⟨qi, 0, none⟩) w5 b5 (by omega))
      have R := hid (tnd_done (S := S) p5 (K3.out.trans k5 (fun b hb e => by rw [O3.out b hb] at e; exact e)) (fun b hb => (o5 b (Nat.lt_of_lt_of_le hb K3.out.size)).trans (O3.out b hb)) HS.out)
      have hgw : g i ≠ w.heap.size := hgn
      have hgw2 : w.heap.size ≠ g i := fun e => hgn e.symm
      clear p5 k5 o5 f5 b5 HW
      go_simp
      refine hK.out _ _ ?_ (fun _ => ?_)
      · (refine ⟨?_, ?_, ?_⟩ <;> (first | assumption | go_simp))
      clear hK K
      refine rdy 8 (fun K hK => ?_)
      go_simp
      refine HB5.out.mono ?_
      rintro e6 w6 ⟨rfl, rfl⟩
      go_simp
      refine hK.out _ _ ?_ (fun _ => ?_)
      · (refine ⟨?_, ?_, ?_⟩ <;> (first | assumption | go_simp))
      clear hK K
      refine wpAnyH_done (by kernel_rfl) ?_ _
      go_wp2_with fail
      go_ret
      exact ⟨rfl, R.out⟩

set_option maxHeartbeats 4000000 in
theorem hset_dict {S : Nat → Prop} {J : Nat} {H : He} {h s c n f i : Nat} {v : Value} {g q col : Nat → Nat} {x : Ob} (w : World) (p : HpAt J H h s c n f v g q col w) (h40 : 40 ≤ J) (hK2 : J ≤ 900000) (hi : H.os[i]? = some x) (hS : ∀ b, col b ≠ 0 → S b) (h0 : x.sh = 0) (nm : ByteArray) (hn : nm.size ≤ 1000000) (u : Vl) :
    Calls Tryz.prog 22 #[.pointer (some ⟨h, 0, none⟩), .int .i64 ((i + 1 : Nat) : Int), .string nm, vlV u] w fun e w' => e = .returned (.int .i64 (setE H ((i + 1 : Nat) : Int) nm)) ∧ HpZ (Up S w) (J + 1) h s (setH H ((i + 1 : Nat) : Int) nm u) w' ∧ Keep S w w' := by
  have hgo : getO H ((i + 1 : Nat) : Int) = some x := by rw [getO_succ]; exact hi
  have A := (Below.refl w.heap.size w).alloc (Nat.le_refl _) (Obj.cells #[.int .i64 u.1, .int .i64 u.2.1, .string u.2.2] 37)
  have pA := p.on A
  have hcw := p.top w.heap.size (Nat.le_refl _)
  have HM := hid (hmade_calls (S := fun _ => True) (w.alloc (Obj.cells #[.int .i64 u.1, .int .i64 u.2.1, .string u.2.2] 37)) ⟨s, c, n, f, v, g, q, col, pA, fun _ _ => trivial⟩)
  have HN := hid (hat_some (w.alloc (Obj.cells #[.int .i64 u.1, .int .i64 u.2.1, .string u.2.2] 37)) pA (lt_of_get hi))
  have D := (Below.refl (w.alloc (Obj.cells #[.int .i64 u.1, .int .i64 u.2.1, .string u.2.2] 37)).heap.size (w.alloc (Obj.cells #[.int .i64 u.1, .int .i64 u.2.1, .string u.2.2] 37))).drew
  have HC := hid (change_dict _ (pA.on D) hK2 hi h0 nm hn u)
  obtain ⟨b1, _, hc1⟩ := p.ob i x hi
  have hgl := blk_lt b1
  have e0 : w.cell? ⟨g i, 0, none⟩ = some (.iface 199 (.pointer (some ⟨q i, 0, none⟩))) := by rw [blk_cell b1]; simp [ivO, h0]
  have hgn : g i ≠ w.heap.size := by omega
  have HAD := hid (A.drew)
  have HI := hid hi
  have HS := hid hS
  have hwl : w.heap.size < (w.alloc (Obj.cells #[.int .i64 u.1, .int .i64 u.2.1, .string u.2.2] 37)).drew.heap.size := by simp
  have hgl1 : g i < (w.alloc (Obj.cells #[.int .i64 u.1, .int .i64 u.2.1, .string u.2.2] 37)).drew.heap.size := by simp; omega
  have hns : ¬ col w.heap.size = 4 + i := by rw [hcw]; omega
  have hng : ¬ col (g i) = 4 + i := by rw [hc1]; omega
  have hpr : H.props ≤ 32 := p.wf.props
  have hxl : x.l.length ≤ 32 := (p.wf.obs i x hi).few
  have H0 := hid h0
  have hSE : setE H ((i + 1 : Nat) : Int) nm = if hasL x.l nm then 0 else if H.props ≤ x.l.length then 42 else 0 := by unfold setE; rw [hgo]
  have hSH : setH H ((i + 1 : Nat) : Int) nm u = if hasL x.l nm then putI H i { x with l := setL x.l nm u } else if H.props ≤ x.l.length then H else putI (nextH H x.sh nm) i { x with l := x.l ++ [(nm, u)], ep := x.ep + 1, sh := nextN H x.sh nm } := by
    unfold setH
    rw [hgo]
    dsimp only
    rw [putO_succ, putO_succ]
  rw [hSE, hSH]
  clear p pA b1 A D hi hS h0 hgo hSE hSH
  unfold vlV at HC ⊢
  generalize ((i + 1 : Nat) : Int) = o at *
  cases hh : hasL x.l nm with
  | true =>
    simp only [if_true]
    rw [hh] at HC
    go_enter Tryz.func22, Tryz.ntmps22
    go_wp2_with fail
    refine HM.out.mono ?_
    rintro e1 w1 ⟨rfl, rfl⟩
    go_wp2_with fail
    refine HN.out.mono ?_
    rintro e2 w2 ⟨rfl, rfl⟩
    go_wp2_with fail
    refine wp_region_held_drew (S := fun aZ => aZ.cell? ⟨g i, 0, none⟩ = some (.iface 199 (.pointer (some ⟨q i, 0, none⟩))) ∧ aZ.cell? ⟨w.heap.size, 0, none⟩ = some (.int .i64 u.1) ∧ aZ.cell? ⟨w.heap.size, 1, none⟩ = some (.int .i64 u.2.1) ∧ aZ.cell? ⟨w.heap.size, 2, none⟩ = some (.string u.2.2)) (by kernel_rfl) ?_ (fun hHeld => ?_)
    · (refine ⟨?_, ?_, ?_, ?_⟩ <;> go_simp)
    refine tkk 0 ?_
    refine tkk 1 ?_
    refine tkk 2 ?_
    refine tkk 3 ?_
    refine tkk 4 ?_
    refine tkk 5 ?_
    refine rdy 6 (fun K hK => ?_)
    go_simp
    refine HC.out.mono ?_
    rintro e3 w3 ⟨rfl, hC⟩
    obtain ⟨col3, p3, G3⟩ := hC.1 hh
    have y0 := hcell_keep (c := w3) (g := g i) (i := 0) (v := .iface 199 (.pointer (some ⟨q i, 0, none⟩))) (by go_simp) hgl1 G3.keep hng
    have z0 := hcell_keep (c := w3) (a := (w.alloc (Obj.cells #[.int .i64 u.1, .int .i64 u.2.1, .string u.2.2] 37)).drew) (g := w.heap.size) (i := 0) (v := .int .i64 u.1) (by go_simp) hwl G3.keep hns
    have z1 := hcell_keep (c := w3) (a := (w.alloc (Obj.cells #[.int .i64 u.1, .int .i64 u.2.1, .string u.2.2] 37)).drew) (g := w.heap.size) (i := 1) (v := .int .i64 u.2.1) (by go_simp) hwl G3.keep hns
    have z2 := hcell_keep (c := w3) (a := (w.alloc (Obj.cells #[.int .i64 u.1, .int .i64 u.2.1, .string u.2.2] 37)).drew) (g := w.heap.size) (i := 2) (v := .string u.2.2) (by go_simp) hwl G3.keep hns
    have R : Hid (HpZ (Up S w) (J + 1) h s (putI H i { x with l := setL x.l nm u }) w3 ∧ Keep S w w3) := hid (tnd_done p3 ((Keep.of HAD.out).trans G3.keep (fun b _ e => by rw [e]; omega)) (fun b hb => G3.old b (Nat.lt_of_lt_of_le hb HAD.out.size)) HS.out)
    clear hC p3 G3 HC
    go_simp
    refine hK.out _ _ ?_ (fun _ => ?_)
    · (refine ⟨?_, ?_, ?_, ?_⟩ <;> (first | assumption | go_simp))
    clear hK K
    refine wpAnyH_done (by kernel_rfl) ?_ _
    go_wp2_with fail
    go_ret
    exact ⟨rfl, R.out⟩
  | false =>
    simp only [Bool.false_eq_true, if_false]
    rw [hh] at HC
    have HH := hid hh
    by_cases hfull : H.props ≤ x.l.length
    · simp only [hfull, if_true]
      go_enter Tryz.func22, Tryz.ntmps22
      go_wp2_with fail
      refine HM.out.mono ?_
      rintro e1 w1 ⟨rfl, rfl⟩
      go_wp2_with fail
      refine HN.out.mono ?_
      rintro e2 w2 ⟨rfl, rfl⟩
      go_wp2_with fail
      refine wp_region_held_drew (S := fun aZ => aZ.cell? ⟨g i, 0, none⟩ = some (.iface 199 (.pointer (some ⟨q i, 0, none⟩))) ∧ aZ.cell? ⟨w.heap.size, 0, none⟩ = some (.int .i64 u.1) ∧ aZ.cell? ⟨w.heap.size, 1, none⟩ = some (.int .i64 u.2.1) ∧ aZ.cell? ⟨w.heap.size, 2, none⟩ = some (.string u.2.2)) (by kernel_rfl) ?_ (fun hHeld => ?_)
      · (refine ⟨?_, ?_, ?_, ?_⟩ <;> go_simp)
      refine tkk 0 ?_
      refine tkk 1 ?_
      refine tkk 2 ?_
      refine tkk 3 ?_
      refine tkk 4 ?_
      refine tkk 5 ?_
      refine rdy 6 (fun K hK => ?_)
      go_simp
      refine HC.out.mono ?_
      rintro e3 w3 ⟨rfl, hC⟩
      obtain ⟨col3, p3, G3⟩ := hC.2 hh
      have y0 := hcell_keep (c := w3) (g := g i) (i := 0) (v := .iface 199 (.pointer (some ⟨q i, 0, none⟩))) (by go_simp) hgl1 G3.keep hng
      have z0 := hcell_keep (c := w3) (a := (w.alloc (Obj.cells #[.int .i64 u.1, .int .i64 u.2.1, .string u.2.2] 37)).drew) (g := w.heap.size) (i := 0) (v := .int .i64 u.1) (by go_simp) hwl G3.keep hns
      have z1 := hcell_keep (c := w3) (a := (w.alloc (Obj.cells #[.int .i64 u.1, .int .i64 u.2.1, .string u.2.2] 37)).drew) (g := w.heap.size) (i := 1) (v := .int .i64 u.2.1) (by go_simp) hwl G3.keep hns
      have z2 := hcell_keep (c := w3) (a := (w.alloc (Obj.cells #[.int .i64 u.1, .int .i64 u.2.1, .string u.2.2] 37)).drew) (g := w.heap.size) (i := 2) (v := .string u.2.2) (by go_simp) hwl G3.keep hns
      have D1 := (Below.refl w3.heap.size w3).drew
      have R : Hid (HpZ (Up S w) (J + 1) h s H w3.drew ∧ Keep S w w3.drew) := hid (tnd_done ((p3.more (Nat.le_succ J)).on D1) (((Keep.of HAD.out).trans G3.keep (fun b _ e => by rw [e]; omega)).trans (Keep.of D1) (fun _ _ e => e)) (fun b hb => G3.old b (Nat.lt_of_lt_of_le hb HAD.out.size)) HS.out)
      obtain ⟨cw, CV, _⟩ := p3.dict HI.out H0.out
      have HCn := hid (dcount_calls w3.drew (CV.on D1))
      obtain ⟨k0, _, k1, _, _, k2, k3⟩ := p3.cells
      clear hC G3 HC p3 D1 CV
      go_simp
      refine hK.out _ _ ?_ (fun _ => ?_)
      · (refine ⟨?_, ?_, ?_, ?_⟩ <;> (first | assumption | go_simp))
      clear hK K
      refine wpAnyH_done (by kernel_rfl) ?_ _
      go_wp2_with fail
      refine wp_region_held_drew (S := fun aZ => aZ.cell? ⟨g i, 0, none⟩ = some (.iface 199 (.pointer (some ⟨q i, 0, none⟩))) ∧ aZ.cell? ⟨h, 0, none⟩ = some (.pointer (some ⟨s, 0, none⟩)) ∧ aZ.cell? ⟨s, 1, none⟩ = some (.int .i64 (H.props : Int))) (by kernel_rfl) ?_ (fun hHeld => ?_)
      · (refine ⟨?_, ?_, ?_⟩ <;> go_simp)
      refine tkk 0 ?_
      refine tkk 1 ?_
      refine tkk 2 ?_
      refine tkk 3 ?_
      refine tkk 5 ?_
      refine tkk 6 ?_
      refine tkk 7 ?_
      refine tkk 8 ?_
      refine tkk 9 ?_
      refine tkk 10 ?_
      refine tkk 11 ?_
      refine rdy 4 (fun K hK => ?_)
      go_simp
      refine HCn.out.mono ?_
      rintro e4 w4 ⟨rfl, rfl⟩
      go_simp
      refine hK.out _ _ ?_ (fun _ => ?_)
      · (refine ⟨?_, ?_, ?_⟩ <;> (first | assumption | go_simp))
      clear hK K
      refine tkk 12 ?_
      refine wpAnyH_done (by kernel_rfl) ?_ _
      go_wp2_with fail
      go_ret
      exact ⟨rfl, R.out⟩
    · simp only [hfull, if_false]
      have hlt : x.l.length < H.props := by omega
      go_enter Tryz.func22, Tryz.ntmps22
      go_wp2_with fail
      refine HM.out.mono ?_
      rintro e1 w1 ⟨rfl, rfl⟩
      go_wp2_with fail
      refine HN.out.mono ?_
      rintro e2 w2 ⟨rfl, rfl⟩
      go_wp2_with fail
      refine wp_region_held_drew (S := fun aZ => aZ.cell? ⟨g i, 0, none⟩ = some (.iface 199 (.pointer (some ⟨q i, 0, none⟩))) ∧ aZ.cell? ⟨w.heap.size, 0, none⟩ = some (.int .i64 u.1) ∧ aZ.cell? ⟨w.heap.size, 1, none⟩ = some (.int .i64 u.2.1) ∧ aZ.cell? ⟨w.heap.size, 2, none⟩ = some (.string u.2.2)) (by kernel_rfl) ?_ (fun hHeld => ?_)
      · (refine ⟨?_, ?_, ?_, ?_⟩ <;> go_simp)
      refine tkk 0 ?_
      refine tkk 1 ?_
      refine tkk 2 ?_
      refine tkk 3 ?_
      refine tkk 4 ?_
      refine tkk 5 ?_
      refine rdy 6 (fun K hK => ?_)
      go_simp
      refine HC.out.mono ?_
      rintro e3 w3 ⟨rfl, hC⟩
      obtain ⟨col3, p3, G3⟩ := hC.2 hh
      have y0 := hcell_keep (c := w3) (g := g i) (i := 0) (v := .iface 199 (.pointer (some ⟨q i, 0, none⟩))) (by go_simp) hgl1 G3.keep hng
      have z0 := hcell_keep (c := w3) (a := (w.alloc (Obj.cells #[.int .i64 u.1, .int .i64 u.2.1, .string u.2.2] 37)).drew) (g := w.heap.size) (i := 0) (v := .int .i64 u.1) (by go_simp) hwl G3.keep hns
      have z1 := hcell_keep (c := w3) (a := (w.alloc (Obj.cells #[.int .i64 u.1, .int .i64 u.2.1, .string u.2.2] 37)).drew) (g := w.heap.size) (i := 1) (v := .int .i64 u.2.1) (by go_simp) hwl G3.keep hns
      have z2 := hcell_keep (c := w3) (a := (w.alloc (Obj.cells #[.int .i64 u.1, .int .i64 u.2.1, .string u.2.2] 37)).drew) (g := w.heap.size) (i := 2) (v := .string u.2.2) (by go_simp) hwl G3.keep hns
      have D1 := (Below.refl w3.heap.size w3).drew
      have D2 := D1.drew
      obtain ⟨cw, CV, _⟩ := p3.dict HI.out H0.out
      have HCn := hid (dcount_calls w3.drew (CV.on D1))
      have HW := hid (hwith_dict w3.drew.drew (p3.on D2) h40 hK2 HI.out H0.out nm hn HH.out hlt u)
      unfold vlV at HW
      obtain ⟨k0, _, k1, _, _, k2, k3⟩ := p3.cells
      have K3 := hid (show Keep (fun b => col b ≠ 0) w w3.drew.drew from ((Keep.of HAD.out).trans G3.keep (fun b _ e => by rw [e]; omega)).trans (Keep.of D2) (fun _ _ e => e))
      have O3 : Hid (∀ b, b < w.heap.size → col3 b = col b) := hid (fun b hb => G3.old b (Nat.lt_of_lt_of_le hb HAD.out.size))
      have hc3 : col3 w.heap.size = 0 := (G3.old _ hwl).trans hcw
      have hwl3 : w.heap.size < w3.heap.size := Nat.lt_of_lt_of_le hwl G3.keep.size
      have hgl3 : g i < w3.heap.size := Nat.lt_of_lt_of_le hgl1 G3.keep.size
      clear hC G3 HC p3 D1 CV D2
      go_simp
      refine hK.out _ _ ?_ (fun _ => ?_)
      · (refine ⟨?_, ?_, ?_, ?_⟩ <;> (first | assumption | go_simp))
      clear hK K
      refine wpAnyH_done (by kernel_rfl) ?_ _
      go_wp2_with fail
      refine wp_region_held_drew (S := fun aZ => aZ.cell? ⟨g i, 0, none⟩ = some (.iface 199 (.pointer (some ⟨q i, 0, none⟩))) ∧ aZ.cell? ⟨h, 0, none⟩ = some (.pointer (some ⟨s, 0, none⟩)) ∧ aZ.cell? ⟨s, 1, none⟩ = some (.int .i64 (H.props : Int))) (by kernel_rfl) ?_ (fun hHeld => ?_)
      · (refine ⟨?_, ?_, ?_⟩ <;> go_simp)
      refine tkk 0 ?_
      refine tkk 1 ?_
      refine tkk 2 ?_
      refine tkk 3 ?_
      refine tkk 5 ?_
      refine tkk 6 ?_
      refine tkk 7 ?_
      refine tkk 8 ?_
      refine tkk 9 ?_
      refine tkk 10 ?_
      refine tkk 11 ?_
      refine rdy 4 (fun K hK => ?_)
      go_simp
      refine HCn.out.mono ?_
      rintro e4 w4 ⟨rfl, rfl⟩
      go_simp
      refine hK.out _ _ ?_ (fun _ => ?_)
      · (refine ⟨?_, ?_, ?_⟩ <;> (first | assumption | go_simp))
      clear hK K
      refine tkk 12 ?_
      refine wpAnyH_done (by kernel_rfl) ?_ _
      go_wp2_with fail
      refine wp_region_held_drew (S := fun aZ => aZ.cell? ⟨w.heap.size, 0, none⟩ = some (.int .i64 u.1) ∧ aZ.cell? ⟨w.heap.size, 1, none⟩ = some (.int .i64 u.2.1) ∧ aZ.cell? ⟨w.heap.size, 2, none⟩ = some (.string u.2.2)) (by kernel_rfl) ?_ (fun hHeld => ?_)
      · (refine ⟨?_, ?_, ?_⟩ <;> go_simp)
      refine tkk 0 ?_
      refine tkk 1 ?_
      refine tkk 2 ?_
      refine tkk 3 ?_
      refine tkk 5 ?_
      refine tkk 6 ?_
      refine rdy 4 (fun K hK => ?_)
      go_simp
      refine hK.out _ _ ?_ (fun _ => ?_)
      · (refine ⟨?_, ?_, ?_⟩ <;> (first | assumption | go_simp))
      clear hK K
      refine rdy 7 (fun K hK => ?_)
      go_simp
      refine HW.out.mono ?_
      rintro e5 w5 ⟨T, qi, col5, x5, rfl, hx5, hep, b5, f5, _, hz5, p5, k5, o5⟩
      have x0 := cell_blk (f5 w.heap.size hc3 hwl3) (show w3.drew.drew.cell? ⟨w.heap.size, 0, none⟩ = some (.int .i64 u.1) from z0)
      have x1 := cell_blk (f5 w.heap.size hc3 hwl3) (show w3.drew.drew.cell? ⟨w.heap.size, 1, none⟩ = some (.int .i64 u.2.1) from z1)
      have x2 := cell_blk (f5 w.heap.size hc3 hwl3) (show w3.drew.drew.cell? ⟨w.heap.size, 2, none⟩ = some (.string u.2.2) from z2)
      have HB5 := hid (hbecome_calls (T := T) (a := ⟨qi, 0, none⟩) w5 b5 (by omega))
      have R := hid (tnd_done (S := S) p5 (K3.out.trans k5 (fun b hb e => by rw [O3.out b hb] at e; exact e)) (fun b hb => (o5 b (Nat.lt_of_lt_of_le hb K3.out.size)).trans (O3.out b hb)) HS.out)
      have hgw : g i ≠ w.heap.size := hgn
      have hgw2 : w.heap.size ≠ g i := fun e => hgn e.symm
      clear p5 k5 o5 f5 b5 HW
      go_simp
      refine hK.out _ _ ?_ (fun _ => ?_)
      · (refine ⟨?_, ?_, ?_⟩ <;> (first | assumption | go_simp))
      clear hK K
      refine rdy 8 (fun K hK => ?_)
      go_simp
      refine HB5.out.mono ?_
      rintro e6 w6 ⟨rfl, rfl⟩
      go_simp
      refine hK.out _ _ ?_ (fun _ => ?_)
      · (refine ⟨?_, ?_, ?_⟩ <;> (first | assumption | go_simp))
      clear hK K
      refine wpAnyH_done (by kernel_rfl) ?_ _
      go_wp2_with fail
      go_ret
      exact ⟨rfl, R.out⟩

set_option maxHeartbeats 1000000 in
theorem hset_z {S : Nat → Prop} {K h s : Nat} {H : He} (w : World) (p : HpZ S K h s H w) (hK : 40 ≤ K) (hK2 : K ≤ 900000) (o : Int) (nm : ByteArray) (hn : nm.size ≤ 1000000) (u : Vl) :
    Calls Tryz.prog 22 #[.pointer (some ⟨h, 0, none⟩), .int .i64 o, .string nm, vlV u] w fun e w' => e = .returned (.int .i64 (setE H o nm)) ∧ HpZ (Up S w) (K + 1) h s (setH H o nm u) w' ∧ Keep S w w' := by
  cases hg : getO H o with
  | none =>
    rw [show setE H o nm = 4 by unfold setE; rw [hg], show setH H o nm u = H by unfold setH; rw [hg]]
    have A := (Below.refl w.heap.size w).alloc (Nat.le_refl _) (Obj.cells #[.int .i64 u.1, .int .i64 u.2.1, .string u.2.2] 37)
    have HM := hid (hmade_calls _ (p.on A).s)
    have HN := hid (hat_none _ (p.on A).s hg)
    have R := hid (show HpZ (Up S w) (K + 1) h s H _ ∧ Keep S w _ from ⟨((p.on A).more (Nat.le_succ _)).mono (fun _ _ e => .inl e), Keep.of A⟩)
    clear p A hg
    unfold vlV
    go_enter Tryz.func22, Tryz.ntmps22
    go_wp2_with fail
    refine HM.out.mono ?_
    rintro e1 w1 ⟨rfl, rfl⟩
    go_wp2_with fail
    refine HN.out.mono ?_
    rintro e2 w2 ⟨rfl, rfl⟩
    go_wp2_with fail
    go_ret
    exact ⟨rfl, R.out⟩
  | some x =>
    obtain ⟨i, rfl, hi⟩ := getO_some hg
    obtain ⟨c, n, f, v, g, q, col, p, hS⟩ := p
    by_cases h0 : x.sh = 0
    · exact hset_dict w p hK hK2 hi hS h0 nm hn u
    · exact hset_slot w p hK hK2 hi hS h0 nm hn u

theorem hset_calls {S : Nat → Prop} {K h : Nat} {H : He} (w : World) (p : HpS S K h H w) (hK : 40 ≤ K) (hK2 : K ≤ 900000) (o : Int) (nm : ByteArray) (hn : nm.size ≤ 1000000) (u : Vl) :
    Calls Tryz.prog 22 #[.pointer (some ⟨h, 0, none⟩), .int .i64 o, .string nm, vlV u] w fun e w' => e = .returned (.int .i64 (setE H o nm)) ∧ HpS (Up S w) (K + 1) h (setH H o nm u) w' ∧ Keep S w w' := by
  obtain ⟨s, p⟩ := p
  exact (hset_z w p hK hK2 o nm hn u).mono fun e w' t => ⟨t.1, ⟨s, t.2.1⟩, t.2.2⟩
end Go.Proofs.YtimhgbcanmgajaaGreat
