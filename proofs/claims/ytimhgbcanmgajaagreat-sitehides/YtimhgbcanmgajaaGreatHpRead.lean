/- What a heap tells of shapes and slots, and along chains. -/
import Derived.Test.YtimhgbcanmgajaaGreatHpHeap
namespace Go.Proofs.YtimhgbcanmgajaaGreat
set_option linter.unusedSimpArgs false
set_option maxRecDepth 100000
open Go.RowKit

/-- the shape of an object that is of one -/
def slotsO (H : He) (o : Int) : Option Ob := match getO H o with | some x => if x.sh = 0 then none else some x | none => none
set_option maxHeartbeats 1000000 in
theorem hslots_none {S : Nat → Prop} {K h : Nat} {H : He} (w : World) (p : HpS S K h H w) {o : Int} (ho : slotsO H o = none) :
    Calls Tryz.prog 71 #[.pointer (some ⟨h, 0, none⟩), .int .i64 o] w fun e w' => e = .returned (.pointer none) ∧ w' = w := by
  cases hg : getO H o with
  | none =>
    have HN := hid (hat_none w p hg)
    clear p hg ho
    go_enter Tryz.func71, Tryz.ntmps71
    go_wp2_with fail
    refine HN.out.mono ?_
    rintro e1 w1 ⟨rfl, rfl⟩
    go_wp2_with fail
    go_ret
    exact ⟨rfl, rfl⟩
  | some x =>
    have h0 : x.sh = 0 := by
      unfold slotsO at ho
      rw [hg] at ho
      dsimp only at ho
      split at ho
      · assumption
      · cases ho
    obtain ⟨i, rfl, hi⟩ := getO_some hg
    obtain ⟨s, c, n, f, v, g, q, col, p, hS⟩ := p
    have HN := hid (hat_some w p (lt_of_get hi))
    obtain ⟨b1, hk, _⟩ := p.ob i x hi
    have hgl := blk_lt b1
    have e0 : w.cell? ⟨g i, 0, none⟩ = some (.iface 199 (.pointer (some ⟨q i, 0, none⟩))) := by rw [blk_cell b1]; simp [ivO, h0]
    have t1 := ta_ds (q i)
    clear p hk b1 hS hg hi ho
    generalize ((i + 1 : Nat) : Int) = o at *
    go_enter Tryz.func71, Tryz.ntmps71
    go_wp2_with fail
    refine HN.out.mono ?_
    rintro e1 w1 ⟨rfl, rfl⟩
    go_wp2_with fail
    go_ret
    exact ⟨rfl, rfl⟩
set_option maxHeartbeats 1000000 in
theorem hslots_some {K : Nat} {H : He} {h s c n f : Nat} {v : Value} {g q col : Nat → Nat} (w : World) (p : HpAt K H h s c n f v g q col w) {i : Nat} {x : Ob} (hi : H.os[i]? = some x) (h0 : x.sh ≠ 0) :
    Calls Tryz.prog 71 #[.pointer (some ⟨h, 0, none⟩), .int .i64 ((i + 1 : Nat) : Int)] w fun e w' => e = .returned (.pointer (some ⟨q i, 0, none⟩)) ∧ w' = w := by
  have HN := hid (hat_some w p (lt_of_get hi))
  obtain ⟨b1, hk, _⟩ := p.ob i x hi
  have hgl := blk_lt b1
  have e0 : w.cell? ⟨g i, 0, none⟩ = some (.iface 161 (.pointer (some ⟨q i, 0, none⟩))) := by rw [blk_cell b1]; simp [ivO, h0]
  have t1 := ta_ss (q i)
  clear p hk b1 hi
  generalize ((i + 1 : Nat) : Int) = o at *
  go_enter Tryz.func71, Tryz.ntmps71
  go_wp2_with fail
  refine HN.out.mono ?_
  rintro e1 w1 ⟨rfl, rfl⟩
  go_wp2_with fail
  go_ret
  exact ⟨rfl, rfl⟩
theorem slotsO_some {H : He} {o : Int} {x : Ob} (h : slotsO H o = some x) : ∃ i : Nat, o = ((i + 1 : Nat) : Int) ∧ H.os[i]? = some x ∧ x.sh ≠ 0 ∧ getO H o = some x := by
  unfold slotsO at h
  cases hg : getO H o with
  | none => rw [hg] at h; cases h
  | some y =>
    rw [hg] at h
    dsimp only at h
    split at h
    · cases h
    · injection h with h
      subst h
      obtain ⟨i, rfl, hi⟩ := getO_some hg
      exact ⟨i, rfl, hi, by assumption, rfl⟩
theorem slotsO_none {H : He} {o : Int} (h : slotsO H o = none) : shapeH H o = 0 ∧ ∀ j, slotH H o j = none := by
  unfold slotsO at h
  unfold shapeH slotH
  cases hg : getO H o with
  | none => exact ⟨rfl, fun _ => rfl⟩
  | some y =>
    rw [hg] at h
    dsimp only at h
    split at h
    · rename_i h0
      exact ⟨h0, fun _ => by simp [h0]⟩
    · cases h
theorem HpAt.slotted {K : Nat} {H : He} {h s c n f : Nat} {v : Value} {g q col : Nat → Nat} {w : World} (p : HpAt K H h s c n f v g q col w) {i : Nat} {x : Ob} (hi : H.os[i]? = some x) (h0 : x.sh ≠ 0) : ∃ vv, SlAt c x.sh x.l (q i) vv w ∧ ∀ b, FtL (q i) vv b → col b = 4 + i := by
  rcases (p.ob i x hi).2.1 with ⟨_, vv, h1, h2⟩ | ⟨h1, _⟩
  · exact ⟨vv, h1, h2⟩
  · exact absurd h1 h0
set_option maxHeartbeats 1000000 in
theorem hshape_calls {S : Nat → Prop} {K h : Nat} {H : He} (w : World) (p : HpS S K h H w) (o : Int) :
    Calls Tryz.prog 27 #[.pointer (some ⟨h, 0, none⟩), .int .i64 o] w fun e w' => e = .returned (.int .i64 (shapeH H o : Int)) ∧ Below w.heap.size w w' := by
  cases hg : slotsO H o with
  | none =>
    rw [(slotsO_none hg).1]
    have HN := hid (hslots_none w p hg)
    clear p hg
    go_enter Tryz.func27, Tryz.ntmps27
    go_wp2_with fail
    refine HN.out.mono ?_
    rintro e1 w1 ⟨rfl, rfl⟩
    go_wp2_with fail
    go_ret
    exact ⟨rfl, Below.refl _ _⟩
  | some x =>
    obtain ⟨i, rfl, hi, h0, hgo⟩ := slotsO_some hg
    rw [show shapeH H ((i + 1 : Nat) : Int) = x.sh by unfold shapeH; rw [hgo]]
    obtain ⟨s, c, n, f, v, g, q, col, p, hS⟩ := p
    have HN := hid (hslots_some w p hi h0)
    obtain ⟨vv, h1, _⟩ := p.slotted hi h0
    obtain ⟨c0, c1, c2, hq⟩ := h1.cells
    clear p h1 hi hg hgo hS
    generalize ((i + 1 : Nat) : Int) = o at *
    go_enter Tryz.func27, Tryz.ntmps27
    go_wp2_with fail
    refine HN.out.mono ?_
    rintro e1 w1 ⟨rfl, rfl⟩
    go_wp2_with fail
    go_ret
    exact ⟨rfl, Below.refl _ _⟩
set_option maxHeartbeats 1000000 in
theorem hslot_calls {S : Nat → Prop} {K h : Nat} {H : He} (w : World) (p : HpS S K h H w) (o j : Int) :
    Calls Tryz.prog 76 #[.pointer (some ⟨h, 0, none⟩), .int .i64 o, .int .i64 j] w fun e w' => e = .returned (.tuple #[vlV (vlO (slotH H o j)), .bool (slotH H o j).isSome]) ∧ Below w.heap.size w w' := by
  have A := (Below.refl w.heap.size w).alloc (Nat.le_refl _) (Obj.cells #[.int .i64 0, .int .i64 0, .string ⟨#[]⟩] 37)
  have hSl := hid (slot_new w rfl 37)
  have HA := hid A
  replace p := p.on A
  cases hg : slotsO H o with
  | none =>
    rw [(slotsO_none hg).2 j]
    have HN := hid (hslots_none _ p hg)
    clear p hg A
    unfold vlV vlO
    dsimp only [Option.getD_none, vl0, Option.isSome_none]
    go_enter Tryz.func76, Tryz.ntmps76
    go_wp2_with fail
    refine HN.out.mono ?_
    rintro e1 w1 ⟨rfl, rfl⟩
    go_wp2_with fail
    exact bodyPost_ret (ret_ve rfl rfl ⟨by simp, by simp, by simp⟩) rfl ⟨rfl, HA.out⟩
  | some x =>
    obtain ⟨i, rfl, hi, h0, hgo⟩ := slotsO_some hg
    rw [show slotH H ((i + 1 : Nat) : Int) j = slotL x.l j by unfold slotH; rw [hgo]; simp [h0]]
    obtain ⟨s, c, n, f, v, g, q, col, p, hS⟩ := p
    have HN := hid (hslots_some _ p hi h0)
    obtain ⟨vv, h1, _⟩ := p.slotted hi h0
    have HV := hid (svalue_calls _ h1 j)
    unfold vlV at HV ⊢
    clear p h1 hi hg hgo hS A
    generalize ((i + 1 : Nat) : Int) = o at *
    go_enter Tryz.func76, Tryz.ntmps76
    go_wp2_with fail
    refine HN.out.mono ?_
    rintro e1 w1 ⟨rfl, rfl⟩
    go_wp2_with fail
    refine HV.out.mono ?_
    rintro e2 w2 ⟨rfl, b2⟩
    have HS2 := hid (slot_on hSl.out b2)
    have HB := hid (below_on HA.out b2)
    clear b2 hSl HA HV
    obtain ⟨g0, g1, g2, g3, g4, g5, g6⟩ := HS2.out
    go_wp2_with fail
    exact bodyPost_ret (ret_ve rfl rfl (put3_cells HS2.out _ _ _)) rfl ⟨rfl, put3 HB.out (by simp) _ _ _⟩
theorem HpAt.cells {K : Nat} {H : He} {h s c n f : Nat} {v : Value} {g q col : Nat → Nat} {w : World} (p : HpAt K H h s c n f v g q col w) :
    w.cell? ⟨h, 0, none⟩ = some (.pointer (some ⟨s, 0, none⟩)) ∧ w.cell? ⟨s, 0, none⟩ = some (.int .i64 (H.most : Int)) ∧ w.cell? ⟨s, 1, none⟩ = some (.int .i64 (H.props : Int)) ∧ w.cell? ⟨s, 2, none⟩ = some (.pointer (some ⟨c, 0, none⟩)) ∧ w.cell? ⟨s, 3, none⟩ = some v ∧ h < w.heap.size ∧ s < w.heap.size :=
  ⟨by rw [blk_cell p.bh]; rfl, by rw [blk_cell p.bs]; rfl, by rw [blk_cell p.bs]; rfl, by rw [blk_cell p.bs]; rfl, by rw [blk_cell p.bs]; rfl, blk_lt p.bh, blk_lt p.bs⟩
theorem hslotof_calls {S : Nat → Prop} {K h : Nat} {H : He} (w : World) (p : HpS S K h H w) (id : Int) (nm : ByteArray) (hs : nm.size ≤ 1000000) :
    Calls Tryz.prog 113 #[.pointer (some ⟨h, 0, none⟩), .int .i64 id, .string nm] w fun e w' => e = .returned (.int .i64 (slotofH H id nm)) ∧ Below w.heap.size w w' := by
  have HM := hid (hmade_calls w p)
  obtain ⟨s, c, n, f, v, g, q, col, p, hS⟩ := p
  obtain ⟨c0, _, _, c1, _, h1, h2⟩ := p.cells
  have HV := hid (cslot_calls w p.cls id nm hs)
  unfold slotofH
  clear p hS
  go_enter Tryz.func113, Tryz.ntmps113
  go_wp2_with fail
  refine HM.out.mono ?_
  rintro e1 w1 ⟨rfl, rfl⟩
  go_wp2_with fail
  refine HV.out.mono ?_
  rintro e2 w2 ⟨rfl, b2⟩
  have B2 := hid b2
  clear b2 HV
  go_wp2_with fail
  go_ret
  exact ⟨rfl, B2.out⟩
set_option maxHeartbeats 2000000 in
theorem hget_calls {S : Nat → Prop} {K h : Nat} {H : He} (w : World) (p : HpS S K h H w) (hK : K ≤ 900000) (o : Int) (nm : ByteArray) (hs : nm.size ≤ 1000000) :
    Calls Tryz.prog 20 #[.pointer (some ⟨h, 0, none⟩), .int .i64 o, .string nm] w fun e w' => e = .returned (vlV (gotH H o nm)) ∧ Below w.heap.size w w' := by
  have HP := hid p
  have W := hid p.wf
  have SL := hid (slot_new w rfl 37)
  have L0 : Hid (Below w.heap.size w (w.alloc (Obj.cells #[.int .i64 0, .int .i64 0, .string ⟨#[]⟩] 37))) := hid ((Below.refl w.heap.size w).alloc (Nat.le_refl _) _)
  clear p
  unfold vlV
  generalize hz : gotH H o nm = z
  have HZ := hid hz
  clear hz
  go_enter Tryz.func20, Tryz.ntmps20
  go_wp2_with fail
  go_loopw [1] (fun a wr => ∃ o' : Int, a = .int .i64 o' ∧ Hid (gotH H o' nm = z) ∧ Hid (Below w.heap.size w wr) ∧ Hid (Slot w.heap.size wr)) (fun a _ => rankH H (intOf a))
  case atStart => exact ⟨o, rfl, HZ, L0, SL⟩
  case round =>
    obtain ⟨o', rfl, hZ, hB, hSl⟩ := hrel
    by_cases ho : 0 < o'
    · have HO := hid (hown_calls wr (HP.out.on hB.out) o' nm hs)
      have hst := gotH_step W.out o' nm
      cases hw : ownH H o' nm with
      | some u =>
        rw [hw] at HO hst
        have hu : u = z := hst.symm.trans hZ.out
        subst hu
        unfold vlV vlO at HO
        clear hst hw
        go_wp2_with fail
        refine HO.out.mono ?_
        rintro e2 w2 ⟨rfl, b2⟩
        have a2 := (Below.refl w2.heap.size w2).alloc (Nat.le_refl _) (Obj.cells #[.int .i64 u.1, .int .i64 u.2.1, .string u.2.2] 37)
        have HS2 := hid (slot_on hSl.out b2)
        have HB := hid (below_in hB.out (Nat.le_refl _) b2)
        have hwl : w.heap.size < w2.heap.size := Nat.lt_of_lt_of_le hSl.out.1 b2.size
        have hne : w.heap.size ≠ w2.heap.size := by omega
        have hne2 : w2.heap.size ≠ w.heap.size := by omega
        obtain ⟨g0, g1, g2, g3, g4, g5, g6⟩ := slot_on hSl.out b2
        clear b2 hSl hB HO a2
        dsimp only [Option.getD_some, Option.isSome_some]
        go_wp2_with fail
        have PC := put3_cells HS2.out (.int .i64 u.1) (.int .i64 u.2.1) (.string u.2.2)
        have PB := put3 HB.out (Nat.le_refl _) (.int .i64 u.1) (.int .i64 u.2.1) (.string u.2.2)
        have PA := (Below.refl (((w2.setCell ⟨w.heap.size, 0, none⟩ (.int .i64 u.1)).setCell ⟨w.heap.size, 1, none⟩ (.int .i64 u.2.1)).setCell ⟨w.heap.size, 2, none⟩ (.string u.2.2)).heap.size (((w2.setCell ⟨w.heap.size, 0, none⟩ (.int .i64 u.1)).setCell ⟨w.heap.size, 1, none⟩ (.int .i64 u.2.1)).setCell ⟨w.heap.size, 2, none⟩ (.string u.2.2))).alloc (Nat.le_refl _) (Obj.cells #[.int .i64 u.1, .int .i64 u.2.1, .string u.2.2] 37)
        have hlt : w.heap.size < (((w2.setCell ⟨w.heap.size, 0, none⟩ (.int .i64 u.1)).setCell ⟨w.heap.size, 1, none⟩ (.int .i64 u.2.1)).setCell ⟨w.heap.size, 2, none⟩ (.string u.2.2)).heap.size := by simp; omega
        have PD := below_in PB (Nat.le_refl _) PA
        have P0 := hcell_on PC.1 hlt PA
        have P1 := hcell_on PC.2.1 hlt PA
        have P2 := hcell_on PC.2.2 hlt PA
        clear PC PB PA
        exact bodyPost_ret (ret_v rfl rfl ⟨P0, P1, P2⟩) rfl ⟨rfl, PD⟩
      | none =>
        rw [hw] at HO hst
        have HG := hid (hst.symm.trans hZ.out)
        have HR := hid (rank_lt W.out (o := o') (by omega))
        unfold vlV vlO at HO
        clear hst hw
        go_wp2_with fail
        refine HO.out.mono ?_
        rintro e2 w2 ⟨rfl, b2⟩
        have a2 := (Below.refl w2.heap.size w2).alloc (Nat.le_refl _) (Obj.cells #[.int .i64 0, .int .i64 0, .string ⟨#[]⟩] 37)
        have HS2 := hid (slot_on (slot_on hSl.out b2) a2)
        have HB := hid (below_in (below_in hB.out (Nat.le_refl _) b2) (Nat.le_refl _) a2)
        have HPr := hid (hproto_calls _ (HP.out.on HB.out) hK o')
        clear b2 hSl hB HO a2
        dsimp only [Option.getD_none, vl0, Option.isSome_none]
        go_wp2_with fail
        refine HPr.out.mono ?_
        rintro e3 w3 ⟨rfl, b3⟩
        have HS3 := hid (slot_on HS2.out b3)
        have HB3 := hid (below_in HB.out (Nat.le_refl _) b3)
        clear b3 HB HS2 HPr
        go_wp2_with fail
        exact ⟨⟨_, rfl, HG, HB3, HS3⟩, HR.out⟩
    · have e0 : z = vl0 := hZ.out.symm.trans (gotH_low (by omega) nm)
      subst e0
      obtain ⟨g0, g1, g2, g3, g4, g5, g6⟩ := hSl.out
      go_wp2_with fail
      refine bodyPost_ret (ret_v rfl rfl (put3_cells hSl.out _ _ _)) rfl ⟨rfl, put3 hB.out (Nat.le_refl _) _ _ _⟩
set_option maxHeartbeats 1000000 in
theorem honchain_calls {S : Nat → Prop} {K h : Nat} {H : He} (w : World) (p : HpS S K h H w) (hK : K ≤ 900000) (o a : Int) :
    Calls Tryz.prog 66 #[.pointer (some ⟨h, 0, none⟩), .int .i64 o, .int .i64 a] w fun e w' => e = .returned (.bool (onH H o a)) ∧ Below w.heap.size w w' := by
  have HP := hid p
  have W := hid p.wf
  clear p
  generalize hz : onH H o a = z
  have HZ := hid hz
  clear hz
  have L0 := hid (Below.refl w.heap.size w)
  go_enter Tryz.func66, Tryz.ntmps66
  go_wp2_with fail
  go_loopw [2] (fun a wr => ∃ o' : Int, a = .int .i64 o' ∧ Hid (onH H o o' = z) ∧ Hid (Below w.heap.size w wr)) (fun a _ => rankH H (intOf a))
  case atStart => exact ⟨a, rfl, HZ, L0⟩
  case round =>
    obtain ⟨o', rfl, hZ, hB⟩ := hrel
    have hst := onH_step W.out o o'
    rw [hZ.out] at hst
    by_cases ho : 0 < o'
    · rw [if_neg (by omega)] at hst
      by_cases he : o' = o
      · rw [if_pos he] at hst
        subst hst he
        go_wp2_with fail
        go_ret
        exact ⟨rfl, hB.out⟩
      · rw [if_neg he] at hst
        have HG := hid hst.symm
        have HR := hid (rank_lt W.out (o := o') (by omega))
        have HPr := hid (hproto_calls _ (HP.out.on hB.out) hK o')
        clear hst
        go_wp2_with fail
        refine HPr.out.mono ?_
        rintro e3 w3 ⟨rfl, b3⟩
        have HB3 := hid (below_in hB.out (Nat.le_refl _) b3)
        clear b3 hB HPr
        go_wp2_with fail
        exact ⟨⟨_, rfl, HG, HB3⟩, HR.out⟩
    · rw [if_pos (by omega)] at hst
      subst hst
      go_wp2_with fail
      go_ret
      exact ⟨rfl, hB.out⟩

end Go.Proofs.YtimhgbcanmgajaaGreat
