/- What is found along a chain. -/
import Derived.Test.YtimhgbcanmgajaaGreatJoint2
import Derived.Test.YtimhgbcanmgajaaGreatJoint18
import Derived.Test.YtimhgbcanmgajaaGreatJoint9
namespace Go.Proofs.YtimhgbcanmgajaaGreat
set_option linter.unusedSimpArgs false
set_option linter.unusedVariables false
set_option maxRecDepth 100000
open Go.RowKit

theorem dp_set {T : TypeId} {v : Value} {ds : List Dp} {g i : Nat} {x : Value} {w : World} (h : DpV T v ds w) (hne : ∀ b, v.ownBlock = some b → b ≠ g) : DpV T v ds (w.setCell ⟨g, i, none⟩ x) := h.keep (fun b hb => RowKit.Below.heap_setCell _ _ _ _ (hne b hb))
theorem dp_drew {T : TypeId} {v : Value} {ds : List Dp} {w : World} (h : DpV T v ds w) : DpV T v ds w.drew := h.on (Below.refl _ _).drew
theorem elDp : Elem 63 113 2 16 := elem_of (z0 := .agg #[.int .i64 0, .int .i64 0]) (by kernel_rfl) (by kernel_rfl) rfl
theorem HpZ.cell {SH : Nat → Prop} {J h s : Nat} {H : He} {w : World} (ph : HpZ SH J h s H w) : w.cell? ⟨h, 0, none⟩ = some (.pointer (some ⟨s, 0, none⟩)) ∧ h < w.heap.size := by
  obtain ⟨c, n, f, v, g, q, col, p, _⟩ := ph
  obtain ⟨k0, _, _, _, _, k5, _⟩ := p.cells
  exact ⟨k0, k5⟩
/-- the block of an entry, and of the answer -/
def SkB (B Q E : Nat) (x0 : Nat) (x1 x2 x3 : Int) (v : Value) (w : World) : Prop :=
  Blk Q 141 #[.int .i64 0, .int .i64 0, .int .i64 0, .int .i64 0, .slice none 0 0, .pointer none] w ∧ Blk E 65 #[.int .i64 (x0 : Int), .int .i64 x1, .int .i64 x2, .int .i64 x3, v] w ∧ B ≤ Q ∧ B ≤ E
theorem SkB.on {B Q E x0 : Nat} {x1 x2 x3 : Int} {v : Value} {a b : World} (h : SkB B Q E x0 x1 x2 x3 v a) (k : Below a.heap.size a b) : SkB B Q E x0 x1 x2 x3 v b := ⟨blk_on h.1 k, blk_on h.2.1 k, h.2.2⟩
theorem SkB.ne {B Q E x0 : Nat} {x1 x2 x3 : Int} {v : Value} {w : World} (h : SkB B Q E x0 x1 x2 x3 v w) : Q ≠ E := fun e => by
  subst e
  exact absurd (blk_type h.1 h.2.1) (by decide)
def SkOut (s : Nat) (H : He) (o : Int) (nm : ByteArray) (w : World) (e : Ending) (w' : World) : Prop :=
  Below w.heap.size w w' ∧ ((lookE H o nm = none ∧ e = .returned (.tuple #[keZ, .bool false])) ∨
    ∃ en dv, lookE H o nm = some en ∧ DpV 113 dv en.deps w' ∧ (∀ b, dv.ownBlock = some b → w.heap.size ≤ b) ∧ e = .returned (.tuple #[keV s (en, dv), .bool true]))
set_option maxHeartbeats 4000000 in
theorem sseek_calls (w : World) {s : Nat} {SH : Nat → Prop} {J h : Nat} {H : He} (ph : HpZ SH J h s H w) (hJ : J ≤ 900000) (o : Int) (nm : ByteArray) (hn : nm.size ≤ 1000000) :
    Calls Tryz.prog 109 #[.pointer (some ⟨h, 0, none⟩), .int .i64 o, .string nm] w fun e w' => SkOut s H o nm w e w' := by
  have A := (Below.refl w.heap.size w).alloc (Nat.le_refl _) (Obj.cells #[.int .i64 0, .int .i64 0, .int .i64 0, .int .i64 0, .slice none 0 0, .pointer none] 141)
  have hq := blk_new w 141 #[.int .i64 0, .int .i64 0, .int .i64 0, .int .i64 0, .slice none 0 0, .pointer none]
  have HS := hid (hshape_calls _ (ph.on A).s o)
  have HP := hid ph
  have W := hid ph.s.wf
  have HA := hid A
  have HQ := hid hq
  have hl0 : w.heap.size < (w.alloc (Obj.cells #[.int .i64 0, .int .i64 0, .int .i64 0, .int .i64 0, .slice none 0 0, .pointer none] 141)).heap.size := by simp
  clear ph A hq
  go_enter Tryz.func109, Tryz.ntmps109
  go_wp2_with fail
  refine HS.out.mono ?_
  rintro e1 w1 ⟨rfl, b1⟩
  have B1 := hid (below_on HA.out b1)
  have hlw : w.heap.size < w1.heap.size := Nat.lt_of_lt_of_le hl0 b1.size
  obtain ⟨W2, hW2⟩ : ∃ W2, W2 = w1.alloc (Obj.cells #[.int .i64 (shapeH H o : Int), .int .i64 0, .int .i64 0, .int .i64 0, .slice none 0 0] 65) := ⟨_, rfl⟩
  have B2 : Below w.heap.size w W2 := by rw [hW2]; exact B1.out.alloc (Nat.le_of_lt hlw) _
  have S2 : SkB w.heap.size w.heap.size w1.heap.size (shapeH H o) 0 0 0 (.slice none 0 0) W2 := by
    rw [hW2]
    exact ⟨blk_on (blk_on HQ.out b1) ((Below.refl _ _).alloc (Nat.le_refl _) _), blk_new _ _ _, Nat.le_refl _, Nat.le_of_lt hlw⟩
  have HSo := hid (hslotof_calls W2 (HP.out.on B2).s (shapeH H o : Int) nm hn)
  have HPr := hid (fun (wx : World) (b : Below w.heap.size w wx) => hproto_calls wx (HP.out.on b).s hJ o)
  have HW2 := hid hW2
  have HB2 := hid B2
  have HS2 := hid S2
  have HLE : Hid (lookE H o nm = if 0 ≤ slotofH H (shapeH H o) nm then some ⟨shapeH H o, 0, slotofH H (shapeH H o) nm, 0, []⟩ else lookF H nm (shapeH H o) (H.os.length + 1) (protoH H o) []) := hid rfl
  have HUP := hid (upN_more (k := H.os.length + 1) (W.out.within (protoH H o)) (Nat.le_refl _))
  have hlen : H.os.length ≤ 200 := Nat.le_trans W.out.len W.out.most
  clear b1 HS hW2 B2 S2
  generalize shapeH H o = sh at *
  generalize hE : w1.heap.size = E at *
  go_wp2_with fail
  rw [← HW2.out]
  refine HSo.out.mono ?_
  rintro e3 w3 ⟨rfl, b3⟩
  have B3 := hid (below_in HB2.out (Nat.le_refl _) b3)
  have S3 := hid (HS2.out.on b3)
  clear b3 HSo
  have hQE := S3.out.ne
  have hEQ := hQE.symm
  have HLE1 := HLE
  by_cases hsl : 0 ≤ slotofH H sh nm
  · have HL : Hid (lookE H o nm = some ⟨sh, 0, slotofH H sh nm, 0, []⟩) := hid (by rw [HLE.out, if_pos hsl])
    clear HLE HLE1
    generalize slotofH H sh nm = sl at *
    obtain ⟨hh0, hhl⟩ := (HP.out.on B3.out).cell
    obtain ⟨f1, c1, l1⟩ := blk_own S3.out.1
    obtain ⟨f2, c2, l2⟩ := blk_own S3.out.2.1
    have hhE : h ≠ E := fun e => by have := HP.out.cell.2; have := S3.out.2.2.2; omega
    have hEh := hhE.symm
    have hhQ : h ≠ w.heap.size := fun e => by have := HP.out.cell.2; omega
    have hQh := hhQ.symm
    go_wp2_with fail
    refine wp_region_held_drew (S := fun aZ => aZ.cell? ⟨E, 0, none⟩ = some (.int .i64 (sh : Int)) ∧ aZ.cell? ⟨E, 1, none⟩ = some (.int .i64 0) ∧ aZ.cell? ⟨E, 2, none⟩ = some (.int .i64 sl) ∧ aZ.cell? ⟨E, 3, none⟩ = some (.int .i64 0) ∧ aZ.cell? ⟨E, 4, none⟩ = some (.slice none 0 0) ∧ aZ.cell? ⟨h, 0, none⟩ = some (.pointer (some ⟨s, 0, none⟩))) (by kernel_rfl) ?_ (fun hHeld => ?_)
    · (refine ⟨?_, ?_, ?_, ?_, ?_, ?_⟩ <;> go_simp)
    refine tkk 0 ?_
    refine tkk 1 ?_
    refine tkk 2 ?_
    refine tkk 3 ?_
    refine tkk 4 ?_
    refine rdy 5 (fun K hK => ?_)
    go_simp
    refine hK.out _ _ ?_ (fun _ => ?_)
    · (refine ⟨?_, ?_, ?_, ?_, ?_, ?_⟩ <;> go_simp)
    clear hK K
    refine tkk 6 ?_
    refine wpAnyH_done (by kernel_rfl) ?_ _
    go_wp2_with fail
    have hqe : w.heap.size ≤ E := S3.out.2.2.2
    refine bodyPost_ret (ret_kb (g := w.heap.size) (a := .int .i64 (sh : Int)) (b := .int .i64 0) (c := .int .i64 sl) (d := .int .i64 0) (e := .slice none 0 0) (f := .pointer (some ⟨s, 0, none⟩)) rfl rfl ⟨by simp [go_sem, c1, c2], by simp [go_sem, c1, c2], by simp [go_sem, c1, c2], by simp [go_sem, c1, c2], by simp [go_sem, c1, c2], by simp [go_sem, c1, c2]⟩) rfl ⟨?_, ?_⟩
    · exact RowKit.Below.drew (below_set (below_set (below_set (below_set (below_set (below_set (below_set (below_set (B3.out) (by omega) _) (by omega) _) (by omega) _) (by omega) _) (by omega) _) (by omega) _) (by omega) _) (by omega) _)
    · exact .inr ⟨_, .slice none 0 0, HL.out, World.ownsRow_nil _ _ _ _, fun b hb => by simp [Value.ownBlock] at hb, rfl⟩
  · have HL : Hid (lookE H o nm = lookF H nm sh (H.os.length + 1) (protoH H o) []) := hid (by rw [HLE.out, if_neg hsl])
    clear HLE HLE1
    generalize slotofH H sh nm = sl at *
    have HP3 := hid (HPr.out w3 B3.out)
    clear HPr
    go_wp2_with fail
    refine HP3.out.mono ?_
    rintro e4 w4 ⟨rfl, b4⟩
    have B4 := hid (below_in B3.out (Nat.le_refl _) b4)
    have S4 := hid (S3.out.on b4)
    generalize hR : lookE H o nm = R at *
    have I4 : Hid (lookF H nm sh (H.os.length + 1) (protoH H o) [] = R ∧ upN H (H.os.length + 1) (protoH H o) < 1 ∧ ([] : List Dp).length + (H.os.length + 1) ≤ 202 ∧ SkB w.heap.size w.heap.size E sh 0 0 0 (.slice none 0 0) w4 ∧ DpV 113 (.slice none 0 0) [] w4 ∧ (∀ b, (Value.slice none 0 0).ownBlock = some b → w.heap.size ≤ b) ∧ Below w.heap.size w w4) :=
      hid ⟨HL.out.symm, HUP.out, by simp; omega, S4.out, World.ownsRow_nil _ _ _ _, fun b hb => by simp [Value.ownBlock] at hb, B4.out⟩
    have HRR := hid hR
    clear b4 B3 S3 B4 S4 HL hR HP3 hsl HUP
    generalize hpo : protoH H o = po at *
    clear hpo
    go_wp2_with fail
    go_loopw [10] (fun i wr => ∃ (n a : Nat) (ds : List Dp) (dv : Value), i = .int .i64 (a : Int) ∧ Hid (lookF H nm sh n a ds = R ∧ upN H n a < 1 ∧ ds.length + n ≤ 202 ∧ SkB w.heap.size w.heap.size E sh 0 0 0 dv wr ∧ DpV 113 dv ds wr ∧ (∀ b, dv.ownBlock = some b → w.heap.size ≤ b) ∧ Below w.heap.size w wr)) (fun i _ => rankH H (intOf i))
    case atStart => exact ⟨H.os.length + 1, po, [], .slice none 0 0, rfl, I4⟩
    case round =>
      clear I4
      obtain ⟨n, a, ds, dv, rfl, hI⟩ := hrel
      obtain ⟨i1, i2, i3, i4, i5, i6, i7⟩ := hI.out
      obtain ⟨ao, cap, rfl⟩ := i5.shape
      have hqe : w.heap.size ≤ E := i4.2.2.2
      by_cases ha : 0 < a
      · obtain ⟨m, rfl⟩ : ∃ m, n = m + 1 := by
          cases n with
          | zero => exact absurd i2 (by show ¬ (a : Int) < 1; omega)
          | succ m => exact ⟨m, rfl⟩
        have hSh := hid (hshape_calls wr (HP.out.on i7).s (a : Int))
        have hstep : lookF H nm sh (m + 1) a ds = if shapeH H a = 0 then none else if 0 ≤ slotofH H (shapeH H a) nm then some ⟨sh, a, slotofH H (shapeH H a) nm, 0, ds ++ [⟨a, epochH H a⟩]⟩ else lookF H nm sh m (protoH H a) (ds ++ [⟨a, epochH H a⟩]) := by
          rw [lookF, if_neg (by omega)]
          rfl
        rw [hstep] at i1
        have HI1 := hid i1
        have HI5 := hid i5
        have HI6 := hid i6
        have HI4 := hid i4
        have HI7 := hid i7
        have hup : Hid (upN H m (protoH H a) < 1) := hid i2
        have ha' : (0 : Int) < (a : Int) := by omega
        clear hI i1 i2 i4 i5 i6 i7 hstep
        go_wp2_with fail
        refine hSh.out.mono ?_
        rintro e5 w5 ⟨rfl, b5⟩
        have B5 := hid (below_in HI7.out (Nat.le_refl _) b5)
        have S5 := hid (HI4.out.on b5)
        have D5 := hid (HI5.out.on b5)
        clear b5 hSh HI4 HI5 HI7
        by_cases hs0 : shapeH H a = 0
        · have HN : Hid (R = none) := hid (by rw [← HI1.out, if_pos hs0])
          rw [hs0]
          obtain ⟨f1, c1, l1⟩ := blk_own S5.out.1
          clear HI1 hs0 hup
          go_wp2_with fail
          refine bodyPost_ret (ret_kb (g := w.heap.size) (a := .int .i64 0) (b := .int .i64 0) (c := .int .i64 0) (d := .int .i64 0) (e := .slice none 0 0) (f := .pointer none) rfl rfl ⟨by simp [go_sem, c1], by simp [go_sem, c1], by simp [go_sem, c1], by simp [go_sem, c1], by simp [go_sem, c1], by simp [go_sem, c1]⟩) rfl ⟨?_, ?_⟩
          · exact below_set (below_set (below_set (below_set (below_set (below_set (B5.out) (by omega) _) (by omega) _) (by omega) _) (by omega) _) (by omega) _) (by omega) _
          · exact .inl ⟨by rw [HRR.out]; exact HN.out, rfl⟩
        · have HI2 : Hid ((if 0 ≤ slotofH H (shapeH H a) nm then some ⟨sh, a, slotofH H (shapeH H a) nm, 0, ds ++ [⟨a, epochH H a⟩]⟩ else lookF H nm sh m (protoH H a) (ds ++ [⟨a, epochH H a⟩])) = R) := hid (by rw [← HI1.out, if_neg hs0])
          have hep := hid (hepoch_calls w5.drew (HP.out.on B5.out.drew).s (a : Int))
          have hs0' : ¬ ((shapeH H a : Nat) : Int) = 0 := by omega
          have hsz : ds.length ≤ 1000000 := by omega
          have HR5 : Hid (rankH H (protoH H a) < rankH H a) := hid (rank_lt W.out (o := a) (by omega))
          have HPr2 := hid (fun (wx : World) (b : Below w.heap.size w wx) => hproto_calls wx (HP.out.on b).s hJ (a : Int))
          have HSo2 := hid (fun (wx : World) (b : Below w.heap.size w wx) => hslotof_calls wx (HP.out.on b).s (shapeH H a : Int) nm hn)
          generalize shapeH H a = sh2 at *
          generalize epochH H a = ep at *
          generalize protoH H a = pa at *
          obtain ⟨f1, c1, l1⟩ := blk_own S5.out.1
          obtain ⟨f2, c2, l2⟩ := blk_own S5.out.2.1
          have q4 := c2 4
          simp only [List.getElem?_toArray, List.getElem?_cons_zero, List.getElem?_cons_succ] at q4
          clear HI1 hs0 f1 c1 l1 f2 c2
          go_wp2_with fail
          refine wp_region_held_drew (S := fun aZ => True) (by kernel_rfl) ?_ (fun hHeld => ?_)
          · trivial
          refine tkk 0 ?_
          refine tkk 2 ?_
          refine tkk 3 ?_
          refine tkk 4 ?_
          refine wpAnyH_ready (rs := [1, 5]) (by kernel_rfl) (by simp) ?_
          refine AllReadyH.cons rfl (fun K hK => ?_) (AllReadyH.cons rfl (fun K hK => ?_) AllReadyH.nil)
          go_simp
          refine hK.out _ _ trivial (fun _ => ?_)
          clear hK K
          refine rdy 5 (fun K hK => ?_)
          go_simp
          refine hep.out.mono ?_
          rintro e6 w6 ⟨rfl, b6⟩
          have b56 := below_on (Below.refl _ _).drew b6
          have B6 := hid (below_in B5.out (Nat.le_refl _) b56)
          have S6 := hid (S5.out.on b56)
          have D6 := hid (D5.out.on b56)
          have x4 := hcell_on q4 l2 b56
          have lE := blk_lt S6.out.2.1
          clear b6 b56
          go_simp
          refine hK.out _ _ trivial (fun _ => ?_)
          clear hK K
          refine tkk 6 ?_
          refine rdy 7 (fun K hK => ?_)
          go_simp
          refine hK.out _ _ trivial (fun _ => ?_)
          clear hK K
          rotate_left 1
          go_simp
          refine hep.out.mono ?_
          rintro e6 w6 ⟨rfl, b6⟩
          have b56 := below_on (Below.refl _ _).drew b6
          have B6 := hid (below_in B5.out (Nat.le_refl _) b56)
          have S6 := hid (S5.out.on b56)
          have D6 := hid (D5.out.on b56)
          have x4 := hcell_on q4 l2 b56
          have lE := blk_lt S6.out.2.1
          clear b6 b56
          go_simp
          refine hK.out _ _ trivial (fun _ => ?_)
          clear hK K
          refine tkk 6 ?_
          refine wpAnyH_ready (rs := [1, 7]) (by kernel_rfl) (by simp) ?_
          refine AllReadyH.cons rfl (fun K hK => ?_) (AllReadyH.cons rfl (fun K hK => ?_) AllReadyH.nil)
          go_simp
          refine hK.out _ _ trivial (fun _ => ?_)
          clear hK K
          refine rdy 7 (fun K hK => ?_)
          go_simp
          refine hK.out _ _ trivial (fun _ => ?_)
          clear hK K
          rotate_left 1
          go_simp
          refine hK.out _ _ trivial (fun _ => ?_)
          clear hK K
          refine rdy 1 (fun K hK => ?_)
          go_simp
          refine hK.out _ _ trivial (fun _ => ?_)
          clear hK K
          rotate_left 1
          all_goals
           clear hep B5 S5 D5
           refine rdy 8 (fun K hK => ?_)
           refine row_app_step elDp (by decide) (by decide) rfl _ _ rfl ds.length (ds.map dpC).flatten [.int .i64 (a : Int), .int .i64 (ep : Int)] rfl (by intro u hu; simp at hu; rcases hu with rfl | rfl <;> rfl) (.slice ao ds.length cap) (by rfl) D6.out w6.heap.size (by rfl) rfl hsz (.inl rfl) ?_
           intro g cp w7 hown hgrow hat
           have hown' : DpV 113 (.slice (some ⟨g, 0, none⟩) (ds ++ [(⟨a, ep⟩ : Dp)]).length cp) (ds ++ [(⟨a, ep⟩ : Dp)]) w7 := by
             unfold DpV
             rw [List.map_append, List.length_append]
             simp only [List.map_cons, List.map_nil, flat_snoc]
             exact hown
           have kk : Keep (fun b => w.heap.size ≤ b) w6 w7 := Keep.grown hgrow (fun j e => HI6.out j e)
           have HB7 := hid (B6.out.trans (kk.below B6.out.size (fun _ h => h)))
           have nE : some E ≠ (Value.slice ao ds.length cap).ownBlock := fun e => by
             obtain ⟨cur, hc⟩ := row_lt D6.out e.symm
             exact absurd (blk_type hc S6.out.2.1) (by decide)
           have nQ : some w.heap.size ≠ (Value.slice ao ds.length cap).ownBlock := fun e => by
             obtain ⟨cur, hc⟩ := row_lt D6.out e.symm
             exact absurd (blk_type hc S6.out.1) (by decide)
           have S7 : SkB w.heap.size w.heap.size E sh 0 0 0 (.slice ao ds.length cap) w7 := ⟨(hgrow.block _ (blk_lt S6.out.1) nQ).trans S6.out.1, (hgrow.block _ (blk_lt S6.out.2.1) nE).trans S6.out.2.1, S6.out.2.2⟩
           have hg6 : w.heap.size ≤ g := by
             rcases hat with h | h
             · exact HI6.out g h
             · have := B6.out.size; omega
           have HS7 := hid S7
           have HD7 := hid hown'
           obtain ⟨f2, c2, l2⟩ := blk_own S7.2.1
           have y4 := c2 4
           simp only [List.getElem?_toArray, List.getElem?_cons_zero, List.getElem?_cons_succ] at y4
           clear hown hown' hgrow hat kk nE nQ S7 c2 S6 D6 B6 x4
           go_simp
           refine hK.out _ _ trivial (fun _ => ?_)
           clear hK K
           refine tkk 9 ?_
           refine rdy 10 (fun K hK => ?_)
           go_simp
           refine hK.out _ _ trivial (fun _ => ?_)
           clear hK K
           refine wpAnyH_done (by kernel_rfl) ?_ _
           have S8 : SkB w.heap.size w.heap.size E sh 0 0 0 (.slice (some ⟨g, 0, none⟩) (ds ++ [(⟨a, ep⟩ : Dp)]).length cp) (w7.setCell ⟨E, 4, none⟩ (.slice (some ⟨g, 0, none⟩) (ds.length + 1) cp)) := by
             refine ⟨?_, ?_, HS7.out.2.2⟩
             · exact (RowKit.Below.heap_setCell _ _ _ _ HS7.out.ne).trans HS7.out.1
             · have := blk_set HS7.out.2.1 4 (.slice (some ⟨g, 0, none⟩) (ds.length + 1) cp)
               rw [List.length_append]
               simpa using this
           have hgE : g ≠ E := fun e => by
             subst e
             obtain ⟨cur, hc⟩ := row_lt HD7.out (g := g) rfl
             exact absurd (blk_type hc HS7.out.2.1) (by decide)
           have D8 : DpV 113 (.slice (some ⟨g, 0, none⟩) (ds ++ [(⟨a, ep⟩ : Dp)]).length cp) (ds ++ [(⟨a, ep⟩ : Dp)]) (w7.setCell ⟨E, 4, none⟩ (.slice (some ⟨g, 0, none⟩) (ds.length + 1) cp)) := HD7.out.keep (fun b hb => by
             injection hb with hb
             exact RowKit.Below.heap_setCell _ _ _ _ (fun e => hgE (hb.trans e)))
           have B8 : Below w.heap.size w (w7.setCell ⟨E, 4, none⟩ (.slice (some ⟨g, 0, none⟩) (ds.length + 1) cp)) := below_set HB7.out hqe _
           have hnl : (ds ++ [(⟨a, ep⟩ : Dp)]).length = ds.length + 1 := by simp
           have HS8 := hid S8
           have HD8 := hid D8
           have HB8 := hid B8
           clear S8 D8 B8 HS7 HD7 HB7 hgE y4 f2 l2 hHeld
           generalize w7.setCell ⟨E, 4, none⟩ (.slice (some ⟨g, 0, none⟩) (ds.length + 1) cp) = w8 at *
           generalize hds : ds ++ [(⟨a, ep⟩ : Dp)] = ds2 at *
           have hl2 : ds2.length + m ≤ 202 := by omega
           have HNL := hid hnl
           clear hds hnl hsz i3
           go_wp2_with fail
           refine (HSo2.out w8 HB8.out).mono ?_
           rintro e9 w9 ⟨rfl, b9⟩
           have B9 := hid (below_in HB8.out (Nat.le_refl _) b9)
           have S9 := hid (HS8.out.on b9)
           have D9 := hid (HD8.out.on b9)
           clear b9 HSo2 HS8 HD8 HB8
           have hQE9 := S9.out.ne
           have hEQ9 := hQE9.symm
           obtain ⟨f1, c1, l1⟩ := blk_own S9.out.1
           obtain ⟨f2, c2, l2⟩ := blk_own S9.out.2.1
           by_cases hs2 : 0 ≤ slotofH H sh2 nm
           · have HRe : Hid (R = some ⟨sh, a, slotofH H sh2 nm, 0, ds2⟩) := hid (by rw [← HI2.out, if_pos hs2])
             clear HI2 HPr2 HR5
             generalize slotofH H sh2 nm = s2 at *
             have hds2 : ds2.length = ds.length + 1 := HNL.out
             rw [hds2] at c2
             clear hds2
             obtain ⟨hh0, hhl⟩ := (HP.out.on B9.out).cell
             have hhE : h ≠ E := fun e => by have := HP.out.cell.2; omega
             have hEh := hhE.symm
             have hhQ : h ≠ w.heap.size := fun e => by have := HP.out.cell.2; omega
             have hQh := hhQ.symm
             go_wp2_with fail
             refine wp_region_held_drew (S := fun aZ => aZ.cell? ⟨E, 0, none⟩ = some (.int .i64 (sh : Int)) ∧ aZ.cell? ⟨E, 1, none⟩ = some (.int .i64 (a : Int)) ∧ aZ.cell? ⟨E, 2, none⟩ = some (.int .i64 s2) ∧ aZ.cell? ⟨E, 3, none⟩ = some (.int .i64 0) ∧ aZ.cell? ⟨E, 4, none⟩ = some (.slice (some ⟨g, 0, none⟩) (ds.length + 1) cp) ∧ aZ.cell? ⟨h, 0, none⟩ = some (.pointer (some ⟨s, 0, none⟩))) (by kernel_rfl) ?_ (fun hHeld => ?_)
             · (refine ⟨?_, ?_, ?_, ?_, ?_, ?_⟩ <;> go_simp)
             refine tkk 0 ?_
             refine tkk 1 ?_
             refine tkk 2 ?_
             refine tkk 3 ?_
             refine tkk 4 ?_
             refine rdy 5 (fun K hK => ?_)
             go_simp
             refine hK.out _ _ ?_ (fun _ => ?_)
             · (refine ⟨?_, ?_, ?_, ?_, ?_, ?_⟩ <;> go_simp)
             clear hK K
             refine tkk 6 ?_
             refine wpAnyH_done (by kernel_rfl) ?_ _
             go_wp2_with fail
             refine bodyPost_ret (ret_kb (g := w.heap.size) (a := .int .i64 (sh : Int)) (b := .int .i64 (a : Int)) (c := .int .i64 s2) (d := .int .i64 0) (e := .slice (some ⟨g, 0, none⟩) (ds.length + 1) cp) (f := .pointer (some ⟨s, 0, none⟩)) rfl rfl ⟨by simp [go_sem, c1, c2], by simp [go_sem, c1, c2], by simp [go_sem, c1, c2], by simp [go_sem, c1, c2], by simp [go_sem, c1, c2], by simp [go_sem, c1, c2]⟩) rfl ⟨?_, ?_⟩
             · exact RowKit.Below.drew (below_set (below_set (below_set (below_set (below_set (below_set (below_set (below_set (B9.out) (by omega) _) (by omega) _) (by omega) _) (by omega) _) (by omega) _) (by omega) _) (by omega) _) (by omega) _)
             · refine .inr ⟨⟨sh, a, s2, 0, ds2⟩, .slice (some ⟨g, 0, none⟩) (ds.length + 1) cp, by rw [HRR.out]; exact HRe.out, ?_, fun b hb => (by injection hb with hb; subst hb; exact hg6), rfl⟩
               have D9' := D9.out
               rw [HNL.out] at D9'
               have hnE : ∀ b, (Value.slice (some ⟨g, 0, none⟩) (ds.length + 1) cp).ownBlock = some b → b ≠ E := fun b hb e => by
                 obtain ⟨cur, hc⟩ := row_lt D9' hb
                 subst e
                 exact absurd (blk_type hc S9.out.2.1) (by decide)
               have hnQ : ∀ b, (Value.slice (some ⟨g, 0, none⟩) (ds.length + 1) cp).ownBlock = some b → b ≠ w.heap.size := fun b hb e => by
                 obtain ⟨cur, hc⟩ := row_lt D9' hb
                 subst e
                 exact absurd (blk_type hc S9.out.1) (by decide)
               exact dp_drew (dp_set (dp_set (dp_set (dp_set (dp_set (dp_set (dp_set (dp_set (D9') (by first | exact hnE | exact hnQ)) (by first | exact hnE | exact hnQ)) (by first | exact hnE | exact hnQ)) (by first | exact hnE | exact hnQ)) (by first | exact hnE | exact hnQ)) (by first | exact hnE | exact hnQ)) (by first | exact hnE | exact hnQ)) (by first | exact hnE | exact hnQ))
           · have HRe : Hid (lookF H nm sh m pa ds2 = R) := hid (by rw [← HI2.out, if_neg hs2])
             clear HI2
             generalize slotofH H sh2 nm = s2 at *
             go_wp2_with fail
             refine (HPr2.out w9 B9.out).mono ?_
             rintro e10 w10 ⟨rfl, b10⟩
             have B10 := below_in B9.out (Nat.le_refl _) b10
             have S10 := S9.out.on b10
             have D10 := D9.out.on b10
             have I10 := hid (And.intro HRe.out (And.intro hup.out (And.intro hl2 (And.intro S10 (And.intro D10 (And.intro (show ∀ b, (Value.slice (some ⟨g, 0, none⟩) ds2.length cp).ownBlock = some b → w.heap.size ≤ b from fun b hb => by injection hb with hb; subst hb; exact hg6) B10))))))
             clear b10 B10 S10 D10 HPr2
             go_wp2_with fail
             exact ⟨⟨m, pa, ds2, _, rfl, I10⟩, HR5.out⟩
      · have ha0 : a = 0 := by omega
        subst ha0
        have HRe : Hid (R = some ⟨sh, -1, 0, 0, ds⟩) := hid (by
          rw [← i1]
          cases n with
          | zero => rfl
          | succ m => rw [lookF, if_pos (show ((0 : Nat) : Int) = 0 from rfl)])
        have B9 := hid i7
        have D9 := hid i5
        have HI6 := hid i6
        have hQE9 := i4.ne
        have hEQ9 := hQE9.symm
        obtain ⟨f1, c1, l1⟩ := blk_own i4.1
        obtain ⟨f2, c2, l2⟩ := blk_own i4.2.1
        have HS9 := hid i4
        clear hI i1 i2 i3 i4 i5 i6 i7
        obtain ⟨hh0, hhl⟩ := (HP.out.on B9.out).cell
        have hhE : h ≠ E := fun e => by have := HP.out.cell.2; omega
        have hEh := hhE.symm
        have hhQ : h ≠ w.heap.size := fun e => by have := HP.out.cell.2; omega
        have hQh := hhQ.symm
        go_wp2_with fail
        refine wp_region_held_drew (S := fun aZ => aZ.cell? ⟨E, 0, none⟩ = some (.int .i64 (sh : Int)) ∧ aZ.cell? ⟨E, 1, none⟩ = some (.int .i64 (-1)) ∧ aZ.cell? ⟨E, 2, none⟩ = some (.int .i64 0) ∧ aZ.cell? ⟨E, 3, none⟩ = some (.int .i64 0) ∧ aZ.cell? ⟨E, 4, none⟩ = some (.slice ao ds.length cap) ∧ aZ.cell? ⟨h, 0, none⟩ = some (.pointer (some ⟨s, 0, none⟩))) (by kernel_rfl) ?_ (fun hHeld => ?_)
        · (refine ⟨?_, ?_, ?_, ?_, ?_, ?_⟩ <;> go_simp)
        refine tkk 0 ?_
        refine tkk 1 ?_
        refine tkk 2 ?_
        refine tkk 3 ?_
        refine tkk 4 ?_
        refine rdy 5 (fun K hK => ?_)
        go_simp
        refine hK.out _ _ ?_ (fun _ => ?_)
        · (refine ⟨?_, ?_, ?_, ?_, ?_, ?_⟩ <;> go_simp)
        clear hK K
        refine tkk 6 ?_
        refine wpAnyH_done (by kernel_rfl) ?_ _
        go_wp2_with fail
        refine bodyPost_ret (ret_kb (g := w.heap.size) (a := .int .i64 (sh : Int)) (b := .int .i64 (-1)) (c := .int .i64 0) (d := .int .i64 0) (e := .slice ao ds.length cap) (f := .pointer (some ⟨s, 0, none⟩)) rfl rfl ⟨by simp [go_sem, c1, c2], by simp [go_sem, c1, c2], by simp [go_sem, c1, c2], by simp [go_sem, c1, c2], by simp [go_sem, c1, c2], by simp [go_sem, c1, c2]⟩) rfl ⟨?_, ?_⟩
        · exact RowKit.Below.drew (below_set (below_set (below_set (below_set (below_set (below_set (below_set (B9.out) (by omega) _) (by omega) _) (by omega) _) (by omega) _) (by omega) _) (by omega) _) (by omega) _)
        · have hnE : ∀ b, (Value.slice ao ds.length cap).ownBlock = some b → b ≠ E := fun b hb e => by
            obtain ⟨cur, hc⟩ := row_lt D9.out hb
            subst e
            exact absurd (blk_type hc HS9.out.2.1) (by decide)
          have hnQ : ∀ b, (Value.slice ao ds.length cap).ownBlock = some b → b ≠ w.heap.size := fun b hb e => by
            obtain ⟨cur, hc⟩ := row_lt D9.out hb
            subst e
            exact absurd (blk_type hc HS9.out.1) (by decide)
          exact .inr ⟨⟨sh, -1, 0, 0, ds⟩, .slice ao ds.length cap, by rw [HRR.out]; exact HRe.out, dp_drew (dp_set (dp_set (dp_set (dp_set (dp_set (dp_set (dp_set (D9.out) (by first | exact hnE | exact hnQ)) (by first | exact hnE | exact hnQ)) (by first | exact hnE | exact hnQ)) (by first | exact hnE | exact hnQ)) (by first | exact hnE | exact hnQ)) (by first | exact hnE | exact hnQ)) (by first | exact hnE | exact hnQ)), HI6.out, rfl⟩
end Go.Proofs.YtimhgbcanmgajaaGreat
