/- The document's heap: New, Make. -/
import Derived.Test.YtemidicgipebjaaGreatJoint2
import Derived.Test.YtemidicgipebjaaGreatJoint17
namespace Go.Proofs.YtemidicgipebjaaGreat
set_option linter.unusedSimpArgs false
set_option linter.unusedVariables false
set_option maxRecDepth 100000
open Go.RowKit
section
variable {K : Nat} {H : He} {r f : Nat} {v tv : Value} {q col : Nat → Nat}
/-- an object more, in memory -/
theorem RhM.make {gg cp : Nat} {col1 : Nat → Nat} {w1 w3 : World} (p : RhM { H with L := rootL H.M H.L 0 } r f v tv q col1 w1) (hm : H.os.length < H.most)
    (hown : w3.ownsRow 0 87 1 (.slice (some ⟨gg, 0, none⟩) (H.os.length + 1) cp) (H.os.length + 1) (rowL q H.os.length ++ [.pointer (some ⟨w1.heap.size, 0, none⟩)]))
    (hgrow : (w1.alloc (Obj.cells #[.int .i64 0, .slice none 0 0, .slice none 0 0, .int .i64 0, .int .i64 (rootN H.M H.L 0 : Int)] 86)).grownBy w3 v.ownBlock) (hat : v.ownBlock = some gg ∨ (w1.alloc (Obj.cells #[.int .i64 0, .slice none 0 0, .slice none 0 0, .int .i64 0, .int .i64 (rootN H.M H.L 0 : Int)] 86)).heap.size ≤ gg) :
    Blk r 76 #[v, .int .i64 (H.most : Int), .int .i64 (H.props : Int), .pointer (some ⟨f, 0, none⟩), tv] w3 ∧
    ∃ col4 : Nat → Nat, RhM (makeH H) r f (.slice (some ⟨gg, 0, none⟩) (H.os.length + 1) cp) tv (upd q H.os.length w1.heap.size) col4 (w3.setCell ⟨r, 0, none⟩ (.slice (some ⟨gg, 0, none⟩) (H.os.length + 1) cp)) ∧ Keep (fun b => col1 b ≠ 0) w1 (w3.setCell ⟨r, 0, none⟩ (.slice (some ⟨gg, 0, none⟩) (H.os.length + 1) cp)) ∧ ∀ b, b < w1.heap.size → col4 b = col1 b := by
  have o := p.one
  have a1 := (Below.refl w1.heap.size w1).alloc (Nat.le_refl _) (Obj.cells #[.int .i64 0, .slice none 0 0, .slice none 0 0, .int .i64 0, .int .i64 (rootN H.M H.L 0 : Int)] 86)
  have hz2 : w1.heap.size + 1 ≤ w3.heap.size := by have := hgrow.size; simpa using this
  have vlt : ∀ b, v.ownBlock = some b → b < w1.heap.size ∧ col1 b = 1 := fun b hb => ⟨p.lt (by rw [o.2.1 b hb]; decide), o.2.1 b hb⟩
  have fr : ∀ b, b < w1.heap.size → v.ownBlock ≠ some b → w3.heap[b]? = w1.heap[b]? := fun b hb hne => (hgrow.block b (by simp; omega) (fun e => hne e.symm)).trans (a1.block b hb)
  have bn : Blk w1.heap.size 86 #[.int .i64 0, .slice none 0 0, .slice none 0 0, .int .i64 0, .int .i64 (rootN H.M H.L 0 : Int)] w3 := (hgrow.block w1.heap.size (by simp) (fun e => by have := (vlt _ e.symm).1; omega)).trans (blk_new _ _ _)
  have nrv : v.ownBlock ≠ some r := fun e => by
    obtain ⟨cur, hc⟩ := row_lt p.row e
    exact absurd (blk_type hc p.bh) (by decide)
  have V3 : Blk r 76 #[v, .int .i64 (H.most : Int), .int .i64 (H.props : Int), .pointer (some ⟨f, 0, none⟩), tv] w3 := (fr r (blk_lt p.bh) nrv).trans p.bh
  refine ⟨V3, ?_⟩
  have ks := Keep.set (S := fun b => b = r) rfl w3 0 (.slice (some ⟨gg, 0, none⟩) (H.os.length + 1) cp)
  obtain ⟨cur, hcur⟩ := row_lt hown (g := gg) rfl
  have gs : gg ≠ r := fun e => absurd (blk_type hcur (e ▸ V3)) (by decide)
  have gb : gg ≠ w1.heap.size := fun e => absurd (blk_type hcur (e ▸ bn)) (by decide)
  have hgl := blk_lt hcur
  have hr := blk_lt p.bh
  have c4 : ∃ col4 : Nat → Nat, (∀ b, b < w1.heap.size → col4 b = col1 b) ∧ col4 w1.heap.size = 4 + H.os.length ∧ (w1.heap.size ≤ gg → col4 gg = 1) ∧ ∀ b, w3.heap.size ≤ b → col4 b = 0 := by
    refine ⟨fun b => if b < w1.heap.size then col1 b else if b = w1.heap.size then 4 + H.os.length else if b = gg then 1 else 0, fun b hb => by simp [hb], by simp, fun hg => (by simp [show ¬ gg < w1.heap.size by omega, gb]), fun b hb => ?_⟩
    have h1 : ¬ b < w1.heap.size := by omega
    have h2 : ¬ b = w1.heap.size := by omega
    have h3 : ¬ b = gg := by omega
    simp [h1, h2, h3]
  obtain ⟨col4, q1, q2, q3, q4⟩ := c4
  have cgg : col4 gg = 1 := by
    rcases hat with e | e
    · rw [q1 gg (vlt _ e).1, (vlt _ e).2]
    · exact q3 (by simp at e; omega)
  have kk : Keep (fun b => b = r ∨ v.ownBlock = some b) w1 (w3.setCell ⟨r, 0, none⟩ (.slice (some ⟨gg, 0, none⟩) (H.os.length + 1) cp)) :=
    ⟨hgrow.os, hgrow.tape, hgrow.output, by have := ks.size; omega, fun b hb hn => (ks.block b (by omega) (fun e => hn (.inl e))).trans (fr b hb (fun e => hn (.inr e)))⟩
  have kk1 : ∀ b, col1 b ≠ 1 → ¬ (b = r ∨ v.ownBlock = some b) := fun b hc => by
    rintro (rfl | e)
    · exact hc o.1
    · exact hc (vlt _ e).2
  have e0 : (makeH H).os = H.os ++ [⟨0, [], 0, rootN H.M H.L 0⟩] ∧ (makeH H).most = H.most ∧ (makeH H).props = H.props ∧ (makeH H).N = H.N ∧ (makeH H).M = H.M ∧ (makeH H).L = rootL H.M H.L 0 := by unfold makeH; rw [if_neg (by omega)]; exact ⟨rfl, rfl, rfl, rfl, rfl, rfl⟩
  obtain ⟨os4, m4, pr4, n4, M4, L4⟩ := e0
  have hl4 : (makeH H).os.length = H.os.length + 1 := by rw [os4]; simp
  refine ⟨col4, ⟨?_, ?_, ?_, ?_, ?_, ⟨by rw [q1 r hr]; exact o.1, fun b hb => ?_, fun b hb => ?_⟩, fun b hb => q4 b (Nat.le_trans ks.size hb)⟩, kk.mono (fun b _ e => by rcases e with rfl | e; rw [o.1]; decide; rw [(vlt _ e).2]; decide), q1⟩
  · rw [m4, pr4]; exact blk_set V3 0 _
  · rw [hl4, rowL_succ]
    exact row_keep hown (fun b hb => by
      simp [Value.ownBlock] at hb
      subst hb
      exact ks.block _ hgl gs)
  · rw [n4]
    exact row_keep p.tab (fun b hb => kk.block b (p.lt (by rw [o.2.2 b hb]; decide)) (kk1 b (by rw [o.2.2 b hb]; decide)))
  · rw [M4, L4]
    exact (p.fo.keep kk (fun b _ e => kk1 b (by rw [e]; decide))).mono (fun b hb e => by rw [q1 b (p.lt (by rw [e]; decide))]; exact e)
  · intro i y hy
    rw [os4] at hy
    rcases get_snoc hy with hy | ⟨rfl, rfl⟩
    · have hil := lt_of_get hy
      rw [upd_ne q _ (by omega)]
      obtain ⟨nv, vv, b1, b2⟩ := p.ob i y hy
      exact ⟨nv, vv, b1.keep (fun b hb => kk.block b (b1.lt hb) (kk1 b (by rw [b2 b hb]; omega))), fun b hb => (q1 b (b1.lt hb)).trans (b2 b hb)⟩
    · rw [upd_at]
      refine ⟨.slice none 0 0, .slice none 0 0, ⟨blk_keep bn ks (by omega), ⟨rfl, .inl ⟨rfl, rfl⟩⟩, ⟨rfl, .inl ⟨rfl, rfl⟩⟩⟩, fun b hb => ?_⟩
      rcases hb with rfl | hb | hb
      · exact q2
      · simp [Value.ownBlock] at hb
      · simp [Value.ownBlock] at hb
  · simp [Value.ownBlock] at hb
    subst hb
    exact cgg
  · rw [q1 b (p.lt (by rw [o.2.2 b hb]; decide))]; exact o.2.2 b hb
theorem elOb : Elem 72 87 1 8 := elem_of (z0 := .pointer none) (by kernel_rfl) (by kernel_rfl) rfl
set_option maxHeartbeats 4000000 in
theorem ymake_more (w : World) (p : RhM H r f v tv q col w) (W : WfH K H) (hm : H.os.length < H.most) :
    Calls Tryz.prog 35 #[.pointer (some ⟨r, 0, none⟩)] w fun e w' => e = .returned (.tuple #[.int .i64 ((H.os.length + 1 : Nat) : Int), .int .i64 0]) ∧ Chn (makeH H) r f col w w' := by
  have D2 := ((Below.refl w.heap.size w).drew).drew
  have HR := hid (rroot_calls w.drew.drew (p.on D2).fo W.wfs 0)
  have hlen : H.os.length ≤ 200 := by have := W.len; have := W.most; omega
  have hmost : H.most ≤ 200 := W.most
  obtain ⟨ao, cap, rfl⟩ := row_shape p.row
  obtain ⟨c0, c1, c2, c3, c4, hr⟩ := p.cells
  have HP := hid (p.on D2)
  have G0 := hid (Grew.below (P := fun u => u = 3) D2 p.top)
  clear p D2
  go_enter Tryz.func35, Tryz.ntmps35
  go_wp2_with fail
  refine wp_region_held_drew (S := fun aZ => aZ.cell? ⟨r, 0, none⟩ = some (.slice ao H.os.length cap) ∧ aZ.cell? ⟨r, 1, none⟩ = some (.int .i64 (H.most : Int))) (by kernel_rfl) ?_ (fun hHeld => ?_)
  · (refine ⟨?_, ?_⟩ <;> go_simp)
  refine tkk 0 ?_
  refine tkk 1 ?_
  refine tkk 2 ?_
  refine tkk 3 ?_
  refine tkk 4 ?_
  refine tkk 5 ?_
  refine tkk 6 ?_
  refine tkk 7 ?_
  refine tkk 8 ?_
  refine tkk 9 ?_
  refine wpAnyH_done (by kernel_rfl) ?_ _
  go_wp2_with fail
  refine wp_region_held_drew (S := fun aZ => aZ.cell? ⟨r, 3, none⟩ = some (.pointer (some ⟨f, 0, none⟩))) (by kernel_rfl) ?_ (fun hHeld => ?_)
  · go_simp
  refine tkk 0 ?_
  refine tkk 1 ?_
  refine tkk 2 ?_
  refine tkk 3 ?_
  refine tkk 5 ?_
  refine tkk 6 ?_
  refine tkk 7 ?_
  refine tkk 8 ?_
  refine wpAnyH_ready (rs := [4, 9]) (by kernel_rfl) (by simp) ?_
  refine AllReadyH.cons rfl (fun K hK => ?_) (AllReadyH.cons rfl (fun K hK => ?_) AllReadyH.nil)
  go_simp
  refine hK.out _ _ ?_ (fun _ => ?_)
  · (first | assumption | go_simp)
  clear hK K
  refine rdy 9 (fun K hK => ?_)
  go_simp
  refine HR.out.mono ?_
  rintro e1 w1 ⟨rfl, f1, k1, _⟩
  obtain ⟨col1, p1, g1⟩ := HP.out.wood k1 f1
  have P1 := hid p1
  have G1 := hid (G0.out.trans g1)
  obtain ⟨y0, y1, y2, y3, y4, hr1⟩ := p1.cells
  have RW := hid (row_keep (c := w1.alloc (Obj.cells #[.int .i64 0, .slice none 0 0, .slice none 0 0, .int .i64 0, .int .i64 (rootN H.M H.L 0 : Int)] 86)) p1.row (fun b hb => by
    obtain ⟨cur, hc⟩ := row_lt p1.row hb
    exact ((Below.refl w1.heap.size w1).alloc (Nat.le_refl _) (Obj.cells #[.int .i64 0, .slice none 0 0, .slice none 0 0, .int .i64 0, .int .i64 (rootN H.M H.L 0 : Int)] 86)).block b (blk_lt hc)))
  have hrn : r ≠ w1.heap.size := by omega
  have hrn1 : r ≠ w1.heap.size + 1 := by omega
  clear f1 k1 p1 g1 HR
  go_simp
  refine hK.out _ _ ?_ (fun _ => ?_)
  · (first | assumption | go_simp)
  clear hK K
  refine tkk 10 ?_
  refine rdy 11 (fun K hK => ?_)
  go_simp
  refine hK.out _ _ ?_ (fun _ => ?_)
  · (first | assumption | go_simp)
  clear hK K
  refine rdy 12 (fun K hK => ?_)
  go_simp
  refine hK.out _ _ ?_ (fun _ => ?_)
  · (first | assumption | go_simp)
  clear hK K
  rotate_left 1
  go_simp
  refine HR.out.mono ?_
  rintro e1 w1 ⟨rfl, f1, k1, _⟩
  obtain ⟨col1, p1, g1⟩ := HP.out.wood k1 f1
  have P1 := hid p1
  have G1 := hid (G0.out.trans g1)
  obtain ⟨y0, y1, y2, y3, y4, hr1⟩ := p1.cells
  have RW := hid (row_keep (c := w1.alloc (Obj.cells #[.int .i64 0, .slice none 0 0, .slice none 0 0, .int .i64 0, .int .i64 (rootN H.M H.L 0 : Int)] 86)) p1.row (fun b hb => by
    obtain ⟨cur, hc⟩ := row_lt p1.row hb
    exact ((Below.refl w1.heap.size w1).alloc (Nat.le_refl _) (Obj.cells #[.int .i64 0, .slice none 0 0, .slice none 0 0, .int .i64 0, .int .i64 (rootN H.M H.L 0 : Int)] 86)).block b (blk_lt hc)))
  have hrn : r ≠ w1.heap.size := by omega
  have hrn1 : r ≠ w1.heap.size + 1 := by omega
  clear f1 k1 p1 g1 HR
  go_simp
  refine hK.out _ _ ?_ (fun _ => ?_)
  · (first | assumption | go_simp)
  clear hK K
  refine tkk 10 ?_
  refine wpAnyH_ready (rs := [4, 11]) (by kernel_rfl) (by simp) ?_
  refine AllReadyH.cons rfl (fun K hK => ?_) (AllReadyH.cons rfl (fun K hK => ?_) AllReadyH.nil)
  go_simp
  refine hK.out _ _ ?_ (fun _ => ?_)
  · (first | assumption | go_simp)
  clear hK K
  refine rdy 11 (fun K hK => ?_)
  go_simp
  refine hK.out _ _ ?_ (fun _ => ?_)
  · (first | assumption | go_simp)
  clear hK K
  refine rdy 12 (fun K hK => ?_)
  go_simp
  refine hK.out _ _ ?_ (fun _ => ?_)
  · (first | assumption | go_simp)
  clear hK K
  rotate_left 1
  go_simp
  refine hK.out _ _ ?_ (fun _ => ?_)
  · (first | assumption | go_simp)
  clear hK K
  refine wpAnyH_ready (rs := [4, 12]) (by kernel_rfl) (by simp) ?_
  refine AllReadyH.cons rfl (fun K hK => ?_) (AllReadyH.cons rfl (fun K hK => ?_) AllReadyH.nil)
  go_simp
  refine hK.out _ _ ?_ (fun _ => ?_)
  · (first | assumption | go_simp)
  clear hK K
  refine rdy 12 (fun K hK => ?_)
  go_simp
  refine hK.out _ _ ?_ (fun _ => ?_)
  · (first | assumption | go_simp)
  clear hK K
  rotate_left 1
  go_simp
  refine hK.out _ _ ?_ (fun _ => ?_)
  · (first | assumption | go_simp)
  clear hK K
  refine rdy 4 (fun K hK => ?_)
  go_simp
  refine hK.out _ _ ?_ (fun _ => ?_)
  · (first | assumption | go_simp)
  clear hK K
  rotate_left 1
  all_goals
    refine rdy 13 (fun K hK => ?_)
    refine row_app_step elOb (by decide) (by decide) rfl _ _ rfl H.os.length (rowL q H.os.length) [.pointer (some ⟨w1.heap.size, 0, none⟩)] rfl (by intro u hu; simp at hu; subst hu; rfl) (.slice ao H.os.length cap) (by rfl) RW.out (w1.heap.size + 1) (by rfl) (by simp) (by omega) (.inl rfl) ?_
    intro gg cp w3 hown hgrow hat
    obtain ⟨v1, col4, p4, k4, o4⟩ := P1.out.make (w3 := w3) (gg := gg) (cp := cp) hm hown hgrow hat
    have x1 : w3.cell? ⟨r, 3, none⟩ = some (.pointer (some ⟨f, 0, none⟩)) := by rw [blk_cell v1]; rfl
    have x2 : w3.cell? ⟨r, 0, none⟩ = some (.slice ao H.os.length cap) := by rw [blk_cell v1]; rfl
    have x3 : w3.frozen? ⟨r, 0, none⟩ = false := blk_free v1 0
    have hr3 := blk_lt v1
    have R := hid (show Chn (makeH H) r f col w (w3.setCell ⟨r, 0, none⟩ (.slice (some ⟨gg, 0, none⟩) (H.os.length + 1) cp)) from ⟨_, _, _, col4, p4, (G1.out.keep.mono (fun b _ e => by omega)).trans k4 (fun b hb e => by rw [← G1.out.old b hb]; exact e), fun b hb => (o4 b (Nat.lt_of_lt_of_le hb G1.out.keep.size)).trans (G1.out.old b hb)⟩)
    refine hK.out _ _ x1 (fun _ => ?_)
    clear hK K hown hgrow hat v1 p4 k4 o4
    simp only [Act.put, List.setIfInBounds_toArray, List.set_cons_zero, List.set_cons_succ, List.getElem_toArray, List.getElem_cons_succ, List.getElem_cons_zero]
    refine tkk 14 ?_
    refine tkk 15 ?_
    refine rdy 16 (fun K hK => ?_)
    go_simp
    refine hK.out _ _ ?_ (fun _ => ?_)
    · (first | assumption | go_simp)
    clear hK K
    refine wpAnyH_done (by kernel_rfl) ?_ _
    go_wp2_with fail
    go_ret2
    exact ⟨rfl, R.out⟩
theorem ymake_calls (w : World) (p : RhM H r f v tv q col w) (W : WfH K H) :
    Calls Tryz.prog 35 #[.pointer (some ⟨r, 0, none⟩)] w fun e w' => e = .returned (.tuple #[.int .i64 (makeN H : Int), .int .i64 (makeE H)]) ∧ Chn (makeH H) r f col w w' := by
  by_cases hm : H.most ≤ H.os.length
  · rw [show makeN H = 0 by unfold makeN; rw [if_pos hm], show makeE H = 40 by unfold makeE; rw [if_pos hm], show makeH H = H by unfold makeH; rw [if_pos hm]]
    have D := (Below.refl w.heap.size w).drew
    have R := hid (chn_of (P := fun u => u = 1) (p.on D) (Grew.below D p.top) (fun u e => by omega))
    have hmost : H.most ≤ 200 := W.most
    obtain ⟨ao, cap, rfl⟩ := row_shape p.row
    obtain ⟨c0, c1, c2, c3, c4, hr⟩ := p.cells
    clear p D
    go_enter Tryz.func35, Tryz.ntmps35
    go_wp2_with fail
    refine wp_region_held_drew (S := fun aZ => aZ.cell? ⟨r, 0, none⟩ = some (.slice ao H.os.length cap) ∧ aZ.cell? ⟨r, 1, none⟩ = some (.int .i64 (H.most : Int))) (by kernel_rfl) ?_ (fun hHeld => ?_)
    · (refine ⟨?_, ?_⟩ <;> go_simp)
    refine tkk 0 ?_
    refine tkk 1 ?_
    refine tkk 2 ?_
    refine tkk 3 ?_
    refine tkk 4 ?_
    refine tkk 5 ?_
    refine tkk 6 ?_
    refine tkk 7 ?_
    refine tkk 8 ?_
    refine tkk 9 ?_
    refine wpAnyH_done (by kernel_rfl) ?_ _
    go_wp2_with fail
    go_ret2
    exact ⟨rfl, R.out⟩
  · rw [show makeN H = H.os.length + 1 by unfold makeN; rw [if_neg hm], show makeE H = 0 by unfold makeE; rw [if_neg hm]]
    exact ymake_more w p W (by omega)
end
theorem ycut_calls (w : World) (n m : Int) (hm : 0 ≤ m) : Calls Tryz.prog 33 #[.int .i64 n, .int .i64 m] w fun e w' => e = .returned (.int .i64 (((min (max n 0) m).toNat : Nat) : Int)) ∧ w' = w := by
  rcases Int.lt_or_le n 0 with h1 | h1
  · rw [show (((min (max n 0) m).toNat : Nat) : Int) = 0 by omega]
    go_enter Tryz.func33, Tryz.ntmps33
    go_wp2_with fail
    go_ret
    exact ⟨rfl, rfl⟩
  · have d1 : decide (n < 0) = false := decide_eq_false (by omega)
    rcases Int.lt_or_le m n with h2 | h2
    · rw [show (((min (max n 0) m).toNat : Nat) : Int) = m by omega]
      clear h1
      go_enter Tryz.func33, Tryz.ntmps33
      go_wp2_with fail
      go_ret
      exact ⟨rfl, rfl⟩
    · have d2 : decide (m < n) = false := decide_eq_false (by omega)
      rw [show (((min (max n 0) m).toNat : Nat) : Int) = n by omega]
      clear h1 h2
      go_enter Tryz.func33, Tryz.ntmps33
      go_wp2_with fail
      go_ret
      exact ⟨rfl, rfl⟩
theorem rh_new (W : World) (x y : Nat) (k : Int) {n : Nat} (hn : W.heap.size = n) (H : He) (hH : H = ⟨x, y, mostS k, [], [], []⟩) :
    ∃ v tv q col, RhM H (n + 1) n v tv q col ((W.alloc (.cells #[.slice none 0 0, .int .i64 (mostS k : Int)] 123)).alloc (.cells #[.slice none 0 0, .int .i64 (x : Int), .int .i64 (y : Int), .pointer (some ⟨n, 0, none⟩), .slice none 0 0] 76)) ∧ (∀ b, col b ≠ 0 → W.heap.size ≤ b) ∧
      Below W.heap.size W ((W.alloc (.cells #[.slice none 0 0, .int .i64 (mostS k : Int)] 123)).alloc (.cells #[.slice none 0 0, .int .i64 (x : Int), .int .i64 (y : Int), .pointer (some ⟨n, 0, none⟩), .slice none 0 0] 76)) := by
  subst hn hH
  have a1 := (Below.refl W.heap.size W).alloc (Nat.le_refl _) (.cells #[.slice none 0 0, .int .i64 (mostS k : Int)] 123)
  have b2 := blk_new (W.alloc (.cells #[.slice none 0 0, .int .i64 (mostS k : Int)] 123)) 76 #[.slice none 0 0, .int .i64 (x : Int), .int .i64 (y : Int), .pointer (some ⟨W.heap.size, 0, none⟩), .slice none 0 0]
  simp only [World.size_alloc] at b2
  have b3 := (Below.refl (W.alloc (.cells #[.slice none 0 0, .int .i64 (mostS k : Int)] 123)).heap.size (W.alloc (.cells #[.slice none 0 0, .int .i64 (mostS k : Int)] 123))).alloc (Nat.le_refl _) (.cells #[.slice none 0 0, .int .i64 (x : Int), .int .i64 (y : Int), .pointer (some ⟨W.heap.size, 0, none⟩), .slice none 0 0] 76)
  refine ⟨.slice none 0 0, .slice none 0 0, fun _ => 0, fun b => if b = W.heap.size + 1 then 1 else if b = W.heap.size then 3 else 0, ⟨b2, ⟨rfl, .inl ⟨rfl, rfl⟩⟩, ⟨rfl, .inl ⟨rfl, rfl⟩⟩, ?_, fun i x hi => by simp at hi, ⟨by simp, fun b hb => by simp [Value.ownBlock] at hb, fun b hb => by simp [Value.ownBlock] at hb⟩, fun b hb => ?_⟩, fun b hb => ?_, a1.alloc (by simp) _⟩
  · refine ((rf_new W (mostS k)).mono (T := fun b => (if b = W.heap.size + 1 then 1 else if b = W.heap.size then 3 else 0) = 3) (fun b hb e => ?_)).on b3
    simp at hb
    have : b = W.heap.size := by omega
    simp [this]
  · simp at hb
    rw [if_neg (by omega), if_neg (by omega)]
  · by_cases h1 : b = W.heap.size + 1
    · omega
    · by_cases h2 : b = W.heap.size
      · omega
      · simp [h1, h2] at hb
set_option maxHeartbeats 1000000 in
theorem ynew_calls (w : World) (a d b s k : Int) : Calls Tryz.prog 10 #[.agg #[.int .i64 a, .int .i64 d, .int .i64 b, .int .i64 s], .int .i64 k] w fun e w' => ∃ r, e = .returned (.pointer (some ⟨r, 0, none⟩)) ∧ (∃ f v tv q col, RhM (newH a b k) r f v tv q col w' ∧ ∀ y, col y ≠ 0 → w.heap.size ≤ y) ∧ Below w.heap.size w w' := by
  have A := ((Below.refl w.heap.size w).alloc (Nat.le_refl _) (Obj.cells #[.int .i64 a, .int .i64 d, .int .i64 b, .int .i64 s] 23)).drew
  have HA := hid A
  clear A
  obtain ⟨X, hX⟩ : ∃ X : Nat, X = (min (max a 0) 200).toNat := ⟨_, rfl⟩
  obtain ⟨Y, hY⟩ : ∃ Y : Nat, Y = (min (max b 0) 32).toNat := ⟨_, rfl⟩
  have C1 : Hid (∀ W : World, Calls Tryz.prog 33 #[.int .i64 a, .int .i64 200] W fun e w' => e = .returned (.int .i64 (X : Int)) ∧ w' = W) := hid (fun W => by rw [hX]; exact ycut_calls W a 200 (by omega))
  have C2 : Hid (∀ W : World, Calls Tryz.prog 33 #[.int .i64 b, .int .i64 32] W fun e w' => e = .returned (.int .i64 (Y : Int)) ∧ w' = W) := hid (fun W => by rw [hY]; exact ycut_calls W b 32 (by omega))
  have HN := hid (show newH a b k = ⟨X, Y, mostS k, [], [], []⟩ by rw [hX, hY]; rfl)
  clear hX hY
  have H0 := hid (rnew_calls (w.alloc (Obj.cells #[.int .i64 a, .int .i64 d, .int .i64 b, .int .i64 s] 23)).drew k)
  go_enter Tryz.func10, Tryz.ntmps10
  go_wp2_with fail
  refine wp_region_held_drew (S := fun aZ => aZ.cell? ⟨w.heap.size, 0, none⟩ = some (.int .i64 a) ∧ aZ.cell? ⟨w.heap.size, 2, none⟩ = some (.int .i64 b)) (by kernel_rfl) ?_ (fun hHeld => ?_)
  · (refine ⟨?_, ?_⟩ <;> go_simp)
  refine tkk 0 ?_
  refine tkk 1 ?_
  refine tkk 3 ?_
  refine tkk 4 ?_
  refine tkk 6 ?_
  refine rdy 2 (fun K hK => ?_)
  go_simp
  refine (C1.out _).mono ?_
  rintro e1 w1 ⟨rfl, rfl⟩
  go_simp
  refine hK.out _ _ ?_ (fun _ => ?_)
  · (refine ⟨?_, ?_⟩ <;> (first | assumption | go_simp))
  clear hK K
  refine rdy 5 (fun K hK => ?_)
  go_simp
  refine (C2.out _).mono ?_
  rintro e1 w1 ⟨rfl, rfl⟩
  go_simp
  refine hK.out _ _ ?_ (fun _ => ?_)
  · (refine ⟨?_, ?_⟩ <;> (first | assumption | go_simp))
  clear hK K
  refine rdy 7 (fun K hK => ?_)
  go_simp
  refine H0.out.mono ?_
  rintro e1 w1 ⟨rfl, rfl⟩
  go_simp
  refine hK.out _ _ ?_ (fun _ => ?_)
  · (refine ⟨?_, ?_⟩ <;> (first | assumption | go_simp))
  clear hK K
  refine tkk 8 ?_
  refine rdy 9 (fun K hK => ?_)
  go_simp
  refine hK.out _ _ ?_ (fun _ => ?_)
  · (refine ⟨?_, ?_⟩ <;> (first | assumption | go_simp))
  clear hK K
  refine tkk 10 ?_
  refine wpAnyH_done (by kernel_rfl) ?_ _
  go_wp2_with fail
  go_ret
  obtain ⟨v, tv, q, col, h1, h2, h3⟩ := rh_new (w.alloc (Obj.cells #[.int .i64 a, .int .i64 d, .int .i64 b, .int .i64 s] 23)).drew X Y k (n := w.heap.size + 1) (by simp) (newH a b k) HN.out
  exact ⟨_, rfl, ⟨_, v, tv, q, col, h1, fun y hy => Nat.le_trans HA.out.size (h2 y hy)⟩, below_on HA.out h3⟩
end Go.Proofs.YtemidicgipebjaaGreat
