/- Make: an object more. -/
import Derived.Test.YtimhgbcanmgajaaGreatJoint2
import Derived.Test.YtimhgbcanmgajaaGreatHpMake
namespace Go.Proofs.YtimhgbcanmgajaaGreat
set_option linter.unusedSimpArgs false
set_option maxRecDepth 100000
open Go.RowKit

/-- an object more, in memory -/
theorem HpAt.make {K : Nat} {H : He} {h s c n f qi gg cp : Nat} {v : Value} {g q col col1 : Nat → Nat} {x' : Ob} {w w1 w3 : World} (p : HpAt K H h s c n f v g q col w) (hm : H.os.length < H.most)
    (C : Cls { H with L := rootL H.M H.L 0 } c n f col1 w1) (k : KeptO K c x' qi (fun b => col1 b = 4 + H.os.length) w1) (G : Grew (fun u => u = 2 ∨ u = 3 ∨ u = 4 + H.os.length) col col1 w w1) (hx : x' = ⟨0, [], 0, rootN H.M H.L 0⟩)
    (hown : w3.ownsRow 0 120 1 (.slice (some ⟨gg, 0, none⟩) (H.os.length + 1) cp) (H.os.length + 1) (rowL g H.os.length ++ [.pointer (some ⟨w1.heap.size, 0, none⟩)]))
    (hgrow : (w1.alloc (Obj.cells #[ivO x' qi, .int .i64 0] 135)).grownBy w3 v.ownBlock) (hat : v.ownBlock = some gg ∨ (w1.alloc (Obj.cells #[ivO x' qi, .int .i64 0] 135)).heap.size ≤ gg) :
    Blk s 81 #[.int .i64 (H.most : Int), .int .i64 (H.props : Int), .pointer (some ⟨c, 0, none⟩), v] w3 ∧ w3.cell? ⟨h, 0, none⟩ = some (.pointer (some ⟨s, 0, none⟩)) ∧
    ∃ col4 : Nat → Nat, HpAt K (makeH H) h s c n f (.slice (some ⟨gg, 0, none⟩) (H.os.length + 1) cp) (upd g H.os.length w1.heap.size) (upd q H.os.length qi) col4 (w3.setCell ⟨s, 3, none⟩ (.slice (some ⟨gg, 0, none⟩) (H.os.length + 1) cp)) ∧
      Keep (fun b => col b ≠ 0) w (w3.setCell ⟨s, 3, none⟩ (.slice (some ⟨gg, 0, none⟩) (H.os.length + 1) cp)) ∧ ∀ b, b < w.heap.size → col4 b = col b := by
  have o := p.one
  have hlt : ∀ y, col y ≠ 0 → y < w.heap.size := fun y hy => Nat.lt_of_not_le (fun h => hy (p.top y h))
  have hz1 := G.keep.size
  have n1 : ∀ y, col y = 1 → y < w.heap.size ∧ ¬ (col y = 2 ∨ col y = 3 ∨ col y = 4 + H.os.length) ∧ col1 y = 1 := fun y e => ⟨hlt y (by omega), by omega, by rw [G.old y (hlt y (by omega))]; exact e⟩
  have a1 := (Below.refl w1.heap.size w1).alloc (Nat.le_refl _) (Obj.cells #[ivO x' qi, .int .i64 0] 135)
  have hz2 : w1.heap.size + 1 ≤ w3.heap.size := by have := hgrow.size; simpa using this
  have vlt : ∀ b, v.ownBlock = some b → b < w.heap.size ∧ col b = 1 := fun b hb => ⟨(n1 b (o.2.2.2 b hb)).1, o.2.2.2 b hb⟩
  have fr : ∀ b, b < w1.heap.size → v.ownBlock ≠ some b → w3.heap[b]? = w1.heap[b]? := fun b hb hne => (hgrow.block b (by simp; omega) (fun e => hne e.symm)).trans (a1.block b hb)
  have bn : Blk w1.heap.size 135 #[ivO x' qi, .int .i64 0] w3 := (hgrow.block w1.heap.size (by simp) (fun e => by have := (vlt _ e.symm).1; omega)).trans (blk_new _ _ _)
  have W := blk_keep p.bh G.keep (n1 _ o.1).2.1
  have V := blk_keep p.bs G.keep (n1 _ o.2.1).2.1
  have R := row_keep p.row (fun b hb => G.keep.block b (n1 _ (o.2.2.2 b hb)).1 (n1 _ (o.2.2.2 b hb)).2.1)
  have tyv : ∀ b (T : TypeId) (cs : Array Value), Blk b T cs w1 → T ≠ 120 → v.ownBlock ≠ some b := fun b T cs hb hT e => by
    obtain ⟨cur, hc⟩ := row_lt R e
    exact hT (blk_type hb hc)
  have W3 : Blk h 83 #[.pointer (some ⟨s, 0, none⟩)] w3 := (fr h (blk_lt W) (tyv _ _ _ W (by decide))).trans W
  have V3 : Blk s 81 #[.int .i64 (H.most : Int), .int .i64 (H.props : Int), .pointer (some ⟨c, 0, none⟩), v] w3 := (fr s (blk_lt V) (tyv _ _ _ V (by decide))).trans V
  refine ⟨V3, by rw [blk_cell W3]; rfl, ?_⟩
  have ks := Keep.set (S := fun b => b = s) rfl w3 3 (.slice (some ⟨gg, 0, none⟩) (H.os.length + 1) cp)
  obtain ⟨cur, hcur⟩ := row_lt hown (g := gg) rfl
  have gs : gg ≠ s := fun e => absurd (blk_type hcur (e ▸ V3)) (by decide)
  have gb : gg ≠ w1.heap.size := fun e => absurd (blk_type hcur (e ▸ bn)) (by decide)
  have hgl := blk_lt hcur
  have c4 : ∃ col4 : Nat → Nat, (∀ b, b < w1.heap.size → col4 b = col1 b) ∧ col4 w1.heap.size = 1 ∧ (w1.heap.size ≤ gg → col4 gg = 1) ∧ ∀ b, w3.heap.size ≤ b → col4 b = 0 := by
    refine ⟨fun b => if b < w1.heap.size then col1 b else if b = w1.heap.size ∨ b = gg then 1 else 0, fun b hb => by simp [hb], by simp, fun hg => (by simp [show ¬ gg < w1.heap.size by omega]), fun b hb => ?_⟩
    have h1 : ¬ b < w1.heap.size := by omega
    have h2 : ¬ (b = w1.heap.size ∨ b = gg) := by omega
    simp [h1, h2]
  obtain ⟨col4, q1, q2, q3, q4⟩ := c4
  have cgg : col4 gg = 1 := by
    rcases hat with e | e
    · have := vlt _ e
      rw [q1 gg (by omega), (n1 gg this.2).2.2]
    · exact q3 (by simp at e; omega)
  have kk : Keep (fun b => b = s ∨ v.ownBlock = some b) w1 (w3.setCell ⟨s, 3, none⟩ (.slice (some ⟨gg, 0, none⟩) (H.os.length + 1) cp)) :=
    ⟨hgrow.os, hgrow.tape, hgrow.output, by have := ks.size; omega, fun b hb hn => (ks.block b (by omega) (fun e => hn (.inl e))).trans (fr b hb (fun e => hn (.inr e)))⟩
  have kk1 : ∀ b, b < w1.heap.size → col1 b ≠ 1 → ¬ (b = s ∨ v.ownBlock = some b) := fun b hb hc => by
    rintro (rfl | e)
    · exact hc (n1 _ o.2.1).2.2
    · exact hc (n1 _ (vlt _ e).2).2.2
  have os4 : (makeH H).os = H.os ++ [x'] := by unfold makeH; rw [if_neg (by omega), hx]
  have hl4 : (makeH H).os.length = H.os.length + 1 := by rw [os4]; simp
  have k4 : Keep (fun b => col b ≠ 0) w (w3.setCell ⟨s, 3, none⟩ (.slice (some ⟨gg, 0, none⟩) (H.os.length + 1) cp)) :=
    (G.keep.mono (fun b _ e => by rcases e with e | e | e <;> omega)).trans kk (fun b hb e => by
      rcases e with rfl | e
      · rw [o.2.1]; decide
      · rw [(vlt _ e).2]; decide)
  have nh : h ≠ s := fun e => absurd (blk_type (e ▸ W) V) (by decide)
  have nc : c ≠ s := fun e => absurd (blk_type (e ▸ C.blk) V) (by decide)
  refine ⟨col4, ⟨make_wf p.wf, blk_keep W3 ks nh, ?_, ?_, ?_, ?_, ?_, ⟨?_, ?_, ?_, ?_⟩, fun b hb => q4 b (Nat.le_trans ks.size hb)⟩, k4, fun b hb => (q1 b (by omega)).trans (G.old b hb)⟩
  · have e1 : (makeH H).most = H.most := by unfold makeH; rw [if_neg (by omega)]
    have e2 : (makeH H).props = H.props := by unfold makeH; rw [if_neg (by omega)]
    rw [e1, e2]
    exact blk_set V3 3 _
  · rw [hl4, rowL_succ]
    exact row_keep hown (fun b hb => by
      simp [Value.ownBlock] at hb
      subst hb
      exact ks.block _ hgl gs)
  · have e1 : (makeH H).N = H.N ∧ (makeH H).L = rootL H.M H.L 0 ∧ (makeH H).M = H.M := by unfold makeH; rw [if_neg (by omega)]; exact ⟨rfl, rfl, rfl⟩
    have C4 := (C.mono (col' := col4) q1).keep kk (by
      rintro (e | e)
      · exact nc e
      · exact tyv _ _ _ C.blk (by decide) e) (fun y hy e => kk1 y hy (by rw [q1 y hy] at e; omega))
    exact ⟨C4.blk, by rw [e1.1]; exact C4.nm, by rw [e1.2.1, e1.2.2]; exact C4.fo⟩
  · intro i y hy
    rw [os4] at hy
    rcases get_snoc hy with hy | ⟨rfl, rfl⟩
    · have hil := lt_of_get hy
      rw [upd_ne g _ (by omega), upd_ne q _ (by omega)]
      obtain ⟨b1, b2, b3⟩ := p.ob i y hy
      have b1' := blk_keep b1 G.keep (n1 _ b3).2.1
      have b2' := (b2.grew G (by omega)).mono (T := fun b => col4 b = 4 + i) (fun b hb e => (q1 b hb).trans e) (Nat.le_refl K)
      refine ⟨blk_keep b1' kk ?_, b2'.keep kk (fun b hb e => kk1 b hb (by rw [q1 b hb] at e; omega)), by rw [q1 _ (blk_lt b1')]; exact (n1 _ b3).2.2⟩
      rintro (e | e)
      · exact absurd (blk_type (e ▸ b1') V) (by decide)
      · exact tyv _ _ _ b1' (by decide) e
    · rw [upd_at, upd_at]
      have ns : w1.heap.size ≠ s := fun e => by have := blk_lt V; omega
      have k' := (k.mono (T := fun b => col4 b = 4 + H.os.length) (fun b hb e => (q1 b hb).trans e) (Nat.le_refl K)).keep kk (fun b hb e => kk1 b hb (by rw [q1 b hb] at e; omega))
      refine ⟨?_, k', q2⟩
      have := blk_keep bn ks ns
      rw [hx] at this ⊢
      exact this
  · rw [hl4]
    intro i j hi hj e
    have hb : ∀ i, i < H.os.length → g i ≠ w1.heap.size := fun i hi e => by
      obtain ⟨y0, hy0⟩ : ∃ y0, H.os[i]? = some y0 := ⟨H.os[i], List.getElem?_eq_getElem hi⟩
      have := blk_lt (p.ob i y0 hy0).1
      omega
    by_cases h1 : i = H.os.length
    · by_cases h2 : j = H.os.length
      · omega
      · rw [h1, upd_at, upd_ne g _ h2] at e
        exact absurd e.symm (hb j (by omega))
    · by_cases h2 : j = H.os.length
      · rw [h2, upd_at, upd_ne g _ h1] at e
        exact absurd e (hb i (by omega))
      · rw [upd_ne g _ h1, upd_ne g _ h2] at e
        exact p.gi i j (by omega) (by omega) e
  · rw [q1 _ (by have := (n1 _ o.1).1; omega)]; exact (n1 _ o.1).2.2
  · rw [q1 _ (by have := (n1 _ o.2.1).1; omega)]; exact (n1 _ o.2.1).2.2
  · rw [q1 _ (by have := (n1 _ o.2.2.1).1; omega)]; exact (n1 _ o.2.2.1).2.2
  · intro b hb
    simp [Value.ownBlock] at hb
    subst hb
    exact cgg

theorem elNu : Elem 79 120 1 8 := elem_of (z0 := .pointer none) (by kernel_rfl) (by kernel_rfl) rfl
set_option maxHeartbeats 4000000 in
theorem hmake_more {S : Nat → Prop} {J : Nat} {H : He} {h s c n f : Nat} {v : Value} {g q col : Nat → Nat} (w : World) (p : HpAt J H h s c n f v g q col w) (hS : ∀ b, col b ≠ 0 → S b) (hm : H.os.length < H.most) :
    Calls Tryz.prog 18 #[.pointer (some ⟨h, 0, none⟩)] w fun e w' => e = .returned (.tuple #[.int .i64 ((H.os.length + 1 : Nat) : Int), .int .i64 0]) ∧ HpZ (Up S w) J h s (makeH H) w' ∧ Keep S w w' := by
  have HM := hid (hmade_calls (S := S) w ⟨s, c, n, f, v, g, q, col, p, hS⟩)
  have D := (Below.refl w.heap.size w).drew
  have HL := hid (hlen_calls (S := S) w.drew ⟨s, c, n, f, v, g, q, col, p.on D, hS⟩)
  have D2 := D.drew
  have pD := p.on D2
  have HE := hid (cempty_calls (K := J) (t := 4 + H.os.length) w.drew.drew pD.cls pD.one.2.2.1 pD.top (by omega))
  obtain ⟨c0, c1, _, c2, c3, hh, hs⟩ := p.cells
  have o1 := p.one.1
  have o2 := p.one.2.1
  have hlen : H.os.length ≤ 200 := by have := p.wf.len; have := p.wf.most; omega
  have hmost : H.most ≤ 200 := p.wf.most
  have HP := hid pD
  have HS := hid hS
  obtain ⟨ao, cap, rfl⟩ := row_shape p.row
  clear p D D2 pD hS
  go_enter Tryz.func18, Tryz.ntmps18
  go_wp2_with fail
  refine HM.out.mono ?_
  rintro e0 w0 ⟨rfl, rfl⟩
  go_wp2_with fail
  refine wp_region_held_drew (S := fun aZ => aZ.cell? ⟨h, 0, none⟩ = some (.pointer (some ⟨s, 0, none⟩)) ∧ aZ.cell? ⟨s, 0, none⟩ = some (.int .i64 (H.most : Int))) (by kernel_rfl) ?_ (fun hHeld => ?_)
  · (refine ⟨?_, ?_⟩ <;> go_simp)
  refine tkk 0 ?_
  refine tkk 2 ?_
  refine tkk 3 ?_
  refine tkk 4 ?_
  refine tkk 5 ?_
  refine tkk 6 ?_
  refine tkk 7 ?_
  refine tkk 8 ?_
  refine rdy 1 (fun K hK => ?_)
  go_simp
  refine HL.out.mono ?_
  rintro e0 w2 ⟨rfl, rfl⟩
  go_simp
  refine hK.out _ _ ?_ (fun _ => ?_)
  · (refine ⟨?_, ?_⟩ <;> (first | assumption | go_simp))
  clear hK K
  refine tkk 9 ?_
  refine wpAnyH_done (by kernel_rfl) ?_ _
  go_wp2_with fail
  clear HL HM
  refine wp_region_held_drew (S := fun aZ => aZ.cell? ⟨h, 0, none⟩ = some (.pointer (some ⟨s, 0, none⟩)) ∧ aZ.cell? ⟨s, 2, none⟩ = some (.pointer (some ⟨c, 0, none⟩))) (by kernel_rfl) ?_ (fun hHeld => ?_)
  · (refine ⟨?_, ?_⟩ <;> go_simp)
  refine tkk 0 ?_
  refine tkk 1 ?_
  refine tkk 2 ?_
  refine tkk 3 ?_
  refine tkk 4 ?_
  refine tkk 5 ?_
  refine tkk 6 ?_
  refine tkk 7 ?_
  refine tkk 8 ?_
  refine tkk 9 ?_
  refine tkk 11 ?_
  refine tkk 12 ?_
  refine tkk 13 ?_
  refine tkk 14 ?_
  refine tkk 15 ?_
  refine tkk 16 ?_
  refine tkk 17 ?_
  refine wpAnyH_ready (rs := [10, 18]) (by kernel_rfl) (by simp) ?_
  refine AllReadyH.cons rfl (fun K hK => ?_) (AllReadyH.cons rfl (fun K hK => ?_) AllReadyH.nil)
  go_simp
  refine hK.out _ _ ?_ (fun _ => ?_)
  · (refine ⟨?_, ?_⟩ <;> (first | assumption | go_simp))
  clear hK K
  refine rdy 18 (fun K hK => ?_)
  go_simp
  refine HE.out.mono ?_
  rintro e1 w1 ⟨qi, col1, rfl, C1, k1, G1⟩
  obtain ⟨T, hT⟩ := ivO_iface ⟨0, [], 0, rootN H.M H.L 0⟩ qi
  rw [hT]
  have HC1 := hid C1
  have HK1 := hid k1
  have HG1 := hid G1
  have HTT := hid hT
  have y0 := hcell_keep (c := w1) (a := w0.drew.drew) c0 hh G1.keep (by rw [o1]; omega)
  have y1 := hcell_keep (c := w1) (a := w0.drew.drew) c2 hs G1.keep (by rw [o2]; omega)
  have y3 := hcell_keep (c := w1) (a := w0.drew.drew) c3 hs G1.keep (by rw [o2]; omega)
  have hs1 := Nat.lt_of_lt_of_le (show s < w0.drew.drew.heap.size from hs) G1.keep.size
  have hh1 := Nat.lt_of_lt_of_le (show h < w0.drew.drew.heap.size from hh) G1.keep.size
  have hsn : s ≠ w1.heap.size := by omega
  have hhn : h ≠ w1.heap.size := by omega
  have hsn1 : s ≠ w1.heap.size + 1 := by omega
  have hhn1 : h ≠ w1.heap.size + 1 := by omega
  clear C1 k1 G1 HE hT
  go_simp
  refine hK.out _ _ ?_ (fun _ => ?_)
  · (refine ⟨?_, ?_⟩ <;> (first | assumption | go_simp))
  clear hK K
  have HEND := hid (fun gg cp w3 (a1 : World.ownsRow w3 0 _ 1 (.slice (some ⟨gg, 0, none⟩) (H.os.length + 1) cp) (H.os.length + 1) _) a2 a3 => HP.out.make (w3 := w3) (gg := gg) (cp := cp) hm HC1.out HK1.out HG1.out rfl a1 a2 a3)
  rw [HTT.out] at HEND
  have RW := hid (row_keep (c := w1.alloc (Obj.cells #[.iface T (.pointer (some ⟨qi, 0, none⟩)), .int .i64 0] 135)) HP.out.row (fun b hb => by
    have hb1 := HP.out.one.2.2.2 b hb
    obtain ⟨cur, hc⟩ := row_lt HP.out.row hb
    have e1 := HG1.out.keep.block b (blk_lt hc) (by rw [hb1]; omega)
    exact (((Below.refl w1.heap.size w1).alloc (Nat.le_refl _) (Obj.cells #[.iface T (.pointer (some ⟨qi, 0, none⟩)), .int .i64 0] 135)).block b (Nat.lt_of_lt_of_le (blk_lt hc) HG1.out.keep.size)).trans e1))
  refine tkk 19 ?_
  refine rdy 20 (fun K hK => ?_)
  go_simp
  refine hK.out _ _ ?_ (fun _ => ?_)
  · (refine ⟨?_, ?_⟩ <;> (first | assumption | go_simp))
  clear hK K
  refine rdy 21 (fun K hK => ?_)
  go_simp
  refine hK.out _ _ ?_ (fun _ => ?_)
  · (refine ⟨?_, ?_⟩ <;> (first | assumption | go_simp))
  clear hK K
  rotate_left 1
  go_simp
  refine HE.out.mono ?_
  rintro e1 w1 ⟨qi, col1, rfl, C1, k1, G1⟩
  obtain ⟨T, hT⟩ := ivO_iface ⟨0, [], 0, rootN H.M H.L 0⟩ qi
  rw [hT]
  have HC1 := hid C1
  have HK1 := hid k1
  have HG1 := hid G1
  have HTT := hid hT
  have y0 := hcell_keep (c := w1) (a := w0.drew.drew) c0 hh G1.keep (by rw [o1]; omega)
  have y1 := hcell_keep (c := w1) (a := w0.drew.drew) c2 hs G1.keep (by rw [o2]; omega)
  have y3 := hcell_keep (c := w1) (a := w0.drew.drew) c3 hs G1.keep (by rw [o2]; omega)
  have hs1 := Nat.lt_of_lt_of_le (show s < w0.drew.drew.heap.size from hs) G1.keep.size
  have hh1 := Nat.lt_of_lt_of_le (show h < w0.drew.drew.heap.size from hh) G1.keep.size
  have hsn : s ≠ w1.heap.size := by omega
  have hhn : h ≠ w1.heap.size := by omega
  have hsn1 : s ≠ w1.heap.size + 1 := by omega
  have hhn1 : h ≠ w1.heap.size + 1 := by omega
  clear C1 k1 G1 HE hT
  go_simp
  refine hK.out _ _ ?_ (fun _ => ?_)
  · (refine ⟨?_, ?_⟩ <;> (first | assumption | go_simp))
  clear hK K
  have HEND := hid (fun gg cp w3 (a1 : World.ownsRow w3 0 _ 1 (.slice (some ⟨gg, 0, none⟩) (H.os.length + 1) cp) (H.os.length + 1) _) a2 a3 => HP.out.make (w3 := w3) (gg := gg) (cp := cp) hm HC1.out HK1.out HG1.out rfl a1 a2 a3)
  rw [HTT.out] at HEND
  have RW := hid (row_keep (c := w1.alloc (Obj.cells #[.iface T (.pointer (some ⟨qi, 0, none⟩)), .int .i64 0] 135)) HP.out.row (fun b hb => by
    have hb1 := HP.out.one.2.2.2 b hb
    obtain ⟨cur, hc⟩ := row_lt HP.out.row hb
    have e1 := HG1.out.keep.block b (blk_lt hc) (by rw [hb1]; omega)
    exact (((Below.refl w1.heap.size w1).alloc (Nat.le_refl _) (Obj.cells #[.iface T (.pointer (some ⟨qi, 0, none⟩)), .int .i64 0] 135)).block b (Nat.lt_of_lt_of_le (blk_lt hc) HG1.out.keep.size)).trans e1))
  refine tkk 19 ?_
  refine wpAnyH_ready (rs := [10, 20]) (by kernel_rfl) (by simp) ?_
  refine AllReadyH.cons rfl (fun K hK => ?_) (AllReadyH.cons rfl (fun K hK => ?_) AllReadyH.nil)
  go_simp
  refine hK.out _ _ ?_ (fun _ => ?_)
  · (refine ⟨?_, ?_⟩ <;> (first | assumption | go_simp))
  clear hK K
  refine rdy 20 (fun K hK => ?_)
  go_simp
  refine hK.out _ _ ?_ (fun _ => ?_)
  · (refine ⟨?_, ?_⟩ <;> (first | assumption | go_simp))
  clear hK K
  refine rdy 21 (fun K hK => ?_)
  go_simp
  refine hK.out _ _ ?_ (fun _ => ?_)
  · (refine ⟨?_, ?_⟩ <;> (first | assumption | go_simp))
  clear hK K
  rotate_left 1
  go_simp
  refine hK.out _ _ ?_ (fun _ => ?_)
  · (refine ⟨?_, ?_⟩ <;> (first | assumption | go_simp))
  clear hK K
  refine wpAnyH_ready (rs := [10, 21]) (by kernel_rfl) (by simp) ?_
  refine AllReadyH.cons rfl (fun K hK => ?_) (AllReadyH.cons rfl (fun K hK => ?_) AllReadyH.nil)
  go_simp
  refine hK.out _ _ ?_ (fun _ => ?_)
  · (refine ⟨?_, ?_⟩ <;> (first | assumption | go_simp))
  clear hK K
  refine rdy 21 (fun K hK => ?_)
  go_simp
  refine hK.out _ _ ?_ (fun _ => ?_)
  · (refine ⟨?_, ?_⟩ <;> (first | assumption | go_simp))
  clear hK K
  rotate_left 1
  go_simp
  refine hK.out _ _ ?_ (fun _ => ?_)
  · (refine ⟨?_, ?_⟩ <;> (first | assumption | go_simp))
  clear hK K
  refine rdy 10 (fun K hK => ?_)
  go_simp
  refine hK.out _ _ ?_ (fun _ => ?_)
  · (refine ⟨?_, ?_⟩ <;> (first | assumption | go_simp))
  clear hK K
  rotate_left 1
  all_goals
    refine rdy 22 (fun K hK => ?_)
    refine row_app_step elNu (by decide) (by decide) rfl _ _ rfl H.os.length (rowL g H.os.length) [.pointer (some ⟨w1.heap.size, 0, none⟩)] rfl (by intro u hu; simp at hu; subst hu; rfl) (.slice ao H.os.length cap) (by rfl) RW.out (w1.heap.size + 1) (by rfl) (by simp) (by omega) (.inl rfl) ?_
    intro gg cp w3 hown hgrow hat
    have EN := hid (HEND.out gg cp w3 hown hgrow hat)
    obtain ⟨v1, v2, col4, p4, k4, o4⟩ := EN.out
    have x0 : w3.cell? ⟨h, 0, none⟩ = some (.pointer (some ⟨s, 0, none⟩)) := v2
    have x1 : w3.cell? ⟨s, 2, none⟩ = some (.pointer (some ⟨c, 0, none⟩)) := by rw [blk_cell v1]; rfl
    have x2 : w3.cell? ⟨s, 3, none⟩ = some (.slice ao H.os.length cap) := by rw [blk_cell v1]; rfl
    have x3 : w3.frozen? ⟨s, 3, none⟩ = false := blk_free v1 3
    have hs3 := blk_lt v1
    have P4 := hid p4
    have R := hid (tnd_done (S := S) p4 k4 o4 HS.out)
    refine hK.out _ _ ⟨x0, x1⟩ (fun _ => ?_)
    clear hK K hown hgrow hat EN v1 v2 p4 k4 o4
    simp only [Act.put, List.setIfInBounds_toArray, List.set_cons_zero, List.set_cons_succ, List.getElem_toArray, List.getElem_cons_succ, List.getElem_cons_zero]
    refine tkk 23 ?_
    refine tkk 24 ?_
    refine rdy 25 (fun K hK => ?_)
    go_simp
    refine hK.out _ _ ?_ (fun _ => ?_)
    · (refine ⟨?_, ?_⟩ <;> (first | assumption | go_simp))
    clear hK K
    refine wpAnyH_done (by kernel_rfl) ?_ _
    have HL := hid (hlen_calls _ ⟨_, _, _, _, _, _, _, _, P4.out, fun _ _ => trivial⟩ (S := fun _ => True))
    rw [show (makeH H).os.length = H.os.length + 1 by unfold makeH; rw [if_neg (by omega)]; simp] at HL
    go_wp2_with fail
    refine HL.out.mono ?_
    rintro e5 w5 ⟨rfl, rfl⟩
    go_wp2_with fail
    go_ret2
    have DD : Below w0.heap.size w0 w0.drew.drew := (Below.refl w0.heap.size w0).drew.drew
    exact ⟨rfl, R.out.1.mono (fun b _ h => by rcases h with h | h; exact .inl h; exact .inr (Nat.le_trans DD.size h)), (Keep.of DD).trans R.out.2 (fun _ _ e => e)⟩

set_option maxHeartbeats 1000000 in
theorem hmake_z {S : Nat → Prop} {K h s : Nat} {H : He} (w : World) (p : HpZ S K h s H w) :
    Calls Tryz.prog 18 #[.pointer (some ⟨h, 0, none⟩)] w fun e w' => e = .returned (.tuple #[.int .i64 (makeN H : Int), .int .i64 (makeE H)]) ∧ HpZ (Up S w) K h s (makeH H) w' ∧ Keep S w w' := by
  by_cases hm : H.most ≤ H.os.length
  · rw [show makeN H = 0 by unfold makeN; rw [if_pos hm], show makeE H = 40 by unfold makeE; rw [if_pos hm], show makeH H = H by unfold makeH; rw [if_pos hm]]
    have HM := hid (hmade_calls w p.s)
    have D := (Below.refl w.heap.size w).drew
    have HL := hid (hlen_calls w.drew (p.on D).s)
    have R := hid (show HpZ (Up S w) K h s H w.drew ∧ Keep S w w.drew from ⟨(p.on D).mono (fun _ _ e => .inl e), Keep.of D⟩)
    obtain ⟨c, n, f, v, g, q, col, p, hS⟩ := p
    obtain ⟨c0, c1, _, c2, c3, hh, hs⟩ := p.cells
    have hmost : H.most ≤ 200 := p.wf.most
    clear p hS D
    go_enter Tryz.func18, Tryz.ntmps18
    go_wp2_with fail
    refine HM.out.mono ?_
    rintro e0 w0 ⟨rfl, rfl⟩
    go_wp2_with fail
    refine wp_region_held_drew (S := fun aZ => aZ.cell? ⟨h, 0, none⟩ = some (.pointer (some ⟨s, 0, none⟩)) ∧ aZ.cell? ⟨s, 0, none⟩ = some (.int .i64 (H.most : Int))) (by kernel_rfl) ?_ (fun hHeld => ?_)
    · (refine ⟨?_, ?_⟩ <;> go_simp)
    refine tkk 0 ?_
    refine tkk 2 ?_
    refine tkk 3 ?_
    refine tkk 4 ?_
    refine tkk 5 ?_
    refine tkk 6 ?_
    refine tkk 7 ?_
    refine tkk 8 ?_
    refine rdy 1 (fun K hK => ?_)
    go_simp
    refine HL.out.mono ?_
    rintro e0 w2 ⟨rfl, rfl⟩
    go_simp
    refine hK.out _ _ ?_ (fun _ => ?_)
    · (refine ⟨?_, ?_⟩ <;> (first | assumption | go_simp))
    clear hK K
    refine tkk 9 ?_
    refine wpAnyH_done (by kernel_rfl) ?_ _
    go_wp2_with fail
    go_ret2
    exact ⟨rfl, R.out⟩
  · rw [show makeN H = H.os.length + 1 by unfold makeN; rw [if_neg hm], show makeE H = 0 by unfold makeE; rw [if_neg hm]]
    obtain ⟨c, n, f, v, g, q, col, p, hS⟩ := p
    exact hmake_more w p hS (by omega)

theorem hmake_calls {S : Nat → Prop} {K h : Nat} {H : He} (w : World) (p : HpS S K h H w) :
    Calls Tryz.prog 18 #[.pointer (some ⟨h, 0, none⟩)] w fun e w' => e = .returned (.tuple #[.int .i64 (makeN H : Int), .int .i64 (makeE H)]) ∧ HpS (Up S w) K h (makeH H) w' ∧ Keep S w w' := by
  obtain ⟨s, p⟩ := p
  exact (hmake_z w p ).mono fun e w' t => ⟨t.1, ⟨s, t.2.1⟩, t.2.2⟩
end Go.Proofs.YtimhgbcanmgajaaGreat
