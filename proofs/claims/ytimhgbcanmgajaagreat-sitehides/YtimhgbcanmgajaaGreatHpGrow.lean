/- Next and Grow. -/
import Derived.Test.YtimhgbcanmgajaaGreatJoint2
import Derived.Test.YtimhgbcanmgajaaGreatJoint16
namespace Go.Proofs.YtimhgbcanmgajaaGreat
set_option linter.unusedSimpArgs false
set_option maxRecDepth 100000
open Go.RowKit

/-- shapes and names alone were changed -/
theorem HpAt.next {K J : Nat} {H H' : He} {h s c n f : Nat} {v : Value} {g q col col' : Nat → Nat} {w w' : World} (p : HpAt K H h s c n f v g q col w) (C : Cls H' c n f col' w') (G : Grew (fun u => u = 2 ∨ u = 3) col col' w w') (hJ : K ≤ J)
    (hm : H'.most = H.most) (hp : H'.props = H.props) (ho : H'.os = H.os) (wf : WfH J H') : HpAt J H' h s c n f v g q col' w' := by
  have o := p.one
  have hlt : ∀ y, col y ≠ 0 → y < w.heap.size := fun y hy => Nat.lt_of_not_le (fun h => hy (p.top y h))
  have n1 : ∀ y, col y = 1 → y < w.heap.size ∧ ¬ (col y = 2 ∨ col y = 3) ∧ col' y = 1 := fun y e => ⟨hlt y (by omega), by omega, by rw [G.old y (hlt y (by omega))]; exact e⟩
  refine ⟨wf, blk_keep p.bh G.keep (n1 _ o.1).2.1, ?_, ?_, C, ?_, ?_, ⟨(n1 _ o.1).2.2, (n1 _ o.2.1).2.2, (n1 _ o.2.2.1).2.2, fun b hb => (n1 _ (o.2.2.2 b hb)).2.2⟩, G.top⟩
  · rw [hm, hp]
    exact blk_keep p.bs G.keep (n1 _ o.2.1).2.1
  · rw [ho]
    exact row_keep p.row (fun b hb => G.keep.block b (n1 _ (o.2.2.2 b hb)).1 (n1 _ (o.2.2.2 b hb)).2.1)
  · intro j y hj
    rw [ho] at hj
    obtain ⟨b1, b2, b3⟩ := p.ob j y hj
    exact ⟨blk_keep b1 G.keep (n1 _ b3).2.1, (b2.grew G (by omega)).mono (fun _ _ e => e) hJ, (n1 _ b3).2.2⟩
  · rw [ho]; exact p.gi
theorem hgrown_slot {J : Nat} {H : He} {h s c n f i : Nat} {v : Value} {g q col : Nat → Nat} {x : Ob} (w : World) (p : HpAt J H h s c n f v g q col w) (hi : H.os[i]? = some x) (h0 : x.sh ≠ 0) {to : Int} (hp : parF H.L to = x.sh) (hl : x.l.length < H.props) (u : Vl) :
    Calls Tryz.prog 115 #[.pointer (some ⟨q i, 0, none⟩), .int .i64 to, vlV u] w fun e w' => Tnd J i H H { x with l := x.l ++ [(lastN H to, u)], ep := x.ep + 1, sh := to.toNat } h s c n f v g q col w e w' := by
  obtain ⟨vv, h1, h2⟩ := p.slotted hi h0
  obtain ⟨ns, y, e1, e2, e3, e4, e5, e6, e7⟩ := child_of p.wf hi h0 hp
  have hx := p.wf.obs i x hi
  refine (sgrown_calls w h1 to (lastN H to) u (by have := hx.few; omega)).mono ?_
  rintro e w' ⟨rfl, v', k1, k2, k3⟩
  have G := grew_ext (k2.mono (T := fun b => col b = 4 + i) (fun b _ e => h2 b e))
  have hto : ((to.toNat : Nat) : Int) = to := by omega
  refine tnd_of p hi ⟨q i, _, by unfold ivO; rw [if_neg (by show ¬ to.toNat = 0; omega)], p.cls.grew (by rw [p.one.2.2.1]; omega) G (by omega) (by omega), .inl ⟨by show to.toNat ≠ 0; omega, v', by show SlAt c ((to.toNat : Nat) : Int) _ _ _ _; rw [hto]; exact k1, fun b hb => ext_new (k1.lt hb) ?_⟩, G.mono (fun _ e => .inr (.inr e))⟩ rfl rfl rfl (grow_wf p.wf hi h0 hp hl u) rfl
  rcases k3 b hb with e | e
  · exact .inl (h2 b e)
  · exact .inr e
set_option maxHeartbeats 4000000 in
theorem hgrow_slot {S : Nat → Prop} {J : Nat} {H : He} {h s c n f i : Nat} {v : Value} {g q col : Nat → Nat} {x : Ob} (w : World) (p : HpAt J H h s c n f v g q col w) (hK2 : J ≤ 900000) (hi : H.os[i]? = some x) (hS : ∀ b, col b ≠ 0 → S b) (h0 : x.sh ≠ 0) (to : Int) (u : Vl) :
    Calls Tryz.prog 110 #[.pointer (some ⟨h, 0, none⟩), .int .i64 ((i + 1 : Nat) : Int), .int .i64 to, vlV u] w fun e w' => e = .returned (.int .i64 (growE H ((i + 1 : Nat) : Int) to)) ∧ HpZ (Up S w) (J + 1) h s (growH H ((i + 1 : Nat) : Int) to u) w' ∧ Keep S w w' := by
  have hgo : getO H ((i + 1 : Nat) : Int) = some x := by rw [getO_succ]; exact hi
  have hE : growE H ((i + 1 : Nat) : Int) to = if parF H.L to ≠ x.sh then 2 else if H.props ≤ x.l.length then 42 else 0 := by unfold growE; rw [hgo]; simp [h0]
  have hG : growH H ((i + 1 : Nat) : Int) to u = if parF H.L to ≠ x.sh then H else if H.props ≤ x.l.length then H else putI H i { x with l := x.l ++ [(lastN H to, u)], ep := x.ep + 1, sh := to.toNat } := by unfold growH; rw [hgo]; dsimp only; rw [putO_succ]; simp [h0]
  rw [hE, hG]
  clear hE hG
  have A := (Below.refl w.heap.size w).alloc (Nat.le_refl _) (Obj.cells #[.int .i64 u.1, .int .i64 u.2.1, .string u.2.2] 37)
  have pA := p.on A
  have hcw := p.top w.heap.size (Nat.le_refl _)
  have HM := hid (hmade_calls (S := fun _ => True) _ ⟨s, c, n, f, v, g, q, col, pA, fun _ _ => trivial⟩)
  have HN := hid (hat_some _ pA (lt_of_get hi))
  have HSl := hid (hslots_some _ pA hi h0)
  have D := A.drew
  have pD := p.on D
  have HPa := hid (fparent_calls _ pD.cls.fo to)
  obtain ⟨vv, h1, h2⟩ := p.slotted hi h0
  obtain ⟨c0, c1, c2, hq⟩ := h1.cells
  obtain ⟨k0, _, k1, k4, _, k2, k3⟩ := p.cells
  obtain ⟨d0, d1, hcl⟩ := p.cls.cells
  have D2 := D.drew
  have HCn := hid (scount_calls _ (h1.on D2))
  have hqn : q i ≠ w.heap.size := by omega
  have hhn : h ≠ w.heap.size := by omega
  have hsn : s ≠ w.heap.size := by omega
  have hcn : c ≠ w.heap.size := by omega
  have hxl : x.l.length ≤ 32 := (p.wf.obs i x hi).few
  have hpr : H.props ≤ 32 := p.wf.props
  have R0 := hid (show ∀ w', Below w.heap.size w w' → HpZ (Up S w) (J + 1) h s H w' ∧ Keep S w w' from fun w' b => ⟨⟨c, n, f, v, g, q, col, (p.more (Nat.le_succ J)).on b, fun b hb => .inl (hS b hb)⟩, Keep.of b⟩)
  have HD := hid D
  have HD2 := hid D2
  have HP := hid p
  have HI := hid hi
  have HS := hid hS
  have H0 := hid h0
  have H1 := hid h1
  have H2 := hid h2
  clear p pA pD A D D2 hi hS h0 hgo h1 h2
  unfold vlV
  generalize hpf : parF H.L to = pf at *
  have HPF := hid hpf
  clear hpf
  generalize ((i + 1 : Nat) : Int) = o at *
  by_cases hpx : pf = x.sh
  · have hpi : ((pf : Nat) : Int) = (x.sh : Int) := by rw [hpx]
    have hcc : ¬ (pf ≠ x.sh) := fun h => h hpx
    rw [if_neg hcc, if_neg hcc]
    clear hcc
    rw [hpi] at HPa
    by_cases hfull : H.props ≤ x.l.length
    · simp only [hfull, if_true]
      go_enter Tryz.func110, Tryz.ntmps110
      go_wp2_with fail
      refine HM.out.mono ?_
      rintro e1 w1 ⟨rfl, rfl⟩
      go_wp2_with fail
      refine HN.out.mono ?_
      rintro e2 w2 ⟨rfl, rfl⟩
      go_wp2_with fail
      refine HSl.out.mono ?_
      rintro e3 w3 ⟨rfl, rfl⟩
      go_wp2_with fail
      refine wp_region_held_drew (S := fun aZ => aZ.cell? ⟨q i, 1, none⟩ = some (.int .i64 x.sh) ∧ aZ.cell? ⟨h, 0, none⟩ = some (.pointer (some ⟨s, 0, none⟩)) ∧ aZ.cell? ⟨s, 2, none⟩ = some (.pointer (some ⟨c, 0, none⟩)) ∧ aZ.cell? ⟨c, 1, none⟩ = some (.pointer (some ⟨f, 0, none⟩))) (by kernel_rfl) ?_ (fun hHeld => ?_)
      · (refine ⟨?_, ?_, ?_, ?_⟩ <;> go_simp)
      refine tkk 0 ?_
      refine tkk 1 ?_
      refine tkk 2 ?_
      refine tkk 3 ?_
      refine tkk 4 ?_
      refine tkk 5 ?_
      refine tkk 6 ?_
      refine tkk 7 ?_
      refine tkk 8 ?_
      refine tkk 9 ?_
      refine tkk 10 ?_
      refine tkk 11 ?_
      refine tkk 12 ?_
      refine tkk 13 ?_
      refine tkk 15 ?_
      refine tkk 16 ?_
      refine tkk 17 ?_
      refine tkk 18 ?_
      refine rdy 14 (fun K hK => ?_)
      go_simp
      refine HPa.out.mono ?_
      rintro e4 w4 ⟨rfl, rfl⟩
      go_simp
      refine hK.out _ _ ?_ (fun _ => ?_)
      · (refine ⟨?_, ?_, ?_, ?_⟩ <;> (first | assumption | go_simp))
      clear hK K
      refine tkk 19 ?_
      refine tkk 20 ?_
      refine wpAnyH_done (by kernel_rfl) ?_ _
      go_wp2_with fail
      refine wp_region_held_drew (S := fun aZ => aZ.cell? ⟨h, 0, none⟩ = some (.pointer (some ⟨s, 0, none⟩)) ∧ aZ.cell? ⟨s, 1, none⟩ = some (.int .i64 (H.props : Int))) (by kernel_rfl) ?_ (fun hHeld => ?_)
      · (refine ⟨?_, ?_⟩ <;> go_simp)
      refine tkk 0 ?_
      refine tkk 2 ?_
      refine tkk 3 ?_
      refine tkk 4 ?_
      refine tkk 5 ?_
      refine tkk 6 ?_
      refine tkk 7 ?_
      refine tkk 8 ?_
      refine rdy 1 (fun K hK => ?_)
      go_simp
      refine HCn.out.mono ?_
      rintro e5 w5 ⟨rfl, rfl⟩
      go_simp
      refine hK.out _ _ ?_ (fun _ => ?_)
      · (refine ⟨?_, ?_⟩ <;> (first | assumption | go_simp))
      clear hK K
      refine tkk 9 ?_
      refine wpAnyH_done (by kernel_rfl) ?_ _
      go_wp2_with fail
      go_ret
      exact ⟨rfl, R0.out _ HD2.out⟩
    · simp only [hfull, if_false]
      have HGr := hid (hgrown_slot _ (HP.out.on HD2.out) HI.out H0.out (HPF.out.trans hpx) (by omega) u)
      unfold vlV at HGr
      have K3 := hid (Keep.of (S := fun b => col b ≠ 0) HD2.out)
      go_enter Tryz.func110, Tryz.ntmps110
      go_wp2_with fail
      refine HM.out.mono ?_
      rintro e1 w1 ⟨rfl, rfl⟩
      go_wp2_with fail
      refine HN.out.mono ?_
      rintro e2 w2 ⟨rfl, rfl⟩
      go_wp2_with fail
      refine HSl.out.mono ?_
      rintro e3 w3 ⟨rfl, rfl⟩
      go_wp2_with fail
      refine wp_region_held_drew (S := fun aZ => aZ.cell? ⟨q i, 1, none⟩ = some (.int .i64 x.sh) ∧ aZ.cell? ⟨h, 0, none⟩ = some (.pointer (some ⟨s, 0, none⟩)) ∧ aZ.cell? ⟨s, 2, none⟩ = some (.pointer (some ⟨c, 0, none⟩)) ∧ aZ.cell? ⟨c, 1, none⟩ = some (.pointer (some ⟨f, 0, none⟩))) (by kernel_rfl) ?_ (fun hHeld => ?_)
      · (refine ⟨?_, ?_, ?_, ?_⟩ <;> go_simp)
      refine tkk 0 ?_
      refine tkk 1 ?_
      refine tkk 2 ?_
      refine tkk 3 ?_
      refine tkk 4 ?_
      refine tkk 5 ?_
      refine tkk 6 ?_
      refine tkk 7 ?_
      refine tkk 8 ?_
      refine tkk 9 ?_
      refine tkk 10 ?_
      refine tkk 11 ?_
      refine tkk 12 ?_
      refine tkk 13 ?_
      refine tkk 15 ?_
      refine tkk 16 ?_
      refine tkk 17 ?_
      refine tkk 18 ?_
      refine rdy 14 (fun K hK => ?_)
      go_simp
      refine HPa.out.mono ?_
      rintro e4 w4 ⟨rfl, rfl⟩
      go_simp
      refine hK.out _ _ ?_ (fun _ => ?_)
      · (refine ⟨?_, ?_, ?_, ?_⟩ <;> (first | assumption | go_simp))
      clear hK K
      refine tkk 19 ?_
      refine tkk 20 ?_
      refine wpAnyH_done (by kernel_rfl) ?_ _
      go_wp2_with fail
      refine wp_region_held_drew (S := fun aZ => aZ.cell? ⟨h, 0, none⟩ = some (.pointer (some ⟨s, 0, none⟩)) ∧ aZ.cell? ⟨s, 1, none⟩ = some (.int .i64 (H.props : Int))) (by kernel_rfl) ?_ (fun hHeld => ?_)
      · (refine ⟨?_, ?_⟩ <;> go_simp)
      refine tkk 0 ?_
      refine tkk 2 ?_
      refine tkk 3 ?_
      refine tkk 4 ?_
      refine tkk 5 ?_
      refine tkk 6 ?_
      refine tkk 7 ?_
      refine tkk 8 ?_
      refine rdy 1 (fun K hK => ?_)
      go_simp
      refine HCn.out.mono ?_
      rintro e5 w5 ⟨rfl, rfl⟩
      go_simp
      refine hK.out _ _ ?_ (fun _ => ?_)
      · (refine ⟨?_, ?_⟩ <;> (first | assumption | go_simp))
      clear hK K
      refine tkk 9 ?_
      refine wpAnyH_done (by kernel_rfl) ?_ _
      go_wp2_with fail
      refine HGr.out.mono ?_
      rintro e5 w5 ⟨T, qi, col5, x5, rfl, hx5, hep, b5, f5, _, hz5, p5, k5, o5⟩
      have HB5 := hid (hbecome_calls (T := T) (a := ⟨qi, 0, none⟩) w5 b5 (by omega))
      have R := hid (tnd_done (S := S) p5 (K3.out.trans k5 (fun _ _ e => e)) (fun b hb => o5 b (Nat.lt_of_lt_of_le hb K3.out.size)) HS.out)
      clear p5 k5 o5 f5 b5 HGr
      go_wp2_with fail
      refine HB5.out.mono ?_
      rintro e6 w6 ⟨rfl, rfl⟩
      go_wp2_with fail
      go_ret
      exact ⟨rfl, R.out⟩
  · have hpi : ¬ (((pf : Nat) : Int) = (x.sh : Int)) := by omega
    have hpi' : (((pf : Nat) : Int) != (x.sh : Int)) = true := by simpa using hpi
    rw [if_pos hpx, if_pos hpx]
    go_enter Tryz.func110, Tryz.ntmps110
    go_wp2_with fail
    refine HM.out.mono ?_
    rintro e1 w1 ⟨rfl, rfl⟩
    go_wp2_with fail
    refine HN.out.mono ?_
    rintro e2 w2 ⟨rfl, rfl⟩
    go_wp2_with fail
    refine HSl.out.mono ?_
    rintro e3 w3 ⟨rfl, rfl⟩
    go_wp2_with fail
    refine wp_region_held_drew (S := fun aZ => aZ.cell? ⟨q i, 1, none⟩ = some (.int .i64 x.sh) ∧ aZ.cell? ⟨h, 0, none⟩ = some (.pointer (some ⟨s, 0, none⟩)) ∧ aZ.cell? ⟨s, 2, none⟩ = some (.pointer (some ⟨c, 0, none⟩)) ∧ aZ.cell? ⟨c, 1, none⟩ = some (.pointer (some ⟨f, 0, none⟩))) (by kernel_rfl) ?_ (fun hHeld => ?_)
    · (refine ⟨?_, ?_, ?_, ?_⟩ <;> go_simp)
    refine tkk 0 ?_
    refine tkk 1 ?_
    refine tkk 2 ?_
    refine tkk 3 ?_
    refine tkk 4 ?_
    refine tkk 5 ?_
    refine tkk 6 ?_
    refine tkk 7 ?_
    refine tkk 8 ?_
    refine tkk 9 ?_
    refine tkk 10 ?_
    refine tkk 11 ?_
    refine tkk 12 ?_
    refine tkk 13 ?_
    refine tkk 15 ?_
    refine tkk 16 ?_
    refine tkk 17 ?_
    refine tkk 18 ?_
    refine rdy 14 (fun K hK => ?_)
    go_simp
    refine HPa.out.mono ?_
    rintro e4 w4 ⟨rfl, rfl⟩
    go_simp
    refine hK.out _ _ ?_ (fun _ => ?_)
    · (refine ⟨?_, ?_, ?_, ?_⟩ <;> (first | assumption | go_simp))
    clear hK K
    refine tkk 19 ?_
    refine tkk 20 ?_
    refine wpAnyH_done (by kernel_rfl) ?_ _
    go_wp2_with fail
    go_ret
    exact ⟨rfl, R0.out _ HD.out⟩

set_option maxHeartbeats 1000000 in
theorem hgrow_z {S : Nat → Prop} {K h s : Nat} {H : He} (w : World) (p : HpZ S K h s H w) (hK2 : K ≤ 900000) (o to : Int) (u : Vl) :
    Calls Tryz.prog 110 #[.pointer (some ⟨h, 0, none⟩), .int .i64 o, .int .i64 to, vlV u] w fun e w' => e = .returned (.int .i64 (growE H o to)) ∧ HpZ (Up S w) (K + 1) h s (growH H o to u) w' ∧ Keep S w w' := by
  cases hs : slotsO H o with
  | none =>
    have A := (Below.refl w.heap.size w).alloc (Nat.le_refl _) (Obj.cells #[.int .i64 u.1, .int .i64 u.2.1, .string u.2.2] 37)
    have R0 := hid (show ∀ w', Below w.heap.size w w' → HpZ (Up S w) (K + 1) h s H w' ∧ Keep S w w' from fun w' b => ⟨((p.on b).more (Nat.le_succ _)).mono (fun _ _ e => .inl e), Keep.of b⟩)
    have HM := hid (hmade_calls _ (p.on A).s)
    have HSl := hid (hslots_none _ (p.on A).s hs)
    cases hg : getO H o with
    | none =>
      rw [show growE H o to = 4 by unfold growE; rw [hg], show growH H o to u = H by unfold growH; rw [hg]]
      have HN := hid (hat_none _ (p.on A).s hg)
      have HA := hid A
      clear p A hs hg
      unfold vlV
      go_enter Tryz.func110, Tryz.ntmps110
      go_wp2_with fail
      refine HM.out.mono ?_
      rintro e1 w1 ⟨rfl, rfl⟩
      go_wp2_with fail
      refine HN.out.mono ?_
      rintro e2 w2 ⟨rfl, rfl⟩
      go_wp2_with fail
      refine HSl.out.mono ?_
      rintro e3 w3 ⟨rfl, rfl⟩
      go_wp2_with fail
      go_ret
      exact ⟨rfl, R0.out _ HA.out⟩
    | some x =>
      have h0 : x.sh = 0 := by have := (slotsO_none hs).1; unfold shapeH at this; rw [hg] at this; exact this
      obtain ⟨i, rfl, hi⟩ := getO_some hg
      rw [show growE H ((i + 1 : Nat) : Int) to = 2 by unfold growE; rw [hg]; simp [h0], show growH H ((i + 1 : Nat) : Int) to u = H by unfold growH; rw [hg]; simp [h0]]
      obtain ⟨c, n, f, v, g, q, col, p, hS⟩ := p
      have HN := hid (hat_some _ (p.on A) (lt_of_get hi))
      have HA := hid A.drew
      clear p A hs hg hS hi
      unfold vlV
      generalize ((i + 1 : Nat) : Int) = o at *
      go_enter Tryz.func110, Tryz.ntmps110
      go_wp2_with fail
      refine HM.out.mono ?_
      rintro e1 w1 ⟨rfl, rfl⟩
      go_wp2_with fail
      refine HN.out.mono ?_
      rintro e2 w2 ⟨rfl, rfl⟩
      go_wp2_with fail
      refine HSl.out.mono ?_
      rintro e3 w3 ⟨rfl, rfl⟩
      go_wp2_with fail
      refine wp_region_held_drew (S := fun aZ => True) (by kernel_rfl) ?_ (fun hHeld => ?_)
      · trivial
      refine tkk 0 ?_
      refine tkk 1 ?_
      refine tkk 2 ?_
      refine tks 3 ?_
      refine tks 4 ?_
      refine tks 5 ?_
      refine tks 6 ?_
      refine tks 7 ?_
      refine tks 8 ?_
      refine tks 9 ?_
      refine tks 10 ?_
      refine tks 11 ?_
      refine tks 12 ?_
      refine tks 13 ?_
      refine tks 14 ?_
      refine tks 15 ?_
      refine tks 16 ?_
      refine tks 17 ?_
      refine tks 18 ?_
      refine tks 19 ?_
      refine tkk 20 ?_
      refine wpAnyH_done (by kernel_rfl) ?_ _
      go_wp2_with fail
      go_ret
      exact ⟨rfl, R0.out _ HA.out⟩
  | some x =>
    obtain ⟨i, rfl, hi, h0, _⟩ := slotsO_some hs
    obtain ⟨c, n, f, v, g, q, col, p, hS⟩ := p
    exact hgrow_slot w p hK2 hi hS h0 to u

theorem hgrow_calls {S : Nat → Prop} {K h : Nat} {H : He} (w : World) (p : HpS S K h H w) (hK2 : K ≤ 900000) (o to : Int) (u : Vl) :
    Calls Tryz.prog 110 #[.pointer (some ⟨h, 0, none⟩), .int .i64 o, .int .i64 to, vlV u] w fun e w' => e = .returned (.int .i64 (growE H o to)) ∧ HpS (Up S w) (K + 1) h (growH H o to u) w' ∧ Keep S w w' := by
  obtain ⟨s, p⟩ := p
  exact (hgrow_z w p hK2 o to u).mono fun e w' t => ⟨t.1, ⟨s, t.2.1⟩, t.2.2⟩
end Go.Proofs.YtimhgbcanmgajaaGreat
