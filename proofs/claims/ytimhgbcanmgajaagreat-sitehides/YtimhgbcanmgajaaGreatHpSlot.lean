/- A property more, one less, another prototype: of objects of slots. -/
import Derived.Test.YtimhgbcanmgajaaGreatJoint2
import Derived.Test.YtimhgbcanmgajaaGreatHpWith
namespace Go.Proofs.YtimhgbcanmgajaaGreat
set_option linter.unusedSimpArgs false
set_option maxRecDepth 100000
open Go.RowKit

set_option maxHeartbeats 2000000 in
theorem with_slot {J : Nat} {H : He} {c n f q t : Nat} {col : Nat → Nat} {x : Ob} {v : Value} {y : Sh} (w : World) (C : Cls H c n f col w) (hc : col c = 1) (ht : ∀ b, w.heap.size ≤ b → col b = 0) (h4 : 4 ≤ t) (h : SlAt c x.sh x.l q v w) (hb : ∀ b, FtL q v b → col b = t)
    (hN : Named H x.sh x.l) (hy : getS H.L x.sh = some y) (hp : protoF H.L x.sh = (x.pr : Int)) (ho : OkL x.l) (hl : x.l.length ≤ 32) (hnl : H.N.length < 1000000) (hK : 40 ≤ J) (s : ByteArray) (hs : s.size ≤ 1000000) (hh : hasL x.l s = false) (u : Vl) :
    Calls Tryz.prog 64 #[.iface 161 (.pointer (some ⟨q, 0, none⟩)), .string s, vlV u] w fun e w' => Turned J (nextH H x.sh s) c n f t { x with l := x.l ++ [(s, u)], ep := x.ep + 1, sh := nextN H x.sh s } col w e w' := by
  obtain ⟨c0, c1, c2, hq⟩ := h.cells
  have hqn : q ≠ w.heap.size := by omega
  have hct : col q = t := hb q (.inl rfl)
  have A := ((Below.refl w.heap.size w).alloc (Nat.le_refl _) (Obj.cells #[.int .i64 u.1, .int .i64 u.2.1, .string u.2.2] 37)).drew
  have HNx := hid (cnext_calls _ (C.on A) hc (fun b hb => ht b (Nat.le_trans A.size hb)) (by omega) (x.sh : Int) s hs)
  have HH := hid (h.on A)
  have HA := hid A
  have hvb : Hid (∀ b, FtL q v b → b < w.heap.size) := hid (fun b hb => h.lt hb)
  have HM := hid (hN.more (H' := nextH H x.sh s) hy next_stay.1 next_stay.2.1 (by have := (next_stay (H := H) (id := x.sh) (s := s)).2.2.1; omega))
  have hwl : w.heap.size < ((w.alloc (Obj.cells #[.int .i64 u.1, .int .i64 u.2.1, .string u.2.2] 37)).drew).heap.size := by simp
  have hcw := ht w.heap.size (Nat.le_refl _)
  have HT := hid ht
  have HBB := hid hb
  have HO := hid ho
  have HPr := hid hp
  have hcc := hid hc
  have HSet := hid (setL_new u hh)
  clear h C A hN hy ht hb ho hp hc hh
  have t1 := ta_ss q
  unfold vlV
  generalize hto : nextN H x.sh s = to at *
  generalize hHH : nextH H x.sh s = H' at *
  go_enter Tryz.func64, Tryz.ntmps64
  go_wp2_with fail
  refine wp_region_held_drew (S := fun a => a.cell? ⟨q, 0, none⟩ = some (.pointer (some ⟨c, 0, none⟩)) ∧ a.cell? ⟨q, 1, none⟩ = some (.int .i64 x.sh) ∧ a.cell? ⟨w.heap.size, 0, none⟩ = some (.int .i64 u.1) ∧ a.cell? ⟨w.heap.size, 1, none⟩ = some (.int .i64 u.2.1) ∧ a.cell? ⟨w.heap.size, 2, none⟩ = some (.string u.2.2)) (by kernel_rfl) ?_ (fun hHeld => ?_)
  · (refine ⟨?_, ?_, ?_, ?_, ?_⟩ <;> go_simp)
  refine tkk 0 ?_
  refine tkk 1 ?_
  refine tkk 2 ?_
  refine tkk 3 ?_
  refine tkk 4 ?_
  refine tkk 5 ?_
  refine tkk 6 ?_
  refine tkk 7 ?_
  refine tkk 8 ?_
  refine rdy 9 (fun K hK => ?_)
  go_simp
  refine HNx.out.mono ?_
  rintro e1 w1 ⟨rfl, col1, C1, G1⟩
  have n0 : ¬ (col w.heap.size = 2 ∨ col w.heap.size = 3) := by rw [hcw]; decide
  have nq : ¬ (col q = 2 ∨ col q = 3) := by rw [hct]; omega
  have hq' : q < ((w.alloc (Obj.cells #[.int .i64 u.1, .int .i64 u.2.1, .string u.2.2] 37)).drew).heap.size := by simp; omega
  have z0 := hcell_keep (c := w1) (g := w.heap.size) (i := 0) (v := .int .i64 u.1) (by go_simp) hwl G1.keep n0
  have z1 := hcell_keep (c := w1) (g := w.heap.size) (i := 1) (v := .int .i64 u.2.1) (by go_simp) hwl G1.keep n0
  have z2 := hcell_keep (c := w1) (g := w.heap.size) (i := 2) (v := .string u.2.2) (by go_simp) hwl G1.keep n0
  have c0 := hcell_keep (c := w1) (g := q) (i := 0) (v := .pointer (some ⟨c, 0, none⟩)) (by go_simp) hq' G1.keep nq
  have c1 := hcell_keep (c := w1) (g := q) (i := 1) (v := .int .i64 x.sh) (by go_simp) hq' G1.keep nq
  have hwl1 := Nat.lt_of_lt_of_le hwl G1.keep.size
  have hq1 := Nat.lt_of_lt_of_le hq' G1.keep.size
  have H1 := hid (HH.out.keep (b := w1) (fun b hb => G1.keep.block b (HH.out.lt hb) (by rw [HBB.out b hb]; omega)))
  have HG1 := hid (show Grew (fun u => u = 2 ∨ u = 3 ∨ u = t) col col1 w w1 from (Grew.below (P := fun u => u = 2 ∨ u = 3 ∨ u = t) HA.out HT.out).trans (G1.mono (fun _ e => by rcases e with e | e; exact .inl e; exact .inr (.inl e))))
  have HC1 := hid C1
  have B1 : Hid (∀ b, FtL q v b → col1 b = t) := hid (fun b hb => (G1.old b (HH.out.lt hb)).trans (HBB.out b hb))
  have hcl : c < w.heap.size := Nat.lt_of_not_le (fun h => by have := HT.out c h; rw [hcc.out] at this; cases this)
  have hc1 : Hid (col1 c = 1) := hid ((G1.old c (Nat.lt_trans hcl hwl)).trans hcc.out)
  clear C1 G1 HNx hqn HH HA n0 nq HT hcl
  go_simp
  refine hK.out _ _ ?_ (fun _ => ?_)
  · (refine ⟨?_, ?_, ?_, ?_, ?_⟩ <;> (first | assumption | go_simp))
  clear hK K
  refine tkk 10 ?_
  refine wpAnyH_done (by kernel_rfl) ?_ _
  by_cases hto0 : to = 0
  · subst hto0
    have HL := hid (loose_calls w1.drew (HC1.out.on (Below.refl _ _).drew) (H1.out.on (Below.refl _ _).drew) HM.out.1 HO.out (by omega))
    go_wp2_with fail
    refine wp_region_held_drew (S := fun a => a.cell? ⟨w.heap.size, 0, none⟩ = some (.int .i64 u.1) ∧ a.cell? ⟨w.heap.size, 1, none⟩ = some (.int .i64 u.2.1) ∧ a.cell? ⟨w.heap.size, 2, none⟩ = some (.string u.2.2)) (by kernel_rfl) ?_ (fun hHeld => ?_)
    · (refine ⟨?_, ?_, ?_⟩ <;> go_simp)
    refine tkk 0 ?_
    refine tkk 3 ?_
    refine tkk 4 ?_
    refine rdy 1 (fun K hK => ?_)
    go_simp
    refine HL.out.mono ?_
    rintro e2 w2 ⟨dq, rfl, h2, b2⟩
    have b2' : Below w1.heap.size w1 w2 := ((Below.refl w1.heap.size w1).drew).trans b2
    rw [HM.out.2, HPr.out] at h2
    have HW := hid (with_dict w2 (h2.mono (T := fun b => w1.heap.size ≤ b ∧ b < w2.heap.size) (fun b hb h => ⟨h, hb⟩) (Nat.le_refl _)) (by omega) s hs u)
    rw [HSet.out] at HW
    unfold vlV at HW
    have z0 := hcell_on z0 hwl1 b2'
    have z1 := hcell_on z1 hwl1 b2'
    have z2 := hcell_on z2 hwl1 b2'
    have B2 := hid b2'
    have hwl2 := Nat.lt_of_lt_of_le hwl1 b2'.size
    clear h2 b2 b2' HL
    go_simp
    refine hK.out _ _ ?_ (fun _ => ?_)
    · (refine ⟨?_, ?_, ?_⟩ <;> (first | assumption | go_simp))
    clear hK K
    refine tkk 2 ?_
    refine rdy 5 (fun K hK => ?_)
    go_simp
    refine HW.out.mono ?_
    rintro e3 w3 ⟨rfl, h3, k3⟩
    have hb3 : Below w1.heap.size w1 w3 := B2.out.trans (k3.below B2.out.size (fun b h => h.1))
    have z0 := hcell_keep z0 hwl2 k3 (fun h => by omega)
    have z1 := hcell_keep z1 hwl2 k3 (fun h => by omega)
    have z2 := hcell_keep z2 hwl2 k3 (fun h => by omega)
    have R : Hid (Turned J H' c n f t { x with l := x.l ++ [(s, u)], ep := x.ep + 1, sh := 0 } col w (.returned (.iface 199 (.pointer (some ⟨dq, 0, none⟩)))) w3) := by
      have g3 : Grew (fun u => u = t) col1 (ext col1 w1.heap.size w3.heap.size t) w1 w3 := grew_ext (Keep.of hb3)
      refine hid ⟨dq, _, rfl, HC1.out.grew (by rw [hc1.out]; omega) g3 (by omega) (by omega), .inr ⟨rfl, x.l.length + 1, h3.mono (fun b hb h => ext_new hb (.inr ?_)) (Nat.le_refl _), by omega⟩, HG1.out.trans (g3.mono (fun _ e => .inr (.inr e)))⟩
      rcases h with h | h
      · exact h.1
      · exact Nat.le_trans B2.out.size h
    clear h3 k3 HW hb3
    go_simp
    refine hK.out _ _ ?_ (fun _ => ?_)
    · (refine ⟨?_, ?_, ?_⟩ <;> (first | assumption | go_simp))
    clear hK K
    refine tkk 6 ?_
    refine wpAnyH_done (by kernel_rfl) ?_ _
    go_wp2_with fail
    go_ret
    exact R.out
  · have hgt : 0 < to := by omega
    have HGr := hid (sgrown_calls w1 H1.out (to : Int) s u (by omega))
    unfold vlV at HGr
    go_wp2_with fail
    refine HGr.out.mono ?_
    rintro e2 w2 ⟨rfl, v', h2, k2, f2⟩
    have R : Hid (Turned J H' c n f t { x with l := x.l ++ [(s, u)], ep := x.ep + 1, sh := to } col w (.returned (.iface 161 (.pointer (some ⟨q, 0, none⟩)))) w2) := by
      have g2 : Grew (fun u => u = t) col1 (ext col1 w1.heap.size w2.heap.size t) w1 w2 := grew_ext (k2.mono (fun b _ h => B1.out b h))
      refine hid ⟨q, _, by simp [ivO, hto0], HC1.out.grew (by rw [hc1.out]; omega) g2 (by omega) (by omega), .inl ⟨hto0, v', h2, fun b hb => ext_new (h2.lt hb) ?_⟩, HG1.out.trans (g2.mono (fun _ e => .inr (.inr e)))⟩
      rcases f2 b hb with h | h
      · exact .inl (B1.out b h)
      · exact .inr h
    clear h2 k2 f2 HGr
    go_wp2_with fail
    go_ret
    exact R.out

set_option maxHeartbeats 1000000 in
theorem without_slot {K : Nat} {H : He} {c n f q t : Nat} {col : Nat → Nat} {x : Ob} {v : Value} (w : World) (C : Cls H c n f col w) (hc : col c = 1) (ht : ∀ b, w.heap.size ≤ b → col b = 0) (h4 : 4 ≤ t) (h : SlAt c x.sh x.l q v w)
    (hN : Named H x.sh x.l) (hp : protoF H.L x.sh = (x.pr : Int)) (ho : OkL x.l) (hl : x.l.length ≤ 32) (hK : 40 ≤ K) (s : ByteArray) (hs : s.size ≤ 1000000) :
    Calls Tryz.prog 65 #[.iface 161 (.pointer (some ⟨q, 0, none⟩)), .string s] w fun e w' => Turned K H c n f t { x with l := dropL x.l s, ep := x.ep + 1, sh := 0 } col w e w' := by
  have HL := hid (loose_calls w C h hN ho (by omega))
  rw [hp] at HL
  have HC := hid C
  have hcc := hid hc
  have HT := hid ht
  clear C h hN hp ho ht hc
  have t1 := ta_ss q
  go_enter Tryz.func65, Tryz.ntmps65
  go_wp2_with fail
  refine HL.out.mono ?_
  rintro e2 w2 ⟨dq, rfl, h2, b2⟩
  have HW := hid (without_dict w2 h2 (by omega) s hs)
  have B2 := hid b2
  clear h2 b2 HL
  go_wp2_with fail
  refine HW.out.mono ?_
  rintro e3 w3 ⟨rfl, h3, k3⟩
  have hb3 : Below w.heap.size w w3 := B2.out.trans (k3.below B2.out.size (fun b h => h))
  have R : Hid (Turned K H c n f t { x with l := dropL x.l s, ep := x.ep + 1, sh := 0 } col w (.returned (.iface 199 (.pointer (some ⟨dq, 0, none⟩)))) w3) := by
    have g3 : Grew (fun u => u = t) col (ext col w.heap.size w3.heap.size t) w w3 := grew_ext (Keep.of hb3)
    refine hid ⟨dq, _, rfl, HC.out.grew (by rw [hcc.out]; omega) g3 (by omega) (by omega), .inr ⟨rfl, x.l.length, h3.mono (fun b hb h => ext_new hb (.inr ?_)) (Nat.le_refl _), by omega⟩, g3.mono (fun _ e => .inr (.inr e))⟩
    rcases h with h | h
    · exact h
    · exact Nat.le_trans B2.out.size h
  clear h3 k3 HW hb3
  go_wp2_with fail
  go_ret
  exact R.out

set_option maxHeartbeats 2000000 in
theorem under_slot {K : Nat} {H : He} {c n f q t : Nat} {col : Nat → Nat} {x : Ob} {v : Value} {y : Sh} (w : World) (C : Cls H c n f col w) (hc : col c = 1) (ht : ∀ b, w.heap.size ≤ b → col b = 0) (h4 : 4 ≤ t) (h : SlAt c x.sh x.l q v w) (hb : ∀ b, FtL q v b → col b = t)
    (hN : Named H x.sh x.l) (hy : getS H.L x.sh = some y) (ho : OkL x.l) (hl : x.l.length ≤ 32) (hK : 40 ≤ K) (p : Nat) (hp : p ≤ 1000000) :
    Calls Tryz.prog 67 #[.iface 161 (.pointer (some ⟨q, 0, none⟩)), .int .i64 (p : Int)] w fun e w' => Turned K { H with L := (moveP H.M H.L x.sh p).2 } c n f t { x with pr := p, ep := x.ep + 1, sh := (moveP H.M H.L x.sh p).1 } col w e w' := by
  obtain ⟨c0, c1, c2, hq⟩ := h.cells
  obtain ⟨d0, d1, hcl⟩ := C.cells
  have hct : col q = t := hb q (.inl rfl)
  have fq1 := blk_free h.blk 1
  have D := (Below.refl w.heap.size w).drew
  have HMv := hid (fmove_calls w.drew (C.fo.on D) (x.sh : Int) (p : Int) (by unfold I64; omega))
  have HM := hid (hN.more (H' := { H with L := (moveP H.M H.L x.sh p).2 }) hy (fun _ _ h => moveP_stay h) (fun _ _ h => h) hN.len)
  have HH := hid h
  have HC := hid C
  have HT := hid ht
  have HBB := hid hb
  have HO := hid ho
  have hcc := hid hc
  clear h C D hN hy ht hb ho hc
  have t1 := ta_ss q
  generalize hmv : moveP H.M H.L x.sh p = mv at *
  obtain ⟨to, L'⟩ := mv
  dsimp only at *
  go_enter Tryz.func67, Tryz.ntmps67
  go_wp2_with fail
  refine wp_region_held_drew (S := fun a => a.cell? ⟨q, 0, none⟩ = some (.pointer (some ⟨c, 0, none⟩)) ∧ a.cell? ⟨q, 1, none⟩ = some (.int .i64 x.sh) ∧ a.cell? ⟨c, 1, none⟩ = some (.pointer (some ⟨f, 0, none⟩))) (by kernel_rfl) ?_ (fun hHeld => ?_)
  · (refine ⟨?_, ?_, ?_⟩ <;> go_simp)
  refine tkk 0 ?_
  refine tkk 1 ?_
  refine tkk 2 ?_
  refine tkk 3 ?_
  refine tkk 4 ?_
  refine tkk 5 ?_
  refine tkk 6 ?_
  refine tkk 7 ?_
  refine tkk 8 ?_
  refine tkk 9 ?_
  refine tkk 10 ?_
  refine tkk 11 ?_
  refine rdy 12 (fun K hK => ?_)
  go_simp
  refine HMv.out.mono ?_
  rintro e1 w1 ⟨rfl, h1, k1⟩
  have G1 : Grew (fun u => u = 3) col (ext col w.heap.size w1.heap.size 3) w w1 := ⟨(grew_ext k1).old, (grew_ext k1).top, ⟨k1.os, k1.tape, k1.output, k1.size, k1.block⟩⟩
  have hz1 : w.heap.size ≤ w1.heap.size := k1.size
  have F1 := h1.mono (T := fun b => ext col w.heap.size w1.heap.size 3 b = 3) (fun b hb e => ext_new hb e)
  have N1 := (HC.out.nm.mono (T := fun b => ext col w.heap.size w1.heap.size 3 b = 2) (fun b hb e => (ext_old hb).trans e)).keep G1.keep (fun b hb e h => by rw [ext_old hb, h] at e; cases e)
  have n3 : ¬ col c = 3 := by rw [hcc.out]; decide
  have nq : ¬ col q = 3 := by rw [hct]; omega
  have C1 := hid (show Cls { H with L := L' } c n f (ext col w.heap.size w1.heap.size 3) w1 from ⟨blk_keep HC.out.blk G1.keep n3, N1, F1⟩)
  have c0 := hcell_keep c0 hq G1.keep nq
  have c1 := hcell_keep c1 hq G1.keep nq
  have d1 := hcell_keep d1 hcl G1.keep n3
  have H1 := hid (HH.out.keep (b := w1) (fun b hb => G1.keep.block b (HH.out.lt hb) (by rw [HBB.out b hb]; omega)))
  have HG1 := hid (G1.mono (Q := fun u => u = 2 ∨ u = 3 ∨ u = t) (fun _ e => .inr (.inl e)))
  have B1 : Hid (∀ b, FtL q v b → ext col w.heap.size w1.heap.size 3 b = t) := hid (fun b hb => (G1.old b (HH.out.lt hb)).trans (HBB.out b hb))
  have hc1 : Hid (ext col w.heap.size w1.heap.size 3 c = 1) := hid ((G1.old c hcl).trans hcc.out)
  generalize ext col w.heap.size w1.heap.size 3 = col1 at *
  have hq1 : q < w1.heap.size := Nat.lt_of_lt_of_le hq hz1
  have fq := blk_free H1.out.blk 1
  clear h1 k1 G1 F1 N1 HMv n3 nq HH HC HT fq1
  go_simp
  refine hK.out _ _ ?_ (fun _ => ?_)
  · (refine ⟨?_, ?_, ?_⟩ <;> (first | assumption | go_simp))
  clear hK K
  refine tkk 13 ?_
  refine wpAnyH_done (by kernel_rfl) ?_ _
  by_cases hto0 : to = 0
  · subst hto0
    have HL := hid (loose_calls w1 C1.out H1.out HM.out.1 HO.out (by omega))
    go_wp2_with fail
    refine HL.out.mono ?_
    rintro e2 w2 ⟨dq, rfl, h2, b2⟩
    have HW := hid (under_dict w2 h2 (p : Int))
    have B2 := hid b2
    clear h2 b2 HL
    go_wp2_with fail
    refine HW.out.mono ?_
    rintro e3 w3 ⟨rfl, h3, k3⟩
    have hb3 : Below w1.heap.size w1 w3 := B2.out.trans (k3.below B2.out.size (fun b h => h))
    have R : Hid (Turned K { H with L := L' } c n f t { x with pr := p, ep := x.ep + 1, sh := 0 } col w (.returned (.iface 199 (.pointer (some ⟨dq, 0, none⟩)))) w3) := by
      have g3 : Grew (fun u => u = t) col1 (ext col1 w1.heap.size w3.heap.size t) w1 w3 := grew_ext (Keep.of hb3)
      exact hid ⟨dq, _, rfl, C1.out.grew (by rw [hc1.out]; omega) g3 (by omega) (by omega), .inr ⟨rfl, x.l.length, h3.mono (fun b hb h => ext_new hb (.inr h)) (Nat.le_refl _), by omega⟩, HG1.out.trans (g3.mono (fun _ e => .inr (.inr e)))⟩
    clear h3 k3 HW hb3
    go_wp2_with fail
    go_ret
    exact R.out
  · have hgt : 0 < to := by omega
    have R : Hid (Turned K { H with L := L' } c n f t { x with pr := p, ep := x.ep + 1, sh := to } col w (.returned (.iface 161 (.pointer (some ⟨q, 0, none⟩)))) (w1.setCell ⟨q, 1, none⟩ (.int .i64 (to : Int)))) := by
      have kq := Keep.set (S := fun b => b = q) rfl w1 1 (.int .i64 (to : Int))
      have g2 : Grew (fun u => u = t) col1 (ext col1 w1.heap.size (w1.setCell ⟨q, 1, none⟩ (.int .i64 (to : Int))).heap.size t) w1 (w1.setCell ⟨q, 1, none⟩ (.int .i64 (to : Int))) := grew_ext (kq.mono (fun b _ h => by rw [h]; exact B1.out q (.inl rfl)))
      have h2 : SlAt c (to : Int) x.l q v (w1.setCell ⟨q, 1, none⟩ (.int .i64 (to : Int))) := ⟨blk_set H1.out.blk 1 _, row_keep H1.out.row (fun g hg => kq.block g (H1.out.lt (.inr hg)) (H1.out.ne hg))⟩
      exact hid ⟨q, _, by simp [ivO, hto0], C1.out.grew (by rw [hc1.out]; omega) g2 (by omega) (by omega), .inl ⟨hto0, v, h2, fun b hb => ext_new (h2.lt hb) (.inl (B1.out b hb))⟩, HG1.out.trans (g2.mono (fun _ e => .inr (.inr e)))⟩
    go_wp2_with fail
    go_ret
    exact R.out

end Go.Proofs.YtimhgbcanmgajaaGreat
