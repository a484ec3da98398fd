/- The document's heap: Set. -/
import Derived.Test.YtemidicgipebjaaGreatJoint2
import Derived.Test.YtemidicgipebjaaGreatJoint17
namespace Go.Proofs.YtemidicgipebjaaGreat
set_option linter.unusedSimpArgs false
set_option linter.unusedVariables false
set_option maxRecDepth 100000
open Go.RowKit
section
variable {K : Nat} {H : He} {r f : Nat} {v tv : Value} {q col : Nat → Nat}
theorem yset_none (w : World) (p : RhM H r f v tv q col w) (o : Int) (nm : ByteArray) (u : Vl) (hg : getO H o = none) :
    Calls Tryz.prog 36 #[.pointer (some ⟨r, 0, none⟩), .int .i64 o, .string nm, vlV u] w fun e w' => e = .returned (.int .i64 4) ∧ Below w.heap.size w w' := by
  have A := (Below.refl w.heap.size w).alloc (Nat.le_refl _) (Obj.cells #[.int .i64 u.1, .int .i64 u.2.1, .string u.2.2] 26)
  have HA := hid A
  have HH := hid (yhas_calls _ (p.on A) o)
  rw [hg] at HH
  clear A p
  unfold vlV
  go_enter Tryz.func36, Tryz.ntmps36
  go_wp2_with fail
  refine HH.out.mono ?_
  rintro e0 w0 ⟨rfl, rfl⟩
  go_wp2_with fail
  go_ret
  exact ⟨rfl, HA.out⟩
set_option maxHeartbeats 2000000 in
theorem yset_has (w : World) (p : RhM H r f v tv q col w) (W : WfH K H) (hK : K ≤ 900000) {i : Nat} {x : Ob} (hi : H.os[i]? = some x) (nm : ByteArray) (hn : nm.size ≤ 1000000) (u : Vl) (hh : hasL x.l nm = true) :
    Calls Tryz.prog 36 #[.pointer (some ⟨r, 0, none⟩), .int .i64 ((i + 1 : Nat) : Int), .string nm, vlV u] w fun e w' => e = .returned (.int .i64 0) ∧ Chn (putI H i { x with l := setL x.l nm u }) r f col w w' := by
  have A := (Below.refl w.heap.size w).alloc (Nat.le_refl _) (Obj.cells #[.int .i64 u.1, .int .i64 u.2.1, .string u.2.2] 26)
  have HA := hid A
  have HH := hid (yhas_calls _ (p.on A) ((i + 1 : Nat) : Int))
  rw [show getO H ((i + 1 : Nat) : Int) = some x by rw [getO_succ]; exact hi] at HH
  have hil := lt_of_get hi
  have hl : H.os.length ≤ 200 := by have := W.len; have := W.most; omega
  have hfew := (W.obs i x hi).few
  obtain ⟨c0, _⟩ := (p.on A).cells
  obtain ⟨g, cap, rfl, hgl, c1⟩ := (p.on A).at' hil
  obtain ⟨nv, vv, h1, h2⟩ := p.ob i x hi
  have hq := (h1.on A).lt (.inl rfl)
  have HG := hid (orget_calls _ (h1.on A) nm (by omega))
  rw [hh] at HG
  unfold vlV at *
  generalize gotV x.l nm = u0 at *
  have HBx : Hid (Blk w.heap.size 26 #[.int .i64 u.1, .int .i64 u.2.1, .string u.2.2] (w.alloc (Obj.cells #[.int .i64 u.1, .int .i64 u.2.1, .string u.2.2] 26))) := hid (blk_new _ _ _)
  have HP := hid p
  have H1 := hid h1
  have H2 := hid h2
  have HI := hid hi
  have HW := hid W
  clear A p h1 h2 hi W hh
  go_enter Tryz.func36, Tryz.ntmps36
  go_wp2_with fail
  refine HH.out.mono ?_
  rintro e0 w0 ⟨rfl, rfl⟩
  go_wp2_with fail
  refine HG.out.mono ?_
  rintro e1 w1 ⟨rfl, b1⟩
  have a2 := (Below.refl w1.heap.size w1).alloc (Nat.le_refl _) (Obj.cells #[.int .i64 u0.1, .int .i64 u0.2.1, .string u0.2.2] 26)
  have B2 := hid (below_on HA.out (below_on b1 a2))
  have X2 := hid (blk_on HBx.out (below_on b1 a2))
  generalize hw2 : w1.alloc (Obj.cells #[.int .i64 u0.1, .int .i64 u0.2.1, .string u0.2.2] 26) = w2 at *
  have P2 := HP.out.on B2.out
  have O2 := H1.out.on B2.out
  obtain ⟨z0, z1, z2, z3, z4, hz⟩ := O2.five
  obtain ⟨c0, d1, d2, d3, d4, hr⟩ := P2.cells
  have x0 : w2.cell? ⟨w.heap.size, 0, none⟩ = some (.int .i64 u.1) := by rw [blk_cell X2.out]; rfl
  have x1 : w2.cell? ⟨w.heap.size, 1, none⟩ = some (.int .i64 u.2.1) := by rw [blk_cell X2.out]; rfl
  have x2 : w2.cell? ⟨w.heap.size, 2, none⟩ = some (.string u.2.2) := by rw [blk_cell X2.out]; rfl
  have hx := blk_lt X2.out
  obtain ⟨na, nc, rfl⟩ := row_shape O2.nam
  have PP := hid P2
  have OO := hid O2
  clear b1 a2 P2 O2 HG HH HBx HA
  go_wp2_with fail
  refine wp_region_held_drew (S := fun aZ => True) (by kernel_rfl) ?_ (fun hHeld => ?_)
  · trivial
  refine tkk 0 ?_
  refine tkk 1 ?_
  refine tkk 2 ?_
  refine tks 3 ?_
  refine tks 4 ?_
  refine tks 5 ?_
  refine tks 6 ?_
  refine tks 7 ?_
  refine tks 8 ?_
  refine tks 9 ?_
  refine tks 10 ?_
  refine tks 11 ?_
  refine tks 12 ?_
  refine tks 13 ?_
  refine tkk 14 ?_
  refine wpAnyH_done (by kernel_rfl) ?_ _
  have b3 := (Below.refl w2.heap.size w2).drew
  have B3 := hid (below_on B2.out b3)
  have X3 := hid (blk_on X2.out b3)
  have P3 := hid (PP.out.on b3)
  have O3 := hid (OO.out.on b3)
  clear b3 B2 X2 PP OO hw2
  generalize hw3 : w2.drew = w3 at *
  have hl2 : x.l.length ≤ 1000000 := by omega
  have CO := H2
  have CX := hid (HP.out.top w.heap.size (Nat.le_refl _))
  have G3 := hid (Grew.below (P := fun u => u = 4 + i) B3.out HP.out.top)
  obtain ⟨z0, z1, z2, z3, z4, hz⟩ := O3.out.five
  obtain ⟨c0, d1, d2, d3, d4, hr⟩ := P3.out.cells
  have x0 : w3.cell? ⟨w.heap.size, 0, none⟩ = some (.int .i64 u.1) := by rw [blk_cell X3.out]; rfl
  have x1 : w3.cell? ⟨w.heap.size, 1, none⟩ = some (.int .i64 u.2.1) := by rw [blk_cell X3.out]; rfl
  have x2 : w3.cell? ⟨w.heap.size, 2, none⟩ = some (.string u.2.2) := by rw [blk_cell X3.out]; rfl
  have hx := blk_lt X3.out
  go_wp2_with fail
  have bD := (Below.refl w3.heap.size w3).drew
  have PD := hid (P3.out.on bD)
  have OD := hid (O3.out.on bD)
  have XD := hid (blk_on X3.out bD)
  have HC := hid (orset_calls w3.drew OD.out nm u hl2)
  have GD := hid (Grew.trans G3.out (Grew.below bD (P3.out.top)))
  unfold vlV at HC
  clear bD
  refine wp_region_held_drew (S := fun aZ => aZ.cell? ⟨w.heap.size, 0, none⟩ = some (.int .i64 u.1) ∧ aZ.cell? ⟨w.heap.size, 1, none⟩ = some (.int .i64 u.2.1) ∧ aZ.cell? ⟨w.heap.size, 2, none⟩ = some (.string u.2.2)) (by kernel_rfl) ?_ (fun hHeld => ?_)
  · (refine ⟨?_, ?_, ?_⟩ <;> go_simp)
  refine tkk 0 ?_
  refine tkk 1 ?_
  refine tkk 2 ?_
  refine tkk 3 ?_
  refine tkk 4 ?_
  refine rdy 5 (fun K hK => ?_)
  go_simp
  refine HC.out.mono ?_
  rintro e4 w4 ⟨rfl, nv4, vv4, o4, k4, n4⟩
  obtain ⟨col4, p4, g4⟩ := PD.out.objK (x' := { x with l := setL x.l nm u }) HI.out (CO.out) k4 o4 n4
  have X4 := blk_keep XD.out k4 (fun e => by have := CO.out _ e; have := CX.out; omega)
  have P4 := hid p4
  have G4 := hid (grew_more GD.out g4)
  have x0 : w4.cell? ⟨w.heap.size, 0, none⟩ = some (.int .i64 u.1) := by rw [blk_cell X4]; rfl
  have x1 : w4.cell? ⟨w.heap.size, 1, none⟩ = some (.int .i64 u.2.1) := by rw [blk_cell X4]; rfl
  have x2 : w4.cell? ⟨w.heap.size, 2, none⟩ = some (.string u.2.2) := by rw [blk_cell X4]; rfl
  clear o4 k4 n4 p4 g4 X4 HC
  go_simp
  refine hK.out _ _ ?_ (fun _ => ?_)
  · (refine ⟨?_, ?_, ?_⟩ <;> (first | assumption | go_simp))
  clear hK K
  refine wpAnyH_done (by kernel_rfl) ?_ _
  go_wp2_with fail
  go_ret
  exact ⟨rfl, chn_of P4.out G4.out (fun u e => by omega)⟩
set_option maxHeartbeats 2000000 in
theorem yset_full (w : World) (p : RhM H r f v tv q col w) (W : WfH K H) (hK : K ≤ 900000) {i : Nat} {x : Ob} (hi : H.os[i]? = some x) (nm : ByteArray) (hn : nm.size ≤ 1000000) (u : Vl) (hh : hasL x.l nm = false) (hf : H.props ≤ x.l.length) :
    Calls Tryz.prog 36 #[.pointer (some ⟨r, 0, none⟩), .int .i64 ((i + 1 : Nat) : Int), .string nm, vlV u] w fun e w' => e = .returned (.int .i64 42) ∧ Below w.heap.size w w' := by
  have df : decide ((H.props : Int) ≤ (x.l.length : Int)) = true := decide_eq_true (by omega)
  have A := (Below.refl w.heap.size w).alloc (Nat.le_refl _) (Obj.cells #[.int .i64 u.1, .int .i64 u.2.1, .string u.2.2] 26)
  have HA := hid A
  have HH := hid (yhas_calls _ (p.on A) ((i + 1 : Nat) : Int))
  rw [show getO H ((i + 1 : Nat) : Int) = some x by rw [getO_succ]; exact hi] at HH
  have hil := lt_of_get hi
  have hl : H.os.length ≤ 200 := by have := W.len; have := W.most; omega
  have hfew := (W.obs i x hi).few
  obtain ⟨c0, _⟩ := (p.on A).cells
  obtain ⟨g, cap, rfl, hgl, c1⟩ := (p.on A).at' hil
  obtain ⟨nv, vv, h1, h2⟩ := p.ob i x hi
  have hq := (h1.on A).lt (.inl rfl)
  have HG := hid (orget_calls _ (h1.on A) nm (by omega))
  rw [hh] at HG
  unfold vlV at *
  generalize gotV x.l nm = u0 at *
  have HBx : Hid (Blk w.heap.size 26 #[.int .i64 u.1, .int .i64 u.2.1, .string u.2.2] (w.alloc (Obj.cells #[.int .i64 u.1, .int .i64 u.2.1, .string u.2.2] 26))) := hid (blk_new _ _ _)
  have HP := hid p
  have H1 := hid h1
  have H2 := hid h2
  have HI := hid hi
  have HW := hid W
  clear A p h1 h2 hi W hh
  go_enter Tryz.func36, Tryz.ntmps36
  go_wp2_with fail
  refine HH.out.mono ?_
  rintro e0 w0 ⟨rfl, rfl⟩
  go_wp2_with fail
  refine HG.out.mono ?_
  rintro e1 w1 ⟨rfl, b1⟩
  have a2 := (Below.refl w1.heap.size w1).alloc (Nat.le_refl _) (Obj.cells #[.int .i64 u0.1, .int .i64 u0.2.1, .string u0.2.2] 26)
  have B2 := hid (below_on HA.out (below_on b1 a2))
  have X2 := hid (blk_on HBx.out (below_on b1 a2))
  generalize hw2 : w1.alloc (Obj.cells #[.int .i64 u0.1, .int .i64 u0.2.1, .string u0.2.2] 26) = w2 at *
  have P2 := HP.out.on B2.out
  have O2 := H1.out.on B2.out
  obtain ⟨z0, z1, z2, z3, z4, hz⟩ := O2.five
  obtain ⟨c0, d1, d2, d3, d4, hr⟩ := P2.cells
  have x0 : w2.cell? ⟨w.heap.size, 0, none⟩ = some (.int .i64 u.1) := by rw [blk_cell X2.out]; rfl
  have x1 : w2.cell? ⟨w.heap.size, 1, none⟩ = some (.int .i64 u.2.1) := by rw [blk_cell X2.out]; rfl
  have x2 : w2.cell? ⟨w.heap.size, 2, none⟩ = some (.string u.2.2) := by rw [blk_cell X2.out]; rfl
  have hx := blk_lt X2.out
  obtain ⟨na, nc, rfl⟩ := row_shape O2.nam
  have PP := hid P2
  have OO := hid O2
  clear b1 a2 P2 O2 HG HH HBx HA
  go_wp2_with fail
  refine wp_region_held_drew (S := fun aZ => aZ.cell? ⟨q i, 1, none⟩ = some (.slice na x.l.length nc) ∧ aZ.cell? ⟨r, 2, none⟩ = some (.int .i64 (H.props : Int))) (by kernel_rfl) ?_ (fun hHeld => ?_)
  · (refine ⟨?_, ?_⟩ <;> go_simp)
  refine tkk 0 ?_
  refine tkk 1 ?_
  refine tkk 2 ?_
  refine tkk 3 ?_
  refine tkk 4 ?_
  refine tkk 5 ?_
  refine tkk 6 ?_
  refine tkk 7 ?_
  refine tkk 8 ?_
  refine tkk 9 ?_
  refine tkk 10 ?_
  refine tkk 11 ?_
  refine tkk 12 ?_
  refine tkk 13 ?_
  refine tkk 14 ?_
  refine wpAnyH_done (by kernel_rfl) ?_ _
  have b3 := (Below.refl w2.heap.size w2).drew
  have B3 := hid (below_on B2.out b3)
  have X3 := hid (blk_on X2.out b3)
  have P3 := hid (PP.out.on b3)
  have O3 := hid (OO.out.on b3)
  clear b3 B2 X2 PP OO hw2
  generalize hw3 : w2.drew = w3 at *
  clear P3 O3 X3
  go_wp2_with fail
  go_ret
  exact ⟨rfl, B3.out⟩
theorem next_put {i : Nat} {x : Ob} (id : Int) (s : ByteArray) : nextH (putI H i x) id s = putI (nextH H id s) i x ∧ nextN (putI H i x) id s = nextN H id s := by
  unfold nextH nextN putI
  cases getS H.L id <;> exact ⟨rfl, rfl⟩
theorem next_os (id : Int) (s : ByteArray) : (nextH H id s).os = H.os := by unfold nextH; cases getS H.L id <;> rfl
theorem put_put {i : Nat} {x y : Ob} : putI (putI H i x) i y = putI H i y := by unfold putI; simp
theorem put_at {i : Nat} {x : Ob} (hi : i < H.os.length) : (putI H i x).os[i]? = some x := by unfold putI; simp [hi]
set_option maxHeartbeats 2000000 in
theorem yset_new (w : World) (p : RhM H r f v tv q col w) (W : WfH K H) (hK : K ≤ 900000) {i : Nat} {x : Ob} (hi : H.os[i]? = some x) (nm : ByteArray) (hn : nm.size ≤ 1000000) (u : Vl) (hh : hasL x.l nm = false) (hf : x.l.length < H.props) :
    Calls Tryz.prog 36 #[.pointer (some ⟨r, 0, none⟩), .int .i64 ((i + 1 : Nat) : Int), .string nm, vlV u] w fun e w' => e = .returned (.int .i64 0) ∧ Chn (putI (nextH H x.sh nm) i { x with l := x.l ++ [(nm, u)], ep := x.ep + 1, sh := nextN H x.sh nm }) r f col w w' := by
  have df : decide ((H.props : Int) ≤ (x.l.length : Int)) = false := decide_eq_false (by omega)
  have hep := (W.obs i x hi).ep
  have hnl := W.nl
  have hsn := hid (setL_new u hh)
  have A := (Below.refl w.heap.size w).alloc (Nat.le_refl _) (Obj.cells #[.int .i64 u.1, .int .i64 u.2.1, .string u.2.2] 26)
  have HA := hid A
  have HH := hid (yhas_calls _ (p.on A) ((i + 1 : Nat) : Int))
  rw [show getO H ((i + 1 : Nat) : Int) = some x by rw [getO_succ]; exact hi] at HH
  have hil := lt_of_get hi
  have hl : H.os.length ≤ 200 := by have := W.len; have := W.most; omega
  have hfew := (W.obs i x hi).few
  obtain ⟨c0, _⟩ := (p.on A).cells
  obtain ⟨g, cap, rfl, hgl, c1⟩ := (p.on A).at' hil
  obtain ⟨nv, vv, h1, h2⟩ := p.ob i x hi
  have hq := (h1.on A).lt (.inl rfl)
  have HG := hid (orget_calls _ (h1.on A) nm (by omega))
  rw [hh] at HG
  unfold vlV at *
  generalize gotV x.l nm = u0 at *
  have HBx : Hid (Blk w.heap.size 26 #[.int .i64 u.1, .int .i64 u.2.1, .string u.2.2] (w.alloc (Obj.cells #[.int .i64 u.1, .int .i64 u.2.1, .string u.2.2] 26))) := hid (blk_new _ _ _)
  have HP := hid p
  have H1 := hid h1
  have H2 := hid h2
  have HI := hid hi
  have HW := hid W
  clear A p h1 h2 hi W hh
  go_enter Tryz.func36, Tryz.ntmps36
  go_wp2_with fail
  refine HH.out.mono ?_
  rintro e0 w0 ⟨rfl, rfl⟩
  go_wp2_with fail
  refine HG.out.mono ?_
  rintro e1 w1 ⟨rfl, b1⟩
  have a2 := (Below.refl w1.heap.size w1).alloc (Nat.le_refl _) (Obj.cells #[.int .i64 u0.1, .int .i64 u0.2.1, .string u0.2.2] 26)
  have B2 := hid (below_on HA.out (below_on b1 a2))
  have X2 := hid (blk_on HBx.out (below_on b1 a2))
  generalize hw2 : w1.alloc (Obj.cells #[.int .i64 u0.1, .int .i64 u0.2.1, .string u0.2.2] 26) = w2 at *
  have P2 := HP.out.on B2.out
  have O2 := H1.out.on B2.out
  obtain ⟨z0, z1, z2, z3, z4, hz⟩ := O2.five
  obtain ⟨c0, d1, d2, d3, d4, hr⟩ := P2.cells
  have x0 : w2.cell? ⟨w.heap.size, 0, none⟩ = some (.int .i64 u.1) := by rw [blk_cell X2.out]; rfl
  have x1 : w2.cell? ⟨w.heap.size, 1, none⟩ = some (.int .i64 u.2.1) := by rw [blk_cell X2.out]; rfl
  have x2 : w2.cell? ⟨w.heap.size, 2, none⟩ = some (.string u.2.2) := by rw [blk_cell X2.out]; rfl
  have hx := blk_lt X2.out
  obtain ⟨na, nc, rfl⟩ := row_shape O2.nam
  have PP := hid P2
  have OO := hid O2
  clear b1 a2 P2 O2 HG HH HBx HA
  go_wp2_with fail
  refine wp_region_held_drew (S := fun aZ => aZ.cell? ⟨q i, 1, none⟩ = some (.slice na x.l.length nc) ∧ aZ.cell? ⟨r, 2, none⟩ = some (.int .i64 (H.props : Int))) (by kernel_rfl) ?_ (fun hHeld => ?_)
  · (refine ⟨?_, ?_⟩ <;> go_simp)
  refine tkk 0 ?_
  refine tkk 1 ?_
  refine tkk 2 ?_
  refine tkk 3 ?_
  refine tkk 4 ?_
  refine tkk 5 ?_
  refine tkk 6 ?_
  refine tkk 7 ?_
  refine tkk 8 ?_
  refine tkk 9 ?_
  refine tkk 10 ?_
  refine tkk 11 ?_
  refine tkk 12 ?_
  refine tkk 13 ?_
  refine tkk 14 ?_
  refine wpAnyH_done (by kernel_rfl) ?_ _
  have b3 := (Below.refl w2.heap.size w2).drew
  have B3 := hid (below_on B2.out b3)
  have X3 := hid (blk_on X2.out b3)
  have P3 := hid (PP.out.on b3)
  have O3 := hid (OO.out.on b3)
  clear b3 B2 X2 PP OO hw2
  generalize hw3 : w2.drew = w3 at *
  have hl2 : x.l.length ≤ 1000000 := by omega
  have CX := hid (HP.out.top w.heap.size (Nat.le_refl _))
  have G3 := hid (Grew.below (P := fun u => u = 4 + i ∨ u = 1 ∨ u = 2 ∨ u = 3) B3.out HP.out.top)
  obtain ⟨z0, z1, z2, z3, z4, hz⟩ := O3.out.five
  obtain ⟨c0, d1, d2, d3, d4, hr⟩ := P3.out.cells
  have x0 : w3.cell? ⟨w.heap.size, 0, none⟩ = some (.int .i64 u.1) := by rw [blk_cell X3.out]; rfl
  have x1 : w3.cell? ⟨w.heap.size, 1, none⟩ = some (.int .i64 u.2.1) := by rw [blk_cell X3.out]; rfl
  have x2 : w3.cell? ⟨w.heap.size, 2, none⟩ = some (.string u.2.2) := by rw [blk_cell X3.out]; rfl
  have hx := blk_lt X3.out
  have fz3 := blk_free O3.out.blk 3
  obtain ⟨s3, k3⟩ := O3.out.setE (.int .i64 ((x.ep : Int) + 1))
  obtain ⟨col5, p5, g5⟩ := P3.out.objK (x' := { x with ep := x.ep + 1 }) HI.out H2.out k3 s3 (fun y h => .inl h)
  have hil5 : i < (putI H i { x with ep := x.ep + 1 }).os.length := by unfold putI; simpa using hil
  have hput := put_at (x := { x with ep := x.ep + 1 }) hil
  have HN := hid (ynext_calls _ p5 HW.out.wfs (by show H.N.length ≤ 1000000; omega) (x.sh : Int) nm)
  rw [(next_put (x := { x with ep := x.ep + 1 }) (x.sh : Int) nm).1, (next_put (x := { x with ep := x.ep + 1 }) (x.sh : Int) nm).2] at HN
  have X5 := hid (blk_keep X3.out k3 (fun e => by have := H2.out _ e; have := CX.out; omega))
  have G5 := hid (G3.out.trans (g5.mono (Q := fun u => u = 4 + i ∨ u = 1 ∨ u = 2 ∨ u = 3) (fun _ e => .inl e)))
  have CX5 := hid ((g5.old _ hx).trans CX.out)
  clear s3 k3 p5 g5
  go_wp2_with fail
  refine HN.out.mono ?_
  rintro e6 w6 ⟨rfl, tv6, col6, p6, g6⟩
  obtain ⟨nv6, vv6, o6, c6⟩ := p6.ob i { x with ep := x.ep + 1 } (put_at (by rw [next_os]; exact hil))
  have X6 := blk_keep X5.out g6.keep (by rw [CX5.out]; omega)
  have hx6 := blk_lt X5.out
  have G6 := G5.out.trans (g6.mono (Q := fun u => u = 4 + i ∨ u = 1 ∨ u = 2 ∨ u = 3) (fun _ e => .inr e))
  have cx6 := (g6.old _ hx6).trans CX5.out
  have fz6 := blk_free o6.blk 4
  obtain ⟨z0, z1, z2, z3, z4, hz⟩ := o6.five
  obtain ⟨s6, k6⟩ := o6.setS (.int .i64 (nextN H x.sh nm : Int))
  obtain ⟨col7, p7, g7⟩ := p6.objK (x' := { x with ep := x.ep + 1, sh := nextN H x.sh nm }) (put_at (by rw [next_os]; exact hil)) c6 k6 s6 (fun y h => .inl h)
  rw [put_put] at p7
  have P7 := hid p7
  have O7 := hid s6
  have X7 := hid (blk_keep X6 k6 (fun e => by have := c6 _ e; omega))
  have G7 := hid (G6.trans (g7.mono (Q := fun u => u = 4 + i ∨ u = 1 ∨ u = 2 ∨ u = 3) (fun _ e => .inl e)))
  have CX := hid ((g7.old _ (blk_lt X6)).trans cx6)
  have CO := hid (show ∀ y, FtO (q i) nv6 vv6 y → col7 y = 4 + i from fun y h => (g7.old y (o6.lt h)).trans (c6 y h))
  have HI7 := hid (put_at (H := nextH H x.sh nm) (x := { x with ep := x.ep + 1, sh := nextN H x.sh nm }) (by rw [next_os]; exact hil))
  clear p6 g6 o6 c6 X6 G6 cx6 s6 k6 p7 g7 HN G5 X5 CX5 P3 O3 X3 G3 B3
  go_wp2_with fail
  generalize hw7 : w6.setCell ⟨q i, 4, none⟩ (.int .i64 (nextN H x.sh nm : Int)) = w7 at *
  obtain ⟨z0, z1, z2, z3, z4, hz⟩ := O7.out.five
  have x0 : w7.cell? ⟨w.heap.size, 0, none⟩ = some (.int .i64 u.1) := by rw [blk_cell X7.out]; rfl
  have x1 : w7.cell? ⟨w.heap.size, 1, none⟩ = some (.int .i64 u.2.1) := by rw [blk_cell X7.out]; rfl
  have x2 : w7.cell? ⟨w.heap.size, 2, none⟩ = some (.string u.2.2) := by rw [blk_cell X7.out]; rfl
  have hx := blk_lt X7.out
  have bD := (Below.refl w7.heap.size w7).drew
  have PD := hid (P7.out.on bD)
  have OD := hid (O7.out.on bD)
  have XD := hid (blk_on X7.out bD)
  have HC := hid (orset_calls w7.drew OD.out nm u hl2)
  have GD := hid (Grew.trans G7.out (Grew.below bD (P7.out.top)))
  unfold vlV at HC
  clear bD
  refine wp_region_held_drew (S := fun aZ => aZ.cell? ⟨w.heap.size, 0, none⟩ = some (.int .i64 u.1) ∧ aZ.cell? ⟨w.heap.size, 1, none⟩ = some (.int .i64 u.2.1) ∧ aZ.cell? ⟨w.heap.size, 2, none⟩ = some (.string u.2.2)) (by kernel_rfl) ?_ (fun hHeld => ?_)
  · (refine ⟨?_, ?_, ?_⟩ <;> go_simp)
  refine tkk 0 ?_
  refine tkk 1 ?_
  refine tkk 2 ?_
  refine tkk 3 ?_
  refine tkk 4 ?_
  refine rdy 5 (fun K hK => ?_)
  go_simp
  refine HC.out.mono ?_
  rintro e4 w4 ⟨rfl, nv4, vv4, o4, k4, n4⟩
  obtain ⟨col4, p4, g4⟩ := PD.out.objK (x' := { x with l := setL x.l nm u, ep := x.ep + 1, sh := nextN H x.sh nm }) HI7.out (CO.out) k4 o4 n4
  have X4 := blk_keep XD.out k4 (fun e => by have := CO.out _ e; have := CX.out; omega)
  have P4 := hid p4
  have G4 := hid (grew_more GD.out g4)
  have x0 : w4.cell? ⟨w.heap.size, 0, none⟩ = some (.int .i64 u.1) := by rw [blk_cell X4]; rfl
  have x1 : w4.cell? ⟨w.heap.size, 1, none⟩ = some (.int .i64 u.2.1) := by rw [blk_cell X4]; rfl
  have x2 : w4.cell? ⟨w.heap.size, 2, none⟩ = some (.string u.2.2) := by rw [blk_cell X4]; rfl
  clear o4 k4 n4 p4 g4 X4 HC
  go_simp
  refine hK.out _ _ ?_ (fun _ => ?_)
  · (refine ⟨?_, ?_, ?_⟩ <;> (first | assumption | go_simp))
  clear hK K
  refine wpAnyH_done (by kernel_rfl) ?_ _
  go_wp2_with fail
  go_ret
  have Q4 := P4.out
  rw [put_put, hsn.out] at Q4
  exact ⟨rfl, chn_of Q4 G4.out (fun u e => by omega)⟩
theorem yset_calls (w : World) (p : RhM H r f v tv q col w) (W : WfH K H) (hK : K ≤ 900000) (o : Int) (nm : ByteArray) (hn : nm.size ≤ 1000000) (u : Vl) :
    Calls Tryz.prog 36 #[.pointer (some ⟨r, 0, none⟩), .int .i64 o, .string nm, vlV u] w fun e w' => e = .returned (.int .i64 (setE H o nm)) ∧ Chn (setH H o nm u) r f col w w' := by
  have same : ∀ {w' : World}, Below w.heap.size w w' → Chn H r f col w w' := fun {w'} b => chn_of (P := fun u => u = 1) (p.on b) (Grew.below b p.top) (fun u e => by omega)
  unfold setE setH
  cases hg : getO H o with
  | none =>
    refine (yset_none w p o nm u hg).mono ?_
    rintro e w' ⟨rfl, b⟩
    exact ⟨rfl, same b⟩
  | some x =>
    obtain ⟨i, rfl, hi⟩ := getO_some hg
    have hp : ∀ (H' : He) (y : Ob), putO H' ((i + 1 : Nat) : Int) y = putI H' i y := fun H' y => by unfold putO putI; rw [show (((i + 1 : Nat) : Int) - 1).toNat = i by omega]
    dsimp only
    cases hh : hasL x.l nm with
    | true =>
      rw [if_pos rfl, if_pos rfl, hp]
      exact yset_has w p W hK hi nm hn u hh
    | false =>
      simp only [Bool.false_eq_true, ↓reduceIte]
      by_cases hf : H.props ≤ x.l.length
      · rw [if_pos hf, if_pos hf]
        refine (yset_full w p W hK hi nm hn u hh hf).mono ?_
        rintro e w' ⟨rfl, b⟩
        exact ⟨rfl, same b⟩
      · rw [if_neg hf, if_neg hf, hp]
        exact yset_new w p W hK hi nm hn u hh (by omega)
end
end Go.Proofs.YtemidicgipebjaaGreat
