/- The document's heap: Grow. -/
import Derived.Test.YtemidicgipebjaaGreatJoint2
import Derived.Test.YtemidicgipebjaaGreatRhDel
namespace Go.Proofs.YtemidicgipebjaaGreat
set_option linter.unusedSimpArgs false
set_option linter.unusedVariables false
set_option maxRecDepth 100000
open Go.RowKit
section
variable {K : Nat} {H : He} {r f : Nat} {v tv : Value} {q col : Nat → Nat}
theorem ygrow_none (w : World) (p : RhM H r f v tv q col w) (o to : Int) (u : Vl) (hg : getO H o = none) :
    Calls Tryz.prog 40 #[.pointer (some ⟨r, 0, none⟩), .int .i64 o, .int .i64 to, vlV u] w fun e w' => e = .returned (.int .i64 4) ∧ Below w.heap.size w w' := by
  have A := (Below.refl w.heap.size w).alloc (Nat.le_refl _) (Obj.cells #[.int .i64 u.1, .int .i64 u.2.1, .string u.2.2] 26)
  have HA := hid A
  have HH := hid (yhas_calls _ (p.on A) o)
  rw [hg] at HH
  clear A p
  unfold vlV
  go_enter Tryz.func40, Tryz.ntmps40
  go_wp2_with fail
  refine HH.out.mono ?_
  rintro e0 w0 ⟨rfl, rfl⟩
  go_wp2_with fail
  go_ret
  exact ⟨rfl, HA.out⟩
set_option maxHeartbeats 4000000 in
theorem ygrow_dict (w : World) (p : RhM H r f v tv q col w) (W : WfH K H) (hK : K ≤ 900000) {i : Nat} {x : Ob} (hi : H.os[i]? = some x) (to : Int) (u : Vl) (h0 : x.sh = 0) :
    Calls Tryz.prog 40 #[.pointer (some ⟨r, 0, none⟩), .int .i64 ((i + 1 : Nat) : Int), .int .i64 to, vlV u] w fun e w' => e = .returned (.int .i64 2) ∧ Below w.heap.size w w' := by
  have A := (Below.refl w.heap.size w).alloc (Nat.le_refl _) (Obj.cells #[.int .i64 u.1, .int .i64 u.2.1, .string u.2.2] 26)
  have HH := hid (yhas_calls _ (p.on A) ((i + 1 : Nat) : Int))
  rw [show getO H ((i + 1 : Nat) : Int) = some x by rw [getO_succ]; exact hi] at HH
  have hil := lt_of_get hi
  have hl : H.os.length ≤ 200 := by have := W.len; have := W.most; omega
  have hfew := (W.obs i x hi).few
  have hep := (W.obs i x hi).ep
  have B1 := hid A
  have X1 : Hid (Blk w.heap.size 26 #[.int .i64 u.1, .int .i64 u.2.1, .string u.2.2] (w.alloc (Obj.cells #[.int .i64 u.1, .int .i64 u.2.1, .string u.2.2] 26))) := hid (blk_new _ _ _)
  have P1 := hid (p.on A)
  obtain ⟨nv, vv, h1, h2⟩ := p.ob i x hi
  have O1 := hid (h1.on A)
  have H2 := hid h2
  have HI := hid hi
  have HW := hid W
  have HT := hid p.top
  have CX := hid (p.top w.heap.size (Nat.le_refl _))
  obtain ⟨c0, d1, d2, d3, d4, hr⟩ := P1.out.cells
  obtain ⟨g, cap, rfl, hgl, c1⟩ := P1.out.at' hil
  obtain ⟨z0, z1, z2, z3, z4, hz⟩ := O1.out.five
  rw [h0] at z4
  unfold vlV
  clear A p W hi h1 h2
  generalize hw1 : w.alloc (Obj.cells #[.int .i64 u.1, .int .i64 u.2.1, .string u.2.2] 26) = w1 at *
  go_enter Tryz.func40, Tryz.ntmps40
  go_wp2_with fail
  refine HH.out.mono ?_
  rintro e0 w0 ⟨rfl, hw0⟩
  subst w0
  go_wp2_with fail
  refine wp_region_held_drew (S := fun aZ => aZ.cell? ⟨q i, 4, none⟩ = some (.int .i64 0)) (by kernel_rfl) ?_ (fun hHeld => ?_)
  · go_simp
  refine tkk 0 ?_
  refine tkk 1 ?_
  refine tkk 2 ?_
  refine tkk 3 ?_
  refine tkk 4 ?_
  refine tkk 5 ?_
  refine tks 6 ?_
  refine tks 7 ?_
  refine tks 8 ?_
  refine tks 9 ?_
  refine tks 10 ?_
  refine tks 11 ?_
  refine tks 12 ?_
  refine tks 13 ?_
  refine tks 14 ?_
  refine tks 15 ?_
  refine tks 16 ?_
  refine tkk 17 ?_
  refine wpAnyH_done (by kernel_rfl) ?_ _
  go_wp2_with fail
  go_ret
  exact ⟨rfl, B1.out.drew⟩
set_option maxHeartbeats 4000000 in
theorem ygrow_other (w : World) (p : RhM H r f v tv q col w) (W : WfH K H) (hK : K ≤ 900000) {i : Nat} {x : Ob} (hi : H.os[i]? = some x) (to : Int) (u : Vl) (h0 : x.sh ≠ 0) (hp : parF H.L to ≠ x.sh) :
    Calls Tryz.prog 40 #[.pointer (some ⟨r, 0, none⟩), .int .i64 ((i + 1 : Nat) : Int), .int .i64 to, vlV u] w fun e w' => e = .returned (.int .i64 2) ∧ Below w.heap.size w w' := by
  have dpar : (((parF H.L to : Nat) : Int) != ((x.sh : Nat) : Int)) = true := by simpa using (show ((parF H.L to : Nat) : Int) ≠ (x.sh : Int) by omega)
  have A := (Below.refl w.heap.size w).alloc (Nat.le_refl _) (Obj.cells #[.int .i64 u.1, .int .i64 u.2.1, .string u.2.2] 26)
  have HH := hid (yhas_calls _ (p.on A) ((i + 1 : Nat) : Int))
  rw [show getO H ((i + 1 : Nat) : Int) = some x by rw [getO_succ]; exact hi] at HH
  have hil := lt_of_get hi
  have hl : H.os.length ≤ 200 := by have := W.len; have := W.most; omega
  have hfew := (W.obs i x hi).few
  have hep := (W.obs i x hi).ep
  have B1 := hid A
  have X1 : Hid (Blk w.heap.size 26 #[.int .i64 u.1, .int .i64 u.2.1, .string u.2.2] (w.alloc (Obj.cells #[.int .i64 u.1, .int .i64 u.2.1, .string u.2.2] 26))) := hid (blk_new _ _ _)
  have P1 := hid (p.on A)
  obtain ⟨nv, vv, h1, h2⟩ := p.ob i x hi
  have O1 := hid (h1.on A)
  have H2 := hid h2
  have HI := hid hi
  have HW := hid W
  have HT := hid p.top
  have CX := hid (p.top w.heap.size (Nat.le_refl _))
  obtain ⟨c0, d1, d2, d3, d4, hr⟩ := P1.out.cells
  obtain ⟨g, cap, rfl, hgl, c1⟩ := P1.out.at' hil
  obtain ⟨z0, z1, z2, z3, z4, hz⟩ := O1.out.five
  unfold vlV
  clear A p W hi h1 h2
  generalize hw1 : w.alloc (Obj.cells #[.int .i64 u.1, .int .i64 u.2.1, .string u.2.2] 26) = w1 at *
  go_enter Tryz.func40, Tryz.ntmps40
  go_wp2_with fail
  refine HH.out.mono ?_
  rintro e0 w0 ⟨rfl, hw0⟩
  subst w0
  go_wp2_with fail
  have HPa := hid (rparent_calls w1.drew ((P1.out.on ((Below.refl _ _).drew)).fo) HW.out.wfs to)
  have dsh : (((x.sh : Nat) : Int) == 0) = false := by simpa using (show ((x.sh : Nat) : Int) ≠ 0 by omega)
  refine wp_region_held_drew (S := fun aZ => aZ.cell? ⟨q i, 4, none⟩ = some (.int .i64 (x.sh : Int)) ∧ aZ.cell? ⟨r, 3, none⟩ = some (.pointer (some ⟨f, 0, none⟩))) (by kernel_rfl) ?_ (fun hHeld => ?_)
  · (refine ⟨?_, ?_⟩ <;> go_simp)
  refine tkk 0 ?_
  refine tkk 1 ?_
  refine tkk 2 ?_
  refine tkk 3 ?_
  refine tkk 4 ?_
  refine tkk 5 ?_
  refine tkk 6 ?_
  refine tkk 7 ?_
  refine tkk 8 ?_
  refine tkk 9 ?_
  refine tkk 10 ?_
  refine tkk 12 ?_
  refine tkk 13 ?_
  refine tkk 14 ?_
  refine tkk 15 ?_
  refine rdy 11 (fun K hK => ?_)
  go_simp
  have b2 := (Below.refl w1.heap.size w1).drew
  have B2 := hid (below_on B1.out b2)
  have X2 := hid (blk_on X1.out b2)
  have P2 := hid (P1.out.on b2)
  have O2 := hid (O1.out.on b2)
  clear b2 B1 X1 P1 O1 hw1
  generalize hw2 : w1.drew = w2 at *
  refine HPa.out.mono ?_
  rintro e3 w3 ⟨rfl, b3⟩
  have B3 := hid (below_on B2.out b3)
  have X3 := hid (blk_on X2.out b3)
  have P3 := hid (P2.out.on b3)
  have O3 := hid (O2.out.on b3)
  clear b3 B2 X2 P2 O2 hw2 HPa
  obtain ⟨z0, z1, z2, z3, z4, hz⟩ := O3.out.five
  obtain ⟨c0, d1, d2, d3, d4, hr⟩ := P3.out.cells
  go_simp
  refine hK.out _ _ ?_ (fun _ => ?_)
  · (refine ⟨?_, ?_⟩ <;> (first | assumption | go_simp))
  clear hK K
  refine tkk 16 ?_
  refine tkk 17 ?_
  refine wpAnyH_done (by kernel_rfl) ?_ _
  go_wp2_with fail
  go_ret
  exact ⟨rfl, B3.out⟩
set_option maxHeartbeats 4000000 in
theorem ygrow_full (w : World) (p : RhM H r f v tv q col w) (W : WfH K H) (hK : K ≤ 900000) {i : Nat} {x : Ob} (hi : H.os[i]? = some x) (to : Int) (u : Vl) (h0 : x.sh ≠ 0) (hp : parF H.L to = x.sh) (hf : H.props ≤ x.l.length) :
    Calls Tryz.prog 40 #[.pointer (some ⟨r, 0, none⟩), .int .i64 ((i + 1 : Nat) : Int), .int .i64 to, vlV u] w fun e w' => e = .returned (.int .i64 42) ∧ Below w.heap.size w w' := by
  have df : decide ((H.props : Int) ≤ (x.l.length : Int)) = true := decide_eq_true (by omega)
  have dpar : (((parF H.L to : Nat) : Int) != ((x.sh : Nat) : Int)) = false := by rw [hp]; simp
  have A := (Below.refl w.heap.size w).alloc (Nat.le_refl _) (Obj.cells #[.int .i64 u.1, .int .i64 u.2.1, .string u.2.2] 26)
  have HH := hid (yhas_calls _ (p.on A) ((i + 1 : Nat) : Int))
  rw [show getO H ((i + 1 : Nat) : Int) = some x by rw [getO_succ]; exact hi] at HH
  have hil := lt_of_get hi
  have hl : H.os.length ≤ 200 := by have := W.len; have := W.most; omega
  have hfew := (W.obs i x hi).few
  have hep := (W.obs i x hi).ep
  have B1 := hid A
  have X1 : Hid (Blk w.heap.size 26 #[.int .i64 u.1, .int .i64 u.2.1, .string u.2.2] (w.alloc (Obj.cells #[.int .i64 u.1, .int .i64 u.2.1, .string u.2.2] 26))) := hid (blk_new _ _ _)
  have P1 := hid (p.on A)
  obtain ⟨nv, vv, h1, h2⟩ := p.ob i x hi
  have O1 := hid (h1.on A)
  have H2 := hid h2
  have HI := hid hi
  have HW := hid W
  have HT := hid p.top
  have CX := hid (p.top w.heap.size (Nat.le_refl _))
  obtain ⟨c0, d1, d2, d3, d4, hr⟩ := P1.out.cells
  obtain ⟨g, cap, rfl, hgl, c1⟩ := P1.out.at' hil
  obtain ⟨z0, z1, z2, z3, z4, hz⟩ := O1.out.five
  unfold vlV
  clear A p W hi h1 h2
  generalize hw1 : w.alloc (Obj.cells #[.int .i64 u.1, .int .i64 u.2.1, .string u.2.2] 26) = w1 at *
  go_enter Tryz.func40, Tryz.ntmps40
  go_wp2_with fail
  refine HH.out.mono ?_
  rintro e0 w0 ⟨rfl, hw0⟩
  subst w0
  go_wp2_with fail
  have HPa := hid (rparent_calls w1.drew ((P1.out.on ((Below.refl _ _).drew)).fo) HW.out.wfs to)
  have dsh : (((x.sh : Nat) : Int) == 0) = false := by simpa using (show ((x.sh : Nat) : Int) ≠ 0 by omega)
  refine wp_region_held_drew (S := fun aZ => aZ.cell? ⟨q i, 4, none⟩ = some (.int .i64 (x.sh : Int)) ∧ aZ.cell? ⟨r, 3, none⟩ = some (.pointer (some ⟨f, 0, none⟩))) (by kernel_rfl) ?_ (fun hHeld => ?_)
  · (refine ⟨?_, ?_⟩ <;> go_simp)
  refine tkk 0 ?_
  refine tkk 1 ?_
  refine tkk 2 ?_
  refine tkk 3 ?_
  refine tkk 4 ?_
  refine tkk 5 ?_
  refine tkk 6 ?_
  refine tkk 7 ?_
  refine tkk 8 ?_
  refine tkk 9 ?_
  refine tkk 10 ?_
  refine tkk 12 ?_
  refine tkk 13 ?_
  refine tkk 14 ?_
  refine tkk 15 ?_
  refine rdy 11 (fun K hK => ?_)
  go_simp
  have b2 := (Below.refl w1.heap.size w1).drew
  have B2 := hid (below_on B1.out b2)
  have X2 := hid (blk_on X1.out b2)
  have P2 := hid (P1.out.on b2)
  have O2 := hid (O1.out.on b2)
  clear b2 B1 X1 P1 O1 hw1
  generalize hw2 : w1.drew = w2 at *
  refine HPa.out.mono ?_
  rintro e3 w3 ⟨rfl, b3⟩
  have B3 := hid (below_on B2.out b3)
  have X3 := hid (blk_on X2.out b3)
  have P3 := hid (P2.out.on b3)
  have O3 := hid (O2.out.on b3)
  clear b3 B2 X2 P2 O2 hw2 HPa
  obtain ⟨z0, z1, z2, z3, z4, hz⟩ := O3.out.five
  obtain ⟨c0, d1, d2, d3, d4, hr⟩ := P3.out.cells
  go_simp
  refine hK.out _ _ ?_ (fun _ => ?_)
  · (refine ⟨?_, ?_⟩ <;> (first | assumption | go_simp))
  clear hK K
  refine tkk 16 ?_
  refine tkk 17 ?_
  refine wpAnyH_done (by kernel_rfl) ?_ _
  obtain ⟨na, nc, rfl⟩ := row_shape O3.out.nam
  go_wp2_with fail
  refine wp_region_held_drew (S := fun aZ => aZ.cell? ⟨q i, 1, none⟩ = some (.slice na x.l.length nc) ∧ aZ.cell? ⟨r, 2, none⟩ = some (.int .i64 (H.props : Int))) (by kernel_rfl) ?_ (fun hHeld => ?_)
  · (refine ⟨?_, ?_⟩ <;> go_simp)
  refine tkk 0 ?_
  refine tkk 1 ?_
  refine tkk 2 ?_
  refine tkk 3 ?_
  refine tkk 4 ?_
  refine tkk 5 ?_
  refine tkk 6 ?_
  refine tkk 7 ?_
  refine tkk 8 ?_
  refine tkk 9 ?_
  refine tkk 10 ?_
  refine wpAnyH_done (by kernel_rfl) ?_ _
  have b4 := (Below.refl w3.heap.size w3).drew
  have B4 := hid (below_on B3.out b4)
  have X4 := hid (blk_on X3.out b4)
  have P4 := hid (P3.out.on b4)
  have O4 := hid (O3.out.on b4)
  clear b4 B3 X3 P3 O3
  generalize hw4 : w3.drew = w4 at *
  go_wp2_with fail
  go_ret
  exact ⟨rfl, B4.out⟩
set_option maxHeartbeats 4000000 in
theorem ygrow_more (w : World) (p : RhM H r f v tv q col w) (W : WfH K H) (hK : K ≤ 900000) {i : Nat} {x : Ob} (hi : H.os[i]? = some x) (to : Int) (u : Vl) (h0 : x.sh ≠ 0) (hp : parF H.L to = x.sh) (hf : x.l.length < H.props) :
    Calls Tryz.prog 40 #[.pointer (some ⟨r, 0, none⟩), .int .i64 ((i + 1 : Nat) : Int), .int .i64 to, vlV u] w fun e w' => e = .returned (.int .i64 0) ∧ Chn (putI H i { x with l := x.l ++ [(lastN H to, u)], ep := x.ep + 1, sh := to.toNat }) r f col w w' := by
  have df : decide ((H.props : Int) ≤ (x.l.length : Int)) = false := decide_eq_false (by omega)
  have dpar : (((parF H.L to : Nat) : Int) != ((x.sh : Nat) : Int)) = false := by rw [hp]; simp
  obtain ⟨ns, y, e1, e2, e3, e4, e5, e6, e7⟩ := child_of W hi h0 hp
  have hto : ((to.toNat : Nat) : Int) = to := by omega
  have hnf : namesF H.L to = ns ++ [y] := by unfold namesF; rw [e1]
  have hnl := W.nl
  obtain ⟨j0, hj0, hjL⟩ := getS_some e1
  have hy := W.nums j0 _ hjL y (by simp)
  have hnsl := W.wfs.few j0 _ hjL
  obtain ⟨jy, rfl⟩ : ∃ jy : Nat, y = (jy : Int) + 1 := ⟨(y - 1).toNat, by omega⟩
  have htx : H.N[jy]? = some (lastN H to) := by
    rw [e4]
    have hjy : jy < H.N.length := by omega
    rw [List.getElem?_eq_getElem hjy]
    exact congrArg some (textN_at (List.getElem?_eq_getElem hjy)).symm
  generalize lastN H to = nm at *
  have hsn := hid (setL_new u e5)
  have HTX := hid htx
  have HTO := hid hto
  have HNF := hid hnf
  clear e1 e2 e3 e4 e5 hj0 hjL hto hnf htx
  have A := (Below.refl w.heap.size w).alloc (Nat.le_refl _) (Obj.cells #[.int .i64 u.1, .int .i64 u.2.1, .string u.2.2] 26)
  have HH := hid (yhas_calls _ (p.on A) ((i + 1 : Nat) : Int))
  rw [show getO H ((i + 1 : Nat) : Int) = some x by rw [getO_succ]; exact hi] at HH
  have hil := lt_of_get hi
  have hl : H.os.length ≤ 200 := by have := W.len; have := W.most; omega
  have hfew := (W.obs i x hi).few
  have hep := (W.obs i x hi).ep
  have B1 := hid A
  have X1 : Hid (Blk w.heap.size 26 #[.int .i64 u.1, .int .i64 u.2.1, .string u.2.2] (w.alloc (Obj.cells #[.int .i64 u.1, .int .i64 u.2.1, .string u.2.2] 26))) := hid (blk_new _ _ _)
  have P1 := hid (p.on A)
  obtain ⟨nv, vv, h1, h2⟩ := p.ob i x hi
  have O1 := hid (h1.on A)
  have H2 := hid h2
  have HI := hid hi
  have HW := hid W
  have HT := hid p.top
  have CX := hid (p.top w.heap.size (Nat.le_refl _))
  obtain ⟨c0, d1, d2, d3, d4, hr⟩ := P1.out.cells
  obtain ⟨g, cap, rfl, hgl, c1⟩ := P1.out.at' hil
  obtain ⟨z0, z1, z2, z3, z4, hz⟩ := O1.out.five
  unfold vlV
  clear A p W hi h1 h2
  generalize hw1 : w.alloc (Obj.cells #[.int .i64 u.1, .int .i64 u.2.1, .string u.2.2] 26) = w1 at *
  go_enter Tryz.func40, Tryz.ntmps40
  go_wp2_with fail
  refine HH.out.mono ?_
  rintro e0 w0 ⟨rfl, hw0⟩
  subst w0
  go_wp2_with fail
  have HPa := hid (rparent_calls w1.drew ((P1.out.on ((Below.refl _ _).drew)).fo) HW.out.wfs to)
  have dsh : (((x.sh : Nat) : Int) == 0) = false := by simpa using (show ((x.sh : Nat) : Int) ≠ 0 by omega)
  refine wp_region_held_drew (S := fun aZ => aZ.cell? ⟨q i, 4, none⟩ = some (.int .i64 (x.sh : Int)) ∧ aZ.cell? ⟨r, 3, none⟩ = some (.pointer (some ⟨f, 0, none⟩))) (by kernel_rfl) ?_ (fun hHeld => ?_)
  · (refine ⟨?_, ?_⟩ <;> go_simp)
  refine tkk 0 ?_
  refine tkk 1 ?_
  refine tkk 2 ?_
  refine tkk 3 ?_
  refine tkk 4 ?_
  refine tkk 5 ?_
  refine tkk 6 ?_
  refine tkk 7 ?_
  refine tkk 8 ?_
  refine tkk 9 ?_
  refine tkk 10 ?_
  refine tkk 12 ?_
  refine tkk 13 ?_
  refine tkk 14 ?_
  refine tkk 15 ?_
  refine rdy 11 (fun K hK => ?_)
  go_simp
  have b2 := (Below.refl w1.heap.size w1).drew
  have B2 := hid (below_on B1.out b2)
  have X2 := hid (blk_on X1.out b2)
  have P2 := hid (P1.out.on b2)
  have O2 := hid (O1.out.on b2)
  clear b2 B1 X1 P1 O1 hw1
  generalize hw2 : w1.drew = w2 at *
  refine HPa.out.mono ?_
  rintro e3 w3 ⟨rfl, b3⟩
  have B3 := hid (below_on B2.out b3)
  have X3 := hid (blk_on X2.out b3)
  have P3 := hid (P2.out.on b3)
  have O3 := hid (O2.out.on b3)
  clear b3 B2 X2 P2 O2 hw2 HPa
  obtain ⟨z0, z1, z2, z3, z4, hz⟩ := O3.out.five
  obtain ⟨c0, d1, d2, d3, d4, hr⟩ := P3.out.cells
  go_simp
  refine hK.out _ _ ?_ (fun _ => ?_)
  · (refine ⟨?_, ?_⟩ <;> (first | assumption | go_simp))
  clear hK K
  refine tkk 16 ?_
  refine tkk 17 ?_
  refine wpAnyH_done (by kernel_rfl) ?_ _
  obtain ⟨na, nc, rfl⟩ := row_shape O3.out.nam
  go_wp2_with fail
  refine wp_region_held_drew (S := fun aZ => aZ.cell? ⟨q i, 1, none⟩ = some (.slice na x.l.length nc) ∧ aZ.cell? ⟨r, 2, none⟩ = some (.int .i64 (H.props : Int))) (by kernel_rfl) ?_ (fun hHeld => ?_)
  · (refine ⟨?_, ?_⟩ <;> go_simp)
  refine tkk 0 ?_
  refine tkk 1 ?_
  refine tkk 2 ?_
  refine tkk 3 ?_
  refine tkk 4 ?_
  refine tkk 5 ?_
  refine tkk 6 ?_
  refine tkk 7 ?_
  refine tkk 8 ?_
  refine tkk 9 ?_
  refine tkk 10 ?_
  refine wpAnyH_done (by kernel_rfl) ?_ _
  have b4 := (Below.refl w3.heap.size w3).drew
  have B4 := hid (below_on B3.out b4)
  have X4 := hid (blk_on X3.out b4)
  have P4 := hid (P3.out.on b4)
  have O4 := hid (O3.out.on b4)
  clear b4 B3 X3 P3 O3
  generalize hw4 : w3.drew = w4 at *
  obtain ⟨z0, z1, z2, z3, z4, hz⟩ := O4.out.five
  obtain ⟨c0, d1, d2, d3, d4, hr⟩ := P4.out.cells
  have h150 : H.L.length ≤ 150 := Nat.le_trans HW.out.wfs.len HW.out.wfs.most
  have HNm := hid (rnames_calls w4 P4.out.fo h150 to)
  rw [HNF.out] at HNm
  go_wp2_with fail
  refine HNm.out.mono ?_
  rintro e5 w5 ⟨⟨no, nc5, rfl, own5, _⟩, hw5⟩
  subst w5
  obtain ⟨nb, cap5, hsl, _, hnb⟩ := own5.form (by simp)
  injection hsl with hs1 hs2 hs3
  subst hs1 hs3
  have hcell : w4.cell? ⟨nb, ns.length, none⟩ = some (.int .i64 ((jy : Int) + 1)) := row_cell own5 (by simp)
  have hlen5 : (ns ++ [(jy : Int) + 1]).length = ns.length + 1 := by simp
  have hns : ns.length + 1 ≤ 12 := by simpa using hnsl
  rw [hlen5]
  have h6 : IntKind.i64.wrap (ns.length : Int) = (ns.length : Int) := by rw [IntKind.wrap_i64]; omega
  have h7 : (ns.length : Int) < (ns.length : Int) + 1 := by omega
  have HTx := hid (hrtext_some w4.drew ((P4.out.on ((Below.refl _ _).drew)).tabs) HTX.out (by omega))
  clear own5 hlen5 HNm hnsl
  go_wp2_with fail
  refine wp_region_held_drew (S := fun aZ => aZ.cell? ⟨nb, ns.length, none⟩ = some (.int .i64 ((jy : Int) + 1))) (by kernel_rfl) ?_ (fun hHeld => ?_)
  · go_simp
  refine tkk 0 ?_
  refine tkk 1 ?_
  refine tkk 2 ?_
  refine tkk 3 ?_
  refine tkk 4 ?_
  refine tkk 5 ?_
  refine tk 6 (v := .int .i64 (ns.length : Int)) ?_ ?_
  · (intro w hSw; go_simp <;> first | exact h6 | (simp only [h6]))
  refine tk 7 (v := .pointer (some ⟨nb, ns.length, none⟩)) ?_ ?_
  · (intro w hSw; go_simp <;> first | (rw [if_pos h7]; done) | (rw [if_pos h7]; rfl) | (simp [h7]; done))
  refine tkk 8 ?_
  refine rdy 9 (fun K hK => ?_)
  go_simp
  have b5 := (Below.refl w4.heap.size w4).drew
  have B5 := hid (below_on B4.out b5)
  have X5 := hid (blk_on X4.out b5)
  have P5 := hid (P4.out.on b5)
  have O5 := hid (O4.out.on b5)
  clear b5 B4 X4 P4 O4 hw4
  generalize hw5 : w4.drew = w5 at *
  refine HTx.out.mono ?_
  rintro e6 w6 ⟨rfl, hw6⟩
  subst w6
  go_simp
  refine hK.out _ _ ?_ (fun _ => ?_)
  · (first | assumption | go_simp)
  clear hK K
  refine tkk 10 ?_
  refine tkk 11 ?_
  refine tkk 12 ?_
  refine tkk 13 ?_
  refine tkk 14 ?_
  refine wpAnyH_done (by kernel_rfl) ?_ _
  obtain ⟨z0, z1, z2, z3, z4, hz⟩ := O5.out.five
  obtain ⟨c0, d1, d2, d3, d4, hr⟩ := P5.out.cells
  have x0 : w5.cell? ⟨w.heap.size, 0, none⟩ = some (.int .i64 u.1) := by rw [blk_cell X5.out]; rfl
  have x1 : w5.cell? ⟨w.heap.size, 1, none⟩ = some (.int .i64 u.2.1) := by rw [blk_cell X5.out]; rfl
  have x2 : w5.cell? ⟨w.heap.size, 2, none⟩ = some (.string u.2.2) := by rw [blk_cell X5.out]; rfl
  have hx := blk_lt X5.out
  have hl2 : x.l.length ≤ 1000000 := by omega
  go_wp2_with fail
  have b6 := (Below.refl w5.heap.size w5).drew
  have B6 := hid (below_on B5.out b6)
  have X6 := hid (blk_on X5.out b6)
  have P6 := hid (P5.out.on b6)
  have O6 := hid (O5.out.on b6)
  have HC := hid (orset_calls w5.drew O6.out nm u hl2)
  unfold vlV at HC
  clear b6 B5 P5 O5 X5
  refine wp_region_held_drew (S := fun aZ => aZ.cell? ⟨w.heap.size, 0, none⟩ = some (.int .i64 u.1) ∧ aZ.cell? ⟨w.heap.size, 1, none⟩ = some (.int .i64 u.2.1) ∧ aZ.cell? ⟨w.heap.size, 2, none⟩ = some (.string u.2.2)) (by kernel_rfl) ?_ (fun hHeld => ?_)
  · (refine ⟨?_, ?_, ?_⟩ <;> go_simp)
  refine tkk 0 ?_
  refine tkk 1 ?_
  refine tkk 2 ?_
  refine tkk 3 ?_
  refine tkk 4 ?_
  refine rdy 5 (fun K hK => ?_)
  go_simp
  refine HC.out.mono ?_
  rintro e7 w7 ⟨rfl, nv7, vv7, o7, k7, n7⟩
  have X7 := blk_keep X6.out k7 (fun e => by have := H2.out _ e; have := CX.out; omega)
  have x0 : w7.cell? ⟨w.heap.size, 0, none⟩ = some (.int .i64 u.1) := by rw [blk_cell X7]; rfl
  have x1 : w7.cell? ⟨w.heap.size, 1, none⟩ = some (.int .i64 u.2.1) := by rw [blk_cell X7]; rfl
  have x2 : w7.cell? ⟨w.heap.size, 2, none⟩ = some (.string u.2.2) := by rw [blk_cell X7]; rfl
  rw [hsn.out] at o7
  obtain ⟨z0, z1, z2, z3, z4, hz⟩ := o7.five
  have f3 := blk_free o7.blk 3
  have f4 := blk_free o7.blk 4
  obtain ⟨s8, k8⟩ := o7.setS (.int .i64 to)
  obtain ⟨s9, k9⟩ := s8.setE (.int .i64 ((x.ep : Int) + 1))
  obtain ⟨col9, p9, g9⟩ := P6.out.objK (x' := { x with l := x.l ++ [(nm, u)], ep := x.ep + 1, sh := to.toNat }) HI.out H2.out (k7.trans (k8.trans k9 (fun _ _ h => h)) (fun b hb h => (n7 b h).resolve_right (by omega))) (by rw [show (({ x with l := x.l ++ [(nm, u)], ep := x.ep + 1, sh := to.toNat } : Ob).sh : Int) = to from HTO.out]; exact s9) n7
  have R := hid (chn_of p9 (Grew.trans (Grew.below (P := fun u => u = 4 + i) B6.out HT.out) g9) (fun u e => by omega))
  clear X7 o7 k7 n7 s8 k8 s9 k9 p9 g9 HC
  go_simp
  refine hK.out _ _ ?_ (fun _ => ?_)
  · (refine ⟨?_, ?_, ?_⟩ <;> (first | assumption | go_simp))
  clear hK K
  refine wpAnyH_done (by kernel_rfl) ?_ _
  go_wp2_with fail
  go_ret
  exact ⟨rfl, R.out⟩
theorem ygrow_calls (w : World) (p : RhM H r f v tv q col w) (W : WfH K H) (hK : K ≤ 900000) (o to : Int) (u : Vl) :
    Calls Tryz.prog 40 #[.pointer (some ⟨r, 0, none⟩), .int .i64 o, .int .i64 to, vlV u] w fun e w' => e = .returned (.int .i64 (growE H o to)) ∧ Chn (growH H o to u) r f col w w' := by
  have same : ∀ {w' : World}, Below w.heap.size w w' → Chn H r f col w w' := fun {w'} b => chn_of (P := fun u => u = 1) (p.on b) (Grew.below b p.top) (fun u e => by omega)
  unfold growE growH
  cases hg : getO H o with
  | none =>
    refine (ygrow_none w p o to u hg).mono ?_
    rintro e w' ⟨rfl, b⟩
    exact ⟨rfl, same b⟩
  | some x =>
    obtain ⟨i, rfl, hi⟩ := getO_some hg
    have hp : ∀ (H' : He) (y : Ob), putO H' ((i + 1 : Nat) : Int) y = putI H' i y := fun H' y => by unfold putO putI; rw [show (((i + 1 : Nat) : Int) - 1).toNat = i by omega]
    dsimp only
    by_cases h0 : x.sh = 0
    · rw [if_pos (.inl h0), if_pos (.inl h0)]
      refine (ygrow_dict w p W hK hi to u h0).mono ?_
      rintro e w' ⟨rfl, b⟩
      exact ⟨rfl, same b⟩
    · by_cases hpa : parF H.L to = x.sh
      · have hno : ¬ (x.sh = 0 ∨ parF H.L to ≠ x.sh) := fun h => h.elim h0 (fun h => h hpa)
        rw [if_neg hno, if_neg hno]
        by_cases hf : H.props ≤ x.l.length
        · rw [if_pos hf, if_pos hf]
          refine (ygrow_full w p W hK hi to u h0 hpa hf).mono ?_
          rintro e w' ⟨rfl, b⟩
          exact ⟨rfl, same b⟩
        · rw [if_neg hf, if_neg hf, hp]
          exact ygrow_more w p W hK hi to u h0 hpa (by omega)
      · rw [if_pos (.inr hpa), if_pos (.inr hpa)]
        refine (ygrow_other w p W hK hi to u h0 hpa).mono ?_
        rintro e w' ⟨rfl, b⟩
        exact ⟨rfl, same b⟩
end
end Go.Proofs.YtemidicgipebjaaGreat
