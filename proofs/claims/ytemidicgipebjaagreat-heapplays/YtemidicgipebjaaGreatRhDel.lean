/- The document's heap: Delete, Put. -/
import Derived.Test.YtemidicgipebjaaGreatJoint2
import Derived.Test.YtemidicgipebjaaGreatJoint13
import Derived.Test.YtemidicgipebjaaGreatRhSet
namespace Go.Proofs.YtemidicgipebjaaGreat
set_option linter.unusedSimpArgs false
set_option linter.unusedVariables false
set_option maxRecDepth 100000
open Go.RowKit
section
variable {K : Nat} {H : He} {r f : Nat} {v tv : Value} {q col : Nat → Nat}
theorem ydel_no (w : World) (p : RhM H r f v tv q col w) (W : WfH K H) (o : Int) (nm : ByteArray) (hg : ownH H o nm = none) :
    Calls Tryz.prog 37 #[.pointer (some ⟨r, 0, none⟩), .int .i64 o, .string nm] w fun e w' => e = .returned (.bool false) ∧ Below w.heap.size w w' := by
  have HO := hid (yown_calls w p W o nm)
  rw [hg] at HO
  unfold vlV vlO at HO
  clear p W hg
  go_enter Tryz.func37, Tryz.ntmps37
  go_wp2_with fail
  refine HO.out.mono ?_
  rintro e1 w1 ⟨rfl, b1⟩
  have B2 := hid (below_on b1 ((Below.refl w1.heap.size w1).alloc (Nat.le_refl _) (Obj.cells #[.int .i64 0, .int .i64 0, .string ⟨#[]⟩] 26)))
  clear b1
  dsimp only [Option.getD_none, vl0, Option.isSome_none]
  go_wp2_with fail
  go_ret
  exact ⟨rfl, B2.out⟩
set_option maxHeartbeats 2000000 in
theorem ydel_has (w : World) (p : RhM H r f v tv q col w) (W : WfH K H) (hK : K ≤ 900000) {i : Nat} {x : Ob} (hi : H.os[i]? = some x) (nm : ByteArray) (hh : hasL x.l nm = true) :
    Calls Tryz.prog 37 #[.pointer (some ⟨r, 0, none⟩), .int .i64 ((i + 1 : Nat) : Int), .string nm] w fun e w' => e = .returned (.bool true) ∧ Chn (putI H i { x with l := dropL x.l nm, ep := x.ep + 1, sh := 0 }) r f col w w' := by
  have HO := hid (yown_calls w p W ((i + 1 : Nat) : Int) nm)
  have hil := lt_of_get hi
  have hl : H.os.length ≤ 200 := by have := W.len; have := W.most; omega
  have hfew := (W.obs i x hi).few
  have hep := (W.obs i x hi).ep
  have hone := hid (W.obs i x hi).ok.1
  have ho : ownH H ((i + 1 : Nat) : Int) nm = look x.l nm := by unfold ownH; rw [getO_succ, hi]
  obtain ⟨u0, hu0⟩ : ∃ u0, look x.l nm = some u0 := by unfold hasL at hh; exact Option.isSome_iff_exists.1 hh
  rw [ho, hu0] at HO
  unfold vlV vlO at HO
  obtain ⟨nv, vv, h1, h2⟩ := p.ob i x hi
  have HP := hid p
  have H1 := hid h1
  have H2 := hid h2
  have HI := hid hi
  have HH := hid hh
  clear p W hi h1 h2 ho hu0 hh
  go_enter Tryz.func37, Tryz.ntmps37
  go_wp2_with fail
  refine HO.out.mono ?_
  rintro e1 w1 ⟨rfl, b1⟩
  have a2 := (Below.refl w1.heap.size w1).alloc (Nat.le_refl _) (Obj.cells #[.int .i64 u0.1, .int .i64 u0.2.1, .string u0.2.2] 26)
  have B2 := hid (below_on b1 a2)
  generalize hw2 : w1.alloc (Obj.cells #[.int .i64 u0.1, .int .i64 u0.2.1, .string u0.2.2] 26) = w2 at *
  have P2 := hid (HP.out.on B2.out)
  have O2 := hid (H1.out.on B2.out)
  have HD := hid (ordel_calls w2 O2.out hone.out nm (by omega))
  rw [HH.out] at HD
  obtain ⟨c0, d1, d2, d3, d4, hr⟩ := P2.out.cells
  obtain ⟨g, cap, rfl, hgl, c1⟩ := P2.out.at' hil
  obtain ⟨z0, z1, z2, z3, z4, hz⟩ := O2.out.five
  clear b1 a2 HO
  dsimp only [Option.getD_some, Option.isSome_some]
  go_wp2_with fail
  refine HD.out.mono ?_
  rintro e3 w3 ⟨rfl, nv3, vv3, o3, k3, n3⟩
  obtain ⟨z0, z1, z2, z3, z4, hz⟩ := o3.five
  have f3 := blk_free o3.blk 3
  have f4 := blk_free o3.blk 4
  obtain ⟨s4, k4⟩ := o3.setE (.int .i64 ((x.ep : Int) + 1))
  obtain ⟨s5, k5⟩ := s4.setS (.int .i64 0)
  obtain ⟨col5, p5, g5⟩ := P2.out.objK (x' := { x with l := dropL x.l nm, ep := x.ep + 1, sh := 0 }) HI.out H2.out (k3.trans (k4.trans k5 (fun _ _ h => h)) (fun b hb h => (n3 b h).resolve_right (by omega))) s5 n3
  have R := hid (chn_of p5 (Grew.trans (Grew.below (P := fun u => u = 4 + i) B2.out HP.out.top) g5) (fun u e => by omega))
  clear o3 k3 n3 s4 k4 s5 k5 p5 g5 HD
  go_wp2_with fail
  go_ret
  exact ⟨rfl, R.out⟩
theorem ydel_calls (w : World) (p : RhM H r f v tv q col w) (W : WfH K H) (hK : K ≤ 900000) (o : Int) (nm : ByteArray) :
    Calls Tryz.prog 37 #[.pointer (some ⟨r, 0, none⟩), .int .i64 o, .string nm] w fun e w' => e = .returned (.bool (ownH H o nm).isSome) ∧ Chn (delH H o nm) r f col w w' := by
  have same : ∀ {w' : World}, Below w.heap.size w w' → Chn H r f col w w' := fun {w'} b => chn_of (P := fun u => u = 1) (p.on b) (Grew.below b p.top) (fun u e => by omega)
  cases hw : ownH H o nm with
  | none =>
    have e : delH H o nm = H := by
      unfold ownH at hw
      unfold delH
      cases hg : getO H o with
      | none => rfl
      | some x =>
        rw [hg] at hw
        have : hasL x.l nm = false := by unfold hasL; dsimp only at hw; rw [hw]; rfl
        simp [this]
    rw [e]
    refine (ydel_no w p W o nm hw).mono ?_
    rintro e w' ⟨rfl, b⟩
    exact ⟨rfl, same b⟩
  | some u =>
    unfold ownH at hw
    cases hg : getO H o with
    | none => rw [hg] at hw; cases hw
    | some x =>
      rw [hg] at hw
      dsimp only at hw
      have hh : hasL x.l nm = true := by unfold hasL; rw [hw]; rfl
      obtain ⟨i, rfl, hi⟩ := getO_some hg
      have e : delH H ((i + 1 : Nat) : Int) nm = putI H i { x with l := dropL x.l nm, ep := x.ep + 1, sh := 0 } := by unfold delH putO putI; rw [hg]; simp [hh]
      rw [e]
      exact ydel_has w p W hK hi nm hh
theorem yput_no (w : World) (p : RhM H r f v tv q col w) (hl : H.os.length ≤ 200) (o j : Int) (u : Vl) (hs : slotH H o j = none) :
    Calls Tryz.prog 39 #[.pointer (some ⟨r, 0, none⟩), .int .i64 o, .int .i64 j, vlV u] w fun e w' => e = .returned (.bool false) ∧ Below w.heap.size w w' := by
  have A := (Below.refl w.heap.size w).alloc (Nat.le_refl _) (Obj.cells #[.int .i64 u.1, .int .i64 u.2.1, .string u.2.2] 26)
  have HA := hid A
  have HO := hid (yslot_calls _ (p.on A) hl o j)
  rw [hs] at HO
  unfold vlV vlO at *
  clear p A hs
  go_enter Tryz.func39, Tryz.ntmps39
  go_wp2_with fail
  refine HO.out.mono ?_
  rintro e1 w1 ⟨rfl, b1⟩
  have B2 := hid (below_on (below_on HA.out b1) ((Below.refl w1.heap.size w1).alloc (Nat.le_refl _) (Obj.cells #[.int .i64 0, .int .i64 0, .string ⟨#[]⟩] 26)))
  clear b1
  dsimp only [Option.getD_none, vl0, Option.isSome_none]
  go_wp2_with fail
  go_ret
  exact ⟨rfl, B2.out⟩
set_option maxHeartbeats 2000000 in
theorem yput_has (w : World) (p : RhM H r f v tv q col w) (hl : H.os.length ≤ 200) {i k : Nat} {x : Ob} (hi : H.os[i]? = some x) {s : ByteArray} {y : Vl} (hk : x.l[k]? = some (s, y)) (hsl : slotH H ((i + 1 : Nat) : Int) (k : Int) = some y) (u : Vl) :
    Calls Tryz.prog 39 #[.pointer (some ⟨r, 0, none⟩), .int .i64 ((i + 1 : Nat) : Int), .int .i64 (k : Int), vlV u] w fun e w' => e = .returned (.bool true) ∧ Chn (putI H i { x with l := x.l.set k (s, u) }) r f col w w' := by
  have A := (Below.refl w.heap.size w).alloc (Nat.le_refl _) (Obj.cells #[.int .i64 u.1, .int .i64 u.2.1, .string u.2.2] 26)
  have HA := hid A
  have HO := hid (yslot_calls _ (p.on A) hl ((i + 1 : Nat) : Int) (k : Int))
  rw [hsl] at HO
  have hil := lt_of_get hi
  have hkl := lt_of_get hk
  have HBx : Hid (Blk w.heap.size 26 #[.int .i64 u.1, .int .i64 u.2.1, .string u.2.2] (w.alloc (Obj.cells #[.int .i64 u.1, .int .i64 u.2.1, .string u.2.2] 26))) := hid (blk_new _ _ _)
  obtain ⟨nv, vv, h1, h2⟩ := p.ob i x hi
  have HP := hid p
  have H1 := hid h1
  have H2 := hid h2
  have HI := hid hi
  have HKk := hid hk
  have CX := hid (p.top w.heap.size (Nat.le_refl _))
  unfold vlV vlO at *
  clear p A hsl h1 h2 hi hk
  go_enter Tryz.func39, Tryz.ntmps39
  go_wp2_with fail
  refine HO.out.mono ?_
  rintro e1 w1 ⟨rfl, b1⟩
  have a2 := (Below.refl w1.heap.size w1).alloc (Nat.le_refl _) (Obj.cells #[.int .i64 y.1, .int .i64 y.2.1, .string y.2.2] 26)
  have B2 := hid (below_on HA.out (below_on b1 a2))
  have X2 := hid (blk_on HBx.out (below_on b1 a2))
  generalize hw2 : w1.alloc (Obj.cells #[.int .i64 y.1, .int .i64 y.2.1, .string y.2.2] 26) = w2 at *
  clear b1 a2 HO HA HBx
  have P2 := hid (HP.out.on B2.out)
  have O2 := hid (H1.out.on B2.out)
  obtain ⟨c0, d1, d2, d3, d4, hr⟩ := P2.out.cells
  obtain ⟨g, cap, rfl, hgl, c1⟩ := P2.out.at' hil
  obtain ⟨z0, z1, z2, z3, z4, hz⟩ := O2.out.five
  obtain ⟨g2, cap2, rfl, hg2, v0, v1, v2, fz⟩ := O2.out.value HKk.out
  have x0 : w2.cell? ⟨w.heap.size, 0, none⟩ = some (.int .i64 u.1) := by rw [blk_cell X2.out]; rfl
  have x1 : w2.cell? ⟨w.heap.size, 1, none⟩ = some (.int .i64 u.2.1) := by rw [blk_cell X2.out]; rfl
  have x2 : w2.cell? ⟨w.heap.size, 2, none⟩ = some (.string u.2.2) := by rw [blk_cell X2.out]; rfl
  have hx := blk_lt X2.out
  have f0 := fz (k * 3)
  have f1 := fz (k * 3 + 1)
  have f2 := fz (k * 3 + 2)
  have hc2 : col g2 = 4 + i := H2.out g2 (.inr (.inr rfl))
  have n1 : g2 ≠ r := fun e => by have := HP.out.one.1; rw [← e] at this; omega
  have n2 : g2 ≠ g := fun e => by have := HP.out.one.2.1 g rfl; rw [← e] at this; omega
  have n3 : g2 ≠ q i := (O2.out.ne.2 g2 rfl).1
  have n4 : g2 ≠ w.heap.size := fun e => by have := CX.out; rw [← e] at this; omega
  have m1 := n1.symm
  have m2 := n2.symm
  have m3 := n3.symm
  have m4 := n4.symm
  have bD := (Below.refl w2.heap.size w2).drew
  obtain ⟨o3, k3⟩ := (O2.out.on bD).put (x := u) HKk.out
  obtain ⟨col3, p3, g3⟩ := (P2.out.on bD).objK (x' := { x with l := x.l.set k (s, u) }) HI.out H2.out (k3.mono (fun b _ e => .inr (.inr (by rw [e]; rfl)))) o3 (fun y h => .inl h)
  have R := hid (chn_of p3 (Grew.trans (Grew.below (P := fun u => u = 4 + i) (below_on B2.out bD) HP.out.top) g3) (fun u e => by omega))
  have h5 : IntKind.i64.wrap (i : Int) = (i : Int) := by rw [IntKind.wrap_i64]; omega
  clear o3 k3 p3 g3 bD hc2 fz
  dsimp only [Option.getD_some, Option.isSome_some]
  go_wp2_with fail
  refine wp_region_held_drew (S := fun aZ => aZ.cell? ⟨r, 0, none⟩ = some (.slice (some ⟨g, 0, none⟩) H.os.length cap) ∧ aZ.cell? ⟨g, i, none⟩ = some (.pointer (some ⟨q i, 0, none⟩)) ∧ aZ.cell? ⟨q i, 2, none⟩ = some (.slice (some ⟨g2, 0, none⟩) x.l.length cap2) ∧ aZ.cell? ⟨w.heap.size, 0, none⟩ = some (.int .i64 u.1) ∧ aZ.cell? ⟨w.heap.size, 1, none⟩ = some (.int .i64 u.2.1) ∧ aZ.cell? ⟨w.heap.size, 2, none⟩ = some (.string u.2.2)) (by kernel_rfl) ?_ (fun hHeld => ?_)
  · (refine ⟨?_, ?_, ?_, ?_, ?_, ?_⟩ <;> go_simp)
  refine tkk 0 ?_
  refine tkk 1 ?_
  refine tkk 2 ?_
  refine tkk 3 ?_
  refine tkk 4 ?_
  refine tk 5 (v := .int .i64 (i : Int)) ?_ ?_
  · (intro w hSw; go_simp <;> first | exact h5 | (simp only [h5]))
  refine tkk 6 ?_
  refine tkk 7 ?_
  refine tkk 8 ?_
  refine tkk 9 ?_
  refine tkk 10 ?_
  refine tkk 11 ?_
  refine tkk 12 ?_
  refine tkk 13 ?_
  refine tkk 14 ?_
  refine rdy 15 (fun K hK => ?_)
  go_simp
  refine hK.out _ _ ?_ (fun _ => ?_)
  · (refine ⟨?_, ?_, ?_, ?_, ?_, ?_⟩ <;> (first | assumption | go_simp))
  clear hK K
  refine wpAnyH_done (by kernel_rfl) ?_ _
  go_wp2_with fail
  go_ret
  exact ⟨rfl, R.out⟩
theorem yput_calls (w : World) (p : RhM H r f v tv q col w) (hl : H.os.length ≤ 200) (o j : Int) (u : Vl) :
    Calls Tryz.prog 39 #[.pointer (some ⟨r, 0, none⟩), .int .i64 o, .int .i64 j, vlV u] w fun e w' => e = .returned (.bool (putB H o j)) ∧ Chn (putH H o j u) r f col w w' := by
  have same : ∀ {w' : World}, Below w.heap.size w w' → Chn H r f col w w' := fun {w'} b => chn_of (P := fun u => u = 1) (p.on b) (Grew.below b p.top) (fun u e => by omega)
  unfold putB
  cases hs : slotH H o j with
  | none =>
    have e : putH H o j u = H := by
      unfold slotH at hs
      unfold putH
      cases hg : getO H o with
      | none => rfl
      | some x =>
        rw [hg] at hs
        dsimp only at hs ⊢
        by_cases h0 : x.sh = 0
        · simp [h0]
        · rw [if_neg h0] at hs
          by_cases hj : j < 0
          · simp [hj]
          · rw [if_neg (by omega)]
            have hn := slotL_none hs
            obtain ⟨i, rfl, hi⟩ := getO_some hg
            have : setAt x.l j.toNat u = x.l := by unfold setAt; rw [List.getElem?_eq_none_iff.2 (by omega)]
            rw [this]
            have h3 : putO H ((i + 1 : Nat) : Int) x = putI H i x := by unfold putO putI; rw [show (((i + 1 : Nat) : Int) - 1).toNat = i by omega]
            exact h3.trans (putI_self hi)
    rw [e]
    refine (yput_no w p hl o j u hs).mono ?_
    rintro e w' ⟨rfl, b⟩
    exact ⟨rfl, same b⟩
  | some y =>
    have hs' := hs
    unfold slotH at hs
    cases hg : getO H o with
    | none => rw [hg] at hs; cases hs
    | some x =>
      rw [hg] at hs
      dsimp only at hs
      by_cases h0 : x.sh = 0
      · rw [if_pos h0] at hs; cases hs
      · rw [if_neg h0] at hs
        obtain ⟨k, s, rfl, hk⟩ := slotL_some hs
        obtain ⟨i, rfl, hi⟩ := getO_some hg
        have e : putH H ((i + 1 : Nat) : Int) (k : Int) u = putI H i { x with l := x.l.set k (s, u) } := by
          unfold putH
          rw [hg]
          dsimp only
          rw [if_neg (by omega)]
          unfold setAt putO putI
          simp [hk]
        rw [e]
        exact yput_has w p hl hi hk hs' u
end
end Go.Proofs.YtemidicgipebjaaGreat
