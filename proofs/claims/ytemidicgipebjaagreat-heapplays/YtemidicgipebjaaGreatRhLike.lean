/- A heap tells what the document's does. -/
import Derived.Test.YtemidicgipebjaaGreatJoint2
import Derived.Test.YtemidicgipebjaaGreatRhTwo
import Derived.Test.YtemidicgipebjaaGreatRhDump
import Derived.Deep.Cut
import Derived.Deep.CutRange
import Derived.Deep.DeepCutAuto
import Derived.Deep.CutBlock
namespace Go.Proofs.YtemidicgipebjaaGreat
set_option linter.unusedSimpArgs false
set_option linter.unusedVariables false
set_option maxRecDepth 100000
open Go.RowKit

def WasY (g : Nat) (z : Vl) (w : World) : Prop := g < w.heap.size ∧ w.cell? ⟨g, 0, none⟩ = some (.int .i64 z.1) ∧ w.cell? ⟨g, 1, none⟩ = some (.int .i64 z.2.1) ∧ w.cell? ⟨g, 2, none⟩ = some (.string z.2.2)
theorem wasY_on {g : Nat} {z : Vl} {a b : World} (h : WasY g z a) (k : Below a.heap.size a b) : WasY g z b := by
  obtain ⟨h0, h1, h2, h3⟩ := h
  exact ⟨Nat.lt_of_lt_of_le h0 k.size, cell_on h1 h0 k, cell_on h2 h0 k, cell_on h3 h0 k⟩
theorem wasY_new (w : World) {g : Nat} (hg : g = w.heap.size) (t : TypeId) (z : Vl) : WasY g z (w.alloc (Obj.cells #[.int .i64 z.1, .int .i64 z.2.1, .string z.2.2] t)) := by
  subst hg
  exact ⟨by simp, by simp, by simp, by simp⟩
set_option maxHeartbeats 8000000 in
theorem ylike_calls {B K h r : Nat} {X : Nat → Prop} {H : He} (w : World) (t : TwY B X K h r H H w) (hK : K ≤ 900000) (hf : HFit H) (nm : ByteArray) (hn : nm.size ≤ 1000000) :
    Calls Tryz.prog 13 #[.pointer (some ⟨h, 0, none⟩), .pointer (some ⟨r, 0, none⟩), .string nm] w fun e w' => e = .returned (.bool true) ∧ Below w.heap.size w w' := by
  have W := t.wf
  obtain ⟨f, v, tv, q, col, p, _, s⟩ := t
  have hl : H.os.length ≤ 200 := by have := W.len; have := W.most; omega
  obtain ⟨ao, cap, rfl⟩ := row_shape p.row
  have HP := hid p
  have D := (Below.refl w.heap.size w).drew
  have HLn := hid (hlen_calls w.drew (s.on D))
  have HDm := hid (fun (wx : World) (b : Below w.heap.size w wx) => hdump_calls wx (s.on b) hK hf)
  have HDy := hid (fun (wx : World) (b : Below w.heap.size w wx) => ydump_calls wx (p.on b) W hf)
  have HOw := hid (fun (wx : World) (b : Below w.heap.size w wx) (o : Int) => hown_calls wx (s.on b) o nm hn)
  have HOy := hid (fun (wx : World) (b : Below w.heap.size w wx) (o : Int) => yown_calls wx (p.on b) W o nm)
  have HGt := hid (fun (wx : World) (b : Below w.heap.size w wx) (o : Int) => hget_calls wx (s.on b) hK o nm hn)
  have HGy := hid (fun (wx : World) (b : Below w.heap.size w wx) (o : Int) => yget_calls wx (p.on b) W o nm)
  have HPr := hid (fun (wx : World) (b : Below w.heap.size w wx) (o : Int) => hproto_calls wx (s.on b) hK o)
  have HPy := hid (fun (wx : World) (b : Below w.heap.size w wx) (o : Int) => yproto_calls wx (p.on b) hl o)
  have HCt := hid (fun (wx : World) (b : Below w.heap.size w wx) (o : Int) => hcount_calls wx (s.on b) o)
  have HCy := hid (fun (wx : World) (b : Below w.heap.size w wx) (o : Int) => ycount_calls wx (p.on b) hl o)
  have HHy := hid (fun (wx : World) (b : Below w.heap.size w wx) (o : Int) => yhas_calls wx (p.on b) o)
  have HSh := hid (fun (wx : World) (b : Below w.heap.size w wx) (o : Int) => hshape_calls wx (s.on b) o)
  have HEp := hid (fun (wx : World) (b : Below w.heap.size w wx) (o : Int) => hepoch_calls wx (s.on b) o)
  have HSo := hid (fun (wx : World) (b : Below w.heap.size w wx) (id : Int) => hslotof_calls wx (s.on b) id nm hn)
  have HSy := hid (fun (wx : World) (b : Below w.heap.size w wx) (id : Int) => yslotof_calls wx (p.on b) W hK id nm)
  have HKy := hid (fun (wx : World) (b : Below w.heap.size w wx) (o j : Int) => hkey_calls wx (s.on b) hK o j)
  have HKd := hid (fun (wx : World) (b : Below w.heap.size w wx) (o j : Int) => ykey_calls wx (p.on b) hl o j)
  have HSl := hid (fun (wx : World) (b : Below w.heap.size w wx) (o j : Int) => hslot_calls wx (s.on b) o j)
  have HSd := hid (fun (wx : World) (b : Below w.heap.size w wx) (o j : Int) => yslot_calls wx (p.on b) hl o j)
  have hct : Hid (∀ o, countH H o ≤ 32) := hid (fun o => by
    unfold countH
    cases hg : getO H o with
    | none => simp
    | some x => exact (W.at' hg).few)
  obtain ⟨c0, _⟩ := p.cells
  have hr := p.cells.2.2.2.2.2
  have HD := hid D
  clear p s W D hf
  go_enter Tryz.func13, Tryz.ntmps13
  go_wp2_with fail
  refine wp_region_held_drew (S := fun aZ => aZ.cell? ⟨r, 0, none⟩ = some (.slice ao H.os.length cap)) (by kernel_rfl) ?_ (fun hHeld => ?_)
  · go_simp
  refine tkk 0 ?_
  refine tkk 2 ?_
  refine tkk 3 ?_
  refine tkk 4 ?_
  refine tkk 5 ?_
  refine tkk 6 ?_
  refine rdy 1 (fun K hK => ?_)
  go_simp
  refine HLn.out.mono ?_
  rintro e1 w1 ⟨rfl, hw1⟩
  subst w1
  go_simp
  refine hK.out _ _ ?_ (fun _ => ?_)
  · (first | assumption | go_simp)
  clear hK K
  refine tkk 7 ?_
  refine tkk 8 ?_
  refine tkk 9 ?_
  refine tkk 11 ?_
  refine rdy 10 (fun K hK => ?_)
  go_simp
  refine (HDm.out _ HD.out).mono ?_
  rintro e1 w1 ⟨rfl, b1⟩
  have B1 := hid (below_on HD.out b1)
  have c0 := (HP.out.on B1.out).cells.1
  clear b1 HD HLn
  go_simp
  refine hK.out _ _ ?_ (fun _ => ?_)
  · (first | assumption | go_simp)
  clear hK K
  refine rdy 12 (fun K hK => ?_)
  go_simp
  refine (HDy.out _ B1.out).mono ?_
  rintro e2 w2 ⟨rfl, b2⟩
  have B2 := hid (below_on B1.out b2)
  have c0 := (HP.out.on B2.out).cells.1
  clear b2 B1
  go_simp
  refine hK.out _ _ ?_ (fun _ => ?_)
  · (first | assumption | go_simp)
  clear hK K
  refine tkk 13 ?_
  refine tkk 14 ?_
  refine wpAnyH_done (by kernel_rfl) ?_ _
  clear HDm HDy
  go_wp2_with fail
  go_loopw [7] (fun i wr => ∃ n : Nat, n ≤ H.os.length + 2 ∧ i = .int .i64 (n : Int) ∧ Hid (Below w.heap.size w wr)) (fun i _ => 203 - (intOf i).toNat)
  case atStart => exact ⟨0, Nat.zero_le _, rfl, B2⟩
  case round =>
    obtain ⟨n, hnn, rfl, hB⟩ := hrel
    have c0 := (HP.out.on hB.out).cells.1
    have hrw := (HP.out.on hB.out).cells.2.2.2.2.2
    by_cases hnl : n ≤ H.os.length + 1
    · have dn : decide ((n : Int) ≤ (H.os.length : Int) + 1) = true := decide_eq_true (by omega)
      have HO1 := hid (fun (wx : World) (b : Below w.heap.size w wx) => HOw.out wx b (n : Int))
      have HO2 := hid (fun (wx : World) (b : Below w.heap.size w wx) => HOy.out wx b (n : Int))
      have HG1 := hid (fun (wx : World) (b : Below w.heap.size w wx) => HGt.out wx b (n : Int))
      have HG2 := hid (fun (wx : World) (b : Below w.heap.size w wx) => HGy.out wx b (n : Int))
      generalize vlO (ownH H (n : Int) nm) = u at HO1 HO2
      generalize (ownH H (n : Int) nm).isSome = ub at HO1 HO2
      generalize gotH H (n : Int) nm = z at HG1 HG2
      unfold vlV at HO1 HO2 HG1 HG2
      go_wp2_with fail
      refine (HO1.out _ hB.out).mono ?_
      rintro e1 w1 ⟨rfl, b1⟩
      have a1 := (Below.refl w1.heap.size w1).alloc (Nat.le_refl _) (Obj.cells #[.int .i64 u.1, .int .i64 u.2.1, .string u.2.2] 26)
      have B1 := hid (below_in hB.out (Nat.le_refl _) (below_on b1 a1))
      have U1 := hid (wasY_new w1 rfl 26 u)
      clear b1 a1 HO1
      go_wp2_with fail
      refine (HO2.out _ B1.out).mono ?_
      rintro e2 w2 ⟨rfl, b2⟩
      have a2 := (Below.refl w2.heap.size w2).alloc (Nat.le_refl _) (Obj.cells #[.int .i64 u.1, .int .i64 u.2.1, .string u.2.2] 26)
      have B2 := hid (below_in B1.out (Nat.le_refl _) (below_on b2 a2))
      have U2 := hid (wasY_new w2 rfl 26 u)
      have U3 := hid (wasY_on U1.out (below_on b2 a2))
      clear b2 a2 HO2 U1 B1
      generalize hg1 : w1.heap.size = g1 at *
      generalize hw3 : w2.alloc (Obj.cells #[.int .i64 u.1, .int .i64 u.2.1, .string u.2.2] 26) = w3 at *
      generalize hg2 : w2.heap.size = g2 at *
      obtain ⟨_, u0, u1, u2⟩ := U3.out
      obtain ⟨_, y0, y1, y2⟩ := U2.out
      clear U2 U3
      go_wp2_with fail
      refine (HG1.out _ B2.out).mono ?_
      rintro e3 w4 ⟨rfl, b4⟩
      have B4 := hid (below_in B2.out (Nat.le_refl _) b4)
      clear b4 HG1 B2
      go_wp2_with fail
      refine (HG2.out _ B4.out).mono ?_
      rintro e5 w5 ⟨rfl, b5⟩
      have B5 := hid (below_in B4.out (Nat.le_refl _) b5)
      clear b5 HG2 B4
      go_wp2_with fail
      refine (HPr.out _ B5.out (n : Int)).mono ?_
      rintro e6 w6 ⟨rfl, b6⟩
      have B6 := hid (below_in B5.out (Nat.le_refl _) b6)
      clear b6 B5
      go_wp2_with fail
      refine (HPy.out _ B6.out (n : Int)).mono ?_
      rintro e7 w7 ⟨rfl, hw7⟩
      subst w7
      go_wp2_with fail
      refine (HCt.out _ B6.out (n : Int)).mono ?_
      rintro e7 w7 ⟨rfl, b7⟩
      have B7 := hid (below_in B6.out (Nat.le_refl _) b7)
      clear b7 B6
      go_wp2_with fail
      refine (HCy.out _ B7.out (n : Int)).mono ?_
      rintro e8 w8 ⟨rfl, hw8⟩
      subst w8
      go_wp2_with fail
      refine (HHy.out _ B7.out (n : Int)).mono ?_
      rintro e8 w8 ⟨rfl, hw8⟩
      subst w8
      rename World => wA
      go_upto_if 101 with fail
      go_cut [12, 13] (fun a b wx => a = .int .i64 (shapeH H (n : Int) : Int) ∧ b = .int .i64 (epochH H (n : Int) : Int) ∧ wx = wA)
      case first =>
        cases hg : getO H (n : Int) with
        | none =>
          have e1 := hid (show shapeH H (n : Int) = 0 ∧ epochH H (n : Int) = 0 by unfold shapeH epochH; rw [hg]; exact ⟨rfl, rfl⟩)
          dsimp only [Option.isSome_none]
          go_wp2_with fail
          go_meet
          rw [e1.out.1, e1.out.2]
          exact ⟨rfl, rfl, rfl⟩
        | some x =>
          have e1 := hid (show shapeH H (n : Int) = x.sh ∧ epochH H (n : Int) = x.ep by unfold shapeH epochH; rw [hg]; exact ⟨rfl, rfl⟩)
          obtain ⟨i, hni, hi⟩ := getO_some hg
          have hil := lt_of_get hi
          have P := HP.out.on B7.out
          have c0 := P.cells.1
          have hrA := P.cells.2.2.2.2.2
          obtain ⟨g, cap', hgg, hgl, c1⟩ := P.at' hil
          injection hgg with q1 q2 q3
          subst q1 q3
          obtain ⟨nv, vv, h1, _⟩ := P.ob i x hi
          obtain ⟨z0, z1, z2, z3, z4, hz⟩ := h1.five
          have hsub : (n : Int) - 1 = (i : Int) := by omega
          dsimp only [Option.isSome_some]
          clear P h1 hg hi hni
          go_wp2_with fail
          go_meet
          rw [e1.out.1, e1.out.2]
          exact ⟨rfl, rfl, rfl⟩
      case rest =>
        obtain ⟨rfl, rfl, rfl⟩ := hcut
        rename World => wA
        have hct := hct.out (n : Int)
        have HS1 := hid (fun (wx : World) (b : Below w.heap.size w wx) => HSh.out wx b (n : Int))
        have HE1 := hid (fun (wx : World) (b : Below w.heap.size w wx) => HEp.out wx b (n : Int))
        have HC1 := hid (fun (wx : World) (b : Below w.heap.size w wx) => HCy.out wx b (n : Int))
        generalize shapeH H (n : Int) = sh at *
        generalize epochH H (n : Int) = ep at *
        generalize countH H (n : Int) = ct at *
        go_wp2_with fail
        refine (HS1.out _ B7.out).mono ?_
        rintro e1 w1 ⟨rfl, b1⟩
        have B1 := hid (below_in B7.out (Nat.le_refl _) b1)
        clear b1 B7
        go_wp2_with fail
        refine (HE1.out _ B1.out).mono ?_
        rintro e2 w2 ⟨rfl, b2⟩
        have B2 := hid (below_in B1.out (Nat.le_refl _) b2)
        clear b2 B1
        go_wp2_with fail
        refine (HSo.out _ B2.out (sh : Int)).mono ?_
        rintro e3 w3 ⟨rfl, b3⟩
        have B3 := hid (below_in B2.out (Nat.le_refl _) b3)
        clear b3 B2
        go_wp2_with fail
        refine (HSy.out _ B3.out (sh : Int)).mono ?_
        rintro e4 w4 ⟨rfl, hw4⟩
        subst w4
        go_wp2_with fail
        go_loopw [14] (fun i wr => ∃ j : Nat, j ≤ ct + 2 ∧ i = .int .i64 ((j : Int) - 1) ∧ Hid (Below w.heap.size w wr)) (fun i _ => ct + 2 - (intOf i + 1).toNat)
        case atStart => exact ⟨0, Nat.zero_le _, rfl, B3⟩
        case round =>
          obtain ⟨j, hj, rfl, hB⟩ := hrel
          rename World => wJ
          by_cases hjl : j ≤ ct + 1
          · have dj : decide ((j : Int) - 1 ≤ (ct : Int)) = true := decide_eq_true (by omega)
            have HK1 := hid (fun (wx : World) (b : Below w.heap.size w wx) => HKy.out wx b (n : Int) ((j : Int) - 1))
            have HK2 := hid (fun (wx : World) (b : Below w.heap.size w wx) => HKd.out wx b (n : Int) ((j : Int) - 1))
            have HL1 := hid (fun (wx : World) (b : Below w.heap.size w wx) => HSl.out wx b (n : Int) ((j : Int) - 1))
            have HL2 := hid (fun (wx : World) (b : Below w.heap.size w wx) => HSd.out wx b (n : Int) ((j : Int) - 1))
            unfold strO at HK1
            generalize (keyH H (n : Int) ((j : Int) - 1)).getD ⟨#[]⟩ = ks at HK1 HK2
            generalize (keyH H (n : Int) ((j : Int) - 1)).isSome = kb at HK1 HK2
            generalize vlO (slotH H (n : Int) ((j : Int) - 1)) = x at HL1 HL2
            generalize (slotH H (n : Int) ((j : Int) - 1)).isSome = xb at HL1 HL2
            unfold vlV at HL1 HL2
            go_wp2_with fail
            refine (HC1.out _ hB.out).mono ?_
            rintro e1 w1 ⟨rfl, hw1⟩
            subst w1
            go_wp2_with fail
            refine (HK1.out _ hB.out).mono ?_
            rintro e1 w1 ⟨rfl, b1⟩
            have B1 := hid (below_in hB.out (Nat.le_refl _) b1)
            clear b1 HK1
            go_wp2_with fail
            refine (HK2.out _ B1.out).mono ?_
            rintro e2 w2 ⟨rfl, hw2⟩
            subst w2
            go_wp2_with fail
            refine (HL1.out _ B1.out).mono ?_
            rintro e3 w3 ⟨rfl, b3⟩
            have a3 := (Below.refl w3.heap.size w3).alloc (Nat.le_refl _) (Obj.cells #[.int .i64 x.1, .int .i64 x.2.1, .string x.2.2] 26)
            have B3 := hid (below_in B1.out (Nat.le_refl _) (below_on b3 a3))
            have U3 := hid (wasY_new w3 rfl 26 x)
            clear b3 a3 HL1 HK2 B1
            go_wp2_with fail
            refine (HL2.out _ B3.out).mono ?_
            rintro e4 w4 ⟨rfl, b4⟩
            have a4 := (Below.refl w4.heap.size w4).alloc (Nat.le_refl _) (Obj.cells #[.int .i64 x.1, .int .i64 x.2.1, .string x.2.2] 26)
            have B4 := hid (below_in B3.out (Nat.le_refl _) (below_on b4 a4))
            have U4 := hid (wasY_new w4 rfl 26 x)
            have U5 := hid (wasY_on U3.out (below_on b4 a4))
            clear b4 a4 HL2 U3 B3
            generalize hg3 : w3.heap.size = g3 at *
            generalize hw5 : w4.alloc (Obj.cells #[.int .i64 x.1, .int .i64 x.2.1, .string x.2.2] 26) = w5 at *
            generalize hg4 : w4.heap.size = g4 at *
            obtain ⟨_, u0, u1, u2⟩ := U5.out
            obtain ⟨_, y0, y1, y2⟩ := U4.out
            clear U4 U5
            go_wp2_with fail
            exact ⟨⟨j + 1, by omega, by simp, B4⟩, by simp [intOf]; omega⟩
          · have dj : decide ((j : Int) - 1 ≤ (ct : Int)) = false := decide_eq_false (by omega)
            go_wp2_with fail
            refine (HC1.out _ hB.out).mono ?_
            rintro e1 w1 ⟨rfl, hw1⟩
            subst w1
            go_wp2_with fail
            exact ⟨⟨n + 1, by omega, by simp, hB⟩, by simp [intOf]; omega⟩
    · have dn : decide ((n : Int) ≤ (H.os.length : Int) + 1) = false := decide_eq_false (by omega)
      go_wp2_with fail
      go_ret
      exact ⟨rfl, hB.out⟩
end Go.Proofs.YtemidicgipebjaaGreat
