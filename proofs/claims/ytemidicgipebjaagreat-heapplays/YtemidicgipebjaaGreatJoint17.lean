/- What the document's heap tells: Get, SlotOf, Slot. The document's heap: a name more of a shape. -/
import Derived.Test.YtemidicgipebjaaGreatJoint16
import Derived.Test.YtemidicgipebjaaGreatJoint2
namespace Go.Proofs.YtemidicgipebjaaGreat
set_option linter.unusedSimpArgs false
set_option linter.unusedVariables false
set_option maxRecDepth 100000
open Go.RowKit
theorem getF_no {H : He} {s : ByteArray} : ∀ (n : Nat) (o : Int), getO H o = none → getF H s n o = vl0
  | 0, _, _ => rfl
  | n + 1, o, h => by
    have h0 : getO H 0 = none := getO_out (.inl (by omega))
    unfold getF ownH protoH
    rw [h]
    exact getF_no n 0 h0
section
variable {K : Nat} {H : He} {r f : Nat} {v tv : Value} {q col : Nat → Nat}
set_option maxHeartbeats 2000000 in
theorem yget_calls (w : World) (p : RhM H r f v tv q col w) (W : WfH K H) (o : Int) (nm : ByteArray) :
    Calls Tryz.prog 42 #[.pointer (some ⟨r, 0, none⟩), .int .i64 o, .string nm] w fun e w' => e = .returned (vlV (gotH H o nm)) ∧ Below w.heap.size w w' := by
  have HP := hid p
  have HW := hid W
  have hl : H.os.length ≤ 200 := by have := W.len; have := W.most; omega
  have SL := hid (slot_new w rfl 26)
  have L0 : Hid (Below w.heap.size w (w.alloc (Obj.cells #[.int .i64 0, .int .i64 0, .string ⟨#[]⟩] 26))) := hid ((Below.refl w.heap.size w).alloc (Nat.le_refl _) _)
  obtain ⟨ao, cap, rfl⟩ := row_shape p.row
  have hr := p.cells.2.2.2.2.2
  clear p W
  unfold vlV
  generalize hz : gotH H o nm = z
  have HZ := hid hz
  clear hz
  go_enter Tryz.func42, Tryz.ntmps42
  go_wp2_with fail
  go_loopw [1, 7] (fun a b wr => ∃ (o' : Int) (k : Nat), k ≤ H.os.length + 1 ∧ a = .int .i64 o' ∧ b = .int .i64 (k : Int) ∧ Hid (getF H nm (H.os.length + 1 - k) o' = z) ∧ Hid (Below w.heap.size w wr) ∧ Hid (Slot w.heap.size wr)) (fun _ b _ => H.os.length + 1 - (intOf b).toNat)
  case atStart => exact ⟨o, 0, Nat.zero_le _, rfl, rfl, HZ, L0, SL⟩
  case round =>
    obtain ⟨o', k, hk, rfl, rfl, hZ, hB, hSl⟩ := hrel
    have P := HP.out.on hB.out
    obtain ⟨c0, _⟩ := P.cells
    have hrw : r < wr.heap.size := P.cells.2.2.2.2.2
    by_cases hkl : k ≤ H.os.length
    · have dk : decide ((k : Int) ≤ (H.os.length : Int)) = true := decide_eq_true (by omega)
      have HH := hid (yhas_calls wr P o')
      cases hg : getO H o' with
      | none =>
        rw [hg] at HH
        have e0 : z = vl0 := hZ.out.symm.trans (getF_no _ _ hg)
        subst e0
        obtain ⟨g0, g1, g2, g3, g4, g5, g6⟩ := hSl.out
        clear P
        go_wp2_with fail
        refine HH.out.mono ?_
        rintro e1 w1 ⟨rfl, rfl⟩
        go_wp2_with fail
        refine bodyPost_ret (ret_v rfl rfl (put3_cells hSl.out _ _ _)) rfl ⟨rfl, put3 hB.out (Nat.le_refl _) _ _ _⟩
      | some x =>
        rw [hg] at HH
        have HO := hid (yown_calls wr P HW.out o' nm)
        have hst := hZ.out
        rw [show H.os.length + 1 - k = (H.os.length - k) + 1 by omega] at hst
        unfold getF at hst
        obtain ⟨i, rfl, hi⟩ := getO_some hg
        have hil := lt_of_get hi
        cases hw : ownH H ((i + 1 : Nat) : Int) nm with
        | some u =>
          rw [hw] at HO hst
          have hu : u = z := hst
          subst hu
          unfold vlV vlO at HO
          clear hst hw P hg hi
          go_wp2_with fail
          refine HH.out.mono ?_
          rintro e1 w1 ⟨rfl, rfl⟩
          go_wp2_with fail
          refine HO.out.mono ?_
          rintro e2 w2 ⟨rfl, b2⟩
          have HS2 := hid (slot_on hSl.out b2)
          have HB := hid (below_in hB.out (Nat.le_refl _) b2)
          have hwl : w.heap.size < w2.heap.size := Nat.lt_of_lt_of_le hSl.out.1 b2.size
          have hne : w.heap.size ≠ w2.heap.size := by omega
          have hne2 : w2.heap.size ≠ w.heap.size := by omega
          obtain ⟨g0, g1, g2, g3, g4, g5, g6⟩ := slot_on hSl.out b2
          clear b2 hSl hB HO
          dsimp only [Option.getD_some, Option.isSome_some]
          go_wp2_with fail
          have PC := put3_cells HS2.out (.int .i64 u.1) (.int .i64 u.2.1) (.string u.2.2)
          have PB := put3 HB.out (Nat.le_refl _) (.int .i64 u.1) (.int .i64 u.2.1) (.string u.2.2)
          have PA := (Below.refl (((w2.setCell ⟨w.heap.size, 0, none⟩ (.int .i64 u.1)).setCell ⟨w.heap.size, 1, none⟩ (.int .i64 u.2.1)).setCell ⟨w.heap.size, 2, none⟩ (.string u.2.2)).heap.size (((w2.setCell ⟨w.heap.size, 0, none⟩ (.int .i64 u.1)).setCell ⟨w.heap.size, 1, none⟩ (.int .i64 u.2.1)).setCell ⟨w.heap.size, 2, none⟩ (.string u.2.2))).alloc (Nat.le_refl _) (Obj.cells #[.int .i64 u.1, .int .i64 u.2.1, .string u.2.2] 26)
          have hlt : w.heap.size < (((w2.setCell ⟨w.heap.size, 0, none⟩ (.int .i64 u.1)).setCell ⟨w.heap.size, 1, none⟩ (.int .i64 u.2.1)).setCell ⟨w.heap.size, 2, none⟩ (.string u.2.2)).heap.size := by simp; omega
          have PD := below_in PB (Nat.le_refl _) PA
          have P0 := cell_on PC.1 hlt PA
          have P1 := cell_on PC.2.1 hlt PA
          have P2 := cell_on PC.2.2 hlt PA
          clear PC PB PA
          exact bodyPost_ret (ret_v rfl rfl ⟨P0, P1, P2⟩) rfl ⟨rfl, PD⟩
        | none =>
          rw [hw] at HO hst
          have hpr : protoH H ((i + 1 : Nat) : Int) = x.pr := by unfold protoH; rw [hg]
          have HG := hid (show getF H nm (H.os.length + 1 - (k + 1)) (x.pr : Int) = z by rw [show H.os.length + 1 - (k + 1) = H.os.length - k by omega, ← hpr]; exact hst)
          unfold vlV vlO at HO
          have HI := hid hi
          clear hst hw hpr P hg hi
          go_wp2_with fail
          refine HH.out.mono ?_
          rintro e1 w1 ⟨rfl, rfl⟩
          go_wp2_with fail
          refine HO.out.mono ?_
          rintro e2 w2 ⟨rfl, b2⟩
          have a2 := (Below.refl w2.heap.size w2).alloc (Nat.le_refl _) (Obj.cells #[.int .i64 0, .int .i64 0, .string ⟨#[]⟩] 26)
          have HS2 := hid (slot_on (slot_on hSl.out b2) a2)
          have HB := hid (below_in (below_in hB.out (Nat.le_refl _) b2) (Nat.le_refl _) a2)
          have P := HP.out.on HB.out
          obtain ⟨c0, _⟩ := P.cells
          have hrw : r < (w2.alloc (Obj.cells #[.int .i64 0, .int .i64 0, .string ⟨#[]⟩] 26)).heap.size := P.cells.2.2.2.2.2
          obtain ⟨g, cap', hg, hgl, c1⟩ := P.at' hil
          injection hg with hg1 hg2 hg3
          subst hg1 hg3
          obtain ⟨nv, vv, h1, _⟩ := P.ob i x HI.out
          obtain ⟨z0, z1, z2, z3, z4, hz⟩ := h1.five
          clear b2 hSl hB HO a2 P h1
          dsimp only [Option.getD_none, vl0, Option.isSome_none]
          go_wp2_with fail
          exact ⟨⟨_, k + 1, by omega, rfl, by simp, HG, HB, HS2⟩, by simp [intOf]; omega⟩
    · have dk : decide ((k : Int) ≤ (H.os.length : Int)) = false := decide_eq_false (by omega)
      have e0 : z = vl0 := by
        have h := hZ.out
        rw [show H.os.length + 1 - k = 0 by omega] at h
        exact h.symm
      subst e0
      obtain ⟨g0, g1, g2, g3, g4, g5, g6⟩ := hSl.out
      clear P
      go_wp2_with fail
      refine bodyPost_ret (ret_v rfl rfl (put3_cells hSl.out _ _ _)) rfl ⟨rfl, put3 hB.out (Nat.le_refl _) _ _ _⟩
theorem yslotof_calls (w : World) (p : RhM H r f v tv q col w) (W : WfH K H) (hK : K ≤ 900000) (id : Int) (nm : ByteArray) :
    Calls Tryz.prog 48 #[.pointer (some ⟨r, 0, none⟩), .int .i64 id, .string nm] w fun e w' => e = .returned (.int .i64 (slotofH H id nm)) ∧ w' = w := by
  have hnl := W.nl
  have HF := hid (hrfind_calls w p.tabs nm (by omega))
  obtain ⟨c0, c1, c2, c3, c4, hr⟩ := p.cells
  unfold slotofH
  cases ha : atT H.N nm with
  | none =>
    rw [show slotN H.N H.L id nm = -1 by unfold slotN; rw [ha]]
    rw [ha, show findT H.N nm = 0 by unfold findT; rw [ha]] at HF
    clear p
    go_enter Tryz.func48, Tryz.ntmps48
    go_wp2_with fail
    refine HF.out.mono ?_
    rintro e1 w1 ⟨rfl, rfl⟩
    go_wp2_with fail
    go_ret
    exact ⟨rfl, rfl⟩
  | some i =>
    rw [show slotN H.N H.L id nm = slotF H.L id ((i + 1 : Nat) : Int) by unfold slotN; rw [ha]]
    rw [ha, show findT H.N nm = i + 1 by unfold findT; rw [ha]] at HF
    have HS := hid (rslot_calls w p.fo (Nat.le_trans W.wfs.len W.wfs.most) W.wfs.few id ((i + 1 : Nat) : Int))
    clear p ha
    generalize ((i + 1 : Nat) : Int) = j at *
    go_enter Tryz.func48, Tryz.ntmps48
    go_wp2_with fail
    refine HF.out.mono ?_
    rintro e1 w1 ⟨rfl, rfl⟩
    go_wp2_with fail
    refine HS.out.mono ?_
    rintro e2 w2 ⟨rfl, rfl⟩
    go_wp2_with fail
    go_ret
    exact ⟨rfl, rfl⟩
set_option maxHeartbeats 1000000 in
theorem yslot_calls (w : World) (p : RhM H r f v tv q col w) (hl : H.os.length ≤ 200) (o j : Int) :
    Calls Tryz.prog 50 #[.pointer (some ⟨r, 0, none⟩), .int .i64 o, .int .i64 j] w fun e w' => e = .returned (.tuple #[vlV (vlO (slotH H o j)), .bool (slotH H o j).isSome]) ∧ Below w.heap.size w w' := by
  have A := (Below.refl w.heap.size w).alloc (Nat.le_refl _) (Obj.cells #[.int .i64 0, .int .i64 0, .string ⟨#[]⟩] 26)
  have HA := hid A
  replace p := p.on A
  have HH := hid (yhas_calls _ p o)
  cases hg : getO H o with
  | none =>
    rw [show slotH H o j = none by unfold slotH; rw [hg]]
    rw [hg] at HH
    clear p hg A
    unfold vlV vlO
    dsimp only [Option.getD_none, vl0, Option.isSome_none]
    go_enter Tryz.func50, Tryz.ntmps50
    go_wp2_with fail
    refine HH.out.mono ?_
    rintro e1 w1 ⟨rfl, rfl⟩
    go_wp2_with fail
    exact bodyPost_ret (ret_ve rfl rfl ⟨by simp, by simp, by simp⟩) rfl ⟨rfl, HA.out⟩
  | some x =>
    rw [hg] at HH
    have hsl : slotH H o j = if x.sh = 0 then none else slotL x.l j := by unfold slotH; rw [hg]
    rw [hsl]
    obtain ⟨i, rfl, hi⟩ := getO_some hg
    obtain ⟨c0, _⟩ := p.cells
    have hr := p.cells.2.2.2.2.2
    have hil := lt_of_get hi
    obtain ⟨g, cap, rfl, hgl, c1⟩ := p.at' hil
    obtain ⟨nv, vv, h1, _⟩ := p.ob i x hi
    obtain ⟨z0, z1, z2, z3, z4, hz⟩ := h1.five
    by_cases h0 : x.sh = 0
    · rw [if_pos h0]
      rw [h0] at z4
      clear p hg hi h1 A hsl
      unfold vlV vlO
      dsimp only [Option.getD_none, vl0, Option.isSome_none]
      go_enter Tryz.func50, Tryz.ntmps50
      go_wp2_with fail
      refine HH.out.mono ?_
      rintro e1 w1 ⟨rfl, rfl⟩
      go_wp2_with fail
      exact bodyPost_ret (ret_ve rfl rfl ⟨by simp, by simp, by simp⟩) rfl ⟨rfl, HA.out⟩
    · rw [if_neg h0]
      have d0 : (((x.sh : Nat) : Int) == 0) = false := by simpa using (show ((x.sh : Nat) : Int) ≠ 0 by omega)
      cases hs : slotL x.l j with
      | none =>
        obtain ⟨va, vc, rfl⟩ := row_shape h1.val
        have hn := slotL_none hs
        clear p hg hi h1 A hsl hs h0
        unfold vlV vlO
        dsimp only [Option.getD_none, vl0, Option.isSome_none]
        by_cases hj : j < 0
        · clear hn
          go_enter Tryz.func50, Tryz.ntmps50
          go_wp2_with fail
          refine HH.out.mono ?_
          rintro e1 w1 ⟨rfl, rfl⟩
          go_wp2_with fail
          exact bodyPost_ret (ret_ve rfl rfl ⟨by simp, by simp, by simp⟩) rfl ⟨rfl, HA.out⟩
        · have d1 : decide (j < 0) = false := decide_eq_false hj
          have d2 : decide ((x.l.length : Int) ≤ j) = true := decide_eq_true (by omega)
          clear hn hj
          go_enter Tryz.func50, Tryz.ntmps50
          go_wp2_with fail
          refine HH.out.mono ?_
          rintro e1 w1 ⟨rfl, rfl⟩
          go_wp2_with fail
          exact bodyPost_ret (ret_ve rfl rfl ⟨by simp, by simp, by simp⟩) rfl ⟨rfl, HA.out⟩
      | some u =>
        obtain ⟨k, s, rfl, hk⟩ := slotL_some hs
        obtain ⟨g2, cap2, rfl, hg2, v0, v1, v2, _⟩ := h1.value hk
        have hkl : k < x.l.length := lt_of_get hk
        have d2 : decide ((x.l.length : Int) ≤ (k : Int)) = false := decide_eq_false (by omega)
        clear p hg hi h1 A hsl hs h0 hk
        unfold vlV vlO
        dsimp only [Option.getD_some, Option.isSome_some]
        go_enter Tryz.func50, Tryz.ntmps50
        go_wp2_with fail
        refine HH.out.mono ?_
        rintro e1 w1 ⟨rfl, rfl⟩
        go_wp2_with fail
        exact bodyPost_ret (ret_ve rfl rfl ⟨by simp, by simp, by simp⟩) rfl ⟨rfl, (Below.refl _ _).alloc (Nat.le_refl _) _⟩
end
end Go.Proofs.YtemidicgipebjaaGreat

namespace Go.Proofs.YtemidicgipebjaaGreat
set_option linter.unusedSimpArgs false
set_option linter.unusedVariables false
set_option maxRecDepth 100000
open Go.RowKit
/-- a heap behind a change -/
def Chn (H' : He) (r f : Nat) (col : Nat → Nat) (w w' : World) : Prop := ∃ v' tv' q' col', RhM H' r f v' tv' q' col' w' ∧ Keep (fun b => col b ≠ 0) w w' ∧ ∀ b, b < w.heap.size → col' b = col b
theorem chn_of {P : Nat → Prop} {H' : He} {r f : Nat} {v' tv' : Value} {q' col col' : Nat → Nat} {w w' : World} (p : RhM H' r f v' tv' q' col' w') (g : Grew P col col' w w') (hP : ∀ u, P u → u ≠ 0) : Chn H' r f col w w' :=
  ⟨v', tv', q', col', p, g.keep.mono (fun b _ e => hP _ e), g.old⟩
theorem grew_more {P Q : Nat → Prop} {c1 c2 c3 : Nat → Nat} {a b c : World} (h : Grew P c1 c2 a b) (k : Grew Q c2 c3 b c) : Grew (fun u => P u ∨ Q u) c1 c3 a c := (h.mono (fun _ e => .inl e)).trans (k.mono (fun _ e => .inr e))
section
variable {K : Nat} {H : He} {r f : Nat} {v tv : Value} {q col : Nat → Nat}
set_option maxHeartbeats 1000000 in
theorem ynext_calls (w : World) (p : RhM H r f v tv q col w) (wf : WfS H.M H.L) (hn : H.N.length ≤ 1000000) (id : Int) (s : ByteArray) :
    Calls Tryz.prog 41 #[.pointer (some ⟨r, 0, none⟩), .int .i64 id, .string s] w fun e w' => e = .returned (.int .i64 (nextN H id s : Int)) ∧ ∃ tv' col', RhM (nextH H id s) r f v tv' q col' w' ∧ Grew (fun u => u = 1 ∨ u = 2 ∨ u = 3) col col' w w' := by
  have HH := hid (rhas_calls w p.fo id)
  obtain ⟨c0, c1, c2, c3, c4, hr⟩ := p.cells
  cases hg : getS H.L id with
  | none =>
    rw [show nextN H id s = 0 by unfold nextN; rw [hg], show nextH H id s = H by unfold nextH; rw [hg]]
    rw [hg] at HH
    have HP := hid p
    clear p hg
    go_enter Tryz.func41, Tryz.ntmps41
    go_wp2_with fail
    refine HH.out.mono ?_
    rintro e1 w1 ⟨rfl, rfl⟩
    go_wp2_with fail
    go_ret
    exact ⟨rfl, tv, col, HP.out, Grew.below (Below.refl _ _) HP.out.top⟩
  | some y =>
    rw [show nextN H id s = addN H.M H.L id (numT H.N s : Int) by unfold nextN; rw [hg], show nextH H id s = { H with N := ofT H.N s, L := addL H.M H.L id (numT H.N s : Int) } by unfold nextH; rw [hg]]
    rw [hg] at HH
    have D := (Below.refl w.heap.size w).drew
    have HO := hid (hrof_calls w.drew (p.on D).tabs s hn)
    have HP := hid (p.on D)
    have HD := hid D
    have HT := hid p.top
    clear p hg D
    go_enter Tryz.func41, Tryz.ntmps41
    go_wp2_with fail
    refine HH.out.mono ?_
    rintro e1 w1 ⟨rfl, rfl⟩
    go_wp2_with fail
    refine wp_region_held_drew (S := fun aZ => aZ.cell? ⟨r, 3, none⟩ = some (.pointer (some ⟨f, 0, none⟩))) (by kernel_rfl) ?_ (fun hHeld => ?_)
    · go_simp
    refine tkk 0 ?_
    refine tkk 1 ?_
    refine tkk 2 ?_
    refine tkk 3 ?_
    refine tkk 4 ?_
    refine tkk 5 ?_
    refine tkk 6 ?_
    refine tkk 7 ?_
    refine tkk 8 ?_
    refine rdy 9 (fun K hK => ?_)
    go_simp
    refine HO.out.mono ?_
    rintro e2 w2 ⟨rfl, tv2, t2, k2, n2⟩
    obtain ⟨col2, p2, g2⟩ := HP.out.names t2 k2 n2
    obtain ⟨_, _, _, c3, _, hr2⟩ := p2.cells
    have HA := hid (radd_calls w2 p2.fo wf id (numT H.N s : Int))
    have P2 := hid p2
    have G2 := hid (Grew.trans (Grew.below (P := fun u => u = 1 ∨ u = 2) HD.out HT.out) g2)
    clear t2 k2 n2 p2 g2 HO
    go_simp
    refine hK.out _ _ ?_ (fun _ => ?_)
    · (first | assumption | go_simp)
    clear hK K
    refine rdy 10 (fun K hK => ?_)
    go_simp
    refine HA.out.mono ?_
    rintro e3 w3 ⟨rfl, f3, k3, _⟩
    obtain ⟨col3, p3, g3⟩ := P2.out.wood k3 f3
    obtain ⟨_, _, _, c3, _, hr3⟩ := p3.cells
    have P3 := hid p3
    have G3 := hid ((grew_more G2.out g3).mono (Q := fun u => u = 1 ∨ u = 2 ∨ u = 3) (fun u e => by omega))
    clear f3 k3 p3 g3 HA
    go_simp
    refine hK.out _ _ ?_ (fun _ => ?_)
    · (first | assumption | go_simp)
    clear hK K
    refine tkk 11 ?_
    refine wpAnyH_done (by kernel_rfl) ?_ _
    go_wp2_with fail
    go_ret
    exact ⟨rfl, tv2, col3, P3.out, G3.out⟩
end
end Go.Proofs.YtemidicgipebjaaGreat
