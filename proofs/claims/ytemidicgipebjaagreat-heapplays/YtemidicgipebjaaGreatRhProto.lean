/- The document's heap: SetProto. -/
import Derived.Test.YtemidicgipebjaaGreatJoint2
import Derived.Test.YtemidicgipebjaaGreatRhDel
import Derived.Deep.Cut
import Derived.Deep.CutRange
import Derived.Deep.DeepCutAuto
import Derived.Deep.CutBlock
namespace Go.Proofs.YtemidicgipebjaaGreat
set_option linter.unusedSimpArgs false
set_option linter.unusedVariables false
set_option maxRecDepth 100000
open Go.RowKit
theorem onC_zero {H : He} {o : Int} : ∀ n, onC H o n 0 = false
  | 0 => rfl
  | n + 1 => by unfold onC; rw [if_pos (by omega)]
section
variable {K : Nat} {H : He} {r f : Nat} {v tv : Value} {q col : Nat → Nat}
theorem yproto_none (w : World) (p : RhM H r f v tv q col w) (o a : Int) (hg : getO H o = none ∨ (a ≠ 0 ∧ getO H a = none)) :
    Calls Tryz.prog 38 #[.pointer (some ⟨r, 0, none⟩), .int .i64 o, .int .i64 a] w fun e w' => e = .returned (.int .i64 4) ∧ w' = w := by
  have HH := hid (yhas_calls w p o)
  have HA := hid (yhas_calls w p a)
  clear p
  cases ho : getO H o with
  | none =>
    rw [ho] at HH
    clear hg
    go_enter Tryz.func38, Tryz.ntmps38
    go_wp2_with fail
    refine HH.out.mono ?_
    rintro e1 w1 ⟨rfl, rfl⟩
    go_wp2_with fail
    go_ret
    exact ⟨rfl, rfl⟩
  | some x =>
    rw [ho] at HH hg
    obtain ⟨h0, h1⟩ : a ≠ 0 ∧ getO H a = none := by rcases hg with h | h; cases h; exact h
    rw [h1] at HA
    have d0 : (a != 0) = true := by simpa using h0
    clear hg h1 h0
    go_enter Tryz.func38, Tryz.ntmps38
    go_wp2_with fail
    refine HH.out.mono ?_
    rintro e1 w1 ⟨rfl, rfl⟩
    go_wp2_with fail
    refine HA.out.mono ?_
    rintro e1 w1 ⟨rfl, rfl⟩
    go_wp2_with fail
    go_ret
    exact ⟨rfl, rfl⟩
set_option maxHeartbeats 4000000 in
theorem yproto_cycle (w : World) (p : RhM H r f v tv q col w) (hl : H.os.length ≤ 200) {i a : Nat} {x : Ob} (hi : H.os[i]? = some x) (hep : x.ep ≤ 900000) (ha : a = 0 ∨ (getO H (a : Int)).isSome = true) (hon : onC H ((i : Int) + 1) (H.os.length + 1) (a : Int) = true) :
    Calls Tryz.prog 38 #[.pointer (some ⟨r, 0, none⟩), .int .i64 ((i : Int) + 1), .int .i64 (a : Int)] w fun e w' => e = .returned (.int .i64 32) ∧ w' = w := by
  have hil := lt_of_get hi
  have HH := hid (yhas_calls w p ((i : Int) + 1))
  rw [show getO H ((i : Int) + 1) = some x from (getO_succ H i).trans hi] at HH
  have HA := hid (yhas_calls w p (a : Int))
  have HP := hid p
  obtain ⟨c0, d1, d2, d3, d4, hr⟩ := p.cells
  obtain ⟨g, cap, rfl, hgl, c1⟩ := p.at' hil
  obtain ⟨nv, vv, h1, h2⟩ := p.ob i x hi
  have H1 := hid h1
  have H2 := hid h2
  have HI := hid hi
  have HZ := hid hon
  obtain ⟨z0, z1, z2, z3, z4, hz⟩ := h1.five
  have f0 := blk_free h1.blk 0
  have f3 := blk_free h1.blk 3
  have f4 := blk_free h1.blk 4
  clear p h1 h2 hi hon
  go_enter Tryz.func38, Tryz.ntmps38
  go_upto_region 1 with fail
  go_cut [23] (fun c wx => c = .bool false ∧ wx = w)
  case first =>
    by_cases ha0 : a = 0
    · have da : ((a : Int) != 0) = false := by simp [ha0]
      clear ha HA ha0
      go_wp2_with fail
      refine HH.out.mono ?_
      rintro e1 w1 ⟨rfl, hw1⟩
      subst w1
      go_wp2_with fail
      go_meet
      exact ⟨rfl, rfl⟩
    · have da : ((a : Int) != 0) = true := by simpa using (show (a : Int) ≠ 0 by omega)
      rw [show (getO H (a : Int)).isSome = true by rcases ha with h | h; exact absurd h ha0; exact h] at HA
      clear ha ha0
      go_wp2_with fail
      refine HH.out.mono ?_
      rintro e1 w1 ⟨rfl, hw1⟩
      subst w1
      go_wp2_with fail
      refine HA.out.mono ?_
      rintro e1 w1 ⟨rfl, hw1⟩
      subst w1
      go_wp2_with fail
      go_meet
      exact ⟨rfl, rfl⟩
  case rest =>
    obtain ⟨rfl, rfl⟩ := hcut
    rename World => w
    clear ha HA HH
    go_wp2_with fail
    go_loopw [7, 8] (fun at_ b wr => ∃ (c k : Nat), k ≤ H.os.length + 1 ∧ at_ = .int .i64 (c : Int) ∧ b = .int .i64 (k : Int) ∧ Hid (onC H ((i : Int) + 1) (H.os.length + 1 - k) (c : Int) = true) ∧ wr = w) (fun _ b _ => H.os.length + 1 - (intOf b).toNat)
    case atStart => exact ⟨a, 0, Nat.zero_le _, rfl, rfl, HZ, rfl⟩
    case round =>
      obtain ⟨c, k, hk, rfl, rfl, hZ, hwr⟩ := hrel
      subst wr
      by_cases hgo : k ≤ H.os.length ∧ c ≠ 0
      · obtain ⟨hkl, hc0⟩ := hgo
        have dk : decide ((k : Int) ≤ (H.os.length : Int)) = true := decide_eq_true (by omega)
        have dc : ((c : Int) != 0) = true := by simpa using (show (c : Int) ≠ 0 by omega)
        have hst := hZ.out
        rw [show H.os.length + 1 - k = (H.os.length - k) + 1 by omega] at hst
        unfold onC at hst
        rw [if_neg (by omega)] at hst
        by_cases hco : (c : Int) = ((i : Int) + 1)
        · rw [if_pos hco] at hst
          clear hst
          have deq : ((c : Int) == ((i : Int) + 1)) = true := by simpa using hco
          clear hco
          go_wp2_with fail
          go_ret
          exact ⟨rfl, rfl⟩
        · rw [if_neg hco] at hst
          have HPr := hid (yproto_calls w HP.out hl (c : Int))
          have HG := hid (show onC H ((i : Int) + 1) (H.os.length + 1 - (k + 1)) (protoH H (c : Int) : Int) = true by rw [show H.os.length + 1 - (k + 1) = H.os.length - k by omega]; exact hst)
          clear hst
          go_wp2_with fail
          refine HPr.out.mono ?_
          rintro e2 w2 ⟨rfl, hw2⟩
          subst w2
          go_wp2_with fail
          exact ⟨⟨_, k + 1, by omega, rfl, by simp, HG, trivial⟩, by simp [intOf]; omega⟩
      · exfalso
        have hst := hZ.out
        by_cases hc0 : c = 0
        · subst hc0
          rw [show ((0 : Nat) : Int) = 0 from rfl, onC_zero] at hst
          cases hst
        · rw [show H.os.length + 1 - k = 0 by omega] at hst
          cases hst
set_option maxHeartbeats 4000000 in
theorem yproto_dict (w : World) (p : RhM H r f v tv q col w) (hl : H.os.length ≤ 200) {i a : Nat} {x : Ob} (hi : H.os[i]? = some x) (hep : x.ep ≤ 900000) (ha : a = 0 ∨ (getO H (a : Int)).isSome = true) (h0 : x.sh = 0) (hon : onC H ((i : Int) + 1) (H.os.length + 1) (a : Int) = false) :
    Calls Tryz.prog 38 #[.pointer (some ⟨r, 0, none⟩), .int .i64 ((i : Int) + 1), .int .i64 (a : Int)] w fun e w' => e = .returned (.int .i64 0) ∧ Chn (putI H i { x with pr := a, ep := x.ep + 1 }) r f col w w' := by
  have hil := lt_of_get hi
  have HH := hid (yhas_calls w p ((i : Int) + 1))
  rw [show getO H ((i : Int) + 1) = some x from (getO_succ H i).trans hi] at HH
  have HA := hid (yhas_calls w p (a : Int))
  have HP := hid p
  obtain ⟨c0, d1, d2, d3, d4, hr⟩ := p.cells
  obtain ⟨g, cap, rfl, hgl, c1⟩ := p.at' hil
  obtain ⟨nv, vv, h1, h2⟩ := p.ob i x hi
  have H1 := hid h1
  have H2 := hid h2
  have HI := hid hi
  have HZ := hid hon
  obtain ⟨z0, z1, z2, z3, z4, hz⟩ := h1.five
  have f0 := blk_free h1.blk 0
  have f3 := blk_free h1.blk 3
  have f4 := blk_free h1.blk 4
  rw [h0] at z4
  clear p h1 h2 hi hon
  go_enter Tryz.func38, Tryz.ntmps38
  go_upto_region 1 with fail
  go_cut [23] (fun c wx => c = .bool false ∧ wx = w)
  case first =>
    by_cases ha0 : a = 0
    · have da : ((a : Int) != 0) = false := by simp [ha0]
      clear ha HA ha0
      go_wp2_with fail
      refine HH.out.mono ?_
      rintro e1 w1 ⟨rfl, hw1⟩
      subst w1
      go_wp2_with fail
      go_meet
      exact ⟨rfl, rfl⟩
    · have da : ((a : Int) != 0) = true := by simpa using (show (a : Int) ≠ 0 by omega)
      rw [show (getO H (a : Int)).isSome = true by rcases ha with h | h; exact absurd h ha0; exact h] at HA
      clear ha ha0
      go_wp2_with fail
      refine HH.out.mono ?_
      rintro e1 w1 ⟨rfl, hw1⟩
      subst w1
      go_wp2_with fail
      refine HA.out.mono ?_
      rintro e1 w1 ⟨rfl, hw1⟩
      subst w1
      go_wp2_with fail
      go_meet
      exact ⟨rfl, rfl⟩
  case rest =>
    obtain ⟨rfl, rfl⟩ := hcut
    rename World => w
    clear ha HA HH
    go_wp2_with fail
    go_loopw [7, 8] (fun at_ b wr => ∃ (c k : Nat), k ≤ H.os.length + 1 ∧ at_ = .int .i64 (c : Int) ∧ b = .int .i64 (k : Int) ∧ Hid (onC H ((i : Int) + 1) (H.os.length + 1 - k) (c : Int) = false) ∧ wr = w) (fun _ b _ => H.os.length + 1 - (intOf b).toNat)
    case atStart => exact ⟨a, 0, Nat.zero_le _, rfl, rfl, HZ, rfl⟩
    case round =>
      obtain ⟨c, k, hk, rfl, rfl, hZ, hwr⟩ := hrel
      subst wr
      by_cases hgo : k ≤ H.os.length ∧ c ≠ 0
      · obtain ⟨hkl, hc0⟩ := hgo
        have dk : decide ((k : Int) ≤ (H.os.length : Int)) = true := decide_eq_true (by omega)
        have dc : ((c : Int) != 0) = true := by simpa using (show (c : Int) ≠ 0 by omega)
        have hst := hZ.out
        rw [show H.os.length + 1 - k = (H.os.length - k) + 1 by omega] at hst
        unfold onC at hst
        rw [if_neg (by omega)] at hst
        by_cases hco : (c : Int) = ((i : Int) + 1)
        · rw [if_pos hco] at hst
          cases hst
        · rw [if_neg hco] at hst
          have HPr := hid (yproto_calls w HP.out hl (c : Int))
          have HG := hid (show onC H ((i : Int) + 1) (H.os.length + 1 - (k + 1)) (protoH H (c : Int) : Int) = false by rw [show H.os.length + 1 - (k + 1) = H.os.length - k by omega]; exact hst)
          clear hst
          go_wp2_with fail
          refine HPr.out.mono ?_
          rintro e2 w2 ⟨rfl, hw2⟩
          subst w2
          go_wp2_with fail
          exact ⟨⟨_, k + 1, by omega, rfl, by simp, HG, trivial⟩, by simp [intOf]; omega⟩
      · obtain ⟨s1, k1⟩ := H1.out.setP (.int .i64 (a : Int))
        obtain ⟨s2, k2⟩ := s1.setE (.int .i64 ((x.ep : Int) + 1))
        have K2 := k1.trans k2 (fun _ _ h => h)
        obtain ⟨col2, p2, g2⟩ := HP.out.objK (x' := { x with pr := a, ep := x.ep + 1 }) HI.out H2.out K2 s2 (fun y h => .inl h)
        have R := hid (chn_of p2 g2 (fun u e => by omega))
        clear s1 k1 s2 k2 K2 p2 g2
        rcases Nat.lt_or_ge H.os.length k with hkl | hkl
        · have dk : decide ((k : Int) ≤ (H.os.length : Int)) = false := decide_eq_false (by omega)
          clear hgo
          go_wp2_with fail
          go_ret
          exact ⟨rfl, R.out⟩
        · have hc0 : c = 0 := Classical.byContradiction (fun h => hgo ⟨hkl, h⟩)
          subst hc0
          have dk : decide ((k : Int) ≤ (H.os.length : Int)) = true := decide_eq_true (by omega)
          clear hgo
          go_wp2_with fail
          go_ret
          exact ⟨rfl, R.out⟩
theorem put_wood {i : Nat} {x y : Ob} {L' : List Sh} : putI { putI H i x with L := L' } i y = putI { H with L := L' } i y := by unfold putI; simp
set_option maxHeartbeats 4000000 in
theorem yproto_slot (w : World) (p : RhM H r f v tv q col w) (hl : H.os.length ≤ 200) {i a : Nat} {x : Ob} (hi : H.os[i]? = some x) (hep : x.ep ≤ 900000) (ha : a = 0 ∨ (getO H (a : Int)).isSome = true) (h0 : x.sh ≠ 0) (wfs : WfS H.M H.L) (hI : I64 (a : Int)) (hon : onC H ((i : Int) + 1) (H.os.length + 1) (a : Int) = false) :
    Calls Tryz.prog 38 #[.pointer (some ⟨r, 0, none⟩), .int .i64 ((i : Int) + 1), .int .i64 (a : Int)] w fun e w' => e = .returned (.int .i64 0) ∧ Chn (putI { H with L := (moveP H.M H.L (x.sh : Int) (a : Int)).2 } i { x with pr := a, ep := x.ep + 1, sh := (moveP H.M H.L (x.sh : Int) (a : Int)).1 }) r f col w w' := by
  have dsh : decide (0 < (x.sh : Int)) = true := decide_eq_true (by omega)
  have hil := lt_of_get hi
  have HH := hid (yhas_calls w p ((i : Int) + 1))
  rw [show getO H ((i : Int) + 1) = some x from (getO_succ H i).trans hi] at HH
  have HA := hid (yhas_calls w p (a : Int))
  have HP := hid p
  obtain ⟨c0, d1, d2, d3, d4, hr⟩ := p.cells
  obtain ⟨g, cap, rfl, hgl, c1⟩ := p.at' hil
  obtain ⟨nv, vv, h1, h2⟩ := p.ob i x hi
  have H1 := hid h1
  have H2 := hid h2
  have HI := hid hi
  have HZ := hid hon
  obtain ⟨z0, z1, z2, z3, z4, hz⟩ := h1.five
  have f0 := blk_free h1.blk 0
  have f3 := blk_free h1.blk 3
  have f4 := blk_free h1.blk 4
  clear p h1 h2 hi hon
  go_enter Tryz.func38, Tryz.ntmps38
  go_upto_region 1 with fail
  go_cut [23] (fun c wx => c = .bool false ∧ wx = w)
  case first =>
    by_cases ha0 : a = 0
    · have da : ((a : Int) != 0) = false := by simp [ha0]
      clear ha HA ha0
      go_wp2_with fail
      refine HH.out.mono ?_
      rintro e1 w1 ⟨rfl, hw1⟩
      subst w1
      go_wp2_with fail
      go_meet
      exact ⟨rfl, rfl⟩
    · have da : ((a : Int) != 0) = true := by simpa using (show (a : Int) ≠ 0 by omega)
      rw [show (getO H (a : Int)).isSome = true by rcases ha with h | h; exact absurd h ha0; exact h] at HA
      clear ha ha0
      go_wp2_with fail
      refine HH.out.mono ?_
      rintro e1 w1 ⟨rfl, hw1⟩
      subst w1
      go_wp2_with fail
      refine HA.out.mono ?_
      rintro e1 w1 ⟨rfl, hw1⟩
      subst w1
      go_wp2_with fail
      go_meet
      exact ⟨rfl, rfl⟩
  case rest =>
    obtain ⟨rfl, rfl⟩ := hcut
    rename World => w
    clear ha HA HH
    go_wp2_with fail
    go_loopw [7, 8] (fun at_ b wr => ∃ (c k : Nat), k ≤ H.os.length + 1 ∧ at_ = .int .i64 (c : Int) ∧ b = .int .i64 (k : Int) ∧ Hid (onC H ((i : Int) + 1) (H.os.length + 1 - k) (c : Int) = false) ∧ wr = w) (fun _ b _ => H.os.length + 1 - (intOf b).toNat)
    case atStart => exact ⟨a, 0, Nat.zero_le _, rfl, rfl, HZ, rfl⟩
    case round =>
      obtain ⟨c, k, hk, rfl, rfl, hZ, hwr⟩ := hrel
      subst wr
      by_cases hgo : k ≤ H.os.length ∧ c ≠ 0
      · obtain ⟨hkl, hc0⟩ := hgo
        have dk : decide ((k : Int) ≤ (H.os.length : Int)) = true := decide_eq_true (by omega)
        have dc : ((c : Int) != 0) = true := by simpa using (show (c : Int) ≠ 0 by omega)
        have hst := hZ.out
        rw [show H.os.length + 1 - k = (H.os.length - k) + 1 by omega] at hst
        unfold onC at hst
        rw [if_neg (by omega)] at hst
        by_cases hco : (c : Int) = ((i : Int) + 1)
        · rw [if_pos hco] at hst
          cases hst
        · rw [if_neg hco] at hst
          have HPr := hid (yproto_calls w HP.out hl (c : Int))
          have HG := hid (show onC H ((i : Int) + 1) (H.os.length + 1 - (k + 1)) (protoH H (c : Int) : Int) = false by rw [show H.os.length + 1 - (k + 1) = H.os.length - k by omega]; exact hst)
          clear hst
          go_wp2_with fail
          refine HPr.out.mono ?_
          rintro e2 w2 ⟨rfl, hw2⟩
          subst w2
          go_wp2_with fail
          exact ⟨⟨_, k + 1, by omega, rfl, by simp, HG, trivial⟩, by simp [intOf]; omega⟩
      · obtain ⟨s1, k1⟩ := H1.out.setP (.int .i64 (a : Int))
        obtain ⟨s2, k2⟩ := s1.setE (.int .i64 ((x.ep : Int) + 1))
        have K2 := k1.trans k2 (fun _ _ h => h)
        obtain ⟨col2, p2, g2⟩ := HP.out.objK (x' := { x with pr := a, ep := x.ep + 1 }) HI.out H2.out K2 s2 (fun y h => .inl h)
        have bD := (Below.refl ((w.setCell ⟨q i, 0, none⟩ (.int .i64 (a : Int))).setCell ⟨q i, 3, none⟩ (.int .i64 ((x.ep : Int) + 1))).heap.size ((w.setCell ⟨q i, 0, none⟩ (.int .i64 (a : Int))).setCell ⟨q i, 3, none⟩ (.int .i64 ((x.ep : Int) + 1)))).drew
        have HM := hid (rmove_calls _ (p2.on bD).fo wfs (x.sh : Int) (a : Int) hI)
        have PD := hid (p2.on bD)
        have GD := hid (g2.trans (Grew.below bD p2.top))
        obtain ⟨_, _, _, e3, _, er⟩ := p2.cells
        obtain ⟨y0, y1, y2, y3, y4, hy⟩ := s2.five
        clear s1 k1 s2 k2 K2 p2 g2 bD
        rcases Nat.lt_or_ge H.os.length k with hkl | hkl
        · have dk : decide ((k : Int) ≤ (H.os.length : Int)) = false := decide_eq_false (by omega)
          clear hgo
          go_wp2_with fail
          generalize hW2 : (w.setCell ⟨q i, 0, none⟩ (.int .i64 (a : Int))).setCell ⟨q i, 3, none⟩ (.int .i64 ((x.ep : Int) + 1)) = w2 at *
          refine wp_region_held_drew (S := fun aZ => aZ.cell? ⟨r, 3, none⟩ = some (.pointer (some ⟨f, 0, none⟩))) (by kernel_rfl) ?_ (fun hHeld => ?_)
          · go_simp
          refine tkk 0 ?_
          refine tkk 1 ?_
          refine tkk 2 ?_
          refine tkk 3 ?_
          refine tkk 4 ?_
          refine tkk 5 ?_
          refine tkk 6 ?_
          refine tkk 7 ?_
          refine tkk 9 ?_
          refine rdy 8 (fun K hK => ?_)
          go_simp
          refine hK.out _ _ ?_ (fun _ => ?_)
          · (first | assumption | go_simp)
          clear hK K
          refine rdy 10 (fun K hK => ?_)
          go_simp
          refine HM.out.mono ?_
          rintro e3 w3 ⟨rfl, f3, k3⟩
          obtain ⟨col3, p3, g3⟩ := PD.out.wood k3 f3
          obtain ⟨nv3, vv3, o3, c3⟩ := p3.ob i { x with pr := a, ep := x.ep + 1 } (put_at hil)
          obtain ⟨y0, y1, y2, y3, y4, hy⟩ := o3.five
          have fz4 := blk_free o3.blk 4
          obtain ⟨_, _, _, e3, _, er⟩ := p3.cells
          have nqr : q i ≠ r := fun e => absurd (blk_type (e ▸ o3.blk) p3.bh) (by decide)
          have nrq := nqr.symm
          obtain ⟨s4, k4⟩ := o3.setS (.int .i64 ((moveP H.M H.L (x.sh : Int) (a : Int)).1 : Int))
          obtain ⟨col4, p4, g4⟩ := p3.objK (x' := { x with pr := a, ep := x.ep + 1, sh := (moveP H.M H.L (x.sh : Int) (a : Int)).1 }) (put_at hil) c3 k4 s4 (fun y h => .inl h)
          rw [put_wood] at p4
          have R := hid (chn_of p4 (grew_more (grew_more GD.out g3) g4) (fun u e => by omega))
          clear f3 k3 p3 g3 o3 c3 s4 k4 p4 g4 HM
          go_simp
          refine hK.out _ _ ?_ (fun _ => ?_)
          · (first | assumption | go_simp)
          clear hK K
          refine tkk 11 ?_
          refine tkk 12 ?_
          refine rdy 13 (fun K hK => ?_)
          go_simp
          refine hK.out _ _ ?_ (fun _ => ?_)
          · (first | assumption | go_simp)
          clear hK K
          refine wpAnyH_done (by kernel_rfl) ?_ _
          go_wp2_with fail
          go_ret
          exact ⟨rfl, R.out⟩
        · have hc0 : c = 0 := Classical.byContradiction (fun h => hgo ⟨hkl, h⟩)
          subst hc0
          have dk : decide ((k : Int) ≤ (H.os.length : Int)) = true := decide_eq_true (by omega)
          clear hgo
          go_wp2_with fail
          generalize hW2 : (w.setCell ⟨q i, 0, none⟩ (.int .i64 (a : Int))).setCell ⟨q i, 3, none⟩ (.int .i64 ((x.ep : Int) + 1)) = w2 at *
          refine wp_region_held_drew (S := fun aZ => aZ.cell? ⟨r, 3, none⟩ = some (.pointer (some ⟨f, 0, none⟩))) (by kernel_rfl) ?_ (fun hHeld => ?_)
          · go_simp
          refine tkk 0 ?_
          refine tkk 1 ?_
          refine tkk 2 ?_
          refine tkk 3 ?_
          refine tkk 4 ?_
          refine tkk 5 ?_
          refine tkk 6 ?_
          refine tkk 7 ?_
          refine tkk 9 ?_
          refine rdy 8 (fun K hK => ?_)
          go_simp
          refine hK.out _ _ ?_ (fun _ => ?_)
          · (first | assumption | go_simp)
          clear hK K
          refine rdy 10 (fun K hK => ?_)
          go_simp
          refine HM.out.mono ?_
          rintro e3 w3 ⟨rfl, f3, k3⟩
          obtain ⟨col3, p3, g3⟩ := PD.out.wood k3 f3
          obtain ⟨nv3, vv3, o3, c3⟩ := p3.ob i { x with pr := a, ep := x.ep + 1 } (put_at hil)
          obtain ⟨y0, y1, y2, y3, y4, hy⟩ := o3.five
          have fz4 := blk_free o3.blk 4
          obtain ⟨_, _, _, e3, _, er⟩ := p3.cells
          have nqr : q i ≠ r := fun e => absurd (blk_type (e ▸ o3.blk) p3.bh) (by decide)
          have nrq := nqr.symm
          obtain ⟨s4, k4⟩ := o3.setS (.int .i64 ((moveP H.M H.L (x.sh : Int) (a : Int)).1 : Int))
          obtain ⟨col4, p4, g4⟩ := p3.objK (x' := { x with pr := a, ep := x.ep + 1, sh := (moveP H.M H.L (x.sh : Int) (a : Int)).1 }) (put_at hil) c3 k4 s4 (fun y h => .inl h)
          rw [put_wood] at p4
          have R := hid (chn_of p4 (grew_more (grew_more GD.out g3) g4) (fun u e => by omega))
          clear f3 k3 p3 g3 o3 c3 s4 k4 p4 g4 HM
          go_simp
          refine hK.out _ _ ?_ (fun _ => ?_)
          · (first | assumption | go_simp)
          clear hK K
          refine tkk 11 ?_
          refine tkk 12 ?_
          refine rdy 13 (fun K hK => ?_)
          go_simp
          refine hK.out _ _ ?_ (fun _ => ?_)
          · (first | assumption | go_simp)
          clear hK K
          refine wpAnyH_done (by kernel_rfl) ?_ _
          go_wp2_with fail
          go_ret
          exact ⟨rfl, R.out⟩
theorem ysetproto_calls (w : World) (p : RhM H r f v tv q col w) (W : WfH K H) (hK : K ≤ 900000) (o a : Int) :
    Calls Tryz.prog 38 #[.pointer (some ⟨r, 0, none⟩), .int .i64 o, .int .i64 a] w fun e w' => e = .returned (.int .i64 (protoE H o a)) ∧ Chn (protoS H o a) r f col w w' := by
  have same : ∀ {w' : World}, Below w.heap.size w w' → Chn H r f col w w' := fun {w'} b => chn_of (P := fun u => u = 1) (p.on b) (Grew.below b p.top) (fun u e => by omega)
  have hl : H.os.length ≤ 200 := by have := W.len; have := W.most; omega
  unfold protoE protoS
  cases hg : getO H o with
  | none =>
    refine (yproto_none w p o a (.inl hg)).mono ?_
    rintro e w' ⟨rfl, rfl⟩
    exact ⟨rfl, same (Below.refl _ _)⟩
  | some x =>
    dsimp only
    by_cases hn : a ≠ 0 ∧ getO H a = none
    · rw [if_pos hn, if_pos hn]
      refine (yproto_none w p o a (.inr hn)).mono ?_
      rintro e w' ⟨rfl, rfl⟩
      exact ⟨rfl, same (Below.refl _ _)⟩
    · rw [if_neg hn, if_neg hn]
      obtain ⟨b, rfl, hb⟩ : ∃ b : Nat, a = (b : Int) ∧ (b = 0 ∨ (getO H (b : Int)).isSome = true) := by
        by_cases h0 : a = 0
        · exact ⟨0, h0, .inl rfl⟩
        · cases hga : getO H a with
          | none => exact absurd ⟨h0, hga⟩ hn
          | some y =>
            have := getO_lt hga
            obtain ⟨c, rfl⟩ : ∃ c : Nat, a = (c : Int) := ⟨a.toNat, by omega⟩
            exact ⟨c, rfl, .inr (by rw [hga]; rfl)⟩
      have hI : I64 (b : Int) := by
        rcases hb with rfl | hb
        · unfold I64; decide
        · obtain ⟨y, hy⟩ := Option.isSome_iff_exists.1 hb
          have := getO_lt hy
          unfold I64
          omega
      obtain ⟨i, rfl, hi⟩ := getO_some hg
      have hep := (W.obs i x hi).ep
      have hp : ∀ (H' : He) (y : Ob), putO H' ((i + 1 : Nat) : Int) y = putI H' i y := fun H' y => by unfold putO putI; rw [show (((i + 1 : Nat) : Int) - 1).toNat = i by omega]
      cases hon : onC H ((i + 1 : Nat) : Int) (H.os.length + 1) (b : Int) with
      | true =>
        refine (yproto_cycle w p hl hi (by omega) hb hon).mono ?_
        rintro e w' ⟨rfl, rfl⟩
        exact ⟨rfl, same (Below.refl _ _)⟩
      | false =>
        simp only [Bool.false_eq_true, ↓reduceIte]
        by_cases h0 : x.sh = 0
        · rw [if_pos h0, hp, Int.toNat_natCast]
          exact yproto_dict w p hl hi (by omega) hb h0 hon
        · rw [if_neg h0, hp, Int.toNat_natCast]
          exact yproto_slot w p hl hi (by omega) hb h0 W.wfs hI hon
end
end Go.Proofs.YtemidicgipebjaaGreat
