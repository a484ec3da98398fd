/- SetProto, Put, Next, Grow. -/
import Derived.Test.YtemidicgipebjaaGreatHpDel
namespace Go.Proofs.YtemidicgipebjaaGreat
set_option linter.unusedSimpArgs false
set_option maxRecDepth 100000
open Go.RowKit

set_option maxHeartbeats 1000000 in
theorem hsetproto_calls {S : Nat → Prop} {K h : Nat} {H : He} (w : World) (p : HpS S K h H w) (h40 : 40 ≤ K) (hK2 : K ≤ 900000) (o a : Int) :
    Calls Tryz.prog 26 #[.pointer (some ⟨h, 0, none⟩), .int .i64 o, .int .i64 a] w fun e w' => e = .returned (.int .i64 (protoE H o a)) ∧ HpS (Up S w) (K + 1) h (protoS H o a) w' ∧ Keep S w w' := by
  have HM := hid (hmade_calls w p)
  have R := hid (show ∀ w', Below w.heap.size w w' → HpS (Up S w) (K + 1) h H w' ∧ Keep S w w' from fun w' b => ⟨((p.on b).more (Nat.le_succ _)).mono (fun _ _ e => .inl e), Keep.of b⟩)
  cases hg : getO H o with
  | none =>
    rw [show protoE H o a = 4 by unfold protoE; rw [hg], show protoS H o a = H by unfold protoS; rw [hg]]
    have HN := hid (hat_none w p hg)
    clear p hg
    go_enter Tryz.func26, Tryz.ntmps26
    go_wp2_with fail
    refine HM.out.mono ?_
    rintro e0 w0 ⟨rfl, rfl⟩
    go_wp2_with fail
    refine HN.out.mono ?_
    rintro e1 w1 ⟨rfl, rfl⟩
    go_wp2_with fail
    go_ret
    exact ⟨rfl, R.out _ (Below.refl _ _)⟩
  | some x =>
    obtain ⟨i, rfl, hi⟩ := getO_some hg
    have hE : protoE H ((i + 1 : Nat) : Int) a = if a ≠ 0 ∧ getO H a = none then 4 else if onH H ((i + 1 : Nat) : Int) a then 32 else 0 := by unfold protoE; rw [hg]; rfl
    have hP : protoS H ((i + 1 : Nat) : Int) a = if a ≠ 0 ∧ getO H a = none then H else if onH H ((i + 1 : Nat) : Int) a then H else if x.sh = 0 then putI H i { x with pr := a.toNat, ep := x.ep + 1 } else putI { H with L := (moveP H.M H.L x.sh a).2 } i { x with pr := a.toNat, ep := x.ep + 1, sh := (moveP H.M H.L x.sh a).1 } := by
      unfold protoS
      rw [hg]
      dsimp only
      rw [putO_succ, putO_succ]
      rfl
    rw [hE, hP]
    clear hE hP
    have hpp := p
    obtain ⟨s, c, n, f, v, g, q, col, p, hS⟩ := p
    have HN := hid (hat_some w p (lt_of_get hi))
    by_cases hz : a = 0
    · subst hz
      have hon : onH H ((i + 1 : Nat) : Int) 0 = false := by rw [onH_step p.wf, if_pos (by omega)]
      have hc : ¬ ((0 : Int) ≠ 0 ∧ getO H 0 = none) := by simp
      rw [if_neg hc, if_neg hc, hon]
      simp only [Bool.false_eq_true, if_false]
      by_cases h0 : x.sh = 0
      · rw [if_pos h0]
        exact hproto_dict0 w p h40 hK2 hi hS h0 0 (Nat.zero_le _) rfl hon
      · rw [if_neg h0]
        exact hproto_slot0 w p h40 hK2 hi hS h0 0 (Nat.zero_le _) rfl hon
    · have hz' : (a != 0) = true := by simpa using hz
      rcases Option.eq_none_or_eq_some (getO H a) with hga | ⟨y, hga⟩
      · have hc : a ≠ 0 ∧ getO H a = none := ⟨hz, hga⟩
        rw [if_pos hc, if_pos hc]
        clear hc
        have HN2 := hid (hat_none w hpp hga)
        clear p hg hS hga hpp hi
        generalize ((i + 1 : Nat) : Int) = o at *
        go_enter Tryz.func26, Tryz.ntmps26
        go_wp2_with fail
        refine HM.out.mono ?_
        rintro e0 w0 ⟨rfl, rfl⟩
        go_wp2_with fail
        refine HN.out.mono ?_
        rintro e1 w1 ⟨rfl, rfl⟩
        go_wp2_with fail
        refine HN2.out.mono ?_
        rintro e2 w2 ⟨rfl, rfl⟩
        go_wp2_with fail
        go_ret
        exact ⟨rfl, R.out _ (Below.refl _ _)⟩
      · have hc : ¬ (a ≠ 0 ∧ getO H a = none) := fun h => by rw [hga] at h; cases h.2
        rw [if_neg hc, if_neg hc]
        clear hc
        obtain ⟨a', rfl, ha'⟩ := getO_some hga
        cases hon : onH H ((i + 1 : Nat) : Int) ((a' + 1 : Nat) : Int) with
        | true =>
          simp only [if_true]
          have HN2 := hid (hat_some w p (lt_of_get ha'))
          have HC := hid (honchain_calls w hpp hK2 ((i + 1 : Nat) : Int) ((a' + 1 : Nat) : Int))
          rw [hon] at HC
          clear p hg hS hga hpp hi hon ha'
          generalize ((i + 1 : Nat) : Int) = o at *
          generalize ((a' + 1 : Nat) : Int) = z at *
          go_enter Tryz.func26, Tryz.ntmps26
          go_wp2_with fail
          refine HM.out.mono ?_
          rintro e1 w1 ⟨rfl, rfl⟩
          go_wp2_with fail
          refine HN.out.mono ?_
          rintro e2 w2 ⟨rfl, rfl⟩
          go_wp2_with fail
          refine HN2.out.mono ?_
          rintro e3 w3 ⟨rfl, rfl⟩
          go_wp2_with fail
          refine HC.out.mono ?_
          rintro e4 w4 ⟨rfl, b4⟩
          have R4 := hid (R.out _ b4)
          clear b4
          go_wp2_with fail
          go_ret
          exact ⟨rfl, R4.out⟩
        | false =>
          simp only [Bool.false_eq_true, if_false]
          have hla := lt_of_get ha'
          rw [Int.toNat_natCast]
          by_cases h0 : x.sh = 0
          · rw [if_pos h0]
            exact hproto_dict w p h40 hK2 hi hS h0 (a' + 1) (by omega) (by omega) hon
          · rw [if_neg h0]
            exact hproto_slot w p h40 hK2 hi hS h0 (a' + 1) (by omega) (by omega) hon
set_option maxHeartbeats 1000000 in
theorem hput_calls {S : Nat → Prop} {K h : Nat} {H : He} (w : World) (p : HpS S K h H w) (o j : Int) (u : Vl) :
    Calls Tryz.prog 29 #[.pointer (some ⟨h, 0, none⟩), .int .i64 o, .int .i64 j, vlV u] w fun e w' => e = .returned (.bool (putB H o j)) ∧ HpS (Up S w) K h (putH H o j u) w' ∧ Keep S w w' := by
  have A := (Below.refl w.heap.size w).alloc (Nat.le_refl _) (Obj.cells #[.int .i64 u.1, .int .i64 u.2.1, .string u.2.2] 26)
  cases hg : slotsO H o with
  | none =>
    have hn := slotsO_none hg
    have e1 : putH H o j u = H := by
      unfold putH
      cases hgo : getO H o with
      | none => rfl
      | some x =>
        have : x.sh = 0 := by have := hn.1; unfold shapeH at this; rw [hgo] at this; exact this
        dsimp only
        rw [if_pos (.inl this)]
    rw [show putB H o j = false by unfold putB; rw [hn.2 j]; rfl, e1]
    have HN := hid (hslots_none _ (p.on A) hg)
    have R := hid (show HpS (Up S w) K h H _ ∧ Keep S w _ from ⟨(p.on A).mono (fun _ _ e => .inl e), Keep.of A⟩)
    clear p hg hn e1 A
    unfold vlV
    go_enter Tryz.func29, Tryz.ntmps29
    go_wp2_with fail
    refine HN.out.mono ?_
    rintro e0 w0 ⟨rfl, rfl⟩
    go_wp2_with fail
    go_ret
    exact ⟨rfl, R.out⟩
  | some x =>
    obtain ⟨i, rfl, hi, h0, hgo⟩ := slotsO_some hg
    obtain ⟨s, c, n, f, v, g, q, col, p, hS⟩ := p
    have pA := p.on A
    have HN := hid (hslots_some _ pA hi h0)
    obtain ⟨vv, h1, h2⟩ := pA.slotted hi h0
    have HV := hid (sput_calls _ h1 j u)
    have eB : putB H ((i + 1 : Nat) : Int) j = (slotL x.l j).isSome := by unfold putB slotH; rw [hgo]; simp [h0]
    have eH : putH H ((i + 1 : Nat) : Int) j u = putI H i { x with l := putL x.l j u } := by
      unfold putH
      rw [hgo]
      dsimp only
      unfold putL
      by_cases hj : j < 0
      · rw [if_pos (.inr hj), if_neg (by omega)]
        exact (putI_self hi).symm
      · rw [if_neg (by rintro (h | h); exact h0 h; exact hj h), if_pos (by omega), putO_succ]
    rw [eB, eH]
    have wf : WfH K (putI H i { x with l := putL x.l j u }) := by
      unfold putL
      by_cases hj : 0 ≤ j
      · rw [if_pos hj]; exact putv_wf p.wf hi u
      · rw [if_neg hj]; rw [show ({ x with l := x.l } : Ob) = x from rfl, putI_self hi]; exact p.wf
    have HP := hid pA
    have HI := hid hi
    have HS := hid hS
    have HW := hid wf
    have H2 := hid h2
    have H0 := hid h0
    have HA := hid A
    unfold vlV at HV ⊢
    clear p pA hi hS wf h1 h2 hg hgo eB eH A h0
    generalize ((i + 1 : Nat) : Int) = o at *
    generalize hW0 : (w.alloc (Obj.cells #[.int .i64 u.1, .int .i64 u.2.1, .string u.2.2] 26)) = w0 at *
    have z0 : w0.cell? ⟨w.heap.size, 0, none⟩ = some (.int .i64 u.1) := by rw [← hW0]; simp
    have z1 : w0.cell? ⟨w.heap.size, 1, none⟩ = some (.int .i64 u.2.1) := by rw [← hW0]; simp
    have z2 : w0.cell? ⟨w.heap.size, 2, none⟩ = some (.string u.2.2) := by rw [← hW0]; simp
    go_enter Tryz.func29, Tryz.ntmps29
    go_wp2_with fail
    refine HN.out.mono ?_
    rintro e1 w1 ⟨rfl, rfl⟩
    go_wp2_with fail
    refine HV.out.mono ?_
    rintro e2 w2 ⟨rfl, k1, k2⟩
    have k2' := k2.mono (T := fun b => col b = 4 + i) (fun b _ e => H2.out b e)
    obtain ⟨r1, r2⟩ := (chg_part (x' := { x with l := putL x.l j u }) HP.out HI.out (Nat.le_refl _) rfl rfl HW.out k2' (.inl ⟨H0.out, vv, k1, fun b hb => .inl (H2.out b hb)⟩)).done HS.out
    have R := hid (show HpS (Up S w) K h (putI H i { x with l := putL x.l j u }) w2 ∧ Keep S w w2 from ⟨r1.mono (fun b hb e => by rcases e with e | e; exact .inl e; exact .inr (Nat.le_trans HA.out.size e)), (Keep.of HA.out).trans r2 (fun _ _ e => e)⟩)
    clear k1 k2 k2' r1 r2 HV
    go_wp2_with fail
    go_ret
    exact ⟨rfl, R.out⟩

end Go.Proofs.YtemidicgipebjaaGreat
