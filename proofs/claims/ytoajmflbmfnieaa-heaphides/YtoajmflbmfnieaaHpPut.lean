/- SetProto, Put, Next, Grow. -/
import Derived.Test.YtoajmflbmfnieaaHpDel
namespace Go.Proofs.Ytoajmflbmfnieaa
set_option linter.unusedSimpArgs false
set_option maxRecDepth 100000
open Go.RowKit

set_option maxHeartbeats 1000000 in
theorem hsetproto_calls {S : Nat → Prop} {K h : Nat} {H : He} (w : World) (p : HpS S K h H w) (h40 : 40 ≤ K) (hK2 : K ≤ 900000) (o a : Int) :
    Calls Try.prog 10 #[.pointer (some ⟨h, 0, none⟩), .int .i64 o, .int .i64 a] w fun e w' => e = .returned (.int .i64 (protoE H o a)) ∧ HpS (Up S w) (K + 1) h (protoS H o a) w' ∧ Keep S w w' := by
  have HM := hid (hmade_calls w p)
  have R := hid (show ∀ w', Below w.heap.size w w' → HpS (Up S w) (K + 1) h H w' ∧ Keep S w w' from fun w' b => ⟨((p.on b).more (Nat.le_succ _)).mono (fun _ _ e => .inl e), Keep.of b⟩)
  cases hg : getO H o with
  | none =>
    rw [show protoE H o a = 4 by unfold protoE; rw [hg], show protoS H o a = H by unfold protoS; rw [hg]]
    have HN := hid (hat_none w p hg)
    clear p hg
    go_enter Try.func10, Try.ntmps10
    go_wp2_with fail
    refine HM.out.mono ?_
    rintro e0 w0 ⟨rfl, rfl⟩
    go_wp2_with fail
    refine HN.out.mono ?_
    rintro e1 w1 ⟨rfl, rfl⟩
    go_wp2_with fail
    go_ret
    exact ⟨rfl, R.out _ (Below.refl _ _)⟩
  | some x =>
    obtain ⟨i, rfl, hi⟩ := getO_some hg
    have hE : protoE H ((i + 1 : Nat) : Int) a = if a ≠ 0 ∧ getO H a = none then 4 else if onH H ((i + 1 : Nat) : Int) a then 32 else 0 := by unfold protoE; rw [hg]; rfl
    have hP : protoS H ((i + 1 : Nat) : Int) a = if a ≠ 0 ∧ getO H a = none then H else if onH H ((i + 1 : Nat) : Int) a then H else if x.sh = 0 then putI H i { x with pr := a.toNat, ep := x.ep + 1 } else putI { H with L := (moveP H.M H.L x.sh a).2 } i { x with pr := a.toNat, ep := x.ep + 1, sh := (moveP H.M H.L x.sh a).1 } := by
      unfold protoS
      rw [hg]
      dsimp only
      rw [putO_succ, putO_succ]
      rfl
    rw [hE, hP]
    clear hE hP
    have hpp := p
    obtain ⟨s, c, n, f, v, g, q, col, p, hS⟩ := p
    have HN := hid (hat_some w p (lt_of_get hi))
    by_cases hz : a = 0
    · subst hz
      have hon : onH H ((i + 1 : Nat) : Int) 0 = false := by rw [onH_step p.wf, if_pos (by omega)]
      have hc : ¬ ((0 : Int) ≠ 0 ∧ getO H 0 = none) := by simp
      rw [if_neg hc, if_neg hc, hon]
      simp only [Bool.false_eq_true, if_false]
      by_cases h0 : x.sh = 0
      · rw [if_pos h0]
        exact hproto_dict0 w p h40 hK2 hi hS h0 0 (Nat.zero_le _) rfl hon
      · rw [if_neg h0]
        exact hproto_slot0 w p h40 hK2 hi hS h0 0 (Nat.zero_le _) rfl hon
    · have hz' : (a != 0) = true := by simpa using hz
      rcases Option.eq_none_or_eq_some (getO H a) with hga | ⟨y, hga⟩
      · have hc : a ≠ 0 ∧ getO H a = none := ⟨hz, hga⟩
        rw [if_pos hc, if_pos hc]
        clear hc
        have HN2 := hid (hat_none w hpp hga)
        clear p hg hS hga hpp hi
        generalize ((i + 1 : Nat) : Int) = o at *
        go_enter Try.func10, Try.ntmps10
        go_wp2_with fail
        refine HM.out.mono ?_
        rintro e0 w0 ⟨rfl, rfl⟩
        go_wp2_with fail
        refine HN.out.mono ?_
        rintro e1 w1 ⟨rfl, rfl⟩
        go_wp2_with fail
        refine HN2.out.mono ?_
        rintro e2 w2 ⟨rfl, rfl⟩
        go_wp2_with fail
        go_ret
        exact ⟨rfl, R.out _ (Below.refl _ _)⟩
      · have hc : ¬ (a ≠ 0 ∧ getO H a = none) := fun h => by rw [hga] at h; cases h.2
        rw [if_neg hc, if_neg hc]
        clear hc
        obtain ⟨a', rfl, ha'⟩ := getO_some hga
        cases hon : onH H ((i + 1 : Nat) : Int) ((a' + 1 : Nat) : Int) with
        | true =>
          simp only [if_true]
          have HN2 := hid (hat_some w p (lt_of_get ha'))
          have HC := hid (honchain_calls w hpp hK2 ((i + 1 : Nat) : Int) ((a' + 1 : Nat) : Int))
          rw [hon] at HC
          clear p hg hS hga hpp hi hon ha'
          generalize ((i + 1 : Nat) : Int) = o at *
          generalize ((a' + 1 : Nat) : Int) = z at *
          go_enter Try.func10, Try.ntmps10
          go_wp2_with fail
          refine HM.out.mono ?_
          rintro e1 w1 ⟨rfl, rfl⟩
          go_wp2_with fail
          refine HN.out.mono ?_
          rintro e2 w2 ⟨rfl, rfl⟩
          go_wp2_with fail
          refine HN2.out.mono ?_
          rintro e3 w3 ⟨rfl, rfl⟩
          go_wp2_with fail
          refine HC.out.mono ?_
          rintro e4 w4 ⟨rfl, b4⟩
          have R4 := hid (R.out _ b4)
          clear b4
          go_wp2_with fail
          go_ret
          exact ⟨rfl, R4.out⟩
        | false =>
          simp only [Bool.false_eq_true, if_false]
          have hla := lt_of_get ha'
          rw [Int.toNat_natCast]
          by_cases h0 : x.sh = 0
          · rw [if_pos h0]
            exact hproto_dict w p h40 hK2 hi hS h0 (a' + 1) (by omega) (by omega) hon
          · rw [if_neg h0]
            exact hproto_slot w p h40 hK2 hi hS h0 (a' + 1) (by omega) (by omega) hon
end Go.Proofs.Ytoajmflbmfnieaa
