/- Delete and SetProto. SetProto, Put, Next, Grow. -/
import Derived.Test.YtemidicgipebjaaGreatHpTnd
namespace Go.Proofs.YtemidicgipebjaaGreat
set_option linter.unusedSimpArgs false
set_option maxRecDepth 100000
open Go.RowKit

set_option maxHeartbeats 2000000 in
theorem hdel_slot {S : Nat → Prop} {J : Nat} {H : He} {h s c n f i : Nat} {v : Value} {g q col : Nat → Nat} {x : Ob} (w : World) (p : HpAt J H h s c n f v g q col w) (h40 : 40 ≤ J) (hK2 : J ≤ 900000) (hi : H.os[i]? = some x) (hS : ∀ b, col b ≠ 0 → S b) (h0 : x.sh ≠ 0) (nm : ByteArray) (hn : nm.size ≤ 1000000) (hh : hasL x.l nm = true) :
    Calls Tryz.prog 25 #[.pointer (some ⟨h, 0, none⟩), .int .i64 ((i + 1 : Nat) : Int), .string nm] w fun e w' => e = .returned (.bool true) ∧ HpS (Up S w) (J + 1) h (putI H i { x with l := dropL x.l nm, ep := x.ep + 1, sh := 0 }) w' ∧ Keep S w w' := by
  have hgo : getO H ((i + 1 : Nat) : Int) = some x := by rw [getO_succ]; exact hi
  obtain ⟨z, hz⟩ : ∃ z, look x.l nm = some z := by
    unfold hasL at hh
    cases hl : look x.l nm with
    | none => rw [hl] at hh; cases hh
    | some z => exact ⟨z, rfl⟩
  have HO := hid (hown_calls (S := S) w ⟨s, c, n, f, v, g, q, col, p, hS⟩ ((i + 1 : Nat) : Int) nm hn)
  rw [show ownH H ((i + 1 : Nat) : Int) nm = some z by unfold ownH; rw [hgo]; exact hz] at HO
  obtain ⟨b1, _, hc1⟩ := p.ob i x hi
  have hgl := blk_lt b1
  have e0 : w.cell? ⟨g i, 0, none⟩ = some (.iface 88 (.pointer (some ⟨q i, 0, none⟩))) := by rw [blk_cell b1]; simp [ivO, h0]
  have HP := hid p
  have HI := hid hi
  have HS := hid hS
  have H0 := hid h0
  clear p b1 hi hS h0 hgo
  unfold vlV vlO at HO
  dsimp only [Option.getD_some, Option.isSome_some] at HO
  generalize ho : ((i + 1 : Nat) : Int) = o at *
  have HOo := hid ho
  clear ho
  go_enter Tryz.func25, Tryz.ntmps25
  go_wp2_with fail
  refine HO.out.mono ?_
  rintro e1 w1 ⟨rfl, b1⟩
  have B2 := below_on b1 ((Below.refl w1.heap.size w1).alloc (Nat.le_refl _) (Obj.cells #[.int .i64 z.1, .int .i64 z.2.1, .string z.2.2] 26))
  have HN := hid (hat_some _ (HP.out.on B2) (lt_of_get HI.out))
  rw [HOo.out] at HN
  have HW := hid (hwithout_slot _ (HP.out.on B2) h40 hK2 HI.out H0.out nm hn)
  have K3 := hid (Keep.of (S := fun b => col b ≠ 0) B2)
  have e1 := cell_on e0 hgl B2
  have hgl1 := Nat.lt_of_lt_of_le hgl B2.size
  clear b1 B2 HO HP
  go_wp2_with fail
  refine HN.out.mono ?_
  rintro e2 w2 ⟨rfl, rfl⟩
  go_wp2_with fail
  refine HW.out.mono ?_
  rintro e5 w5 ⟨T, qi, col5, x5, rfl, hx5, hep, b5, f5, _, hz5, p5, k5, o5⟩
  have HB5 := hid (hbecome_calls (T := T) (a := ⟨qi, 0, none⟩) w5 b5 (by omega))
  have R := hid (tnd_done (S := S) p5 (K3.out.trans k5 (fun _ _ e => e)) (fun b hb => o5 b (Nat.lt_of_lt_of_le hb K3.out.size)) HS.out)
  clear p5 k5 o5 f5 b5 HW
  go_wp2_with fail
  refine HB5.out.mono ?_
  rintro e6 w6 ⟨rfl, rfl⟩
  go_wp2_with fail
  go_ret
  exact ⟨rfl, R.out⟩

set_option maxHeartbeats 2000000 in
theorem hdel_dict {S : Nat → Prop} {J : Nat} {H : He} {h s c n f i : Nat} {v : Value} {g q col : Nat → Nat} {x : Ob} (w : World) (p : HpAt J H h s c n f v g q col w) (h40 : 40 ≤ J) (hK2 : J ≤ 900000) (hi : H.os[i]? = some x) (hS : ∀ b, col b ≠ 0 → S b) (h0 : x.sh = 0) (nm : ByteArray) (hn : nm.size ≤ 1000000) (hh : hasL x.l nm = true) :
    Calls Tryz.prog 25 #[.pointer (some ⟨h, 0, none⟩), .int .i64 ((i + 1 : Nat) : Int), .string nm] w fun e w' => e = .returned (.bool true) ∧ HpS (Up S w) (J + 1) h (putI H i { x with l := dropL x.l nm, ep := x.ep + 1, sh := 0 }) w' ∧ Keep S w w' := by
  have hgo : getO H ((i + 1 : Nat) : Int) = some x := by rw [getO_succ]; exact hi
  obtain ⟨z, hz⟩ : ∃ z, look x.l nm = some z := by
    unfold hasL at hh
    cases hl : look x.l nm with
    | none => rw [hl] at hh; cases hh
    | some z => exact ⟨z, rfl⟩
  have HO := hid (hown_calls (S := S) w ⟨s, c, n, f, v, g, q, col, p, hS⟩ ((i + 1 : Nat) : Int) nm hn)
  rw [show ownH H ((i + 1 : Nat) : Int) nm = some z by unfold ownH; rw [hgo]; exact hz] at HO
  obtain ⟨b1, _, hc1⟩ := p.ob i x hi
  have hgl := blk_lt b1
  have e0 : w.cell? ⟨g i, 0, none⟩ = some (.iface 133 (.pointer (some ⟨q i, 0, none⟩))) := by rw [blk_cell b1]; simp [ivO, h0]
  have HP := hid p
  have HI := hid hi
  have HS := hid hS
  have H0 := hid h0
  clear p b1 hi hS h0 hgo
  unfold vlV vlO at HO
  dsimp only [Option.getD_some, Option.isSome_some] at HO
  generalize ho : ((i + 1 : Nat) : Int) = o at *
  have HOo := hid ho
  clear ho
  go_enter Tryz.func25, Tryz.ntmps25
  go_wp2_with fail
  refine HO.out.mono ?_
  rintro e1 w1 ⟨rfl, b1⟩
  have B2 := below_on b1 ((Below.refl w1.heap.size w1).alloc (Nat.le_refl _) (Obj.cells #[.int .i64 z.1, .int .i64 z.2.1, .string z.2.2] 26))
  have HN := hid (hat_some _ (HP.out.on B2) (lt_of_get HI.out))
  rw [HOo.out] at HN
  have HW := hid (hwithout_dict _ (HP.out.on B2) h40 hK2 HI.out H0.out nm hn)
  have K3 := hid (Keep.of (S := fun b => col b ≠ 0) B2)
  have e1 := cell_on e0 hgl B2
  have hgl1 := Nat.lt_of_lt_of_le hgl B2.size
  clear b1 B2 HO HP
  go_wp2_with fail
  refine HN.out.mono ?_
  rintro e2 w2 ⟨rfl, rfl⟩
  go_wp2_with fail
  refine HW.out.mono ?_
  rintro e5 w5 ⟨T, qi, col5, x5, rfl, hx5, hep, b5, f5, _, hz5, p5, k5, o5⟩
  have HB5 := hid (hbecome_calls (T := T) (a := ⟨qi, 0, none⟩) w5 b5 (by omega))
  have R := hid (tnd_done (S := S) p5 (K3.out.trans k5 (fun _ _ e => e)) (fun b hb => o5 b (Nat.lt_of_lt_of_le hb K3.out.size)) HS.out)
  clear p5 k5 o5 f5 b5 HW
  go_wp2_with fail
  refine HB5.out.mono ?_
  rintro e6 w6 ⟨rfl, rfl⟩
  go_wp2_with fail
  go_ret
  exact ⟨rfl, R.out⟩

set_option maxHeartbeats 1000000 in
theorem hdel_calls {S : Nat → Prop} {K h : Nat} {H : He} (w : World) (p : HpS S K h H w) (h40 : 40 ≤ K) (hK2 : K ≤ 900000) (o : Int) (nm : ByteArray) (hn : nm.size ≤ 1000000) :
    Calls Tryz.prog 25 #[.pointer (some ⟨h, 0, none⟩), .int .i64 o, .string nm] w fun e w' => e = .returned (.bool (ownH H o nm).isSome) ∧ HpS (Up S w) (K + 1) h (delH H o nm) w' ∧ Keep S w w' := by
  cases hw : ownH H o nm with
  | none =>
    have e1 : delH H o nm = H := by
      unfold delH ownH at *
      cases hg : getO H o with
      | none => rfl
      | some x =>
        rw [hg] at hw
        dsimp only at hw ⊢
        rw [if_neg (by unfold hasL; rw [hw]; simp)]
    rw [e1]
    have HO := hid (hown_calls w p o nm hn)
    rw [hw] at HO
    unfold vlV vlO at HO
    dsimp only [Option.getD_none, vl0, Option.isSome_none] at HO ⊢
    have HP := hid p
    clear p hw e1
    go_enter Tryz.func25, Tryz.ntmps25
    go_wp2_with fail
    refine HO.out.mono ?_
    rintro e1 w1 ⟨rfl, b1⟩
    have B2 := hid (below_on b1 ((Below.refl w1.heap.size w1).alloc (Nat.le_refl _) (Obj.cells #[.int .i64 0, .int .i64 0, .string ⟨#[]⟩] 26)))
    clear b1
    go_wp2_with fail
    go_ret
    exact ⟨rfl, ((HP.out.on B2.out).more (Nat.le_succ _)).mono (fun _ _ e => .inl e), Keep.of B2.out⟩
  | some z =>
    cases hg : getO H o with
    | none => unfold ownH at hw; rw [hg] at hw; cases hw
    | some x =>
      obtain ⟨i, rfl, hi⟩ := getO_some hg
      have hh : hasL x.l nm = true := by unfold ownH at hw; rw [hg] at hw; unfold hasL; dsimp only at hw; rw [hw]; rfl
      rw [show delH H ((i + 1 : Nat) : Int) nm = putI H i { x with l := dropL x.l nm, ep := x.ep + 1, sh := 0 } by unfold delH; rw [hg]; dsimp only; rw [if_pos hh, putO_succ]]
      obtain ⟨s, c, n, f, v, g, q, col, p, hS⟩ := p
      by_cases h0 : x.sh = 0
      · exact hdel_dict w p h40 hK2 hi hS h0 nm hn hh
      · exact hdel_slot w p h40 hK2 hi hS h0 nm hn hh

set_option maxHeartbeats 2000000 in
theorem hproto_slot {S : Nat → Prop} {J : Nat} {H : He} {h s c n f i : Nat} {v : Value} {g q col : Nat → Nat} {x : Ob} (w : World) (p : HpAt J H h s c n f v g q col w) (h40 : 40 ≤ J) (hK2 : J ≤ 900000) (hi : H.os[i]? = some x) (hS : ∀ b, col b ≠ 0 → S b) (h0 : x.sh ≠ 0) (a : Nat) (ha : a ≤ H.os.length) (hz : a ≠ 0) (hon : onH H ((i + 1 : Nat) : Int) (a : Int) = false) :
    Calls Tryz.prog 26 #[.pointer (some ⟨h, 0, none⟩), .int .i64 ((i + 1 : Nat) : Int), .int .i64 (a : Int)] w fun e w' => e = .returned (.int .i64 0) ∧ HpS (Up S w) (J + 1) h (putI { H with L := (moveP H.M H.L x.sh a).2 } i { x with pr := a, ep := x.ep + 1, sh := (moveP H.M H.L x.sh a).1 }) w' ∧ Keep S w w' := by
  have HM := hid (hmade_calls (S := S) w ⟨s, c, n, f, v, g, q, col, p, hS⟩)
  have HN := hid (hat_some w p (lt_of_get hi))
  have HC := hid (honchain_calls (S := S) w ⟨s, c, n, f, v, g, q, col, p, hS⟩ hK2 ((i + 1 : Nat) : Int) (a : Int))
  rw [hon] at HC
  obtain ⟨a', rfl⟩ : ∃ a', a = a' + 1 := ⟨a - 1, by omega⟩
  have HN2 := hid (hat_some w p (i := a') (by omega))
  have ha0 : ¬ (((a' + 1 : Nat) : Int) = 0) := by omega
  have ha0' : (((a' + 1 : Nat) : Int) != 0) = true := by simpa using ha0
  obtain ⟨b1, _, hc1⟩ := p.ob i x hi
  have hgl := blk_lt b1
  have e0 : w.cell? ⟨g i, 0, none⟩ = some (.iface 88 (.pointer (some ⟨q i, 0, none⟩))) := by rw [blk_cell b1]; simp [ivO, h0]
  have HP := hid p
  have HI := hid hi
  have HS := hid hS
  have H0 := hid h0
  have HON := hid hon
  have HA := hid ha
  clear p b1 hi hS h0 hon ha hz
  have HWW : Hid (∀ w1, Below w.heap.size w w1 → Calls Tryz.prog 61 #[.iface 88 (.pointer (some ⟨q i, 0, none⟩)), .int .i64 ((a' + 1 : Nat) : Int)] w1 fun e w' => Tnd J i H _ _ h s c n f v g q col w1 e w') := hid (fun w1 B => hunder_slot w1 (HP.out.on B) h40 hK2 HI.out H0.out _ HA.out HON.out)
  clear HON HA
  generalize ((i + 1 : Nat) : Int) = o at *
  generalize hza : ((a' + 1 : Nat) : Int) = z at *
  have HZ := hid hza
  clear hza
  go_enter Tryz.func26, Tryz.ntmps26
  go_wp2_with fail
  refine HM.out.mono ?_
  rintro e1 w1 ⟨rfl, rfl⟩
  go_wp2_with fail
  refine HN.out.mono ?_
  rintro e2 w2 ⟨rfl, rfl⟩
  go_wp2_with fail
  refine HN2.out.mono ?_
  rintro e3 w3 ⟨rfl, rfl⟩
  go_wp2_with fail
  refine HC.out.mono ?_
  rintro e4 w4 ⟨rfl, b4⟩
  have HW := hid (HWW.out w4 b4)
  have K3 := hid (Keep.of (S := fun b => col b ≠ 0) b4)
  have e1 := cell_on e0 hgl b4
  have hgl1 := Nat.lt_of_lt_of_le hgl b4.size
  clear b4 HC HP HWW
  go_wp2_with fail
  refine HW.out.mono ?_
  rintro e5 w5 ⟨T, qi, col5, x5, rfl, hx5, hep, b5, f5, _, hz5, p5, k5, o5⟩
  have HB5 := hid (hbecome_calls (T := T) (a := ⟨qi, 0, none⟩) w5 b5 (by omega))
  have R := hid (tnd_done (S := S) p5 (K3.out.trans k5 (fun _ _ e => e)) (fun b hb => o5 b (Nat.lt_of_lt_of_le hb K3.out.size)) HS.out)
  clear p5 k5 o5 f5 b5 HW
  go_wp2_with fail
  refine HB5.out.mono ?_
  rintro e6 w6 ⟨rfl, rfl⟩
  go_wp2_with fail
  go_ret
  exact ⟨rfl, R.out⟩

set_option maxHeartbeats 2000000 in
theorem hproto_slot0 {S : Nat → Prop} {J : Nat} {H : He} {h s c n f i : Nat} {v : Value} {g q col : Nat → Nat} {x : Ob} (w : World) (p : HpAt J H h s c n f v g q col w) (h40 : 40 ≤ J) (hK2 : J ≤ 900000) (hi : H.os[i]? = some x) (hS : ∀ b, col b ≠ 0 → S b) (h0 : x.sh ≠ 0) (a : Nat) (ha : a ≤ H.os.length) (hz : a = 0) (hon : onH H ((i + 1 : Nat) : Int) (a : Int) = false) :
    Calls Tryz.prog 26 #[.pointer (some ⟨h, 0, none⟩), .int .i64 ((i + 1 : Nat) : Int), .int .i64 (a : Int)] w fun e w' => e = .returned (.int .i64 0) ∧ HpS (Up S w) (J + 1) h (putI { H with L := (moveP H.M H.L x.sh a).2 } i { x with pr := a, ep := x.ep + 1, sh := (moveP H.M H.L x.sh a).1 }) w' ∧ Keep S w w' := by
  have HM := hid (hmade_calls (S := S) w ⟨s, c, n, f, v, g, q, col, p, hS⟩)
  have HN := hid (hat_some w p (lt_of_get hi))
  have HC := hid (honchain_calls (S := S) w ⟨s, c, n, f, v, g, q, col, p, hS⟩ hK2 ((i + 1 : Nat) : Int) (a : Int))
  rw [hon] at HC
  subst hz
  obtain ⟨b1, _, hc1⟩ := p.ob i x hi
  have hgl := blk_lt b1
  have e0 : w.cell? ⟨g i, 0, none⟩ = some (.iface 88 (.pointer (some ⟨q i, 0, none⟩))) := by rw [blk_cell b1]; simp [ivO, h0]
  have HP := hid p
  have HI := hid hi
  have HS := hid hS
  have H0 := hid h0
  have HON := hid hon
  have HA := hid ha
  clear p b1 hi hS h0 hon ha
  have HWW : Hid (∀ w1, Below w.heap.size w w1 → Calls Tryz.prog 61 #[.iface 88 (.pointer (some ⟨q i, 0, none⟩)), .int .i64 ((0 : Nat) : Int)] w1 fun e w' => Tnd J i H _ _ h s c n f v g q col w1 e w') := hid (fun w1 B => hunder_slot w1 (HP.out.on B) h40 hK2 HI.out H0.out _ HA.out HON.out)
  clear HON HA
  generalize ((i + 1 : Nat) : Int) = o at *
  go_enter Tryz.func26, Tryz.ntmps26
  go_wp2_with fail
  refine HM.out.mono ?_
  rintro e1 w1 ⟨rfl, rfl⟩
  go_wp2_with fail
  refine HN.out.mono ?_
  rintro e2 w2 ⟨rfl, rfl⟩
  go_wp2_with fail
  refine HC.out.mono ?_
  rintro e4 w4 ⟨rfl, b4⟩
  have HW := hid (HWW.out w4 b4)
  have K3 := hid (Keep.of (S := fun b => col b ≠ 0) b4)
  have e1 := cell_on e0 hgl b4
  have hgl1 := Nat.lt_of_lt_of_le hgl b4.size
  clear b4 HC HP HWW
  go_wp2_with fail
  refine HW.out.mono ?_
  rintro e5 w5 ⟨T, qi, col5, x5, rfl, hx5, hep, b5, f5, _, hz5, p5, k5, o5⟩
  have HB5 := hid (hbecome_calls (T := T) (a := ⟨qi, 0, none⟩) w5 b5 (by omega))
  have R := hid (tnd_done (S := S) p5 (K3.out.trans k5 (fun _ _ e => e)) (fun b hb => o5 b (Nat.lt_of_lt_of_le hb K3.out.size)) HS.out)
  clear p5 k5 o5 f5 b5 HW
  go_wp2_with fail
  refine HB5.out.mono ?_
  rintro e6 w6 ⟨rfl, rfl⟩
  go_wp2_with fail
  go_ret
  exact ⟨rfl, R.out⟩

set_option maxHeartbeats 2000000 in
theorem hproto_dict {S : Nat → Prop} {J : Nat} {H : He} {h s c n f i : Nat} {v : Value} {g q col : Nat → Nat} {x : Ob} (w : World) (p : HpAt J H h s c n f v g q col w) (h40 : 40 ≤ J) (hK2 : J ≤ 900000) (hi : H.os[i]? = some x) (hS : ∀ b, col b ≠ 0 → S b) (h0 : x.sh = 0) (a : Nat) (ha : a ≤ H.os.length) (hz : a ≠ 0) (hon : onH H ((i + 1 : Nat) : Int) (a : Int) = false) :
    Calls Tryz.prog 26 #[.pointer (some ⟨h, 0, none⟩), .int .i64 ((i + 1 : Nat) : Int), .int .i64 (a : Int)] w fun e w' => e = .returned (.int .i64 0) ∧ HpS (Up S w) (J + 1) h (putI H i { x with pr := a, ep := x.ep + 1 }) w' ∧ Keep S w w' := by
  have HM := hid (hmade_calls (S := S) w ⟨s, c, n, f, v, g, q, col, p, hS⟩)
  have HN := hid (hat_some w p (lt_of_get hi))
  have HC := hid (honchain_calls (S := S) w ⟨s, c, n, f, v, g, q, col, p, hS⟩ hK2 ((i + 1 : Nat) : Int) (a : Int))
  rw [hon] at HC
  obtain ⟨a', rfl⟩ : ∃ a', a = a' + 1 := ⟨a - 1, by omega⟩
  have HN2 := hid (hat_some w p (i := a') (by omega))
  have ha0 : ¬ (((a' + 1 : Nat) : Int) = 0) := by omega
  have ha0' : (((a' + 1 : Nat) : Int) != 0) = true := by simpa using ha0
  obtain ⟨b1, _, hc1⟩ := p.ob i x hi
  have hgl := blk_lt b1
  have e0 : w.cell? ⟨g i, 0, none⟩ = some (.iface 133 (.pointer (some ⟨q i, 0, none⟩))) := by rw [blk_cell b1]; simp [ivO, h0]
  have HP := hid p
  have HI := hid hi
  have HS := hid hS
  have H0 := hid h0
  have HON := hid hon
  have HA := hid ha
  clear p b1 hi hS h0 hon ha hz
  have HWW : Hid (∀ w1, Below w.heap.size w w1 → Calls Tryz.prog 61 #[.iface 133 (.pointer (some ⟨q i, 0, none⟩)), .int .i64 ((a' + 1 : Nat) : Int)] w1 fun e w' => Tnd J i H _ _ h s c n f v g q col w1 e w') := hid (fun w1 B => hunder_dict w1 (HP.out.on B) HI.out H0.out _ HA.out HON.out)
  clear HON HA
  generalize ((i + 1 : Nat) : Int) = o at *
  generalize hza : ((a' + 1 : Nat) : Int) = z at *
  have HZ := hid hza
  clear hza
  go_enter Tryz.func26, Tryz.ntmps26
  go_wp2_with fail
  refine HM.out.mono ?_
  rintro e1 w1 ⟨rfl, rfl⟩
  go_wp2_with fail
  refine HN.out.mono ?_
  rintro e2 w2 ⟨rfl, rfl⟩
  go_wp2_with fail
  refine HN2.out.mono ?_
  rintro e3 w3 ⟨rfl, rfl⟩
  go_wp2_with fail
  refine HC.out.mono ?_
  rintro e4 w4 ⟨rfl, b4⟩
  have HW := hid (HWW.out w4 b4)
  have K3 := hid (Keep.of (S := fun b => col b ≠ 0) b4)
  have e1 := cell_on e0 hgl b4
  have hgl1 := Nat.lt_of_lt_of_le hgl b4.size
  clear b4 HC HP HWW
  go_wp2_with fail
  refine HW.out.mono ?_
  rintro e5 w5 ⟨T, qi, col5, x5, rfl, hx5, hep, b5, f5, _, hz5, p5, k5, o5⟩
  have HB5 := hid (hbecome_calls (T := T) (a := ⟨qi, 0, none⟩) w5 b5 (by omega))
  have R := hid (tnd_done (S := S) p5 (K3.out.trans k5 (fun _ _ e => e)) (fun b hb => o5 b (Nat.lt_of_lt_of_le hb K3.out.size)) HS.out)
  clear p5 k5 o5 f5 b5 HW
  go_wp2_with fail
  refine HB5.out.mono ?_
  rintro e6 w6 ⟨rfl, rfl⟩
  go_wp2_with fail
  go_ret
  exact ⟨rfl, R.out⟩

set_option maxHeartbeats 2000000 in
theorem hproto_dict0 {S : Nat → Prop} {J : Nat} {H : He} {h s c n f i : Nat} {v : Value} {g q col : Nat → Nat} {x : Ob} (w : World) (p : HpAt J H h s c n f v g q col w) (h40 : 40 ≤ J) (hK2 : J ≤ 900000) (hi : H.os[i]? = some x) (hS : ∀ b, col b ≠ 0 → S b) (h0 : x.sh = 0) (a : Nat) (ha : a ≤ H.os.length) (hz : a = 0) (hon : onH H ((i + 1 : Nat) : Int) (a : Int) = false) :
    Calls Tryz.prog 26 #[.pointer (some ⟨h, 0, none⟩), .int .i64 ((i + 1 : Nat) : Int), .int .i64 (a : Int)] w fun e w' => e = .returned (.int .i64 0) ∧ HpS (Up S w) (J + 1) h (putI H i { x with pr := a, ep := x.ep + 1 }) w' ∧ Keep S w w' := by
  have HM := hid (hmade_calls (S := S) w ⟨s, c, n, f, v, g, q, col, p, hS⟩)
  have HN := hid (hat_some w p (lt_of_get hi))
  have HC := hid (honchain_calls (S := S) w ⟨s, c, n, f, v, g, q, col, p, hS⟩ hK2 ((i + 1 : Nat) : Int) (a : Int))
  rw [hon] at HC
  subst hz
  obtain ⟨b1, _, hc1⟩ := p.ob i x hi
  have hgl := blk_lt b1
  have e0 : w.cell? ⟨g i, 0, none⟩ = some (.iface 133 (.pointer (some ⟨q i, 0, none⟩))) := by rw [blk_cell b1]; simp [ivO, h0]
  have HP := hid p
  have HI := hid hi
  have HS := hid hS
  have H0 := hid h0
  have HON := hid hon
  have HA := hid ha
  clear p b1 hi hS h0 hon ha
  have HWW : Hid (∀ w1, Below w.heap.size w w1 → Calls Tryz.prog 61 #[.iface 133 (.pointer (some ⟨q i, 0, none⟩)), .int .i64 ((0 : Nat) : Int)] w1 fun e w' => Tnd J i H _ _ h s c n f v g q col w1 e w') := hid (fun w1 B => hunder_dict w1 (HP.out.on B) HI.out H0.out _ HA.out HON.out)
  clear HON HA
  generalize ((i + 1 : Nat) : Int) = o at *
  go_enter Tryz.func26, Tryz.ntmps26
  go_wp2_with fail
  refine HM.out.mono ?_
  rintro e1 w1 ⟨rfl, rfl⟩
  go_wp2_with fail
  refine HN.out.mono ?_
  rintro e2 w2 ⟨rfl, rfl⟩
  go_wp2_with fail
  refine HC.out.mono ?_
  rintro e4 w4 ⟨rfl, b4⟩
  have HW := hid (HWW.out w4 b4)
  have K3 := hid (Keep.of (S := fun b => col b ≠ 0) b4)
  have e1 := cell_on e0 hgl b4
  have hgl1 := Nat.lt_of_lt_of_le hgl b4.size
  clear b4 HC HP HWW
  go_wp2_with fail
  refine HW.out.mono ?_
  rintro e5 w5 ⟨T, qi, col5, x5, rfl, hx5, hep, b5, f5, _, hz5, p5, k5, o5⟩
  have HB5 := hid (hbecome_calls (T := T) (a := ⟨qi, 0, none⟩) w5 b5 (by omega))
  have R := hid (tnd_done (S := S) p5 (K3.out.trans k5 (fun _ _ e => e)) (fun b hb => o5 b (Nat.lt_of_lt_of_le hb K3.out.size)) HS.out)
  clear p5 k5 o5 f5 b5 HW
  go_wp2_with fail
  refine HB5.out.mono ?_
  rintro e6 w6 ⟨rfl, rfl⟩
  go_wp2_with fail
  go_ret
  exact ⟨rfl, R.out⟩

end Go.Proofs.YtemidicgipebjaaGreat

namespace Go.Proofs.YtemidicgipebjaaGreat
set_option linter.unusedSimpArgs false
set_option maxRecDepth 100000
open Go.RowKit

set_option maxHeartbeats 1000000 in
theorem hsetproto_calls {S : Nat → Prop} {K h : Nat} {H : He} (w : World) (p : HpS S K h H w) (h40 : 40 ≤ K) (hK2 : K ≤ 900000) (o a : Int) :
    Calls Tryz.prog 26 #[.pointer (some ⟨h, 0, none⟩), .int .i64 o, .int .i64 a] w fun e w' => e = .returned (.int .i64 (protoE H o a)) ∧ HpS (Up S w) (K + 1) h (protoS H o a) w' ∧ Keep S w w' := by
  have HM := hid (hmade_calls w p)
  have R := hid (show ∀ w', Below w.heap.size w w' → HpS (Up S w) (K + 1) h H w' ∧ Keep S w w' from fun w' b => ⟨((p.on b).more (Nat.le_succ _)).mono (fun _ _ e => .inl e), Keep.of b⟩)
  cases hg : getO H o with
  | none =>
    rw [show protoE H o a = 4 by unfold protoE; rw [hg], show protoS H o a = H by unfold protoS; rw [hg]]
    have HN := hid (hat_none w p hg)
    clear p hg
    go_enter Tryz.func26, Tryz.ntmps26
    go_wp2_with fail
    refine HM.out.mono ?_
    rintro e0 w0 ⟨rfl, rfl⟩
    go_wp2_with fail
    refine HN.out.mono ?_
    rintro e1 w1 ⟨rfl, rfl⟩
    go_wp2_with fail
    go_ret
    exact ⟨rfl, R.out _ (Below.refl _ _)⟩
  | some x =>
    obtain ⟨i, rfl, hi⟩ := getO_some hg
    have hE : protoE H ((i + 1 : Nat) : Int) a = if a ≠ 0 ∧ getO H a = none then 4 else if onH H ((i + 1 : Nat) : Int) a then 32 else 0 := by unfold protoE; rw [hg]; rfl
    have hP : protoS H ((i + 1 : Nat) : Int) a = if a ≠ 0 ∧ getO H a = none then H else if onH H ((i + 1 : Nat) : Int) a then H else if x.sh = 0 then putI H i { x with pr := a.toNat, ep := x.ep + 1 } else putI { H with L := (moveP H.M H.L x.sh a).2 } i { x with pr := a.toNat, ep := x.ep + 1, sh := (moveP H.M H.L x.sh a).1 } := by
      unfold protoS
      rw [hg]
      dsimp only
      rw [putO_succ, putO_succ]
      rfl
    rw [hE, hP]
    clear hE hP
    have hpp := p
    obtain ⟨s, c, n, f, v, g, q, col, p, hS⟩ := p
    have HN := hid (hat_some w p (lt_of_get hi))
    by_cases hz : a = 0
    · subst hz
      have hon : onH H ((i + 1 : Nat) : Int) 0 = false := by rw [onH_step p.wf, if_pos (by omega)]
      have hc : ¬ ((0 : Int) ≠ 0 ∧ getO H 0 = none) := by simp
      rw [if_neg hc, if_neg hc, hon]
      simp only [Bool.false_eq_true, if_false]
      by_cases h0 : x.sh = 0
      · rw [if_pos h0]
        exact hproto_dict0 w p h40 hK2 hi hS h0 0 (Nat.zero_le _) rfl hon
      · rw [if_neg h0]
        exact hproto_slot0 w p h40 hK2 hi hS h0 0 (Nat.zero_le _) rfl hon
    · have hz' : (a != 0) = true := by simpa using hz
      rcases Option.eq_none_or_eq_some (getO H a) with hga | ⟨y, hga⟩
      · have hc : a ≠ 0 ∧ getO H a = none := ⟨hz, hga⟩
        rw [if_pos hc, if_pos hc]
        clear hc
        have HN2 := hid (hat_none w hpp hga)
        clear p hg hS hga hpp hi
        generalize ((i + 1 : Nat) : Int) = o at *
        go_enter Tryz.func26, Tryz.ntmps26
        go_wp2_with fail
        refine HM.out.mono ?_
        rintro e0 w0 ⟨rfl, rfl⟩
        go_wp2_with fail
        refine HN.out.mono ?_
        rintro e1 w1 ⟨rfl, rfl⟩
        go_wp2_with fail
        refine HN2.out.mono ?_
        rintro e2 w2 ⟨rfl, rfl⟩
        go_wp2_with fail
        go_ret
        exact ⟨rfl, R.out _ (Below.refl _ _)⟩
      · have hc : ¬ (a ≠ 0 ∧ getO H a = none) := fun h => by rw [hga] at h; cases h.2
        rw [if_neg hc, if_neg hc]
        clear hc
        obtain ⟨a', rfl, ha'⟩ := getO_some hga
        cases hon : onH H ((i + 1 : Nat) : Int) ((a' + 1 : Nat) : Int) with
        | true =>
          simp only [if_true]
          have HN2 := hid (hat_some w p (lt_of_get ha'))
          have HC := hid (honchain_calls w hpp hK2 ((i + 1 : Nat) : Int) ((a' + 1 : Nat) : Int))
          rw [hon] at HC
          clear p hg hS hga hpp hi hon ha'
          generalize ((i + 1 : Nat) : Int) = o at *
          generalize ((a' + 1 : Nat) : Int) = z at *
          go_enter Tryz.func26, Tryz.ntmps26
          go_wp2_with fail
          refine HM.out.mono ?_
          rintro e1 w1 ⟨rfl, rfl⟩
          go_wp2_with fail
          refine HN.out.mono ?_
          rintro e2 w2 ⟨rfl, rfl⟩
          go_wp2_with fail
          refine HN2.out.mono ?_
          rintro e3 w3 ⟨rfl, rfl⟩
          go_wp2_with fail
          refine HC.out.mono ?_
          rintro e4 w4 ⟨rfl, b4⟩
          have R4 := hid (R.out _ b4)
          clear b4
          go_wp2_with fail
          go_ret
          exact ⟨rfl, R4.out⟩
        | false =>
          simp only [Bool.false_eq_true, if_false]
          have hla := lt_of_get ha'
          rw [Int.toNat_natCast]
          by_cases h0 : x.sh = 0
          · rw [if_pos h0]
            exact hproto_dict w p h40 hK2 hi hS h0 (a' + 1) (by omega) (by omega) hon
          · rw [if_neg h0]
            exact hproto_slot w p h40 hK2 hi hS h0 (a' + 1) (by omega) (by omega) hon
set_option maxHeartbeats 1000000 in
theorem hput_calls {S : Nat → Prop} {K h : Nat} {H : He} (w : World) (p : HpS S K h H w) (o j : Int) (u : Vl) :
    Calls Tryz.prog 29 #[.pointer (some ⟨h, 0, none⟩), .int .i64 o, .int .i64 j, vlV u] w fun e w' => e = .returned (.bool (putB H o j)) ∧ HpS (Up S w) K h (putH H o j u) w' ∧ Keep S w w' := by
  have A := (Below.refl w.heap.size w).alloc (Nat.le_refl _) (Obj.cells #[.int .i64 u.1, .int .i64 u.2.1, .string u.2.2] 26)
  cases hg : slotsO H o with
  | none =>
    have hn := slotsO_none hg
    have e1 : putH H o j u = H := by
      unfold putH
      cases hgo : getO H o with
      | none => rfl
      | some x =>
        have : x.sh = 0 := by have := hn.1; unfold shapeH at this; rw [hgo] at this; exact this
        dsimp only
        rw [if_pos (.inl this)]
    rw [show putB H o j = false by unfold putB; rw [hn.2 j]; rfl, e1]
    have HN := hid (hslots_none _ (p.on A) hg)
    have R := hid (show HpS (Up S w) K h H _ ∧ Keep S w _ from ⟨(p.on A).mono (fun _ _ e => .inl e), Keep.of A⟩)
    clear p hg hn e1 A
    unfold vlV
    go_enter Tryz.func29, Tryz.ntmps29
    go_wp2_with fail
    refine HN.out.mono ?_
    rintro e0 w0 ⟨rfl, rfl⟩
    go_wp2_with fail
    go_ret
    exact ⟨rfl, R.out⟩
  | some x =>
    obtain ⟨i, rfl, hi, h0, hgo⟩ := slotsO_some hg
    obtain ⟨s, c, n, f, v, g, q, col, p, hS⟩ := p
    have pA := p.on A
    have HN := hid (hslots_some _ pA hi h0)
    obtain ⟨vv, h1, h2⟩ := pA.slotted hi h0
    have HV := hid (sput_calls _ h1 j u)
    have eB : putB H ((i + 1 : Nat) : Int) j = (slotL x.l j).isSome := by unfold putB slotH; rw [hgo]; simp [h0]
    have eH : putH H ((i + 1 : Nat) : Int) j u = putI H i { x with l := putL x.l j u } := by
      unfold putH
      rw [hgo]
      dsimp only
      unfold putL
      by_cases hj : j < 0
      · rw [if_pos (.inr hj), if_neg (by omega)]
        exact (putI_self hi).symm
      · rw [if_neg (by rintro (h | h); exact h0 h; exact hj h), if_pos (by omega), putO_succ]
    rw [eB, eH]
    have wf : WfH K (putI H i { x with l := putL x.l j u }) := by
      unfold putL
      by_cases hj : 0 ≤ j
      · rw [if_pos hj]; exact putv_wf p.wf hi u
      · rw [if_neg hj]; rw [show ({ x with l := x.l } : Ob) = x from rfl, putI_self hi]; exact p.wf
    have HP := hid pA
    have HI := hid hi
    have HS := hid hS
    have HW := hid wf
    have H2 := hid h2
    have H0 := hid h0
    have HA := hid A
    unfold vlV at HV ⊢
    clear p pA hi hS wf h1 h2 hg hgo eB eH A h0
    generalize ((i + 1 : Nat) : Int) = o at *
    generalize hW0 : (w.alloc (Obj.cells #[.int .i64 u.1, .int .i64 u.2.1, .string u.2.2] 26)) = w0 at *
    have z0 : w0.cell? ⟨w.heap.size, 0, none⟩ = some (.int .i64 u.1) := by rw [← hW0]; simp
    have z1 : w0.cell? ⟨w.heap.size, 1, none⟩ = some (.int .i64 u.2.1) := by rw [← hW0]; simp
    have z2 : w0.cell? ⟨w.heap.size, 2, none⟩ = some (.string u.2.2) := by rw [← hW0]; simp
    go_enter Tryz.func29, Tryz.ntmps29
    go_wp2_with fail
    refine HN.out.mono ?_
    rintro e1 w1 ⟨rfl, rfl⟩
    go_wp2_with fail
    refine HV.out.mono ?_
    rintro e2 w2 ⟨rfl, k1, k2⟩
    have k2' := k2.mono (T := fun b => col b = 4 + i) (fun b _ e => H2.out b e)
    obtain ⟨r1, r2⟩ := (chg_part (x' := { x with l := putL x.l j u }) HP.out HI.out (Nat.le_refl _) rfl rfl HW.out k2' (.inl ⟨H0.out, vv, k1, fun b hb => .inl (H2.out b hb)⟩)).done HS.out
    have R := hid (show HpS (Up S w) K h (putI H i { x with l := putL x.l j u }) w2 ∧ Keep S w w2 from ⟨r1.mono (fun b hb e => by rcases e with e | e; exact .inl e; exact .inr (Nat.le_trans HA.out.size e)), (Keep.of HA.out).trans r2 (fun _ _ e => e)⟩)
    clear k1 k2 k2' r1 r2 HV
    go_wp2_with fail
    go_ret
    exact ⟨rfl, R.out⟩

end Go.Proofs.YtemidicgipebjaaGreat
