/- Delete and SetProto. -/
import Derived.Test.YtimhgbcanmgajaaGreatJoint14
namespace Go.Proofs.YtimhgbcanmgajaaGreat
set_option linter.unusedSimpArgs false
set_option maxRecDepth 100000
open Go.RowKit

set_option maxHeartbeats 2000000 in
theorem hdel_slot {S : Nat → Prop} {J : Nat} {H : He} {h s c n f i : Nat} {v : Value} {g q col : Nat → Nat} {x : Ob} (w : World) (p : HpAt J H h s c n f v g q col w) (h40 : 40 ≤ J) (hK2 : J ≤ 900000) (hi : H.os[i]? = some x) (hS : ∀ b, col b ≠ 0 → S b) (h0 : x.sh ≠ 0) (nm : ByteArray) (hn : nm.size ≤ 1000000) (hh : hasL x.l nm = true) :
    Calls Tryz.prog 23 #[.pointer (some ⟨h, 0, none⟩), .int .i64 ((i + 1 : Nat) : Int), .string nm] w fun e w' => e = .returned (.bool true) ∧ HpZ (Up S w) (J + 1) h s (putI H i { x with l := dropL x.l nm, ep := x.ep + 1, sh := 0 }) w' ∧ Keep S w w' := by
  have hgo : getO H ((i + 1 : Nat) : Int) = some x := by rw [getO_succ]; exact hi
  obtain ⟨z, hz⟩ : ∃ z, look x.l nm = some z := by
    unfold hasL at hh
    cases hl : look x.l nm with
    | none => rw [hl] at hh; cases hh
    | some z => exact ⟨z, rfl⟩
  have HO := hid (hown_calls (S := S) w ⟨s, c, n, f, v, g, q, col, p, hS⟩ ((i + 1 : Nat) : Int) nm hn)
  rw [show ownH H ((i + 1 : Nat) : Int) nm = some z by unfold ownH; rw [hgo]; exact hz] at HO
  obtain ⟨b1, _, hc1⟩ := p.ob i x hi
  have hgl := blk_lt b1
  have e0 : w.cell? ⟨g i, 0, none⟩ = some (.iface 161 (.pointer (some ⟨q i, 0, none⟩))) := by rw [blk_cell b1]; simp [ivO, h0]
  have HP := hid p
  have HI := hid hi
  have HS := hid hS
  have H0 := hid h0
  clear p b1 hi hS h0 hgo
  unfold vlV vlO at HO
  dsimp only [Option.getD_some, Option.isSome_some] at HO
  generalize ho : ((i + 1 : Nat) : Int) = o at *
  have HOo := hid ho
  clear ho
  go_enter Tryz.func23, Tryz.ntmps23
  go_wp2_with fail
  refine HO.out.mono ?_
  rintro e1 w1 ⟨rfl, b1⟩
  have B2 := below_on b1 ((Below.refl w1.heap.size w1).alloc (Nat.le_refl _) (Obj.cells #[.int .i64 z.1, .int .i64 z.2.1, .string z.2.2] 37))
  have HN := hid (hat_some _ (HP.out.on B2) (lt_of_get HI.out))
  rw [HOo.out] at HN
  have HW := hid (hwithout_slot _ (HP.out.on B2) h40 hK2 HI.out H0.out nm hn)
  have K3 := hid (Keep.of (S := fun b => col b ≠ 0) B2)
  have e1 := hcell_on e0 hgl B2
  have hgl1 := Nat.lt_of_lt_of_le hgl B2.size
  clear b1 B2 HO HP
  go_wp2_with fail
  refine HN.out.mono ?_
  rintro e2 w2 ⟨rfl, rfl⟩
  go_wp2_with fail
  refine HW.out.mono ?_
  rintro e5 w5 ⟨T, qi, col5, x5, rfl, hx5, hep, b5, f5, _, hz5, p5, k5, o5⟩
  have HB5 := hid (hbecome_calls (T := T) (a := ⟨qi, 0, none⟩) w5 b5 (by omega))
  have R := hid (tnd_done (S := S) p5 (K3.out.trans k5 (fun _ _ e => e)) (fun b hb => o5 b (Nat.lt_of_lt_of_le hb K3.out.size)) HS.out)
  clear p5 k5 o5 f5 b5 HW
  go_wp2_with fail
  refine HB5.out.mono ?_
  rintro e6 w6 ⟨rfl, rfl⟩
  go_wp2_with fail
  go_ret
  exact ⟨rfl, R.out⟩

set_option maxHeartbeats 2000000 in
theorem hdel_dict {S : Nat → Prop} {J : Nat} {H : He} {h s c n f i : Nat} {v : Value} {g q col : Nat → Nat} {x : Ob} (w : World) (p : HpAt J H h s c n f v g q col w) (h40 : 40 ≤ J) (hK2 : J ≤ 900000) (hi : H.os[i]? = some x) (hS : ∀ b, col b ≠ 0 → S b) (h0 : x.sh = 0) (nm : ByteArray) (hn : nm.size ≤ 1000000) (hh : hasL x.l nm = true) :
    Calls Tryz.prog 23 #[.pointer (some ⟨h, 0, none⟩), .int .i64 ((i + 1 : Nat) : Int), .string nm] w fun e w' => e = .returned (.bool true) ∧ HpZ (Up S w) (J + 1) h s (putI H i { x with l := dropL x.l nm, ep := x.ep + 1, sh := 0 }) w' ∧ Keep S w w' := by
  have hgo : getO H ((i + 1 : Nat) : Int) = some x := by rw [getO_succ]; exact hi
  obtain ⟨z, hz⟩ : ∃ z, look x.l nm = some z := by
    unfold hasL at hh
    cases hl : look x.l nm with
    | none => rw [hl] at hh; cases hh
    | some z => exact ⟨z, rfl⟩
  have HO := hid (hown_calls (S := S) w ⟨s, c, n, f, v, g, q, col, p, hS⟩ ((i + 1 : Nat) : Int) nm hn)
  rw [show ownH H ((i + 1 : Nat) : Int) nm = some z by unfold ownH; rw [hgo]; exact hz] at HO
  obtain ⟨b1, _, hc1⟩ := p.ob i x hi
  have hgl := blk_lt b1
  have e0 : w.cell? ⟨g i, 0, none⟩ = some (.iface 199 (.pointer (some ⟨q i, 0, none⟩))) := by rw [blk_cell b1]; simp [ivO, h0]
  have HP := hid p
  have HI := hid hi
  have HS := hid hS
  have H0 := hid h0
  clear p b1 hi hS h0 hgo
  unfold vlV vlO at HO
  dsimp only [Option.getD_some, Option.isSome_some] at HO
  generalize ho : ((i + 1 : Nat) : Int) = o at *
  have HOo := hid ho
  clear ho
  go_enter Tryz.func23, Tryz.ntmps23
  go_wp2_with fail
  refine HO.out.mono ?_
  rintro e1 w1 ⟨rfl, b1⟩
  have B2 := below_on b1 ((Below.refl w1.heap.size w1).alloc (Nat.le_refl _) (Obj.cells #[.int .i64 z.1, .int .i64 z.2.1, .string z.2.2] 37))
  have HN := hid (hat_some _ (HP.out.on B2) (lt_of_get HI.out))
  rw [HOo.out] at HN
  have HW := hid (hwithout_dict _ (HP.out.on B2) h40 hK2 HI.out H0.out nm hn)
  have K3 := hid (Keep.of (S := fun b => col b ≠ 0) B2)
  have e1 := hcell_on e0 hgl B2
  have hgl1 := Nat.lt_of_lt_of_le hgl B2.size
  clear b1 B2 HO HP
  go_wp2_with fail
  refine HN.out.mono ?_
  rintro e2 w2 ⟨rfl, rfl⟩
  go_wp2_with fail
  refine HW.out.mono ?_
  rintro e5 w5 ⟨T, qi, col5, x5, rfl, hx5, hep, b5, f5, _, hz5, p5, k5, o5⟩
  have HB5 := hid (hbecome_calls (T := T) (a := ⟨qi, 0, none⟩) w5 b5 (by omega))
  have R := hid (tnd_done (S := S) p5 (K3.out.trans k5 (fun _ _ e => e)) (fun b hb => o5 b (Nat.lt_of_lt_of_le hb K3.out.size)) HS.out)
  clear p5 k5 o5 f5 b5 HW
  go_wp2_with fail
  refine HB5.out.mono ?_
  rintro e6 w6 ⟨rfl, rfl⟩
  go_wp2_with fail
  go_ret
  exact ⟨rfl, R.out⟩

set_option maxHeartbeats 1000000 in
theorem hdel_z {S : Nat → Prop} {K h s : Nat} {H : He} (w : World) (p : HpZ S K h s H w) (h40 : 40 ≤ K) (hK2 : K ≤ 900000) (o : Int) (nm : ByteArray) (hn : nm.size ≤ 1000000) :
    Calls Tryz.prog 23 #[.pointer (some ⟨h, 0, none⟩), .int .i64 o, .string nm] w fun e w' => e = .returned (.bool (ownH H o nm).isSome) ∧ HpZ (Up S w) (K + 1) h s (delH H o nm) w' ∧ Keep S w w' := by
  cases hw : ownH H o nm with
  | none =>
    have e1 : delH H o nm = H := by
      unfold delH ownH at *
      cases hg : getO H o with
      | none => rfl
      | some x =>
        rw [hg] at hw
        dsimp only at hw ⊢
        rw [if_neg (by unfold hasL; rw [hw]; simp)]
    rw [e1]
    have HO := hid (hown_calls w p.s o nm hn)
    rw [hw] at HO
    unfold vlV vlO at HO
    dsimp only [Option.getD_none, vl0, Option.isSome_none] at HO ⊢
    have HP := hid p
    clear p hw e1
    go_enter Tryz.func23, Tryz.ntmps23
    go_wp2_with fail
    refine HO.out.mono ?_
    rintro e1 w1 ⟨rfl, b1⟩
    have B2 := hid (below_on b1 ((Below.refl w1.heap.size w1).alloc (Nat.le_refl _) (Obj.cells #[.int .i64 0, .int .i64 0, .string ⟨#[]⟩] 37)))
    clear b1
    go_wp2_with fail
    go_ret
    exact ⟨rfl, HpZ.mono (HpZ.more (HpZ.on HP.out B2.out) (Nat.le_succ _)) (fun _ _ e => .inl e), Keep.of B2.out⟩
  | some z =>
    cases hg : getO H o with
    | none => unfold ownH at hw; rw [hg] at hw; cases hw
    | some x =>
      obtain ⟨i, rfl, hi⟩ := getO_some hg
      have hh : hasL x.l nm = true := by unfold ownH at hw; rw [hg] at hw; unfold hasL; dsimp only at hw; rw [hw]; rfl
      rw [show delH H ((i + 1 : Nat) : Int) nm = putI H i { x with l := dropL x.l nm, ep := x.ep + 1, sh := 0 } by unfold delH; rw [hg]; dsimp only; rw [if_pos hh, putO_succ]]
      obtain ⟨c, n, f, v, g, q, col, p, hS⟩ := p
      by_cases h0 : x.sh = 0
      · exact hdel_dict w p h40 hK2 hi hS h0 nm hn hh
      · exact hdel_slot w p h40 hK2 hi hS h0 nm hn hh

theorem hdel_calls {S : Nat → Prop} {K h : Nat} {H : He} (w : World) (p : HpS S K h H w) (h40 : 40 ≤ K) (hK2 : K ≤ 900000) (o : Int) (nm : ByteArray) (hn : nm.size ≤ 1000000) :
    Calls Tryz.prog 23 #[.pointer (some ⟨h, 0, none⟩), .int .i64 o, .string nm] w fun e w' => e = .returned (.bool (ownH H o nm).isSome) ∧ HpS (Up S w) (K + 1) h (delH H o nm) w' ∧ Keep S w w' := by
  obtain ⟨s, p⟩ := p
  exact (hdel_z w p h40 hK2 o nm hn).mono fun e w' t => ⟨t.1, ⟨s, t.2.1⟩, t.2.2⟩
set_option maxHeartbeats 2000000 in
theorem hproto_slot {S : Nat → Prop} {J : Nat} {H : He} {h s c n f i : Nat} {v : Value} {g q col : Nat → Nat} {x : Ob} (w : World) (p : HpAt J H h s c n f v g q col w) (h40 : 40 ≤ J) (hK2 : J ≤ 900000) (hi : H.os[i]? = some x) (hS : ∀ b, col b ≠ 0 → S b) (h0 : x.sh ≠ 0) (a : Nat) (ha : a ≤ H.os.length) (hz : a ≠ 0) (hon : onH H ((i + 1 : Nat) : Int) (a : Int) = false) :
    Calls Tryz.prog 24 #[.pointer (some ⟨h, 0, none⟩), .int .i64 ((i + 1 : Nat) : Int), .int .i64 (a : Int)] w fun e w' => e = .returned (.int .i64 0) ∧ HpZ (Up S w) (J + 1) h s (putI { H with L := (moveP H.M H.L x.sh a).2 } i { x with pr := a, ep := x.ep + 1, sh := (moveP H.M H.L x.sh a).1 }) w' ∧ Keep S w w' := by
  have HM := hid (hmade_calls (S := S) w ⟨s, c, n, f, v, g, q, col, p, hS⟩)
  have HN := hid (hat_some w p (lt_of_get hi))
  have HC := hid (honchain_calls (S := S) w ⟨s, c, n, f, v, g, q, col, p, hS⟩ hK2 ((i + 1 : Nat) : Int) (a : Int))
  rw [hon] at HC
  obtain ⟨a', rfl⟩ : ∃ a', a = a' + 1 := ⟨a - 1, by omega⟩
  have HN2 := hid (hat_some w p (i := a') (by omega))
  have ha0 : ¬ (((a' + 1 : Nat) : Int) = 0) := by omega
  have ha0' : (((a' + 1 : Nat) : Int) != 0) = true := by simpa using ha0
  obtain ⟨b1, _, hc1⟩ := p.ob i x hi
  have hgl := blk_lt b1
  have e0 : w.cell? ⟨g i, 0, none⟩ = some (.iface 161 (.pointer (some ⟨q i, 0, none⟩))) := by rw [blk_cell b1]; simp [ivO, h0]
  have HP := hid p
  have HI := hid hi
  have HS := hid hS
  have H0 := hid h0
  have HON := hid hon
  have HA := hid ha
  clear p b1 hi hS h0 hon ha hz
  have HWW : Hid (∀ w1, Below w.heap.size w w1 → Calls Tryz.prog 67 #[.iface 161 (.pointer (some ⟨q i, 0, none⟩)), .int .i64 ((a' + 1 : Nat) : Int)] w1 fun e w' => Tnd J i H _ _ h s c n f v g q col w1 e w') := hid (fun w1 B => hunder_slot w1 (HP.out.on B) h40 hK2 HI.out H0.out _ HA.out HON.out)
  clear HON HA
  generalize ((i + 1 : Nat) : Int) = o at *
  generalize hza : ((a' + 1 : Nat) : Int) = z at *
  have HZ := hid hza
  clear hza
  go_enter Tryz.func24, Tryz.ntmps24
  go_wp2_with fail
  refine HM.out.mono ?_
  rintro e1 w1 ⟨rfl, rfl⟩
  go_wp2_with fail
  refine HN.out.mono ?_
  rintro e2 w2 ⟨rfl, rfl⟩
  go_wp2_with fail
  refine HN2.out.mono ?_
  rintro e3 w3 ⟨rfl, rfl⟩
  go_wp2_with fail
  refine HC.out.mono ?_
  rintro e4 w4 ⟨rfl, b4⟩
  have HW := hid (HWW.out w4 b4)
  have K3 := hid (Keep.of (S := fun b => col b ≠ 0) b4)
  have e1 := hcell_on e0 hgl b4
  have hgl1 := Nat.lt_of_lt_of_le hgl b4.size
  clear b4 HC HP HWW
  go_wp2_with fail
  refine HW.out.mono ?_
  rintro e5 w5 ⟨T, qi, col5, x5, rfl, hx5, hep, b5, f5, _, hz5, p5, k5, o5⟩
  have HB5 := hid (hbecome_calls (T := T) (a := ⟨qi, 0, none⟩) w5 b5 (by omega))
  have R := hid (tnd_done (S := S) p5 (K3.out.trans k5 (fun _ _ e => e)) (fun b hb => o5 b (Nat.lt_of_lt_of_le hb K3.out.size)) HS.out)
  clear p5 k5 o5 f5 b5 HW
  go_wp2_with fail
  refine HB5.out.mono ?_
  rintro e6 w6 ⟨rfl, rfl⟩
  go_wp2_with fail
  go_ret
  exact ⟨rfl, R.out⟩

set_option maxHeartbeats 2000000 in
theorem hproto_slot0 {S : Nat → Prop} {J : Nat} {H : He} {h s c n f i : Nat} {v : Value} {g q col : Nat → Nat} {x : Ob} (w : World) (p : HpAt J H h s c n f v g q col w) (h40 : 40 ≤ J) (hK2 : J ≤ 900000) (hi : H.os[i]? = some x) (hS : ∀ b, col b ≠ 0 → S b) (h0 : x.sh ≠ 0) (a : Nat) (ha : a ≤ H.os.length) (hz : a = 0) (hon : onH H ((i + 1 : Nat) : Int) (a : Int) = false) :
    Calls Tryz.prog 24 #[.pointer (some ⟨h, 0, none⟩), .int .i64 ((i + 1 : Nat) : Int), .int .i64 (a : Int)] w fun e w' => e = .returned (.int .i64 0) ∧ HpZ (Up S w) (J + 1) h s (putI { H with L := (moveP H.M H.L x.sh a).2 } i { x with pr := a, ep := x.ep + 1, sh := (moveP H.M H.L x.sh a).1 }) w' ∧ Keep S w w' := by
  have HM := hid (hmade_calls (S := S) w ⟨s, c, n, f, v, g, q, col, p, hS⟩)
  have HN := hid (hat_some w p (lt_of_get hi))
  have HC := hid (honchain_calls (S := S) w ⟨s, c, n, f, v, g, q, col, p, hS⟩ hK2 ((i + 1 : Nat) : Int) (a : Int))
  rw [hon] at HC
  subst hz
  obtain ⟨b1, _, hc1⟩ := p.ob i x hi
  have hgl := blk_lt b1
  have e0 : w.cell? ⟨g i, 0, none⟩ = some (.iface 161 (.pointer (some ⟨q i, 0, none⟩))) := by rw [blk_cell b1]; simp [ivO, h0]
  have HP := hid p
  have HI := hid hi
  have HS := hid hS
  have H0 := hid h0
  have HON := hid hon
  have HA := hid ha
  clear p b1 hi hS h0 hon ha
  have HWW : Hid (∀ w1, Below w.heap.size w w1 → Calls Tryz.prog 67 #[.iface 161 (.pointer (some ⟨q i, 0, none⟩)), .int .i64 ((0 : Nat) : Int)] w1 fun e w' => Tnd J i H _ _ h s c n f v g q col w1 e w') := hid (fun w1 B => hunder_slot w1 (HP.out.on B) h40 hK2 HI.out H0.out _ HA.out HON.out)
  clear HON HA
  generalize ((i + 1 : Nat) : Int) = o at *
  go_enter Tryz.func24, Tryz.ntmps24
  go_wp2_with fail
  refine HM.out.mono ?_
  rintro e1 w1 ⟨rfl, rfl⟩
  go_wp2_with fail
  refine HN.out.mono ?_
  rintro e2 w2 ⟨rfl, rfl⟩
  go_wp2_with fail
  refine HC.out.mono ?_
  rintro e4 w4 ⟨rfl, b4⟩
  have HW := hid (HWW.out w4 b4)
  have K3 := hid (Keep.of (S := fun b => col b ≠ 0) b4)
  have e1 := hcell_on e0 hgl b4
  have hgl1 := Nat.lt_of_lt_of_le hgl b4.size
  clear b4 HC HP HWW
  go_wp2_with fail
  refine HW.out.mono ?_
  rintro e5 w5 ⟨T, qi, col5, x5, rfl, hx5, hep, b5, f5, _, hz5, p5, k5, o5⟩
  have HB5 := hid (hbecome_calls (T := T) (a := ⟨qi, 0, none⟩) w5 b5 (by omega))
  have R := hid (tnd_done (S := S) p5 (K3.out.trans k5 (fun _ _ e => e)) (fun b hb => o5 b (Nat.lt_of_lt_of_le hb K3.out.size)) HS.out)
  clear p5 k5 o5 f5 b5 HW
  go_wp2_with fail
  refine HB5.out.mono ?_
  rintro e6 w6 ⟨rfl, rfl⟩
  go_wp2_with fail
  go_ret
  exact ⟨rfl, R.out⟩

set_option maxHeartbeats 2000000 in
theorem hproto_dict {S : Nat → Prop} {J : Nat} {H : He} {h s c n f i : Nat} {v : Value} {g q col : Nat → Nat} {x : Ob} (w : World) (p : HpAt J H h s c n f v g q col w) (h40 : 40 ≤ J) (hK2 : J ≤ 900000) (hi : H.os[i]? = some x) (hS : ∀ b, col b ≠ 0 → S b) (h0 : x.sh = 0) (a : Nat) (ha : a ≤ H.os.length) (hz : a ≠ 0) (hon : onH H ((i + 1 : Nat) : Int) (a : Int) = false) :
    Calls Tryz.prog 24 #[.pointer (some ⟨h, 0, none⟩), .int .i64 ((i + 1 : Nat) : Int), .int .i64 (a : Int)] w fun e w' => e = .returned (.int .i64 0) ∧ HpZ (Up S w) (J + 1) h s (putI H i { x with pr := a, ep := x.ep + 1 }) w' ∧ Keep S w w' := by
  have HM := hid (hmade_calls (S := S) w ⟨s, c, n, f, v, g, q, col, p, hS⟩)
  have HN := hid (hat_some w p (lt_of_get hi))
  have HC := hid (honchain_calls (S := S) w ⟨s, c, n, f, v, g, q, col, p, hS⟩ hK2 ((i + 1 : Nat) : Int) (a : Int))
  rw [hon] at HC
  obtain ⟨a', rfl⟩ : ∃ a', a = a' + 1 := ⟨a - 1, by omega⟩
  have HN2 := hid (hat_some w p (i := a') (by omega))
  have ha0 : ¬ (((a' + 1 : Nat) : Int) = 0) := by omega
  have ha0' : (((a' + 1 : Nat) : Int) != 0) = true := by simpa using ha0
  obtain ⟨b1, _, hc1⟩ := p.ob i x hi
  have hgl := blk_lt b1
  have e0 : w.cell? ⟨g i, 0, none⟩ = some (.iface 199 (.pointer (some ⟨q i, 0, none⟩))) := by rw [blk_cell b1]; simp [ivO, h0]
  have HP := hid p
  have HI := hid hi
  have HS := hid hS
  have H0 := hid h0
  have HON := hid hon
  have HA := hid ha
  clear p b1 hi hS h0 hon ha hz
  have HWW : Hid (∀ w1, Below w.heap.size w w1 → Calls Tryz.prog 67 #[.iface 199 (.pointer (some ⟨q i, 0, none⟩)), .int .i64 ((a' + 1 : Nat) : Int)] w1 fun e w' => Tnd J i H _ _ h s c n f v g q col w1 e w') := hid (fun w1 B => hunder_dict w1 (HP.out.on B) HI.out H0.out _ HA.out HON.out)
  clear HON HA
  generalize ((i + 1 : Nat) : Int) = o at *
  generalize hza : ((a' + 1 : Nat) : Int) = z at *
  have HZ := hid hza
  clear hza
  go_enter Tryz.func24, Tryz.ntmps24
  go_wp2_with fail
  refine HM.out.mono ?_
  rintro e1 w1 ⟨rfl, rfl⟩
  go_wp2_with fail
  refine HN.out.mono ?_
  rintro e2 w2 ⟨rfl, rfl⟩
  go_wp2_with fail
  refine HN2.out.mono ?_
  rintro e3 w3 ⟨rfl, rfl⟩
  go_wp2_with fail
  refine HC.out.mono ?_
  rintro e4 w4 ⟨rfl, b4⟩
  have HW := hid (HWW.out w4 b4)
  have K3 := hid (Keep.of (S := fun b => col b ≠ 0) b4)
  have e1 := hcell_on e0 hgl b4
  have hgl1 := Nat.lt_of_lt_of_le hgl b4.size
  clear b4 HC HP HWW
  go_wp2_with fail
  refine HW.out.mono ?_
  rintro e5 w5 ⟨T, qi, col5, x5, rfl, hx5, hep, b5, f5, _, hz5, p5, k5, o5⟩
  have HB5 := hid (hbecome_calls (T := T) (a := ⟨qi, 0, none⟩) w5 b5 (by omega))
  have R := hid (tnd_done (S := S) p5 (K3.out.trans k5 (fun _ _ e => e)) (fun b hb => o5 b (Nat.lt_of_lt_of_le hb K3.out.size)) HS.out)
  clear p5 k5 o5 f5 b5 HW
  go_wp2_with fail
  refine HB5.out.mono ?_
  rintro e6 w6 ⟨rfl, rfl⟩
  go_wp2_with fail
  go_ret
  exact ⟨rfl, R.out⟩

set_option maxHeartbeats 2000000 in
theorem hproto_dict0 {S : Nat → Prop} {J : Nat} {H : He} {h s c n f i : Nat} {v : Value} {g q col : Nat → Nat} {x : Ob} (w : World) (p : HpAt J H h s c n f v g q col w) (h40 : 40 ≤ J) (hK2 : J ≤ 900000) (hi : H.os[i]? = some x) (hS : ∀ b, col b ≠ 0 → S b) (h0 : x.sh = 0) (a : Nat) (ha : a ≤ H.os.length) (hz : a = 0) (hon : onH H ((i + 1 : Nat) : Int) (a : Int) = false) :
    Calls Tryz.prog 24 #[.pointer (some ⟨h, 0, none⟩), .int .i64 ((i + 1 : Nat) : Int), .int .i64 (a : Int)] w fun e w' => e = .returned (.int .i64 0) ∧ HpZ (Up S w) (J + 1) h s (putI H i { x with pr := a, ep := x.ep + 1 }) w' ∧ Keep S w w' := by
  have HM := hid (hmade_calls (S := S) w ⟨s, c, n, f, v, g, q, col, p, hS⟩)
  have HN := hid (hat_some w p (lt_of_get hi))
  have HC := hid (honchain_calls (S := S) w ⟨s, c, n, f, v, g, q, col, p, hS⟩ hK2 ((i + 1 : Nat) : Int) (a : Int))
  rw [hon] at HC
  subst hz
  obtain ⟨b1, _, hc1⟩ := p.ob i x hi
  have hgl := blk_lt b1
  have e0 : w.cell? ⟨g i, 0, none⟩ = some (.iface 199 (.pointer (some ⟨q i, 0, none⟩))) := by rw [blk_cell b1]; simp [ivO, h0]
  have HP := hid p
  have HI := hid hi
  have HS := hid hS
  have H0 := hid h0
  have HON := hid hon
  have HA := hid ha
  clear p b1 hi hS h0 hon ha
  have HWW : Hid (∀ w1, Below w.heap.size w w1 → Calls Tryz.prog 67 #[.iface 199 (.pointer (some ⟨q i, 0, none⟩)), .int .i64 ((0 : Nat) : Int)] w1 fun e w' => Tnd J i H _ _ h s c n f v g q col w1 e w') := hid (fun w1 B => hunder_dict w1 (HP.out.on B) HI.out H0.out _ HA.out HON.out)
  clear HON HA
  generalize ((i + 1 : Nat) : Int) = o at *
  go_enter Tryz.func24, Tryz.ntmps24
  go_wp2_with fail
  refine HM.out.mono ?_
  rintro e1 w1 ⟨rfl, rfl⟩
  go_wp2_with fail
  refine HN.out.mono ?_
  rintro e2 w2 ⟨rfl, rfl⟩
  go_wp2_with fail
  refine HC.out.mono ?_
  rintro e4 w4 ⟨rfl, b4⟩
  have HW := hid (HWW.out w4 b4)
  have K3 := hid (Keep.of (S := fun b => col b ≠ 0) b4)
  have e1 := hcell_on e0 hgl b4
  have hgl1 := Nat.lt_of_lt_of_le hgl b4.size
  clear b4 HC HP HWW
  go_wp2_with fail
  refine HW.out.mono ?_
  rintro e5 w5 ⟨T, qi, col5, x5, rfl, hx5, hep, b5, f5, _, hz5, p5, k5, o5⟩
  have HB5 := hid (hbecome_calls (T := T) (a := ⟨qi, 0, none⟩) w5 b5 (by omega))
  have R := hid (tnd_done (S := S) p5 (K3.out.trans k5 (fun _ _ e => e)) (fun b hb => o5 b (Nat.lt_of_lt_of_le hb K3.out.size)) HS.out)
  clear p5 k5 o5 f5 b5 HW
  go_wp2_with fail
  refine HB5.out.mono ?_
  rintro e6 w6 ⟨rfl, rfl⟩
  go_wp2_with fail
  go_ret
  exact ⟨rfl, R.out⟩

end Go.Proofs.YtimhgbcanmgajaaGreat
