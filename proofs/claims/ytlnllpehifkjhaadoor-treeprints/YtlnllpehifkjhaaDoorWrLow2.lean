/- The writer's small functions. -/
import Derived.Test.YtlnllpehifkjhaaDoorJoint7
namespace Go.Proofs.YtlnllpehifkjhaaDoor
open Go.RowKit
set_option linter.unusedVariables false

theorem done_mk {B b : Nat} {l t u l' : List UInt8} {w w' : World} (h1 : Wr B b l' w') (h2 : Wrote l t l') (e : t = u) (h3 : Near B b w w') : Done B b l u w (.returned (.tuple #[])) w' := ⟨rfl, l', h1, h2.of e, h3⟩
theorem wrote_le {l t l' : List UInt8} (h : Wrote l t l') : l'.length ≤ l.length + t.length := h.1
theorem wbyte_done {B b : Nat} {l : List UInt8} {w : World} (c : UInt8) (n : Int) (hn : n = (c.toNat : Int)) (h : Hid (Wr B b l w)) (hl : l.length ≤ 1000000000) :
    Calls Tryd.prog 35 #[.pointer (some ⟨b, 0, none⟩), .int .u8 n] w fun e w' => e = .returned .nilIface ∧ ∃ l', Wr B b l' w' ∧ Wrote l [c] l' ∧ Near B b w w' ∧ l' ≠ [] :=
  (wbyte_calls c n hn h hl).mono fun _ _ ⟨h1, h2, h3⟩ => ⟨h1, _, h2, Wrote.all _ _, h3, by simp⟩
theorem wstr_done {B b : Nat} {l : List UInt8} {w : World} (s : ByteArray) (hs0 : l ++ s.data.toList ≠ []) (h : Hid (Wr B b l w)) (hl : l.length ≤ 1000000000) (hs : s.size ≤ 1000000000) :
    Calls Tryd.prog 49 #[.pointer (some ⟨b, 0, none⟩), .string s] w fun e w' => e = .returned (.tuple #[.int .i64 s.size, .nilIface]) ∧ ∃ l', Wr B b l' w' ∧ Wrote l s.data.toList l' ∧ Near B b w w' ∧ l' ≠ [] :=
  (wstr_calls s hs0 h hl hs).mono fun _ _ ⟨h1, h2, h3⟩ => ⟨h1, _, h2, Wrote.all _ _, h3, hs0⟩

set_option maxHeartbeats 1600000 in
theorem tight_calls (x : Nd) (hx : ExprW x) (r : Int) (hr0 : 0 ≤ r) (hr1 : r ≤ 1000) (B b : Nat) (l : List UInt8) (w : World) (nv kv : Value) (W : Hid (Wr B b l w)) (O : Hid (Ok B w)) (F : Hid (Fit B x nv kv 1 w)) (hl : l.length + (tightT (textN x) r).length ≤ 100000000) :
    Calls Tryd.prog 87 #[.pointer (some ⟨b, 0, none⟩), .agg #[.int .i64 x.kind, .int .i64 x.op, .int .i64 x.num, .string x.str, nv, kv, .int .i64 x.pl], .int .i64 r] w (Done B b l (tightT (textN x) r) w) := by
  obtain ⟨a1, q1, a2, q2, rfl, rfl⟩ := ndIn_shape F.out.1
  have hal := box1_below w (.cells #[.int .i64 x.kind, .int .i64 x.op, .int .i64 x.num, .string x.str, .slice a1 x.names.length q1, .slice a2 x.kids.length q2, .int .i64 x.pl] 25)
  have hlt := wr_lt W.out
  have hX0 := box_new w x.kind x.op x.num x.str (.slice a1 x.names.length q1) (.slice a2 x.kids.length q2) x.pl
  have hW0 := wr_below W.out hal
  have N0 := hid (show Near B b w _ from Near.ofBelow hal O.out.1)
  have hle := tight_le (textN x) r
  have HR := hid (textN_rank x)
  have HX := hid hx
  have X0 := hid hX0
  have W0 := hid hW0
  have O0 := hid (ok_on O.out N0.out.below)
  have F0 := hid (fit_near F.out N0.out)
  clear hal hX0 hW0 hx F O W
  go_enter Tryd.func87, Tryd.ntmps87
  go_wp2_with fail
  refine (rank_calls _ _ _ _ _ _ _ _ _ _ _ _).mono ?_
  rintro e w1 ⟨rfl, b1⟩
  have n1 : Near B b _ w1 := Near.ofBelow b1 O0.out.1
  have N1 := hid (N0.out.trans n1)
  have W1 := hid (wr_below W0.out b1)
  have O1 := hid (ok_on O0.out n1.below)
  have F1 := hid (fit_near F0.out n1)
  have hx1 := box_on X0.out b1
  obtain ⟨c0, c1, c2, c3, c4, c5, c6⟩ := box_cells hx1
  have X1 := hid hx1
  clear b1 n1 N0 W0 O0 F0 hx1 X0
  rw [← HR.out]
  by_cases hq : r ≤ (textN x).rank
  · have HT := hid (show tightT (textN x) r = (textN x).e by unfold tightT; rw [if_pos hq])
    go_wp2_with fail
    refine (HX.out B b l _ _ _ W1 O1 F1.out.1 F1.out.2.1 F1.out.2.2.1 F1.out.2.2.2 (by omega)).mono ?_
    rintro e w2 ⟨rfl, l2, W2, hw2, n2⟩
    have D := hid (done_mk W2 hw2 HT.out.symm (N1.out.trans n2))
    clear W2 hw2 n2
    go_wp2_with fail
    go_end0
    exact D.out
  · have HT := hid (show tightT (textN x) r = [40] ++ ((textN x).e ++ [41]) by unfold tightT; rw [if_neg hq]; rfl)
    have hll : l.length + (textN x).e.length + 2 ≤ 100000000 := by
      rw [HT.out] at hl; simp at hl; omega
    go_wp2_with fail
    refine (wbyte_calls 40 _ rfl W1 (by omega)).mono ?_
    rintro e w2 ⟨rfl, hW2, n2⟩
    have hx2 := box_near X1.out (by omega) n2
    obtain ⟨d0, d1, d2, d3, d4, d5, d6⟩ := box_cells hx2
    have N2 := hid (N1.out.trans n2)
    have W2 := hid hW2
    have O2 := hid (ok_on O1.out n2.below)
    have F2 := hid (fit_near F1.out n2)
    clear n2 N1 W1 O1 F1 hx2 X1 hW2
    go_wp2_with fail
    refine (HX.out B b _ _ _ _ W2 O2 F2.out.1 F2.out.2.1 F2.out.2.2.1 F2.out.2.2.2 (by simp; omega)).mono ?_
    rintro e w3 ⟨rfl, l3, hW3, hw3, n3⟩
    have N3 := hid (N2.out.trans n3)
    have W3 := hid hW3
    have hl3 := wrote_le hw3
    have R3 := hid ((Wrote.all l [40]).trans hw3)
    clear n3 N2 W2 O2 F2 hW3 hw3
    simp only [List.length_append, List.length_cons, List.length_nil] at hl3
    go_wp2_with fail
    refine (wbyte_calls 41 _ rfl W3 (by omega)).mono ?_
    rintro e w4 ⟨rfl, hW4, n4⟩
    have D := hid (done_mk hW4 (R3.out.trans (Wrote.all _ [41])) (show [40] ++ (textN x).e ++ [41] = tightT (textN x) r by rw [HT.out]; simp) (N3.out.trans n4))
    clear hW4 n4
    go_wp2_with fail
    go_end0
    exact D.out


set_option maxHeartbeats 1600000 in
theorem becomes_calls (x : Nd) (hxx : ExprW x) (xa1 : Option Addr) (xq1 : Nat) (xa2 : Option Addr) (xq2 : Nat) (B b : Nat) (l : List UInt8) (w : World) (W : Hid (Wr B b l w)) (O : Hid (Ok B w)) (Fx : Hid (Fit B x (.slice xa1 x.names.length xq1) (.slice xa2 x.kids.length xq2) 1 w)) (hl : l.length + (becomesT (textN x)).length ≤ 100000000) :
    Calls Tryd.prog 65 #[.pointer (some ⟨b, 0, none⟩), .agg #[.int .i64 x.kind, .int .i64 x.op, .int .i64 x.num, .string x.str, .slice xa1 x.names.length xq1, .slice xa2 x.kids.length xq2, .int .i64 x.pl]] w (Done B b l (becomesT (textN x)) w) := by
  have hlt := wr_lt W.out
  have hal := box1_below w (.cells #[.int .i64 x.kind, .int .i64 x.op, .int .i64 x.num, .string x.str, .slice xa1 x.names.length xq1, .slice xa2 x.kids.length xq2, .int .i64 x.pl] 25)
  have N0 := hid (show Near B b w _ from Near.ofBelow hal O.out.1)
  have W0 := hid (wr_below W.out hal)
  have O0 := hid (ok_on O.out N0.out.below)
  have Fx0 := hid (fit_near Fx.out N0.out)
  have HXx := hid hxx
  have Xx0 := hid (box_new w x.kind x.op x.num x.str (.slice xa1 x.names.length xq1) (.slice xa2 x.kids.length xq2) x.pl)
  have HT := hid (show becomesT (textN x) = [32, 61, 32] ++ (textN x).e by rfl)
  rw [HT.out] at hl
  simp only [List.length_append, List.length_cons, List.length_nil] at hl
  clear hal W O Fx hxx
  go_enter Tryd.func65, Tryd.ntmps65
  go_wp2_with fail
  refine (wstr_done ⟨#[32, 61, 32]⟩ (by simp) W0 (by omega) (by decide)).mono ?_
  rintro e w1 ⟨rfl, l1, hW, hw, nn, ne1⟩
  have N1 := hid (N0.out.trans nn)
  have W1 := hid hW
  have O1 := hid (ok_on O0.out nn.below)
  have Fx1 := hid (fit_near Fx0.out nn)
  have Xx1 := hid (box_near Xx0.out (by omega) nn)
  clear W0 N0 O0 Fx0 Xx0 nn hW
  obtain ⟨cXx_1_0, cXx_1_1, cXx_1_2, cXx_1_3, cXx_1_4, cXx_1_5, cXx_1_6⟩ := box_cells Xx1.out
  have hlen1 := wrote_le hw
  simp only [List.length_cons, List.length_nil] at hlen1
  have R1 := hid hw
  clear hw
  go_wp2_with fail
  refine (HXx.out B b _ _ _ _ W1 O1 (hid Fx1.out.1) Fx1.out.2.1 Fx1.out.2.2.1 Fx1.out.2.2.2 (by omega)).mono ?_
  rintro e w2 ⟨rfl, l2, hW, hw, nn⟩
  have N2 := hid (N1.out.trans nn)
  have W2 := hid hW
  have O2 := hid (ok_on O1.out nn.below)
  have Fx2 := hid (fit_near Fx1.out nn)
  have Xx2 := hid (box_near Xx1.out (by omega) nn)
  clear W1 N1 O1 Fx1 Xx1 nn hW cXx_1_0 cXx_1_1 cXx_1_2 cXx_1_3 cXx_1_4 cXx_1_5 cXx_1_6
  obtain ⟨cXx_2_0, cXx_2_1, cXx_2_2, cXx_2_3, cXx_2_4, cXx_2_5, cXx_2_6⟩ := box_cells Xx2.out
  have hlen2 := wrote_le hw
  have R2 := hid (R1.out.trans hw)
  clear hw R1
  have D := hid (done_mk W2.out R2.out (show ([32, 61, 32] ++ (textN x).e) = becomesT (textN x) by rw [HT.out]; first | done | simp only [List.append_assoc, List.cons_append, List.nil_append]) N2.out)
  clear W2 N2 O2 R2 Fx2 Xx2 cXx_2_0 cXx_2_1 cXx_2_2 cXx_2_3 cXx_2_4 cXx_2_5 cXx_2_6
  go_wp2_with fail
  go_end0
  exact D.out

set_option maxHeartbeats 1600000 in
theorem get_calls (x : Nd) (hxx : ExprW x) (xa1 : Option Addr) (xq1 : Nat) (xa2 : Option Addr) (xq2 : Nat) (s : ByteArray) (hs0 : s.data.toList ≠ []) (hs : s.size ≤ 1000000) (B b : Nat) (l : List UInt8) (w : World) (W : Hid (Wr B b l w)) (O : Hid (Ok B w)) (Fx : Hid (Fit B x (.slice xa1 x.names.length xq1) (.slice xa2 x.kids.length xq2) 1 w)) (hl : l.length + (getT (textN x) s).length ≤ 100000000) :
    Calls Tryd.prog 66 #[.pointer (some ⟨b, 0, none⟩), .agg #[.int .i64 x.kind, .int .i64 x.op, .int .i64 x.num, .string x.str, .slice xa1 x.names.length xq1, .slice xa2 x.kids.length xq2, .int .i64 x.pl], .string s] w (Done B b l (getT (textN x) s) w) := by
  have hlt := wr_lt W.out
  have hal := box1_below w (.cells #[.int .i64 x.kind, .int .i64 x.op, .int .i64 x.num, .string x.str, .slice xa1 x.names.length xq1, .slice xa2 x.kids.length xq2, .int .i64 x.pl] 25)
  have N0 := hid (show Near B b w _ from Near.ofBelow hal O.out.1)
  have W0 := hid (wr_below W.out hal)
  have O0 := hid (ok_on O.out N0.out.below)
  have Fx0 := hid (fit_near Fx.out N0.out)
  have HXx := hid hxx
  have Xx0 := hid (box_new w x.kind x.op x.num x.str (.slice xa1 x.names.length xq1) (.slice xa2 x.kids.length xq2) x.pl)
  have HT := hid (show getT (textN x) s = tightT (textN x) 8 ++ ([46] ++ s.data.toList) by rfl)
  rw [HT.out] at hl
  simp only [List.length_append, List.length_cons, List.length_nil] at hl
  clear hal W O Fx hxx
  go_enter Tryd.func66, Tryd.ntmps66
  go_wp2_with fail
  refine (tight_calls x HXx.out 8 (by omega) (by omega) B b _ _ _ _ W0 O0 Fx0 (by omega)).mono ?_
  rintro e w1 ⟨rfl, l1, hW, hw, nn⟩
  have N1 := hid (N0.out.trans nn)
  have W1 := hid hW
  have O1 := hid (ok_on O0.out nn.below)
  have Fx1 := hid (fit_near Fx0.out nn)
  have Xx1 := hid (box_near Xx0.out (by omega) nn)
  clear W0 N0 O0 Fx0 Xx0 nn hW
  obtain ⟨cXx_1_0, cXx_1_1, cXx_1_2, cXx_1_3, cXx_1_4, cXx_1_5, cXx_1_6⟩ := box_cells Xx1.out
  have hlen1 := wrote_le hw
  have R1 := hid hw
  clear hw
  go_wp2_with fail
  refine (wbyte_done 46 _ rfl W1 (by omega)).mono ?_
  rintro e w2 ⟨rfl, l2, hW, hw, nn, ne2⟩
  have N2 := hid (N1.out.trans nn)
  have W2 := hid hW
  have O2 := hid (ok_on O1.out nn.below)
  have Fx2 := hid (fit_near Fx1.out nn)
  have Xx2 := hid (box_near Xx1.out (by omega) nn)
  clear W1 N1 O1 Fx1 Xx1 nn hW cXx_1_0 cXx_1_1 cXx_1_2 cXx_1_3 cXx_1_4 cXx_1_5 cXx_1_6
  obtain ⟨cXx_2_0, cXx_2_1, cXx_2_2, cXx_2_3, cXx_2_4, cXx_2_5, cXx_2_6⟩ := box_cells Xx2.out
  have hlen2 := wrote_le hw
  simp only [List.length_cons, List.length_nil] at hlen2
  have R2 := hid (R1.out.trans hw)
  clear hw R1
  go_wp2_with fail
  refine (wstr_done s (by simp [hs0]) W2 (by omega) (by omega)).mono ?_
  rintro e w3 ⟨rfl, l3, hW, hw, nn, ne3⟩
  have N3 := hid (N2.out.trans nn)
  have W3 := hid hW
  have O3 := hid (ok_on O2.out nn.below)
  have Fx3 := hid (fit_near Fx2.out nn)
  have Xx3 := hid (box_near Xx2.out (by omega) nn)
  clear W2 N2 O2 Fx2 Xx2 nn hW cXx_2_0 cXx_2_1 cXx_2_2 cXx_2_3 cXx_2_4 cXx_2_5 cXx_2_6
  obtain ⟨cXx_3_0, cXx_3_1, cXx_3_2, cXx_3_3, cXx_3_4, cXx_3_5, cXx_3_6⟩ := box_cells Xx3.out
  have hlen3 := wrote_le hw
  have R3 := hid (R2.out.trans hw)
  clear hw R2
  have D := hid (done_mk W3.out R3.out (show ((tightT (textN x) 8 ++ [46]) ++ s.data.toList) = getT (textN x) s by rw [HT.out]; first | done | simp only [List.append_assoc, List.cons_append, List.nil_append]) N3.out)
  clear W3 N3 O3 R3 Fx3 Xx3 cXx_3_0 cXx_3_1 cXx_3_2 cXx_3_3 cXx_3_4 cXx_3_5 cXx_3_6
  go_wp2_with fail
  go_end0
  exact D.out

set_option maxHeartbeats 1600000 in
theorem index_calls (x : Nd) (hxx : ExprW x) (xa1 : Option Addr) (xq1 : Nat) (xa2 : Option Addr) (xq2 : Nat) (y : Nd) (hxy : ExprW y) (ya1 : Option Addr) (yq1 : Nat) (ya2 : Option Addr) (yq2 : Nat) (B b : Nat) (l : List UInt8) (w : World) (W : Hid (Wr B b l w)) (O : Hid (Ok B w)) (Fx : Hid (Fit B x (.slice xa1 x.names.length xq1) (.slice xa2 x.kids.length xq2) 1 w)) (Fy : Hid (Fit B y (.slice ya1 y.names.length yq1) (.slice ya2 y.kids.length yq2) 1 w)) (hl : l.length + (indexT (textN x) (textN y)).length ≤ 100000000) :
    Calls Tryd.prog 67 #[.pointer (some ⟨b, 0, none⟩), .agg #[.int .i64 x.kind, .int .i64 x.op, .int .i64 x.num, .string x.str, .slice xa1 x.names.length xq1, .slice xa2 x.kids.length xq2, .int .i64 x.pl], .agg #[.int .i64 y.kind, .int .i64 y.op, .int .i64 y.num, .string y.str, .slice ya1 y.names.length yq1, .slice ya2 y.kids.length yq2, .int .i64 y.pl]] w (Done B b l (indexT (textN x) (textN y)) w) := by
  have hlt := wr_lt W.out
  have hal := box2_below w (.cells #[.int .i64 x.kind, .int .i64 x.op, .int .i64 x.num, .string x.str, .slice xa1 x.names.length xq1, .slice xa2 x.kids.length xq2, .int .i64 x.pl] 25) (.cells #[.int .i64 y.kind, .int .i64 y.op, .int .i64 y.num, .string y.str, .slice ya1 y.names.length yq1, .slice ya2 y.kids.length yq2, .int .i64 y.pl] 25)
  have N0 := hid (show Near B b w _ from Near.ofBelow hal O.out.1)
  have W0 := hid (wr_below W.out hal)
  have O0 := hid (ok_on O.out N0.out.below)
  have Fx0 := hid (fit_near Fx.out N0.out)
  have HXx := hid hxx
  have Fy0 := hid (fit_near Fy.out N0.out)
  have HXy := hid hxy
  have hbx := boxes2 w x.kind x.op x.num x.str (.slice xa1 x.names.length xq1) (.slice xa2 x.kids.length xq2) x.pl y.kind y.op y.num y.str (.slice ya1 y.names.length yq1) (.slice ya2 y.kids.length yq2) y.pl
  have Xx0 := hid hbx.1
  have Xy0 := hid hbx.2
  clear hbx
  have HT := hid (show indexT (textN x) (textN y) = tightT (textN x) 8 ++ ([91] ++ ((textN y).e ++ [93])) by rfl)
  rw [HT.out] at hl
  simp only [List.length_append, List.length_cons, List.length_nil] at hl
  clear hal W O Fx hxx Fy hxy
  go_enter Tryd.func67, Tryd.ntmps67
  go_wp2_with fail
  refine (tight_calls x HXx.out 8 (by omega) (by omega) B b _ _ _ _ W0 O0 Fx0 (by omega)).mono ?_
  rintro e w1 ⟨rfl, l1, hW, hw, nn⟩
  have N1 := hid (N0.out.trans nn)
  have W1 := hid hW
  have O1 := hid (ok_on O0.out nn.below)
  have Fx1 := hid (fit_near Fx0.out nn)
  have Fy1 := hid (fit_near Fy0.out nn)
  have Xx1 := hid (box_near Xx0.out (by omega) nn)
  have Xy1 := hid (box_near Xy0.out (by omega) nn)
  clear W0 N0 O0 Fx0 Fy0 Xx0 Xy0 nn hW
  obtain ⟨cXx_1_0, cXx_1_1, cXx_1_2, cXx_1_3, cXx_1_4, cXx_1_5, cXx_1_6⟩ := box_cells Xx1.out
  obtain ⟨cXy_1_0, cXy_1_1, cXy_1_2, cXy_1_3, cXy_1_4, cXy_1_5, cXy_1_6⟩ := box_cells Xy1.out
  have hlen1 := wrote_le hw
  have R1 := hid hw
  clear hw
  go_wp2_with fail
  refine (wbyte_done 91 _ rfl W1 (by omega)).mono ?_
  rintro e w2 ⟨rfl, l2, hW, hw, nn, ne2⟩
  have N2 := hid (N1.out.trans nn)
  have W2 := hid hW
  have O2 := hid (ok_on O1.out nn.below)
  have Fx2 := hid (fit_near Fx1.out nn)
  have Fy2 := hid (fit_near Fy1.out nn)
  have Xx2 := hid (box_near Xx1.out (by omega) nn)
  have Xy2 := hid (box_near Xy1.out (by omega) nn)
  clear W1 N1 O1 Fx1 Fy1 Xx1 Xy1 nn hW cXx_1_0 cXx_1_1 cXx_1_2 cXx_1_3 cXx_1_4 cXx_1_5 cXx_1_6 cXy_1_0 cXy_1_1 cXy_1_2 cXy_1_3 cXy_1_4 cXy_1_5 cXy_1_6
  obtain ⟨cXx_2_0, cXx_2_1, cXx_2_2, cXx_2_3, cXx_2_4, cXx_2_5, cXx_2_6⟩ := box_cells Xx2.out
  obtain ⟨cXy_2_0, cXy_2_1, cXy_2_2, cXy_2_3, cXy_2_4, cXy_2_5, cXy_2_6⟩ := box_cells Xy2.out
  have hlen2 := wrote_le hw
  simp only [List.length_cons, List.length_nil] at hlen2
  have R2 := hid (R1.out.trans hw)
  clear hw R1
  go_wp2_with fail
  refine (HXy.out B b _ _ _ _ W2 O2 (hid Fy2.out.1) Fy2.out.2.1 Fy2.out.2.2.1 Fy2.out.2.2.2 (by omega)).mono ?_
  rintro e w3 ⟨rfl, l3, hW, hw, nn⟩
  have N3 := hid (N2.out.trans nn)
  have W3 := hid hW
  have O3 := hid (ok_on O2.out nn.below)
  have Fx3 := hid (fit_near Fx2.out nn)
  have Fy3 := hid (fit_near Fy2.out nn)
  have Xx3 := hid (box_near Xx2.out (by omega) nn)
  have Xy3 := hid (box_near Xy2.out (by omega) nn)
  clear W2 N2 O2 Fx2 Fy2 Xx2 Xy2 nn hW cXx_2_0 cXx_2_1 cXx_2_2 cXx_2_3 cXx_2_4 cXx_2_5 cXx_2_6 cXy_2_0 cXy_2_1 cXy_2_2 cXy_2_3 cXy_2_4 cXy_2_5 cXy_2_6
  obtain ⟨cXx_3_0, cXx_3_1, cXx_3_2, cXx_3_3, cXx_3_4, cXx_3_5, cXx_3_6⟩ := box_cells Xx3.out
  obtain ⟨cXy_3_0, cXy_3_1, cXy_3_2, cXy_3_3, cXy_3_4, cXy_3_5, cXy_3_6⟩ := box_cells Xy3.out
  have hlen3 := wrote_le hw
  have R3 := hid (R2.out.trans hw)
  clear hw R2
  go_wp2_with fail
  refine (wbyte_done 93 _ rfl W3 (by omega)).mono ?_
  rintro e w4 ⟨rfl, l4, hW, hw, nn, ne4⟩
  have N4 := hid (N3.out.trans nn)
  have W4 := hid hW
  have O4 := hid (ok_on O3.out nn.below)
  have Fx4 := hid (fit_near Fx3.out nn)
  have Fy4 := hid (fit_near Fy3.out nn)
  have Xx4 := hid (box_near Xx3.out (by omega) nn)
  have Xy4 := hid (box_near Xy3.out (by omega) nn)
  clear W3 N3 O3 Fx3 Fy3 Xx3 Xy3 nn hW cXx_3_0 cXx_3_1 cXx_3_2 cXx_3_3 cXx_3_4 cXx_3_5 cXx_3_6 cXy_3_0 cXy_3_1 cXy_3_2 cXy_3_3 cXy_3_4 cXy_3_5 cXy_3_6
  obtain ⟨cXx_4_0, cXx_4_1, cXx_4_2, cXx_4_3, cXx_4_4, cXx_4_5, cXx_4_6⟩ := box_cells Xx4.out
  obtain ⟨cXy_4_0, cXy_4_1, cXy_4_2, cXy_4_3, cXy_4_4, cXy_4_5, cXy_4_6⟩ := box_cells Xy4.out
  have hlen4 := wrote_le hw
  simp only [List.length_cons, List.length_nil] at hlen4
  have R4 := hid (R3.out.trans hw)
  clear hw R3
  have D := hid (done_mk W4.out R4.out (show (((tightT (textN x) 8 ++ [91]) ++ (textN y).e) ++ [93]) = indexT (textN x) (textN y) by rw [HT.out]; first | done | simp only [List.append_assoc, List.cons_append, List.nil_append]) N4.out)
  clear W4 N4 O4 R4 Fx4 Fy4 Xx4 Xy4 cXx_4_0 cXx_4_1 cXx_4_2 cXx_4_3 cXx_4_4 cXx_4_5 cXx_4_6 cXy_4_0 cXy_4_1 cXy_4_2 cXy_4_3 cXy_4_4 cXy_4_5 cXy_4_6
  go_wp2_with fail
  go_end0
  exact D.out

set_option maxHeartbeats 1600000 in
theorem called_calls (x : Nd) (hxx : ExprW x) (xa1 : Option Addr) (xq1 : Nat) (xa2 : Option Addr) (xq2 : Nat) (B b : Nat) (l : List UInt8) (w : World) (W : Hid (Wr B b l w)) (O : Hid (Ok B w)) (Fx : Hid (Fit B x (.slice xa1 x.names.length xq1) (.slice xa2 x.kids.length xq2) 1 w)) (hl : l.length + (tightT (textN x) (if x.kind = 13 then 9 else 8)).length ≤ 100000000) :
    Calls Tryd.prog 84 #[.pointer (some ⟨b, 0, none⟩), .agg #[.int .i64 x.kind, .int .i64 x.op, .int .i64 x.num, .string x.str, .slice xa1 x.names.length xq1, .slice xa2 x.kids.length xq2, .int .i64 x.pl]] w (Done B b l (tightT (textN x) (if x.kind = 13 then 9 else 8)) w) := by
  have hlt := wr_lt W.out
  have hal := box1_below w (.cells #[.int .i64 x.kind, .int .i64 x.op, .int .i64 x.num, .string x.str, .slice xa1 x.names.length xq1, .slice xa2 x.kids.length xq2, .int .i64 x.pl] 25)
  have N0 := hid (show Near B b w _ from Near.ofBelow hal O.out.1)
  have W0 := hid (wr_below W.out hal)
  have O0 := hid (ok_on O.out N0.out.below)
  have Fx0 := hid (fit_near Fx.out N0.out)
  have HXx := hid hxx
  have Xx0 := hid (box_new w x.kind x.op x.num x.str (.slice xa1 x.names.length xq1) (.slice xa2 x.kids.length xq2) x.pl)
  clear hal W O Fx hxx
  by_cases hk : x.kind = 13
  · have HT := hid (show tightT (textN x) (if x.kind = 13 then 9 else 8) = tightT (textN x) 9 by rw [if_pos hk])
    rw [HT.out] at hl ⊢
    obtain ⟨xk, xo, xn, xs, xns, xks, xp⟩ := x
    obtain rfl : xk = 13 := hk
    simp only [Nd.kind, Nd.op, Nd.num, Nd.str, Nd.pl, Nd.names, Nd.kids] at *
    go_enter Tryd.func84, Tryd.ntmps84
    go_wp2_with fail
    refine (tight_calls (.mk 13 xo xn xs xns xks xp) HXx.out 9 (by omega) (by omega) B b _ _ _ _ W0 O0 Fx0 (by omega)).mono ?_
    rintro e w1 ⟨rfl, l1, hW, hw, nn⟩
    have N1 := hid (N0.out.trans nn)
    have W1 := hid hW
    have O1 := hid (ok_on O0.out nn.below)
    have Fx1 := hid (fit_near Fx0.out nn)
    have Xx1 := hid (box_near Xx0.out (by omega) nn)
    clear W0 N0 O0 Fx0 Xx0 nn hW
    obtain ⟨cXx_1_0, cXx_1_1, cXx_1_2, cXx_1_3, cXx_1_4, cXx_1_5, cXx_1_6⟩ := box_cells Xx1.out
    have hlen1 := wrote_le hw
    have R1 := hid hw
    clear hw
    have D := hid (done_mk W1.out R1.out rfl N1.out)
    clear W1 N1 O1 R1 Fx1 Xx1 cXx_1_0 cXx_1_1 cXx_1_2 cXx_1_3 cXx_1_4 cXx_1_5 cXx_1_6
    go_wp2_with fail
    go_end0
    exact D.out
  · have HT := hid (show tightT (textN x) (if x.kind = 13 then 9 else 8) = tightT (textN x) 8 by rw [if_neg hk])
    rw [HT.out] at hl ⊢
    have ek : (x.kind == 13) = false := beq_eq_false_iff_ne.2 hk
    clear hk
    go_enter Tryd.func84, Tryd.ntmps84
    go_wp2_with fail
    refine (tight_calls x HXx.out 8 (by omega) (by omega) B b _ _ _ _ W0 O0 Fx0 (by omega)).mono ?_
    rintro e w1 ⟨rfl, l1, hW, hw, nn⟩
    have N1 := hid (N0.out.trans nn)
    have W1 := hid hW
    have O1 := hid (ok_on O0.out nn.below)
    have Fx1 := hid (fit_near Fx0.out nn)
    have Xx1 := hid (box_near Xx0.out (by omega) nn)
    clear W0 N0 O0 Fx0 Xx0 nn hW
    obtain ⟨cXx_1_0, cXx_1_1, cXx_1_2, cXx_1_3, cXx_1_4, cXx_1_5, cXx_1_6⟩ := box_cells Xx1.out
    have hlen1 := wrote_le hw
    have R1 := hid hw
    clear hw
    have D := hid (done_mk W1.out R1.out rfl N1.out)
    clear W1 N1 O1 R1 Fx1 Xx1 cXx_1_0 cXx_1_1 cXx_1_2 cXx_1_3 cXx_1_4 cXx_1_5 cXx_1_6
    go_wp2_with fail
    go_end0
    exact D.out

end Go.Proofs.YtlnllpehifkjhaaDoor
