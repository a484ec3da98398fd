/- Expressions and statements, kind by kind. -/
import Derived.Test.YtlnllpehifkjhaaDoorWrShort
namespace Go.Proofs.YtlnllpehifkjhaaDoor
open Go.RowKit
set_option linter.unusedVariables false

set_option maxHeartbeats 3200000 in
set_option maxRecDepth 100000 in
theorem stmt21 (o : Int) (n : Int) (s : ByteArray) (a1 : Option Addr) (c1 q1 : Nat) (t off q2 : Nat) (p : Int) (hs0 : s.data.toList ≠ []) (hs : s.size ≤ 1000000) (x : Nd) (hxx : ExprW x) (xa1 : Option Addr) (xq1 : Nat) (xa2 : Option Addr) (xq2 : Nat) (B b : Nat) (l : List UInt8) (w : World) (W : Hid (Wr B b l w)) (O : Hid (Ok B w)) (htB : t < B) (Kx : Hid (NodeAt t (off) x.kind x.op x.num x.str (.slice xa1 x.names.length xq1) (.slice xa2 x.kids.length xq2) x.pl w)) (Fx : Hid (Fit B x (.slice xa1 x.names.length xq1) (.slice xa2 x.kids.length xq2) 1 w)) (hl : l.length + (([108, 101, 116, 32] ++ (s.data.toList ++ becomesT (textN x))) ++ [59]).length ≤ 100000000) :
    Calls Tryd.prog 36 #[.pointer (some ⟨b, 0, none⟩), .agg #[.int .i64 21, .int .i64 o, .int .i64 n, .string s, .slice a1 c1 q1, .slice (some ⟨t, off, none⟩) 1 q2, .int .i64 p]] w (Done B b l (([108, 101, 116, 32] ++ (s.data.toList ++ becomesT (textN x))) ++ [59]) w) := by
  have hlt := wr_lt W.out
  have hal := box1_below w (.cells #[.int .i64 21, .int .i64 o, .int .i64 n, .string s, .slice a1 c1 q1, .slice (some ⟨t, off, none⟩) 1 q2, .int .i64 p] 25)
  have N0 := hid (show Near B b w _ from Near.ofBelow hal O.out.1)
  have W0 := hid (wr_below W.out hal)
  have O0 := hid (ok_on O.out N0.out.below)
  have X0 := hid (box_new w 21 o n s (.slice a1 c1 q1) (.slice (some ⟨t, off, none⟩) 1 q2) p)
  have htw : t < w.heap.size := Nat.lt_of_lt_of_le htB O.out.1
  have Fx0 := hid (fit_near Fx.out N0.out)
  have HXx := hid hxx
  have Kx0 := hid (nodeAt_on Kx.out htB N0.out.below)
  simp only [List.length_append, List.length_cons, List.length_nil] at hl
  clear hal W O Fx hxx Kx
  obtain ⟨cKx_0_0, cKx_0_1, cKx_0_2, cKx_0_3, cKx_0_4, cKx_0_5, cKx_0_6⟩ := Kx0.out
  go_enter Tryd.func36, Tryd.ntmps36
  go_wp2_with fail
  refine (full_calls W0 (by omega)).mono ?_
  rintro e wf ⟨rfl, rfl⟩
  by_cases hfull : 2000 < l.length
  · rw [decide_eq_true hfull]
    have D := hid (done_mk W0.out (Wrote.none hfull (([108, 101, 116, 32] ++ (s.data.toList ++ becomesT (textN x))) ++ [59])) rfl N0.out)
    clear W0 N0 O0 X0 Fx0 Kx0 cKx_0_0 cKx_0_1 cKx_0_2 cKx_0_3 cKx_0_4 cKx_0_5 cKx_0_6
    go_wp2_with fail
    go_end0
    exact D.out
  rw [decide_eq_false hfull]
  clear hfull
  have hlz : l.length + ([108, 101, 116, 32] ++ (s.data.toList ++ becomesT (textN x))).length ≤ 100000000 := by simp only [List.length_append, List.length_cons, List.length_nil]; omega
  go_wp2_with fail
  refine (short21 o n s a1 c1 q1 t off q2 p hs0 hs x HXx.out _ _ _ _ B b _ _ W0 O0 htB Kx0 Fx0 hlz).mono ?_
  rintro e w1 ⟨rfl, l1, hW, hw, nn⟩
  have N1 := hid (N0.out.trans nn)
  have W1 := hid hW
  have O1 := hid (ok_on O0.out nn.below)
  have X1 := hid (box_near X0.out (by omega) nn)
  have Fx1 := hid (fit_near Fx0.out nn)
  have Kx1 := hid (nodeAt_on Kx0.out htB nn.below)
  clear W0 N0 O0 X0 Fx0 Kx0 nn hW cKx_0_0 cKx_0_1 cKx_0_2 cKx_0_3 cKx_0_4 cKx_0_5 cKx_0_6
  obtain ⟨cX_1_0, cX_1_1, cX_1_2, cX_1_3, cX_1_4, cX_1_5, cX_1_6⟩ := box_cells X1.out
  obtain ⟨cKx_1_0, cKx_1_1, cKx_1_2, cKx_1_3, cKx_1_4, cKx_1_5, cKx_1_6⟩ := Kx1.out
  have hlen1 := wrote_le hw
  have R1 := hid hw
  clear hw
  simp only [List.length_append, List.length_cons, List.length_nil] at hlen1
  go_wp2_with fail
  refine (wbyte_done 59 _ rfl W1 (by omega)).mono ?_
  rintro e w2 ⟨rfl, l2, hW, hw, nn, ne2⟩
  have N2 := hid (N1.out.trans nn)
  have W2 := hid hW
  have O2 := hid (ok_on O1.out nn.below)
  have X2 := hid (box_near X1.out (by omega) nn)
  have Fx2 := hid (fit_near Fx1.out nn)
  have Kx2 := hid (nodeAt_on Kx1.out htB nn.below)
  clear W1 N1 O1 X1 Fx1 Kx1 nn hW cX_1_0 cX_1_1 cX_1_2 cX_1_3 cX_1_4 cX_1_5 cX_1_6 cKx_1_0 cKx_1_1 cKx_1_2 cKx_1_3 cKx_1_4 cKx_1_5 cKx_1_6
  obtain ⟨cX_2_0, cX_2_1, cX_2_2, cX_2_3, cX_2_4, cX_2_5, cX_2_6⟩ := box_cells X2.out
  obtain ⟨cKx_2_0, cKx_2_1, cKx_2_2, cKx_2_3, cKx_2_4, cKx_2_5, cKx_2_6⟩ := Kx2.out
  have hlen2 := wrote_le hw
  simp only [List.length_cons, List.length_nil] at hlen2
  have R2 := hid (R1.out.trans hw)
  clear hw R1
  have D := hid (done_mk W2.out R2.out (show (([108, 101, 116, 32] ++ (s.data.toList ++ becomesT (textN x))) ++ [59]) = ([108, 101, 116, 32] ++ (s.data.toList ++ becomesT (textN x))) ++ [59] by first | rfl | simp only [List.append_assoc, List.cons_append, List.nil_append]) N2.out)
  clear W2 N2 O2 R2 X2 Fx2 Kx2 cX_2_0 cX_2_1 cX_2_2 cX_2_3 cX_2_4 cX_2_5 cX_2_6 cKx_2_0 cKx_2_1 cKx_2_2 cKx_2_3 cKx_2_4 cKx_2_5 cKx_2_6
  go_wp2_with fail
  go_end0
  exact D.out

set_option maxHeartbeats 3200000 in
set_option maxRecDepth 100000 in
theorem stmt22 (o : Int) (n : Int) (s : ByteArray) (a1 : Option Addr) (c1 q1 : Nat) (t off q2 : Nat) (p : Int) (hs0 : s.data.toList ≠ []) (hs : s.size ≤ 1000000) (x : Nd) (hxx : ExprW x) (xa1 : Option Addr) (xq1 : Nat) (xa2 : Option Addr) (xq2 : Nat) (B b : Nat) (l : List UInt8) (w : World) (W : Hid (Wr B b l w)) (O : Hid (Ok B w)) (htB : t < B) (Kx : Hid (NodeAt t (off) x.kind x.op x.num x.str (.slice xa1 x.names.length xq1) (.slice xa2 x.kids.length xq2) x.pl w)) (Fx : Hid (Fit B x (.slice xa1 x.names.length xq1) (.slice xa2 x.kids.length xq2) 1 w)) (hl : l.length + ((s.data.toList ++ becomesT (textN x)) ++ [59]).length ≤ 100000000) :
    Calls Tryd.prog 36 #[.pointer (some ⟨b, 0, none⟩), .agg #[.int .i64 22, .int .i64 o, .int .i64 n, .string s, .slice a1 c1 q1, .slice (some ⟨t, off, none⟩) 1 q2, .int .i64 p]] w (Done B b l ((s.data.toList ++ becomesT (textN x)) ++ [59]) w) := by
  have hlt := wr_lt W.out
  have hal := box1_below w (.cells #[.int .i64 22, .int .i64 o, .int .i64 n, .string s, .slice a1 c1 q1, .slice (some ⟨t, off, none⟩) 1 q2, .int .i64 p] 25)
  have N0 := hid (show Near B b w _ from Near.ofBelow hal O.out.1)
  have W0 := hid (wr_below W.out hal)
  have O0 := hid (ok_on O.out N0.out.below)
  have X0 := hid (box_new w 22 o n s (.slice a1 c1 q1) (.slice (some ⟨t, off, none⟩) 1 q2) p)
  have htw : t < w.heap.size := Nat.lt_of_lt_of_le htB O.out.1
  have Fx0 := hid (fit_near Fx.out N0.out)
  have HXx := hid hxx
  have Kx0 := hid (nodeAt_on Kx.out htB N0.out.below)
  simp only [List.length_append, List.length_cons, List.length_nil] at hl
  clear hal W O Fx hxx Kx
  obtain ⟨cKx_0_0, cKx_0_1, cKx_0_2, cKx_0_3, cKx_0_4, cKx_0_5, cKx_0_6⟩ := Kx0.out
  go_enter Tryd.func36, Tryd.ntmps36
  go_wp2_with fail
  refine (full_calls W0 (by omega)).mono ?_
  rintro e wf ⟨rfl, rfl⟩
  by_cases hfull : 2000 < l.length
  · rw [decide_eq_true hfull]
    have D := hid (done_mk W0.out (Wrote.none hfull ((s.data.toList ++ becomesT (textN x)) ++ [59])) rfl N0.out)
    clear W0 N0 O0 X0 Fx0 Kx0 cKx_0_0 cKx_0_1 cKx_0_2 cKx_0_3 cKx_0_4 cKx_0_5 cKx_0_6
    go_wp2_with fail
    go_end0
    exact D.out
  rw [decide_eq_false hfull]
  clear hfull
  have hlz : l.length + (s.data.toList ++ becomesT (textN x)).length ≤ 100000000 := by simp only [List.length_append]; omega
  go_wp2_with fail
  refine (short22 o n s a1 c1 q1 t off q2 p hs0 hs x HXx.out _ _ _ _ B b _ _ W0 O0 htB Kx0 Fx0 hlz).mono ?_
  rintro e w1 ⟨rfl, l1, hW, hw, nn⟩
  have N1 := hid (N0.out.trans nn)
  have W1 := hid hW
  have O1 := hid (ok_on O0.out nn.below)
  have X1 := hid (box_near X0.out (by omega) nn)
  have Fx1 := hid (fit_near Fx0.out nn)
  have Kx1 := hid (nodeAt_on Kx0.out htB nn.below)
  clear W0 N0 O0 X0 Fx0 Kx0 nn hW cKx_0_0 cKx_0_1 cKx_0_2 cKx_0_3 cKx_0_4 cKx_0_5 cKx_0_6
  obtain ⟨cX_1_0, cX_1_1, cX_1_2, cX_1_3, cX_1_4, cX_1_5, cX_1_6⟩ := box_cells X1.out
  obtain ⟨cKx_1_0, cKx_1_1, cKx_1_2, cKx_1_3, cKx_1_4, cKx_1_5, cKx_1_6⟩ := Kx1.out
  have hlen1 := wrote_le hw
  have R1 := hid hw
  clear hw
  simp only [List.length_append] at hlen1
  go_wp2_with fail
  refine (wbyte_done 59 _ rfl W1 (by omega)).mono ?_
  rintro e w2 ⟨rfl, l2, hW, hw, nn, ne2⟩
  have N2 := hid (N1.out.trans nn)
  have W2 := hid hW
  have O2 := hid (ok_on O1.out nn.below)
  have X2 := hid (box_near X1.out (by omega) nn)
  have Fx2 := hid (fit_near Fx1.out nn)
  have Kx2 := hid (nodeAt_on Kx1.out htB nn.below)
  clear W1 N1 O1 X1 Fx1 Kx1 nn hW cX_1_0 cX_1_1 cX_1_2 cX_1_3 cX_1_4 cX_1_5 cX_1_6 cKx_1_0 cKx_1_1 cKx_1_2 cKx_1_3 cKx_1_4 cKx_1_5 cKx_1_6
  obtain ⟨cX_2_0, cX_2_1, cX_2_2, cX_2_3, cX_2_4, cX_2_5, cX_2_6⟩ := box_cells X2.out
  obtain ⟨cKx_2_0, cKx_2_1, cKx_2_2, cKx_2_3, cKx_2_4, cKx_2_5, cKx_2_6⟩ := Kx2.out
  have hlen2 := wrote_le hw
  simp only [List.length_cons, List.length_nil] at hlen2
  have R2 := hid (R1.out.trans hw)
  clear hw R1
  have D := hid (done_mk W2.out R2.out (show ((s.data.toList ++ becomesT (textN x)) ++ [59]) = (s.data.toList ++ becomesT (textN x)) ++ [59] by first | rfl | simp only [List.append_assoc, List.cons_append, List.nil_append]) N2.out)
  clear W2 N2 O2 R2 X2 Fx2 Kx2 cX_2_0 cX_2_1 cX_2_2 cX_2_3 cX_2_4 cX_2_5 cX_2_6 cKx_2_0 cKx_2_1 cKx_2_2 cKx_2_3 cKx_2_4 cKx_2_5 cKx_2_6
  go_wp2_with fail
  go_end0
  exact D.out

set_option maxHeartbeats 3200000 in
set_option maxRecDepth 100000 in
theorem stmt23 (o : Int) (n : Int) (s : ByteArray) (a1 : Option Addr) (c1 q1 : Nat) (t off q2 : Nat) (p : Int) (hs0 : s.data.toList ≠ []) (hs : s.size ≤ 1000000) (x : Nd) (hxx : ExprW x) (xa1 : Option Addr) (xq1 : Nat) (xa2 : Option Addr) (xq2 : Nat) (y : Nd) (hxy : ExprW y) (ya1 : Option Addr) (yq1 : Nat) (ya2 : Option Addr) (yq2 : Nat) (B b : Nat) (l : List UInt8) (w : World) (W : Hid (Wr B b l w)) (O : Hid (Ok B w)) (htB : t < B) (Kx : Hid (NodeAt t (off) x.kind x.op x.num x.str (.slice xa1 x.names.length xq1) (.slice xa2 x.kids.length xq2) x.pl w)) (Fx : Hid (Fit B x (.slice xa1 x.names.length xq1) (.slice xa2 x.kids.length xq2) 1 w)) (Ky : Hid (NodeAt t (off + 7) y.kind y.op y.num y.str (.slice ya1 y.names.length yq1) (.slice ya2 y.kids.length yq2) y.pl w)) (Fy : Hid (Fit B y (.slice ya1 y.names.length yq1) (.slice ya2 y.kids.length yq2) 1 w)) (hl : l.length + ((getT (textN x) s ++ becomesT (textN y)) ++ [59]).length ≤ 100000000) :
    Calls Tryd.prog 36 #[.pointer (some ⟨b, 0, none⟩), .agg #[.int .i64 23, .int .i64 o, .int .i64 n, .string s, .slice a1 c1 q1, .slice (some ⟨t, off, none⟩) 2 q2, .int .i64 p]] w (Done B b l ((getT (textN x) s ++ becomesT (textN y)) ++ [59]) w) := by
  have hlt := wr_lt W.out
  have hal := box1_below w (.cells #[.int .i64 23, .int .i64 o, .int .i64 n, .string s, .slice a1 c1 q1, .slice (some ⟨t, off, none⟩) 2 q2, .int .i64 p] 25)
  have N0 := hid (show Near B b w _ from Near.ofBelow hal O.out.1)
  have W0 := hid (wr_below W.out hal)
  have O0 := hid (ok_on O.out N0.out.below)
  have X0 := hid (box_new w 23 o n s (.slice a1 c1 q1) (.slice (some ⟨t, off, none⟩) 2 q2) p)
  have htw : t < w.heap.size := Nat.lt_of_lt_of_le htB O.out.1
  have Fx0 := hid (fit_near Fx.out N0.out)
  have HXx := hid hxx
  have Kx0 := hid (nodeAt_on Kx.out htB N0.out.below)
  have Fy0 := hid (fit_near Fy.out N0.out)
  have HXy := hid hxy
  have Ky0 := hid (nodeAt_on Ky.out htB N0.out.below)
  simp only [List.length_append, List.length_cons, List.length_nil] at hl
  clear hal W O Fx hxx Kx Fy hxy Ky
  obtain ⟨cKx_0_0, cKx_0_1, cKx_0_2, cKx_0_3, cKx_0_4, cKx_0_5, cKx_0_6⟩ := Kx0.out
  obtain ⟨cKy_0_0, cKy_0_1, cKy_0_2, cKy_0_3, cKy_0_4, cKy_0_5, cKy_0_6⟩ := Ky0.out
  go_enter Tryd.func36, Tryd.ntmps36
  go_wp2_with fail
  refine (full_calls W0 (by omega)).mono ?_
  rintro e wf ⟨rfl, rfl⟩
  by_cases hfull : 2000 < l.length
  · rw [decide_eq_true hfull]
    have D := hid (done_mk W0.out (Wrote.none hfull ((getT (textN x) s ++ becomesT (textN y)) ++ [59])) rfl N0.out)
    clear W0 N0 O0 X0 Fx0 Kx0 Fy0 Ky0 cKx_0_0 cKx_0_1 cKx_0_2 cKx_0_3 cKx_0_4 cKx_0_5 cKx_0_6 cKy_0_0 cKy_0_1 cKy_0_2 cKy_0_3 cKy_0_4 cKy_0_5 cKy_0_6
    go_wp2_with fail
    go_end0
    exact D.out
  rw [decide_eq_false hfull]
  clear hfull
  have hlz : l.length + (getT (textN x) s ++ becomesT (textN y)).length ≤ 100000000 := by simp only [List.length_append]; omega
  go_wp2_with fail
  refine (short23 o n s a1 c1 q1 t off q2 p hs0 hs x HXx.out _ _ _ _ y HXy.out _ _ _ _ B b _ _ W0 O0 htB Kx0 Fx0 Ky0 Fy0 hlz).mono ?_
  rintro e w1 ⟨rfl, l1, hW, hw, nn⟩
  have N1 := hid (N0.out.trans nn)
  have W1 := hid hW
  have O1 := hid (ok_on O0.out nn.below)
  have X1 := hid (box_near X0.out (by omega) nn)
  have Fx1 := hid (fit_near Fx0.out nn)
  have Kx1 := hid (nodeAt_on Kx0.out htB nn.below)
  have Fy1 := hid (fit_near Fy0.out nn)
  have Ky1 := hid (nodeAt_on Ky0.out htB nn.below)
  clear W0 N0 O0 X0 Fx0 Kx0 Fy0 Ky0 nn hW cKx_0_0 cKx_0_1 cKx_0_2 cKx_0_3 cKx_0_4 cKx_0_5 cKx_0_6 cKy_0_0 cKy_0_1 cKy_0_2 cKy_0_3 cKy_0_4 cKy_0_5 cKy_0_6
  obtain ⟨cX_1_0, cX_1_1, cX_1_2, cX_1_3, cX_1_4, cX_1_5, cX_1_6⟩ := box_cells X1.out
  obtain ⟨cKx_1_0, cKx_1_1, cKx_1_2, cKx_1_3, cKx_1_4, cKx_1_5, cKx_1_6⟩ := Kx1.out
  obtain ⟨cKy_1_0, cKy_1_1, cKy_1_2, cKy_1_3, cKy_1_4, cKy_1_5, cKy_1_6⟩ := Ky1.out
  have hlen1 := wrote_le hw
  have R1 := hid hw
  clear hw
  simp only [List.length_append] at hlen1
  go_wp2_with fail
  refine (wbyte_done 59 _ rfl W1 (by omega)).mono ?_
  rintro e w2 ⟨rfl, l2, hW, hw, nn, ne2⟩
  have N2 := hid (N1.out.trans nn)
  have W2 := hid hW
  have O2 := hid (ok_on O1.out nn.below)
  have X2 := hid (box_near X1.out (by omega) nn)
  have Fx2 := hid (fit_near Fx1.out nn)
  have Kx2 := hid (nodeAt_on Kx1.out htB nn.below)
  have Fy2 := hid (fit_near Fy1.out nn)
  have Ky2 := hid (nodeAt_on Ky1.out htB nn.below)
  clear W1 N1 O1 X1 Fx1 Kx1 Fy1 Ky1 nn hW cX_1_0 cX_1_1 cX_1_2 cX_1_3 cX_1_4 cX_1_5 cX_1_6 cKx_1_0 cKx_1_1 cKx_1_2 cKx_1_3 cKx_1_4 cKx_1_5 cKx_1_6 cKy_1_0 cKy_1_1 cKy_1_2 cKy_1_3 cKy_1_4 cKy_1_5 cKy_1_6
  obtain ⟨cX_2_0, cX_2_1, cX_2_2, cX_2_3, cX_2_4, cX_2_5, cX_2_6⟩ := box_cells X2.out
  obtain ⟨cKx_2_0, cKx_2_1, cKx_2_2, cKx_2_3, cKx_2_4, cKx_2_5, cKx_2_6⟩ := Kx2.out
  obtain ⟨cKy_2_0, cKy_2_1, cKy_2_2, cKy_2_3, cKy_2_4, cKy_2_5, cKy_2_6⟩ := Ky2.out
  have hlen2 := wrote_le hw
  simp only [List.length_cons, List.length_nil] at hlen2
  have R2 := hid (R1.out.trans hw)
  clear hw R1
  have D := hid (done_mk W2.out R2.out (show ((getT (textN x) s ++ becomesT (textN y)) ++ [59]) = (getT (textN x) s ++ becomesT (textN y)) ++ [59] by first | rfl | simp only [List.append_assoc, List.cons_append, List.nil_append]) N2.out)
  clear W2 N2 O2 R2 X2 Fx2 Kx2 Fy2 Ky2 cX_2_0 cX_2_1 cX_2_2 cX_2_3 cX_2_4 cX_2_5 cX_2_6 cKx_2_0 cKx_2_1 cKx_2_2 cKx_2_3 cKx_2_4 cKx_2_5 cKx_2_6 cKy_2_0 cKy_2_1 cKy_2_2 cKy_2_3 cKy_2_4 cKy_2_5 cKy_2_6
  go_wp2_with fail
  go_end0
  exact D.out

set_option maxHeartbeats 3200000 in
set_option maxRecDepth 100000 in
theorem stmt24 (o : Int) (n : Int) (s : ByteArray) (a1 : Option Addr) (c1 q1 : Nat) (t off q2 : Nat) (p : Int)  (x : Nd) (hxx : ExprW x) (xa1 : Option Addr) (xq1 : Nat) (xa2 : Option Addr) (xq2 : Nat) (y : Nd) (hxy : ExprW y) (ya1 : Option Addr) (yq1 : Nat) (ya2 : Option Addr) (yq2 : Nat) (z : Nd) (hxz : ExprW z) (za1 : Option Addr) (zq1 : Nat) (za2 : Option Addr) (zq2 : Nat) (B b : Nat) (l : List UInt8) (w : World) (W : Hid (Wr B b l w)) (O : Hid (Ok B w)) (htB : t < B) (Kx : Hid (NodeAt t (off) x.kind x.op x.num x.str (.slice xa1 x.names.length xq1) (.slice xa2 x.kids.length xq2) x.pl w)) (Fx : Hid (Fit B x (.slice xa1 x.names.length xq1) (.slice xa2 x.kids.length xq2) 1 w)) (Ky : Hid (NodeAt t (off + 7) y.kind y.op y.num y.str (.slice ya1 y.names.length yq1) (.slice ya2 y.kids.length yq2) y.pl w)) (Fy : Hid (Fit B y (.slice ya1 y.names.length yq1) (.slice ya2 y.kids.length yq2) 1 w)) (Kz : Hid (NodeAt t (off + 14) z.kind z.op z.num z.str (.slice za1 z.names.length zq1) (.slice za2 z.kids.length zq2) z.pl w)) (Fz : Hid (Fit B z (.slice za1 z.names.length zq1) (.slice za2 z.kids.length zq2) 1 w)) (hl : l.length + ((indexT (textN x) (textN y) ++ becomesT (textN z)) ++ [59]).length ≤ 100000000) :
    Calls Tryd.prog 36 #[.pointer (some ⟨b, 0, none⟩), .agg #[.int .i64 24, .int .i64 o, .int .i64 n, .string s, .slice a1 c1 q1, .slice (some ⟨t, off, none⟩) 3 q2, .int .i64 p]] w (Done B b l ((indexT (textN x) (textN y) ++ becomesT (textN z)) ++ [59]) w) := by
  have hlt := wr_lt W.out
  have hal := box1_below w (.cells #[.int .i64 24, .int .i64 o, .int .i64 n, .string s, .slice a1 c1 q1, .slice (some ⟨t, off, none⟩) 3 q2, .int .i64 p] 25)
  have N0 := hid (show Near B b w _ from Near.ofBelow hal O.out.1)
  have W0 := hid (wr_below W.out hal)
  have O0 := hid (ok_on O.out N0.out.below)
  have X0 := hid (box_new w 24 o n s (.slice a1 c1 q1) (.slice (some ⟨t, off, none⟩) 3 q2) p)
  have htw : t < w.heap.size := Nat.lt_of_lt_of_le htB O.out.1
  have Fx0 := hid (fit_near Fx.out N0.out)
  have HXx := hid hxx
  have Kx0 := hid (nodeAt_on Kx.out htB N0.out.below)
  have Fy0 := hid (fit_near Fy.out N0.out)
  have HXy := hid hxy
  have Ky0 := hid (nodeAt_on Ky.out htB N0.out.below)
  have Fz0 := hid (fit_near Fz.out N0.out)
  have HXz := hid hxz
  have Kz0 := hid (nodeAt_on Kz.out htB N0.out.below)
  simp only [List.length_append, List.length_cons, List.length_nil] at hl
  clear hal W O Fx hxx Kx Fy hxy Ky Fz hxz Kz
  obtain ⟨cKx_0_0, cKx_0_1, cKx_0_2, cKx_0_3, cKx_0_4, cKx_0_5, cKx_0_6⟩ := Kx0.out
  obtain ⟨cKy_0_0, cKy_0_1, cKy_0_2, cKy_0_3, cKy_0_4, cKy_0_5, cKy_0_6⟩ := Ky0.out
  obtain ⟨cKz_0_0, cKz_0_1, cKz_0_2, cKz_0_3, cKz_0_4, cKz_0_5, cKz_0_6⟩ := Kz0.out
  go_enter Tryd.func36, Tryd.ntmps36
  go_wp2_with fail
  refine (full_calls W0 (by omega)).mono ?_
  rintro e wf ⟨rfl, rfl⟩
  by_cases hfull : 2000 < l.length
  · rw [decide_eq_true hfull]
    have D := hid (done_mk W0.out (Wrote.none hfull ((indexT (textN x) (textN y) ++ becomesT (textN z)) ++ [59])) rfl N0.out)
    clear W0 N0 O0 X0 Fx0 Kx0 Fy0 Ky0 Fz0 Kz0 cKx_0_0 cKx_0_1 cKx_0_2 cKx_0_3 cKx_0_4 cKx_0_5 cKx_0_6 cKy_0_0 cKy_0_1 cKy_0_2 cKy_0_3 cKy_0_4 cKy_0_5 cKy_0_6 cKz_0_0 cKz_0_1 cKz_0_2 cKz_0_3 cKz_0_4 cKz_0_5 cKz_0_6
    go_wp2_with fail
    go_end0
    exact D.out
  rw [decide_eq_false hfull]
  clear hfull
  have hlz : l.length + (indexT (textN x) (textN y) ++ becomesT (textN z)).length ≤ 100000000 := by simp only [List.length_append]; omega
  go_wp2_with fail
  refine (short24 o n s a1 c1 q1 t off q2 p x HXx.out _ _ _ _ y HXy.out _ _ _ _ z HXz.out _ _ _ _ B b _ _ W0 O0 htB Kx0 Fx0 Ky0 Fy0 Kz0 Fz0 hlz).mono ?_
  rintro e w1 ⟨rfl, l1, hW, hw, nn⟩
  have N1 := hid (N0.out.trans nn)
  have W1 := hid hW
  have O1 := hid (ok_on O0.out nn.below)
  have X1 := hid (box_near X0.out (by omega) nn)
  have Fx1 := hid (fit_near Fx0.out nn)
  have Kx1 := hid (nodeAt_on Kx0.out htB nn.below)
  have Fy1 := hid (fit_near Fy0.out nn)
  have Ky1 := hid (nodeAt_on Ky0.out htB nn.below)
  have Fz1 := hid (fit_near Fz0.out nn)
  have Kz1 := hid (nodeAt_on Kz0.out htB nn.below)
  clear W0 N0 O0 X0 Fx0 Kx0 Fy0 Ky0 Fz0 Kz0 nn hW cKx_0_0 cKx_0_1 cKx_0_2 cKx_0_3 cKx_0_4 cKx_0_5 cKx_0_6 cKy_0_0 cKy_0_1 cKy_0_2 cKy_0_3 cKy_0_4 cKy_0_5 cKy_0_6 cKz_0_0 cKz_0_1 cKz_0_2 cKz_0_3 cKz_0_4 cKz_0_5 cKz_0_6
  obtain ⟨cX_1_0, cX_1_1, cX_1_2, cX_1_3, cX_1_4, cX_1_5, cX_1_6⟩ := box_cells X1.out
  obtain ⟨cKx_1_0, cKx_1_1, cKx_1_2, cKx_1_3, cKx_1_4, cKx_1_5, cKx_1_6⟩ := Kx1.out
  obtain ⟨cKy_1_0, cKy_1_1, cKy_1_2, cKy_1_3, cKy_1_4, cKy_1_5, cKy_1_6⟩ := Ky1.out
  obtain ⟨cKz_1_0, cKz_1_1, cKz_1_2, cKz_1_3, cKz_1_4, cKz_1_5, cKz_1_6⟩ := Kz1.out
  have hlen1 := wrote_le hw
  have R1 := hid hw
  clear hw
  simp only [List.length_append] at hlen1
  go_wp2_with fail
  refine (wbyte_done 59 _ rfl W1 (by omega)).mono ?_
  rintro e w2 ⟨rfl, l2, hW, hw, nn, ne2⟩
  have N2 := hid (N1.out.trans nn)
  have W2 := hid hW
  have O2 := hid (ok_on O1.out nn.below)
  have X2 := hid (box_near X1.out (by omega) nn)
  have Fx2 := hid (fit_near Fx1.out nn)
  have Kx2 := hid (nodeAt_on Kx1.out htB nn.below)
  have Fy2 := hid (fit_near Fy1.out nn)
  have Ky2 := hid (nodeAt_on Ky1.out htB nn.below)
  have Fz2 := hid (fit_near Fz1.out nn)
  have Kz2 := hid (nodeAt_on Kz1.out htB nn.below)
  clear W1 N1 O1 X1 Fx1 Kx1 Fy1 Ky1 Fz1 Kz1 nn hW cX_1_0 cX_1_1 cX_1_2 cX_1_3 cX_1_4 cX_1_5 cX_1_6 cKx_1_0 cKx_1_1 cKx_1_2 cKx_1_3 cKx_1_4 cKx_1_5 cKx_1_6 cKy_1_0 cKy_1_1 cKy_1_2 cKy_1_3 cKy_1_4 cKy_1_5 cKy_1_6 cKz_1_0 cKz_1_1 cKz_1_2 cKz_1_3 cKz_1_4 cKz_1_5 cKz_1_6
  obtain ⟨cX_2_0, cX_2_1, cX_2_2, cX_2_3, cX_2_4, cX_2_5, cX_2_6⟩ := box_cells X2.out
  obtain ⟨cKx_2_0, cKx_2_1, cKx_2_2, cKx_2_3, cKx_2_4, cKx_2_5, cKx_2_6⟩ := Kx2.out
  obtain ⟨cKy_2_0, cKy_2_1, cKy_2_2, cKy_2_3, cKy_2_4, cKy_2_5, cKy_2_6⟩ := Ky2.out
  obtain ⟨cKz_2_0, cKz_2_1, cKz_2_2, cKz_2_3, cKz_2_4, cKz_2_5, cKz_2_6⟩ := Kz2.out
  have hlen2 := wrote_le hw
  simp only [List.length_cons, List.length_nil] at hlen2
  have R2 := hid (R1.out.trans hw)
  clear hw R1
  have D := hid (done_mk W2.out R2.out (show ((indexT (textN x) (textN y) ++ becomesT (textN z)) ++ [59]) = (indexT (textN x) (textN y) ++ becomesT (textN z)) ++ [59] by first | rfl | simp only [List.append_assoc, List.cons_append, List.nil_append]) N2.out)
  clear W2 N2 O2 R2 X2 Fx2 Kx2 Fy2 Ky2 Fz2 Kz2 cX_2_0 cX_2_1 cX_2_2 cX_2_3 cX_2_4 cX_2_5 cX_2_6 cKx_2_0 cKx_2_1 cKx_2_2 cKx_2_3 cKx_2_4 cKx_2_5 cKx_2_6 cKy_2_0 cKy_2_1 cKy_2_2 cKy_2_3 cKy_2_4 cKy_2_5 cKy_2_6 cKz_2_0 cKz_2_1 cKz_2_2 cKz_2_3 cKz_2_4 cKz_2_5 cKz_2_6
  go_wp2_with fail
  go_end0
  exact D.out

set_option maxHeartbeats 3200000 in
set_option maxRecDepth 100000 in
theorem stmt25 (o : Int) (n : Int) (s : ByteArray) (a1 : Option Addr) (c1 q1 : Nat) (t off q2 : Nat) (p : Int) (hs0 : s.data.toList ≠ []) (hs : s.size ≤ 1000000) (x : Nd) (hxx : ExprW x) (xa1 : Option Addr) (xq1 : Nat) (xa2 : Option Addr) (xq2 : Nat) (B b : Nat) (l : List UInt8) (w : World) (W : Hid (Wr B b l w)) (O : Hid (Ok B w)) (htB : t < B) (Kx : Hid (NodeAt t (off) x.kind x.op x.num x.str (.slice xa1 x.names.length xq1) (.slice xa2 x.kids.length xq2) x.pl w)) (Fx : Hid (Fit B x (.slice xa1 x.names.length xq1) (.slice xa2 x.kids.length xq2) 1 w)) (hl : l.length + (([100, 101, 108, 101, 116, 101, 32] ++ getT (textN x) s) ++ [59]).length ≤ 100000000) :
    Calls Tryd.prog 36 #[.pointer (some ⟨b, 0, none⟩), .agg #[.int .i64 25, .int .i64 o, .int .i64 n, .string s, .slice a1 c1 q1, .slice (some ⟨t, off, none⟩) 1 q2, .int .i64 p]] w (Done B b l (([100, 101, 108, 101, 116, 101, 32] ++ getT (textN x) s) ++ [59]) w) := by
  have hlt := wr_lt W.out
  have hal := box1_below w (.cells #[.int .i64 25, .int .i64 o, .int .i64 n, .string s, .slice a1 c1 q1, .slice (some ⟨t, off, none⟩) 1 q2, .int .i64 p] 25)
  have N0 := hid (show Near B b w _ from Near.ofBelow hal O.out.1)
  have W0 := hid (wr_below W.out hal)
  have O0 := hid (ok_on O.out N0.out.below)
  have X0 := hid (box_new w 25 o n s (.slice a1 c1 q1) (.slice (some ⟨t, off, none⟩) 1 q2) p)
  have htw : t < w.heap.size := Nat.lt_of_lt_of_le htB O.out.1
  have Fx0 := hid (fit_near Fx.out N0.out)
  have HXx := hid hxx
  have Kx0 := hid (nodeAt_on Kx.out htB N0.out.below)
  simp only [List.length_append, List.length_cons, List.length_nil] at hl
  clear hal W O Fx hxx Kx
  obtain ⟨cKx_0_0, cKx_0_1, cKx_0_2, cKx_0_3, cKx_0_4, cKx_0_5, cKx_0_6⟩ := Kx0.out
  go_enter Tryd.func36, Tryd.ntmps36
  go_wp2_with fail
  refine (full_calls W0 (by omega)).mono ?_
  rintro e wf ⟨rfl, rfl⟩
  by_cases hfull : 2000 < l.length
  · rw [decide_eq_true hfull]
    have D := hid (done_mk W0.out (Wrote.none hfull (([100, 101, 108, 101, 116, 101, 32] ++ getT (textN x) s) ++ [59])) rfl N0.out)
    clear W0 N0 O0 X0 Fx0 Kx0 cKx_0_0 cKx_0_1 cKx_0_2 cKx_0_3 cKx_0_4 cKx_0_5 cKx_0_6
    go_wp2_with fail
    go_end0
    exact D.out
  rw [decide_eq_false hfull]
  clear hfull
  have hlz : l.length + ([100, 101, 108, 101, 116, 101, 32] ++ getT (textN x) s).length ≤ 100000000 := by simp only [List.length_append, List.length_cons, List.length_nil]; omega
  go_wp2_with fail
  refine (short25 o n s a1 c1 q1 t off q2 p hs0 hs x HXx.out _ _ _ _ B b _ _ W0 O0 htB Kx0 Fx0 hlz).mono ?_
  rintro e w1 ⟨rfl, l1, hW, hw, nn⟩
  have N1 := hid (N0.out.trans nn)
  have W1 := hid hW
  have O1 := hid (ok_on O0.out nn.below)
  have X1 := hid (box_near X0.out (by omega) nn)
  have Fx1 := hid (fit_near Fx0.out nn)
  have Kx1 := hid (nodeAt_on Kx0.out htB nn.below)
  clear W0 N0 O0 X0 Fx0 Kx0 nn hW cKx_0_0 cKx_0_1 cKx_0_2 cKx_0_3 cKx_0_4 cKx_0_5 cKx_0_6
  obtain ⟨cX_1_0, cX_1_1, cX_1_2, cX_1_3, cX_1_4, cX_1_5, cX_1_6⟩ := box_cells X1.out
  obtain ⟨cKx_1_0, cKx_1_1, cKx_1_2, cKx_1_3, cKx_1_4, cKx_1_5, cKx_1_6⟩ := Kx1.out
  have hlen1 := wrote_le hw
  have R1 := hid hw
  clear hw
  simp only [List.length_append, List.length_cons, List.length_nil] at hlen1
  go_wp2_with fail
  refine (wbyte_done 59 _ rfl W1 (by omega)).mono ?_
  rintro e w2 ⟨rfl, l2, hW, hw, nn, ne2⟩
  have N2 := hid (N1.out.trans nn)
  have W2 := hid hW
  have O2 := hid (ok_on O1.out nn.below)
  have X2 := hid (box_near X1.out (by omega) nn)
  have Fx2 := hid (fit_near Fx1.out nn)
  have Kx2 := hid (nodeAt_on Kx1.out htB nn.below)
  clear W1 N1 O1 X1 Fx1 Kx1 nn hW cX_1_0 cX_1_1 cX_1_2 cX_1_3 cX_1_4 cX_1_5 cX_1_6 cKx_1_0 cKx_1_1 cKx_1_2 cKx_1_3 cKx_1_4 cKx_1_5 cKx_1_6
  obtain ⟨cX_2_0, cX_2_1, cX_2_2, cX_2_3, cX_2_4, cX_2_5, cX_2_6⟩ := box_cells X2.out
  obtain ⟨cKx_2_0, cKx_2_1, cKx_2_2, cKx_2_3, cKx_2_4, cKx_2_5, cKx_2_6⟩ := Kx2.out
  have hlen2 := wrote_le hw
  simp only [List.length_cons, List.length_nil] at hlen2
  have R2 := hid (R1.out.trans hw)
  clear hw R1
  have D := hid (done_mk W2.out R2.out (show (([100, 101, 108, 101, 116, 101, 32] ++ getT (textN x) s) ++ [59]) = ([100, 101, 108, 101, 116, 101, 32] ++ getT (textN x) s) ++ [59] by first | rfl | simp only [List.append_assoc, List.cons_append, List.nil_append]) N2.out)
  clear W2 N2 O2 R2 X2 Fx2 Kx2 cX_2_0 cX_2_1 cX_2_2 cX_2_3 cX_2_4 cX_2_5 cX_2_6 cKx_2_0 cKx_2_1 cKx_2_2 cKx_2_3 cKx_2_4 cKx_2_5 cKx_2_6
  go_wp2_with fail
  go_end0
  exact D.out

set_option maxHeartbeats 3200000 in
set_option maxRecDepth 100000 in
theorem stmt26 (o : Int) (n : Int) (s : ByteArray) (a1 : Option Addr) (c1 q1 : Nat) (t off q2 : Nat) (p : Int)  (x : Nd) (hxx : ExprW x) (xa1 : Option Addr) (xq1 : Nat) (xa2 : Option Addr) (xq2 : Nat) (y : Nd) (hxy : ExprW y) (ya1 : Option Addr) (yq1 : Nat) (ya2 : Option Addr) (yq2 : Nat) (B b : Nat) (l : List UInt8) (w : World) (W : Hid (Wr B b l w)) (O : Hid (Ok B w)) (htB : t < B) (Kx : Hid (NodeAt t (off) x.kind x.op x.num x.str (.slice xa1 x.names.length xq1) (.slice xa2 x.kids.length xq2) x.pl w)) (Fx : Hid (Fit B x (.slice xa1 x.names.length xq1) (.slice xa2 x.kids.length xq2) 1 w)) (Ky : Hid (NodeAt t (off + 7) y.kind y.op y.num y.str (.slice ya1 y.names.length yq1) (.slice ya2 y.kids.length yq2) y.pl w)) (Fy : Hid (Fit B y (.slice ya1 y.names.length yq1) (.slice ya2 y.kids.length yq2) 1 w)) (hl : l.length + (([100, 101, 108, 101, 116, 101, 32] ++ indexT (textN x) (textN y)) ++ [59]).length ≤ 100000000) :
    Calls Tryd.prog 36 #[.pointer (some ⟨b, 0, none⟩), .agg #[.int .i64 26, .int .i64 o, .int .i64 n, .string s, .slice a1 c1 q1, .slice (some ⟨t, off, none⟩) 2 q2, .int .i64 p]] w (Done B b l (([100, 101, 108, 101, 116, 101, 32] ++ indexT (textN x) (textN y)) ++ [59]) w) := by
  have hlt := wr_lt W.out
  have hal := box1_below w (.cells #[.int .i64 26, .int .i64 o, .int .i64 n, .string s, .slice a1 c1 q1, .slice (some ⟨t, off, none⟩) 2 q2, .int .i64 p] 25)
  have N0 := hid (show Near B b w _ from Near.ofBelow hal O.out.1)
  have W0 := hid (wr_below W.out hal)
  have O0 := hid (ok_on O.out N0.out.below)
  have X0 := hid (box_new w 26 o n s (.slice a1 c1 q1) (.slice (some ⟨t, off, none⟩) 2 q2) p)
  have htw : t < w.heap.size := Nat.lt_of_lt_of_le htB O.out.1
  have Fx0 := hid (fit_near Fx.out N0.out)
  have HXx := hid hxx
  have Kx0 := hid (nodeAt_on Kx.out htB N0.out.below)
  have Fy0 := hid (fit_near Fy.out N0.out)
  have HXy := hid hxy
  have Ky0 := hid (nodeAt_on Ky.out htB N0.out.below)
  simp only [List.length_append, List.length_cons, List.length_nil] at hl
  clear hal W O Fx hxx Kx Fy hxy Ky
  obtain ⟨cKx_0_0, cKx_0_1, cKx_0_2, cKx_0_3, cKx_0_4, cKx_0_5, cKx_0_6⟩ := Kx0.out
  obtain ⟨cKy_0_0, cKy_0_1, cKy_0_2, cKy_0_3, cKy_0_4, cKy_0_5, cKy_0_6⟩ := Ky0.out
  go_enter Tryd.func36, Tryd.ntmps36
  go_wp2_with fail
  refine (full_calls W0 (by omega)).mono ?_
  rintro e wf ⟨rfl, rfl⟩
  by_cases hfull : 2000 < l.length
  · rw [decide_eq_true hfull]
    have D := hid (done_mk W0.out (Wrote.none hfull (([100, 101, 108, 101, 116, 101, 32] ++ indexT (textN x) (textN y)) ++ [59])) rfl N0.out)
    clear W0 N0 O0 X0 Fx0 Kx0 Fy0 Ky0 cKx_0_0 cKx_0_1 cKx_0_2 cKx_0_3 cKx_0_4 cKx_0_5 cKx_0_6 cKy_0_0 cKy_0_1 cKy_0_2 cKy_0_3 cKy_0_4 cKy_0_5 cKy_0_6
    go_wp2_with fail
    go_end0
    exact D.out
  rw [decide_eq_false hfull]
  clear hfull
  have hlz : l.length + ([100, 101, 108, 101, 116, 101, 32] ++ indexT (textN x) (textN y)).length ≤ 100000000 := by simp only [List.length_append, List.length_cons, List.length_nil]; omega
  go_wp2_with fail
  refine (short26 o n s a1 c1 q1 t off q2 p x HXx.out _ _ _ _ y HXy.out _ _ _ _ B b _ _ W0 O0 htB Kx0 Fx0 Ky0 Fy0 hlz).mono ?_
  rintro e w1 ⟨rfl, l1, hW, hw, nn⟩
  have N1 := hid (N0.out.trans nn)
  have W1 := hid hW
  have O1 := hid (ok_on O0.out nn.below)
  have X1 := hid (box_near X0.out (by omega) nn)
  have Fx1 := hid (fit_near Fx0.out nn)
  have Kx1 := hid (nodeAt_on Kx0.out htB nn.below)
  have Fy1 := hid (fit_near Fy0.out nn)
  have Ky1 := hid (nodeAt_on Ky0.out htB nn.below)
  clear W0 N0 O0 X0 Fx0 Kx0 Fy0 Ky0 nn hW cKx_0_0 cKx_0_1 cKx_0_2 cKx_0_3 cKx_0_4 cKx_0_5 cKx_0_6 cKy_0_0 cKy_0_1 cKy_0_2 cKy_0_3 cKy_0_4 cKy_0_5 cKy_0_6
  obtain ⟨cX_1_0, cX_1_1, cX_1_2, cX_1_3, cX_1_4, cX_1_5, cX_1_6⟩ := box_cells X1.out
  obtain ⟨cKx_1_0, cKx_1_1, cKx_1_2, cKx_1_3, cKx_1_4, cKx_1_5, cKx_1_6⟩ := Kx1.out
  obtain ⟨cKy_1_0, cKy_1_1, cKy_1_2, cKy_1_3, cKy_1_4, cKy_1_5, cKy_1_6⟩ := Ky1.out
  have hlen1 := wrote_le hw
  have R1 := hid hw
  clear hw
  simp only [List.length_append, List.length_cons, List.length_nil] at hlen1
  go_wp2_with fail
  refine (wbyte_done 59 _ rfl W1 (by omega)).mono ?_
  rintro e w2 ⟨rfl, l2, hW, hw, nn, ne2⟩
  have N2 := hid (N1.out.trans nn)
  have W2 := hid hW
  have O2 := hid (ok_on O1.out nn.below)
  have X2 := hid (box_near X1.out (by omega) nn)
  have Fx2 := hid (fit_near Fx1.out nn)
  have Kx2 := hid (nodeAt_on Kx1.out htB nn.below)
  have Fy2 := hid (fit_near Fy1.out nn)
  have Ky2 := hid (nodeAt_on Ky1.out htB nn.below)
  clear W1 N1 O1 X1 Fx1 Kx1 Fy1 Ky1 nn hW cX_1_0 cX_1_1 cX_1_2 cX_1_3 cX_1_4 cX_1_5 cX_1_6 cKx_1_0 cKx_1_1 cKx_1_2 cKx_1_3 cKx_1_4 cKx_1_5 cKx_1_6 cKy_1_0 cKy_1_1 cKy_1_2 cKy_1_3 cKy_1_4 cKy_1_5 cKy_1_6
  obtain ⟨cX_2_0, cX_2_1, cX_2_2, cX_2_3, cX_2_4, cX_2_5, cX_2_6⟩ := box_cells X2.out
  obtain ⟨cKx_2_0, cKx_2_1, cKx_2_2, cKx_2_3, cKx_2_4, cKx_2_5, cKx_2_6⟩ := Kx2.out
  obtain ⟨cKy_2_0, cKy_2_1, cKy_2_2, cKy_2_3, cKy_2_4, cKy_2_5, cKy_2_6⟩ := Ky2.out
  have hlen2 := wrote_le hw
  simp only [List.length_cons, List.length_nil] at hlen2
  have R2 := hid (R1.out.trans hw)
  clear hw R1
  have D := hid (done_mk W2.out R2.out (show (([100, 101, 108, 101, 116, 101, 32] ++ indexT (textN x) (textN y)) ++ [59]) = ([100, 101, 108, 101, 116, 101, 32] ++ indexT (textN x) (textN y)) ++ [59] by first | rfl | simp only [List.append_assoc, List.cons_append, List.nil_append]) N2.out)
  clear W2 N2 O2 R2 X2 Fx2 Kx2 Fy2 Ky2 cX_2_0 cX_2_1 cX_2_2 cX_2_3 cX_2_4 cX_2_5 cX_2_6 cKx_2_0 cKx_2_1 cKx_2_2 cKx_2_3 cKx_2_4 cKx_2_5 cKx_2_6 cKy_2_0 cKy_2_1 cKy_2_2 cKy_2_3 cKy_2_4 cKy_2_5 cKy_2_6
  go_wp2_with fail
  go_end0
  exact D.out

set_option maxHeartbeats 3200000 in
set_option maxRecDepth 100000 in
theorem stmt27 (o : Int) (n : Int) (s : ByteArray) (a1 : Option Addr) (c1 q1 : Nat) (t off q2 : Nat) (p : Int)  (x : Nd) (hxx : ExprW x) (xa1 : Option Addr) (xq1 : Nat) (xa2 : Option Addr) (xq2 : Nat) (B b : Nat) (l : List UInt8) (w : World) (W : Hid (Wr B b l w)) (O : Hid (Ok B w)) (htB : t < B) (Kx : Hid (NodeAt t (off) x.kind x.op x.num x.str (.slice xa1 x.names.length xq1) (.slice xa2 x.kids.length xq2) x.pl w)) (Fx : Hid (Fit B x (.slice xa1 x.names.length xq1) (.slice xa2 x.kids.length xq2) 1 w)) (hl : l.length + (([112, 114, 105, 110, 116, 32] ++ (textN x).e) ++ [59]).length ≤ 100000000) :
    Calls Tryd.prog 36 #[.pointer (some ⟨b, 0, none⟩), .agg #[.int .i64 27, .int .i64 o, .int .i64 n, .string s, .slice a1 c1 q1, .slice (some ⟨t, off, none⟩) 1 q2, .int .i64 p]] w (Done B b l (([112, 114, 105, 110, 116, 32] ++ (textN x).e) ++ [59]) w) := by
  have hlt := wr_lt W.out
  have hal := box1_below w (.cells #[.int .i64 27, .int .i64 o, .int .i64 n, .string s, .slice a1 c1 q1, .slice (some ⟨t, off, none⟩) 1 q2, .int .i64 p] 25)
  have N0 := hid (show Near B b w _ from Near.ofBelow hal O.out.1)
  have W0 := hid (wr_below W.out hal)
  have O0 := hid (ok_on O.out N0.out.below)
  have X0 := hid (box_new w 27 o n s (.slice a1 c1 q1) (.slice (some ⟨t, off, none⟩) 1 q2) p)
  have htw : t < w.heap.size := Nat.lt_of_lt_of_le htB O.out.1
  have Fx0 := hid (fit_near Fx.out N0.out)
  have HXx := hid hxx
  have Kx0 := hid (nodeAt_on Kx.out htB N0.out.below)
  simp only [List.length_append, List.length_cons, List.length_nil] at hl
  clear hal W O Fx hxx Kx
  obtain ⟨cKx_0_0, cKx_0_1, cKx_0_2, cKx_0_3, cKx_0_4, cKx_0_5, cKx_0_6⟩ := Kx0.out
  go_enter Tryd.func36, Tryd.ntmps36
  go_wp2_with fail
  refine (full_calls W0 (by omega)).mono ?_
  rintro e wf ⟨rfl, rfl⟩
  by_cases hfull : 2000 < l.length
  · rw [decide_eq_true hfull]
    have D := hid (done_mk W0.out (Wrote.none hfull (([112, 114, 105, 110, 116, 32] ++ (textN x).e) ++ [59])) rfl N0.out)
    clear W0 N0 O0 X0 Fx0 Kx0 cKx_0_0 cKx_0_1 cKx_0_2 cKx_0_3 cKx_0_4 cKx_0_5 cKx_0_6
    go_wp2_with fail
    go_end0
    exact D.out
  rw [decide_eq_false hfull]
  clear hfull
  have hlz : l.length + ([112, 114, 105, 110, 116, 32] ++ (textN x).e).length ≤ 100000000 := by simp only [List.length_append, List.length_cons, List.length_nil]; omega
  go_wp2_with fail
  refine (short27 o n s a1 c1 q1 t off q2 p x HXx.out _ _ _ _ B b _ _ W0 O0 htB Kx0 Fx0 hlz).mono ?_
  rintro e w1 ⟨rfl, l1, hW, hw, nn⟩
  have N1 := hid (N0.out.trans nn)
  have W1 := hid hW
  have O1 := hid (ok_on O0.out nn.below)
  have X1 := hid (box_near X0.out (by omega) nn)
  have Fx1 := hid (fit_near Fx0.out nn)
  have Kx1 := hid (nodeAt_on Kx0.out htB nn.below)
  clear W0 N0 O0 X0 Fx0 Kx0 nn hW cKx_0_0 cKx_0_1 cKx_0_2 cKx_0_3 cKx_0_4 cKx_0_5 cKx_0_6
  obtain ⟨cX_1_0, cX_1_1, cX_1_2, cX_1_3, cX_1_4, cX_1_5, cX_1_6⟩ := box_cells X1.out
  obtain ⟨cKx_1_0, cKx_1_1, cKx_1_2, cKx_1_3, cKx_1_4, cKx_1_5, cKx_1_6⟩ := Kx1.out
  have hlen1 := wrote_le hw
  have R1 := hid hw
  clear hw
  simp only [List.length_append, List.length_cons, List.length_nil] at hlen1
  go_wp2_with fail
  refine (wbyte_done 59 _ rfl W1 (by omega)).mono ?_
  rintro e w2 ⟨rfl, l2, hW, hw, nn, ne2⟩
  have N2 := hid (N1.out.trans nn)
  have W2 := hid hW
  have O2 := hid (ok_on O1.out nn.below)
  have X2 := hid (box_near X1.out (by omega) nn)
  have Fx2 := hid (fit_near Fx1.out nn)
  have Kx2 := hid (nodeAt_on Kx1.out htB nn.below)
  clear W1 N1 O1 X1 Fx1 Kx1 nn hW cX_1_0 cX_1_1 cX_1_2 cX_1_3 cX_1_4 cX_1_5 cX_1_6 cKx_1_0 cKx_1_1 cKx_1_2 cKx_1_3 cKx_1_4 cKx_1_5 cKx_1_6
  obtain ⟨cX_2_0, cX_2_1, cX_2_2, cX_2_3, cX_2_4, cX_2_5, cX_2_6⟩ := box_cells X2.out
  obtain ⟨cKx_2_0, cKx_2_1, cKx_2_2, cKx_2_3, cKx_2_4, cKx_2_5, cKx_2_6⟩ := Kx2.out
  have hlen2 := wrote_le hw
  simp only [List.length_cons, List.length_nil] at hlen2
  have R2 := hid (R1.out.trans hw)
  clear hw R1
  have D := hid (done_mk W2.out R2.out (show (([112, 114, 105, 110, 116, 32] ++ (textN x).e) ++ [59]) = ([112, 114, 105, 110, 116, 32] ++ (textN x).e) ++ [59] by first | rfl | simp only [List.append_assoc, List.cons_append, List.nil_append]) N2.out)
  clear W2 N2 O2 R2 X2 Fx2 Kx2 cX_2_0 cX_2_1 cX_2_2 cX_2_3 cX_2_4 cX_2_5 cX_2_6 cKx_2_0 cKx_2_1 cKx_2_2 cKx_2_3 cKx_2_4 cKx_2_5 cKx_2_6
  go_wp2_with fail
  go_end0
  exact D.out

set_option maxHeartbeats 3200000 in
set_option maxRecDepth 100000 in
theorem stmt31 (o : Int) (n : Int) (s : ByteArray) (a1 : Option Addr) (c1 q1 : Nat) (t off q2 : Nat) (p : Int)  (x : Nd) (hxx : ExprW x) (xa1 : Option Addr) (xq1 : Nat) (xa2 : Option Addr) (xq2 : Nat) (B b : Nat) (l : List UInt8) (w : World) (W : Hid (Wr B b l w)) (O : Hid (Ok B w)) (htB : t < B) (Kx : Hid (NodeAt t (off) x.kind x.op x.num x.str (.slice xa1 x.names.length xq1) (.slice xa2 x.kids.length xq2) x.pl w)) (Fx : Hid (Fit B x (.slice xa1 x.names.length xq1) (.slice xa2 x.kids.length xq2) 1 w)) (hl : l.length + (([114, 101, 116, 117, 114, 110, 32] ++ (textN x).e) ++ [59]).length ≤ 100000000) :
    Calls Tryd.prog 36 #[.pointer (some ⟨b, 0, none⟩), .agg #[.int .i64 31, .int .i64 o, .int .i64 n, .string s, .slice a1 c1 q1, .slice (some ⟨t, off, none⟩) 1 q2, .int .i64 p]] w (Done B b l (([114, 101, 116, 117, 114, 110, 32] ++ (textN x).e) ++ [59]) w) := by
  have hlt := wr_lt W.out
  have hal := box1_below w (.cells #[.int .i64 31, .int .i64 o, .int .i64 n, .string s, .slice a1 c1 q1, .slice (some ⟨t, off, none⟩) 1 q2, .int .i64 p] 25)
  have N0 := hid (show Near B b w _ from Near.ofBelow hal O.out.1)
  have W0 := hid (wr_below W.out hal)
  have O0 := hid (ok_on O.out N0.out.below)
  have X0 := hid (box_new w 31 o n s (.slice a1 c1 q1) (.slice (some ⟨t, off, none⟩) 1 q2) p)
  have htw : t < w.heap.size := Nat.lt_of_lt_of_le htB O.out.1
  have Fx0 := hid (fit_near Fx.out N0.out)
  have HXx := hid hxx
  have Kx0 := hid (nodeAt_on Kx.out htB N0.out.below)
  simp only [List.length_append, List.length_cons, List.length_nil] at hl
  clear hal W O Fx hxx Kx
  obtain ⟨cKx_0_0, cKx_0_1, cKx_0_2, cKx_0_3, cKx_0_4, cKx_0_5, cKx_0_6⟩ := Kx0.out
  go_enter Tryd.func36, Tryd.ntmps36
  go_wp2_with fail
  refine (full_calls W0 (by omega)).mono ?_
  rintro e wf ⟨rfl, rfl⟩
  by_cases hfull : 2000 < l.length
  · rw [decide_eq_true hfull]
    have D := hid (done_mk W0.out (Wrote.none hfull (([114, 101, 116, 117, 114, 110, 32] ++ (textN x).e) ++ [59])) rfl N0.out)
    clear W0 N0 O0 X0 Fx0 Kx0 cKx_0_0 cKx_0_1 cKx_0_2 cKx_0_3 cKx_0_4 cKx_0_5 cKx_0_6
    go_wp2_with fail
    go_end0
    exact D.out
  rw [decide_eq_false hfull]
  clear hfull
  have hlz : l.length + ([114, 101, 116, 117, 114, 110, 32] ++ (textN x).e).length ≤ 100000000 := by simp only [List.length_append, List.length_cons, List.length_nil]; omega
  go_wp2_with fail
  refine (short31 o n s a1 c1 q1 t off q2 p x HXx.out _ _ _ _ B b _ _ W0 O0 htB Kx0 Fx0 hlz).mono ?_
  rintro e w1 ⟨rfl, l1, hW, hw, nn⟩
  have N1 := hid (N0.out.trans nn)
  have W1 := hid hW
  have O1 := hid (ok_on O0.out nn.below)
  have X1 := hid (box_near X0.out (by omega) nn)
  have Fx1 := hid (fit_near Fx0.out nn)
  have Kx1 := hid (nodeAt_on Kx0.out htB nn.below)
  clear W0 N0 O0 X0 Fx0 Kx0 nn hW cKx_0_0 cKx_0_1 cKx_0_2 cKx_0_3 cKx_0_4 cKx_0_5 cKx_0_6
  obtain ⟨cX_1_0, cX_1_1, cX_1_2, cX_1_3, cX_1_4, cX_1_5, cX_1_6⟩ := box_cells X1.out
  obtain ⟨cKx_1_0, cKx_1_1, cKx_1_2, cKx_1_3, cKx_1_4, cKx_1_5, cKx_1_6⟩ := Kx1.out
  have hlen1 := wrote_le hw
  have R1 := hid hw
  clear hw
  simp only [List.length_append, List.length_cons, List.length_nil] at hlen1
  go_wp2_with fail
  refine (wbyte_done 59 _ rfl W1 (by omega)).mono ?_
  rintro e w2 ⟨rfl, l2, hW, hw, nn, ne2⟩
  have N2 := hid (N1.out.trans nn)
  have W2 := hid hW
  have O2 := hid (ok_on O1.out nn.below)
  have X2 := hid (box_near X1.out (by omega) nn)
  have Fx2 := hid (fit_near Fx1.out nn)
  have Kx2 := hid (nodeAt_on Kx1.out htB nn.below)
  clear W1 N1 O1 X1 Fx1 Kx1 nn hW cX_1_0 cX_1_1 cX_1_2 cX_1_3 cX_1_4 cX_1_5 cX_1_6 cKx_1_0 cKx_1_1 cKx_1_2 cKx_1_3 cKx_1_4 cKx_1_5 cKx_1_6
  obtain ⟨cX_2_0, cX_2_1, cX_2_2, cX_2_3, cX_2_4, cX_2_5, cX_2_6⟩ := box_cells X2.out
  obtain ⟨cKx_2_0, cKx_2_1, cKx_2_2, cKx_2_3, cKx_2_4, cKx_2_5, cKx_2_6⟩ := Kx2.out
  have hlen2 := wrote_le hw
  simp only [List.length_cons, List.length_nil] at hlen2
  have R2 := hid (R1.out.trans hw)
  clear hw R1
  have D := hid (done_mk W2.out R2.out (show (([114, 101, 116, 117, 114, 110, 32] ++ (textN x).e) ++ [59]) = ([114, 101, 116, 117, 114, 110, 32] ++ (textN x).e) ++ [59] by first | rfl | simp only [List.append_assoc, List.cons_append, List.nil_append]) N2.out)
  clear W2 N2 O2 R2 X2 Fx2 Kx2 cX_2_0 cX_2_1 cX_2_2 cX_2_3 cX_2_4 cX_2_5 cX_2_6 cKx_2_0 cKx_2_1 cKx_2_2 cKx_2_3 cKx_2_4 cKx_2_5 cKx_2_6
  go_wp2_with fail
  go_end0
  exact D.out

set_option maxHeartbeats 3200000 in
set_option maxRecDepth 100000 in
theorem stmt32 (o : Int) (n : Int) (s : ByteArray) (a1 : Option Addr) (c1 q1 : Nat) (t off q2 : Nat) (p : Int)  (x : Nd) (hxx : ExprW x) (xa1 : Option Addr) (xq1 : Nat) (xa2 : Option Addr) (xq2 : Nat) (B b : Nat) (l : List UInt8) (w : World) (W : Hid (Wr B b l w)) (O : Hid (Ok B w)) (htB : t < B) (Kx : Hid (NodeAt t (off) x.kind x.op x.num x.str (.slice xa1 x.names.length xq1) (.slice xa2 x.kids.length xq2) x.pl w)) (Fx : Hid (Fit B x (.slice xa1 x.names.length xq1) (.slice xa2 x.kids.length xq2) 1 w)) (hl : l.length + (((textN x).e) ++ [59]).length ≤ 100000000) :
    Calls Tryd.prog 36 #[.pointer (some ⟨b, 0, none⟩), .agg #[.int .i64 32, .int .i64 o, .int .i64 n, .string s, .slice a1 c1 q1, .slice (some ⟨t, off, none⟩) 1 q2, .int .i64 p]] w (Done B b l (((textN x).e) ++ [59]) w) := by
  have hlt := wr_lt W.out
  have hal := box1_below w (.cells #[.int .i64 32, .int .i64 o, .int .i64 n, .string s, .slice a1 c1 q1, .slice (some ⟨t, off, none⟩) 1 q2, .int .i64 p] 25)
  have N0 := hid (show Near B b w _ from Near.ofBelow hal O.out.1)
  have W0 := hid (wr_below W.out hal)
  have O0 := hid (ok_on O.out N0.out.below)
  have X0 := hid (box_new w 32 o n s (.slice a1 c1 q1) (.slice (some ⟨t, off, none⟩) 1 q2) p)
  have htw : t < w.heap.size := Nat.lt_of_lt_of_le htB O.out.1
  have Fx0 := hid (fit_near Fx.out N0.out)
  have HXx := hid hxx
  have Kx0 := hid (nodeAt_on Kx.out htB N0.out.below)
  simp only [List.length_append, List.length_cons, List.length_nil] at hl
  clear hal W O Fx hxx Kx
  obtain ⟨cKx_0_0, cKx_0_1, cKx_0_2, cKx_0_3, cKx_0_4, cKx_0_5, cKx_0_6⟩ := Kx0.out
  go_enter Tryd.func36, Tryd.ntmps36
  go_wp2_with fail
  refine (full_calls W0 (by omega)).mono ?_
  rintro e wf ⟨rfl, rfl⟩
  by_cases hfull : 2000 < l.length
  · rw [decide_eq_true hfull]
    have D := hid (done_mk W0.out (Wrote.none hfull (((textN x).e) ++ [59])) rfl N0.out)
    clear W0 N0 O0 X0 Fx0 Kx0 cKx_0_0 cKx_0_1 cKx_0_2 cKx_0_3 cKx_0_4 cKx_0_5 cKx_0_6
    go_wp2_with fail
    go_end0
    exact D.out
  rw [decide_eq_false hfull]
  clear hfull
  have hlz : l.length + ((textN x).e).length ≤ 100000000 := by omega
  go_wp2_with fail
  refine (short32 o n s a1 c1 q1 t off q2 p x HXx.out _ _ _ _ B b _ _ W0 O0 htB Kx0 Fx0 hlz).mono ?_
  rintro e w1 ⟨rfl, l1, hW, hw, nn⟩
  have N1 := hid (N0.out.trans nn)
  have W1 := hid hW
  have O1 := hid (ok_on O0.out nn.below)
  have X1 := hid (box_near X0.out (by omega) nn)
  have Fx1 := hid (fit_near Fx0.out nn)
  have Kx1 := hid (nodeAt_on Kx0.out htB nn.below)
  clear W0 N0 O0 X0 Fx0 Kx0 nn hW cKx_0_0 cKx_0_1 cKx_0_2 cKx_0_3 cKx_0_4 cKx_0_5 cKx_0_6
  obtain ⟨cX_1_0, cX_1_1, cX_1_2, cX_1_3, cX_1_4, cX_1_5, cX_1_6⟩ := box_cells X1.out
  obtain ⟨cKx_1_0, cKx_1_1, cKx_1_2, cKx_1_3, cKx_1_4, cKx_1_5, cKx_1_6⟩ := Kx1.out
  have hlen1 := wrote_le hw
  have R1 := hid hw
  clear hw
  go_wp2_with fail
  refine (wbyte_done 59 _ rfl W1 (by omega)).mono ?_
  rintro e w2 ⟨rfl, l2, hW, hw, nn, ne2⟩
  have N2 := hid (N1.out.trans nn)
  have W2 := hid hW
  have O2 := hid (ok_on O1.out nn.below)
  have X2 := hid (box_near X1.out (by omega) nn)
  have Fx2 := hid (fit_near Fx1.out nn)
  have Kx2 := hid (nodeAt_on Kx1.out htB nn.below)
  clear W1 N1 O1 X1 Fx1 Kx1 nn hW cX_1_0 cX_1_1 cX_1_2 cX_1_3 cX_1_4 cX_1_5 cX_1_6 cKx_1_0 cKx_1_1 cKx_1_2 cKx_1_3 cKx_1_4 cKx_1_5 cKx_1_6
  obtain ⟨cX_2_0, cX_2_1, cX_2_2, cX_2_3, cX_2_4, cX_2_5, cX_2_6⟩ := box_cells X2.out
  obtain ⟨cKx_2_0, cKx_2_1, cKx_2_2, cKx_2_3, cKx_2_4, cKx_2_5, cKx_2_6⟩ := Kx2.out
  have hlen2 := wrote_le hw
  simp only [List.length_cons, List.length_nil] at hlen2
  have R2 := hid (R1.out.trans hw)
  clear hw R1
  have D := hid (done_mk W2.out R2.out (show (((textN x).e) ++ [59]) = ((textN x).e) ++ [59] by first | rfl | simp only [List.append_assoc, List.cons_append, List.nil_append]) N2.out)
  clear W2 N2 O2 R2 X2 Fx2 Kx2 cX_2_0 cX_2_1 cX_2_2 cX_2_3 cX_2_4 cX_2_5 cX_2_6 cKx_2_0 cKx_2_1 cKx_2_2 cKx_2_3 cKx_2_4 cKx_2_5 cKx_2_6
  go_wp2_with fail
  go_end0
  exact D.out

set_option maxHeartbeats 3200000 in
set_option maxRecDepth 100000 in
theorem stmt30 (o : Int) (n : Int) (s : ByteArray) (a1 : Option Addr) (c1 q1 : Nat) (t off q2 : Nat) (p : Int) (x : Nd) (hxx : ExprW x) (xa1 : Option Addr) (xq1 : Nat) (xa2 : Option Addr) (xq2 : Nat) (y : Nd) (hyy : ∀ q ∈ y.kids, StmtW q) (hry : ∀ q ∈ y.kids, rightN q 2 = true) (ya1 : Option Addr) (yq1 : Nat) (ya2 : Option Addr) (yq2 : Nat) (B b : Nat) (l : List UInt8) (w : World) (W : Hid (Wr B b l w)) (O : Hid (Ok B w)) (htB : t < B) (Kx : Hid (NodeAt t (off) x.kind x.op x.num x.str (.slice xa1 x.names.length xq1) (.slice xa2 x.kids.length xq2) x.pl w)) (Fx : Hid (Fit B x (.slice xa1 x.names.length xq1) (.slice xa2 x.kids.length xq2) 1 w)) (Ky : Hid (NodeAt t (off + 7) y.kind y.op y.num y.str (.slice ya1 y.names.length yq1) (.slice ya2 y.kids.length yq2) y.pl w)) (Fy : Hid (Fit B y (.slice ya1 y.names.length yq1) (.slice ya2 y.kids.length yq2) 3 w)) (hl : l.length + (branchT [119, 104, 105, 108, 101] (textN x) (textN y)).length ≤ 100000000) :
    Calls Tryd.prog 36 #[.pointer (some ⟨b, 0, none⟩), .agg #[.int .i64 30, .int .i64 o, .int .i64 n, .string s, .slice a1 c1 q1, .slice (some ⟨t, off, none⟩) 2 q2, .int .i64 p]] w (Done B b l (branchT [119, 104, 105, 108, 101] (textN x) (textN y)) w) := by
  have hlt := wr_lt W.out
  have hal := box1_below w (.cells #[.int .i64 30, .int .i64 o, .int .i64 n, .string s, .slice a1 c1 q1, .slice (some ⟨t, off, none⟩) 2 q2, .int .i64 p] 25)
  have N0 := hid (show Near B b w _ from Near.ofBelow hal O.out.1)
  have W0 := hid (wr_below W.out hal)
  have O0 := hid (ok_on O.out N0.out.below)
  have X0 := hid (box_new w 30 o n s (.slice a1 c1 q1) (.slice (some ⟨t, off, none⟩) 2 q2) p)
  have htw : t < w.heap.size := Nat.lt_of_lt_of_le htB O.out.1
  have Fx0 := hid (fit_near Fx.out N0.out)
  have Kx0 := hid (nodeAt_on Kx.out htB N0.out.below)
  have HXx := hid hxx
  have Fy0 := hid (fit_near Fy.out N0.out)
  have Ky0 := hid (nodeAt_on Ky.out htB N0.out.below)
  have HYy := hid hyy
  have HRy := hid hry
  clear hal W O Fx hxx Kx Fy Ky hyy hry
  obtain ⟨cKx_0_0, cKx_0_1, cKx_0_2, cKx_0_3, cKx_0_4, cKx_0_5, cKx_0_6⟩ := Kx0.out
  obtain ⟨cKy_0_0, cKy_0_1, cKy_0_2, cKy_0_3, cKy_0_4, cKy_0_5, cKy_0_6⟩ := Ky0.out
  go_enter Tryd.func36, Tryd.ntmps36
  go_wp2_with fail
  refine (full_calls W0 (by omega)).mono ?_
  rintro e wf ⟨rfl, rfl⟩
  by_cases hfull : 2000 < l.length
  · rw [decide_eq_true hfull]
    have D := hid (done_mk W0.out (Wrote.none hfull (branchT [119, 104, 105, 108, 101] (textN x) (textN y))) rfl N0.out)
    clear W0 N0 O0 X0 Fx0 Kx0 Fy0 Ky0 cKx_0_0 cKx_0_1 cKx_0_2 cKx_0_3 cKx_0_4 cKx_0_5 cKx_0_6 cKy_0_0 cKy_0_1 cKy_0_2 cKy_0_3 cKy_0_4 cKy_0_5 cKy_0_6
    go_wp2_with fail
    go_end0
    exact D.out
  rw [decide_eq_false hfull]
  clear hfull
  have S0 := hid (nearBKK_mk N0.out X0.out (by omega) htB Kx0.out htB Ky0.out)
  go_wp2_with fail
  go_region_held3 (fun a => (Near B b w a ∧ Box w.heap.size 30 o n s (.slice a1 c1 q1) (.slice (some ⟨t, off, none⟩) 2 q2) p a ∧ w.heap.size ≠ b ∧ t < B ∧ NodeAt t (off) x.kind x.op x.num x.str (.slice xa1 x.names.length xq1) (.slice xa2 x.kids.length xq2) x.pl a ∧ t < B ∧ NodeAt t (off + 7) y.kind y.op y.num y.str (.slice ya1 y.names.length yq1) (.slice ya2 y.kids.length yq2) y.pl a) ∧ a.cell? ⟨w.heap.size, 0, none⟩ = some (.int .i64 30) ∧ a.cell? ⟨w.heap.size, 1, none⟩ = some (.int .i64 o) ∧ a.cell? ⟨w.heap.size, 2, none⟩ = some (.int .i64 n) ∧ a.cell? ⟨w.heap.size, 3, none⟩ = some (.string s) ∧ a.cell? ⟨w.heap.size, 4, none⟩ = some (.slice a1 c1 q1) ∧ a.cell? ⟨w.heap.size, 5, none⟩ = some (.slice (some ⟨t, off, none⟩) 2 q2) ∧ a.cell? ⟨w.heap.size, 6, none⟩ = some (.int .i64 p) ∧ a.cell? ⟨t, off, none⟩ = some (.int .i64 x.kind) ∧ a.cell? ⟨t, off + 1, none⟩ = some (.int .i64 x.op) ∧ a.cell? ⟨t, off + 2, none⟩ = some (.int .i64 x.num) ∧ a.cell? ⟨t, off + 3, none⟩ = some (.string x.str) ∧ a.cell? ⟨t, off + 4, none⟩ = some (.slice xa1 x.names.length xq1) ∧ a.cell? ⟨t, off + 5, none⟩ = some (.slice xa2 x.kids.length xq2) ∧ a.cell? ⟨t, off + 6, none⟩ = some (.int .i64 x.pl) ∧ a.cell? ⟨t, off + 7, none⟩ = some (.int .i64 y.kind) ∧ a.cell? ⟨t, off + 7 + 1, none⟩ = some (.int .i64 y.op) ∧ a.cell? ⟨t, off + 7 + 2, none⟩ = some (.int .i64 y.num) ∧ a.cell? ⟨t, off + 7 + 3, none⟩ = some (.string y.str) ∧ a.cell? ⟨t, off + 7 + 4, none⟩ = some (.slice ya1 y.names.length yq1) ∧ a.cell? ⟨t, off + 7 + 5, none⟩ = some (.slice ya2 y.kids.length yq2) ∧ a.cell? ⟨t, off + 7 + 6, none⟩ = some (.int .i64 y.pl))
    (first | exact nearBKK (by assumption) nn | exact nearBKK S0.out (near_draw _ _ _) | exact nearBKK (by assumption) (near_draw _ _ _))
    (first
      | (go_at_call 48; refine (branch_calls ⟨#[119, 104, 105, 108, 101]⟩ (by simp) (by decide) x HXx.out _ _ _ _ y _ _ _ _ HYy.out HRy.out B b _ _ (hid (wr_drew W0.out)) (hid (ok_on O0.out (near_draw B b _).below)) (hid (fit_near Fx0.out (near_draw B b _))) (hid (fit_near Fy0.out (near_draw B b _))) (show l.length + (branchT [119, 104, 105, 108, 101] (textN x) (textN y)).length ≤ 100000000 by omega)).mono ?_; rintro e wx ⟨rfl, l1, hW, hw, nn⟩))
  rename_i hz
  clear hz S0
  replace nn := (near_draw B b _).trans nn
  have N1 := hid (N0.out.trans nn)
  have W1 := hid hW
  have O1 := hid (ok_on O0.out nn.below)
  have X1 := hid (box_near X0.out (by omega) nn)
  have Fx1 := hid (fit_near Fx0.out nn)
  have Kx1 := hid (nodeAt_on Kx0.out htB nn.below)
  have Fy1 := hid (fit_near Fy0.out nn)
  have Ky1 := hid (nodeAt_on Ky0.out htB nn.below)
  clear W0 N0 O0 X0 Fx0 Kx0 Fy0 Ky0 nn hW cKx_0_0 cKx_0_1 cKx_0_2 cKx_0_3 cKx_0_4 cKx_0_5 cKx_0_6 cKy_0_0 cKy_0_1 cKy_0_2 cKy_0_3 cKy_0_4 cKy_0_5 cKy_0_6
  obtain ⟨cX_1_0, cX_1_1, cX_1_2, cX_1_3, cX_1_4, cX_1_5, cX_1_6⟩ := box_cells X1.out
  obtain ⟨cKx_1_0, cKx_1_1, cKx_1_2, cKx_1_3, cKx_1_4, cKx_1_5, cKx_1_6⟩ := Kx1.out
  obtain ⟨cKy_1_0, cKy_1_1, cKy_1_2, cKy_1_3, cKy_1_4, cKy_1_5, cKy_1_6⟩ := Ky1.out
  have hlen1 := wrote_le hw
  have R1 := hid hw
  clear hw
  have D := hid (done_mk W1.out R1.out (show branchT [119, 104, 105, 108, 101] (textN x) (textN y) = branchT [119, 104, 105, 108, 101] (textN x) (textN y) by first | rfl | simp only [List.append_assoc, List.cons_append, List.nil_append]) N1.out)
  clear W1 N1 O1 R1 X1 Fx1 Kx1 Fy1 Ky1 cX_1_0 cX_1_1 cX_1_2 cX_1_3 cX_1_4 cX_1_5 cX_1_6 cKx_1_0 cKx_1_1 cKx_1_2 cKx_1_3 cKx_1_4 cKx_1_5 cKx_1_6 cKy_1_0 cKy_1_1 cKy_1_2 cKy_1_3 cKy_1_4 cKy_1_5 cKy_1_6
  go_wp2_with fail
  go_end0
  exact D.out

set_option maxHeartbeats 3200000 in
set_option maxRecDepth 100000 in
theorem stmt28a (o : Int) (n : Int) (s : ByteArray) (a1 : Option Addr) (c1 q1 : Nat) (t off q2 : Nat) (p : Int) (x : Nd) (hxx : ExprW x) (xa1 : Option Addr) (xq1 : Nat) (xa2 : Option Addr) (xq2 : Nat) (y : Nd) (hyy : ∀ q ∈ y.kids, StmtW q) (hry : ∀ q ∈ y.kids, rightN q 2 = true) (ya1 : Option Addr) (yq1 : Nat) (ya2 : Option Addr) (yq2 : Nat) (z : Nd) (hyz : ∀ q ∈ z.kids, StmtW q) (hrz : ∀ q ∈ z.kids, rightN q 2 = true) (za1 : Option Addr) (zq1 : Nat) (za2 : Option Addr) (zq2 : Nat) (B b : Nat) (l : List UInt8) (w : World) (W : Hid (Wr B b l w)) (O : Hid (Ok B w)) (htB : t < B) (Kx : Hid (NodeAt t (off) x.kind x.op x.num x.str (.slice xa1 x.names.length xq1) (.slice xa2 x.kids.length xq2) x.pl w)) (Fx : Hid (Fit B x (.slice xa1 x.names.length xq1) (.slice xa2 x.kids.length xq2) 1 w)) (Ky : Hid (NodeAt t (off + 7) y.kind y.op y.num y.str (.slice ya1 y.names.length yq1) (.slice ya2 y.kids.length yq2) y.pl w)) (Fy : Hid (Fit B y (.slice ya1 y.names.length yq1) (.slice ya2 y.kids.length yq2) 3 w)) (Kz : Hid (NodeAt t (off + 14) z.kind z.op z.num z.str (.slice za1 z.names.length zq1) (.slice za2 z.kids.length zq2) z.pl w)) (Fz : Hid (Fit B z (.slice za1 z.names.length zq1) (.slice za2 z.kids.length zq2) 3 w)) (hz0 : z.kids.length = 0) (hl : l.length + (branchT [105, 102] (textN x) (textN y)).length ≤ 100000000) :
    Calls Tryd.prog 36 #[.pointer (some ⟨b, 0, none⟩), .agg #[.int .i64 28, .int .i64 o, .int .i64 n, .string s, .slice a1 c1 q1, .slice (some ⟨t, off, none⟩) 3 q2, .int .i64 p]] w (Done B b l (branchT [105, 102] (textN x) (textN y)) w) := by
  have hlt := wr_lt W.out
  have hal := box1_below w (.cells #[.int .i64 28, .int .i64 o, .int .i64 n, .string s, .slice a1 c1 q1, .slice (some ⟨t, off, none⟩) 3 q2, .int .i64 p] 25)
  have N0 := hid (show Near B b w _ from Near.ofBelow hal O.out.1)
  have W0 := hid (wr_below W.out hal)
  have O0 := hid (ok_on O.out N0.out.below)
  have X0 := hid (box_new w 28 o n s (.slice a1 c1 q1) (.slice (some ⟨t, off, none⟩) 3 q2) p)
  have htw : t < w.heap.size := Nat.lt_of_lt_of_le htB O.out.1
  have Fx0 := hid (fit_near Fx.out N0.out)
  have Kx0 := hid (nodeAt_on Kx.out htB N0.out.below)
  have HXx := hid hxx
  have Fy0 := hid (fit_near Fy.out N0.out)
  have Ky0 := hid (nodeAt_on Ky.out htB N0.out.below)
  have HYy := hid hyy
  have HRy := hid hry
  have Fz0 := hid (fit_near Fz.out N0.out)
  have Kz0 := hid (nodeAt_on Kz.out htB N0.out.below)
  have HYz := hid hyz
  have HRz := hid hrz
  clear hal W O Fx hxx Kx Fy Ky hyy hry Fz Kz hyz hrz
  obtain ⟨cKx_0_0, cKx_0_1, cKx_0_2, cKx_0_3, cKx_0_4, cKx_0_5, cKx_0_6⟩ := Kx0.out
  obtain ⟨cKy_0_0, cKy_0_1, cKy_0_2, cKy_0_3, cKy_0_4, cKy_0_5, cKy_0_6⟩ := Ky0.out
  obtain ⟨cKz_0_0, cKz_0_1, cKz_0_2, cKz_0_3, cKz_0_4, cKz_0_5, cKz_0_6⟩ := Kz0.out
  go_enter Tryd.func36, Tryd.ntmps36
  go_wp2_with fail
  refine (full_calls W0 (by omega)).mono ?_
  rintro e wf ⟨rfl, rfl⟩
  by_cases hfull : 2000 < l.length
  · rw [decide_eq_true hfull]
    have D := hid (done_mk W0.out (Wrote.none hfull (branchT [105, 102] (textN x) (textN y))) rfl N0.out)
    clear W0 N0 O0 X0 Fx0 Kx0 Fy0 Ky0 Fz0 Kz0 cKx_0_0 cKx_0_1 cKx_0_2 cKx_0_3 cKx_0_4 cKx_0_5 cKx_0_6 cKy_0_0 cKy_0_1 cKy_0_2 cKy_0_3 cKy_0_4 cKy_0_5 cKy_0_6 cKz_0_0 cKz_0_1 cKz_0_2 cKz_0_3 cKz_0_4 cKz_0_5 cKz_0_6
    go_wp2_with fail
    go_end0
    exact D.out
  rw [decide_eq_false hfull]
  clear hfull
  have S0 := hid (nearBKK_mk N0.out X0.out (by omega) htB Kx0.out htB Ky0.out)
  go_wp2_with fail
  go_region_held3 (fun a => (Near B b w a ∧ Box w.heap.size 28 o n s (.slice a1 c1 q1) (.slice (some ⟨t, off, none⟩) 3 q2) p a ∧ w.heap.size ≠ b ∧ t < B ∧ NodeAt t (off) x.kind x.op x.num x.str (.slice xa1 x.names.length xq1) (.slice xa2 x.kids.length xq2) x.pl a ∧ t < B ∧ NodeAt t (off + 7) y.kind y.op y.num y.str (.slice ya1 y.names.length yq1) (.slice ya2 y.kids.length yq2) y.pl a) ∧ a.cell? ⟨w.heap.size, 0, none⟩ = some (.int .i64 28) ∧ a.cell? ⟨w.heap.size, 1, none⟩ = some (.int .i64 o) ∧ a.cell? ⟨w.heap.size, 2, none⟩ = some (.int .i64 n) ∧ a.cell? ⟨w.heap.size, 3, none⟩ = some (.string s) ∧ a.cell? ⟨w.heap.size, 4, none⟩ = some (.slice a1 c1 q1) ∧ a.cell? ⟨w.heap.size, 5, none⟩ = some (.slice (some ⟨t, off, none⟩) 3 q2) ∧ a.cell? ⟨w.heap.size, 6, none⟩ = some (.int .i64 p) ∧ a.cell? ⟨t, off, none⟩ = some (.int .i64 x.kind) ∧ a.cell? ⟨t, off + 1, none⟩ = some (.int .i64 x.op) ∧ a.cell? ⟨t, off + 2, none⟩ = some (.int .i64 x.num) ∧ a.cell? ⟨t, off + 3, none⟩ = some (.string x.str) ∧ a.cell? ⟨t, off + 4, none⟩ = some (.slice xa1 x.names.length xq1) ∧ a.cell? ⟨t, off + 5, none⟩ = some (.slice xa2 x.kids.length xq2) ∧ a.cell? ⟨t, off + 6, none⟩ = some (.int .i64 x.pl) ∧ a.cell? ⟨t, off + 7, none⟩ = some (.int .i64 y.kind) ∧ a.cell? ⟨t, off + 7 + 1, none⟩ = some (.int .i64 y.op) ∧ a.cell? ⟨t, off + 7 + 2, none⟩ = some (.int .i64 y.num) ∧ a.cell? ⟨t, off + 7 + 3, none⟩ = some (.string y.str) ∧ a.cell? ⟨t, off + 7 + 4, none⟩ = some (.slice ya1 y.names.length yq1) ∧ a.cell? ⟨t, off + 7 + 5, none⟩ = some (.slice ya2 y.kids.length yq2) ∧ a.cell? ⟨t, off + 7 + 6, none⟩ = some (.int .i64 y.pl))
    (first | exact nearBKK (by assumption) nn | exact nearBKK S0.out (near_draw _ _ _) | exact nearBKK (by assumption) (near_draw _ _ _))
    (first
      | (go_at_call 48; refine (branch_calls ⟨#[105, 102]⟩ (by simp) (by decide) x HXx.out _ _ _ _ y _ _ _ _ HYy.out HRy.out B b _ _ (hid (wr_drew W0.out)) (hid (ok_on O0.out (near_draw B b _).below)) (hid (fit_near Fx0.out (near_draw B b _))) (hid (fit_near Fy0.out (near_draw B b _))) (show l.length + (branchT [105, 102] (textN x) (textN y)).length ≤ 100000000 by omega)).mono ?_; rintro e wx ⟨rfl, l1, hW, hw, nn⟩))
  rename_i hz
  clear hz S0
  replace nn := (near_draw B b _).trans nn
  have N1 := hid (N0.out.trans nn)
  have W1 := hid hW
  have O1 := hid (ok_on O0.out nn.below)
  have X1 := hid (box_near X0.out (by omega) nn)
  have Fx1 := hid (fit_near Fx0.out nn)
  have Kx1 := hid (nodeAt_on Kx0.out htB nn.below)
  have Fy1 := hid (fit_near Fy0.out nn)
  have Ky1 := hid (nodeAt_on Ky0.out htB nn.below)
  have Fz1 := hid (fit_near Fz0.out nn)
  have Kz1 := hid (nodeAt_on Kz0.out htB nn.below)
  clear W0 N0 O0 X0 Fx0 Kx0 Fy0 Ky0 Fz0 Kz0 nn hW cKx_0_0 cKx_0_1 cKx_0_2 cKx_0_3 cKx_0_4 cKx_0_5 cKx_0_6 cKy_0_0 cKy_0_1 cKy_0_2 cKy_0_3 cKy_0_4 cKy_0_5 cKy_0_6 cKz_0_0 cKz_0_1 cKz_0_2 cKz_0_3 cKz_0_4 cKz_0_5 cKz_0_6
  obtain ⟨cX_1_0, cX_1_1, cX_1_2, cX_1_3, cX_1_4, cX_1_5, cX_1_6⟩ := box_cells X1.out
  obtain ⟨cKx_1_0, cKx_1_1, cKx_1_2, cKx_1_3, cKx_1_4, cKx_1_5, cKx_1_6⟩ := Kx1.out
  obtain ⟨cKy_1_0, cKy_1_1, cKy_1_2, cKy_1_3, cKy_1_4, cKy_1_5, cKy_1_6⟩ := Ky1.out
  obtain ⟨cKz_1_0, cKz_1_1, cKz_1_2, cKz_1_3, cKz_1_4, cKz_1_5, cKz_1_6⟩ := Kz1.out
  have hlen1 := wrote_le hw
  have R1 := hid hw
  clear hw
  have hz1 : ¬ 0 < z.kids.length := by omega
  clear hz0
  go_wp2_with fail
  have D := hid (done_mk W1.out R1.out (show branchT [105, 102] (textN x) (textN y) = branchT [105, 102] (textN x) (textN y) by first | rfl | simp only [List.append_assoc, List.cons_append, List.nil_append]) N1.out)
  clear W1 N1 O1 R1 X1 Fx1 Kx1 Fy1 Ky1 Fz1 Kz1 cX_1_0 cX_1_1 cX_1_2 cX_1_3 cX_1_4 cX_1_5 cX_1_6 cKx_1_0 cKx_1_1 cKx_1_2 cKx_1_3 cKx_1_4 cKx_1_5 cKx_1_6 cKy_1_0 cKy_1_1 cKy_1_2 cKy_1_3 cKy_1_4 cKy_1_5 cKy_1_6 cKz_1_0 cKz_1_1 cKz_1_2 cKz_1_3 cKz_1_4 cKz_1_5 cKz_1_6
  go_wp2_with fail
  go_end0
  exact D.out

set_option maxHeartbeats 3200000 in
set_option maxRecDepth 100000 in
theorem stmt28b (o : Int) (n : Int) (s : ByteArray) (a1 : Option Addr) (c1 q1 : Nat) (t off q2 : Nat) (p : Int) (x : Nd) (hxx : ExprW x) (xa1 : Option Addr) (xq1 : Nat) (xa2 : Option Addr) (xq2 : Nat) (y : Nd) (hyy : ∀ q ∈ y.kids, StmtW q) (hry : ∀ q ∈ y.kids, rightN q 2 = true) (ya1 : Option Addr) (yq1 : Nat) (ya2 : Option Addr) (yq2 : Nat) (z : Nd) (hyz : ∀ q ∈ z.kids, StmtW q) (hrz : ∀ q ∈ z.kids, rightN q 2 = true) (za1 : Option Addr) (zq1 : Nat) (za2 : Option Addr) (zq2 : Nat) (B b : Nat) (l : List UInt8) (w : World) (W : Hid (Wr B b l w)) (O : Hid (Ok B w)) (htB : t < B) (Kx : Hid (NodeAt t (off) x.kind x.op x.num x.str (.slice xa1 x.names.length xq1) (.slice xa2 x.kids.length xq2) x.pl w)) (Fx : Hid (Fit B x (.slice xa1 x.names.length xq1) (.slice xa2 x.kids.length xq2) 1 w)) (Ky : Hid (NodeAt t (off + 7) y.kind y.op y.num y.str (.slice ya1 y.names.length yq1) (.slice ya2 y.kids.length yq2) y.pl w)) (Fy : Hid (Fit B y (.slice ya1 y.names.length yq1) (.slice ya2 y.kids.length yq2) 3 w)) (Kz : Hid (NodeAt t (off + 14) z.kind z.op z.num z.str (.slice za1 z.names.length zq1) (.slice za2 z.kids.length zq2) z.pl w)) (Fz : Hid (Fit B z (.slice za1 z.names.length zq1) (.slice za2 z.kids.length zq2) 3 w)) (hz0 : 0 < z.kids.length) (hl : l.length + (branchT [105, 102] (textN x) (textN y) ++ ([32, 101, 108, 115, 101, 32] ++ blockT (z.kids.map textN))).length ≤ 100000000) :
    Calls Tryd.prog 36 #[.pointer (some ⟨b, 0, none⟩), .agg #[.int .i64 28, .int .i64 o, .int .i64 n, .string s, .slice a1 c1 q1, .slice (some ⟨t, off, none⟩) 3 q2, .int .i64 p]] w (Done B b l (branchT [105, 102] (textN x) (textN y) ++ ([32, 101, 108, 115, 101, 32] ++ blockT (z.kids.map textN))) w) := by
  have hlt := wr_lt W.out
  have hal := box1_below w (.cells #[.int .i64 28, .int .i64 o, .int .i64 n, .string s, .slice a1 c1 q1, .slice (some ⟨t, off, none⟩) 3 q2, .int .i64 p] 25)
  have N0 := hid (show Near B b w _ from Near.ofBelow hal O.out.1)
  have W0 := hid (wr_below W.out hal)
  have O0 := hid (ok_on O.out N0.out.below)
  have X0 := hid (box_new w 28 o n s (.slice a1 c1 q1) (.slice (some ⟨t, off, none⟩) 3 q2) p)
  have htw : t < w.heap.size := Nat.lt_of_lt_of_le htB O.out.1
  have Fx0 := hid (fit_near Fx.out N0.out)
  have Kx0 := hid (nodeAt_on Kx.out htB N0.out.below)
  have HXx := hid hxx
  have Fy0 := hid (fit_near Fy.out N0.out)
  have Ky0 := hid (nodeAt_on Ky.out htB N0.out.below)
  have HYy := hid hyy
  have HRy := hid hry
  have Fz0 := hid (fit_near Fz.out N0.out)
  have Kz0 := hid (nodeAt_on Kz.out htB N0.out.below)
  have HYz := hid hyz
  have HRz := hid hrz
  simp only [List.length_append, List.length_cons, List.length_nil] at hl
  clear hal W O Fx hxx Kx Fy Ky hyy hry Fz Kz hyz hrz
  obtain ⟨cKx_0_0, cKx_0_1, cKx_0_2, cKx_0_3, cKx_0_4, cKx_0_5, cKx_0_6⟩ := Kx0.out
  obtain ⟨cKy_0_0, cKy_0_1, cKy_0_2, cKy_0_3, cKy_0_4, cKy_0_5, cKy_0_6⟩ := Ky0.out
  obtain ⟨cKz_0_0, cKz_0_1, cKz_0_2, cKz_0_3, cKz_0_4, cKz_0_5, cKz_0_6⟩ := Kz0.out
  go_enter Tryd.func36, Tryd.ntmps36
  go_wp2_with fail
  refine (full_calls W0 (by omega)).mono ?_
  rintro e wf ⟨rfl, rfl⟩
  by_cases hfull : 2000 < l.length
  · rw [decide_eq_true hfull]
    have D := hid (done_mk W0.out (Wrote.none hfull (branchT [105, 102] (textN x) (textN y) ++ ([32, 101, 108, 115, 101, 32] ++ blockT (z.kids.map textN)))) rfl N0.out)
    clear W0 N0 O0 X0 Fx0 Kx0 Fy0 Ky0 Fz0 Kz0 cKx_0_0 cKx_0_1 cKx_0_2 cKx_0_3 cKx_0_4 cKx_0_5 cKx_0_6 cKy_0_0 cKy_0_1 cKy_0_2 cKy_0_3 cKy_0_4 cKy_0_5 cKy_0_6 cKz_0_0 cKz_0_1 cKz_0_2 cKz_0_3 cKz_0_4 cKz_0_5 cKz_0_6
    go_wp2_with fail
    go_end0
    exact D.out
  rw [decide_eq_false hfull]
  clear hfull
  have S0 := hid (nearBKK_mk N0.out X0.out (by omega) htB Kx0.out htB Ky0.out)
  go_wp2_with fail
  go_region_held3 (fun a => (Near B b w a ∧ Box w.heap.size 28 o n s (.slice a1 c1 q1) (.slice (some ⟨t, off, none⟩) 3 q2) p a ∧ w.heap.size ≠ b ∧ t < B ∧ NodeAt t (off) x.kind x.op x.num x.str (.slice xa1 x.names.length xq1) (.slice xa2 x.kids.length xq2) x.pl a ∧ t < B ∧ NodeAt t (off + 7) y.kind y.op y.num y.str (.slice ya1 y.names.length yq1) (.slice ya2 y.kids.length yq2) y.pl a) ∧ a.cell? ⟨w.heap.size, 0, none⟩ = some (.int .i64 28) ∧ a.cell? ⟨w.heap.size, 1, none⟩ = some (.int .i64 o) ∧ a.cell? ⟨w.heap.size, 2, none⟩ = some (.int .i64 n) ∧ a.cell? ⟨w.heap.size, 3, none⟩ = some (.string s) ∧ a.cell? ⟨w.heap.size, 4, none⟩ = some (.slice a1 c1 q1) ∧ a.cell? ⟨w.heap.size, 5, none⟩ = some (.slice (some ⟨t, off, none⟩) 3 q2) ∧ a.cell? ⟨w.heap.size, 6, none⟩ = some (.int .i64 p) ∧ a.cell? ⟨t, off, none⟩ = some (.int .i64 x.kind) ∧ a.cell? ⟨t, off + 1, none⟩ = some (.int .i64 x.op) ∧ a.cell? ⟨t, off + 2, none⟩ = some (.int .i64 x.num) ∧ a.cell? ⟨t, off + 3, none⟩ = some (.string x.str) ∧ a.cell? ⟨t, off + 4, none⟩ = some (.slice xa1 x.names.length xq1) ∧ a.cell? ⟨t, off + 5, none⟩ = some (.slice xa2 x.kids.length xq2) ∧ a.cell? ⟨t, off + 6, none⟩ = some (.int .i64 x.pl) ∧ a.cell? ⟨t, off + 7, none⟩ = some (.int .i64 y.kind) ∧ a.cell? ⟨t, off + 7 + 1, none⟩ = some (.int .i64 y.op) ∧ a.cell? ⟨t, off + 7 + 2, none⟩ = some (.int .i64 y.num) ∧ a.cell? ⟨t, off + 7 + 3, none⟩ = some (.string y.str) ∧ a.cell? ⟨t, off + 7 + 4, none⟩ = some (.slice ya1 y.names.length yq1) ∧ a.cell? ⟨t, off + 7 + 5, none⟩ = some (.slice ya2 y.kids.length yq2) ∧ a.cell? ⟨t, off + 7 + 6, none⟩ = some (.int .i64 y.pl))
    (first | exact nearBKK (by assumption) nn | exact nearBKK S0.out (near_draw _ _ _) | exact nearBKK (by assumption) (near_draw _ _ _))
    (first
      | (go_at_call 48; refine (branch_calls ⟨#[105, 102]⟩ (by simp) (by decide) x HXx.out _ _ _ _ y _ _ _ _ HYy.out HRy.out B b _ _ (hid (wr_drew W0.out)) (hid (ok_on O0.out (near_draw B b _).below)) (hid (fit_near Fx0.out (near_draw B b _))) (hid (fit_near Fy0.out (near_draw B b _))) (show l.length + (branchT [105, 102] (textN x) (textN y)).length ≤ 100000000 by omega)).mono ?_; rintro e wx ⟨rfl, l1, hW, hw, nn⟩))
  rename_i hz
  clear hz S0
  replace nn := (near_draw B b _).trans nn
  have N1 := hid (N0.out.trans nn)
  have W1 := hid hW
  have O1 := hid (ok_on O0.out nn.below)
  have X1 := hid (box_near X0.out (by omega) nn)
  have Fx1 := hid (fit_near Fx0.out nn)
  have Kx1 := hid (nodeAt_on Kx0.out htB nn.below)
  have Fy1 := hid (fit_near Fy0.out nn)
  have Ky1 := hid (nodeAt_on Ky0.out htB nn.below)
  have Fz1 := hid (fit_near Fz0.out nn)
  have Kz1 := hid (nodeAt_on Kz0.out htB nn.below)
  clear W0 N0 O0 X0 Fx0 Kx0 Fy0 Ky0 Fz0 Kz0 nn hW cKx_0_0 cKx_0_1 cKx_0_2 cKx_0_3 cKx_0_4 cKx_0_5 cKx_0_6 cKy_0_0 cKy_0_1 cKy_0_2 cKy_0_3 cKy_0_4 cKy_0_5 cKy_0_6 cKz_0_0 cKz_0_1 cKz_0_2 cKz_0_3 cKz_0_4 cKz_0_5 cKz_0_6
  obtain ⟨cX_1_0, cX_1_1, cX_1_2, cX_1_3, cX_1_4, cX_1_5, cX_1_6⟩ := box_cells X1.out
  obtain ⟨cKx_1_0, cKx_1_1, cKx_1_2, cKx_1_3, cKx_1_4, cKx_1_5, cKx_1_6⟩ := Kx1.out
  obtain ⟨cKy_1_0, cKy_1_1, cKy_1_2, cKy_1_3, cKy_1_4, cKy_1_5, cKy_1_6⟩ := Ky1.out
  obtain ⟨cKz_1_0, cKz_1_1, cKz_1_2, cKz_1_3, cKz_1_4, cKz_1_5, cKz_1_6⟩ := Kz1.out
  have hlen1 := wrote_le hw
  have R1 := hid hw
  clear hw
  have dz : decide ((0 : Int) < (z.kids.length : Int)) = true := decide_eq_true (by omega)
  go_wp2_with fail
  refine (wstr_done ⟨#[32, 101, 108, 115, 101, 32]⟩ (by simp) W1 (by omega) (by decide)).mono ?_
  rintro e w2 ⟨rfl, l2, hW, hw, nn, ne2⟩
  have N2 := hid (N1.out.trans nn)
  have W2 := hid hW
  have O2 := hid (ok_on O1.out nn.below)
  have X2 := hid (box_near X1.out (by omega) nn)
  have Fx2 := hid (fit_near Fx1.out nn)
  have Kx2 := hid (nodeAt_on Kx1.out htB nn.below)
  have Fy2 := hid (fit_near Fy1.out nn)
  have Ky2 := hid (nodeAt_on Ky1.out htB nn.below)
  have Fz2 := hid (fit_near Fz1.out nn)
  have Kz2 := hid (nodeAt_on Kz1.out htB nn.below)
  clear W1 N1 O1 X1 Fx1 Kx1 Fy1 Ky1 Fz1 Kz1 nn hW cX_1_0 cX_1_1 cX_1_2 cX_1_3 cX_1_4 cX_1_5 cX_1_6 cKx_1_0 cKx_1_1 cKx_1_2 cKx_1_3 cKx_1_4 cKx_1_5 cKx_1_6 cKy_1_0 cKy_1_1 cKy_1_2 cKy_1_3 cKy_1_4 cKy_1_5 cKy_1_6 cKz_1_0 cKz_1_1 cKz_1_2 cKz_1_3 cKz_1_4 cKz_1_5 cKz_1_6
  obtain ⟨cX_2_0, cX_2_1, cX_2_2, cX_2_3, cX_2_4, cX_2_5, cX_2_6⟩ := box_cells X2.out
  obtain ⟨cKx_2_0, cKx_2_1, cKx_2_2, cKx_2_3, cKx_2_4, cKx_2_5, cKx_2_6⟩ := Kx2.out
  obtain ⟨cKy_2_0, cKy_2_1, cKy_2_2, cKy_2_3, cKy_2_4, cKy_2_5, cKy_2_6⟩ := Ky2.out
  obtain ⟨cKz_2_0, cKz_2_1, cKz_2_2, cKz_2_3, cKz_2_4, cKz_2_5, cKz_2_6⟩ := Kz2.out
  have hlen2 := wrote_le hw
  simp only [List.length_cons, List.length_nil] at hlen2
  have R2 := hid (R1.out.trans hw)
  clear hw R1
  go_wp2_with fail
  refine (wblock_calls z.kids HYz.out HRz.out B b _ _ _ W2 O2 (hid (fit_kids Fz2.out).1) (fit_kids Fz2.out).2.1 (fit_kids Fz2.out).2.2 (by omega)).mono ?_
  rintro e w3 ⟨rfl, l3, hW, hw, nn⟩
  have N3 := hid (N2.out.trans nn)
  have W3 := hid hW
  have O3 := hid (ok_on O2.out nn.below)
  have X3 := hid (box_near X2.out (by omega) nn)
  have Fx3 := hid (fit_near Fx2.out nn)
  have Kx3 := hid (nodeAt_on Kx2.out htB nn.below)
  have Fy3 := hid (fit_near Fy2.out nn)
  have Ky3 := hid (nodeAt_on Ky2.out htB nn.below)
  have Fz3 := hid (fit_near Fz2.out nn)
  have Kz3 := hid (nodeAt_on Kz2.out htB nn.below)
  clear W2 N2 O2 X2 Fx2 Kx2 Fy2 Ky2 Fz2 Kz2 nn hW cX_2_0 cX_2_1 cX_2_2 cX_2_3 cX_2_4 cX_2_5 cX_2_6 cKx_2_0 cKx_2_1 cKx_2_2 cKx_2_3 cKx_2_4 cKx_2_5 cKx_2_6 cKy_2_0 cKy_2_1 cKy_2_2 cKy_2_3 cKy_2_4 cKy_2_5 cKy_2_6 cKz_2_0 cKz_2_1 cKz_2_2 cKz_2_3 cKz_2_4 cKz_2_5 cKz_2_6
  obtain ⟨cX_3_0, cX_3_1, cX_3_2, cX_3_3, cX_3_4, cX_3_5, cX_3_6⟩ := box_cells X3.out
  obtain ⟨cKx_3_0, cKx_3_1, cKx_3_2, cKx_3_3, cKx_3_4, cKx_3_5, cKx_3_6⟩ := Kx3.out
  obtain ⟨cKy_3_0, cKy_3_1, cKy_3_2, cKy_3_3, cKy_3_4, cKy_3_5, cKy_3_6⟩ := Ky3.out
  obtain ⟨cKz_3_0, cKz_3_1, cKz_3_2, cKz_3_3, cKz_3_4, cKz_3_5, cKz_3_6⟩ := Kz3.out
  have hlen3 := wrote_le hw
  have R3 := hid (R2.out.trans hw)
  clear hw R2
  have D := hid (done_mk W3.out R3.out (show ((branchT [105, 102] (textN x) (textN y) ++ [32, 101, 108, 115, 101, 32]) ++ blockT (z.kids.map textN)) = branchT [105, 102] (textN x) (textN y) ++ ([32, 101, 108, 115, 101, 32] ++ blockT (z.kids.map textN)) by first | rfl | simp only [List.append_assoc, List.cons_append, List.nil_append]) N3.out)
  clear W3 N3 O3 R3 X3 Fx3 Kx3 Fy3 Ky3 Fz3 Kz3 cX_3_0 cX_3_1 cX_3_2 cX_3_3 cX_3_4 cX_3_5 cX_3_6 cKx_3_0 cKx_3_1 cKx_3_2 cKx_3_3 cKx_3_4 cKx_3_5 cKx_3_6 cKy_3_0 cKy_3_1 cKy_3_2 cKy_3_3 cKy_3_4 cKy_3_5 cKy_3_6 cKz_3_0 cKz_3_1 cKz_3_2 cKz_3_3 cKz_3_4 cKz_3_5 cKz_3_6
  go_wp2_with fail
  go_end0
  exact D.out

end Go.Proofs.YtlnllpehifkjhaaDoor
