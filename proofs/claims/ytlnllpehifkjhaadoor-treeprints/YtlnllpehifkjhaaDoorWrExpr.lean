/- Expressions, kind by kind. -/
import Derived.Test.YtlnllpehifkjhaaDoorWrShort
namespace Go.Proofs.YtlnllpehifkjhaaDoor
open Go.RowKit
set_option linter.unusedVariables false

theorem bytes_size (x : List UInt8) : (⟨x.toArray⟩ : ByteArray).size = x.length := by simp [ByteArray.size]

set_option maxHeartbeats 3200000 in
set_option maxRecDepth 100000 in
theorem wexpr9neg (n : Int) (s : ByteArray) (a1 : Option Addr) (c1 q1 : Nat) (t off q2 : Nat) (p : Int)  (x : Nd) (hxx : ExprW x) (xa1 : Option Addr) (xq1 : Nat) (xa2 : Option Addr) (xq2 : Nat) (B b : Nat) (l : List UInt8) (w : World) (W : Hid (Wr B b l w)) (O : Hid (Ok B w)) (htB : t < B) (Kx : Hid (NodeAt t (off) x.kind x.op x.num x.str (.slice xa1 x.names.length xq1) (.slice xa2 x.kids.length xq2) x.pl w)) (Fx : Hid (Fit B x (.slice xa1 x.names.length xq1) (.slice xa2 x.kids.length xq2) 1 w)) (hl : l.length + (45 :: tightT (textN x) 7).length ≤ 100000000) :
    Calls Tryd.prog 64 #[.pointer (some ⟨b, 0, none⟩), .agg #[.int .i64 9, .int .i64 1, .int .i64 n, .string s, .slice a1 c1 q1, .slice (some ⟨t, off, none⟩) 1 q2, .int .i64 p]] w (Done B b l (45 :: tightT (textN x) 7) w) := by
  have hlt := wr_lt W.out
  have hal := box1_below w (.cells #[.int .i64 9, .int .i64 1, .int .i64 n, .string s, .slice a1 c1 q1, .slice (some ⟨t, off, none⟩) 1 q2, .int .i64 p] 25)
  have N0 := hid (show Near B b w _ from Near.ofBelow hal O.out.1)
  have W0 := hid (wr_below W.out hal)
  have O0 := hid (ok_on O.out N0.out.below)
  have X0 := hid (box_new w 9 1 n s (.slice a1 c1 q1) (.slice (some ⟨t, off, none⟩) 1 q2) p)
  have htw : t < w.heap.size := Nat.lt_of_lt_of_le htB O.out.1
  have Fx0 := hid (fit_near Fx.out N0.out)
  have HXx := hid hxx
  have Kx0 := hid (nodeAt_on Kx.out htB N0.out.below)
  clear hal W O Fx hxx Kx
  obtain ⟨cKx_0_0, cKx_0_1, cKx_0_2, cKx_0_3, cKx_0_4, cKx_0_5, cKx_0_6⟩ := Kx0.out
  go_enter Tryd.func64, Tryd.ntmps64
  go_wp2_with fail
  refine (full_calls W0 (by omega)).mono ?_
  rintro e wf ⟨rfl, rfl⟩
  by_cases hfull : 2000 < l.length
  · rw [decide_eq_true hfull]
    have D := hid (done_mk W0.out (Wrote.none hfull (45 :: tightT (textN x) 7)) rfl N0.out)
    clear W0 N0 O0 X0 Fx0 Kx0 cKx_0_0 cKx_0_1 cKx_0_2 cKx_0_3 cKx_0_4 cKx_0_5 cKx_0_6
    go_wp2_with fail
    go_end0
    exact D.out
  rw [decide_eq_false hfull]
  clear hfull
  go_wp2_with fail
  refine (unary_neg n s a1 c1 q1 t off q2 p x HXx.out _ _ _ _ B b _ _ W0 O0 htB Kx0 Fx0 hl).mono ?_
  rintro e w1 ⟨rfl, l1, hW, hw, nn⟩
  have N1 := hid (N0.out.trans nn)
  have W1 := hid hW
  have O1 := hid (ok_on O0.out nn.below)
  have X1 := hid (box_near X0.out (by omega) nn)
  have Fx1 := hid (fit_near Fx0.out nn)
  have Kx1 := hid (nodeAt_on Kx0.out htB nn.below)
  clear W0 N0 O0 X0 Fx0 Kx0 nn hW cKx_0_0 cKx_0_1 cKx_0_2 cKx_0_3 cKx_0_4 cKx_0_5 cKx_0_6
  obtain ⟨cX_1_0, cX_1_1, cX_1_2, cX_1_3, cX_1_4, cX_1_5, cX_1_6⟩ := box_cells X1.out
  obtain ⟨cKx_1_0, cKx_1_1, cKx_1_2, cKx_1_3, cKx_1_4, cKx_1_5, cKx_1_6⟩ := Kx1.out
  have hlen1 := wrote_le hw
  have R1 := hid hw
  clear hw
  have D := hid (done_mk W1.out R1.out rfl N1.out)
  clear W1 N1 O1 R1 X1 Fx1 Kx1 cX_1_0 cX_1_1 cX_1_2 cX_1_3 cX_1_4 cX_1_5 cX_1_6 cKx_1_0 cKx_1_1 cKx_1_2 cKx_1_3 cKx_1_4 cKx_1_5 cKx_1_6
  go_wp2_with fail
  go_end0
  exact D.out

set_option maxHeartbeats 3200000 in
set_option maxRecDepth 100000 in
theorem wexpr9not (n : Int) (s : ByteArray) (a1 : Option Addr) (c1 q1 : Nat) (t off q2 : Nat) (p : Int)  (x : Nd) (hxx : ExprW x) (xa1 : Option Addr) (xq1 : Nat) (xa2 : Option Addr) (xq2 : Nat) (B b : Nat) (l : List UInt8) (w : World) (W : Hid (Wr B b l w)) (O : Hid (Ok B w)) (htB : t < B) (Kx : Hid (NodeAt t (off) x.kind x.op x.num x.str (.slice xa1 x.names.length xq1) (.slice xa2 x.kids.length xq2) x.pl w)) (Fx : Hid (Fit B x (.slice xa1 x.names.length xq1) (.slice xa2 x.kids.length xq2) 1 w)) (hl : l.length + (33 :: tightT (textN x) 7).length ≤ 100000000) :
    Calls Tryd.prog 64 #[.pointer (some ⟨b, 0, none⟩), .agg #[.int .i64 9, .int .i64 2, .int .i64 n, .string s, .slice a1 c1 q1, .slice (some ⟨t, off, none⟩) 1 q2, .int .i64 p]] w (Done B b l (33 :: tightT (textN x) 7) w) := by
  have hlt := wr_lt W.out
  have hal := box1_below w (.cells #[.int .i64 9, .int .i64 2, .int .i64 n, .string s, .slice a1 c1 q1, .slice (some ⟨t, off, none⟩) 1 q2, .int .i64 p] 25)
  have N0 := hid (show Near B b w _ from Near.ofBelow hal O.out.1)
  have W0 := hid (wr_below W.out hal)
  have O0 := hid (ok_on O.out N0.out.below)
  have X0 := hid (box_new w 9 2 n s (.slice a1 c1 q1) (.slice (some ⟨t, off, none⟩) 1 q2) p)
  have htw : t < w.heap.size := Nat.lt_of_lt_of_le htB O.out.1
  have Fx0 := hid (fit_near Fx.out N0.out)
  have HXx := hid hxx
  have Kx0 := hid (nodeAt_on Kx.out htB N0.out.below)
  clear hal W O Fx hxx Kx
  obtain ⟨cKx_0_0, cKx_0_1, cKx_0_2, cKx_0_3, cKx_0_4, cKx_0_5, cKx_0_6⟩ := Kx0.out
  go_enter Tryd.func64, Tryd.ntmps64
  go_wp2_with fail
  refine (full_calls W0 (by omega)).mono ?_
  rintro e wf ⟨rfl, rfl⟩
  by_cases hfull : 2000 < l.length
  · rw [decide_eq_true hfull]
    have D := hid (done_mk W0.out (Wrote.none hfull (33 :: tightT (textN x) 7)) rfl N0.out)
    clear W0 N0 O0 X0 Fx0 Kx0 cKx_0_0 cKx_0_1 cKx_0_2 cKx_0_3 cKx_0_4 cKx_0_5 cKx_0_6
    go_wp2_with fail
    go_end0
    exact D.out
  rw [decide_eq_false hfull]
  clear hfull
  go_wp2_with fail
  refine (unary_not n s a1 c1 q1 t off q2 p x HXx.out _ _ _ _ B b _ _ W0 O0 htB Kx0 Fx0 hl).mono ?_
  rintro e w1 ⟨rfl, l1, hW, hw, nn⟩
  have N1 := hid (N0.out.trans nn)
  have W1 := hid hW
  have O1 := hid (ok_on O0.out nn.below)
  have X1 := hid (box_near X0.out (by omega) nn)
  have Fx1 := hid (fit_near Fx0.out nn)
  have Kx1 := hid (nodeAt_on Kx0.out htB nn.below)
  clear W0 N0 O0 X0 Fx0 Kx0 nn hW cKx_0_0 cKx_0_1 cKx_0_2 cKx_0_3 cKx_0_4 cKx_0_5 cKx_0_6
  obtain ⟨cX_1_0, cX_1_1, cX_1_2, cX_1_3, cX_1_4, cX_1_5, cX_1_6⟩ := box_cells X1.out
  obtain ⟨cKx_1_0, cKx_1_1, cKx_1_2, cKx_1_3, cKx_1_4, cKx_1_5, cKx_1_6⟩ := Kx1.out
  have hlen1 := wrote_le hw
  have R1 := hid hw
  clear hw
  have D := hid (done_mk W1.out R1.out rfl N1.out)
  clear W1 N1 O1 R1 X1 Fx1 Kx1 cX_1_0 cX_1_1 cX_1_2 cX_1_3 cX_1_4 cX_1_5 cX_1_6 cKx_1_0 cKx_1_1 cKx_1_2 cKx_1_3 cKx_1_4 cKx_1_5 cKx_1_6
  go_wp2_with fail
  go_end0
  exact D.out

set_option maxHeartbeats 3200000 in
set_option maxRecDepth 100000 in
theorem wexpr10 (o : Int) (n : Int) (s : ByteArray) (a1 : Option Addr) (c1 q1 : Nat) (t off q2 : Nat) (p : Int) (sg : List UInt8) (hsgo : signT o = sg) (hsg : sg ≠ []) (hsl : sg.length ≤ 2) (x : Nd) (hxx : ExprW x) (xa1 : Option Addr) (xq1 : Nat) (xa2 : Option Addr) (xq2 : Nat) (y : Nd) (hxy : ExprW y) (ya1 : Option Addr) (yq1 : Nat) (ya2 : Option Addr) (yq2 : Nat) (B b : Nat) (l : List UInt8) (w : World) (W : Hid (Wr B b l w)) (O : Hid (Ok B w)) (htB : t < B) (Kx : Hid (NodeAt t (off) x.kind x.op x.num x.str (.slice xa1 x.names.length xq1) (.slice xa2 x.kids.length xq2) x.pl w)) (Fx : Hid (Fit B x (.slice xa1 x.names.length xq1) (.slice xa2 x.kids.length xq2) 1 w)) (Ky : Hid (NodeAt t (off + 7) y.kind y.op y.num y.str (.slice ya1 y.names.length yq1) (.slice ya2 y.kids.length yq2) y.pl w)) (Fy : Hid (Fit B y (.slice ya1 y.names.length yq1) (.slice ya2 y.kids.length yq2) 1 w)) (hl : l.length + (betweenT (rankT 10 o) sg (textN x) (textN y)).length ≤ 100000000) :
    Calls Tryd.prog 64 #[.pointer (some ⟨b, 0, none⟩), .agg #[.int .i64 10, .int .i64 o, .int .i64 n, .string s, .slice a1 c1 q1, .slice (some ⟨t, off, none⟩) 2 q2, .int .i64 p]] w (Done B b l (betweenT (rankT 10 o) sg (textN x) (textN y)) w) := by
  have hlt := wr_lt W.out
  have hal := box1_below w (.cells #[.int .i64 10, .int .i64 o, .int .i64 n, .string s, .slice a1 c1 q1, .slice (some ⟨t, off, none⟩) 2 q2, .int .i64 p] 25)
  have N0 := hid (show Near B b w _ from Near.ofBelow hal O.out.1)
  have W0 := hid (wr_below W.out hal)
  have O0 := hid (ok_on O.out N0.out.below)
  have X0 := hid (box_new w 10 o n s (.slice a1 c1 q1) (.slice (some ⟨t, off, none⟩) 2 q2) p)
  have htw : t < w.heap.size := Nat.lt_of_lt_of_le htB O.out.1
  have Fx0 := hid (fit_near Fx.out N0.out)
  have HXx := hid hxx
  have Kx0 := hid (nodeAt_on Kx.out htB N0.out.below)
  have Fy0 := hid (fit_near Fy.out N0.out)
  have HXy := hid hxy
  have Ky0 := hid (nodeAt_on Ky.out htB N0.out.below)
  clear hal W O Fx hxx Kx Fy hxy Ky
  have HSG := hid hsgo
  clear hsgo
  obtain ⟨cKx_0_0, cKx_0_1, cKx_0_2, cKx_0_3, cKx_0_4, cKx_0_5, cKx_0_6⟩ := Kx0.out
  obtain ⟨cKy_0_0, cKy_0_1, cKy_0_2, cKy_0_3, cKy_0_4, cKy_0_5, cKy_0_6⟩ := Ky0.out
  go_enter Tryd.func64, Tryd.ntmps64
  go_wp2_with fail
  refine (full_calls W0 (by omega)).mono ?_
  rintro e wf ⟨rfl, rfl⟩
  by_cases hfull : 2000 < l.length
  · rw [decide_eq_true hfull]
    have D := hid (done_mk W0.out (Wrote.none hfull (betweenT (rankT 10 o) sg (textN x) (textN y))) rfl N0.out)
    clear W0 N0 O0 X0 Fx0 Kx0 Fy0 Ky0 cKx_0_0 cKx_0_1 cKx_0_2 cKx_0_3 cKx_0_4 cKx_0_5 cKx_0_6 cKy_0_0 cKy_0_1 cKy_0_2 cKy_0_3 cKy_0_4 cKy_0_5 cKy_0_6
    go_wp2_with fail
    go_end0
    exact D.out
  rw [decide_eq_false hfull]
  clear hfull
  have S0 := hid (nearBKK_mk N0.out X0.out (by omega) htB Kx0.out htB Ky0.out)
  go_wp2_with fail
  go_region_held3 (fun a => (Near B b w a ∧ Box w.heap.size 10 o n s (.slice a1 c1 q1) (.slice (some ⟨t, off, none⟩) 2 q2) p a ∧ w.heap.size ≠ b ∧ t < B ∧ NodeAt t (off) x.kind x.op x.num x.str (.slice xa1 x.names.length xq1) (.slice xa2 x.kids.length xq2) x.pl a ∧ t < B ∧ NodeAt t (off + 7) y.kind y.op y.num y.str (.slice ya1 y.names.length yq1) (.slice ya2 y.kids.length yq2) y.pl a) ∧ a.cell? ⟨w.heap.size, 0, none⟩ = some (.int .i64 10) ∧ a.cell? ⟨w.heap.size, 1, none⟩ = some (.int .i64 o) ∧ a.cell? ⟨w.heap.size, 2, none⟩ = some (.int .i64 n) ∧ a.cell? ⟨w.heap.size, 3, none⟩ = some (.string s) ∧ a.cell? ⟨w.heap.size, 4, none⟩ = some (.slice a1 c1 q1) ∧ a.cell? ⟨w.heap.size, 5, none⟩ = some (.slice (some ⟨t, off, none⟩) 2 q2) ∧ a.cell? ⟨w.heap.size, 6, none⟩ = some (.int .i64 p) ∧ a.cell? ⟨t, off, none⟩ = some (.int .i64 x.kind) ∧ a.cell? ⟨t, off + 1, none⟩ = some (.int .i64 x.op) ∧ a.cell? ⟨t, off + 2, none⟩ = some (.int .i64 x.num) ∧ a.cell? ⟨t, off + 3, none⟩ = some (.string x.str) ∧ a.cell? ⟨t, off + 4, none⟩ = some (.slice xa1 x.names.length xq1) ∧ a.cell? ⟨t, off + 5, none⟩ = some (.slice xa2 x.kids.length xq2) ∧ a.cell? ⟨t, off + 6, none⟩ = some (.int .i64 x.pl) ∧ a.cell? ⟨t, off + 7, none⟩ = some (.int .i64 y.kind) ∧ a.cell? ⟨t, off + 7 + 1, none⟩ = some (.int .i64 y.op) ∧ a.cell? ⟨t, off + 7 + 2, none⟩ = some (.int .i64 y.num) ∧ a.cell? ⟨t, off + 7 + 3, none⟩ = some (.string y.str) ∧ a.cell? ⟨t, off + 7 + 4, none⟩ = some (.slice ya1 y.names.length yq1) ∧ a.cell? ⟨t, off + 7 + 5, none⟩ = some (.slice ya2 y.kids.length yq2) ∧ a.cell? ⟨t, off + 7 + 6, none⟩ = some (.int .i64 y.pl))
    (first | assumption | exact nearBKK (by assumption) nn | exact nearBKK S0.out (near_draw _ _ _) | exact nearBKK (by assumption) (near_draw _ _ _))
    (first
      | (go_at_call 75; refine (sign_calls o B _ (hid (ok_on O0.out (near_draw B b _).below))).mono ?_; rintro e wx ⟨he, hwe⟩; rw [HSG.out] at he; subst he; subst hwe)
      | (go_at_call 83; refine (between_calls 10 o n s a1 c1 q1 t off q2 p sg hsg (by omega) x HXx.out _ _ _ _ y HXy.out _ _ _ _ B b _ _ (hid (wr_drew W0.out)) (hid (ok_on O0.out (near_draw B b _).below)) htB (hid (nodeAt_on Kx0.out htB (near_draw B b _).below)) (hid (fit_near Fx0.out (near_draw B b _))) (hid (nodeAt_on Ky0.out htB (near_draw B b _).below)) (hid (fit_near Fy0.out (near_draw B b _))) hl).mono ?_; rintro e wx ⟨rfl, l1, hW, hw, nn⟩))
  rename_i hz
  clear hz S0
  replace nn := (near_draw B b _).trans nn
  have N1 := hid (N0.out.trans nn)
  have W1 := hid hW
  have O1 := hid (ok_on O0.out nn.below)
  have X1 := hid (box_near X0.out (by omega) nn)
  have Fx1 := hid (fit_near Fx0.out nn)
  have Kx1 := hid (nodeAt_on Kx0.out htB nn.below)
  have Fy1 := hid (fit_near Fy0.out nn)
  have Ky1 := hid (nodeAt_on Ky0.out htB nn.below)
  clear W0 N0 O0 X0 Fx0 Kx0 Fy0 Ky0 nn hW cKx_0_0 cKx_0_1 cKx_0_2 cKx_0_3 cKx_0_4 cKx_0_5 cKx_0_6 cKy_0_0 cKy_0_1 cKy_0_2 cKy_0_3 cKy_0_4 cKy_0_5 cKy_0_6
  obtain ⟨cX_1_0, cX_1_1, cX_1_2, cX_1_3, cX_1_4, cX_1_5, cX_1_6⟩ := box_cells X1.out
  obtain ⟨cKx_1_0, cKx_1_1, cKx_1_2, cKx_1_3, cKx_1_4, cKx_1_5, cKx_1_6⟩ := Kx1.out
  obtain ⟨cKy_1_0, cKy_1_1, cKy_1_2, cKy_1_3, cKy_1_4, cKy_1_5, cKy_1_6⟩ := Ky1.out
  have hlen1 := wrote_le hw
  have R1 := hid hw
  clear hw
  have D := hid (done_mk W1.out R1.out rfl N1.out)
  clear W1 N1 O1 R1 X1 Fx1 Kx1 Fy1 Ky1 cX_1_0 cX_1_1 cX_1_2 cX_1_3 cX_1_4 cX_1_5 cX_1_6 cKx_1_0 cKx_1_1 cKx_1_2 cKx_1_3 cKx_1_4 cKx_1_5 cKx_1_6 cKy_1_0 cKy_1_1 cKy_1_2 cKy_1_3 cKy_1_4 cKy_1_5 cKy_1_6
  go_wp2_with fail
  go_end0
  exact D.out

set_option maxHeartbeats 3200000 in
set_option maxRecDepth 100000 in
theorem wexpr11 (o : Int) (n : Int) (s : ByteArray) (a1 : Option Addr) (c1 q1 : Nat) (t off q2 : Nat) (p : Int)  (x : Nd) (hxx : ExprW x) (xa1 : Option Addr) (xq1 : Nat) (xa2 : Option Addr) (xq2 : Nat) (y : Nd) (hxy : ExprW y) (ya1 : Option Addr) (yq1 : Nat) (ya2 : Option Addr) (yq2 : Nat) (B b : Nat) (l : List UInt8) (w : World) (W : Hid (Wr B b l w)) (O : Hid (Ok B w)) (htB : t < B) (Kx : Hid (NodeAt t (off) x.kind x.op x.num x.str (.slice xa1 x.names.length xq1) (.slice xa2 x.kids.length xq2) x.pl w)) (Fx : Hid (Fit B x (.slice xa1 x.names.length xq1) (.slice xa2 x.kids.length xq2) 1 w)) (Ky : Hid (NodeAt t (off + 7) y.kind y.op y.num y.str (.slice ya1 y.names.length yq1) (.slice ya2 y.kids.length yq2) y.pl w)) (Fy : Hid (Fit B y (.slice ya1 y.names.length yq1) (.slice ya2 y.kids.length yq2) 1 w)) (hl : l.length + (betweenT (rankT 11 o) [38, 38] (textN x) (textN y)).length ≤ 100000000) :
    Calls Tryd.prog 64 #[.pointer (some ⟨b, 0, none⟩), .agg #[.int .i64 11, .int .i64 o, .int .i64 n, .string s, .slice a1 c1 q1, .slice (some ⟨t, off, none⟩) 2 q2, .int .i64 p]] w (Done B b l (betweenT (rankT 11 o) [38, 38] (textN x) (textN y)) w) := by
  have hlt := wr_lt W.out
  have hal := box1_below w (.cells #[.int .i64 11, .int .i64 o, .int .i64 n, .string s, .slice a1 c1 q1, .slice (some ⟨t, off, none⟩) 2 q2, .int .i64 p] 25)
  have N0 := hid (show Near B b w _ from Near.ofBelow hal O.out.1)
  have W0 := hid (wr_below W.out hal)
  have O0 := hid (ok_on O.out N0.out.below)
  have X0 := hid (box_new w 11 o n s (.slice a1 c1 q1) (.slice (some ⟨t, off, none⟩) 2 q2) p)
  have htw : t < w.heap.size := Nat.lt_of_lt_of_le htB O.out.1
  have Fx0 := hid (fit_near Fx.out N0.out)
  have HXx := hid hxx
  have Kx0 := hid (nodeAt_on Kx.out htB N0.out.below)
  have Fy0 := hid (fit_near Fy.out N0.out)
  have HXy := hid hxy
  have Ky0 := hid (nodeAt_on Ky.out htB N0.out.below)
  clear hal W O Fx hxx Kx Fy hxy Ky
  obtain ⟨cKx_0_0, cKx_0_1, cKx_0_2, cKx_0_3, cKx_0_4, cKx_0_5, cKx_0_6⟩ := Kx0.out
  obtain ⟨cKy_0_0, cKy_0_1, cKy_0_2, cKy_0_3, cKy_0_4, cKy_0_5, cKy_0_6⟩ := Ky0.out
  go_enter Tryd.func64, Tryd.ntmps64
  go_wp2_with fail
  refine (full_calls W0 (by omega)).mono ?_
  rintro e wf ⟨rfl, rfl⟩
  by_cases hfull : 2000 < l.length
  · rw [decide_eq_true hfull]
    have D := hid (done_mk W0.out (Wrote.none hfull (betweenT (rankT 11 o) [38, 38] (textN x) (textN y))) rfl N0.out)
    clear W0 N0 O0 X0 Fx0 Kx0 Fy0 Ky0 cKx_0_0 cKx_0_1 cKx_0_2 cKx_0_3 cKx_0_4 cKx_0_5 cKx_0_6 cKy_0_0 cKy_0_1 cKy_0_2 cKy_0_3 cKy_0_4 cKy_0_5 cKy_0_6
    go_wp2_with fail
    go_end0
    exact D.out
  rw [decide_eq_false hfull]
  clear hfull
  go_wp2_with fail
  refine (between_calls 11 o n s a1 c1 q1 t off q2 p [38, 38] (by simp) (by decide) x HXx.out _ _ _ _ y HXy.out _ _ _ _ B b _ _ W0 O0 htB Kx0 Fx0 Ky0 Fy0 hl).mono ?_
  rintro e w1 ⟨rfl, l1, hW, hw, nn⟩
  have N1 := hid (N0.out.trans nn)
  have W1 := hid hW
  have O1 := hid (ok_on O0.out nn.below)
  have X1 := hid (box_near X0.out (by omega) nn)
  have Fx1 := hid (fit_near Fx0.out nn)
  have Kx1 := hid (nodeAt_on Kx0.out htB nn.below)
  have Fy1 := hid (fit_near Fy0.out nn)
  have Ky1 := hid (nodeAt_on Ky0.out htB nn.below)
  clear W0 N0 O0 X0 Fx0 Kx0 Fy0 Ky0 nn hW cKx_0_0 cKx_0_1 cKx_0_2 cKx_0_3 cKx_0_4 cKx_0_5 cKx_0_6 cKy_0_0 cKy_0_1 cKy_0_2 cKy_0_3 cKy_0_4 cKy_0_5 cKy_0_6
  obtain ⟨cX_1_0, cX_1_1, cX_1_2, cX_1_3, cX_1_4, cX_1_5, cX_1_6⟩ := box_cells X1.out
  obtain ⟨cKx_1_0, cKx_1_1, cKx_1_2, cKx_1_3, cKx_1_4, cKx_1_5, cKx_1_6⟩ := Kx1.out
  obtain ⟨cKy_1_0, cKy_1_1, cKy_1_2, cKy_1_3, cKy_1_4, cKy_1_5, cKy_1_6⟩ := Ky1.out
  have hlen1 := wrote_le hw
  have R1 := hid hw
  clear hw
  have D := hid (done_mk W1.out R1.out rfl N1.out)
  clear W1 N1 O1 R1 X1 Fx1 Kx1 Fy1 Ky1 cX_1_0 cX_1_1 cX_1_2 cX_1_3 cX_1_4 cX_1_5 cX_1_6 cKx_1_0 cKx_1_1 cKx_1_2 cKx_1_3 cKx_1_4 cKx_1_5 cKx_1_6 cKy_1_0 cKy_1_1 cKy_1_2 cKy_1_3 cKy_1_4 cKy_1_5 cKy_1_6
  go_wp2_with fail
  go_end0
  exact D.out

set_option maxHeartbeats 3200000 in
set_option maxRecDepth 100000 in
theorem wexpr12 (o : Int) (n : Int) (s : ByteArray) (a1 : Option Addr) (c1 q1 : Nat) (t off q2 : Nat) (p : Int)  (x : Nd) (hxx : ExprW x) (xa1 : Option Addr) (xq1 : Nat) (xa2 : Option Addr) (xq2 : Nat) (y : Nd) (hxy : ExprW y) (ya1 : Option Addr) (yq1 : Nat) (ya2 : Option Addr) (yq2 : Nat) (B b : Nat) (l : List UInt8) (w : World) (W : Hid (Wr B b l w)) (O : Hid (Ok B w)) (htB : t < B) (Kx : Hid (NodeAt t (off) x.kind x.op x.num x.str (.slice xa1 x.names.length xq1) (.slice xa2 x.kids.length xq2) x.pl w)) (Fx : Hid (Fit B x (.slice xa1 x.names.length xq1) (.slice xa2 x.kids.length xq2) 1 w)) (Ky : Hid (NodeAt t (off + 7) y.kind y.op y.num y.str (.slice ya1 y.names.length yq1) (.slice ya2 y.kids.length yq2) y.pl w)) (Fy : Hid (Fit B y (.slice ya1 y.names.length yq1) (.slice ya2 y.kids.length yq2) 1 w)) (hl : l.length + (betweenT (rankT 12 o) [124, 124] (textN x) (textN y)).length ≤ 100000000) :
    Calls Tryd.prog 64 #[.pointer (some ⟨b, 0, none⟩), .agg #[.int .i64 12, .int .i64 o, .int .i64 n, .string s, .slice a1 c1 q1, .slice (some ⟨t, off, none⟩) 2 q2, .int .i64 p]] w (Done B b l (betweenT (rankT 12 o) [124, 124] (textN x) (textN y)) w) := by
  have hlt := wr_lt W.out
  have hal := box1_below w (.cells #[.int .i64 12, .int .i64 o, .int .i64 n, .string s, .slice a1 c1 q1, .slice (some ⟨t, off, none⟩) 2 q2, .int .i64 p] 25)
  have N0 := hid (show Near B b w _ from Near.ofBelow hal O.out.1)
  have W0 := hid (wr_below W.out hal)
  have O0 := hid (ok_on O.out N0.out.below)
  have X0 := hid (box_new w 12 o n s (.slice a1 c1 q1) (.slice (some ⟨t, off, none⟩) 2 q2) p)
  have htw : t < w.heap.size := Nat.lt_of_lt_of_le htB O.out.1
  have Fx0 := hid (fit_near Fx.out N0.out)
  have HXx := hid hxx
  have Kx0 := hid (nodeAt_on Kx.out htB N0.out.below)
  have Fy0 := hid (fit_near Fy.out N0.out)
  have HXy := hid hxy
  have Ky0 := hid (nodeAt_on Ky.out htB N0.out.below)
  clear hal W O Fx hxx Kx Fy hxy Ky
  obtain ⟨cKx_0_0, cKx_0_1, cKx_0_2, cKx_0_3, cKx_0_4, cKx_0_5, cKx_0_6⟩ := Kx0.out
  obtain ⟨cKy_0_0, cKy_0_1, cKy_0_2, cKy_0_3, cKy_0_4, cKy_0_5, cKy_0_6⟩ := Ky0.out
  go_enter Tryd.func64, Tryd.ntmps64
  go_wp2_with fail
  refine (full_calls W0 (by omega)).mono ?_
  rintro e wf ⟨rfl, rfl⟩
  by_cases hfull : 2000 < l.length
  · rw [decide_eq_true hfull]
    have D := hid (done_mk W0.out (Wrote.none hfull (betweenT (rankT 12 o) [124, 124] (textN x) (textN y))) rfl N0.out)
    clear W0 N0 O0 X0 Fx0 Kx0 Fy0 Ky0 cKx_0_0 cKx_0_1 cKx_0_2 cKx_0_3 cKx_0_4 cKx_0_5 cKx_0_6 cKy_0_0 cKy_0_1 cKy_0_2 cKy_0_3 cKy_0_4 cKy_0_5 cKy_0_6
    go_wp2_with fail
    go_end0
    exact D.out
  rw [decide_eq_false hfull]
  clear hfull
  go_wp2_with fail
  refine (between_calls 12 o n s a1 c1 q1 t off q2 p [124, 124] (by simp) (by decide) x HXx.out _ _ _ _ y HXy.out _ _ _ _ B b _ _ W0 O0 htB Kx0 Fx0 Ky0 Fy0 hl).mono ?_
  rintro e w1 ⟨rfl, l1, hW, hw, nn⟩
  have N1 := hid (N0.out.trans nn)
  have W1 := hid hW
  have O1 := hid (ok_on O0.out nn.below)
  have X1 := hid (box_near X0.out (by omega) nn)
  have Fx1 := hid (fit_near Fx0.out nn)
  have Kx1 := hid (nodeAt_on Kx0.out htB nn.below)
  have Fy1 := hid (fit_near Fy0.out nn)
  have Ky1 := hid (nodeAt_on Ky0.out htB nn.below)
  clear W0 N0 O0 X0 Fx0 Kx0 Fy0 Ky0 nn hW cKx_0_0 cKx_0_1 cKx_0_2 cKx_0_3 cKx_0_4 cKx_0_5 cKx_0_6 cKy_0_0 cKy_0_1 cKy_0_2 cKy_0_3 cKy_0_4 cKy_0_5 cKy_0_6
  obtain ⟨cX_1_0, cX_1_1, cX_1_2, cX_1_3, cX_1_4, cX_1_5, cX_1_6⟩ := box_cells X1.out
  obtain ⟨cKx_1_0, cKx_1_1, cKx_1_2, cKx_1_3, cKx_1_4, cKx_1_5, cKx_1_6⟩ := Kx1.out
  obtain ⟨cKy_1_0, cKy_1_1, cKy_1_2, cKy_1_3, cKy_1_4, cKy_1_5, cKy_1_6⟩ := Ky1.out
  have hlen1 := wrote_le hw
  have R1 := hid hw
  clear hw
  have D := hid (done_mk W1.out R1.out rfl N1.out)
  clear W1 N1 O1 R1 X1 Fx1 Kx1 Fy1 Ky1 cX_1_0 cX_1_1 cX_1_2 cX_1_3 cX_1_4 cX_1_5 cX_1_6 cKx_1_0 cKx_1_1 cKx_1_2 cKx_1_3 cKx_1_4 cKx_1_5 cKx_1_6 cKy_1_0 cKy_1_1 cKy_1_2 cKy_1_3 cKy_1_4 cKy_1_5 cKy_1_6
  go_wp2_with fail
  go_end0
  exact D.out

set_option maxHeartbeats 3200000 in
set_option maxRecDepth 100000 in
theorem wexpr13 (o : Int) (n : Int) (s : ByteArray) (a1 : Option Addr) (c1 q1 : Nat) (t off q2 : Nat) (p : Int) (hs0 : s.data.toList ≠ []) (hs : s.size ≤ 1000000) (x : Nd) (hxx : ExprW x) (xa1 : Option Addr) (xq1 : Nat) (xa2 : Option Addr) (xq2 : Nat) (B b : Nat) (l : List UInt8) (w : World) (W : Hid (Wr B b l w)) (O : Hid (Ok B w)) (htB : t < B) (Kx : Hid (NodeAt t (off) x.kind x.op x.num x.str (.slice xa1 x.names.length xq1) (.slice xa2 x.kids.length xq2) x.pl w)) (Fx : Hid (Fit B x (.slice xa1 x.names.length xq1) (.slice xa2 x.kids.length xq2) 1 w)) (hl : l.length + (getT (textN x) s).length ≤ 100000000) :
    Calls Tryd.prog 64 #[.pointer (some ⟨b, 0, none⟩), .agg #[.int .i64 13, .int .i64 o, .int .i64 n, .string s, .slice a1 c1 q1, .slice (some ⟨t, off, none⟩) 1 q2, .int .i64 p]] w (Done B b l (getT (textN x) s) w) := by
  have hlt := wr_lt W.out
  have hal := box1_below w (.cells #[.int .i64 13, .int .i64 o, .int .i64 n, .string s, .slice a1 c1 q1, .slice (some ⟨t, off, none⟩) 1 q2, .int .i64 p] 25)
  have N0 := hid (show Near B b w _ from Near.ofBelow hal O.out.1)
  have W0 := hid (wr_below W.out hal)
  have O0 := hid (ok_on O.out N0.out.below)
  have X0 := hid (box_new w 13 o n s (.slice a1 c1 q1) (.slice (some ⟨t, off, none⟩) 1 q2) p)
  have htw : t < w.heap.size := Nat.lt_of_lt_of_le htB O.out.1
  have Fx0 := hid (fit_near Fx.out N0.out)
  have HXx := hid hxx
  have Kx0 := hid (nodeAt_on Kx.out htB N0.out.below)
  clear hal W O Fx hxx Kx
  obtain ⟨cKx_0_0, cKx_0_1, cKx_0_2, cKx_0_3, cKx_0_4, cKx_0_5, cKx_0_6⟩ := Kx0.out
  go_enter Tryd.func64, Tryd.ntmps64
  go_wp2_with fail
  refine (full_calls W0 (by omega)).mono ?_
  rintro e wf ⟨rfl, rfl⟩
  by_cases hfull : 2000 < l.length
  · rw [decide_eq_true hfull]
    have D := hid (done_mk W0.out (Wrote.none hfull (getT (textN x) s)) rfl N0.out)
    clear W0 N0 O0 X0 Fx0 Kx0 cKx_0_0 cKx_0_1 cKx_0_2 cKx_0_3 cKx_0_4 cKx_0_5 cKx_0_6
    go_wp2_with fail
    go_end0
    exact D.out
  rw [decide_eq_false hfull]
  clear hfull
  have S0 := hid (nearBK_mk N0.out X0.out (by omega) htB Kx0.out)
  go_wp2_with fail
  go_region_held3 (fun a => (Near B b w a ∧ Box w.heap.size 13 o n s (.slice a1 c1 q1) (.slice (some ⟨t, off, none⟩) 1 q2) p a ∧ w.heap.size ≠ b ∧ t < B ∧ NodeAt t (off) x.kind x.op x.num x.str (.slice xa1 x.names.length xq1) (.slice xa2 x.kids.length xq2) x.pl a) ∧ a.cell? ⟨w.heap.size, 0, none⟩ = some (.int .i64 13) ∧ a.cell? ⟨w.heap.size, 1, none⟩ = some (.int .i64 o) ∧ a.cell? ⟨w.heap.size, 2, none⟩ = some (.int .i64 n) ∧ a.cell? ⟨w.heap.size, 3, none⟩ = some (.string s) ∧ a.cell? ⟨w.heap.size, 4, none⟩ = some (.slice a1 c1 q1) ∧ a.cell? ⟨w.heap.size, 5, none⟩ = some (.slice (some ⟨t, off, none⟩) 1 q2) ∧ a.cell? ⟨w.heap.size, 6, none⟩ = some (.int .i64 p) ∧ a.cell? ⟨t, off, none⟩ = some (.int .i64 x.kind) ∧ a.cell? ⟨t, off + 1, none⟩ = some (.int .i64 x.op) ∧ a.cell? ⟨t, off + 2, none⟩ = some (.int .i64 x.num) ∧ a.cell? ⟨t, off + 3, none⟩ = some (.string x.str) ∧ a.cell? ⟨t, off + 4, none⟩ = some (.slice xa1 x.names.length xq1) ∧ a.cell? ⟨t, off + 5, none⟩ = some (.slice xa2 x.kids.length xq2) ∧ a.cell? ⟨t, off + 6, none⟩ = some (.int .i64 x.pl))
    (first | assumption | exact nearBK (by assumption) nn | exact nearBK S0.out (near_draw _ _ _) | exact nearBK (by assumption) (near_draw _ _ _))
    (first
      | (go_at_call 66; refine (get_calls x HXx.out _ _ _ _ s hs0 (by omega) B b _ _ (hid (wr_drew W0.out)) (hid (ok_on O0.out (near_draw B b _).below)) (hid (fit_near Fx0.out (near_draw B b _))) (by omega)).mono ?_; rintro e wx ⟨rfl, l1, hW, hw, nn⟩))
  rename_i hz
  clear hz S0
  replace nn := (near_draw B b _).trans nn
  have N1 := hid (N0.out.trans nn)
  have W1 := hid hW
  have O1 := hid (ok_on O0.out nn.below)
  have X1 := hid (box_near X0.out (by omega) nn)
  have Fx1 := hid (fit_near Fx0.out nn)
  have Kx1 := hid (nodeAt_on Kx0.out htB nn.below)
  clear W0 N0 O0 X0 Fx0 Kx0 nn hW cKx_0_0 cKx_0_1 cKx_0_2 cKx_0_3 cKx_0_4 cKx_0_5 cKx_0_6
  obtain ⟨cX_1_0, cX_1_1, cX_1_2, cX_1_3, cX_1_4, cX_1_5, cX_1_6⟩ := box_cells X1.out
  obtain ⟨cKx_1_0, cKx_1_1, cKx_1_2, cKx_1_3, cKx_1_4, cKx_1_5, cKx_1_6⟩ := Kx1.out
  have hlen1 := wrote_le hw
  have R1 := hid hw
  clear hw
  have D := hid (done_mk W1.out R1.out (show getT (textN x) s = getT (textN x) s by first | rfl | simp only [List.append_assoc, List.cons_append, List.nil_append]) N1.out)
  clear W1 N1 O1 R1 X1 Fx1 Kx1 cX_1_0 cX_1_1 cX_1_2 cX_1_3 cX_1_4 cX_1_5 cX_1_6 cKx_1_0 cKx_1_1 cKx_1_2 cKx_1_3 cKx_1_4 cKx_1_5 cKx_1_6
  go_wp2_with fail
  go_end0
  exact D.out

set_option maxHeartbeats 3200000 in
set_option maxRecDepth 100000 in
theorem wexpr14 (o : Int) (n : Int) (s : ByteArray) (a1 : Option Addr) (c1 q1 : Nat) (t off q2 : Nat) (p : Int)  (x : Nd) (hxx : ExprW x) (xa1 : Option Addr) (xq1 : Nat) (xa2 : Option Addr) (xq2 : Nat) (y : Nd) (hxy : ExprW y) (ya1 : Option Addr) (yq1 : Nat) (ya2 : Option Addr) (yq2 : Nat) (B b : Nat) (l : List UInt8) (w : World) (W : Hid (Wr B b l w)) (O : Hid (Ok B w)) (htB : t < B) (Kx : Hid (NodeAt t (off) x.kind x.op x.num x.str (.slice xa1 x.names.length xq1) (.slice xa2 x.kids.length xq2) x.pl w)) (Fx : Hid (Fit B x (.slice xa1 x.names.length xq1) (.slice xa2 x.kids.length xq2) 1 w)) (Ky : Hid (NodeAt t (off + 7) y.kind y.op y.num y.str (.slice ya1 y.names.length yq1) (.slice ya2 y.kids.length yq2) y.pl w)) (Fy : Hid (Fit B y (.slice ya1 y.names.length yq1) (.slice ya2 y.kids.length yq2) 1 w)) (hl : l.length + (indexT (textN x) (textN y)).length ≤ 100000000) :
    Calls Tryd.prog 64 #[.pointer (some ⟨b, 0, none⟩), .agg #[.int .i64 14, .int .i64 o, .int .i64 n, .string s, .slice a1 c1 q1, .slice (some ⟨t, off, none⟩) 2 q2, .int .i64 p]] w (Done B b l (indexT (textN x) (textN y)) w) := by
  have hlt := wr_lt W.out
  have hal := box1_below w (.cells #[.int .i64 14, .int .i64 o, .int .i64 n, .string s, .slice a1 c1 q1, .slice (some ⟨t, off, none⟩) 2 q2, .int .i64 p] 25)
  have N0 := hid (show Near B b w _ from Near.ofBelow hal O.out.1)
  have W0 := hid (wr_below W.out hal)
  have O0 := hid (ok_on O.out N0.out.below)
  have X0 := hid (box_new w 14 o n s (.slice a1 c1 q1) (.slice (some ⟨t, off, none⟩) 2 q2) p)
  have htw : t < w.heap.size := Nat.lt_of_lt_of_le htB O.out.1
  have Fx0 := hid (fit_near Fx.out N0.out)
  have HXx := hid hxx
  have Kx0 := hid (nodeAt_on Kx.out htB N0.out.below)
  have Fy0 := hid (fit_near Fy.out N0.out)
  have HXy := hid hxy
  have Ky0 := hid (nodeAt_on Ky.out htB N0.out.below)
  clear hal W O Fx hxx Kx Fy hxy Ky
  obtain ⟨cKx_0_0, cKx_0_1, cKx_0_2, cKx_0_3, cKx_0_4, cKx_0_5, cKx_0_6⟩ := Kx0.out
  obtain ⟨cKy_0_0, cKy_0_1, cKy_0_2, cKy_0_3, cKy_0_4, cKy_0_5, cKy_0_6⟩ := Ky0.out
  go_enter Tryd.func64, Tryd.ntmps64
  go_wp2_with fail
  refine (full_calls W0 (by omega)).mono ?_
  rintro e wf ⟨rfl, rfl⟩
  by_cases hfull : 2000 < l.length
  · rw [decide_eq_true hfull]
    have D := hid (done_mk W0.out (Wrote.none hfull (indexT (textN x) (textN y))) rfl N0.out)
    clear W0 N0 O0 X0 Fx0 Kx0 Fy0 Ky0 cKx_0_0 cKx_0_1 cKx_0_2 cKx_0_3 cKx_0_4 cKx_0_5 cKx_0_6 cKy_0_0 cKy_0_1 cKy_0_2 cKy_0_3 cKy_0_4 cKy_0_5 cKy_0_6
    go_wp2_with fail
    go_end0
    exact D.out
  rw [decide_eq_false hfull]
  clear hfull
  have S0 := hid (nearBKK_mk N0.out X0.out (by omega) htB Kx0.out htB Ky0.out)
  go_wp2_with fail
  go_region_held3 (fun a => (Near B b w a ∧ Box w.heap.size 14 o n s (.slice a1 c1 q1) (.slice (some ⟨t, off, none⟩) 2 q2) p a ∧ w.heap.size ≠ b ∧ t < B ∧ NodeAt t (off) x.kind x.op x.num x.str (.slice xa1 x.names.length xq1) (.slice xa2 x.kids.length xq2) x.pl a ∧ t < B ∧ NodeAt t (off + 7) y.kind y.op y.num y.str (.slice ya1 y.names.length yq1) (.slice ya2 y.kids.length yq2) y.pl a) ∧ a.cell? ⟨w.heap.size, 0, none⟩ = some (.int .i64 14) ∧ a.cell? ⟨w.heap.size, 1, none⟩ = some (.int .i64 o) ∧ a.cell? ⟨w.heap.size, 2, none⟩ = some (.int .i64 n) ∧ a.cell? ⟨w.heap.size, 3, none⟩ = some (.string s) ∧ a.cell? ⟨w.heap.size, 4, none⟩ = some (.slice a1 c1 q1) ∧ a.cell? ⟨w.heap.size, 5, none⟩ = some (.slice (some ⟨t, off, none⟩) 2 q2) ∧ a.cell? ⟨w.heap.size, 6, none⟩ = some (.int .i64 p) ∧ a.cell? ⟨t, off, none⟩ = some (.int .i64 x.kind) ∧ a.cell? ⟨t, off + 1, none⟩ = some (.int .i64 x.op) ∧ a.cell? ⟨t, off + 2, none⟩ = some (.int .i64 x.num) ∧ a.cell? ⟨t, off + 3, none⟩ = some (.string x.str) ∧ a.cell? ⟨t, off + 4, none⟩ = some (.slice xa1 x.names.length xq1) ∧ a.cell? ⟨t, off + 5, none⟩ = some (.slice xa2 x.kids.length xq2) ∧ a.cell? ⟨t, off + 6, none⟩ = some (.int .i64 x.pl) ∧ a.cell? ⟨t, off + 7, none⟩ = some (.int .i64 y.kind) ∧ a.cell? ⟨t, off + 7 + 1, none⟩ = some (.int .i64 y.op) ∧ a.cell? ⟨t, off + 7 + 2, none⟩ = some (.int .i64 y.num) ∧ a.cell? ⟨t, off + 7 + 3, none⟩ = some (.string y.str) ∧ a.cell? ⟨t, off + 7 + 4, none⟩ = some (.slice ya1 y.names.length yq1) ∧ a.cell? ⟨t, off + 7 + 5, none⟩ = some (.slice ya2 y.kids.length yq2) ∧ a.cell? ⟨t, off + 7 + 6, none⟩ = some (.int .i64 y.pl))
    (first | assumption | exact nearBKK (by assumption) nn | exact nearBKK S0.out (near_draw _ _ _) | exact nearBKK (by assumption) (near_draw _ _ _))
    (first
      | (go_at_call 67; refine (index_calls x HXx.out _ _ _ _ y HXy.out _ _ _ _ B b _ _ (hid (wr_drew W0.out)) (hid (ok_on O0.out (near_draw B b _).below)) (hid (fit_near Fx0.out (near_draw B b _))) (hid (fit_near Fy0.out (near_draw B b _))) (by omega)).mono ?_; rintro e wx ⟨rfl, l1, hW, hw, nn⟩))
  rename_i hz
  clear hz S0
  replace nn := (near_draw B b _).trans nn
  have N1 := hid (N0.out.trans nn)
  have W1 := hid hW
  have O1 := hid (ok_on O0.out nn.below)
  have X1 := hid (box_near X0.out (by omega) nn)
  have Fx1 := hid (fit_near Fx0.out nn)
  have Kx1 := hid (nodeAt_on Kx0.out htB nn.below)
  have Fy1 := hid (fit_near Fy0.out nn)
  have Ky1 := hid (nodeAt_on Ky0.out htB nn.below)
  clear W0 N0 O0 X0 Fx0 Kx0 Fy0 Ky0 nn hW cKx_0_0 cKx_0_1 cKx_0_2 cKx_0_3 cKx_0_4 cKx_0_5 cKx_0_6 cKy_0_0 cKy_0_1 cKy_0_2 cKy_0_3 cKy_0_4 cKy_0_5 cKy_0_6
  obtain ⟨cX_1_0, cX_1_1, cX_1_2, cX_1_3, cX_1_4, cX_1_5, cX_1_6⟩ := box_cells X1.out
  obtain ⟨cKx_1_0, cKx_1_1, cKx_1_2, cKx_1_3, cKx_1_4, cKx_1_5, cKx_1_6⟩ := Kx1.out
  obtain ⟨cKy_1_0, cKy_1_1, cKy_1_2, cKy_1_3, cKy_1_4, cKy_1_5, cKy_1_6⟩ := Ky1.out
  have hlen1 := wrote_le hw
  have R1 := hid hw
  clear hw
  have D := hid (done_mk W1.out R1.out (show indexT (textN x) (textN y) = indexT (textN x) (textN y) by first | rfl | simp only [List.append_assoc, List.cons_append, List.nil_append]) N1.out)
  clear W1 N1 O1 R1 X1 Fx1 Kx1 Fy1 Ky1 cX_1_0 cX_1_1 cX_1_2 cX_1_3 cX_1_4 cX_1_5 cX_1_6 cKx_1_0 cKx_1_1 cKx_1_2 cKx_1_3 cKx_1_4 cKx_1_5 cKx_1_6 cKy_1_0 cKy_1_1 cKy_1_2 cKy_1_3 cKy_1_4 cKy_1_5 cKy_1_6
  go_wp2_with fail
  go_end0
  exact D.out

set_option maxHeartbeats 3200000 in
set_option maxRecDepth 100000 in
theorem wexpr_word (k o n : Int) (s : ByteArray) (a1 : Option Addr) (c1 q1 : Nat) (a2 : Option Addr) (c2 q2 : Nat) (p : Int) (hk : 1 ≤ k ∧ k ≤ 6) (hn1 : -9223372036854775808 ≤ n) (hn2 : n ≤ 9223372036854775807) (hs : s.size ≤ 1000000) (hw0 : wordT k n s ≠ []) (B b : Nat) (l : List UInt8) (w : World) (W : Hid (Wr B b l w)) (O : Hid (Ok B w)) (hl : l.length + (wordT k n s).length ≤ 100000000) :
    Calls Tryd.prog 64 #[.pointer (some ⟨b, 0, none⟩), .agg #[.int .i64 k, .int .i64 o, .int .i64 n, .string s, .slice a1 c1 q1, .slice a2 c2 q2, .int .i64 p]] w (Done B b l (wordT k n s) w) := by
  have hlt := wr_lt W.out
  have hal := box1_below w (.cells #[.int .i64 k, .int .i64 o, .int .i64 n, .string s, .slice a1 c1 q1, .slice a2 c2 q2, .int .i64 p] 25)
  have N0 := hid (show Near B b w _ from Near.ofBelow hal O.out.1)
  have W0 := hid (wr_below W.out hal)
  have O0 := hid (ok_on O.out N0.out.below)
  have X0 := hid (box_new w k o n s (.slice a1 c1 q1) (.slice a2 c2 q2) p)
  have HW := hid hw0
  have e7 : (k == 7) = false := beq_eq_false_iff_ne.2 (by omega)
  have e8 : (k == 8) = false := beq_eq_false_iff_ne.2 (by omega)
  have e9 : (k == 9) = false := beq_eq_false_iff_ne.2 (by omega)
  have e10 : (k == 10) = false := beq_eq_false_iff_ne.2 (by omega)
  have e11 : (k == 11) = false := beq_eq_false_iff_ne.2 (by omega)
  have e12 : (k == 12) = false := beq_eq_false_iff_ne.2 (by omega)
  have e13 : (k == 13) = false := beq_eq_false_iff_ne.2 (by omega)
  have e14 : (k == 14) = false := beq_eq_false_iff_ne.2 (by omega)
  have e15 : (k == 15) = false := beq_eq_false_iff_ne.2 (by omega)
  have e16 : (k == 16) = false := beq_eq_false_iff_ne.2 (by omega)
  have e17 : (k == 17) = false := beq_eq_false_iff_ne.2 (by omega)
  clear hal W O hk hw0
  go_enter Tryd.func64, Tryd.ntmps64
  go_wp2_with fail
  refine (full_calls W0 (by omega)).mono ?_
  rintro e wf ⟨rfl, rfl⟩
  by_cases hfull : 2000 < l.length
  · rw [decide_eq_true hfull]
    have D := hid (done_mk W0.out (Wrote.none hfull (wordT k n s)) rfl N0.out)
    clear W0 N0 O0 X0 
    go_wp2_with fail
    go_end0
    exact D.out
  rw [decide_eq_false hfull]
  clear hfull
  have S0 := hid (nearB_mk N0.out X0.out (by omega))
  go_wp2_with fail
  go_region_held3 (fun a => (Near B b w a ∧ Box w.heap.size k o n s (.slice a1 c1 q1) (.slice a2 c2 q2) p a ∧ w.heap.size ≠ b) ∧ a.cell? ⟨w.heap.size, 0, none⟩ = some (.int .i64 k) ∧ a.cell? ⟨w.heap.size, 1, none⟩ = some (.int .i64 o) ∧ a.cell? ⟨w.heap.size, 2, none⟩ = some (.int .i64 n) ∧ a.cell? ⟨w.heap.size, 3, none⟩ = some (.string s) ∧ a.cell? ⟨w.heap.size, 4, none⟩ = some (.slice a1 c1 q1) ∧ a.cell? ⟨w.heap.size, 5, none⟩ = some (.slice a2 c2 q2) ∧ a.cell? ⟨w.heap.size, 6, none⟩ = some (.int .i64 p))
    (first | assumption | exact nearB (by assumption) n2 | exact nearB (by assumption) nn | exact nearB S0.out (near_draw _ _ _) | exact nearB (by assumption) (near_draw _ _ _))
    (first
      | (go_at_call 86; refine (word_calls k o n s a1 c1 q1 a2 c2 q2 p hn1 hn2 hs _).mono ?_; rintro e wx ⟨rfl, bb⟩; have nn := Near.ofBelow (b := b) bb (hid (ok_on O0.out (near_draw B b _).below)).out.1)
      | (go_at_call 49; refine (wstr_done ⟨(wordT k n s).toArray⟩ (by simp [HW.out]) (hid (wr_below (wr_drew W0.out) bb)) (by omega) (by rw [bytes_size]; omega)).mono ?_; rintro e wx ⟨rfl, l1, hW, hw, n2, ne1⟩; replace hw : Wrote l (wordT k n s) l1 := (by simpa using hw); replace nn := nn.trans n2))
  rename_i hz
  clear hz S0
  replace nn := (near_draw B b _).trans nn
  have N1 := hid (N0.out.trans nn)
  have W1 := hid hW
  have O1 := hid (ok_on O0.out nn.below)
  have X1 := hid (box_near X0.out (by omega) nn)
  clear W0 N0 O0 X0 nn hW
  obtain ⟨cX_1_0, cX_1_1, cX_1_2, cX_1_3, cX_1_4, cX_1_5, cX_1_6⟩ := box_cells X1.out
  have hlen1 := wrote_le hw
  have R1 := hid hw
  clear hw
  have D := hid (done_mk W1.out R1.out rfl N1.out)
  clear W1 N1 O1 R1 X1 cX_1_0 cX_1_1 cX_1_2 cX_1_3 cX_1_4 cX_1_5 cX_1_6
  go_wp2_with fail
  go_end0
  exact D.out

end Go.Proofs.YtlnllpehifkjhaaDoor
