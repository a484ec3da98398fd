/- The writer's loops, and what reads kids. -/
import Derived.Test.YtlnllpehifkjhaaDoorWrLow2
namespace Go.Proofs.YtlnllpehifkjhaaDoor
open Go.RowKit
set_option linter.unusedVariables false

theorem rankT_bounds (k o : Int) : 0 ≤ rankT k o ∧ rankT k o ≤ 9 := by unfold rankT; grind
theorem listT_snoc (l : List Tx) (x : Tx) (h : l ≠ []) : listT (l ++ [x]) = listT l ++ ([44, 32] ++ x.e) := by
  cases l with
  | nil => exact absurd rfl h
  | cons y r => simp [listT, commasT]
theorem blanksT_snoc (l : List Tx) (x : Tx) : blanksT (l ++ [x]) = blanksT l ++ ([32] ++ x.s) := by simp [blanksT]
theorem programT_snoc (l : List Tx) (x : Tx) (h : l ≠ []) : programT (l ++ [x]) = programT l ++ ([32] ++ x.s) := by
  cases l with
  | nil => exact absurd rfl h
  | cons y r => simp [programT, blanksT]
theorem listT_mono (l m : List Tx) : (listT l).length ≤ (listT (l ++ m)).length := by
  cases l with
  | nil => simp [listT]
  | cons y r => simp [listT, commasT]
theorem blanksT_mono (l m : List Tx) : (blanksT l).length ≤ (blanksT (l ++ m)).length := by simp [blanksT]
theorem programT_mono (l m : List Tx) : (programT l).length ≤ (programT (l ++ m)).length := by
  cases l with
  | nil => simp [programT]
  | cons y r => simp [programT, blanksT]
theorem text_take (ks : List Nd) (j : Nat) (h : j < ks.length) : (ks.map textN).take (j + 1) = (ks.map textN).take j ++ [textN ks[j]] := by
  rw [List.take_succ_eq_append_getElem (by simpa using h)]; simp
theorem take_ne {α : Type} {l : List α} {j : Nat} (h0 : 0 < j) (h : j < l.length) : l.take j ≠ [] := by
  intro e
  have := congrArg List.length e
  rw [List.length_take, List.length_nil] at this
  omega

set_option maxHeartbeats 1600000 in
theorem unary_neg (n : Int) (s : ByteArray) (a1 : Option Addr) (c1 q1 : Nat) (t off q2 : Nat) (p : Int) (y : Nd) (hxy : ExprW y) (ya1 : Option Addr) (yq1 : Nat) (ya2 : Option Addr) (yq2 : Nat) (B b : Nat) (l : List UInt8) (w : World) (W : Hid (Wr B b l w)) (O : Hid (Ok B w)) (htB : t < B) (Ky : Hid (NodeAt t (off) y.kind y.op y.num y.str (.slice ya1 y.names.length yq1) (.slice ya2 y.kids.length yq2) y.pl w)) (Fy : Hid (Fit B y (.slice ya1 y.names.length yq1) (.slice ya2 y.kids.length yq2) 1 w)) (hl : l.length + (45 :: tightT (textN y) 7).length ≤ 100000000) :
    Calls Tryd.prog 82 #[.pointer (some ⟨b, 0, none⟩), .agg #[.int .i64 9, .int .i64 1, .int .i64 n, .string s, .slice a1 c1 q1, .slice (some ⟨t, off, none⟩) 1 q2, .int .i64 p]] w (Done B b l (45 :: tightT (textN y) 7) w) := by
  have hlt := wr_lt W.out
  have hal := box1_below w (.cells #[.int .i64 9, .int .i64 1, .int .i64 n, .string s, .slice a1 c1 q1, .slice (some ⟨t, off, none⟩) 1 q2, .int .i64 p] 25)
  have N0 := hid (show Near B b w _ from Near.ofBelow hal O.out.1)
  have W0 := hid (wr_below W.out hal)
  have O0 := hid (ok_on O.out N0.out.below)
  have X0 := hid (box_new w 9 1 n s (.slice a1 c1 q1) (.slice (some ⟨t, off, none⟩) 1 q2) p)
  have htw : t < w.heap.size := Nat.lt_of_lt_of_le htB O.out.1
  have Fy0 := hid (fit_near Fy.out N0.out)
  have HXy := hid hxy
  have Ky0 := hid (nodeAt_on Ky.out htB N0.out.below)
  have HT := hid (show 45 :: tightT (textN y) 7 = [45] ++ tightT (textN y) 7 by rfl)
  rw [HT.out] at hl
  simp only [List.length_append, List.length_cons, List.length_nil] at hl
  clear hal W O Fy hxy Ky
  obtain ⟨cKy_0_0, cKy_0_1, cKy_0_2, cKy_0_3, cKy_0_4, cKy_0_5, cKy_0_6⟩ := Ky0.out
  go_enter Tryd.func82, Tryd.ntmps82
  go_wp2_with fail
  refine (wbyte_done 45 _ rfl W0 (by omega)).mono ?_
  rintro e w1 ⟨rfl, l1, hW, hw, nn, ne1⟩
  have N1 := hid (N0.out.trans nn)
  have W1 := hid hW
  have O1 := hid (ok_on O0.out nn.below)
  have X1 := hid (box_near X0.out (by omega) nn)
  have Fy1 := hid (fit_near Fy0.out nn)
  have Ky1 := hid (nodeAt_on Ky0.out htB nn.below)
  clear W0 N0 O0 X0 Fy0 Ky0 nn hW cKy_0_0 cKy_0_1 cKy_0_2 cKy_0_3 cKy_0_4 cKy_0_5 cKy_0_6
  obtain ⟨cX_1_0, cX_1_1, cX_1_2, cX_1_3, cX_1_4, cX_1_5, cX_1_6⟩ := box_cells X1.out
  obtain ⟨cKy_1_0, cKy_1_1, cKy_1_2, cKy_1_3, cKy_1_4, cKy_1_5, cKy_1_6⟩ := Ky1.out
  have hlen1 := wrote_le hw
  simp only [List.length_cons, List.length_nil] at hlen1
  have R1 := hid hw
  clear hw
  go_wp2_with fail
  refine (tight_calls y HXy.out 7 (by omega) (by omega) B b _ _ _ _ W1 O1 Fy1 (by omega)).mono ?_
  rintro e w2 ⟨rfl, l2, hW, hw, nn⟩
  have N2 := hid (N1.out.trans nn)
  have W2 := hid hW
  have O2 := hid (ok_on O1.out nn.below)
  have X2 := hid (box_near X1.out (by omega) nn)
  have Fy2 := hid (fit_near Fy1.out nn)
  have Ky2 := hid (nodeAt_on Ky1.out htB nn.below)
  clear W1 N1 O1 X1 Fy1 Ky1 nn hW cX_1_0 cX_1_1 cX_1_2 cX_1_3 cX_1_4 cX_1_5 cX_1_6 cKy_1_0 cKy_1_1 cKy_1_2 cKy_1_3 cKy_1_4 cKy_1_5 cKy_1_6
  obtain ⟨cX_2_0, cX_2_1, cX_2_2, cX_2_3, cX_2_4, cX_2_5, cX_2_6⟩ := box_cells X2.out
  obtain ⟨cKy_2_0, cKy_2_1, cKy_2_2, cKy_2_3, cKy_2_4, cKy_2_5, cKy_2_6⟩ := Ky2.out
  have hlen2 := wrote_le hw
  have R2 := hid (R1.out.trans hw)
  clear hw R1
  have D := hid (done_mk W2.out R2.out (show ([45] ++ tightT (textN y) 7) = 45 :: tightT (textN y) 7 by rw [HT.out]; first | done | simp only [List.append_assoc, List.cons_append, List.nil_append]) N2.out)
  clear W2 N2 O2 R2 X2 Fy2 Ky2 cX_2_0 cX_2_1 cX_2_2 cX_2_3 cX_2_4 cX_2_5 cX_2_6 cKy_2_0 cKy_2_1 cKy_2_2 cKy_2_3 cKy_2_4 cKy_2_5 cKy_2_6
  go_wp2_with fail
  go_end0
  exact D.out

set_option maxHeartbeats 1600000 in
theorem unary_not (n : Int) (s : ByteArray) (a1 : Option Addr) (c1 q1 : Nat) (t off q2 : Nat) (p : Int) (y : Nd) (hxy : ExprW y) (ya1 : Option Addr) (yq1 : Nat) (ya2 : Option Addr) (yq2 : Nat) (B b : Nat) (l : List UInt8) (w : World) (W : Hid (Wr B b l w)) (O : Hid (Ok B w)) (htB : t < B) (Ky : Hid (NodeAt t (off) y.kind y.op y.num y.str (.slice ya1 y.names.length yq1) (.slice ya2 y.kids.length yq2) y.pl w)) (Fy : Hid (Fit B y (.slice ya1 y.names.length yq1) (.slice ya2 y.kids.length yq2) 1 w)) (hl : l.length + (33 :: tightT (textN y) 7).length ≤ 100000000) :
    Calls Tryd.prog 82 #[.pointer (some ⟨b, 0, none⟩), .agg #[.int .i64 9, .int .i64 2, .int .i64 n, .string s, .slice a1 c1 q1, .slice (some ⟨t, off, none⟩) 1 q2, .int .i64 p]] w (Done B b l (33 :: tightT (textN y) 7) w) := by
  have hlt := wr_lt W.out
  have hal := box1_below w (.cells #[.int .i64 9, .int .i64 2, .int .i64 n, .string s, .slice a1 c1 q1, .slice (some ⟨t, off, none⟩) 1 q2, .int .i64 p] 25)
  have N0 := hid (show Near B b w _ from Near.ofBelow hal O.out.1)
  have W0 := hid (wr_below W.out hal)
  have O0 := hid (ok_on O.out N0.out.below)
  have X0 := hid (box_new w 9 2 n s (.slice a1 c1 q1) (.slice (some ⟨t, off, none⟩) 1 q2) p)
  have htw : t < w.heap.size := Nat.lt_of_lt_of_le htB O.out.1
  have Fy0 := hid (fit_near Fy.out N0.out)
  have HXy := hid hxy
  have Ky0 := hid (nodeAt_on Ky.out htB N0.out.below)
  have HT := hid (show 33 :: tightT (textN y) 7 = [33] ++ tightT (textN y) 7 by rfl)
  rw [HT.out] at hl
  simp only [List.length_append, List.length_cons, List.length_nil] at hl
  clear hal W O Fy hxy Ky
  obtain ⟨cKy_0_0, cKy_0_1, cKy_0_2, cKy_0_3, cKy_0_4, cKy_0_5, cKy_0_6⟩ := Ky0.out
  go_enter Tryd.func82, Tryd.ntmps82
  go_wp2_with fail
  refine (wbyte_done 33 _ rfl W0 (by omega)).mono ?_
  rintro e w1 ⟨rfl, l1, hW, hw, nn, ne1⟩
  have N1 := hid (N0.out.trans nn)
  have W1 := hid hW
  have O1 := hid (ok_on O0.out nn.below)
  have X1 := hid (box_near X0.out (by omega) nn)
  have Fy1 := hid (fit_near Fy0.out nn)
  have Ky1 := hid (nodeAt_on Ky0.out htB nn.below)
  clear W0 N0 O0 X0 Fy0 Ky0 nn hW cKy_0_0 cKy_0_1 cKy_0_2 cKy_0_3 cKy_0_4 cKy_0_5 cKy_0_6
  obtain ⟨cX_1_0, cX_1_1, cX_1_2, cX_1_3, cX_1_4, cX_1_5, cX_1_6⟩ := box_cells X1.out
  obtain ⟨cKy_1_0, cKy_1_1, cKy_1_2, cKy_1_3, cKy_1_4, cKy_1_5, cKy_1_6⟩ := Ky1.out
  have hlen1 := wrote_le hw
  simp only [List.length_cons, List.length_nil] at hlen1
  have R1 := hid hw
  clear hw
  go_wp2_with fail
  refine (tight_calls y HXy.out 7 (by omega) (by omega) B b _ _ _ _ W1 O1 Fy1 (by omega)).mono ?_
  rintro e w2 ⟨rfl, l2, hW, hw, nn⟩
  have N2 := hid (N1.out.trans nn)
  have W2 := hid hW
  have O2 := hid (ok_on O1.out nn.below)
  have X2 := hid (box_near X1.out (by omega) nn)
  have Fy2 := hid (fit_near Fy1.out nn)
  have Ky2 := hid (nodeAt_on Ky1.out htB nn.below)
  clear W1 N1 O1 X1 Fy1 Ky1 nn hW cX_1_0 cX_1_1 cX_1_2 cX_1_3 cX_1_4 cX_1_5 cX_1_6 cKy_1_0 cKy_1_1 cKy_1_2 cKy_1_3 cKy_1_4 cKy_1_5 cKy_1_6
  obtain ⟨cX_2_0, cX_2_1, cX_2_2, cX_2_3, cX_2_4, cX_2_5, cX_2_6⟩ := box_cells X2.out
  obtain ⟨cKy_2_0, cKy_2_1, cKy_2_2, cKy_2_3, cKy_2_4, cKy_2_5, cKy_2_6⟩ := Ky2.out
  have hlen2 := wrote_le hw
  have R2 := hid (R1.out.trans hw)
  clear hw R1
  have D := hid (done_mk W2.out R2.out (show ([33] ++ tightT (textN y) 7) = 33 :: tightT (textN y) 7 by rw [HT.out]; first | done | simp only [List.append_assoc, List.cons_append, List.nil_append]) N2.out)
  clear W2 N2 O2 R2 X2 Fy2 Ky2 cX_2_0 cX_2_1 cX_2_2 cX_2_3 cX_2_4 cX_2_5 cX_2_6 cKy_2_0 cKy_2_1 cKy_2_2 cKy_2_3 cKy_2_4 cKy_2_5 cKy_2_6
  go_wp2_with fail
  go_end0
  exact D.out

set_option maxHeartbeats 1600000 in
theorem between_calls (k o : Int) (n : Int) (s : ByteArray) (a1 : Option Addr) (c1 q1 : Nat) (t off q2 : Nat) (p : Int) (sg : List UInt8) (hsg : sg ≠ []) (hsl : sg.length ≤ 1000000) (x : Nd) (hxx : ExprW x) (xa1 : Option Addr) (xq1 : Nat) (xa2 : Option Addr) (xq2 : Nat) (y : Nd) (hxy : ExprW y) (ya1 : Option Addr) (yq1 : Nat) (ya2 : Option Addr) (yq2 : Nat) (B b : Nat) (l : List UInt8) (w : World) (W : Hid (Wr B b l w)) (O : Hid (Ok B w)) (htB : t < B) (Kx : Hid (NodeAt t (off) x.kind x.op x.num x.str (.slice xa1 x.names.length xq1) (.slice xa2 x.kids.length xq2) x.pl w)) (Fx : Hid (Fit B x (.slice xa1 x.names.length xq1) (.slice xa2 x.kids.length xq2) 1 w)) (Ky : Hid (NodeAt t (off + 7) y.kind y.op y.num y.str (.slice ya1 y.names.length yq1) (.slice ya2 y.kids.length yq2) y.pl w)) (Fy : Hid (Fit B y (.slice ya1 y.names.length yq1) (.slice ya2 y.kids.length yq2) 1 w)) (hl : l.length + (betweenT (rankT k o) sg (textN x) (textN y)).length ≤ 100000000) :
    Calls Tryd.prog 83 #[.pointer (some ⟨b, 0, none⟩), .agg #[.int .i64 k, .int .i64 o, .int .i64 n, .string s, .slice a1 c1 q1, .slice (some ⟨t, off, none⟩) 2 q2, .int .i64 p], .string ⟨sg.toArray⟩] w (Done B b l (betweenT (rankT k o) sg (textN x) (textN y)) w) := by
  have hlt := wr_lt W.out
  have hal := box1_below w (.cells #[.int .i64 k, .int .i64 o, .int .i64 n, .string s, .slice a1 c1 q1, .slice (some ⟨t, off, none⟩) 2 q2, .int .i64 p] 25)
  have N0 := hid (show Near B b w _ from Near.ofBelow hal O.out.1)
  have W0 := hid (wr_below W.out hal)
  have O0 := hid (ok_on O.out N0.out.below)
  have X0 := hid (box_new w k o n s (.slice a1 c1 q1) (.slice (some ⟨t, off, none⟩) 2 q2) p)
  have htw : t < w.heap.size := Nat.lt_of_lt_of_le htB O.out.1
  have Fx0 := hid (fit_near Fx.out N0.out)
  have HXx := hid hxx
  have Kx0 := hid (nodeAt_on Kx.out htB N0.out.below)
  have Fy0 := hid (fit_near Fy.out N0.out)
  have HXy := hid hxy
  have Ky0 := hid (nodeAt_on Ky.out htB N0.out.below)
  have HT := hid (show betweenT (rankT k o) sg (textN x) (textN y) = tightT (textN x) (rankT k o) ++ ([32] ++ (sg ++ ([32] ++ tightT (textN y) (rankT k o + 1)))) by rfl)
  rw [HT.out] at hl
  simp only [List.length_append, List.length_cons, List.length_nil] at hl
  clear hal W O Fx hxx Kx Fy hxy Ky
  have hrb := rankT_bounds k o
  obtain ⟨hr0, hr9⟩ := hrb
  obtain ⟨cKx_0_0, cKx_0_1, cKx_0_2, cKx_0_3, cKx_0_4, cKx_0_5, cKx_0_6⟩ := Kx0.out
  obtain ⟨cKy_0_0, cKy_0_1, cKy_0_2, cKy_0_3, cKy_0_4, cKy_0_5, cKy_0_6⟩ := Ky0.out
  go_enter Tryd.func83, Tryd.ntmps83
  go_wp2_with fail
  refine (rank_calls k o n s a1 c1 q1 _ _ _ p _).mono ?_
  rintro e w1 ⟨rfl, b1⟩
  have nn : Near B b _ w1 := Near.ofBelow b1 O0.out.1
  have hW := wr_below W0.out b1
  clear b1
  generalize rankT k o = r at *
  have N1 := hid (N0.out.trans nn)
  have W1 := hid hW
  have O1 := hid (ok_on O0.out nn.below)
  have X1 := hid (box_near X0.out (by omega) nn)
  have Fx1 := hid (fit_near Fx0.out nn)
  have Kx1 := hid (nodeAt_on Kx0.out htB nn.below)
  have Fy1 := hid (fit_near Fy0.out nn)
  have Ky1 := hid (nodeAt_on Ky0.out htB nn.below)
  clear W0 N0 O0 X0 Fx0 Kx0 Fy0 Ky0 nn hW cKx_0_0 cKx_0_1 cKx_0_2 cKx_0_3 cKx_0_4 cKx_0_5 cKx_0_6 cKy_0_0 cKy_0_1 cKy_0_2 cKy_0_3 cKy_0_4 cKy_0_5 cKy_0_6
  obtain ⟨cX_1_0, cX_1_1, cX_1_2, cX_1_3, cX_1_4, cX_1_5, cX_1_6⟩ := box_cells X1.out
  obtain ⟨cKx_1_0, cKx_1_1, cKx_1_2, cKx_1_3, cKx_1_4, cKx_1_5, cKx_1_6⟩ := Kx1.out
  obtain ⟨cKy_1_0, cKy_1_1, cKy_1_2, cKy_1_3, cKy_1_4, cKy_1_5, cKy_1_6⟩ := Ky1.out
  go_wp2_with fail
  refine (tight_calls x HXx.out r (by omega) (by omega) B b _ _ _ _ W1 O1 Fx1 (by omega)).mono ?_
  rintro e w2 ⟨rfl, l2, hW, hw, nn⟩
  have N2 := hid (N1.out.trans nn)
  have W2 := hid hW
  have O2 := hid (ok_on O1.out nn.below)
  have X2 := hid (box_near X1.out (by omega) nn)
  have Fx2 := hid (fit_near Fx1.out nn)
  have Kx2 := hid (nodeAt_on Kx1.out htB nn.below)
  have Fy2 := hid (fit_near Fy1.out nn)
  have Ky2 := hid (nodeAt_on Ky1.out htB nn.below)
  clear W1 N1 O1 X1 Fx1 Kx1 Fy1 Ky1 nn hW cX_1_0 cX_1_1 cX_1_2 cX_1_3 cX_1_4 cX_1_5 cX_1_6 cKx_1_0 cKx_1_1 cKx_1_2 cKx_1_3 cKx_1_4 cKx_1_5 cKx_1_6 cKy_1_0 cKy_1_1 cKy_1_2 cKy_1_3 cKy_1_4 cKy_1_5 cKy_1_6
  obtain ⟨cX_2_0, cX_2_1, cX_2_2, cX_2_3, cX_2_4, cX_2_5, cX_2_6⟩ := box_cells X2.out
  obtain ⟨cKx_2_0, cKx_2_1, cKx_2_2, cKx_2_3, cKx_2_4, cKx_2_5, cKx_2_6⟩ := Kx2.out
  obtain ⟨cKy_2_0, cKy_2_1, cKy_2_2, cKy_2_3, cKy_2_4, cKy_2_5, cKy_2_6⟩ := Ky2.out
  have hlen2 := wrote_le hw
  have R2 := hid hw
  clear hw
  go_wp2_with fail
  refine (wbyte_done 32 _ rfl W2 (by omega)).mono ?_
  rintro e w3 ⟨rfl, l3, hW, hw, nn, ne3⟩
  have N3 := hid (N2.out.trans nn)
  have W3 := hid hW
  have O3 := hid (ok_on O2.out nn.below)
  have X3 := hid (box_near X2.out (by omega) nn)
  have Fx3 := hid (fit_near Fx2.out nn)
  have Kx3 := hid (nodeAt_on Kx2.out htB nn.below)
  have Fy3 := hid (fit_near Fy2.out nn)
  have Ky3 := hid (nodeAt_on Ky2.out htB nn.below)
  clear W2 N2 O2 X2 Fx2 Kx2 Fy2 Ky2 nn hW cX_2_0 cX_2_1 cX_2_2 cX_2_3 cX_2_4 cX_2_5 cX_2_6 cKx_2_0 cKx_2_1 cKx_2_2 cKx_2_3 cKx_2_4 cKx_2_5 cKx_2_6 cKy_2_0 cKy_2_1 cKy_2_2 cKy_2_3 cKy_2_4 cKy_2_5 cKy_2_6
  obtain ⟨cX_3_0, cX_3_1, cX_3_2, cX_3_3, cX_3_4, cX_3_5, cX_3_6⟩ := box_cells X3.out
  obtain ⟨cKx_3_0, cKx_3_1, cKx_3_2, cKx_3_3, cKx_3_4, cKx_3_5, cKx_3_6⟩ := Kx3.out
  obtain ⟨cKy_3_0, cKy_3_1, cKy_3_2, cKy_3_3, cKy_3_4, cKy_3_5, cKy_3_6⟩ := Ky3.out
  have hlen3 := wrote_le hw
  simp only [List.length_cons, List.length_nil] at hlen3
  have R3 := hid (R2.out.trans hw)
  clear hw R2
  go_wp2_with fail
  refine (wstr_done ⟨sg.toArray⟩ (by simp [hsg]) W3 (by omega) (by simp [ByteArray.size]; omega)).mono ?_
  rintro e w4 ⟨rfl, l4, hW, hw, nn, ne4⟩
  replace hw : Wrote l3 sg l4 := by simpa using hw
  have N4 := hid (N3.out.trans nn)
  have W4 := hid hW
  have O4 := hid (ok_on O3.out nn.below)
  have X4 := hid (box_near X3.out (by omega) nn)
  have Fx4 := hid (fit_near Fx3.out nn)
  have Kx4 := hid (nodeAt_on Kx3.out htB nn.below)
  have Fy4 := hid (fit_near Fy3.out nn)
  have Ky4 := hid (nodeAt_on Ky3.out htB nn.below)
  clear W3 N3 O3 X3 Fx3 Kx3 Fy3 Ky3 nn hW cX_3_0 cX_3_1 cX_3_2 cX_3_3 cX_3_4 cX_3_5 cX_3_6 cKx_3_0 cKx_3_1 cKx_3_2 cKx_3_3 cKx_3_4 cKx_3_5 cKx_3_6 cKy_3_0 cKy_3_1 cKy_3_2 cKy_3_3 cKy_3_4 cKy_3_5 cKy_3_6
  obtain ⟨cX_4_0, cX_4_1, cX_4_2, cX_4_3, cX_4_4, cX_4_5, cX_4_6⟩ := box_cells X4.out
  obtain ⟨cKx_4_0, cKx_4_1, cKx_4_2, cKx_4_3, cKx_4_4, cKx_4_5, cKx_4_6⟩ := Kx4.out
  obtain ⟨cKy_4_0, cKy_4_1, cKy_4_2, cKy_4_3, cKy_4_4, cKy_4_5, cKy_4_6⟩ := Ky4.out
  have hlen4 := wrote_le hw
  have R4 := hid (R3.out.trans hw)
  clear hw R3
  go_wp2_with fail
  refine (wbyte_done 32 _ rfl W4 (by omega)).mono ?_
  rintro e w5 ⟨rfl, l5, hW, hw, nn, ne5⟩
  have N5 := hid (N4.out.trans nn)
  have W5 := hid hW
  have O5 := hid (ok_on O4.out nn.below)
  have X5 := hid (box_near X4.out (by omega) nn)
  have Fx5 := hid (fit_near Fx4.out nn)
  have Kx5 := hid (nodeAt_on Kx4.out htB nn.below)
  have Fy5 := hid (fit_near Fy4.out nn)
  have Ky5 := hid (nodeAt_on Ky4.out htB nn.below)
  clear W4 N4 O4 X4 Fx4 Kx4 Fy4 Ky4 nn hW cX_4_0 cX_4_1 cX_4_2 cX_4_3 cX_4_4 cX_4_5 cX_4_6 cKx_4_0 cKx_4_1 cKx_4_2 cKx_4_3 cKx_4_4 cKx_4_5 cKx_4_6 cKy_4_0 cKy_4_1 cKy_4_2 cKy_4_3 cKy_4_4 cKy_4_5 cKy_4_6
  obtain ⟨cX_5_0, cX_5_1, cX_5_2, cX_5_3, cX_5_4, cX_5_5, cX_5_6⟩ := box_cells X5.out
  obtain ⟨cKx_5_0, cKx_5_1, cKx_5_2, cKx_5_3, cKx_5_4, cKx_5_5, cKx_5_6⟩ := Kx5.out
  obtain ⟨cKy_5_0, cKy_5_1, cKy_5_2, cKy_5_3, cKy_5_4, cKy_5_5, cKy_5_6⟩ := Ky5.out
  have hlen5 := wrote_le hw
  simp only [List.length_cons, List.length_nil] at hlen5
  have R5 := hid (R4.out.trans hw)
  clear hw R4
  go_wp2_with fail
  refine (tight_calls y HXy.out (r + 1) (by omega) (by omega) B b _ _ _ _ W5 O5 Fy5 (by omega)).mono ?_
  rintro e w6 ⟨rfl, l6, hW, hw, nn⟩
  have N6 := hid (N5.out.trans nn)
  have W6 := hid hW
  have O6 := hid (ok_on O5.out nn.below)
  have X6 := hid (box_near X5.out (by omega) nn)
  have Fx6 := hid (fit_near Fx5.out nn)
  have Kx6 := hid (nodeAt_on Kx5.out htB nn.below)
  have Fy6 := hid (fit_near Fy5.out nn)
  have Ky6 := hid (nodeAt_on Ky5.out htB nn.below)
  clear W5 N5 O5 X5 Fx5 Kx5 Fy5 Ky5 nn hW cX_5_0 cX_5_1 cX_5_2 cX_5_3 cX_5_4 cX_5_5 cX_5_6 cKx_5_0 cKx_5_1 cKx_5_2 cKx_5_3 cKx_5_4 cKx_5_5 cKx_5_6 cKy_5_0 cKy_5_1 cKy_5_2 cKy_5_3 cKy_5_4 cKy_5_5 cKy_5_6
  obtain ⟨cX_6_0, cX_6_1, cX_6_2, cX_6_3, cX_6_4, cX_6_5, cX_6_6⟩ := box_cells X6.out
  obtain ⟨cKx_6_0, cKx_6_1, cKx_6_2, cKx_6_3, cKx_6_4, cKx_6_5, cKx_6_6⟩ := Kx6.out
  obtain ⟨cKy_6_0, cKy_6_1, cKy_6_2, cKy_6_3, cKy_6_4, cKy_6_5, cKy_6_6⟩ := Ky6.out
  have hlen6 := wrote_le hw
  have R6 := hid (R5.out.trans hw)
  clear hw R5
  have D := hid (done_mk W6.out R6.out (show ((((tightT (textN x) r ++ [32]) ++ sg) ++ [32]) ++ tightT (textN y) (r + 1)) = betweenT (r) sg (textN x) (textN y) by rw [HT.out]; first | done | simp only [List.append_assoc, List.cons_append, List.nil_append]) N6.out)
  clear W6 N6 O6 R6 X6 Fx6 Kx6 Fy6 Ky6 cX_6_0 cX_6_1 cX_6_2 cX_6_3 cX_6_4 cX_6_5 cX_6_6 cKx_6_0 cKx_6_1 cKx_6_2 cKx_6_3 cKx_6_4 cKx_6_5 cKx_6_6 cKy_6_0 cKy_6_1 cKy_6_2 cKy_6_3 cKy_6_4 cKy_6_5 cKy_6_6
  go_wp2_with fail
  go_end0
  exact D.out

set_option maxHeartbeats 3200000 in
theorem wlist_calls (ks : List Nd) (hx : ∀ z ∈ ks, ExprW z) (hr : ∀ z ∈ ks, rightN z 1 = true) (B b : Nat) (l : List UInt8) (w : World) (kv : Value) (W : Hid (Wr B b l w)) (O : Hid (Ok B w)) (KI : Hid (KidsIn B w kv ks)) (hs : ∀ z ∈ ks, smallN z = true) (hc : countL ks ≤ 1000000) (hl : l.length + (argsT (ks.map textN)).length ≤ 100000000) :
    Calls Tryd.prog 85 #[.pointer (some ⟨b, 0, none⟩), kv] w (Done B b l (argsT (ks.map textN)) w) := by
  obtain ⟨ao, cap, rfl, hks⟩ := kidsIn_cases KI.out
  have KS := hid hks
  have HX := hid hx
  have HR := hid hr
  have HS := hid hs
  have hlen := length_count ks
  have hlt := wr_lt W.out
  have hB := O.out.1
  have HT := hid (show argsT (ks.map textN) = [40] ++ (listT (ks.map textN) ++ [41]) by rfl)
  have hll : l.length + (listT (ks.map textN)).length + 2 ≤ 100000000 := by
    rw [HT.out] at hl; simp only [List.length_append, List.length_cons, List.length_nil] at hl; omega
  clear hks hx hr hs KI hl
  go_enter Tryd.func85, Tryd.ntmps85
  go_wp2_with fail
  refine (wbyte_done 40 _ rfl W (by omega)).mono ?_
  rintro e w1 ⟨rfl, l1, hW, hw, nn, _⟩
  have W1 := hid hW
  have R1 := hid hw
  have N1 := hid nn
  clear hW hw nn
  go_wp2_with fail
  go_loopw [12] (fun i wr => ∃ (j : Nat) (lj : List UInt8), j ≤ ks.length ∧ i = .int .i64 j ∧ Wr B b lj wr ∧ Wrote l ([40] ++ listT ((ks.map textN).take j)) lj ∧ Near B b w wr) (fun i _ => ks.length - (intOf i).toNat)
  case atStart => exact ⟨0, l1, Nat.zero_le _, rfl, W1.out, by simpa [listT] using R1.out, N1.out⟩
  case round =>
    clear W1 R1 N1
    obtain ⟨j, lj, hj, rfl, hW, hw, hn⟩ := hrel
    have hlj := wrote_le hw
    have hmono := listT_mono ((ks.map textN).take j) ((ks.map textN).drop j)
    rw [List.take_append_drop] at hmono
    simp only [List.length_append, List.length_cons, List.length_nil] at hlj
    by_cases hjl : j < ks.length
    · obtain ⟨t, off, rfl, htB, hat⟩ := KS.out.resolve_left (fun h => by rw [h] at hjl; cases hjl)
      have hat' := ndsAt_on hn.below htB _ _ hat
      obtain ⟨nv', kv', hnode, hin⟩ := ndsAt_get hat' j hjl
      obtain ⟨c0, c1, c2, c3, c4, c5, c6⟩ := hnode
      have hm := List.getElem_mem hjl
      have hx := HX.out _ hm
      have hF : Fit B ks[j] nv' kv' 1 wr := ⟨hin, HR.out _ hm, HS.out _ hm, Nat.le_trans (count_mem hm) hc⟩
      have hmono1 := listT_mono ((ks.map textN).take (j + 1)) ((ks.map textN).drop (j + 1))
      rw [List.take_append_drop] at hmono1
      have HTT := hid (text_take ks j hjl)
      rw [HTT.out] at hmono1
      generalize ks[j] = x at *
      obtain ⟨a1, q1, a2, q2, rfl, rfl⟩ := ndIn_shape hin
      have hsz : w.heap.size ≤ wr.heap.size := hn.below.size
      have HXx := hid hx
      have htw : t < wr.heap.size := by omega
      have hal := box1_below wr (.cells #[.int .i64 x.kind, .int .i64 x.op, .int .i64 x.num, .string x.str, .slice a1 x.names.length q1, .slice a2 x.kids.length q2, .int .i64 x.pl] 25)
      have nal : Near B b wr _ := Near.ofBelow hal hW.2
      have W2 := hid (wr_below hW hal)
      have N2 := hid (hn.trans nal)
      have O2 := hid (ok_on O.out N2.out.below)
      have F2 := hid (fit_near hF nal)
      have X2 := hid (box_new wr x.kind x.op x.num x.str (.slice a1 x.names.length q1) (.slice a2 x.kids.length q2) x.pl)
      have R2 := hid hw
      have hbw : b < wr.heap.size := wr_lt hW
      clear hal nal hF hx hin hat hat' hW hw hn KS
      by_cases hj0 : j = 0
      · subst hj0
        simp only [Nat.zero_mul, Nat.add_zero] at c0 c1 c2 c3 c4 c5 c6
        have RR := hid (show Wrote l [40] lj by simpa [listT] using R2.out)
        have E := hid (show [40] ++ (textN x).e = [40] ++ listT ((ks.map textN).take (0 + 1)) by rw [HTT.out]; simp [listT, commasT])
        have hb1 : (textN x).e.length ≤ (listT (ks.map textN)).length := by
          have h1 : (listT (List.take 0 (ks.map textN) ++ [textN x])).length = (textN x).e.length := by simp [listT, commasT]
          omega
        have hl0 : lj.length ≤ l.length + 1 := by simpa using wrote_le RR.out
        clear R2 hlj hmono hmono1
        go_wp2_with fail
        refine (HXx.out B b _ _ _ _ W2 O2 (hid F2.out.1) F2.out.2.1 F2.out.2.2.1 F2.out.2.2.2 (by omega)).mono ?_
        rintro e w3 ⟨rfl, l3, hW3, hw3, n3⟩
        have W3 := hid hW3
        have R3 := hid ((RR.out.trans hw3).of E.out)
        have N3 := hid (N2.out.trans n3)
        clear hW3 hw3 n3 W2 O2 F2 X2 N2 RR E
        go_wp2_with fail
        go_roundw
        case rel => exact ⟨0 + 1, l3, by omega, by go_num, W3.out, R3.out, N3.out⟩
        case measure => simp [intOf]; omega
      · have hne : (ks.map textN).take j ≠ [] := take_ne (by omega) (by simpa using hjl)
        have E0 := hid (listT_snoc _ (textN x) hne)
        have E := hid (show ([40] ++ listT ((ks.map textN).take j)) ++ [44, 32] ++ (textN x).e = [40] ++ listT ((ks.map textN).take (j + 1)) by rw [HTT.out, E0.out]; simp only [List.append_assoc])
        rw [E0.out] at hmono1
        simp only [List.length_append, List.length_cons, List.length_nil] at hmono1
        have dj : decide ((0 : Int) < (j : Int)) = true := decide_eq_true (by omega)
        clear hne E0
        go_wp2_with fail
        refine (wstr_done ⟨#[44, 32]⟩ (by simp) W2 (by omega) (by decide)).mono ?_
        rintro e w3 ⟨rfl, l3, hW3, hw3, n3, _⟩
        have W3 := hid hW3
        have R3 := hid (R2.out.trans hw3)
        have N3 := hid (N2.out.trans n3)
        have O3 := hid (ok_on O2.out n3.below)
        have F3 := hid (fit_near F2.out n3)
        obtain ⟨d0, d1, d2, d3, d4, d5, d6⟩ := box_cells (box_near X2.out (by omega) n3)
        have hl3 : l3.length ≤ lj.length + 2 := by simpa using wrote_le hw3
        clear hW3 hw3 n3 W2 O2 F2 X2 N2 R2
        go_wp2_with fail
        refine (HXx.out B b _ _ _ _ W3 O3 (hid F3.out.1) F3.out.2.1 F3.out.2.2.1 F3.out.2.2.2 (by omega)).mono ?_
        rintro e w4 ⟨rfl, l4, hW4, hw4, n4⟩
        have W4 := hid hW4
        have R4 := hid ((R3.out.trans hw4).of E.out)
        have N4 := hid (N3.out.trans n4)
        clear hW4 hw4 n4 W3 O3 F3 N3 R3 E d0 d1 d2 d3 d4 d5 d6
        go_wp2_with fail
        go_roundw
        case rel => exact ⟨j + 1, l4, by omega, by go_num, W4.out, R4.out, N4.out⟩
        case measure => simp [intOf]; omega
    · have e : (ks.map textN).take j = ks.map textN := List.take_of_length_le (by simp; omega)
      rw [e] at hw
      have W2 := hid hW
      have R2 := hid hw
      have N2 := hid hn
      clear hW hw hn
      go_wp2_with fail
      refine (wbyte_done 41 _ rfl W2 (by omega)).mono ?_
      rintro e w3 ⟨rfl, l3, hW3, hw3, n3, _⟩
      have D := hid (done_mk hW3 (R2.out.trans hw3) (show [40] ++ listT (ks.map textN) ++ [41] = argsT (ks.map textN) by rw [HT.out, List.append_assoc]) (N2.out.trans n3))
      clear hW3 hw3 n3
      go_wp2_with fail
      go_end0
      exact D.out

set_option maxHeartbeats 3200000 in
theorem wblock_calls (ks : List Nd) (hx : ∀ z ∈ ks, StmtW z) (hr : ∀ z ∈ ks, rightN z 2 = true) (B b : Nat) (l : List UInt8) (w : World) (kv : Value) (W : Hid (Wr B b l w)) (O : Hid (Ok B w)) (KI : Hid (KidsIn B w kv ks)) (hs : ∀ z ∈ ks, smallN z = true) (hc : countL ks ≤ 1000000) (hl : l.length + (blockT (ks.map textN)).length ≤ 100000000) :
    Calls Tryd.prog 50 #[.pointer (some ⟨b, 0, none⟩), kv] w (Done B b l (blockT (ks.map textN)) w) := by
  obtain ⟨ao, cap, rfl, hks⟩ := kidsIn_cases KI.out
  have KS := hid hks
  have HX := hid hx
  have HR := hid hr
  have HS := hid hs
  have hlen := length_count ks
  have hlt := wr_lt W.out
  have hB := O.out.1
  have hll : l.length + (blanksT (ks.map textN)).length + 2 ≤ 100000000 := by
    unfold blockT at hl; simp only [List.length_append, List.length_cons] at hl
    have : 1 ≤ (if (ks.map textN).isEmpty = true then [125] else [32, 125] : List UInt8).length := by split <;> simp
    omega
  clear hks hx hr hs KI hl
  go_enter Tryd.func50, Tryd.ntmps50
  go_wp2_with fail
  refine (wbyte_done 123 _ rfl W (by omega)).mono ?_
  rintro e w1 ⟨rfl, l1, hW, hw, nn, _⟩
  have W1 := hid hW
  have R1 := hid hw
  have N1 := hid nn
  clear hW hw nn
  go_wp2_with fail
  go_loopw [12] (fun i wr => ∃ (j : Nat) (lj : List UInt8), j ≤ ks.length ∧ i = .int .i64 j ∧ Wr B b lj wr ∧ Wrote l ([123] ++ blanksT ((ks.map textN).take j)) lj ∧ Near B b w wr) (fun i _ => ks.length - (intOf i).toNat)
  case atStart => exact ⟨0, l1, Nat.zero_le _, rfl, W1.out, by simpa [blanksT] using R1.out, N1.out⟩
  case round =>
    clear W1 R1 N1
    obtain ⟨j, lj, hj, rfl, hW, hw, hn⟩ := hrel
    have hlj := wrote_le hw
    have hmono := blanksT_mono ((ks.map textN).take j) ((ks.map textN).drop j)
    rw [List.take_append_drop] at hmono
    simp only [List.length_append, List.length_cons, List.length_nil] at hlj
    by_cases hjl : j < ks.length
    · obtain ⟨t, off, rfl, htB, hat⟩ := KS.out.resolve_left (fun h => by rw [h] at hjl; cases hjl)
      have hat' := ndsAt_on hn.below htB _ _ hat
      obtain ⟨nv', kv', hnode, hin⟩ := ndsAt_get hat' j hjl
      obtain ⟨c0, c1, c2, c3, c4, c5, c6⟩ := hnode
      have hm := List.getElem_mem hjl
      have hx := HX.out _ hm
      have hF : Fit B ks[j] nv' kv' 2 wr := ⟨hin, HR.out _ hm, HS.out _ hm, Nat.le_trans (count_mem hm) hc⟩
      have hmono1 := blanksT_mono ((ks.map textN).take (j + 1)) ((ks.map textN).drop (j + 1))
      rw [List.take_append_drop] at hmono1
      have HTT := hid (text_take ks j hjl)
      rw [HTT.out] at hmono1
      generalize ks[j] = x at *
      obtain ⟨a1, q1, a2, q2, rfl, rfl⟩ := ndIn_shape hin
      have hsz : w.heap.size ≤ wr.heap.size := hn.below.size
      have HXx := hid hx
      have htw : t < wr.heap.size := by omega
      have hal := box1_below wr (.cells #[.int .i64 x.kind, .int .i64 x.op, .int .i64 x.num, .string x.str, .slice a1 x.names.length q1, .slice a2 x.kids.length q2, .int .i64 x.pl] 25)
      have nal : Near B b wr _ := Near.ofBelow hal hW.2
      have W2 := hid (wr_below hW hal)
      have N2 := hid (hn.trans nal)
      have O2 := hid (ok_on O.out N2.out.below)
      have F2 := hid (fit_near hF nal)
      have X2 := hid (box_new wr x.kind x.op x.num x.str (.slice a1 x.names.length q1) (.slice a2 x.kids.length q2) x.pl)
      have R2 := hid hw
      have hbw : b < wr.heap.size := wr_lt hW
      clear hal nal hF hx hin hat hat' hW hw hn KS
      have E0 := hid (blanksT_snoc ((ks.map textN).take j) (textN x))
      have E := hid (show ([123] ++ blanksT ((ks.map textN).take j)) ++ [32] ++ (textN x).s = [123] ++ blanksT ((ks.map textN).take (j + 1)) by rw [HTT.out, E0.out]; simp only [List.append_assoc])
      rw [E0.out] at hmono1
      simp only [List.length_append, List.length_cons, List.length_nil] at hmono1
      clear E0
      go_wp2_with fail
      refine (wbyte_done 32 _ rfl W2 (by omega)).mono ?_
      rintro e w3 ⟨rfl, l3, hW3, hw3, n3, _⟩
      have W3 := hid hW3
      have R3 := hid (R2.out.trans hw3)
      have N3 := hid (N2.out.trans n3)
      have O3 := hid (ok_on O2.out n3.below)
      have F3 := hid (fit_near F2.out n3)
      obtain ⟨d0, d1, d2, d3, d4, d5, d6⟩ := box_cells (box_near X2.out (by omega) n3)
      have hl3 : l3.length ≤ lj.length + 1 := by simpa using wrote_le hw3
      clear hW3 hw3 n3 W2 O2 F2 X2 N2 R2
      go_wp2_with fail
      refine (HXx.out B b _ _ _ _ W3 O3 (hid F3.out.1) F3.out.2.1 F3.out.2.2.1 F3.out.2.2.2 (by omega)).mono ?_
      rintro e w4 ⟨rfl, l4, hW4, hw4, n4⟩
      have W4 := hid hW4
      have R4 := hid ((R3.out.trans hw4).of E.out)
      have N4 := hid (N3.out.trans n4)
      clear hW4 hw4 n4 W3 O3 F3 N3 R3 E d0 d1 d2 d3 d4 d5 d6
      go_wp2_with fail
      go_roundw
      case rel => exact ⟨j + 1, l4, by omega, by go_num, W4.out, R4.out, N4.out⟩
      case measure => simp [intOf]; omega
    · have e : (ks.map textN).take j = ks.map textN := List.take_of_length_le (by simp; omega)
      rw [e] at hw
      have W2 := hid hW
      have R2 := hid hw
      have N2 := hid hn
      have hlj2 : lj.length ≤ l.length + 1 + (blanksT (ks.map textN)).length := by have := wrote_le hw; simp only [List.length_append, List.length_cons, List.length_nil] at this; omega
      clear hW hw hn
      by_cases hk0 : ks = []
      · subst hk0
        have HT := hid (show blockT (List.map textN []) = [123] ++ blanksT (List.map textN []) ++ [125] by rfl)
        simp only [List.length_nil] at *
        go_wp2_with fail
        refine (wbyte_done 125 _ rfl W2 (by omega)).mono ?_
        rintro e w3 ⟨rfl, l3, hW3, hw3, n3, _⟩
        have D := hid (done_mk hW3 (R2.out.trans hw3) HT.out.symm (N2.out.trans n3))
        clear hW3 hw3 n3
        go_wp2_with fail
        go_end0
        exact D.out
      · have hpos : 0 < ks.length := List.length_pos_iff.2 hk0
        have dk : decide ((0 : Int) < (ks.length : Int)) = true := decide_eq_true (by omega)
        have HT := hid (show blockT (ks.map textN) = [123] ++ blanksT (ks.map textN) ++ [32] ++ [125] by
          cases ks with
          | nil => exact absurd rfl hk0
          | cons x r => simp [blockT])
        clear hk0
        go_wp2_with fail
        refine (wbyte_done 32 _ rfl W2 (by omega)).mono ?_
        rintro e w3 ⟨rfl, l3, hW3, hw3, n3, _⟩
        have W3 := hid hW3
        have R3 := hid (R2.out.trans hw3)
        have N3 := hid (N2.out.trans n3)
        have hl3 : l3.length ≤ lj.length + 1 := by simpa using wrote_le hw3
        clear hW3 hw3 n3 W2 N2 R2
        go_wp2_with fail
        refine (wbyte_done 125 _ rfl W3 (by omega)).mono ?_
        rintro e w4 ⟨rfl, l4, hW4, hw4, n4, _⟩
        have D := hid (done_mk hW4 (R3.out.trans hw4) HT.out.symm (N3.out.trans n4))
        clear hW4 hw4 n4
        go_wp2_with fail
        go_end0
        exact D.out

set_option maxHeartbeats 3200000 in
theorem wprogram_calls (ks : List Nd) (hx : ∀ z ∈ ks, StmtW z) (hr : ∀ z ∈ ks, rightN z 2 = true) (B b : Nat) (l : List UInt8) (w : World) (kv : Value) (W : Hid (Wr B b l w)) (O : Hid (Ok B w)) (KI : Hid (KidsIn B w kv ks)) (hs : ∀ z ∈ ks, smallN z = true) (hc : countL ks ≤ 1000000) (hl : l.length + (programT (ks.map textN)).length ≤ 100000000) :
    Calls Tryd.prog 23 #[.pointer (some ⟨b, 0, none⟩), kv] w (Done B b l (programT (ks.map textN)) w) := by
  obtain ⟨ao, cap, rfl, hks⟩ := kidsIn_cases KI.out
  have KS := hid hks
  have HX := hid hx
  have HR := hid hr
  have HS := hid hs
  have hlen := length_count ks
  have hlt := wr_lt W.out
  have hB := O.out.1
  have hll := hl
  clear hks hx hr hs KI hl
  go_enter Tryd.func23, Tryd.ntmps23
  go_wp2_with fail
  go_loopw [8] (fun i wr => ∃ (j : Nat) (lj : List UInt8), j ≤ ks.length ∧ i = .int .i64 j ∧ Wr B b lj wr ∧ Wrote l (programT ((ks.map textN).take j)) lj ∧ Near B b w wr) (fun i _ => ks.length - (intOf i).toNat)
  case atStart => exact ⟨0, l, Nat.zero_le _, rfl, W.out, by simpa [programT] using Wrote.nil l, Near.refl _ _ _⟩
  case round =>
    obtain ⟨j, lj, hj, rfl, hW, hw, hn⟩ := hrel
    have hlj := wrote_le hw
    have hmono := programT_mono ((ks.map textN).take j) ((ks.map textN).drop j)
    rw [List.take_append_drop] at hmono
    by_cases hjl : j < ks.length
    · obtain ⟨t, off, rfl, htB, hat⟩ := KS.out.resolve_left (fun h => by rw [h] at hjl; cases hjl)
      have hat' := ndsAt_on hn.below htB _ _ hat
      obtain ⟨nv', kv', hnode, hin⟩ := ndsAt_get hat' j hjl
      obtain ⟨c0, c1, c2, c3, c4, c5, c6⟩ := hnode
      have hm := List.getElem_mem hjl
      have hx := HX.out _ hm
      have hF : Fit B ks[j] nv' kv' 2 wr := ⟨hin, HR.out _ hm, HS.out _ hm, Nat.le_trans (count_mem hm) hc⟩
      have hmono1 := programT_mono ((ks.map textN).take (j + 1)) ((ks.map textN).drop (j + 1))
      rw [List.take_append_drop] at hmono1
      have HTT := hid (text_take ks j hjl)
      rw [HTT.out] at hmono1
      generalize ks[j] = x at *
      obtain ⟨a1, q1, a2, q2, rfl, rfl⟩ := ndIn_shape hin
      have hsz : w.heap.size ≤ wr.heap.size := hn.below.size
      have HXx := hid hx
      have htw : t < wr.heap.size := by omega
      have hal := box1_below wr (.cells #[.int .i64 x.kind, .int .i64 x.op, .int .i64 x.num, .string x.str, .slice a1 x.names.length q1, .slice a2 x.kids.length q2, .int .i64 x.pl] 25)
      have nal : Near B b wr _ := Near.ofBelow hal hW.2
      have W2 := hid (wr_below hW hal)
      have N2 := hid (hn.trans nal)
      have O2 := hid (ok_on O.out N2.out.below)
      have F2 := hid (fit_near hF nal)
      have X2 := hid (box_new wr x.kind x.op x.num x.str (.slice a1 x.names.length q1) (.slice a2 x.kids.length q2) x.pl)
      have R2 := hid hw
      have hbw : b < wr.heap.size := wr_lt hW
      clear hal nal hF hx hin hat hat' hW hw hn KS
      by_cases hj0 : j = 0
      · subst hj0
        simp only [Nat.zero_mul, Nat.add_zero] at c0 c1 c2 c3 c4 c5 c6
        have RR := hid (show Wrote l [] lj by simpa [programT] using R2.out)
        have E := hid (show [] ++ (textN x).s = programT ((ks.map textN).take (0 + 1)) by rw [HTT.out]; simp [programT, blanksT])
        have hb1 : (textN x).s.length ≤ (programT (ks.map textN)).length := by
          have h1 : (programT (List.take 0 (ks.map textN) ++ [textN x])).length = (textN x).s.length := by simp [programT, blanksT]
          omega
        have hl0 : lj.length ≤ l.length := by simpa using wrote_le RR.out
        clear R2 hlj hmono hmono1
        go_wp2_with fail
        refine (HXx.out B b _ _ _ _ W2 O2 (hid F2.out.1) F2.out.2.1 F2.out.2.2.1 F2.out.2.2.2 (by omega)).mono ?_
        rintro e w3 ⟨rfl, l3, hW3, hw3, n3⟩
        have W3 := hid hW3
        have R3 := hid ((RR.out.trans hw3).of E.out)
        have N3 := hid (N2.out.trans n3)
        clear hW3 hw3 n3 W2 O2 F2 X2 N2 RR E
        go_wp2_with fail
        go_roundw
        case rel => exact ⟨0 + 1, l3, by omega, by go_num, W3.out, R3.out, N3.out⟩
        case measure => simp [intOf]; omega
      · have hne : (ks.map textN).take j ≠ [] := take_ne (by omega) (by simpa using hjl)
        have E0 := hid (programT_snoc _ (textN x) hne)
        have E := hid (show (programT ((ks.map textN).take j)) ++ [32] ++ (textN x).s = programT ((ks.map textN).take (j + 1)) by rw [HTT.out, E0.out]; simp only [List.append_assoc])
        rw [E0.out] at hmono1
        simp only [List.length_append, List.length_cons, List.length_nil] at hmono1
        have dj : decide ((0 : Int) < (j : Int)) = true := decide_eq_true (by omega)
        clear hne E0
        go_wp2_with fail
        refine (wbyte_done 32 _ rfl W2 (by omega)).mono ?_
        rintro e w3 ⟨rfl, l3, hW3, hw3, n3, _⟩
        have W3 := hid hW3
        have R3 := hid (R2.out.trans hw3)
        have N3 := hid (N2.out.trans n3)
        have O3 := hid (ok_on O2.out n3.below)
        have F3 := hid (fit_near F2.out n3)
        obtain ⟨d0, d1, d2, d3, d4, d5, d6⟩ := box_cells (box_near X2.out (by omega) n3)
        have hl3 : l3.length ≤ lj.length + 1 := by simpa using wrote_le hw3
        clear hW3 hw3 n3 W2 O2 F2 X2 N2 R2
        go_wp2_with fail
        refine (HXx.out B b _ _ _ _ W3 O3 (hid F3.out.1) F3.out.2.1 F3.out.2.2.1 F3.out.2.2.2 (by omega)).mono ?_
        rintro e w4 ⟨rfl, l4, hW4, hw4, n4⟩
        have W4 := hid hW4
        have R4 := hid ((R3.out.trans hw4).of E.out)
        have N4 := hid (N3.out.trans n4)
        clear hW4 hw4 n4 W3 O3 F3 N3 R3 E d0 d1 d2 d3 d4 d5 d6
        go_wp2_with fail
        go_roundw
        case rel => exact ⟨j + 1, l4, by omega, by go_num, W4.out, R4.out, N4.out⟩
        case measure => simp [intOf]; omega
    · have e : (ks.map textN).take j = ks.map textN := List.take_of_length_le (by simp; omega)
      rw [e] at hw
      have W2 := hid hW
      have R2 := hid hw
      have N2 := hid hn
      clear hW hw hn
      have D := hid (done_mk W2.out R2.out rfl N2.out)
      clear W2 R2 N2
      go_wp2_with fail
      go_end0
      exact D.out

theorem fit_kids {B : Nat} {y : Nd} {a1 : Option Addr} {c1 q1 : Nat} {a2 : Option Addr} {c2 q2 : Nat} {r : Nat} {w : World} (h : Fit B y (.slice a1 c1 q1) (.slice a2 c2 q2) r w) : KidsIn B w (.slice a2 c2 q2) y.kids ∧ (∀ z ∈ y.kids, smallN z = true) ∧ countL y.kids ≤ 1000000 := by
  obtain ⟨k, o, n, s, ns, ks, p⟩ := y
  obtain ⟨h1, _, h3, h4⟩ := h
  refine ⟨(ndIn_mk.1 h1).2, (small_mk h3).2.2.2, ?_⟩
  simp only [countN] at h4
  simp only [Nd.kids]
  omega

set_option maxHeartbeats 1600000 in
theorem branch_calls (key : ByteArray) (hk0 : key.data.toList ≠ []) (hk1 : key.size ≤ 1000000) (x : Nd) (hxx : ExprW x) (xa1 : Option Addr) (xq1 : Nat) (xa2 : Option Addr) (xq2 : Nat) (y : Nd) (ya1 : Option Addr) (yq1 : Nat) (ya2 : Option Addr) (yq2 : Nat) (hyk : ∀ z ∈ y.kids, StmtW z) (hyr : ∀ z ∈ y.kids, rightN z 2 = true) (B b : Nat) (l : List UInt8) (w : World) (W : Hid (Wr B b l w)) (O : Hid (Ok B w)) (Fx : Hid (Fit B x (.slice xa1 x.names.length xq1) (.slice xa2 x.kids.length xq2) 1 w)) (Fy : Hid (Fit B y (.slice ya1 y.names.length yq1) (.slice ya2 y.kids.length yq2) 3 w)) (hl : l.length + (branchT key.data.toList (textN x) (textN y)).length ≤ 100000000) :
    Calls Tryd.prog 48 #[.pointer (some ⟨b, 0, none⟩), .string key, .agg #[.int .i64 x.kind, .int .i64 x.op, .int .i64 x.num, .string x.str, .slice xa1 x.names.length xq1, .slice xa2 x.kids.length xq2, .int .i64 x.pl], .agg #[.int .i64 y.kind, .int .i64 y.op, .int .i64 y.num, .string y.str, .slice ya1 y.names.length yq1, .slice ya2 y.kids.length yq2, .int .i64 y.pl]] w (Done B b l (branchT key.data.toList (textN x) (textN y)) w) := by
  have hlt := wr_lt W.out
  have hal := box2_below w (.cells #[.int .i64 x.kind, .int .i64 x.op, .int .i64 x.num, .string x.str, .slice xa1 x.names.length xq1, .slice xa2 x.kids.length xq2, .int .i64 x.pl] 25) (.cells #[.int .i64 y.kind, .int .i64 y.op, .int .i64 y.num, .string y.str, .slice ya1 y.names.length yq1, .slice ya2 y.kids.length yq2, .int .i64 y.pl] 25)
  have N0 := hid (show Near B b w _ from Near.ofBelow hal O.out.1)
  have W0 := hid (wr_below W.out hal)
  have O0 := hid (ok_on O.out N0.out.below)
  have Fx0 := hid (fit_near Fx.out N0.out)
  have Fy0 := hid (fit_near Fy.out N0.out)
  have HXx := hid hxx
  have HY := hid hyk
  have HYR := hid hyr
  have hbx := boxes2 w x.kind x.op x.num x.str (.slice xa1 x.names.length xq1) (.slice xa2 x.kids.length xq2) x.pl y.kind y.op y.num y.str (.slice ya1 y.names.length yq1) (.slice ya2 y.kids.length yq2) y.pl
  have Xx0 := hid hbx.1
  have Xy0 := hid hbx.2
  have HYB := hid (show (textN y).b = blockT (y.kids.map textN) by cases y; rw [textN_mk]; rfl)
  have HT := hid (show branchT key.data.toList (textN x) (textN y) = key.data.toList ++ ([32, 40] ++ ((textN x).e ++ ([41, 32] ++ blockT (y.kids.map textN)))) by unfold branchT; rw [HYB.out])
  rw [HT.out] at hl
  simp only [List.length_append, List.length_cons, List.length_nil] at hl
  clear hal W O Fx Fy hxx hyk hyr hbx HYB
  go_enter Tryd.func48, Tryd.ntmps48
  go_wp2_with fail
  refine (wstr_done key (by simp [hk0]) W0 (by omega) (by omega)).mono ?_
  rintro e w1 ⟨rfl, l1, hW, hw, nn, ne1⟩
  have N1 := hid (N0.out.trans nn)
  have W1 := hid hW
  have O1 := hid (ok_on O0.out nn.below)
  have Fx1 := hid (fit_near Fx0.out nn)
  have Fy1 := hid (fit_near Fy0.out nn)
  have Xx1 := hid (box_near Xx0.out (by omega) nn)
  have Xy1 := hid (box_near Xy0.out (by omega) nn)
  clear W0 N0 O0 Fx0 Fy0 Xx0 Xy0 nn hW
  obtain ⟨cXx_1_0, cXx_1_1, cXx_1_2, cXx_1_3, cXx_1_4, cXx_1_5, cXx_1_6⟩ := box_cells Xx1.out
  obtain ⟨cXy_1_0, cXy_1_1, cXy_1_2, cXy_1_3, cXy_1_4, cXy_1_5, cXy_1_6⟩ := box_cells Xy1.out
  have hlen1 := wrote_le hw
  have R1 := hid hw
  clear hw
  go_wp2_with fail
  refine (wstr_done ⟨#[32, 40]⟩ (by simp) W1 (by omega) (by decide)).mono ?_
  rintro e w2 ⟨rfl, l2, hW, hw, nn, ne2⟩
  have N2 := hid (N1.out.trans nn)
  have W2 := hid hW
  have O2 := hid (ok_on O1.out nn.below)
  have Fx2 := hid (fit_near Fx1.out nn)
  have Fy2 := hid (fit_near Fy1.out nn)
  have Xx2 := hid (box_near Xx1.out (by omega) nn)
  have Xy2 := hid (box_near Xy1.out (by omega) nn)
  clear W1 N1 O1 Fx1 Fy1 Xx1 Xy1 nn hW cXx_1_0 cXx_1_1 cXx_1_2 cXx_1_3 cXx_1_4 cXx_1_5 cXx_1_6 cXy_1_0 cXy_1_1 cXy_1_2 cXy_1_3 cXy_1_4 cXy_1_5 cXy_1_6
  obtain ⟨cXx_2_0, cXx_2_1, cXx_2_2, cXx_2_3, cXx_2_4, cXx_2_5, cXx_2_6⟩ := box_cells Xx2.out
  obtain ⟨cXy_2_0, cXy_2_1, cXy_2_2, cXy_2_3, cXy_2_4, cXy_2_5, cXy_2_6⟩ := box_cells Xy2.out
  have hlen2 := wrote_le hw
  simp only [List.length_cons, List.length_nil] at hlen2
  have R2 := hid (R1.out.trans hw)
  clear hw R1
  go_wp2_with fail
  refine (HXx.out B b _ _ _ _ W2 O2 (hid Fx2.out.1) Fx2.out.2.1 Fx2.out.2.2.1 Fx2.out.2.2.2 (by omega)).mono ?_
  rintro e w3 ⟨rfl, l3, hW, hw, nn⟩
  have N3 := hid (N2.out.trans nn)
  have W3 := hid hW
  have O3 := hid (ok_on O2.out nn.below)
  have Fx3 := hid (fit_near Fx2.out nn)
  have Fy3 := hid (fit_near Fy2.out nn)
  have Xx3 := hid (box_near Xx2.out (by omega) nn)
  have Xy3 := hid (box_near Xy2.out (by omega) nn)
  clear W2 N2 O2 Fx2 Fy2 Xx2 Xy2 nn hW cXx_2_0 cXx_2_1 cXx_2_2 cXx_2_3 cXx_2_4 cXx_2_5 cXx_2_6 cXy_2_0 cXy_2_1 cXy_2_2 cXy_2_3 cXy_2_4 cXy_2_5 cXy_2_6
  obtain ⟨cXx_3_0, cXx_3_1, cXx_3_2, cXx_3_3, cXx_3_4, cXx_3_5, cXx_3_6⟩ := box_cells Xx3.out
  obtain ⟨cXy_3_0, cXy_3_1, cXy_3_2, cXy_3_3, cXy_3_4, cXy_3_5, cXy_3_6⟩ := box_cells Xy3.out
  have hlen3 := wrote_le hw
  have R3 := hid (R2.out.trans hw)
  clear hw R2
  go_wp2_with fail
  refine (wstr_done ⟨#[41, 32]⟩ (by simp) W3 (by omega) (by decide)).mono ?_
  rintro e w4 ⟨rfl, l4, hW, hw, nn, ne4⟩
  have N4 := hid (N3.out.trans nn)
  have W4 := hid hW
  have O4 := hid (ok_on O3.out nn.below)
  have Fx4 := hid (fit_near Fx3.out nn)
  have Fy4 := hid (fit_near Fy3.out nn)
  have Xx4 := hid (box_near Xx3.out (by omega) nn)
  have Xy4 := hid (box_near Xy3.out (by omega) nn)
  clear W3 N3 O3 Fx3 Fy3 Xx3 Xy3 nn hW cXx_3_0 cXx_3_1 cXx_3_2 cXx_3_3 cXx_3_4 cXx_3_5 cXx_3_6 cXy_3_0 cXy_3_1 cXy_3_2 cXy_3_3 cXy_3_4 cXy_3_5 cXy_3_6
  obtain ⟨cXx_4_0, cXx_4_1, cXx_4_2, cXx_4_3, cXx_4_4, cXx_4_5, cXx_4_6⟩ := box_cells Xx4.out
  obtain ⟨cXy_4_0, cXy_4_1, cXy_4_2, cXy_4_3, cXy_4_4, cXy_4_5, cXy_4_6⟩ := box_cells Xy4.out
  have hlen4 := wrote_le hw
  simp only [List.length_cons, List.length_nil] at hlen4
  have R4 := hid (R3.out.trans hw)
  clear hw R3
  go_wp2_with fail
  refine (wblock_calls y.kids HY.out HYR.out B b _ _ _ W4 O4 (hid (fit_kids Fy4.out).1) (fit_kids Fy4.out).2.1 (fit_kids Fy4.out).2.2 (by omega)).mono ?_
  rintro e w5 ⟨rfl, l5, hW, hw, nn⟩
  have N5 := hid (N4.out.trans nn)
  have W5 := hid hW
  have O5 := hid (ok_on O4.out nn.below)
  have Fx5 := hid (fit_near Fx4.out nn)
  have Fy5 := hid (fit_near Fy4.out nn)
  have Xx5 := hid (box_near Xx4.out (by omega) nn)
  have Xy5 := hid (box_near Xy4.out (by omega) nn)
  clear W4 N4 O4 Fx4 Fy4 Xx4 Xy4 nn hW cXx_4_0 cXx_4_1 cXx_4_2 cXx_4_3 cXx_4_4 cXx_4_5 cXx_4_6 cXy_4_0 cXy_4_1 cXy_4_2 cXy_4_3 cXy_4_4 cXy_4_5 cXy_4_6
  obtain ⟨cXx_5_0, cXx_5_1, cXx_5_2, cXx_5_3, cXx_5_4, cXx_5_5, cXx_5_6⟩ := box_cells Xx5.out
  obtain ⟨cXy_5_0, cXy_5_1, cXy_5_2, cXy_5_3, cXy_5_4, cXy_5_5, cXy_5_6⟩ := box_cells Xy5.out
  have hlen5 := wrote_le hw
  have R5 := hid (R4.out.trans hw)
  clear hw R4
  have D := hid (done_mk W5.out R5.out (show ((((key.data.toList ++ [32, 40]) ++ (textN x).e) ++ [41, 32]) ++ blockT (y.kids.map textN)) = branchT key.data.toList (textN x) (textN y) by rw [HT.out]; first | done | simp only [List.append_assoc, List.cons_append, List.nil_append]) N5.out)
  clear W5 N5 O5 R5 Fx5 Fy5 Xx5 Xy5 cXx_5_0 cXx_5_1 cXx_5_2 cXx_5_3 cXx_5_4 cXx_5_5 cXx_5_6 cXy_5_0 cXy_5_1 cXy_5_2 cXy_5_3 cXy_5_4 cXy_5_5 cXy_5_6
  go_wp2_with fail
  go_end0
  exact D.out

end Go.Proofs.YtlnllpehifkjhaaDoor
