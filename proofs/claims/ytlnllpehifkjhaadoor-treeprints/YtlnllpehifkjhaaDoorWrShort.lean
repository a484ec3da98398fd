/- Statements without blocks. -/
import Derived.Test.YtlnllpehifkjhaaDoorWrObj
namespace Go.Proofs.YtlnllpehifkjhaaDoor
open Go.RowKit
set_option linter.unusedVariables false

theorem nearB_mk {B b g : Nat} {w0 a : World} {k o n : Int} {s : ByteArray} {nv kv : Value} {p : Int} (h1 : Near B b w0 a) (h2 : Box g k o n s nv kv p a) (h3 : g ≠ b) : (Near B b w0 a ∧ Box g k o n s nv kv p a ∧ g ≠ b) ∧ a.cell? ⟨g, 0, none⟩ = some (.int .i64 k) ∧ a.cell? ⟨g, 1, none⟩ = some (.int .i64 o) ∧ a.cell? ⟨g, 2, none⟩ = some (.int .i64 n) ∧ a.cell? ⟨g, 3, none⟩ = some (.string s) ∧ a.cell? ⟨g, 4, none⟩ = some nv ∧ a.cell? ⟨g, 5, none⟩ = some kv ∧ a.cell? ⟨g, 6, none⟩ = some (.int .i64 p) := ⟨⟨h1, h2, h3⟩, box_cells h2⟩
theorem nearBK_mk {B b g : Nat} {w0 a : World} {k o n : Int} {s : ByteArray} {nv kv : Value} {p : Int} {t u : Nat} {k1 o1 n1 : Int} {s1 : ByteArray} {nv1 kv1 : Value} {p1 : Int} (h1 : Near B b w0 a) (h2 : Box g k o n s nv kv p a) (h3 : g ≠ b) (t1 : t < B) (m1 : NodeAt t u k1 o1 n1 s1 nv1 kv1 p1 a) : (Near B b w0 a ∧ Box g k o n s nv kv p a ∧ g ≠ b ∧ t < B ∧ NodeAt t (u) k1 o1 n1 s1 nv1 kv1 p1 a) ∧ a.cell? ⟨g, 0, none⟩ = some (.int .i64 k) ∧ a.cell? ⟨g, 1, none⟩ = some (.int .i64 o) ∧ a.cell? ⟨g, 2, none⟩ = some (.int .i64 n) ∧ a.cell? ⟨g, 3, none⟩ = some (.string s) ∧ a.cell? ⟨g, 4, none⟩ = some nv ∧ a.cell? ⟨g, 5, none⟩ = some kv ∧ a.cell? ⟨g, 6, none⟩ = some (.int .i64 p) ∧ a.cell? ⟨t, u, none⟩ = some (.int .i64 k1) ∧ a.cell? ⟨t, u + 1, none⟩ = some (.int .i64 o1) ∧ a.cell? ⟨t, u + 2, none⟩ = some (.int .i64 n1) ∧ a.cell? ⟨t, u + 3, none⟩ = some (.string s1) ∧ a.cell? ⟨t, u + 4, none⟩ = some nv1 ∧ a.cell? ⟨t, u + 5, none⟩ = some kv1 ∧ a.cell? ⟨t, u + 6, none⟩ = some (.int .i64 p1) := by
  obtain ⟨x0, x1, x2, x3, x4, x5, x6⟩ := box_cells h2
  have m := m1
  obtain ⟨z0, z1, z2, z3, z4, z5, z6⟩ := m1
  exact ⟨⟨h1, h2, h3, t1, m⟩, x0, x1, x2, x3, x4, x5, x6, z0, z1, z2, z3, z4, z5, z6⟩
theorem nearBKK_mk {B b g : Nat} {w0 a : World} {k o n : Int} {s : ByteArray} {nv kv : Value} {p : Int} {t u : Nat} {k1 o1 n1 : Int} {s1 : ByteArray} {nv1 kv1 : Value} {p1 : Int} {t2 u2 : Nat} {k2 o2 n2 : Int} {s2 : ByteArray} {nv2 kv2 : Value} {p2 : Int} (h1 : Near B b w0 a) (h2 : Box g k o n s nv kv p a) (h3 : g ≠ b) (t1 : t < B) (m1 : NodeAt t u k1 o1 n1 s1 nv1 kv1 p1 a) (t2' : t2 < B) (m2 : NodeAt t2 u2 k2 o2 n2 s2 nv2 kv2 p2 a) : (Near B b w0 a ∧ Box g k o n s nv kv p a ∧ g ≠ b ∧ t < B ∧ NodeAt t (u) k1 o1 n1 s1 nv1 kv1 p1 a ∧ t2 < B ∧ NodeAt t2 (u2) k2 o2 n2 s2 nv2 kv2 p2 a) ∧ a.cell? ⟨g, 0, none⟩ = some (.int .i64 k) ∧ a.cell? ⟨g, 1, none⟩ = some (.int .i64 o) ∧ a.cell? ⟨g, 2, none⟩ = some (.int .i64 n) ∧ a.cell? ⟨g, 3, none⟩ = some (.string s) ∧ a.cell? ⟨g, 4, none⟩ = some nv ∧ a.cell? ⟨g, 5, none⟩ = some kv ∧ a.cell? ⟨g, 6, none⟩ = some (.int .i64 p) ∧ a.cell? ⟨t, u, none⟩ = some (.int .i64 k1) ∧ a.cell? ⟨t, u + 1, none⟩ = some (.int .i64 o1) ∧ a.cell? ⟨t, u + 2, none⟩ = some (.int .i64 n1) ∧ a.cell? ⟨t, u + 3, none⟩ = some (.string s1) ∧ a.cell? ⟨t, u + 4, none⟩ = some nv1 ∧ a.cell? ⟨t, u + 5, none⟩ = some kv1 ∧ a.cell? ⟨t, u + 6, none⟩ = some (.int .i64 p1) ∧ a.cell? ⟨t2, u2, none⟩ = some (.int .i64 k2) ∧ a.cell? ⟨t2, u2 + 1, none⟩ = some (.int .i64 o2) ∧ a.cell? ⟨t2, u2 + 2, none⟩ = some (.int .i64 n2) ∧ a.cell? ⟨t2, u2 + 3, none⟩ = some (.string s2) ∧ a.cell? ⟨t2, u2 + 4, none⟩ = some nv2 ∧ a.cell? ⟨t2, u2 + 5, none⟩ = some kv2 ∧ a.cell? ⟨t2, u2 + 6, none⟩ = some (.int .i64 p2) := by
  obtain ⟨x0, x1, x2, x3, x4, x5, x6⟩ := box_cells h2
  have m := m1
  have m' := m2
  obtain ⟨z0, z1, z2, z3, z4, z5, z6⟩ := m1
  obtain ⟨y0, y1, y2, y3, y4, y5, y6⟩ := m2
  exact ⟨⟨h1, h2, h3, t1, m, t2', m'⟩, x0, x1, x2, x3, x4, x5, x6, z0, z1, z2, z3, z4, z5, z6, y0, y1, y2, y3, y4, y5, y6⟩

set_option maxHeartbeats 3200000 in
set_option maxRecDepth 100000 in
theorem short21 (o : Int) (n : Int) (s : ByteArray) (a1 : Option Addr) (c1 q1 : Nat) (t off q2 : Nat) (p : Int) (hs0 : s.data.toList ≠ []) (hs : s.size ≤ 1000000) (x : Nd) (hxx : ExprW x) (xa1 : Option Addr) (xq1 : Nat) (xa2 : Option Addr) (xq2 : Nat) (B b : Nat) (l : List UInt8) (w : World) (W : Hid (Wr B b l w)) (O : Hid (Ok B w)) (htB : t < B) (Kx : Hid (NodeAt t (off) x.kind x.op x.num x.str (.slice xa1 x.names.length xq1) (.slice xa2 x.kids.length xq2) x.pl w)) (Fx : Hid (Fit B x (.slice xa1 x.names.length xq1) (.slice xa2 x.kids.length xq2) 1 w)) (hl : l.length + ([108, 101, 116, 32] ++ (s.data.toList ++ becomesT (textN x))).length ≤ 100000000) :
    Calls Tryd.prog 51 #[.pointer (some ⟨b, 0, none⟩), .agg #[.int .i64 21, .int .i64 o, .int .i64 n, .string s, .slice a1 c1 q1, .slice (some ⟨t, off, none⟩) 1 q2, .int .i64 p]] w (Done B b l ([108, 101, 116, 32] ++ (s.data.toList ++ becomesT (textN x))) w) := by
  have hlt := wr_lt W.out
  have hal := box1_below w (.cells #[.int .i64 21, .int .i64 o, .int .i64 n, .string s, .slice a1 c1 q1, .slice (some ⟨t, off, none⟩) 1 q2, .int .i64 p] 25)
  have N0 := hid (show Near B b w _ from Near.ofBelow hal O.out.1)
  have W0 := hid (wr_below W.out hal)
  have O0 := hid (ok_on O.out N0.out.below)
  have X0 := hid (box_new w 21 o n s (.slice a1 c1 q1) (.slice (some ⟨t, off, none⟩) 1 q2) p)
  have htw : t < w.heap.size := Nat.lt_of_lt_of_le htB O.out.1
  have Fx0 := hid (fit_near Fx.out N0.out)
  have HXx := hid hxx
  have Kx0 := hid (nodeAt_on Kx.out htB N0.out.below)
  simp only [List.length_append, List.length_cons, List.length_nil] at hl
  clear hal W O Fx hxx Kx
  obtain ⟨cKx_0_0, cKx_0_1, cKx_0_2, cKx_0_3, cKx_0_4, cKx_0_5, cKx_0_6⟩ := Kx0.out
  go_enter Tryd.func51, Tryd.ntmps51
  go_wp2_with fail
  refine (wstr_done ⟨#[108, 101, 116, 32]⟩ (by simp) W0 (by omega) (by decide)).mono ?_
  rintro e w1 ⟨rfl, l1, hW, hw, nn, ne1⟩
  have N1 := hid (N0.out.trans nn)
  have W1 := hid hW
  have O1 := hid (ok_on O0.out nn.below)
  have X1 := hid (box_near X0.out (by omega) nn)
  have Fx1 := hid (fit_near Fx0.out nn)
  have Kx1 := hid (nodeAt_on Kx0.out htB nn.below)
  clear W0 N0 O0 X0 Fx0 Kx0 nn hW cKx_0_0 cKx_0_1 cKx_0_2 cKx_0_3 cKx_0_4 cKx_0_5 cKx_0_6
  obtain ⟨cX_1_0, cX_1_1, cX_1_2, cX_1_3, cX_1_4, cX_1_5, cX_1_6⟩ := box_cells X1.out
  obtain ⟨cKx_1_0, cKx_1_1, cKx_1_2, cKx_1_3, cKx_1_4, cKx_1_5, cKx_1_6⟩ := Kx1.out
  have hlen1 := wrote_le hw
  simp only [List.length_cons, List.length_nil] at hlen1
  have R1 := hid hw
  clear hw
  have S0 := hid (nearB_mk N1.out X1.out (by omega))
  go_wp2_with fail
  go_region_held3 (fun a => (Near B b w a ∧ Box w.heap.size 21 o n s (.slice a1 c1 q1) (.slice (some ⟨t, off, none⟩) 1 q2) p a ∧ w.heap.size ≠ b) ∧ a.cell? ⟨w.heap.size, 0, none⟩ = some (.int .i64 21) ∧ a.cell? ⟨w.heap.size, 1, none⟩ = some (.int .i64 o) ∧ a.cell? ⟨w.heap.size, 2, none⟩ = some (.int .i64 n) ∧ a.cell? ⟨w.heap.size, 3, none⟩ = some (.string s) ∧ a.cell? ⟨w.heap.size, 4, none⟩ = some (.slice a1 c1 q1) ∧ a.cell? ⟨w.heap.size, 5, none⟩ = some (.slice (some ⟨t, off, none⟩) 1 q2) ∧ a.cell? ⟨w.heap.size, 6, none⟩ = some (.int .i64 p))
    (first | exact nearB (by assumption) nn | exact nearB S0.out (near_draw _ _ _) | exact nearB (by assumption) (near_draw _ _ _))
    (first
      | (go_at_call 49; refine (wstr_done s (by simp [hs0]) (hid (wr_drew W1.out)) (by omega) (by omega)).mono ?_; rintro e wx ⟨rfl, l2, hW, hw, nn, ne2⟩))
  rename_i hz
  clear hz S0
  replace nn := (near_draw B b _).trans nn
  have N2 := hid (N1.out.trans nn)
  have W2 := hid hW
  have O2 := hid (ok_on O1.out nn.below)
  have X2 := hid (box_near X1.out (by omega) nn)
  have Fx2 := hid (fit_near Fx1.out nn)
  have Kx2 := hid (nodeAt_on Kx1.out htB nn.below)
  clear W1 N1 O1 X1 Fx1 Kx1 nn hW cX_1_0 cX_1_1 cX_1_2 cX_1_3 cX_1_4 cX_1_5 cX_1_6 cKx_1_0 cKx_1_1 cKx_1_2 cKx_1_3 cKx_1_4 cKx_1_5 cKx_1_6
  obtain ⟨cX_2_0, cX_2_1, cX_2_2, cX_2_3, cX_2_4, cX_2_5, cX_2_6⟩ := box_cells X2.out
  obtain ⟨cKx_2_0, cKx_2_1, cKx_2_2, cKx_2_3, cKx_2_4, cKx_2_5, cKx_2_6⟩ := Kx2.out
  have hlen2 := wrote_le hw
  have R2 := hid (R1.out.trans hw)
  clear hw R1
  go_wp2_with fail
  refine (becomes_calls x HXx.out _ _ _ _ B b _ _ W2 O2 Fx2 (by omega)).mono ?_
  rintro e w3 ⟨rfl, l3, hW, hw, nn⟩
  have N3 := hid (N2.out.trans nn)
  have W3 := hid hW
  have O3 := hid (ok_on O2.out nn.below)
  have X3 := hid (box_near X2.out (by omega) nn)
  have Fx3 := hid (fit_near Fx2.out nn)
  have Kx3 := hid (nodeAt_on Kx2.out htB nn.below)
  clear W2 N2 O2 X2 Fx2 Kx2 nn hW cX_2_0 cX_2_1 cX_2_2 cX_2_3 cX_2_4 cX_2_5 cX_2_6 cKx_2_0 cKx_2_1 cKx_2_2 cKx_2_3 cKx_2_4 cKx_2_5 cKx_2_6
  obtain ⟨cX_3_0, cX_3_1, cX_3_2, cX_3_3, cX_3_4, cX_3_5, cX_3_6⟩ := box_cells X3.out
  obtain ⟨cKx_3_0, cKx_3_1, cKx_3_2, cKx_3_3, cKx_3_4, cKx_3_5, cKx_3_6⟩ := Kx3.out
  have hlen3 := wrote_le hw
  have R3 := hid (R2.out.trans hw)
  clear hw R2
  have D := hid (done_mk W3.out R3.out (show (([108, 101, 116, 32] ++ s.data.toList) ++ becomesT (textN x)) = [108, 101, 116, 32] ++ (s.data.toList ++ becomesT (textN x)) by first | rfl | simp only [List.append_assoc, List.cons_append, List.nil_append]) N3.out)
  clear W3 N3 O3 R3 X3 Fx3 Kx3 cX_3_0 cX_3_1 cX_3_2 cX_3_3 cX_3_4 cX_3_5 cX_3_6 cKx_3_0 cKx_3_1 cKx_3_2 cKx_3_3 cKx_3_4 cKx_3_5 cKx_3_6
  go_wp2_with fail
  go_end0
  exact D.out

set_option maxHeartbeats 3200000 in
set_option maxRecDepth 100000 in
theorem short22 (o : Int) (n : Int) (s : ByteArray) (a1 : Option Addr) (c1 q1 : Nat) (t off q2 : Nat) (p : Int) (hs0 : s.data.toList ≠ []) (hs : s.size ≤ 1000000) (x : Nd) (hxx : ExprW x) (xa1 : Option Addr) (xq1 : Nat) (xa2 : Option Addr) (xq2 : Nat) (B b : Nat) (l : List UInt8) (w : World) (W : Hid (Wr B b l w)) (O : Hid (Ok B w)) (htB : t < B) (Kx : Hid (NodeAt t (off) x.kind x.op x.num x.str (.slice xa1 x.names.length xq1) (.slice xa2 x.kids.length xq2) x.pl w)) (Fx : Hid (Fit B x (.slice xa1 x.names.length xq1) (.slice xa2 x.kids.length xq2) 1 w)) (hl : l.length + (s.data.toList ++ becomesT (textN x)).length ≤ 100000000) :
    Calls Tryd.prog 51 #[.pointer (some ⟨b, 0, none⟩), .agg #[.int .i64 22, .int .i64 o, .int .i64 n, .string s, .slice a1 c1 q1, .slice (some ⟨t, off, none⟩) 1 q2, .int .i64 p]] w (Done B b l (s.data.toList ++ becomesT (textN x)) w) := by
  have hlt := wr_lt W.out
  have hal := box1_below w (.cells #[.int .i64 22, .int .i64 o, .int .i64 n, .string s, .slice a1 c1 q1, .slice (some ⟨t, off, none⟩) 1 q2, .int .i64 p] 25)
  have N0 := hid (show Near B b w _ from Near.ofBelow hal O.out.1)
  have W0 := hid (wr_below W.out hal)
  have O0 := hid (ok_on O.out N0.out.below)
  have X0 := hid (box_new w 22 o n s (.slice a1 c1 q1) (.slice (some ⟨t, off, none⟩) 1 q2) p)
  have htw : t < w.heap.size := Nat.lt_of_lt_of_le htB O.out.1
  have Fx0 := hid (fit_near Fx.out N0.out)
  have HXx := hid hxx
  have Kx0 := hid (nodeAt_on Kx.out htB N0.out.below)
  simp only [List.length_append] at hl
  clear hal W O Fx hxx Kx
  obtain ⟨cKx_0_0, cKx_0_1, cKx_0_2, cKx_0_3, cKx_0_4, cKx_0_5, cKx_0_6⟩ := Kx0.out
  go_enter Tryd.func51, Tryd.ntmps51
  have S0 := hid (nearB_mk N0.out X0.out (by omega))
  go_wp2_with fail
  go_region_held3 (fun a => (Near B b w a ∧ Box w.heap.size 22 o n s (.slice a1 c1 q1) (.slice (some ⟨t, off, none⟩) 1 q2) p a ∧ w.heap.size ≠ b) ∧ a.cell? ⟨w.heap.size, 0, none⟩ = some (.int .i64 22) ∧ a.cell? ⟨w.heap.size, 1, none⟩ = some (.int .i64 o) ∧ a.cell? ⟨w.heap.size, 2, none⟩ = some (.int .i64 n) ∧ a.cell? ⟨w.heap.size, 3, none⟩ = some (.string s) ∧ a.cell? ⟨w.heap.size, 4, none⟩ = some (.slice a1 c1 q1) ∧ a.cell? ⟨w.heap.size, 5, none⟩ = some (.slice (some ⟨t, off, none⟩) 1 q2) ∧ a.cell? ⟨w.heap.size, 6, none⟩ = some (.int .i64 p))
    (first | exact nearB (by assumption) nn | exact nearB S0.out (near_draw _ _ _) | exact nearB (by assumption) (near_draw _ _ _))
    (first
      | (go_at_call 49; refine (wstr_done s (by simp [hs0]) (hid (wr_drew W0.out)) (by omega) (by omega)).mono ?_; rintro e wx ⟨rfl, l1, hW, hw, nn, ne1⟩))
  rename_i hz
  clear hz S0
  replace nn := (near_draw B b _).trans nn
  have N1 := hid (N0.out.trans nn)
  have W1 := hid hW
  have O1 := hid (ok_on O0.out nn.below)
  have X1 := hid (box_near X0.out (by omega) nn)
  have Fx1 := hid (fit_near Fx0.out nn)
  have Kx1 := hid (nodeAt_on Kx0.out htB nn.below)
  clear W0 N0 O0 X0 Fx0 Kx0 nn hW cKx_0_0 cKx_0_1 cKx_0_2 cKx_0_3 cKx_0_4 cKx_0_5 cKx_0_6
  obtain ⟨cX_1_0, cX_1_1, cX_1_2, cX_1_3, cX_1_4, cX_1_5, cX_1_6⟩ := box_cells X1.out
  obtain ⟨cKx_1_0, cKx_1_1, cKx_1_2, cKx_1_3, cKx_1_4, cKx_1_5, cKx_1_6⟩ := Kx1.out
  have hlen1 := wrote_le hw
  have R1 := hid hw
  clear hw
  go_wp2_with fail
  refine (becomes_calls x HXx.out _ _ _ _ B b _ _ W1 O1 Fx1 (by omega)).mono ?_
  rintro e w2 ⟨rfl, l2, hW, hw, nn⟩
  have N2 := hid (N1.out.trans nn)
  have W2 := hid hW
  have O2 := hid (ok_on O1.out nn.below)
  have X2 := hid (box_near X1.out (by omega) nn)
  have Fx2 := hid (fit_near Fx1.out nn)
  have Kx2 := hid (nodeAt_on Kx1.out htB nn.below)
  clear W1 N1 O1 X1 Fx1 Kx1 nn hW cX_1_0 cX_1_1 cX_1_2 cX_1_3 cX_1_4 cX_1_5 cX_1_6 cKx_1_0 cKx_1_1 cKx_1_2 cKx_1_3 cKx_1_4 cKx_1_5 cKx_1_6
  obtain ⟨cX_2_0, cX_2_1, cX_2_2, cX_2_3, cX_2_4, cX_2_5, cX_2_6⟩ := box_cells X2.out
  obtain ⟨cKx_2_0, cKx_2_1, cKx_2_2, cKx_2_3, cKx_2_4, cKx_2_5, cKx_2_6⟩ := Kx2.out
  have hlen2 := wrote_le hw
  have R2 := hid (R1.out.trans hw)
  clear hw R1
  have D := hid (done_mk W2.out R2.out (show (s.data.toList ++ becomesT (textN x)) = s.data.toList ++ becomesT (textN x) by first | rfl | simp only [List.append_assoc, List.cons_append, List.nil_append]) N2.out)
  clear W2 N2 O2 R2 X2 Fx2 Kx2 cX_2_0 cX_2_1 cX_2_2 cX_2_3 cX_2_4 cX_2_5 cX_2_6 cKx_2_0 cKx_2_1 cKx_2_2 cKx_2_3 cKx_2_4 cKx_2_5 cKx_2_6
  go_wp2_with fail
  go_end0
  exact D.out

set_option maxHeartbeats 3200000 in
set_option maxRecDepth 100000 in
theorem short23 (o : Int) (n : Int) (s : ByteArray) (a1 : Option Addr) (c1 q1 : Nat) (t off q2 : Nat) (p : Int) (hs0 : s.data.toList ≠ []) (hs : s.size ≤ 1000000) (x : Nd) (hxx : ExprW x) (xa1 : Option Addr) (xq1 : Nat) (xa2 : Option Addr) (xq2 : Nat) (y : Nd) (hxy : ExprW y) (ya1 : Option Addr) (yq1 : Nat) (ya2 : Option Addr) (yq2 : Nat) (B b : Nat) (l : List UInt8) (w : World) (W : Hid (Wr B b l w)) (O : Hid (Ok B w)) (htB : t < B) (Kx : Hid (NodeAt t (off) x.kind x.op x.num x.str (.slice xa1 x.names.length xq1) (.slice xa2 x.kids.length xq2) x.pl w)) (Fx : Hid (Fit B x (.slice xa1 x.names.length xq1) (.slice xa2 x.kids.length xq2) 1 w)) (Ky : Hid (NodeAt t (off + 7) y.kind y.op y.num y.str (.slice ya1 y.names.length yq1) (.slice ya2 y.kids.length yq2) y.pl w)) (Fy : Hid (Fit B y (.slice ya1 y.names.length yq1) (.slice ya2 y.kids.length yq2) 1 w)) (hl : l.length + (getT (textN x) s ++ becomesT (textN y)).length ≤ 100000000) :
    Calls Tryd.prog 51 #[.pointer (some ⟨b, 0, none⟩), .agg #[.int .i64 23, .int .i64 o, .int .i64 n, .string s, .slice a1 c1 q1, .slice (some ⟨t, off, none⟩) 2 q2, .int .i64 p]] w (Done B b l (getT (textN x) s ++ becomesT (textN y)) w) := by
  have hlt := wr_lt W.out
  have hal := box1_below w (.cells #[.int .i64 23, .int .i64 o, .int .i64 n, .string s, .slice a1 c1 q1, .slice (some ⟨t, off, none⟩) 2 q2, .int .i64 p] 25)
  have N0 := hid (show Near B b w _ from Near.ofBelow hal O.out.1)
  have W0 := hid (wr_below W.out hal)
  have O0 := hid (ok_on O.out N0.out.below)
  have X0 := hid (box_new w 23 o n s (.slice a1 c1 q1) (.slice (some ⟨t, off, none⟩) 2 q2) p)
  have htw : t < w.heap.size := Nat.lt_of_lt_of_le htB O.out.1
  have Fx0 := hid (fit_near Fx.out N0.out)
  have HXx := hid hxx
  have Kx0 := hid (nodeAt_on Kx.out htB N0.out.below)
  have Fy0 := hid (fit_near Fy.out N0.out)
  have HXy := hid hxy
  have Ky0 := hid (nodeAt_on Ky.out htB N0.out.below)
  simp only [List.length_append] at hl
  clear hal W O Fx hxx Kx Fy hxy Ky
  obtain ⟨cKx_0_0, cKx_0_1, cKx_0_2, cKx_0_3, cKx_0_4, cKx_0_5, cKx_0_6⟩ := Kx0.out
  obtain ⟨cKy_0_0, cKy_0_1, cKy_0_2, cKy_0_3, cKy_0_4, cKy_0_5, cKy_0_6⟩ := Ky0.out
  go_enter Tryd.func51, Tryd.ntmps51
  have S0 := hid (nearBK_mk N0.out X0.out (by omega) htB Kx0.out)
  go_wp2_with fail
  go_region_held3 (fun a => (Near B b w a ∧ Box w.heap.size 23 o n s (.slice a1 c1 q1) (.slice (some ⟨t, off, none⟩) 2 q2) p a ∧ w.heap.size ≠ b ∧ t < B ∧ NodeAt t (off) x.kind x.op x.num x.str (.slice xa1 x.names.length xq1) (.slice xa2 x.kids.length xq2) x.pl a) ∧ a.cell? ⟨w.heap.size, 0, none⟩ = some (.int .i64 23) ∧ a.cell? ⟨w.heap.size, 1, none⟩ = some (.int .i64 o) ∧ a.cell? ⟨w.heap.size, 2, none⟩ = some (.int .i64 n) ∧ a.cell? ⟨w.heap.size, 3, none⟩ = some (.string s) ∧ a.cell? ⟨w.heap.size, 4, none⟩ = some (.slice a1 c1 q1) ∧ a.cell? ⟨w.heap.size, 5, none⟩ = some (.slice (some ⟨t, off, none⟩) 2 q2) ∧ a.cell? ⟨w.heap.size, 6, none⟩ = some (.int .i64 p) ∧ a.cell? ⟨t, off, none⟩ = some (.int .i64 x.kind) ∧ a.cell? ⟨t, off + 1, none⟩ = some (.int .i64 x.op) ∧ a.cell? ⟨t, off + 2, none⟩ = some (.int .i64 x.num) ∧ a.cell? ⟨t, off + 3, none⟩ = some (.string x.str) ∧ a.cell? ⟨t, off + 4, none⟩ = some (.slice xa1 x.names.length xq1) ∧ a.cell? ⟨t, off + 5, none⟩ = some (.slice xa2 x.kids.length xq2) ∧ a.cell? ⟨t, off + 6, none⟩ = some (.int .i64 x.pl))
    (first | exact nearBK (by assumption) nn | exact nearBK S0.out (near_draw _ _ _) | exact nearBK (by assumption) (near_draw _ _ _))
    (first
      | (go_at_call 66; refine (get_calls x HXx.out _ _ _ _ s hs0 (by omega) B b _ _ (hid (wr_drew W0.out)) (hid (ok_on O0.out (near_draw B b _).below)) (hid (fit_near Fx0.out (near_draw B b _))) (by omega)).mono ?_; rintro e wx ⟨rfl, l1, hW, hw, nn⟩))
  rename_i hz
  clear hz S0
  replace nn := (near_draw B b _).trans nn
  have N1 := hid (N0.out.trans nn)
  have W1 := hid hW
  have O1 := hid (ok_on O0.out nn.below)
  have X1 := hid (box_near X0.out (by omega) nn)
  have Fx1 := hid (fit_near Fx0.out nn)
  have Kx1 := hid (nodeAt_on Kx0.out htB nn.below)
  have Fy1 := hid (fit_near Fy0.out nn)
  have Ky1 := hid (nodeAt_on Ky0.out htB nn.below)
  clear W0 N0 O0 X0 Fx0 Kx0 Fy0 Ky0 nn hW cKx_0_0 cKx_0_1 cKx_0_2 cKx_0_3 cKx_0_4 cKx_0_5 cKx_0_6 cKy_0_0 cKy_0_1 cKy_0_2 cKy_0_3 cKy_0_4 cKy_0_5 cKy_0_6
  obtain ⟨cX_1_0, cX_1_1, cX_1_2, cX_1_3, cX_1_4, cX_1_5, cX_1_6⟩ := box_cells X1.out
  obtain ⟨cKx_1_0, cKx_1_1, cKx_1_2, cKx_1_3, cKx_1_4, cKx_1_5, cKx_1_6⟩ := Kx1.out
  obtain ⟨cKy_1_0, cKy_1_1, cKy_1_2, cKy_1_3, cKy_1_4, cKy_1_5, cKy_1_6⟩ := Ky1.out
  have hlen1 := wrote_le hw
  have R1 := hid hw
  clear hw
  go_wp2_with fail
  refine (becomes_calls y HXy.out _ _ _ _ B b _ _ W1 O1 Fy1 (by omega)).mono ?_
  rintro e w2 ⟨rfl, l2, hW, hw, nn⟩
  have N2 := hid (N1.out.trans nn)
  have W2 := hid hW
  have O2 := hid (ok_on O1.out nn.below)
  have X2 := hid (box_near X1.out (by omega) nn)
  have Fx2 := hid (fit_near Fx1.out nn)
  have Kx2 := hid (nodeAt_on Kx1.out htB nn.below)
  have Fy2 := hid (fit_near Fy1.out nn)
  have Ky2 := hid (nodeAt_on Ky1.out htB nn.below)
  clear W1 N1 O1 X1 Fx1 Kx1 Fy1 Ky1 nn hW cX_1_0 cX_1_1 cX_1_2 cX_1_3 cX_1_4 cX_1_5 cX_1_6 cKx_1_0 cKx_1_1 cKx_1_2 cKx_1_3 cKx_1_4 cKx_1_5 cKx_1_6 cKy_1_0 cKy_1_1 cKy_1_2 cKy_1_3 cKy_1_4 cKy_1_5 cKy_1_6
  obtain ⟨cX_2_0, cX_2_1, cX_2_2, cX_2_3, cX_2_4, cX_2_5, cX_2_6⟩ := box_cells X2.out
  obtain ⟨cKx_2_0, cKx_2_1, cKx_2_2, cKx_2_3, cKx_2_4, cKx_2_5, cKx_2_6⟩ := Kx2.out
  obtain ⟨cKy_2_0, cKy_2_1, cKy_2_2, cKy_2_3, cKy_2_4, cKy_2_5, cKy_2_6⟩ := Ky2.out
  have hlen2 := wrote_le hw
  have R2 := hid (R1.out.trans hw)
  clear hw R1
  have D := hid (done_mk W2.out R2.out (show (getT (textN x) s ++ becomesT (textN y)) = getT (textN x) s ++ becomesT (textN y) by first | rfl | simp only [List.append_assoc, List.cons_append, List.nil_append]) N2.out)
  clear W2 N2 O2 R2 X2 Fx2 Kx2 Fy2 Ky2 cX_2_0 cX_2_1 cX_2_2 cX_2_3 cX_2_4 cX_2_5 cX_2_6 cKx_2_0 cKx_2_1 cKx_2_2 cKx_2_3 cKx_2_4 cKx_2_5 cKx_2_6 cKy_2_0 cKy_2_1 cKy_2_2 cKy_2_3 cKy_2_4 cKy_2_5 cKy_2_6
  go_wp2_with fail
  go_end0
  exact D.out

set_option maxHeartbeats 3200000 in
set_option maxRecDepth 100000 in
theorem short24 (o : Int) (n : Int) (s : ByteArray) (a1 : Option Addr) (c1 q1 : Nat) (t off q2 : Nat) (p : Int)  (x : Nd) (hxx : ExprW x) (xa1 : Option Addr) (xq1 : Nat) (xa2 : Option Addr) (xq2 : Nat) (y : Nd) (hxy : ExprW y) (ya1 : Option Addr) (yq1 : Nat) (ya2 : Option Addr) (yq2 : Nat) (z : Nd) (hxz : ExprW z) (za1 : Option Addr) (zq1 : Nat) (za2 : Option Addr) (zq2 : Nat) (B b : Nat) (l : List UInt8) (w : World) (W : Hid (Wr B b l w)) (O : Hid (Ok B w)) (htB : t < B) (Kx : Hid (NodeAt t (off) x.kind x.op x.num x.str (.slice xa1 x.names.length xq1) (.slice xa2 x.kids.length xq2) x.pl w)) (Fx : Hid (Fit B x (.slice xa1 x.names.length xq1) (.slice xa2 x.kids.length xq2) 1 w)) (Ky : Hid (NodeAt t (off + 7) y.kind y.op y.num y.str (.slice ya1 y.names.length yq1) (.slice ya2 y.kids.length yq2) y.pl w)) (Fy : Hid (Fit B y (.slice ya1 y.names.length yq1) (.slice ya2 y.kids.length yq2) 1 w)) (Kz : Hid (NodeAt t (off + 14) z.kind z.op z.num z.str (.slice za1 z.names.length zq1) (.slice za2 z.kids.length zq2) z.pl w)) (Fz : Hid (Fit B z (.slice za1 z.names.length zq1) (.slice za2 z.kids.length zq2) 1 w)) (hl : l.length + (indexT (textN x) (textN y) ++ becomesT (textN z)).length ≤ 100000000) :
    Calls Tryd.prog 51 #[.pointer (some ⟨b, 0, none⟩), .agg #[.int .i64 24, .int .i64 o, .int .i64 n, .string s, .slice a1 c1 q1, .slice (some ⟨t, off, none⟩) 3 q2, .int .i64 p]] w (Done B b l (indexT (textN x) (textN y) ++ becomesT (textN z)) w) := by
  have hlt := wr_lt W.out
  have hal := box1_below w (.cells #[.int .i64 24, .int .i64 o, .int .i64 n, .string s, .slice a1 c1 q1, .slice (some ⟨t, off, none⟩) 3 q2, .int .i64 p] 25)
  have N0 := hid (show Near B b w _ from Near.ofBelow hal O.out.1)
  have W0 := hid (wr_below W.out hal)
  have O0 := hid (ok_on O.out N0.out.below)
  have X0 := hid (box_new w 24 o n s (.slice a1 c1 q1) (.slice (some ⟨t, off, none⟩) 3 q2) p)
  have htw : t < w.heap.size := Nat.lt_of_lt_of_le htB O.out.1
  have Fx0 := hid (fit_near Fx.out N0.out)
  have HXx := hid hxx
  have Kx0 := hid (nodeAt_on Kx.out htB N0.out.below)
  have Fy0 := hid (fit_near Fy.out N0.out)
  have HXy := hid hxy
  have Ky0 := hid (nodeAt_on Ky.out htB N0.out.below)
  have Fz0 := hid (fit_near Fz.out N0.out)
  have HXz := hid hxz
  have Kz0 := hid (nodeAt_on Kz.out htB N0.out.below)
  simp only [List.length_append] at hl
  clear hal W O Fx hxx Kx Fy hxy Ky Fz hxz Kz
  obtain ⟨cKx_0_0, cKx_0_1, cKx_0_2, cKx_0_3, cKx_0_4, cKx_0_5, cKx_0_6⟩ := Kx0.out
  obtain ⟨cKy_0_0, cKy_0_1, cKy_0_2, cKy_0_3, cKy_0_4, cKy_0_5, cKy_0_6⟩ := Ky0.out
  obtain ⟨cKz_0_0, cKz_0_1, cKz_0_2, cKz_0_3, cKz_0_4, cKz_0_5, cKz_0_6⟩ := Kz0.out
  go_enter Tryd.func51, Tryd.ntmps51
  have S0 := hid (nearBKK_mk N0.out X0.out (by omega) htB Kx0.out htB Ky0.out)
  go_wp2_with fail
  go_region_held3 (fun a => (Near B b w a ∧ Box w.heap.size 24 o n s (.slice a1 c1 q1) (.slice (some ⟨t, off, none⟩) 3 q2) p a ∧ w.heap.size ≠ b ∧ t < B ∧ NodeAt t (off) x.kind x.op x.num x.str (.slice xa1 x.names.length xq1) (.slice xa2 x.kids.length xq2) x.pl a ∧ t < B ∧ NodeAt t (off + 7) y.kind y.op y.num y.str (.slice ya1 y.names.length yq1) (.slice ya2 y.kids.length yq2) y.pl a) ∧ a.cell? ⟨w.heap.size, 0, none⟩ = some (.int .i64 24) ∧ a.cell? ⟨w.heap.size, 1, none⟩ = some (.int .i64 o) ∧ a.cell? ⟨w.heap.size, 2, none⟩ = some (.int .i64 n) ∧ a.cell? ⟨w.heap.size, 3, none⟩ = some (.string s) ∧ a.cell? ⟨w.heap.size, 4, none⟩ = some (.slice a1 c1 q1) ∧ a.cell? ⟨w.heap.size, 5, none⟩ = some (.slice (some ⟨t, off, none⟩) 3 q2) ∧ a.cell? ⟨w.heap.size, 6, none⟩ = some (.int .i64 p) ∧ a.cell? ⟨t, off, none⟩ = some (.int .i64 x.kind) ∧ a.cell? ⟨t, off + 1, none⟩ = some (.int .i64 x.op) ∧ a.cell? ⟨t, off + 2, none⟩ = some (.int .i64 x.num) ∧ a.cell? ⟨t, off + 3, none⟩ = some (.string x.str) ∧ a.cell? ⟨t, off + 4, none⟩ = some (.slice xa1 x.names.length xq1) ∧ a.cell? ⟨t, off + 5, none⟩ = some (.slice xa2 x.kids.length xq2) ∧ a.cell? ⟨t, off + 6, none⟩ = some (.int .i64 x.pl) ∧ a.cell? ⟨t, off + 7, none⟩ = some (.int .i64 y.kind) ∧ a.cell? ⟨t, off + 7 + 1, none⟩ = some (.int .i64 y.op) ∧ a.cell? ⟨t, off + 7 + 2, none⟩ = some (.int .i64 y.num) ∧ a.cell? ⟨t, off + 7 + 3, none⟩ = some (.string y.str) ∧ a.cell? ⟨t, off + 7 + 4, none⟩ = some (.slice ya1 y.names.length yq1) ∧ a.cell? ⟨t, off + 7 + 5, none⟩ = some (.slice ya2 y.kids.length yq2) ∧ a.cell? ⟨t, off + 7 + 6, none⟩ = some (.int .i64 y.pl))
    (first | exact nearBKK (by assumption) nn | exact nearBKK S0.out (near_draw _ _ _) | exact nearBKK (by assumption) (near_draw _ _ _))
    (first
      | (go_at_call 67; refine (index_calls x HXx.out _ _ _ _ y HXy.out _ _ _ _ B b _ _ (hid (wr_drew W0.out)) (hid (ok_on O0.out (near_draw B b _).below)) (hid (fit_near Fx0.out (near_draw B b _))) (hid (fit_near Fy0.out (near_draw B b _))) (by omega)).mono ?_; rintro e wx ⟨rfl, l1, hW, hw, nn⟩))
  rename_i hz
  clear hz S0
  replace nn := (near_draw B b _).trans nn
  have N1 := hid (N0.out.trans nn)
  have W1 := hid hW
  have O1 := hid (ok_on O0.out nn.below)
  have X1 := hid (box_near X0.out (by omega) nn)
  have Fx1 := hid (fit_near Fx0.out nn)
  have Kx1 := hid (nodeAt_on Kx0.out htB nn.below)
  have Fy1 := hid (fit_near Fy0.out nn)
  have Ky1 := hid (nodeAt_on Ky0.out htB nn.below)
  have Fz1 := hid (fit_near Fz0.out nn)
  have Kz1 := hid (nodeAt_on Kz0.out htB nn.below)
  clear W0 N0 O0 X0 Fx0 Kx0 Fy0 Ky0 Fz0 Kz0 nn hW cKx_0_0 cKx_0_1 cKx_0_2 cKx_0_3 cKx_0_4 cKx_0_5 cKx_0_6 cKy_0_0 cKy_0_1 cKy_0_2 cKy_0_3 cKy_0_4 cKy_0_5 cKy_0_6 cKz_0_0 cKz_0_1 cKz_0_2 cKz_0_3 cKz_0_4 cKz_0_5 cKz_0_6
  obtain ⟨cX_1_0, cX_1_1, cX_1_2, cX_1_3, cX_1_4, cX_1_5, cX_1_6⟩ := box_cells X1.out
  obtain ⟨cKx_1_0, cKx_1_1, cKx_1_2, cKx_1_3, cKx_1_4, cKx_1_5, cKx_1_6⟩ := Kx1.out
  obtain ⟨cKy_1_0, cKy_1_1, cKy_1_2, cKy_1_3, cKy_1_4, cKy_1_5, cKy_1_6⟩ := Ky1.out
  obtain ⟨cKz_1_0, cKz_1_1, cKz_1_2, cKz_1_3, cKz_1_4, cKz_1_5, cKz_1_6⟩ := Kz1.out
  have hlen1 := wrote_le hw
  have R1 := hid hw
  clear hw
  go_wp2_with fail
  refine (becomes_calls z HXz.out _ _ _ _ B b _ _ W1 O1 Fz1 (by omega)).mono ?_
  rintro e w2 ⟨rfl, l2, hW, hw, nn⟩
  have N2 := hid (N1.out.trans nn)
  have W2 := hid hW
  have O2 := hid (ok_on O1.out nn.below)
  have X2 := hid (box_near X1.out (by omega) nn)
  have Fx2 := hid (fit_near Fx1.out nn)
  have Kx2 := hid (nodeAt_on Kx1.out htB nn.below)
  have Fy2 := hid (fit_near Fy1.out nn)
  have Ky2 := hid (nodeAt_on Ky1.out htB nn.below)
  have Fz2 := hid (fit_near Fz1.out nn)
  have Kz2 := hid (nodeAt_on Kz1.out htB nn.below)
  clear W1 N1 O1 X1 Fx1 Kx1 Fy1 Ky1 Fz1 Kz1 nn hW cX_1_0 cX_1_1 cX_1_2 cX_1_3 cX_1_4 cX_1_5 cX_1_6 cKx_1_0 cKx_1_1 cKx_1_2 cKx_1_3 cKx_1_4 cKx_1_5 cKx_1_6 cKy_1_0 cKy_1_1 cKy_1_2 cKy_1_3 cKy_1_4 cKy_1_5 cKy_1_6 cKz_1_0 cKz_1_1 cKz_1_2 cKz_1_3 cKz_1_4 cKz_1_5 cKz_1_6
  obtain ⟨cX_2_0, cX_2_1, cX_2_2, cX_2_3, cX_2_4, cX_2_5, cX_2_6⟩ := box_cells X2.out
  obtain ⟨cKx_2_0, cKx_2_1, cKx_2_2, cKx_2_3, cKx_2_4, cKx_2_5, cKx_2_6⟩ := Kx2.out
  obtain ⟨cKy_2_0, cKy_2_1, cKy_2_2, cKy_2_3, cKy_2_4, cKy_2_5, cKy_2_6⟩ := Ky2.out
  obtain ⟨cKz_2_0, cKz_2_1, cKz_2_2, cKz_2_3, cKz_2_4, cKz_2_5, cKz_2_6⟩ := Kz2.out
  have hlen2 := wrote_le hw
  have R2 := hid (R1.out.trans hw)
  clear hw R1
  have D := hid (done_mk W2.out R2.out (show (indexT (textN x) (textN y) ++ becomesT (textN z)) = indexT (textN x) (textN y) ++ becomesT (textN z) by first | rfl | simp only [List.append_assoc, List.cons_append, List.nil_append]) N2.out)
  clear W2 N2 O2 R2 X2 Fx2 Kx2 Fy2 Ky2 Fz2 Kz2 cX_2_0 cX_2_1 cX_2_2 cX_2_3 cX_2_4 cX_2_5 cX_2_6 cKx_2_0 cKx_2_1 cKx_2_2 cKx_2_3 cKx_2_4 cKx_2_5 cKx_2_6 cKy_2_0 cKy_2_1 cKy_2_2 cKy_2_3 cKy_2_4 cKy_2_5 cKy_2_6 cKz_2_0 cKz_2_1 cKz_2_2 cKz_2_3 cKz_2_4 cKz_2_5 cKz_2_6
  go_wp2_with fail
  go_end0
  exact D.out

set_option maxHeartbeats 3200000 in
set_option maxRecDepth 100000 in
theorem short25 (o : Int) (n : Int) (s : ByteArray) (a1 : Option Addr) (c1 q1 : Nat) (t off q2 : Nat) (p : Int) (hs0 : s.data.toList ≠ []) (hs : s.size ≤ 1000000) (x : Nd) (hxx : ExprW x) (xa1 : Option Addr) (xq1 : Nat) (xa2 : Option Addr) (xq2 : Nat) (B b : Nat) (l : List UInt8) (w : World) (W : Hid (Wr B b l w)) (O : Hid (Ok B w)) (htB : t < B) (Kx : Hid (NodeAt t (off) x.kind x.op x.num x.str (.slice xa1 x.names.length xq1) (.slice xa2 x.kids.length xq2) x.pl w)) (Fx : Hid (Fit B x (.slice xa1 x.names.length xq1) (.slice xa2 x.kids.length xq2) 1 w)) (hl : l.length + ([100, 101, 108, 101, 116, 101, 32] ++ getT (textN x) s).length ≤ 100000000) :
    Calls Tryd.prog 51 #[.pointer (some ⟨b, 0, none⟩), .agg #[.int .i64 25, .int .i64 o, .int .i64 n, .string s, .slice a1 c1 q1, .slice (some ⟨t, off, none⟩) 1 q2, .int .i64 p]] w (Done B b l ([100, 101, 108, 101, 116, 101, 32] ++ getT (textN x) s) w) := by
  have hlt := wr_lt W.out
  have hal := box1_below w (.cells #[.int .i64 25, .int .i64 o, .int .i64 n, .string s, .slice a1 c1 q1, .slice (some ⟨t, off, none⟩) 1 q2, .int .i64 p] 25)
  have N0 := hid (show Near B b w _ from Near.ofBelow hal O.out.1)
  have W0 := hid (wr_below W.out hal)
  have O0 := hid (ok_on O.out N0.out.below)
  have X0 := hid (box_new w 25 o n s (.slice a1 c1 q1) (.slice (some ⟨t, off, none⟩) 1 q2) p)
  have htw : t < w.heap.size := Nat.lt_of_lt_of_le htB O.out.1
  have Fx0 := hid (fit_near Fx.out N0.out)
  have HXx := hid hxx
  have Kx0 := hid (nodeAt_on Kx.out htB N0.out.below)
  simp only [List.length_append, List.length_cons, List.length_nil] at hl
  clear hal W O Fx hxx Kx
  obtain ⟨cKx_0_0, cKx_0_1, cKx_0_2, cKx_0_3, cKx_0_4, cKx_0_5, cKx_0_6⟩ := Kx0.out
  go_enter Tryd.func51, Tryd.ntmps51
  go_wp2_with fail
  refine (wstr_done ⟨#[100, 101, 108, 101, 116, 101, 32]⟩ (by simp) W0 (by omega) (by decide)).mono ?_
  rintro e w1 ⟨rfl, l1, hW, hw, nn, ne1⟩
  have N1 := hid (N0.out.trans nn)
  have W1 := hid hW
  have O1 := hid (ok_on O0.out nn.below)
  have X1 := hid (box_near X0.out (by omega) nn)
  have Fx1 := hid (fit_near Fx0.out nn)
  have Kx1 := hid (nodeAt_on Kx0.out htB nn.below)
  clear W0 N0 O0 X0 Fx0 Kx0 nn hW cKx_0_0 cKx_0_1 cKx_0_2 cKx_0_3 cKx_0_4 cKx_0_5 cKx_0_6
  obtain ⟨cX_1_0, cX_1_1, cX_1_2, cX_1_3, cX_1_4, cX_1_5, cX_1_6⟩ := box_cells X1.out
  obtain ⟨cKx_1_0, cKx_1_1, cKx_1_2, cKx_1_3, cKx_1_4, cKx_1_5, cKx_1_6⟩ := Kx1.out
  have hlen1 := wrote_le hw
  simp only [List.length_cons, List.length_nil] at hlen1
  have R1 := hid hw
  clear hw
  have S0 := hid (nearBK_mk N1.out X1.out (by omega) htB Kx1.out)
  go_wp2_with fail
  go_region_held3 (fun a => (Near B b w a ∧ Box w.heap.size 25 o n s (.slice a1 c1 q1) (.slice (some ⟨t, off, none⟩) 1 q2) p a ∧ w.heap.size ≠ b ∧ t < B ∧ NodeAt t (off) x.kind x.op x.num x.str (.slice xa1 x.names.length xq1) (.slice xa2 x.kids.length xq2) x.pl a) ∧ a.cell? ⟨w.heap.size, 0, none⟩ = some (.int .i64 25) ∧ a.cell? ⟨w.heap.size, 1, none⟩ = some (.int .i64 o) ∧ a.cell? ⟨w.heap.size, 2, none⟩ = some (.int .i64 n) ∧ a.cell? ⟨w.heap.size, 3, none⟩ = some (.string s) ∧ a.cell? ⟨w.heap.size, 4, none⟩ = some (.slice a1 c1 q1) ∧ a.cell? ⟨w.heap.size, 5, none⟩ = some (.slice (some ⟨t, off, none⟩) 1 q2) ∧ a.cell? ⟨w.heap.size, 6, none⟩ = some (.int .i64 p) ∧ a.cell? ⟨t, off, none⟩ = some (.int .i64 x.kind) ∧ a.cell? ⟨t, off + 1, none⟩ = some (.int .i64 x.op) ∧ a.cell? ⟨t, off + 2, none⟩ = some (.int .i64 x.num) ∧ a.cell? ⟨t, off + 3, none⟩ = some (.string x.str) ∧ a.cell? ⟨t, off + 4, none⟩ = some (.slice xa1 x.names.length xq1) ∧ a.cell? ⟨t, off + 5, none⟩ = some (.slice xa2 x.kids.length xq2) ∧ a.cell? ⟨t, off + 6, none⟩ = some (.int .i64 x.pl))
    (first | exact nearBK (by assumption) nn | exact nearBK S0.out (near_draw _ _ _) | exact nearBK (by assumption) (near_draw _ _ _))
    (first
      | (go_at_call 66; refine (get_calls x HXx.out _ _ _ _ s hs0 (by omega) B b _ _ (hid (wr_drew W1.out)) (hid (ok_on O1.out (near_draw B b _).below)) (hid (fit_near Fx1.out (near_draw B b _))) (by omega)).mono ?_; rintro e wx ⟨rfl, l2, hW, hw, nn⟩))
  rename_i hz
  clear hz S0
  replace nn := (near_draw B b _).trans nn
  have N2 := hid (N1.out.trans nn)
  have W2 := hid hW
  have O2 := hid (ok_on O1.out nn.below)
  have X2 := hid (box_near X1.out (by omega) nn)
  have Fx2 := hid (fit_near Fx1.out nn)
  have Kx2 := hid (nodeAt_on Kx1.out htB nn.below)
  clear W1 N1 O1 X1 Fx1 Kx1 nn hW cX_1_0 cX_1_1 cX_1_2 cX_1_3 cX_1_4 cX_1_5 cX_1_6 cKx_1_0 cKx_1_1 cKx_1_2 cKx_1_3 cKx_1_4 cKx_1_5 cKx_1_6
  obtain ⟨cX_2_0, cX_2_1, cX_2_2, cX_2_3, cX_2_4, cX_2_5, cX_2_6⟩ := box_cells X2.out
  obtain ⟨cKx_2_0, cKx_2_1, cKx_2_2, cKx_2_3, cKx_2_4, cKx_2_5, cKx_2_6⟩ := Kx2.out
  have hlen2 := wrote_le hw
  have R2 := hid (R1.out.trans hw)
  clear hw R1
  have D := hid (done_mk W2.out R2.out (show ([100, 101, 108, 101, 116, 101, 32] ++ getT (textN x) s) = [100, 101, 108, 101, 116, 101, 32] ++ getT (textN x) s by first | rfl | simp only [List.append_assoc, List.cons_append, List.nil_append]) N2.out)
  clear W2 N2 O2 R2 X2 Fx2 Kx2 cX_2_0 cX_2_1 cX_2_2 cX_2_3 cX_2_4 cX_2_5 cX_2_6 cKx_2_0 cKx_2_1 cKx_2_2 cKx_2_3 cKx_2_4 cKx_2_5 cKx_2_6
  go_wp2_with fail
  go_end0
  exact D.out

set_option maxHeartbeats 3200000 in
set_option maxRecDepth 100000 in
theorem short26 (o : Int) (n : Int) (s : ByteArray) (a1 : Option Addr) (c1 q1 : Nat) (t off q2 : Nat) (p : Int)  (x : Nd) (hxx : ExprW x) (xa1 : Option Addr) (xq1 : Nat) (xa2 : Option Addr) (xq2 : Nat) (y : Nd) (hxy : ExprW y) (ya1 : Option Addr) (yq1 : Nat) (ya2 : Option Addr) (yq2 : Nat) (B b : Nat) (l : List UInt8) (w : World) (W : Hid (Wr B b l w)) (O : Hid (Ok B w)) (htB : t < B) (Kx : Hid (NodeAt t (off) x.kind x.op x.num x.str (.slice xa1 x.names.length xq1) (.slice xa2 x.kids.length xq2) x.pl w)) (Fx : Hid (Fit B x (.slice xa1 x.names.length xq1) (.slice xa2 x.kids.length xq2) 1 w)) (Ky : Hid (NodeAt t (off + 7) y.kind y.op y.num y.str (.slice ya1 y.names.length yq1) (.slice ya2 y.kids.length yq2) y.pl w)) (Fy : Hid (Fit B y (.slice ya1 y.names.length yq1) (.slice ya2 y.kids.length yq2) 1 w)) (hl : l.length + ([100, 101, 108, 101, 116, 101, 32] ++ indexT (textN x) (textN y)).length ≤ 100000000) :
    Calls Tryd.prog 51 #[.pointer (some ⟨b, 0, none⟩), .agg #[.int .i64 26, .int .i64 o, .int .i64 n, .string s, .slice a1 c1 q1, .slice (some ⟨t, off, none⟩) 2 q2, .int .i64 p]] w (Done B b l ([100, 101, 108, 101, 116, 101, 32] ++ indexT (textN x) (textN y)) w) := by
  have hlt := wr_lt W.out
  have hal := box1_below w (.cells #[.int .i64 26, .int .i64 o, .int .i64 n, .string s, .slice a1 c1 q1, .slice (some ⟨t, off, none⟩) 2 q2, .int .i64 p] 25)
  have N0 := hid (show Near B b w _ from Near.ofBelow hal O.out.1)
  have W0 := hid (wr_below W.out hal)
  have O0 := hid (ok_on O.out N0.out.below)
  have X0 := hid (box_new w 26 o n s (.slice a1 c1 q1) (.slice (some ⟨t, off, none⟩) 2 q2) p)
  have htw : t < w.heap.size := Nat.lt_of_lt_of_le htB O.out.1
  have Fx0 := hid (fit_near Fx.out N0.out)
  have HXx := hid hxx
  have Kx0 := hid (nodeAt_on Kx.out htB N0.out.below)
  have Fy0 := hid (fit_near Fy.out N0.out)
  have HXy := hid hxy
  have Ky0 := hid (nodeAt_on Ky.out htB N0.out.below)
  simp only [List.length_append, List.length_cons, List.length_nil] at hl
  clear hal W O Fx hxx Kx Fy hxy Ky
  obtain ⟨cKx_0_0, cKx_0_1, cKx_0_2, cKx_0_3, cKx_0_4, cKx_0_5, cKx_0_6⟩ := Kx0.out
  obtain ⟨cKy_0_0, cKy_0_1, cKy_0_2, cKy_0_3, cKy_0_4, cKy_0_5, cKy_0_6⟩ := Ky0.out
  go_enter Tryd.func51, Tryd.ntmps51
  go_wp2_with fail
  refine (wstr_done ⟨#[100, 101, 108, 101, 116, 101, 32]⟩ (by simp) W0 (by omega) (by decide)).mono ?_
  rintro e w1 ⟨rfl, l1, hW, hw, nn, ne1⟩
  have N1 := hid (N0.out.trans nn)
  have W1 := hid hW
  have O1 := hid (ok_on O0.out nn.below)
  have X1 := hid (box_near X0.out (by omega) nn)
  have Fx1 := hid (fit_near Fx0.out nn)
  have Kx1 := hid (nodeAt_on Kx0.out htB nn.below)
  have Fy1 := hid (fit_near Fy0.out nn)
  have Ky1 := hid (nodeAt_on Ky0.out htB nn.below)
  clear W0 N0 O0 X0 Fx0 Kx0 Fy0 Ky0 nn hW cKx_0_0 cKx_0_1 cKx_0_2 cKx_0_3 cKx_0_4 cKx_0_5 cKx_0_6 cKy_0_0 cKy_0_1 cKy_0_2 cKy_0_3 cKy_0_4 cKy_0_5 cKy_0_6
  obtain ⟨cX_1_0, cX_1_1, cX_1_2, cX_1_3, cX_1_4, cX_1_5, cX_1_6⟩ := box_cells X1.out
  obtain ⟨cKx_1_0, cKx_1_1, cKx_1_2, cKx_1_3, cKx_1_4, cKx_1_5, cKx_1_6⟩ := Kx1.out
  obtain ⟨cKy_1_0, cKy_1_1, cKy_1_2, cKy_1_3, cKy_1_4, cKy_1_5, cKy_1_6⟩ := Ky1.out
  have hlen1 := wrote_le hw
  simp only [List.length_cons, List.length_nil] at hlen1
  have R1 := hid hw
  clear hw
  have S0 := hid (nearBKK_mk N1.out X1.out (by omega) htB Kx1.out htB Ky1.out)
  go_wp2_with fail
  go_region_held3 (fun a => (Near B b w a ∧ Box w.heap.size 26 o n s (.slice a1 c1 q1) (.slice (some ⟨t, off, none⟩) 2 q2) p a ∧ w.heap.size ≠ b ∧ t < B ∧ NodeAt t (off) x.kind x.op x.num x.str (.slice xa1 x.names.length xq1) (.slice xa2 x.kids.length xq2) x.pl a ∧ t < B ∧ NodeAt t (off + 7) y.kind y.op y.num y.str (.slice ya1 y.names.length yq1) (.slice ya2 y.kids.length yq2) y.pl a) ∧ a.cell? ⟨w.heap.size, 0, none⟩ = some (.int .i64 26) ∧ a.cell? ⟨w.heap.size, 1, none⟩ = some (.int .i64 o) ∧ a.cell? ⟨w.heap.size, 2, none⟩ = some (.int .i64 n) ∧ a.cell? ⟨w.heap.size, 3, none⟩ = some (.string s) ∧ a.cell? ⟨w.heap.size, 4, none⟩ = some (.slice a1 c1 q1) ∧ a.cell? ⟨w.heap.size, 5, none⟩ = some (.slice (some ⟨t, off, none⟩) 2 q2) ∧ a.cell? ⟨w.heap.size, 6, none⟩ = some (.int .i64 p) ∧ a.cell? ⟨t, off, none⟩ = some (.int .i64 x.kind) ∧ a.cell? ⟨t, off + 1, none⟩ = some (.int .i64 x.op) ∧ a.cell? ⟨t, off + 2, none⟩ = some (.int .i64 x.num) ∧ a.cell? ⟨t, off + 3, none⟩ = some (.string x.str) ∧ a.cell? ⟨t, off + 4, none⟩ = some (.slice xa1 x.names.length xq1) ∧ a.cell? ⟨t, off + 5, none⟩ = some (.slice xa2 x.kids.length xq2) ∧ a.cell? ⟨t, off + 6, none⟩ = some (.int .i64 x.pl) ∧ a.cell? ⟨t, off + 7, none⟩ = some (.int .i64 y.kind) ∧ a.cell? ⟨t, off + 7 + 1, none⟩ = some (.int .i64 y.op) ∧ a.cell? ⟨t, off + 7 + 2, none⟩ = some (.int .i64 y.num) ∧ a.cell? ⟨t, off + 7 + 3, none⟩ = some (.string y.str) ∧ a.cell? ⟨t, off + 7 + 4, none⟩ = some (.slice ya1 y.names.length yq1) ∧ a.cell? ⟨t, off + 7 + 5, none⟩ = some (.slice ya2 y.kids.length yq2) ∧ a.cell? ⟨t, off + 7 + 6, none⟩ = some (.int .i64 y.pl))
    (first | exact nearBKK (by assumption) nn | exact nearBKK S0.out (near_draw _ _ _) | exact nearBKK (by assumption) (near_draw _ _ _))
    (first
      | (go_at_call 67; refine (index_calls x HXx.out _ _ _ _ y HXy.out _ _ _ _ B b _ _ (hid (wr_drew W1.out)) (hid (ok_on O1.out (near_draw B b _).below)) (hid (fit_near Fx1.out (near_draw B b _))) (hid (fit_near Fy1.out (near_draw B b _))) (by omega)).mono ?_; rintro e wx ⟨rfl, l2, hW, hw, nn⟩))
  rename_i hz
  clear hz S0
  replace nn := (near_draw B b _).trans nn
  have N2 := hid (N1.out.trans nn)
  have W2 := hid hW
  have O2 := hid (ok_on O1.out nn.below)
  have X2 := hid (box_near X1.out (by omega) nn)
  have Fx2 := hid (fit_near Fx1.out nn)
  have Kx2 := hid (nodeAt_on Kx1.out htB nn.below)
  have Fy2 := hid (fit_near Fy1.out nn)
  have Ky2 := hid (nodeAt_on Ky1.out htB nn.below)
  clear W1 N1 O1 X1 Fx1 Kx1 Fy1 Ky1 nn hW cX_1_0 cX_1_1 cX_1_2 cX_1_3 cX_1_4 cX_1_5 cX_1_6 cKx_1_0 cKx_1_1 cKx_1_2 cKx_1_3 cKx_1_4 cKx_1_5 cKx_1_6 cKy_1_0 cKy_1_1 cKy_1_2 cKy_1_3 cKy_1_4 cKy_1_5 cKy_1_6
  obtain ⟨cX_2_0, cX_2_1, cX_2_2, cX_2_3, cX_2_4, cX_2_5, cX_2_6⟩ := box_cells X2.out
  obtain ⟨cKx_2_0, cKx_2_1, cKx_2_2, cKx_2_3, cKx_2_4, cKx_2_5, cKx_2_6⟩ := Kx2.out
  obtain ⟨cKy_2_0, cKy_2_1, cKy_2_2, cKy_2_3, cKy_2_4, cKy_2_5, cKy_2_6⟩ := Ky2.out
  have hlen2 := wrote_le hw
  have R2 := hid (R1.out.trans hw)
  clear hw R1
  have D := hid (done_mk W2.out R2.out (show ([100, 101, 108, 101, 116, 101, 32] ++ indexT (textN x) (textN y)) = [100, 101, 108, 101, 116, 101, 32] ++ indexT (textN x) (textN y) by first | rfl | simp only [List.append_assoc, List.cons_append, List.nil_append]) N2.out)
  clear W2 N2 O2 R2 X2 Fx2 Kx2 Fy2 Ky2 cX_2_0 cX_2_1 cX_2_2 cX_2_3 cX_2_4 cX_2_5 cX_2_6 cKx_2_0 cKx_2_1 cKx_2_2 cKx_2_3 cKx_2_4 cKx_2_5 cKx_2_6 cKy_2_0 cKy_2_1 cKy_2_2 cKy_2_3 cKy_2_4 cKy_2_5 cKy_2_6
  go_wp2_with fail
  go_end0
  exact D.out

set_option maxHeartbeats 3200000 in
set_option maxRecDepth 100000 in
theorem short27 (o : Int) (n : Int) (s : ByteArray) (a1 : Option Addr) (c1 q1 : Nat) (t off q2 : Nat) (p : Int)  (x : Nd) (hxx : ExprW x) (xa1 : Option Addr) (xq1 : Nat) (xa2 : Option Addr) (xq2 : Nat) (B b : Nat) (l : List UInt8) (w : World) (W : Hid (Wr B b l w)) (O : Hid (Ok B w)) (htB : t < B) (Kx : Hid (NodeAt t (off) x.kind x.op x.num x.str (.slice xa1 x.names.length xq1) (.slice xa2 x.kids.length xq2) x.pl w)) (Fx : Hid (Fit B x (.slice xa1 x.names.length xq1) (.slice xa2 x.kids.length xq2) 1 w)) (hl : l.length + ([112, 114, 105, 110, 116, 32] ++ (textN x).e).length ≤ 100000000) :
    Calls Tryd.prog 51 #[.pointer (some ⟨b, 0, none⟩), .agg #[.int .i64 27, .int .i64 o, .int .i64 n, .string s, .slice a1 c1 q1, .slice (some ⟨t, off, none⟩) 1 q2, .int .i64 p]] w (Done B b l ([112, 114, 105, 110, 116, 32] ++ (textN x).e) w) := by
  have hlt := wr_lt W.out
  have hal := box1_below w (.cells #[.int .i64 27, .int .i64 o, .int .i64 n, .string s, .slice a1 c1 q1, .slice (some ⟨t, off, none⟩) 1 q2, .int .i64 p] 25)
  have N0 := hid (show Near B b w _ from Near.ofBelow hal O.out.1)
  have W0 := hid (wr_below W.out hal)
  have O0 := hid (ok_on O.out N0.out.below)
  have X0 := hid (box_new w 27 o n s (.slice a1 c1 q1) (.slice (some ⟨t, off, none⟩) 1 q2) p)
  have htw : t < w.heap.size := Nat.lt_of_lt_of_le htB O.out.1
  have Fx0 := hid (fit_near Fx.out N0.out)
  have HXx := hid hxx
  have Kx0 := hid (nodeAt_on Kx.out htB N0.out.below)
  simp only [List.length_append, List.length_cons, List.length_nil] at hl
  clear hal W O Fx hxx Kx
  obtain ⟨cKx_0_0, cKx_0_1, cKx_0_2, cKx_0_3, cKx_0_4, cKx_0_5, cKx_0_6⟩ := Kx0.out
  go_enter Tryd.func51, Tryd.ntmps51
  go_wp2_with fail
  refine (wstr_done ⟨#[112, 114, 105, 110, 116, 32]⟩ (by simp) W0 (by omega) (by decide)).mono ?_
  rintro e w1 ⟨rfl, l1, hW, hw, nn, ne1⟩
  have N1 := hid (N0.out.trans nn)
  have W1 := hid hW
  have O1 := hid (ok_on O0.out nn.below)
  have X1 := hid (box_near X0.out (by omega) nn)
  have Fx1 := hid (fit_near Fx0.out nn)
  have Kx1 := hid (nodeAt_on Kx0.out htB nn.below)
  clear W0 N0 O0 X0 Fx0 Kx0 nn hW cKx_0_0 cKx_0_1 cKx_0_2 cKx_0_3 cKx_0_4 cKx_0_5 cKx_0_6
  obtain ⟨cX_1_0, cX_1_1, cX_1_2, cX_1_3, cX_1_4, cX_1_5, cX_1_6⟩ := box_cells X1.out
  obtain ⟨cKx_1_0, cKx_1_1, cKx_1_2, cKx_1_3, cKx_1_4, cKx_1_5, cKx_1_6⟩ := Kx1.out
  have hlen1 := wrote_le hw
  simp only [List.length_cons, List.length_nil] at hlen1
  have R1 := hid hw
  clear hw
  go_wp2_with fail
  refine (HXx.out B b _ _ _ _ W1 O1 (hid Fx1.out.1) Fx1.out.2.1 Fx1.out.2.2.1 Fx1.out.2.2.2 (by omega)).mono ?_
  rintro e w2 ⟨rfl, l2, hW, hw, nn⟩
  have N2 := hid (N1.out.trans nn)
  have W2 := hid hW
  have O2 := hid (ok_on O1.out nn.below)
  have X2 := hid (box_near X1.out (by omega) nn)
  have Fx2 := hid (fit_near Fx1.out nn)
  have Kx2 := hid (nodeAt_on Kx1.out htB nn.below)
  clear W1 N1 O1 X1 Fx1 Kx1 nn hW cX_1_0 cX_1_1 cX_1_2 cX_1_3 cX_1_4 cX_1_5 cX_1_6 cKx_1_0 cKx_1_1 cKx_1_2 cKx_1_3 cKx_1_4 cKx_1_5 cKx_1_6
  obtain ⟨cX_2_0, cX_2_1, cX_2_2, cX_2_3, cX_2_4, cX_2_5, cX_2_6⟩ := box_cells X2.out
  obtain ⟨cKx_2_0, cKx_2_1, cKx_2_2, cKx_2_3, cKx_2_4, cKx_2_5, cKx_2_6⟩ := Kx2.out
  have hlen2 := wrote_le hw
  have R2 := hid (R1.out.trans hw)
  clear hw R1
  have D := hid (done_mk W2.out R2.out (show ([112, 114, 105, 110, 116, 32] ++ (textN x).e) = [112, 114, 105, 110, 116, 32] ++ (textN x).e by first | rfl | simp only [List.append_assoc, List.cons_append, List.nil_append]) N2.out)
  clear W2 N2 O2 R2 X2 Fx2 Kx2 cX_2_0 cX_2_1 cX_2_2 cX_2_3 cX_2_4 cX_2_5 cX_2_6 cKx_2_0 cKx_2_1 cKx_2_2 cKx_2_3 cKx_2_4 cKx_2_5 cKx_2_6
  go_wp2_with fail
  go_end0
  exact D.out

set_option maxHeartbeats 3200000 in
set_option maxRecDepth 100000 in
theorem short31 (o : Int) (n : Int) (s : ByteArray) (a1 : Option Addr) (c1 q1 : Nat) (t off q2 : Nat) (p : Int)  (x : Nd) (hxx : ExprW x) (xa1 : Option Addr) (xq1 : Nat) (xa2 : Option Addr) (xq2 : Nat) (B b : Nat) (l : List UInt8) (w : World) (W : Hid (Wr B b l w)) (O : Hid (Ok B w)) (htB : t < B) (Kx : Hid (NodeAt t (off) x.kind x.op x.num x.str (.slice xa1 x.names.length xq1) (.slice xa2 x.kids.length xq2) x.pl w)) (Fx : Hid (Fit B x (.slice xa1 x.names.length xq1) (.slice xa2 x.kids.length xq2) 1 w)) (hl : l.length + ([114, 101, 116, 117, 114, 110, 32] ++ (textN x).e).length ≤ 100000000) :
    Calls Tryd.prog 51 #[.pointer (some ⟨b, 0, none⟩), .agg #[.int .i64 31, .int .i64 o, .int .i64 n, .string s, .slice a1 c1 q1, .slice (some ⟨t, off, none⟩) 1 q2, .int .i64 p]] w (Done B b l ([114, 101, 116, 117, 114, 110, 32] ++ (textN x).e) w) := by
  have hlt := wr_lt W.out
  have hal := box1_below w (.cells #[.int .i64 31, .int .i64 o, .int .i64 n, .string s, .slice a1 c1 q1, .slice (some ⟨t, off, none⟩) 1 q2, .int .i64 p] 25)
  have N0 := hid (show Near B b w _ from Near.ofBelow hal O.out.1)
  have W0 := hid (wr_below W.out hal)
  have O0 := hid (ok_on O.out N0.out.below)
  have X0 := hid (box_new w 31 o n s (.slice a1 c1 q1) (.slice (some ⟨t, off, none⟩) 1 q2) p)
  have htw : t < w.heap.size := Nat.lt_of_lt_of_le htB O.out.1
  have Fx0 := hid (fit_near Fx.out N0.out)
  have HXx := hid hxx
  have Kx0 := hid (nodeAt_on Kx.out htB N0.out.below)
  simp only [List.length_append, List.length_cons, List.length_nil] at hl
  clear hal W O Fx hxx Kx
  obtain ⟨cKx_0_0, cKx_0_1, cKx_0_2, cKx_0_3, cKx_0_4, cKx_0_5, cKx_0_6⟩ := Kx0.out
  go_enter Tryd.func51, Tryd.ntmps51
  go_wp2_with fail
  refine (wstr_done ⟨#[114, 101, 116, 117, 114, 110, 32]⟩ (by simp) W0 (by omega) (by decide)).mono ?_
  rintro e w1 ⟨rfl, l1, hW, hw, nn, ne1⟩
  have N1 := hid (N0.out.trans nn)
  have W1 := hid hW
  have O1 := hid (ok_on O0.out nn.below)
  have X1 := hid (box_near X0.out (by omega) nn)
  have Fx1 := hid (fit_near Fx0.out nn)
  have Kx1 := hid (nodeAt_on Kx0.out htB nn.below)
  clear W0 N0 O0 X0 Fx0 Kx0 nn hW cKx_0_0 cKx_0_1 cKx_0_2 cKx_0_3 cKx_0_4 cKx_0_5 cKx_0_6
  obtain ⟨cX_1_0, cX_1_1, cX_1_2, cX_1_3, cX_1_4, cX_1_5, cX_1_6⟩ := box_cells X1.out
  obtain ⟨cKx_1_0, cKx_1_1, cKx_1_2, cKx_1_3, cKx_1_4, cKx_1_5, cKx_1_6⟩ := Kx1.out
  have hlen1 := wrote_le hw
  simp only [List.length_cons, List.length_nil] at hlen1
  have R1 := hid hw
  clear hw
  go_wp2_with fail
  refine (HXx.out B b _ _ _ _ W1 O1 (hid Fx1.out.1) Fx1.out.2.1 Fx1.out.2.2.1 Fx1.out.2.2.2 (by omega)).mono ?_
  rintro e w2 ⟨rfl, l2, hW, hw, nn⟩
  have N2 := hid (N1.out.trans nn)
  have W2 := hid hW
  have O2 := hid (ok_on O1.out nn.below)
  have X2 := hid (box_near X1.out (by omega) nn)
  have Fx2 := hid (fit_near Fx1.out nn)
  have Kx2 := hid (nodeAt_on Kx1.out htB nn.below)
  clear W1 N1 O1 X1 Fx1 Kx1 nn hW cX_1_0 cX_1_1 cX_1_2 cX_1_3 cX_1_4 cX_1_5 cX_1_6 cKx_1_0 cKx_1_1 cKx_1_2 cKx_1_3 cKx_1_4 cKx_1_5 cKx_1_6
  obtain ⟨cX_2_0, cX_2_1, cX_2_2, cX_2_3, cX_2_4, cX_2_5, cX_2_6⟩ := box_cells X2.out
  obtain ⟨cKx_2_0, cKx_2_1, cKx_2_2, cKx_2_3, cKx_2_4, cKx_2_5, cKx_2_6⟩ := Kx2.out
  have hlen2 := wrote_le hw
  have R2 := hid (R1.out.trans hw)
  clear hw R1
  have D := hid (done_mk W2.out R2.out (show ([114, 101, 116, 117, 114, 110, 32] ++ (textN x).e) = [114, 101, 116, 117, 114, 110, 32] ++ (textN x).e by first | rfl | simp only [List.append_assoc, List.cons_append, List.nil_append]) N2.out)
  clear W2 N2 O2 R2 X2 Fx2 Kx2 cX_2_0 cX_2_1 cX_2_2 cX_2_3 cX_2_4 cX_2_5 cX_2_6 cKx_2_0 cKx_2_1 cKx_2_2 cKx_2_3 cKx_2_4 cKx_2_5 cKx_2_6
  go_wp2_with fail
  go_end0
  exact D.out

set_option maxHeartbeats 3200000 in
set_option maxRecDepth 100000 in
theorem short32 (o : Int) (n : Int) (s : ByteArray) (a1 : Option Addr) (c1 q1 : Nat) (t off q2 : Nat) (p : Int)  (x : Nd) (hxx : ExprW x) (xa1 : Option Addr) (xq1 : Nat) (xa2 : Option Addr) (xq2 : Nat) (B b : Nat) (l : List UInt8) (w : World) (W : Hid (Wr B b l w)) (O : Hid (Ok B w)) (htB : t < B) (Kx : Hid (NodeAt t (off) x.kind x.op x.num x.str (.slice xa1 x.names.length xq1) (.slice xa2 x.kids.length xq2) x.pl w)) (Fx : Hid (Fit B x (.slice xa1 x.names.length xq1) (.slice xa2 x.kids.length xq2) 1 w)) (hl : l.length + ((textN x).e).length ≤ 100000000) :
    Calls Tryd.prog 51 #[.pointer (some ⟨b, 0, none⟩), .agg #[.int .i64 32, .int .i64 o, .int .i64 n, .string s, .slice a1 c1 q1, .slice (some ⟨t, off, none⟩) 1 q2, .int .i64 p]] w (Done B b l ((textN x).e) w) := by
  have hlt := wr_lt W.out
  have hal := box1_below w (.cells #[.int .i64 32, .int .i64 o, .int .i64 n, .string s, .slice a1 c1 q1, .slice (some ⟨t, off, none⟩) 1 q2, .int .i64 p] 25)
  have N0 := hid (show Near B b w _ from Near.ofBelow hal O.out.1)
  have W0 := hid (wr_below W.out hal)
  have O0 := hid (ok_on O.out N0.out.below)
  have X0 := hid (box_new w 32 o n s (.slice a1 c1 q1) (.slice (some ⟨t, off, none⟩) 1 q2) p)
  have htw : t < w.heap.size := Nat.lt_of_lt_of_le htB O.out.1
  have Fx0 := hid (fit_near Fx.out N0.out)
  have HXx := hid hxx
  have Kx0 := hid (nodeAt_on Kx.out htB N0.out.below)
  clear hal W O Fx hxx Kx
  obtain ⟨cKx_0_0, cKx_0_1, cKx_0_2, cKx_0_3, cKx_0_4, cKx_0_5, cKx_0_6⟩ := Kx0.out
  go_enter Tryd.func51, Tryd.ntmps51
  go_wp2_with fail
  refine (HXx.out B b _ _ _ _ W0 O0 (hid Fx0.out.1) Fx0.out.2.1 Fx0.out.2.2.1 Fx0.out.2.2.2 (by omega)).mono ?_
  rintro e w1 ⟨rfl, l1, hW, hw, nn⟩
  have N1 := hid (N0.out.trans nn)
  have W1 := hid hW
  have O1 := hid (ok_on O0.out nn.below)
  have X1 := hid (box_near X0.out (by omega) nn)
  have Fx1 := hid (fit_near Fx0.out nn)
  have Kx1 := hid (nodeAt_on Kx0.out htB nn.below)
  clear W0 N0 O0 X0 Fx0 Kx0 nn hW cKx_0_0 cKx_0_1 cKx_0_2 cKx_0_3 cKx_0_4 cKx_0_5 cKx_0_6
  obtain ⟨cX_1_0, cX_1_1, cX_1_2, cX_1_3, cX_1_4, cX_1_5, cX_1_6⟩ := box_cells X1.out
  obtain ⟨cKx_1_0, cKx_1_1, cKx_1_2, cKx_1_3, cKx_1_4, cKx_1_5, cKx_1_6⟩ := Kx1.out
  have hlen1 := wrote_le hw
  have R1 := hid hw
  clear hw
  have D := hid (done_mk W1.out R1.out (show (textN x).e = (textN x).e by first | rfl | simp only [List.append_assoc, List.cons_append, List.nil_append]) N1.out)
  clear W1 N1 O1 R1 X1 Fx1 Kx1 cX_1_0 cX_1_1 cX_1_2 cX_1_3 cX_1_4 cX_1_5 cX_1_6 cKx_1_0 cKx_1_1 cKx_1_2 cKx_1_3 cKx_1_4 cKx_1_5 cKx_1_6
  go_wp2_with fail
  go_end0
  exact D.out

end Go.Proofs.YtlnllpehifkjhaaDoor
