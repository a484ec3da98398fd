/- Objects, functions and calls. -/
import Derived.Test.YtlnllpehifkjhaaDoorWrExpr
namespace Go.Proofs.YtlnllpehifkjhaaDoor
open Go.RowKit
set_option linter.unusedVariables false

set_option maxHeartbeats 3200000 in
set_option maxRecDepth 100000 in
theorem wexpr7 (o n : Int) (s : ByteArray) (ns : List ByteArray) (ks : List Nd) (p : Int) (a1 : Option Addr) (q1 : Nat) (a2 : Option Addr) (q2 : Nat) (hx : ∀ z ∈ ks, ExprW z) (hr : ∀ z ∈ ks, rightN z 1 = true) (hs : ∀ z ∈ ks, smallN z = true) (hc : countL ks ≤ 1000000) (hnk : ns.length = ks.length) (hnm : ∀ z ∈ ns, propB z = true) (hns : ∀ z ∈ ns, z.size ≤ 100) (B b : Nat) (l : List UInt8) (w : World) (W : Hid (Wr B b l w)) (O : Hid (Ok B w)) (S : Hid (StrsIn B (.slice a1 ns.length q1) ns w)) (Q : Hid (KidsIn B w (.slice a2 ks.length q2) ks)) (hl : l.length + (objT ns (ks.map textN)).length ≤ 100000000) :
    Calls Tryd.prog 64 #[.pointer (some ⟨b, 0, none⟩), .agg #[.int .i64 7, .int .i64 o, .int .i64 n, .string s, .slice a1 ns.length q1, .slice a2 ks.length q2, .int .i64 p]] w (Done B b l (objT ns (ks.map textN)) w) := by
  have hlt := wr_lt W.out
  have hal := box1_below w (.cells #[.int .i64 7, .int .i64 o, .int .i64 n, .string s, .slice a1 ns.length q1, .slice a2 ks.length q2, .int .i64 p] 25)
  have N0 := hid (show Near B b w _ from Near.ofBelow hal O.out.1)
  have W0 := hid (wr_below W.out hal)
  have O0 := hid (ok_on O.out N0.out.below)
  have X0 := hid (box_new w 7 o n s (.slice a1 ns.length q1) (.slice a2 ks.length q2) p)
  have S0 := hid (strsIn_on S.out N0.out.below)
  have Q0 := hid (kidsIn_on N0.out.below Q.out)
  have HX := hid hx
  have HR := hid hr
  have HS := hid hs
  have HM := hid hnm
  have HMS := hid hns
  have HNK := hid hnk
  clear hx hr hs hnm hns hnk
  clear hal W O S Q
  go_enter Tryd.func64, Tryd.ntmps64
  go_wp2_with fail
  refine (full_calls W0 (by omega)).mono ?_
  rintro e wf ⟨rfl, rfl⟩
  by_cases hfull : 2000 < l.length
  · rw [decide_eq_true hfull]
    have D := hid (done_mk W0.out (Wrote.none hfull (objT ns (ks.map textN))) rfl N0.out)
    clear W0 N0 O0 X0 S0 Q0 
    go_wp2_with fail
    go_end0
    exact D.out
  rw [decide_eq_false hfull]
  clear hfull
  go_wp2_with fail
  refine (object_calls o n s ns ks p a1 q1 a2 q2 HNK.out HX.out HR.out HM.out HMS.out B b _ _ W0 O0 S0 Q0 HS.out hc hl).mono ?_
  rintro e w1 ⟨rfl, l1, hW, hw, nn⟩
  have N1 := hid (N0.out.trans nn)
  have W1 := hid hW
  have O1 := hid (ok_on O0.out nn.below)
  have X1 := hid (box_near X0.out (by omega) nn)
  have S1 := hid (strsIn_on S0.out nn.below)
  have Q1 := hid (kidsIn_on nn.below Q0.out)
  clear W0 N0 O0 X0 S0 Q0 nn hW
  obtain ⟨cX_1_0, cX_1_1, cX_1_2, cX_1_3, cX_1_4, cX_1_5, cX_1_6⟩ := box_cells X1.out
  have hlen1 := wrote_le hw
  have R1 := hid hw
  clear hw
  have D := hid (done_mk W1.out R1.out (show (objT ns (ks.map textN)) = objT ns (ks.map textN) by first | rfl | simp only [List.append_assoc, List.cons_append, List.nil_append]) N1.out)
  clear W1 N1 O1 R1 X1 S1 Q1 cX_1_0 cX_1_1 cX_1_2 cX_1_3 cX_1_4 cX_1_5 cX_1_6
  go_wp2_with fail
  go_end0
  exact D.out

set_option maxHeartbeats 3200000 in
set_option maxRecDepth 100000 in
theorem wexpr8 (o n : Int) (s : ByteArray) (ns : List ByteArray) (ks : List Nd) (p : Int) (a1 : Option Addr) (q1 : Nat) (a2 : Option Addr) (q2 : Nat) (hx : ∀ z ∈ ks, StmtW z) (hr : ∀ z ∈ ks, rightN z 2 = true) (hs : ∀ z ∈ ks, smallN z = true) (hc : countL ks ≤ 1000000) (hn60 : ns.length ≤ 60) (B b : Nat) (l : List UInt8) (w : World) (W : Hid (Wr B b l w)) (O : Hid (Ok B w)) (S : Hid (StrsIn B (.slice a1 ns.length q1) ns w)) (Q : Hid (KidsIn B w (.slice a2 ks.length q2) ks)) (hl : l.length + ([102, 110, 40] ++ (joinT ns ++ ([41, 32] ++ blockT (ks.map textN)))).length ≤ 100000000) :
    Calls Tryd.prog 64 #[.pointer (some ⟨b, 0, none⟩), .agg #[.int .i64 8, .int .i64 o, .int .i64 n, .string s, .slice a1 ns.length q1, .slice a2 ks.length q2, .int .i64 p]] w (Done B b l ([102, 110, 40] ++ (joinT ns ++ ([41, 32] ++ blockT (ks.map textN)))) w) := by
  have hlt := wr_lt W.out
  have hal := box1_below w (.cells #[.int .i64 8, .int .i64 o, .int .i64 n, .string s, .slice a1 ns.length q1, .slice a2 ks.length q2, .int .i64 p] 25)
  have N0 := hid (show Near B b w _ from Near.ofBelow hal O.out.1)
  have W0 := hid (wr_below W.out hal)
  have O0 := hid (ok_on O.out N0.out.below)
  have X0 := hid (box_new w 8 o n s (.slice a1 ns.length q1) (.slice a2 ks.length q2) p)
  have S0 := hid (strsIn_on S.out N0.out.below)
  have Q0 := hid (kidsIn_on N0.out.below Q.out)
  simp only [List.length_append, List.length_cons, List.length_nil] at hl
  have HX := hid hx
  have HR := hid hr
  have HS := hid hs
  clear hx hr hs
  clear hal W O S Q
  go_enter Tryd.func64, Tryd.ntmps64
  go_wp2_with fail
  refine (full_calls W0 (by omega)).mono ?_
  rintro e wf ⟨rfl, rfl⟩
  by_cases hfull : 2000 < l.length
  · rw [decide_eq_true hfull]
    have D := hid (done_mk W0.out (Wrote.none hfull ([102, 110, 40] ++ (joinT ns ++ ([41, 32] ++ blockT (ks.map textN))))) rfl N0.out)
    clear W0 N0 O0 X0 S0 Q0 
    go_wp2_with fail
    go_end0
    exact D.out
  rw [decide_eq_false hfull]
  clear hfull
  go_wp2_with fail
  refine (wstr_done ⟨#[102, 110, 40]⟩ (by simp) W0 (by omega) (by decide)).mono ?_
  rintro e w1 ⟨rfl, l1, hW, hw, nn, ne1⟩
  have N1 := hid (N0.out.trans nn)
  have W1 := hid hW
  have O1 := hid (ok_on O0.out nn.below)
  have X1 := hid (box_near X0.out (by omega) nn)
  have S1 := hid (strsIn_on S0.out nn.below)
  have Q1 := hid (kidsIn_on nn.below Q0.out)
  clear W0 N0 O0 X0 S0 Q0 nn hW
  obtain ⟨cX_1_0, cX_1_1, cX_1_2, cX_1_3, cX_1_4, cX_1_5, cX_1_6⟩ := box_cells X1.out
  have hlen1 := wrote_le hw
  simp only [List.length_cons, List.length_nil] at hlen1
  have R1 := hid hw
  clear hw
  have C0 := hid (nearB_mk N1.out X1.out (by omega))
  go_wp2_with fail
  go_region_held3 (fun a => (Near B b w a ∧ Box w.heap.size 8 o n s (.slice a1 ns.length q1) (.slice a2 ks.length q2) p a ∧ w.heap.size ≠ b) ∧ a.cell? ⟨w.heap.size, 0, none⟩ = some (.int .i64 8) ∧ a.cell? ⟨w.heap.size, 1, none⟩ = some (.int .i64 o) ∧ a.cell? ⟨w.heap.size, 2, none⟩ = some (.int .i64 n) ∧ a.cell? ⟨w.heap.size, 3, none⟩ = some (.string s) ∧ a.cell? ⟨w.heap.size, 4, none⟩ = some (.slice a1 ns.length q1) ∧ a.cell? ⟨w.heap.size, 5, none⟩ = some (.slice a2 ks.length q2) ∧ a.cell? ⟨w.heap.size, 6, none⟩ = some (.int .i64 p))
    (first | assumption | exact nearB (by assumption) n2 | exact nearB (by assumption) nn | exact nearB C0.out (near_draw _ _ _) | exact nearB (by assumption) (near_draw _ _ _))
    (first
      | (go_at_call 81; refine (join_calls B _ _ ns (ok_on O1.out (near_draw B b _).below).1 (hid (strsIn_on S1.out (near_draw B b _).below)) (by omega) (by omega)).mono ?_; rintro e wx ⟨rfl, bb⟩; have nn := Near.ofBelow (b := b) bb (ok_on O1.out (near_draw B b _).below).1)
      | (go_at_call 49; refine (wstr_done ⟨(joinT ns).toArray⟩ (by simp [ne1]) (hid (wr_below (wr_drew W1.out) bb)) (by omega) (by rw [bytes_size]; omega)).mono ?_; rintro e wx ⟨rfl, l2, hW, hw, n2, ne2⟩; replace hw : Wrote l1 (joinT ns) l2 := (by simpa using hw); replace nn := nn.trans n2))
  rename_i hz
  clear hz C0
  replace nn := (near_draw B b _).trans nn
  have N2 := hid (N1.out.trans nn)
  have W2 := hid hW
  have O2 := hid (ok_on O1.out nn.below)
  have X2 := hid (box_near X1.out (by omega) nn)
  have S2 := hid (strsIn_on S1.out nn.below)
  have Q2 := hid (kidsIn_on nn.below Q1.out)
  clear W1 N1 O1 X1 S1 Q1 nn hW cX_1_0 cX_1_1 cX_1_2 cX_1_3 cX_1_4 cX_1_5 cX_1_6
  obtain ⟨cX_2_0, cX_2_1, cX_2_2, cX_2_3, cX_2_4, cX_2_5, cX_2_6⟩ := box_cells X2.out
  have hlen2 := wrote_le hw
  have R2 := hid (R1.out.trans hw)
  clear hw R1
  go_wp2_with fail
  refine (wstr_done ⟨#[41, 32]⟩ (by simp) W2 (by omega) (by decide)).mono ?_
  rintro e w3 ⟨rfl, l3, hW, hw, nn, ne3⟩
  have N3 := hid (N2.out.trans nn)
  have W3 := hid hW
  have O3 := hid (ok_on O2.out nn.below)
  have X3 := hid (box_near X2.out (by omega) nn)
  have S3 := hid (strsIn_on S2.out nn.below)
  have Q3 := hid (kidsIn_on nn.below Q2.out)
  clear W2 N2 O2 X2 S2 Q2 nn hW cX_2_0 cX_2_1 cX_2_2 cX_2_3 cX_2_4 cX_2_5 cX_2_6
  obtain ⟨cX_3_0, cX_3_1, cX_3_2, cX_3_3, cX_3_4, cX_3_5, cX_3_6⟩ := box_cells X3.out
  have hlen3 := wrote_le hw
  simp only [List.length_cons, List.length_nil] at hlen3
  have R3 := hid (R2.out.trans hw)
  clear hw R2
  go_wp2_with fail
  refine (wblock_calls ks HX.out HR.out B b _ _ _ W3 O3 Q3 HS.out hc (by omega)).mono ?_
  rintro e w4 ⟨rfl, l4, hW, hw, nn⟩
  have N4 := hid (N3.out.trans nn)
  have W4 := hid hW
  have O4 := hid (ok_on O3.out nn.below)
  have X4 := hid (box_near X3.out (by omega) nn)
  have S4 := hid (strsIn_on S3.out nn.below)
  have Q4 := hid (kidsIn_on nn.below Q3.out)
  clear W3 N3 O3 X3 S3 Q3 nn hW cX_3_0 cX_3_1 cX_3_2 cX_3_3 cX_3_4 cX_3_5 cX_3_6
  obtain ⟨cX_4_0, cX_4_1, cX_4_2, cX_4_3, cX_4_4, cX_4_5, cX_4_6⟩ := box_cells X4.out
  have hlen4 := wrote_le hw
  have R4 := hid (R3.out.trans hw)
  clear hw R3
  have D := hid (done_mk W4.out R4.out (show ((([102, 110, 40] ++ joinT ns) ++ [41, 32]) ++ blockT (ks.map textN)) = [102, 110, 40] ++ (joinT ns ++ ([41, 32] ++ blockT (ks.map textN))) by first | rfl | simp only [List.append_assoc, List.cons_append, List.nil_append]) N4.out)
  clear W4 N4 O4 R4 X4 S4 Q4 cX_4_0 cX_4_1 cX_4_2 cX_4_3 cX_4_4 cX_4_5 cX_4_6
  go_wp2_with fail
  go_end0
  exact D.out

set_option maxHeartbeats 3200000 in
set_option maxRecDepth 100000 in
theorem wexpr17 (o n : Int) (s : ByteArray) (ns : List ByteArray) (ks : List Nd) (p : Int) (a1 : Option Addr) (q1 : Nat) (a2 : Option Addr) (q2 : Nat) (hx : ∀ z ∈ ks, ExprW z) (hr : ∀ z ∈ ks, rightN z 1 = true) (hs : ∀ z ∈ ks, smallN z = true) (hc : countL ks ≤ 1000000) (bn : List UInt8) (bm : Nat) (hbt : builtT o = (bn, bm)) (hbn : bn ≠ []) (hbl : bn.length ≤ 100) (B b : Nat) (l : List UInt8) (w : World) (W : Hid (Wr B b l w)) (O : Hid (Ok B w)) (S : Hid (StrsIn B (.slice a1 ns.length q1) ns w)) (Q : Hid (KidsIn B w (.slice a2 ks.length q2) ks)) (hl : l.length + (bn ++ argsT (ks.map textN)).length ≤ 100000000) :
    Calls Tryd.prog 64 #[.pointer (some ⟨b, 0, none⟩), .agg #[.int .i64 17, .int .i64 o, .int .i64 n, .string s, .slice a1 ns.length q1, .slice a2 ks.length q2, .int .i64 p]] w (Done B b l (bn ++ argsT (ks.map textN)) w) := by
  have hlt := wr_lt W.out
  have hal := box1_below w (.cells #[.int .i64 17, .int .i64 o, .int .i64 n, .string s, .slice a1 ns.length q1, .slice a2 ks.length q2, .int .i64 p] 25)
  have N0 := hid (show Near B b w _ from Near.ofBelow hal O.out.1)
  have W0 := hid (wr_below W.out hal)
  have O0 := hid (ok_on O.out N0.out.below)
  have X0 := hid (box_new w 17 o n s (.slice a1 ns.length q1) (.slice a2 ks.length q2) p)
  have S0 := hid (strsIn_on S.out N0.out.below)
  have Q0 := hid (kidsIn_on N0.out.below Q.out)
  simp only [List.length_append] at hl
  have HX := hid hx
  have HR := hid hr
  have HS := hid hs
  have HBT := hid hbt
  clear hx hr hs hbt
  clear hal W O S Q
  go_enter Tryd.func64, Tryd.ntmps64
  go_wp2_with fail
  refine (full_calls W0 (by omega)).mono ?_
  rintro e wf ⟨rfl, rfl⟩
  by_cases hfull : 2000 < l.length
  · rw [decide_eq_true hfull]
    have D := hid (done_mk W0.out (Wrote.none hfull (bn ++ argsT (ks.map textN))) rfl N0.out)
    clear W0 N0 O0 X0 S0 Q0 
    go_wp2_with fail
    go_end0
    exact D.out
  rw [decide_eq_false hfull]
  clear hfull
  go_wp2_with fail
  refine (built_calls o _).mono ?_
  rintro e wf ⟨he, hwe⟩
  rw [HBT.out] at he
  subst he
  subst hwe
  go_wp2_with fail
  refine (wstr_done ⟨bn.toArray⟩ (by simp [hbn]) W0 (by omega) (by rw [bytes_size]; omega)).mono ?_
  rintro e w1 ⟨rfl, l1, hW, hw, nn, ne1⟩
  replace hw : Wrote l bn l1 := by simpa using hw
  have N1 := hid (N0.out.trans nn)
  have W1 := hid hW
  have O1 := hid (ok_on O0.out nn.below)
  have X1 := hid (box_near X0.out (by omega) nn)
  have S1 := hid (strsIn_on S0.out nn.below)
  have Q1 := hid (kidsIn_on nn.below Q0.out)
  clear W0 N0 O0 X0 S0 Q0 nn hW
  obtain ⟨cX_1_0, cX_1_1, cX_1_2, cX_1_3, cX_1_4, cX_1_5, cX_1_6⟩ := box_cells X1.out
  have hlen1 := wrote_le hw
  have R1 := hid hw
  clear hw
  go_wp2_with fail
  refine (wlist_calls ks HX.out HR.out B b _ _ _ W1 O1 Q1 HS.out hc (by omega)).mono ?_
  rintro e w2 ⟨rfl, l2, hW, hw, nn⟩
  have N2 := hid (N1.out.trans nn)
  have W2 := hid hW
  have O2 := hid (ok_on O1.out nn.below)
  have X2 := hid (box_near X1.out (by omega) nn)
  have S2 := hid (strsIn_on S1.out nn.below)
  have Q2 := hid (kidsIn_on nn.below Q1.out)
  clear W1 N1 O1 X1 S1 Q1 nn hW cX_1_0 cX_1_1 cX_1_2 cX_1_3 cX_1_4 cX_1_5 cX_1_6
  obtain ⟨cX_2_0, cX_2_1, cX_2_2, cX_2_3, cX_2_4, cX_2_5, cX_2_6⟩ := box_cells X2.out
  have hlen2 := wrote_le hw
  have R2 := hid (R1.out.trans hw)
  clear hw R1
  have D := hid (done_mk W2.out R2.out (show (bn ++ argsT (ks.map textN)) = bn ++ argsT (ks.map textN) by first | rfl | simp only [List.append_assoc, List.cons_append, List.nil_append]) N2.out)
  clear W2 N2 O2 R2 X2 S2 Q2 cX_2_0 cX_2_1 cX_2_2 cX_2_3 cX_2_4 cX_2_5 cX_2_6
  go_wp2_with fail
  go_end0
  exact D.out

theorem kids_tail {B : Nat} {w : World} {t off q : Nat} {x : Nd} {r : List Nd} (h : NdsAt B w t (x :: r) off) (ht : t < B) (hq : r.length ≤ q) : KidsIn B w (.slice (some ⟨t, off + 7, none⟩) r.length q) r := by
  obtain ⟨k, o, n, s, ns, ks, p⟩ := x
  rw [NdsAt] at h
  exact .inr ⟨t, off + 7, q, rfl, ht, h.2, hq⟩

set_option maxHeartbeats 3200000 in
set_option maxRecDepth 100000 in
theorem wexpr16 (o : Int) (n : Int) (s : ByteArray) (a1 : Option Addr) (c1 q1 : Nat) (t off q2 : Nat) (p : Int) (hs0 : s.data.toList ≠ []) (hs : s.size ≤ 1000000) (x : Nd) (hxx : ExprW x) (xa1 : Option Addr) (xq1 : Nat) (xa2 : Option Addr) (xq2 : Nat) (r : List Nd) (hx : ∀ z ∈ r, ExprW z) (hr : ∀ z ∈ r, rightN z 1 = true) (hsm : ∀ z ∈ r, smallN z = true) (hc : countL r ≤ 1000000) (hcap : r.length + 1 ≤ q2) (B b : Nat) (l : List UInt8) (w : World) (W : Hid (Wr B b l w)) (O : Hid (Ok B w)) (htB : t < B) (A : Hid (NdsAt B w t (x :: r) off)) (Kx : Hid (NodeAt t (off) x.kind x.op x.num x.str (.slice xa1 x.names.length xq1) (.slice xa2 x.kids.length xq2) x.pl w)) (Fx : Hid (Fit B x (.slice xa1 x.names.length xq1) (.slice xa2 x.kids.length xq2) 1 w)) (hl : l.length + (getT (textN x) s ++ argsT (r.map textN)).length ≤ 100000000) :
    Calls Tryd.prog 64 #[.pointer (some ⟨b, 0, none⟩), .agg #[.int .i64 16, .int .i64 o, .int .i64 n, .string s, .slice a1 c1 q1, .slice (some ⟨t, off, none⟩) (r.length + 1) q2, .int .i64 p]] w (Done B b l (getT (textN x) s ++ argsT (r.map textN)) w) := by
  have hlt := wr_lt W.out
  have hal := box1_below w (.cells #[.int .i64 16, .int .i64 o, .int .i64 n, .string s, .slice a1 c1 q1, .slice (some ⟨t, off, none⟩) (r.length + 1) q2, .int .i64 p] 25)
  have N0 := hid (show Near B b w _ from Near.ofBelow hal O.out.1)
  have W0 := hid (wr_below W.out hal)
  have O0 := hid (ok_on O.out N0.out.below)
  have X0 := hid (box_new w 16 o n s (.slice a1 c1 q1) (.slice (some ⟨t, off, none⟩) (r.length + 1) q2) p)
  have A0 := hid (ndsAt_on N0.out.below htB _ _ A.out)
  have Fx0 := hid (fit_near Fx.out N0.out)
  have Kx0 := hid (nodeAt_on Kx.out htB N0.out.below)
  have HXx := hid hxx
  have HX := hid hx
  have HR := hid hr
  have HS := hid hsm
  have hrl := length_count r
  have htw : t < w.heap.size := Nat.lt_of_lt_of_le htB O.out.1
  simp only [List.length_append] at hl
  clear hal W O A Fx Kx hxx hx hr hsm
  obtain ⟨cKx_0_0, cKx_0_1, cKx_0_2, cKx_0_3, cKx_0_4, cKx_0_5, cKx_0_6⟩ := Kx0.out
  go_enter Tryd.func64, Tryd.ntmps64
  go_wp2_with fail
  refine (full_calls W0 (by omega)).mono ?_
  rintro e wf ⟨rfl, rfl⟩
  by_cases hfull : 2000 < l.length
  · rw [decide_eq_true hfull]
    have D := hid (done_mk W0.out (Wrote.none hfull (getT (textN x) s ++ argsT (r.map textN))) rfl N0.out)
    clear W0 N0 O0 X0 A0 Fx0 Kx0 cKx_0_0 cKx_0_1 cKx_0_2 cKx_0_3 cKx_0_4 cKx_0_5 cKx_0_6
    go_wp2_with fail
    go_end0
    exact D.out
  rw [decide_eq_false hfull]
  clear hfull
  have S0 := hid (nearBK_mk N0.out X0.out (by omega) htB Kx0.out)
  go_wp2_with fail
  go_region_held3 (fun a => (Near B b w a ∧ Box w.heap.size 16 o n s (.slice a1 c1 q1) (.slice (some ⟨t, off, none⟩) (r.length + 1) q2) p a ∧ w.heap.size ≠ b ∧ t < B ∧ NodeAt t (off) x.kind x.op x.num x.str (.slice xa1 x.names.length xq1) (.slice xa2 x.kids.length xq2) x.pl a) ∧ a.cell? ⟨w.heap.size, 0, none⟩ = some (.int .i64 16) ∧ a.cell? ⟨w.heap.size, 1, none⟩ = some (.int .i64 o) ∧ a.cell? ⟨w.heap.size, 2, none⟩ = some (.int .i64 n) ∧ a.cell? ⟨w.heap.size, 3, none⟩ = some (.string s) ∧ a.cell? ⟨w.heap.size, 4, none⟩ = some (.slice a1 c1 q1) ∧ a.cell? ⟨w.heap.size, 5, none⟩ = some (.slice (some ⟨t, off, none⟩) (r.length + 1) q2) ∧ a.cell? ⟨w.heap.size, 6, none⟩ = some (.int .i64 p) ∧ a.cell? ⟨t, off, none⟩ = some (.int .i64 x.kind) ∧ a.cell? ⟨t, off + 1, none⟩ = some (.int .i64 x.op) ∧ a.cell? ⟨t, off + 2, none⟩ = some (.int .i64 x.num) ∧ a.cell? ⟨t, off + 3, none⟩ = some (.string x.str) ∧ a.cell? ⟨t, off + 4, none⟩ = some (.slice xa1 x.names.length xq1) ∧ a.cell? ⟨t, off + 5, none⟩ = some (.slice xa2 x.kids.length xq2) ∧ a.cell? ⟨t, off + 6, none⟩ = some (.int .i64 x.pl))
    (first | assumption | exact nearBK (by assumption) nn | exact nearBK S0.out (near_draw _ _ _) | exact nearBK (by assumption) (near_draw _ _ _))
    (first
      | (go_at_call 66; refine (get_calls x HXx.out _ _ _ _ s hs0 (by omega) B b _ _ (hid (wr_drew W0.out)) (hid (ok_on O0.out (near_draw B b _).below)) (hid (fit_near Fx0.out (near_draw B b _))) (by omega)).mono ?_; rintro e wx ⟨rfl, l1, hW, hw, nn⟩))
  rename_i hz
  clear hz S0
  replace nn := (near_draw B b _).trans nn
  have N1 := hid (N0.out.trans nn)
  have W1 := hid hW
  have O1 := hid (ok_on O0.out nn.below)
  have X1 := hid (box_near X0.out (by omega) nn)
  have A1 := hid (ndsAt_on nn.below htB _ _ A0.out)
  have Fx1 := hid (fit_near Fx0.out nn)
  have Kx1 := hid (nodeAt_on Kx0.out htB nn.below)
  clear W0 N0 O0 X0 A0 Fx0 Kx0 nn hW cKx_0_0 cKx_0_1 cKx_0_2 cKx_0_3 cKx_0_4 cKx_0_5 cKx_0_6
  obtain ⟨cX_1_0, cX_1_1, cX_1_2, cX_1_3, cX_1_4, cX_1_5, cX_1_6⟩ := box_cells X1.out
  obtain ⟨cKx_1_0, cKx_1_1, cKx_1_2, cKx_1_3, cKx_1_4, cKx_1_5, cKx_1_6⟩ := Kx1.out
  have hlen1 := wrote_le hw
  have R1 := hid hw
  clear hw
  obtain ⟨ao, hao, hao2⟩ : ∃ ao, (if q2 = 1 then some ⟨t, off, none⟩ else some ⟨t, off + 7, none⟩ : Option Addr) = ao ∧ KidsIn B wx (.slice ao r.length (q2 - 1)) r := by
    by_cases hq : q2 = 1
    · have hr0 : r = [] := List.length_eq_zero_iff.1 (by omega)
      rw [if_pos hq]; subst hr0; exact ⟨_, rfl, .inl ⟨_, _, rfl, rfl⟩⟩
    · rw [if_neg hq]; exact ⟨_, rfl, kids_tail A1.out htB (by omega)⟩
  have KI := hid hao2
  clear hao2
  go_wp2_with fail
  refine (wlist_calls r HX.out HR.out B b _ _ _ W1 O1 KI HS.out hc (by omega)).mono ?_
  rintro e w2 ⟨rfl, l2, hW, hw, nn⟩
  have N2 := hid (N1.out.trans nn)
  have W2 := hid hW
  have O2 := hid (ok_on O1.out nn.below)
  have X2 := hid (box_near X1.out (by omega) nn)
  have A2 := hid (ndsAt_on nn.below htB _ _ A1.out)
  have Fx2 := hid (fit_near Fx1.out nn)
  have Kx2 := hid (nodeAt_on Kx1.out htB nn.below)
  clear W1 N1 O1 X1 A1 Fx1 Kx1 nn hW cX_1_0 cX_1_1 cX_1_2 cX_1_3 cX_1_4 cX_1_5 cX_1_6 cKx_1_0 cKx_1_1 cKx_1_2 cKx_1_3 cKx_1_4 cKx_1_5 cKx_1_6
  obtain ⟨cX_2_0, cX_2_1, cX_2_2, cX_2_3, cX_2_4, cX_2_5, cX_2_6⟩ := box_cells X2.out
  obtain ⟨cKx_2_0, cKx_2_1, cKx_2_2, cKx_2_3, cKx_2_4, cKx_2_5, cKx_2_6⟩ := Kx2.out
  have hlen2 := wrote_le hw
  have R2 := hid (R1.out.trans hw)
  clear hw R1
  have D := hid (done_mk W2.out R2.out (show (getT (textN x) s ++ argsT (r.map textN)) = getT (textN x) s ++ argsT (r.map textN) by first | rfl | simp only [List.append_assoc, List.cons_append, List.nil_append]) N2.out)
  clear W2 N2 O2 R2 X2 A2 Fx2 Kx2 cX_2_0 cX_2_1 cX_2_2 cX_2_3 cX_2_4 cX_2_5 cX_2_6 cKx_2_0 cKx_2_1 cKx_2_2 cKx_2_3 cKx_2_4 cKx_2_5 cKx_2_6
  go_wp2_with fail
  go_end0
  exact D.out

set_option maxHeartbeats 3200000 in
set_option maxRecDepth 100000 in
theorem wexpr15 (o : Int) (n : Int) (s : ByteArray) (a1 : Option Addr) (c1 q1 : Nat) (t off q2 : Nat) (p : Int) (ck : Int) (x : Nd) (hck : (if x.kind = 13 then 9 else 8) = ck) (hxx : ExprW x) (xa1 : Option Addr) (xq1 : Nat) (xa2 : Option Addr) (xq2 : Nat) (r : List Nd) (hx : ∀ z ∈ r, ExprW z) (hr : ∀ z ∈ r, rightN z 1 = true) (hsm : ∀ z ∈ r, smallN z = true) (hc : countL r ≤ 1000000) (hcap : r.length + 1 ≤ q2) (B b : Nat) (l : List UInt8) (w : World) (W : Hid (Wr B b l w)) (O : Hid (Ok B w)) (htB : t < B) (A : Hid (NdsAt B w t (x :: r) off)) (Kx : Hid (NodeAt t (off) x.kind x.op x.num x.str (.slice xa1 x.names.length xq1) (.slice xa2 x.kids.length xq2) x.pl w)) (Fx : Hid (Fit B x (.slice xa1 x.names.length xq1) (.slice xa2 x.kids.length xq2) 1 w)) (hl : l.length + (tightT (textN x) ck ++ argsT (r.map textN)).length ≤ 100000000) :
    Calls Tryd.prog 64 #[.pointer (some ⟨b, 0, none⟩), .agg #[.int .i64 15, .int .i64 o, .int .i64 n, .string s, .slice a1 c1 q1, .slice (some ⟨t, off, none⟩) (r.length + 1) q2, .int .i64 p]] w (Done B b l (tightT (textN x) ck ++ argsT (r.map textN)) w) := by
  have hlt := wr_lt W.out
  have hal := box1_below w (.cells #[.int .i64 15, .int .i64 o, .int .i64 n, .string s, .slice a1 c1 q1, .slice (some ⟨t, off, none⟩) (r.length + 1) q2, .int .i64 p] 25)
  have N0 := hid (show Near B b w _ from Near.ofBelow hal O.out.1)
  have W0 := hid (wr_below W.out hal)
  have O0 := hid (ok_on O.out N0.out.below)
  have X0 := hid (box_new w 15 o n s (.slice a1 c1 q1) (.slice (some ⟨t, off, none⟩) (r.length + 1) q2) p)
  have A0 := hid (ndsAt_on N0.out.below htB _ _ A.out)
  have Fx0 := hid (fit_near Fx.out N0.out)
  have Kx0 := hid (nodeAt_on Kx.out htB N0.out.below)
  have HXx := hid hxx
  have HX := hid hx
  have HR := hid hr
  have HS := hid hsm
  have hrl := length_count r
  have htw : t < w.heap.size := Nat.lt_of_lt_of_le htB O.out.1
  simp only [List.length_append] at hl
  clear hal W O A Fx Kx hxx hx hr hsm
  have HCK := hid hck
  clear hck
  obtain ⟨cKx_0_0, cKx_0_1, cKx_0_2, cKx_0_3, cKx_0_4, cKx_0_5, cKx_0_6⟩ := Kx0.out
  go_enter Tryd.func64, Tryd.ntmps64
  go_wp2_with fail
  refine (full_calls W0 (by omega)).mono ?_
  rintro e wf ⟨rfl, rfl⟩
  by_cases hfull : 2000 < l.length
  · rw [decide_eq_true hfull]
    have D := hid (done_mk W0.out (Wrote.none hfull (tightT (textN x) ck ++ argsT (r.map textN))) rfl N0.out)
    clear W0 N0 O0 X0 A0 Fx0 Kx0 cKx_0_0 cKx_0_1 cKx_0_2 cKx_0_3 cKx_0_4 cKx_0_5 cKx_0_6
    go_wp2_with fail
    go_end0
    exact D.out
  rw [decide_eq_false hfull]
  clear hfull
  go_wp2_with fail
  refine (called_calls x HXx.out _ _ _ _ B b _ _ W0 O0 Fx0 (by rw [HCK.out]; omega)).mono ?_
  rintro e w1 ⟨rfl, l1, hW, hw, nn⟩
  rw [HCK.out] at hw
  have N1 := hid (N0.out.trans nn)
  have W1 := hid hW
  have O1 := hid (ok_on O0.out nn.below)
  have X1 := hid (box_near X0.out (by omega) nn)
  have A1 := hid (ndsAt_on nn.below htB _ _ A0.out)
  have Fx1 := hid (fit_near Fx0.out nn)
  have Kx1 := hid (nodeAt_on Kx0.out htB nn.below)
  clear W0 N0 O0 X0 A0 Fx0 Kx0 nn hW cKx_0_0 cKx_0_1 cKx_0_2 cKx_0_3 cKx_0_4 cKx_0_5 cKx_0_6
  obtain ⟨cX_1_0, cX_1_1, cX_1_2, cX_1_3, cX_1_4, cX_1_5, cX_1_6⟩ := box_cells X1.out
  obtain ⟨cKx_1_0, cKx_1_1, cKx_1_2, cKx_1_3, cKx_1_4, cKx_1_5, cKx_1_6⟩ := Kx1.out
  have hlen1 := wrote_le hw
  have R1 := hid hw
  clear hw
  obtain ⟨ao, hao, hao2⟩ : ∃ ao, (if q2 = 1 then some ⟨t, off, none⟩ else some ⟨t, off + 7, none⟩ : Option Addr) = ao ∧ KidsIn B w1 (.slice ao r.length (q2 - 1)) r := by
    by_cases hq : q2 = 1
    · have hr0 : r = [] := List.length_eq_zero_iff.1 (by omega)
      rw [if_pos hq]; subst hr0; exact ⟨_, rfl, .inl ⟨_, _, rfl, rfl⟩⟩
    · rw [if_neg hq]; exact ⟨_, rfl, kids_tail A1.out htB (by omega)⟩
  have KI := hid hao2
  clear hao2
  go_wp2_with fail
  refine (wlist_calls r HX.out HR.out B b _ _ _ W1 O1 KI HS.out hc (by omega)).mono ?_
  rintro e w2 ⟨rfl, l2, hW, hw, nn⟩
  have N2 := hid (N1.out.trans nn)
  have W2 := hid hW
  have O2 := hid (ok_on O1.out nn.below)
  have X2 := hid (box_near X1.out (by omega) nn)
  have A2 := hid (ndsAt_on nn.below htB _ _ A1.out)
  have Fx2 := hid (fit_near Fx1.out nn)
  have Kx2 := hid (nodeAt_on Kx1.out htB nn.below)
  clear W1 N1 O1 X1 A1 Fx1 Kx1 nn hW cX_1_0 cX_1_1 cX_1_2 cX_1_3 cX_1_4 cX_1_5 cX_1_6 cKx_1_0 cKx_1_1 cKx_1_2 cKx_1_3 cKx_1_4 cKx_1_5 cKx_1_6
  obtain ⟨cX_2_0, cX_2_1, cX_2_2, cX_2_3, cX_2_4, cX_2_5, cX_2_6⟩ := box_cells X2.out
  obtain ⟨cKx_2_0, cKx_2_1, cKx_2_2, cKx_2_3, cKx_2_4, cKx_2_5, cKx_2_6⟩ := Kx2.out
  have hlen2 := wrote_le hw
  have R2 := hid (R1.out.trans hw)
  clear hw R1
  have D := hid (done_mk W2.out R2.out (show (tightT (textN x) ck ++ argsT (r.map textN)) = tightT (textN x) ck ++ argsT (r.map textN) by first | rfl | simp only [List.append_assoc, List.cons_append, List.nil_append]) N2.out)
  clear W2 N2 O2 R2 X2 A2 Fx2 Kx2 cX_2_0 cX_2_1 cX_2_2 cX_2_3 cX_2_4 cX_2_5 cX_2_6 cKx_2_0 cKx_2_1 cKx_2_2 cKx_2_3 cKx_2_4 cKx_2_5 cKx_2_6
  go_wp2_with fail
  go_end0
  exact D.out

end Go.Proofs.YtlnllpehifkjhaaDoor
