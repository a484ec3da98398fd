/- Built-in calls as the document writes them. A sign ahead of an expression, as the document writes it. -/
import Derived.Test.YtlnllpehifkjhaaDoorRfText
import Derived.Test.YtlnllpehifkjhaaDoorRfStmt2
namespace Go.Proofs.YtlnllpehifkjhaaDoor
open Go.RowKit

set_option maxHeartbeats 3200000 in
set_option maxRecDepth 100000 in
theorem rexpr_17 (o n : Int) (s : ByteArray) (ns : List ByteArray) (ks : List Nd) (p : Int) (hE : ∀ x ∈ ks, RExprAt x) (hlen : sum4 (ks.map textN) ≤ 100000000) (hks : ks.length ≤ 1000000) : RExprAt (.mk 17 o n s ns ks p) := by
  intro B w nv kv hB h1
  obtain ⟨hs1, hk1⟩ := ndIn_mk.1 h1.out
  obtain ⟨a1, q1, rfl, _⟩ := strsIn_cases hs1
  obtain ⟨a2, q2, rfl, _⟩ := kidsIn_cases hk1
  simp only [Nd.kind, Nd.op, Nd.num, Nd.str, Nd.pl]
  have hal := box1_below w (.cells #[.int .i64 17, .int .i64 o, .int .i64 n, .string s, .slice a1 ns.length q1, .slice a2 ks.length q2, .int .i64 p] 25)
  have AL := hid hal
  have X := hid (box_new w 17 o n s (.slice a1 ns.length q1) (.slice a2 ks.length q2) p)
  have K0 := hid (kidsIn_on (hal.mono hB) hk1)
  have IH := hid hE
  have hl1 := list_len (ks.map textN)
  have hl2 := builtT_len o
  have HT := hid (show (⟨(textN (.mk 17 o n s ns ks p)).e.toArray⟩ : ByteArray) = ⟨(builtT o).1.toArray⟩ ++ ⟨#[40]⟩ ++ ⟨(listT (ks.map textN)).toArray⟩ ++ ⟨#[41]⟩ by
    rw [textN_mk]; apply ByteArray.ext; simp [exprT, argsT])
  clear hal hs1 hk1 h1 hE
  go_enter Tryd.func53, Tryd.ntmps53
  go_wp2_with fail
  refine (rbuilt_calls o _).mono ?_
  rintro e w1 ⟨rfl, b1⟩
  have B1 := hid (below_in AL.out (by simp) b1)
  have X1 := hid (box_on X.out b1)
  have K1 := hid (kidsIn_on (b1.mono (by simp; omega)) K0.out)
  obtain ⟨c0, c1, c2, c3, c4, c5, c6⟩ := box_cells X1.out
  clear b1 AL X K0
  go_wp2_with fail
  refine (rlist_calls ks IH.out hlen hks B _ _ (by have := B1.out.size; omega) K1).mono ?_
  rintro e w2 ⟨rfl, b2⟩
  have B2 := hid (below_in B1.out (Nat.le_refl _) b2)
  clear b2 B1 X1 K1
  go_wp2_with fail
  go_ret
  exact ⟨by rw [HT.out]; rfl, B2.out⟩

end Go.Proofs.YtlnllpehifkjhaaDoor

namespace Go.Proofs.YtlnllpehifkjhaaDoor
open Go.RowKit

set_option maxHeartbeats 3200000 in
set_option maxRecDepth 100000 in
theorem rexpr_9_1 (n : Int) (s : ByteArray) (ns : List ByteArray) (x : Nd) (p : Int) (hE : RExprAt x) (hr : x.kind = 10 → 1 ≤ x.op ∧ x.op ≤ 11) (hl : (textN x).e.length ≤ 100000000) (_hs : s.size ≤ 600) : RExprAt (.mk 9 1 n s ns [x] p) := by
  intro B w nv kv hB h1
  obtain ⟨hs1, hk1⟩ := ndIn_mk.1 h1.out
  obtain ⟨a1, q1, rfl, _⟩ := strsIn_cases hs1
  obtain ⟨a2, q2, rfl, hkk⟩ := kidsIn_cases hk1
  obtain ⟨b, off, rfl, hbB, hat⟩ := hkk.resolve_left (by simp)
  obtain ⟨nv0, kv0, hnode, hin⟩ := ndsAt_get hat 0 (by simp)
  simp only [List.getElem_cons_zero, Nat.zero_mul, Nat.add_zero] at hnode hin
  simp only [Nd.kind, Nd.op, Nd.num, Nd.str, Nd.pl, List.length_cons, List.length_nil, Nat.zero_add]
  obtain ⟨b1, r1, b2, r2, rfl, rfl⟩ := ndIn_shape hin
  obtain ⟨c0, c1, c2, c3, c4, c5, c6⟩ := hnode
  have hal := box2_below w (.cells #[.int .i64 9, .int .i64 1, .int .i64 n, .string s, .slice a1 ns.length q1, .slice (some ⟨b, off, none⟩) 1 q2, .int .i64 p] 25) (.cells #[.int .i64 x.kind, .int .i64 x.op, .int .i64 x.num, .string x.str, .slice b1 x.names.length r1, .slice b2 x.kids.length r2, .int .i64 x.pl] 25)
  have hbx := boxes2 w 9 1 n s (.slice a1 ns.length q1) (.slice (some ⟨b, off, none⟩) 1 q2) p x.kind x.op x.num x.str (.slice b1 x.names.length r1) (.slice b2 x.kids.length r2) x.pl
  have C0 := hid (kp_1_mk hal (by simp; omega) hbx.1 hbx.2 (ndIn_on (hal.mono hB) _ _ _ hin))
  have hbl : b < w.heap.size := by omega
  have HE := hid hE
  have hrl : (brT (decide (rankT x.kind x.op < 7)) (textN x).e : List UInt8).length ≤ 100000002 := by have := brT_len (decide (rankT x.kind x.op < 7)) (textN x).e; omega
  have HL := hid hl
  have HRK := hid (show rankT 9 1 = 7 by simp [rankT])
  have HT := hid (show (⟨(textN (.mk 9 1 n s ns [x] p)).e.toArray⟩ : ByteArray) = ⟨#[45]⟩ ++ ⟨(brT (decide (rankT x.kind x.op < 7)) (textN x).e).toArray⟩ by
    rw [textN_mk]; apply ByteArray.ext; simp [exprT, at0, tight_in, textN_rank])
  have f1 : ¬ (9223372036854775807 < 1 + (brT (decide (rankT x.kind x.op < 7)) (textN x).e).length) := by omega
  clear hrl
  clear hal hbx hin hkk hat hs1 hk1 h1 hE hl
  have hu : Tryd.prog.underlying 9 = some .string := by rfl
  have hw1 : ({data := #[33]} : ByteArray).extract 0 0 = {data := #[]} := by rfl
  have hw2 : ({data := #[45]} : ByteArray).extract 0 1 = {data := #[45]} := by rfl
  go_enter Tryd.func53, Tryd.ntmps53
  go_wp2_with fail
  go_region_held3 (fun a => (Below w.heap.size w a ∧ B ≤ a.heap.size ∧ Box w.heap.size 9 1 n s (.slice a1 ns.length q1) (.slice (some ⟨b, off, none⟩) 1 q2) p a ∧ Box (w.heap.size + 1) x.kind x.op x.num x.str (.slice b1 x.names.length r1) (.slice b2 x.kids.length r2) x.pl a ∧ NdIn B a x (.slice b1 x.names.length r1) (.slice b2 x.kids.length r2)) ∧ a.cell? ⟨w.heap.size, 0, none⟩ = some (.int .i64 9) ∧ a.cell? ⟨w.heap.size, 1, none⟩ = some (.int .i64 1) ∧ a.cell? ⟨w.heap.size, 2, none⟩ = some (.int .i64 n) ∧ a.cell? ⟨w.heap.size, 3, none⟩ = some (.string s) ∧ a.cell? ⟨w.heap.size, 4, none⟩ = some (.slice a1 ns.length q1) ∧ a.cell? ⟨w.heap.size, 5, none⟩ = some (.slice (some ⟨b, off, none⟩) 1 q2) ∧ a.cell? ⟨w.heap.size, 6, none⟩ = some (.int .i64 p) ∧ a.cell? ⟨w.heap.size + 1, 0, none⟩ = some (.int .i64 x.kind) ∧ a.cell? ⟨w.heap.size + 1, 1, none⟩ = some (.int .i64 x.op) ∧ a.cell? ⟨w.heap.size + 1, 2, none⟩ = some (.int .i64 x.num) ∧ a.cell? ⟨w.heap.size + 1, 3, none⟩ = some (.string x.str) ∧ a.cell? ⟨w.heap.size + 1, 4, none⟩ = some (.slice b1 x.names.length r1) ∧ a.cell? ⟨w.heap.size + 1, 5, none⟩ = some (.slice b2 x.kids.length r2) ∧ a.cell? ⟨w.heap.size + 1, 6, none⟩ = some (.int .i64 x.pl))
    (first | assumption | exact kp_1 (by assumption) bb | exact kp_1 C0.out (Below.refl _ _).drew | exact kp_1 (by assumption) (Below.refl _ _).drew)
    (first
      | (go_at_call_of 52 x; refine (rrank_calls x.kind x.op x.num x.str b1 x.names.length r1 b2 x.kids.length r2 x.pl _ hr).mono ?_; rintro e wx ⟨rfl, bb⟩)
      | (go_at_call 52; refine (rrank_calls 9 1 n s a1 ns.length q1 (some ⟨b, off, none⟩) 1 q2 p _ (fun h => absurd h (by decide))).mono ?_; rintro e wx ⟨he, bb⟩; rw [HRK.out] at he; subst he))
  all_goals
    rename_i hz
    have C1 := hid hz
    clear hz C0 c0 c1 c2 c3 c4 c5 c6
    obtain ⟨x0, x1, x2, x3, x4, x5, x6, y0, y1, y2, y3, y4, y5, y6⟩ := C1.out.2
    go_wp2_with fail
    go_region_held (fun a => (Below w.heap.size w a ∧ B ≤ a.heap.size ∧ Box w.heap.size 9 1 n s (.slice a1 ns.length q1) (.slice (some ⟨b, off, none⟩) 1 q2) p a ∧ Box (w.heap.size + 1) x.kind x.op x.num x.str (.slice b1 x.names.length r1) (.slice b2 x.kids.length r2) x.pl a ∧ NdIn B a x (.slice b1 x.names.length r1) (.slice b2 x.kids.length r2)) ∧ a.cell? ⟨w.heap.size, 0, none⟩ = some (.int .i64 9) ∧ a.cell? ⟨w.heap.size, 1, none⟩ = some (.int .i64 1) ∧ a.cell? ⟨w.heap.size, 2, none⟩ = some (.int .i64 n) ∧ a.cell? ⟨w.heap.size, 3, none⟩ = some (.string s) ∧ a.cell? ⟨w.heap.size, 4, none⟩ = some (.slice a1 ns.length q1) ∧ a.cell? ⟨w.heap.size, 5, none⟩ = some (.slice (some ⟨b, off, none⟩) 1 q2) ∧ a.cell? ⟨w.heap.size, 6, none⟩ = some (.int .i64 p) ∧ a.cell? ⟨w.heap.size + 1, 0, none⟩ = some (.int .i64 x.kind) ∧ a.cell? ⟨w.heap.size + 1, 1, none⟩ = some (.int .i64 x.op) ∧ a.cell? ⟨w.heap.size + 1, 2, none⟩ = some (.int .i64 x.num) ∧ a.cell? ⟨w.heap.size + 1, 3, none⟩ = some (.string x.str) ∧ a.cell? ⟨w.heap.size + 1, 4, none⟩ = some (.slice b1 x.names.length r1) ∧ a.cell? ⟨w.heap.size + 1, 5, none⟩ = some (.slice b2 x.kids.length r2) ∧ a.cell? ⟨w.heap.size + 1, 6, none⟩ = some (.int .i64 x.pl))
      (first | assumption | exact kp_1 (by assumption) bb | exact kp_1 C1.out (Below.refl _ _).drew | exact kp_1 (by assumption) (Below.refl _ _).drew)
      (first
        | (go_at_call 53; refine (HE.out B _ _ _ (kp_1_core (by assumption)).2.1 (hid (kp_1_core (by assumption)).2.2.2.2)).mono ?_; rintro e wx ⟨rfl, bb⟩)
        | (go_at_call 54; refine (rat_calls x HE.out (decide (rankT x.kind x.op < 7)) HL.out B _ _ _ (kp_1_core (by assumption)).2.1 (hid (kp_1_core (by assumption)).2.2.2.2)).mono ?_; rintro e wx ⟨rfl, bb⟩))
    all_goals
      rename_i hz
      have Z := hid hz.1.1
      clear hz
      go_wp2_with fail
      go_ret
      exact ⟨by rw [HT.out]; rfl, Z.out⟩

set_option maxHeartbeats 3200000 in
set_option maxRecDepth 100000 in
theorem rexpr_9_2 (n : Int) (s : ByteArray) (ns : List ByteArray) (x : Nd) (p : Int) (hE : RExprAt x) (hr : x.kind = 10 → 1 ≤ x.op ∧ x.op ≤ 11) (hl : (textN x).e.length ≤ 100000000) (_hs : s.size ≤ 600) : RExprAt (.mk 9 2 n s ns [x] p) := by
  intro B w nv kv hB h1
  obtain ⟨hs1, hk1⟩ := ndIn_mk.1 h1.out
  obtain ⟨a1, q1, rfl, _⟩ := strsIn_cases hs1
  obtain ⟨a2, q2, rfl, hkk⟩ := kidsIn_cases hk1
  obtain ⟨b, off, rfl, hbB, hat⟩ := hkk.resolve_left (by simp)
  obtain ⟨nv0, kv0, hnode, hin⟩ := ndsAt_get hat 0 (by simp)
  simp only [List.getElem_cons_zero, Nat.zero_mul, Nat.add_zero] at hnode hin
  simp only [Nd.kind, Nd.op, Nd.num, Nd.str, Nd.pl, List.length_cons, List.length_nil, Nat.zero_add]
  obtain ⟨b1, r1, b2, r2, rfl, rfl⟩ := ndIn_shape hin
  obtain ⟨c0, c1, c2, c3, c4, c5, c6⟩ := hnode
  have hal := box2_below w (.cells #[.int .i64 9, .int .i64 2, .int .i64 n, .string s, .slice a1 ns.length q1, .slice (some ⟨b, off, none⟩) 1 q2, .int .i64 p] 25) (.cells #[.int .i64 x.kind, .int .i64 x.op, .int .i64 x.num, .string x.str, .slice b1 x.names.length r1, .slice b2 x.kids.length r2, .int .i64 x.pl] 25)
  have hbx := boxes2 w 9 2 n s (.slice a1 ns.length q1) (.slice (some ⟨b, off, none⟩) 1 q2) p x.kind x.op x.num x.str (.slice b1 x.names.length r1) (.slice b2 x.kids.length r2) x.pl
  have C0 := hid (kp_1_mk hal (by simp; omega) hbx.1 hbx.2 (ndIn_on (hal.mono hB) _ _ _ hin))
  have hbl : b < w.heap.size := by omega
  have HE := hid hE
  have hrl : (brT (decide (rankT x.kind x.op < 7)) (textN x).e : List UInt8).length ≤ 100000002 := by have := brT_len (decide (rankT x.kind x.op < 7)) (textN x).e; omega
  have HL := hid hl
  have HRK := hid (show rankT 9 2 = 7 by simp [rankT])
  have HT := hid (show (⟨(textN (.mk 9 2 n s ns [x] p)).e.toArray⟩ : ByteArray) = ⟨#[33]⟩ ++ ⟨(brT (decide (rankT x.kind x.op < 7)) (textN x).e).toArray⟩ by
    rw [textN_mk]; apply ByteArray.ext; simp [exprT, at0, tight_in, textN_rank])
  have f1 : ¬ (9223372036854775807 < 1 + (brT (decide (rankT x.kind x.op < 7)) (textN x).e).length) := by omega
  clear hrl
  clear hal hbx hin hkk hat hs1 hk1 h1 hE hl
  have hu : Tryd.prog.underlying 9 = some .string := by rfl
  have hw1 : ({data := #[33]} : ByteArray).extract 0 1 = {data := #[33]} := by rfl
  have hw2 : ({data := #[45]} : ByteArray).extract 0 0 = {data := #[]} := by rfl
  go_enter Tryd.func53, Tryd.ntmps53
  go_wp2_with fail
  go_region_held3 (fun a => (Below w.heap.size w a ∧ B ≤ a.heap.size ∧ Box w.heap.size 9 2 n s (.slice a1 ns.length q1) (.slice (some ⟨b, off, none⟩) 1 q2) p a ∧ Box (w.heap.size + 1) x.kind x.op x.num x.str (.slice b1 x.names.length r1) (.slice b2 x.kids.length r2) x.pl a ∧ NdIn B a x (.slice b1 x.names.length r1) (.slice b2 x.kids.length r2)) ∧ a.cell? ⟨w.heap.size, 0, none⟩ = some (.int .i64 9) ∧ a.cell? ⟨w.heap.size, 1, none⟩ = some (.int .i64 2) ∧ a.cell? ⟨w.heap.size, 2, none⟩ = some (.int .i64 n) ∧ a.cell? ⟨w.heap.size, 3, none⟩ = some (.string s) ∧ a.cell? ⟨w.heap.size, 4, none⟩ = some (.slice a1 ns.length q1) ∧ a.cell? ⟨w.heap.size, 5, none⟩ = some (.slice (some ⟨b, off, none⟩) 1 q2) ∧ a.cell? ⟨w.heap.size, 6, none⟩ = some (.int .i64 p) ∧ a.cell? ⟨w.heap.size + 1, 0, none⟩ = some (.int .i64 x.kind) ∧ a.cell? ⟨w.heap.size + 1, 1, none⟩ = some (.int .i64 x.op) ∧ a.cell? ⟨w.heap.size + 1, 2, none⟩ = some (.int .i64 x.num) ∧ a.cell? ⟨w.heap.size + 1, 3, none⟩ = some (.string x.str) ∧ a.cell? ⟨w.heap.size + 1, 4, none⟩ = some (.slice b1 x.names.length r1) ∧ a.cell? ⟨w.heap.size + 1, 5, none⟩ = some (.slice b2 x.kids.length r2) ∧ a.cell? ⟨w.heap.size + 1, 6, none⟩ = some (.int .i64 x.pl))
    (first | assumption | exact kp_1 (by assumption) bb | exact kp_1 C0.out (Below.refl _ _).drew | exact kp_1 (by assumption) (Below.refl _ _).drew)
    (first
      | (go_at_call_of 52 x; refine (rrank_calls x.kind x.op x.num x.str b1 x.names.length r1 b2 x.kids.length r2 x.pl _ hr).mono ?_; rintro e wx ⟨rfl, bb⟩)
      | (go_at_call 52; refine (rrank_calls 9 2 n s a1 ns.length q1 (some ⟨b, off, none⟩) 1 q2 p _ (fun h => absurd h (by decide))).mono ?_; rintro e wx ⟨he, bb⟩; rw [HRK.out] at he; subst he))
  all_goals
    rename_i hz
    have C1 := hid hz
    clear hz C0 c0 c1 c2 c3 c4 c5 c6
    obtain ⟨x0, x1, x2, x3, x4, x5, x6, y0, y1, y2, y3, y4, y5, y6⟩ := C1.out.2
    go_wp2_with fail
    go_region_held (fun a => (Below w.heap.size w a ∧ B ≤ a.heap.size ∧ Box w.heap.size 9 2 n s (.slice a1 ns.length q1) (.slice (some ⟨b, off, none⟩) 1 q2) p a ∧ Box (w.heap.size + 1) x.kind x.op x.num x.str (.slice b1 x.names.length r1) (.slice b2 x.kids.length r2) x.pl a ∧ NdIn B a x (.slice b1 x.names.length r1) (.slice b2 x.kids.length r2)) ∧ a.cell? ⟨w.heap.size, 0, none⟩ = some (.int .i64 9) ∧ a.cell? ⟨w.heap.size, 1, none⟩ = some (.int .i64 2) ∧ a.cell? ⟨w.heap.size, 2, none⟩ = some (.int .i64 n) ∧ a.cell? ⟨w.heap.size, 3, none⟩ = some (.string s) ∧ a.cell? ⟨w.heap.size, 4, none⟩ = some (.slice a1 ns.length q1) ∧ a.cell? ⟨w.heap.size, 5, none⟩ = some (.slice (some ⟨b, off, none⟩) 1 q2) ∧ a.cell? ⟨w.heap.size, 6, none⟩ = some (.int .i64 p) ∧ a.cell? ⟨w.heap.size + 1, 0, none⟩ = some (.int .i64 x.kind) ∧ a.cell? ⟨w.heap.size + 1, 1, none⟩ = some (.int .i64 x.op) ∧ a.cell? ⟨w.heap.size + 1, 2, none⟩ = some (.int .i64 x.num) ∧ a.cell? ⟨w.heap.size + 1, 3, none⟩ = some (.string x.str) ∧ a.cell? ⟨w.heap.size + 1, 4, none⟩ = some (.slice b1 x.names.length r1) ∧ a.cell? ⟨w.heap.size + 1, 5, none⟩ = some (.slice b2 x.kids.length r2) ∧ a.cell? ⟨w.heap.size + 1, 6, none⟩ = some (.int .i64 x.pl))
      (first | assumption | exact kp_1 (by assumption) bb | exact kp_1 C1.out (Below.refl _ _).drew | exact kp_1 (by assumption) (Below.refl _ _).drew)
      (first
        | (go_at_call 53; refine (HE.out B _ _ _ (kp_1_core (by assumption)).2.1 (hid (kp_1_core (by assumption)).2.2.2.2)).mono ?_; rintro e wx ⟨rfl, bb⟩)
        | (go_at_call 54; refine (rat_calls x HE.out (decide (rankT x.kind x.op < 7)) HL.out B _ _ _ (kp_1_core (by assumption)).2.1 (hid (kp_1_core (by assumption)).2.2.2.2)).mono ?_; rintro e wx ⟨rfl, bb⟩))
    all_goals
      rename_i hz
      have Z := hid hz.1.1
      clear hz
      go_wp2_with fail
      go_ret
      exact ⟨by rw [HT.out]; rfl, Z.out⟩

end Go.Proofs.YtlnllpehifkjhaaDoor
