/- Expressions as the document writes them: a get, an index. -/
import Derived.Test.YtlnllpehifkjhaaDoorRfStmt2
namespace Go.Proofs.YtlnllpehifkjhaaDoor
open Go.RowKit

set_option maxHeartbeats 3200000 in
set_option maxRecDepth 100000 in
theorem rexpr_13 (o n : Int) (s : ByteArray) (ns : List ByteArray) (x : Nd) (p : Int) (hE : RExprAt x) (hr : x.kind = 10 → 1 ≤ x.op ∧ x.op ≤ 11) (hl : (textN x).e.length ≤ 100000000) (hs : s.size ≤ 600) : RExprAt (.mk 13 o n s ns [x] p) := by
  intro B w nv kv hB h1
  obtain ⟨hs1, hk1⟩ := ndIn_mk.1 h1.out
  obtain ⟨a1, q1, rfl, _⟩ := strsIn_cases hs1
  obtain ⟨a2, q2, rfl, hkk⟩ := kidsIn_cases hk1
  obtain ⟨b, off, rfl, hbB, hat⟩ := hkk.resolve_left (by simp)
  obtain ⟨nv0, kv0, hnode, hin⟩ := ndsAt_get hat 0 (by simp)
  simp only [List.getElem_cons_zero, Nat.zero_mul, Nat.add_zero] at hnode hin
  simp only [Nd.kind, Nd.op, Nd.num, Nd.str, Nd.pl, List.length_cons, List.length_nil, Nat.zero_add]
  obtain ⟨b1, r1, b2, r2, rfl, rfl⟩ := ndIn_shape hin
  obtain ⟨c0, c1, c2, c3, c4, c5, c6⟩ := hnode
  have hal := box2_below w (.cells #[.int .i64 13, .int .i64 o, .int .i64 n, .string s, .slice a1 ns.length q1, .slice (some ⟨b, off, none⟩) 1 q2, .int .i64 p] 25) (.cells #[.int .i64 x.kind, .int .i64 x.op, .int .i64 x.num, .string x.str, .slice b1 x.names.length r1, .slice b2 x.kids.length r2, .int .i64 x.pl] 25)
  have hbx := boxes2 w 13 o n s (.slice a1 ns.length q1) (.slice (some ⟨b, off, none⟩) 1 q2) p x.kind x.op x.num x.str (.slice b1 x.names.length r1) (.slice b2 x.kids.length r2) x.pl
  have C0 := hid (kp_1_mk hal (by simp; omega) hbx.1 hbx.2 (ndIn_on (hal.mono hB) _ _ _ hin))
  have hbl : b < w.heap.size := by omega
  have HE := hid hE
  have hrl : (brT (decide (rankT x.kind x.op < 8)) (textN x).e : List UInt8).length ≤ 100000002 := by have := brT_len (decide (rankT x.kind x.op < 8)) (textN x).e; omega
  have HL := hid hl
  have HRK := hid (show rankT 13 o = 8 by simp [rankT])
  have HT := hid (show (⟨(textN (.mk 13 o n s ns [x] p)).e.toArray⟩ : ByteArray) = ⟨(brT (decide (rankT x.kind x.op < 8)) (textN x).e).toArray⟩ ++ ⟨#[46]⟩ ++ s by
    rw [textN_mk]; apply ByteArray.ext; simp [exprT, at0, getT, tight_in, textN_rank])
  have f1 : ¬ (9223372036854775807 < (brT (decide (rankT x.kind x.op < 8)) (textN x).e).length + 1) := by omega
  have f2 : ¬ (9223372036854775807 < (brT (decide (rankT x.kind x.op < 8)) (textN x).e).length + 1 + s.size) := by omega
  clear hrl
  clear hal hbx hin hkk hat hs1 hk1 h1 hE hl
  go_enter Tryd.func53, Tryd.ntmps53
  go_wp2_with fail
  go_region_held3 (fun a => (Below w.heap.size w a ∧ B ≤ a.heap.size ∧ Box w.heap.size 13 o n s (.slice a1 ns.length q1) (.slice (some ⟨b, off, none⟩) 1 q2) p a ∧ Box (w.heap.size + 1) x.kind x.op x.num x.str (.slice b1 x.names.length r1) (.slice b2 x.kids.length r2) x.pl a ∧ NdIn B a x (.slice b1 x.names.length r1) (.slice b2 x.kids.length r2)) ∧ a.cell? ⟨w.heap.size, 0, none⟩ = some (.int .i64 13) ∧ a.cell? ⟨w.heap.size, 1, none⟩ = some (.int .i64 o) ∧ a.cell? ⟨w.heap.size, 2, none⟩ = some (.int .i64 n) ∧ a.cell? ⟨w.heap.size, 3, none⟩ = some (.string s) ∧ a.cell? ⟨w.heap.size, 4, none⟩ = some (.slice a1 ns.length q1) ∧ a.cell? ⟨w.heap.size, 5, none⟩ = some (.slice (some ⟨b, off, none⟩) 1 q2) ∧ a.cell? ⟨w.heap.size, 6, none⟩ = some (.int .i64 p) ∧ a.cell? ⟨w.heap.size + 1, 0, none⟩ = some (.int .i64 x.kind) ∧ a.cell? ⟨w.heap.size + 1, 1, none⟩ = some (.int .i64 x.op) ∧ a.cell? ⟨w.heap.size + 1, 2, none⟩ = some (.int .i64 x.num) ∧ a.cell? ⟨w.heap.size + 1, 3, none⟩ = some (.string x.str) ∧ a.cell? ⟨w.heap.size + 1, 4, none⟩ = some (.slice b1 x.names.length r1) ∧ a.cell? ⟨w.heap.size + 1, 5, none⟩ = some (.slice b2 x.kids.length r2) ∧ a.cell? ⟨w.heap.size + 1, 6, none⟩ = some (.int .i64 x.pl))
    (first | assumption | exact kp_1 (by assumption) bb | exact kp_1 C0.out (Below.refl _ _).drew | exact kp_1 (by assumption) (Below.refl _ _).drew)
    (first
      | (go_at_call_of 52 x; refine (rrank_calls x.kind x.op x.num x.str b1 x.names.length r1 b2 x.kids.length r2 x.pl _ hr).mono ?_; rintro e wx ⟨rfl, bb⟩)
      | (go_at_call 52; refine (rrank_calls 13 o n s a1 ns.length q1 (some ⟨b, off, none⟩) 1 q2 p _ (fun h => absurd h (by decide))).mono ?_; rintro e wx ⟨he, bb⟩; rw [HRK.out] at he; subst he))
  all_goals
    rename_i hz
    have C1 := hid hz
    clear hz C0 c0 c1 c2 c3 c4 c5 c6
    obtain ⟨x0, x1, x2, x3, x4, x5, x6, y0, y1, y2, y3, y4, y5, y6⟩ := C1.out.2
    go_wp2_with fail
    go_region_held3 (fun a => (Below w.heap.size w a ∧ B ≤ a.heap.size ∧ Box w.heap.size 13 o n s (.slice a1 ns.length q1) (.slice (some ⟨b, off, none⟩) 1 q2) p a ∧ Box (w.heap.size + 1) x.kind x.op x.num x.str (.slice b1 x.names.length r1) (.slice b2 x.kids.length r2) x.pl a ∧ NdIn B a x (.slice b1 x.names.length r1) (.slice b2 x.kids.length r2)) ∧ a.cell? ⟨w.heap.size, 0, none⟩ = some (.int .i64 13) ∧ a.cell? ⟨w.heap.size, 1, none⟩ = some (.int .i64 o) ∧ a.cell? ⟨w.heap.size, 2, none⟩ = some (.int .i64 n) ∧ a.cell? ⟨w.heap.size, 3, none⟩ = some (.string s) ∧ a.cell? ⟨w.heap.size, 4, none⟩ = some (.slice a1 ns.length q1) ∧ a.cell? ⟨w.heap.size, 5, none⟩ = some (.slice (some ⟨b, off, none⟩) 1 q2) ∧ a.cell? ⟨w.heap.size, 6, none⟩ = some (.int .i64 p) ∧ a.cell? ⟨w.heap.size + 1, 0, none⟩ = some (.int .i64 x.kind) ∧ a.cell? ⟨w.heap.size + 1, 1, none⟩ = some (.int .i64 x.op) ∧ a.cell? ⟨w.heap.size + 1, 2, none⟩ = some (.int .i64 x.num) ∧ a.cell? ⟨w.heap.size + 1, 3, none⟩ = some (.string x.str) ∧ a.cell? ⟨w.heap.size + 1, 4, none⟩ = some (.slice b1 x.names.length r1) ∧ a.cell? ⟨w.heap.size + 1, 5, none⟩ = some (.slice b2 x.kids.length r2) ∧ a.cell? ⟨w.heap.size + 1, 6, none⟩ = some (.int .i64 x.pl))
      (first | assumption | exact kp_1 (by assumption) bb | exact kp_1 C1.out (Below.refl _ _).drew | exact kp_1 (by assumption) (Below.refl _ _).drew)
      (first
        | (go_at_call 53; refine (HE.out B _ _ _ (kp_1_core (by assumption)).2.1 (hid (kp_1_core (by assumption)).2.2.2.2)).mono ?_; rintro e wx ⟨rfl, bb⟩)
        | (go_at_call 54; refine (rat_calls x HE.out (decide (rankT x.kind x.op < 8)) HL.out B _ _ _ (kp_1_core (by assumption)).2.1 (hid (kp_1_core (by assumption)).2.2.2.2)).mono ?_; rintro e wx ⟨rfl, bb⟩))
    all_goals
      rename_i hz
      have Z := hid hz.1.1
      clear hz
      go_wp2_with fail
      go_ret
      exact ⟨by rw [HT.out]; rfl, Z.out⟩

set_option maxHeartbeats 3200000 in
set_option maxRecDepth 100000 in
theorem rexpr_14 (o n : Int) (s : ByteArray) (ns : List ByteArray) (x y : Nd) (p : Int) (hE0 : RExprAt x) (hl0 : (textN x).e.length ≤ 100000000) (hE1 : RExprAt y) (hl1 : (textN y).e.length ≤ 100000000) (hr : x.kind = 10 → 1 ≤ x.op ∧ x.op ≤ 11) (_hs : s.size ≤ 600) : RExprAt (.mk 14 o n s ns [x, y] p) := by
  intro B w nv kv hB h1
  obtain ⟨hs1, hk1⟩ := ndIn_mk.1 h1.out
  obtain ⟨a1, q1, rfl, _⟩ := strsIn_cases hs1
  obtain ⟨a2, q2, rfl, hkk⟩ := kidsIn_cases hk1
  obtain ⟨b, off, rfl, hbB, hat⟩ := hkk.resolve_left (by simp)
  obtain ⟨nv0, kv0, hnode0, hin0⟩ := ndsAt_get hat 0 (by simp)
  obtain ⟨nv1, kv1, hnode1, hin1⟩ := ndsAt_get hat 1 (by simp)
  simp only [List.getElem_cons_zero, List.getElem_cons_succ, Nat.zero_mul, Nat.add_zero, Nat.one_mul] at hnode0 hin0 hnode1 hin1
  simp only [Nd.kind, Nd.op, Nd.num, Nd.str, Nd.pl, List.length_cons, List.length_nil, Nat.zero_add, Nat.reduceAdd]
  obtain ⟨xa, xq, xc, xr, rfl, rfl⟩ := ndIn_shape hin0
  obtain ⟨ya, yq, yc, yr, rfl, rfl⟩ := ndIn_shape hin1
  obtain ⟨c0, c1, c2, c3, c4, c5, c6⟩ := hnode0
  have hal := box2_below w (.cells #[.int .i64 14, .int .i64 o, .int .i64 n, .string s, .slice a1 ns.length q1, .slice (some ⟨b, off, none⟩) 2 q2, .int .i64 p] 25) (.cells #[.int .i64 x.kind, .int .i64 x.op, .int .i64 x.num, .string x.str, .slice xa x.names.length xq, .slice xc x.kids.length xr, .int .i64 x.pl] 25)
  have hbx := boxes2 w 14 o n s (.slice a1 ns.length q1) (.slice (some ⟨b, off, none⟩) 2 q2) p x.kind x.op x.num x.str (.slice xa x.names.length xq) (.slice xc x.kids.length xr) x.pl
  have hbl : b < w.heap.size := by omega
  have D1 := nodeAt_on hnode1 hbB (hal.mono hB)
  have C0 := hid (kq_2_mk hal (by simp; omega) (by simp; omega) hbx.1 hbx.2 (ndIn_on (hal.mono hB) _ _ _ hin0) (ndIn_on (hal.mono hB) _ _ _ hin1) (D1.1) (D1.2.1) (D1.2.2.1) (D1.2.2.2.1) (D1.2.2.2.2.1) (D1.2.2.2.2.2.1) (D1.2.2.2.2.2.2))
  have HE0 := hid hE0
  have HL0 := hid hl0
  have HE1 := hid hE1
  have HL1 := hid hl1
  have hrl := brT_len (decide (rankT x.kind x.op < 8)) (textN x).e
  have HRK := hid (show rankT 14 o = 8 by simp [rankT])
  have HT := hid (show (⟨(textN (.mk 14 o n s ns [x, y] p)).e.toArray⟩ : ByteArray) = ⟨(brT (decide (rankT x.kind x.op < 8)) (textN x).e).toArray⟩ ++ ⟨#[91]⟩ ++ ⟨(textN y).e.toArray⟩ ++ ⟨#[93]⟩ by
    rw [textN_mk]; apply ByteArray.ext; simp [exprT, at0, at1, indexT, tight_in, textN_rank])
  have f1 : ¬ (9223372036854775807 < (brT (decide (rankT x.kind x.op < 8)) (textN x).e).length + 1) := by omega
  have f2 : ¬ (9223372036854775807 < (brT (decide (rankT x.kind x.op < 8)) (textN x).e).length + 1 + (textN y).e.length) := by omega
  have f3 : ¬ (9223372036854775807 < (brT (decide (rankT x.kind x.op < 8)) (textN x).e).length + 1 + (textN y).e.length + 1) := by omega
  clear hrl
  clear hal hbx hin0 hin1 hkk hat hs1 hk1 h1 hE0 hl0 hE1 hl1 hnode1 D1
  go_enter Tryd.func53, Tryd.ntmps53
  go_wp2_with fail
  go_region_held3 (fun a => (Below w.heap.size w a ∧ B ≤ a.heap.size ∧ b < a.heap.size ∧ Box w.heap.size 14 o n s (.slice a1 ns.length q1) (.slice (some ⟨b, off, none⟩) 2 q2) p a ∧ Box (w.heap.size + 1) x.kind x.op x.num x.str (.slice xa x.names.length xq) (.slice xc x.kids.length xr) x.pl a ∧ NdIn B a x (.slice xa x.names.length xq) (.slice xc x.kids.length xr) ∧ NdIn B a y (.slice ya y.names.length yq) (.slice yc y.kids.length yr)) ∧ a.cell? ⟨w.heap.size, 0, none⟩ = some (.int .i64 14) ∧ a.cell? ⟨w.heap.size, 1, none⟩ = some (.int .i64 o) ∧ a.cell? ⟨w.heap.size, 2, none⟩ = some (.int .i64 n) ∧ a.cell? ⟨w.heap.size, 3, none⟩ = some (.string s) ∧ a.cell? ⟨w.heap.size, 4, none⟩ = some (.slice a1 ns.length q1) ∧ a.cell? ⟨w.heap.size, 5, none⟩ = some (.slice (some ⟨b, off, none⟩) 2 q2) ∧ a.cell? ⟨w.heap.size, 6, none⟩ = some (.int .i64 p) ∧ a.cell? ⟨w.heap.size + 1, 0, none⟩ = some (.int .i64 x.kind) ∧ a.cell? ⟨w.heap.size + 1, 1, none⟩ = some (.int .i64 x.op) ∧ a.cell? ⟨w.heap.size + 1, 2, none⟩ = some (.int .i64 x.num) ∧ a.cell? ⟨w.heap.size + 1, 3, none⟩ = some (.string x.str) ∧ a.cell? ⟨w.heap.size + 1, 4, none⟩ = some (.slice xa x.names.length xq) ∧ a.cell? ⟨w.heap.size + 1, 5, none⟩ = some (.slice xc x.kids.length xr) ∧ a.cell? ⟨w.heap.size + 1, 6, none⟩ = some (.int .i64 x.pl) ∧ a.cell? ⟨b, off + 7, none⟩ = some (.int .i64 y.kind) ∧ a.cell? ⟨b, off + 7 + 1, none⟩ = some (.int .i64 y.op) ∧ a.cell? ⟨b, off + 7 + 2, none⟩ = some (.int .i64 y.num) ∧ a.cell? ⟨b, off + 7 + 3, none⟩ = some (.string y.str) ∧ a.cell? ⟨b, off + 7 + 4, none⟩ = some (.slice ya y.names.length yq) ∧ a.cell? ⟨b, off + 7 + 5, none⟩ = some (.slice yc y.kids.length yr) ∧ a.cell? ⟨b, off + 7 + 6, none⟩ = some (.int .i64 y.pl))
    (first | assumption | exact kq_2 (by assumption) bb | exact kq_2 C0.out (Below.refl _ _).drew | exact kq_2 (by assumption) (Below.refl _ _).drew)
    (first
      | (go_at_call_of 52 x; refine (rrank_calls x.kind x.op x.num x.str xa x.names.length xq xc x.kids.length xr x.pl _ hr).mono ?_; rintro e wx ⟨rfl, bb⟩)
      | (go_at_call 52; refine (rrank_calls 14 o n s a1 ns.length q1 (some ⟨b, off, none⟩) 2 q2 p _ (fun h => absurd h (by decide))).mono ?_; rintro e wx ⟨he, bb⟩; rw [HRK.out] at he; subst he))
  all_goals
    rename_i hz
    have C1 := hid hz
    clear hz C0 c0 c1 c2 c3 c4 c5 c6
    obtain ⟨x0, x1, x2, x3, x4, x5, x6, y0, y1, y2, y3, y4, y5, y6, v10, v11, v12, v13, v14, v15, v16⟩ := C1.out.2
    go_wp2_with fail
    go_region_held3 (fun a => (Below w.heap.size w a ∧ B ≤ a.heap.size ∧ b < a.heap.size ∧ Box w.heap.size 14 o n s (.slice a1 ns.length q1) (.slice (some ⟨b, off, none⟩) 2 q2) p a ∧ Box (w.heap.size + 1) x.kind x.op x.num x.str (.slice xa x.names.length xq) (.slice xc x.kids.length xr) x.pl a ∧ NdIn B a x (.slice xa x.names.length xq) (.slice xc x.kids.length xr) ∧ NdIn B a y (.slice ya y.names.length yq) (.slice yc y.kids.length yr)) ∧ a.cell? ⟨w.heap.size, 0, none⟩ = some (.int .i64 14) ∧ a.cell? ⟨w.heap.size, 1, none⟩ = some (.int .i64 o) ∧ a.cell? ⟨w.heap.size, 2, none⟩ = some (.int .i64 n) ∧ a.cell? ⟨w.heap.size, 3, none⟩ = some (.string s) ∧ a.cell? ⟨w.heap.size, 4, none⟩ = some (.slice a1 ns.length q1) ∧ a.cell? ⟨w.heap.size, 5, none⟩ = some (.slice (some ⟨b, off, none⟩) 2 q2) ∧ a.cell? ⟨w.heap.size, 6, none⟩ = some (.int .i64 p) ∧ a.cell? ⟨w.heap.size + 1, 0, none⟩ = some (.int .i64 x.kind) ∧ a.cell? ⟨w.heap.size + 1, 1, none⟩ = some (.int .i64 x.op) ∧ a.cell? ⟨w.heap.size + 1, 2, none⟩ = some (.int .i64 x.num) ∧ a.cell? ⟨w.heap.size + 1, 3, none⟩ = some (.string x.str) ∧ a.cell? ⟨w.heap.size + 1, 4, none⟩ = some (.slice xa x.names.length xq) ∧ a.cell? ⟨w.heap.size + 1, 5, none⟩ = some (.slice xc x.kids.length xr) ∧ a.cell? ⟨w.heap.size + 1, 6, none⟩ = some (.int .i64 x.pl) ∧ a.cell? ⟨b, off + 7, none⟩ = some (.int .i64 y.kind) ∧ a.cell? ⟨b, off + 7 + 1, none⟩ = some (.int .i64 y.op) ∧ a.cell? ⟨b, off + 7 + 2, none⟩ = some (.int .i64 y.num) ∧ a.cell? ⟨b, off + 7 + 3, none⟩ = some (.string y.str) ∧ a.cell? ⟨b, off + 7 + 4, none⟩ = some (.slice ya y.names.length yq) ∧ a.cell? ⟨b, off + 7 + 5, none⟩ = some (.slice yc y.kids.length yr) ∧ a.cell? ⟨b, off + 7 + 6, none⟩ = some (.int .i64 y.pl))
      (first | assumption | exact kq_2 (by assumption) bb | exact kq_2 C1.out (Below.refl _ _).drew | exact kq_2 (by assumption) (Below.refl _ _).drew)
      (first
        | (go_at_call_of 53 y; refine (HE1.out B _ _ _ (kq_2_core (by assumption)).2.1 (hid (kq_2_core (by assumption)).2.2.2.2.2.2)).mono ?_; rintro e wx ⟨rfl, bb⟩)
        | (go_at_call 54; refine (rat_calls x HE0.out (decide (rankT x.kind x.op < 8)) HL0.out B _ _ _ (kq_2_core (by assumption)).2.1 (hid (kq_2_core (by assumption)).2.2.2.2.2.1)).mono ?_; rintro e wx ⟨rfl, bb⟩))
    all_goals
      rename_i hz
      have Z := hid hz.1.1
      clear hz
      go_wp2_with fail
      go_ret
      exact ⟨by rw [HT.out]; rfl, Z.out⟩

end Go.Proofs.YtlnllpehifkjhaaDoor
