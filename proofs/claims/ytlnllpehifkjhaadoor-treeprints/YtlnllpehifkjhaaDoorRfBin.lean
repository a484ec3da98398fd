/- Expressions as the document writes them: a sign between two. -/
import Derived.Test.YtlnllpehifkjhaaDoorRfStmt2
namespace Go.Proofs.YtlnllpehifkjhaaDoor
open Go.RowKit

set_option maxHeartbeats 3200000 in
set_option maxRecDepth 100000 in
theorem rexpr_10 (o n : Int) (s : ByteArray) (ns : List ByteArray) (x y : Nd) (p : Int) (hE0 : RExprAt x) (hl0 : (textN x).e.length ≤ 100000000) (hE1 : RExprAt y) (hl1 : (textN y).e.length ≤ 100000000) (hop : 1 ≤ o ∧ o ≤ 11) (r : Int) (hrk : rankT 10 o = r) (hry : y.kind = 10 → 1 ≤ y.op ∧ y.op ≤ 11) (hr : x.kind = 10 → 1 ≤ x.op ∧ x.op ≤ 11) (_hs : s.size ≤ 600) : RExprAt (.mk 10 o n s ns [x, y] p) := by
  intro B w nv kv hB h1
  obtain ⟨hs1, hk1⟩ := ndIn_mk.1 h1.out
  obtain ⟨a1, q1, rfl, _⟩ := strsIn_cases hs1
  obtain ⟨a2, q2, rfl, hkk⟩ := kidsIn_cases hk1
  obtain ⟨b, off, rfl, hbB, hat⟩ := hkk.resolve_left (by simp)
  obtain ⟨nv0, kv0, hnode0, hin0⟩ := ndsAt_get hat 0 (by simp)
  obtain ⟨nv1, kv1, hnode1, hin1⟩ := ndsAt_get hat 1 (by simp)
  simp only [List.getElem_cons_zero, List.getElem_cons_succ, Nat.zero_mul, Nat.add_zero, Nat.one_mul] at hnode0 hin0 hnode1 hin1
  simp only [Nd.kind, Nd.op, Nd.num, Nd.str, Nd.pl, List.length_cons, List.length_nil, Nat.zero_add, Nat.reduceAdd]
  obtain ⟨xa, xq, xc, xr, rfl, rfl⟩ := ndIn_shape hin0
  obtain ⟨ya, yq, yc, yr, rfl, rfl⟩ := ndIn_shape hin1
  obtain ⟨c0, c1, c2, c3, c4, c5, c6⟩ := hnode0
  have hal := box2_below w (.cells #[.int .i64 10, .int .i64 o, .int .i64 n, .string s, .slice a1 ns.length q1, .slice (some ⟨b, off, none⟩) 2 q2, .int .i64 p] 25) (.cells #[.int .i64 x.kind, .int .i64 x.op, .int .i64 x.num, .string x.str, .slice xa x.names.length xq, .slice xc x.kids.length xr, .int .i64 x.pl] 25)
  have hbx := boxes2 w 10 o n s (.slice a1 ns.length q1) (.slice (some ⟨b, off, none⟩) 2 q2) p x.kind x.op x.num x.str (.slice xa x.names.length xq) (.slice xc x.kids.length xr) x.pl
  have hbl : b < w.heap.size := by omega
  have D1 := nodeAt_on hnode1 hbB (hal.mono hB)
  have C0 := hid (kq_2_mk hal (by simp; omega) (by simp; omega) hbx.1 hbx.2 (ndIn_on (hal.mono hB) _ _ _ hin0) (ndIn_on (hal.mono hB) _ _ _ hin1) (D1.1) (D1.2.1) (D1.2.2.1) (D1.2.2.2.1) (D1.2.2.2.2.1) (D1.2.2.2.2.2.1) (D1.2.2.2.2.2.2))
  have HE0 := hid hE0
  have HL0 := hid hl0
  have HE1 := hid hE1
  have HL1 := hid hl1
  have hrm := brT_len (decide (rankT y.kind y.op ≤ r)) (textN y).e
  have hro := signT_len o
  have hrl := brT_len (decide (rankT x.kind x.op < r)) (textN x).e
  have HRK := hid (show rankT 10 o = r by exact hrk)
  have HT := hid (show (⟨(textN (.mk 10 o n s ns [x, y] p)).e.toArray⟩ : ByteArray) = ⟨(brT (decide (rankT x.kind x.op < r)) (textN x).e).toArray⟩ ++ ⟨#[32]⟩ ++ ⟨(signT o).toArray⟩ ++ ⟨#[32]⟩ ++ ⟨(brT (decide (rankT y.kind y.op ≤ r)) (textN y).e).toArray⟩ by
    rw [textN_mk]; apply ByteArray.ext; simp [exprT, at0, at1, betweenT, tight_in, textN_rank, hrk, Int.lt_add_one_iff])
  have f1 : ¬ (9223372036854775807 < (brT (decide (rankT x.kind x.op < r)) (textN x).e).length + 1) := by omega
  have f2 : ¬ (9223372036854775807 < (brT (decide (rankT x.kind x.op < r)) (textN x).e).length + 1 + (signT o).length) := by omega
  have f3 : ¬ (9223372036854775807 < (brT (decide (rankT x.kind x.op < r)) (textN x).e).length + 1 + (signT o).length + 1) := by omega
  have f4 : ¬ (9223372036854775807 < (brT (decide (rankT x.kind x.op < r)) (textN x).e).length + 1 + (signT o).length + 1 + (brT (decide (rankT y.kind y.op ≤ r)) (textN y).e).length) := by omega
  clear hrl hrm hro
  clear hal hbx hin0 hin1 hkk hat hs1 hk1 h1 hE0 hl0 hE1 hl1 hnode1 D1
  go_enter Tryd.func53, Tryd.ntmps53
  go_wp2_with fail
  go_region_held3 (fun a => (Below w.heap.size w a ∧ B ≤ a.heap.size ∧ b < a.heap.size ∧ Box w.heap.size 10 o n s (.slice a1 ns.length q1) (.slice (some ⟨b, off, none⟩) 2 q2) p a ∧ Box (w.heap.size + 1) x.kind x.op x.num x.str (.slice xa x.names.length xq) (.slice xc x.kids.length xr) x.pl a ∧ NdIn B a x (.slice xa x.names.length xq) (.slice xc x.kids.length xr) ∧ NdIn B a y (.slice ya y.names.length yq) (.slice yc y.kids.length yr)) ∧ a.cell? ⟨w.heap.size, 0, none⟩ = some (.int .i64 10) ∧ a.cell? ⟨w.heap.size, 1, none⟩ = some (.int .i64 o) ∧ a.cell? ⟨w.heap.size, 2, none⟩ = some (.int .i64 n) ∧ a.cell? ⟨w.heap.size, 3, none⟩ = some (.string s) ∧ a.cell? ⟨w.heap.size, 4, none⟩ = some (.slice a1 ns.length q1) ∧ a.cell? ⟨w.heap.size, 5, none⟩ = some (.slice (some ⟨b, off, none⟩) 2 q2) ∧ a.cell? ⟨w.heap.size, 6, none⟩ = some (.int .i64 p) ∧ a.cell? ⟨w.heap.size + 1, 0, none⟩ = some (.int .i64 x.kind) ∧ a.cell? ⟨w.heap.size + 1, 1, none⟩ = some (.int .i64 x.op) ∧ a.cell? ⟨w.heap.size + 1, 2, none⟩ = some (.int .i64 x.num) ∧ a.cell? ⟨w.heap.size + 1, 3, none⟩ = some (.string x.str) ∧ a.cell? ⟨w.heap.size + 1, 4, none⟩ = some (.slice xa x.names.length xq) ∧ a.cell? ⟨w.heap.size + 1, 5, none⟩ = some (.slice xc x.kids.length xr) ∧ a.cell? ⟨w.heap.size + 1, 6, none⟩ = some (.int .i64 x.pl) ∧ a.cell? ⟨b, off + 7, none⟩ = some (.int .i64 y.kind) ∧ a.cell? ⟨b, off + 7 + 1, none⟩ = some (.int .i64 y.op) ∧ a.cell? ⟨b, off + 7 + 2, none⟩ = some (.int .i64 y.num) ∧ a.cell? ⟨b, off + 7 + 3, none⟩ = some (.string y.str) ∧ a.cell? ⟨b, off + 7 + 4, none⟩ = some (.slice ya y.names.length yq) ∧ a.cell? ⟨b, off + 7 + 5, none⟩ = some (.slice yc y.kids.length yr) ∧ a.cell? ⟨b, off + 7 + 6, none⟩ = some (.int .i64 y.pl))
    (first | assumption | exact kq_2 (by assumption) bb | exact kq_2 C0.out (Below.refl _ _).drew | exact kq_2 (by assumption) (Below.refl _ _).drew)
    (first
      | (go_at_call_of 52 x; refine (rrank_calls x.kind x.op x.num x.str xa x.names.length xq xc x.kids.length xr x.pl _ hr).mono ?_; rintro e wx ⟨rfl, bb⟩)
      | (go_at_call 52; refine (rrank_calls 10 o n s a1 ns.length q1 (some ⟨b, off, none⟩) 2 q2 p _ (fun _ => hop)).mono ?_; rintro e wx ⟨he, bb⟩; rw [HRK.out] at he; subst he))
  all_goals
    rename_i hz
    have C1 := hid hz
    clear hz C0 c0 c1 c2 c3 c4 c5 c6
    obtain ⟨x0, x1, x2, x3, x4, x5, x6, y0, y1, y2, y3, y4, y5, y6, v10, v11, v12, v13, v14, v15, v16⟩ := C1.out.2
    go_wp2_with fail
    refine (rsign_calls o _).mono ?_
    rintro e w2 ⟨rfl, b2⟩
    have C2 := hid (kq_2 C1.out b2)
    clear b2 C1 x0 x1 x2 x3 x4 x5 x6 y0 y1 y2 y3 y4 y5 y6 v10 v11 v12 v13 v14 v15 v16
    obtain ⟨x0, x1, x2, x3, x4, x5, x6, y0, y1, y2, y3, y4, y5, y6, v10, v11, v12, v13, v14, v15, v16⟩ := C2.out.2
    go_wp2_with fail
    go_region_held3 (fun a => (Below w.heap.size w a ∧ B ≤ a.heap.size ∧ b < a.heap.size ∧ Box w.heap.size 10 o n s (.slice a1 ns.length q1) (.slice (some ⟨b, off, none⟩) 2 q2) p a ∧ Box (w.heap.size + 1) x.kind x.op x.num x.str (.slice xa x.names.length xq) (.slice xc x.kids.length xr) x.pl a ∧ NdIn B a x (.slice xa x.names.length xq) (.slice xc x.kids.length xr) ∧ NdIn B a y (.slice ya y.names.length yq) (.slice yc y.kids.length yr)) ∧ a.cell? ⟨w.heap.size, 0, none⟩ = some (.int .i64 10) ∧ a.cell? ⟨w.heap.size, 1, none⟩ = some (.int .i64 o) ∧ a.cell? ⟨w.heap.size, 2, none⟩ = some (.int .i64 n) ∧ a.cell? ⟨w.heap.size, 3, none⟩ = some (.string s) ∧ a.cell? ⟨w.heap.size, 4, none⟩ = some (.slice a1 ns.length q1) ∧ a.cell? ⟨w.heap.size, 5, none⟩ = some (.slice (some ⟨b, off, none⟩) 2 q2) ∧ a.cell? ⟨w.heap.size, 6, none⟩ = some (.int .i64 p) ∧ a.cell? ⟨w.heap.size + 1, 0, none⟩ = some (.int .i64 x.kind) ∧ a.cell? ⟨w.heap.size + 1, 1, none⟩ = some (.int .i64 x.op) ∧ a.cell? ⟨w.heap.size + 1, 2, none⟩ = some (.int .i64 x.num) ∧ a.cell? ⟨w.heap.size + 1, 3, none⟩ = some (.string x.str) ∧ a.cell? ⟨w.heap.size + 1, 4, none⟩ = some (.slice xa x.names.length xq) ∧ a.cell? ⟨w.heap.size + 1, 5, none⟩ = some (.slice xc x.kids.length xr) ∧ a.cell? ⟨w.heap.size + 1, 6, none⟩ = some (.int .i64 x.pl) ∧ a.cell? ⟨b, off + 7, none⟩ = some (.int .i64 y.kind) ∧ a.cell? ⟨b, off + 7 + 1, none⟩ = some (.int .i64 y.op) ∧ a.cell? ⟨b, off + 7 + 2, none⟩ = some (.int .i64 y.num) ∧ a.cell? ⟨b, off + 7 + 3, none⟩ = some (.string y.str) ∧ a.cell? ⟨b, off + 7 + 4, none⟩ = some (.slice ya y.names.length yq) ∧ a.cell? ⟨b, off + 7 + 5, none⟩ = some (.slice yc y.kids.length yr) ∧ a.cell? ⟨b, off + 7 + 6, none⟩ = some (.int .i64 y.pl))
      (first | assumption | exact kq_2 (by assumption) bb | exact kq_2 C2.out (Below.refl _ _).drew | exact kq_2 (by assumption) (Below.refl _ _).drew)
      (first
        | (go_at_call_of 54 x; refine (rat_calls x HE0.out (decide (rankT x.kind x.op < r)) HL0.out B _ _ _ (kq_2_core (by assumption)).2.1 (hid (kq_2_core (by assumption)).2.2.2.2.2.1)).mono ?_; rintro e wx ⟨rfl, bb⟩)
        | (go_at_call_of 54 y; refine (rat_calls y HE1.out (decide (rankT y.kind y.op ≤ r)) HL1.out B _ _ _ (kq_2_core (by assumption)).2.1 (hid (kq_2_core (by assumption)).2.2.2.2.2.2)).mono ?_; rintro e wx ⟨rfl, bb⟩)
        | (go_at_call_of 52 y; refine (rrank_calls y.kind y.op y.num y.str ya y.names.length yq yc y.kids.length yr y.pl _ hry).mono ?_; rintro e wx ⟨rfl, bb⟩)
        | (go_at_call 52; refine (rrank_calls 10 o n s a1 ns.length q1 (some ⟨b, off, none⟩) 2 q2 p _ (fun _ => hop)).mono ?_; rintro e wx ⟨he, bb⟩; rw [HRK.out] at he; subst he))
    all_goals
      rename_i hz
      have Z := hid hz.1.1
      clear hz
      go_wp2_with fail
      go_ret
      exact ⟨by rw [HT.out]; rfl, Z.out⟩

set_option maxHeartbeats 3200000 in
set_option maxRecDepth 100000 in
theorem rexpr_11 (o n : Int) (s : ByteArray) (ns : List ByteArray) (x y : Nd) (p : Int) (hE0 : RExprAt x) (hl0 : (textN x).e.length ≤ 100000000) (hE1 : RExprAt y) (hl1 : (textN y).e.length ≤ 100000000) (hry : y.kind = 10 → 1 ≤ y.op ∧ y.op ≤ 11) (hr : x.kind = 10 → 1 ≤ x.op ∧ x.op ≤ 11) (_hs : s.size ≤ 600) : RExprAt (.mk 11 o n s ns [x, y] p) := by
  intro B w nv kv hB h1
  obtain ⟨hs1, hk1⟩ := ndIn_mk.1 h1.out
  obtain ⟨a1, q1, rfl, _⟩ := strsIn_cases hs1
  obtain ⟨a2, q2, rfl, hkk⟩ := kidsIn_cases hk1
  obtain ⟨b, off, rfl, hbB, hat⟩ := hkk.resolve_left (by simp)
  obtain ⟨nv0, kv0, hnode0, hin0⟩ := ndsAt_get hat 0 (by simp)
  obtain ⟨nv1, kv1, hnode1, hin1⟩ := ndsAt_get hat 1 (by simp)
  simp only [List.getElem_cons_zero, List.getElem_cons_succ, Nat.zero_mul, Nat.add_zero, Nat.one_mul] at hnode0 hin0 hnode1 hin1
  simp only [Nd.kind, Nd.op, Nd.num, Nd.str, Nd.pl, List.length_cons, List.length_nil, Nat.zero_add, Nat.reduceAdd]
  obtain ⟨xa, xq, xc, xr, rfl, rfl⟩ := ndIn_shape hin0
  obtain ⟨ya, yq, yc, yr, rfl, rfl⟩ := ndIn_shape hin1
  obtain ⟨c0, c1, c2, c3, c4, c5, c6⟩ := hnode0
  have hal := box2_below w (.cells #[.int .i64 11, .int .i64 o, .int .i64 n, .string s, .slice a1 ns.length q1, .slice (some ⟨b, off, none⟩) 2 q2, .int .i64 p] 25) (.cells #[.int .i64 x.kind, .int .i64 x.op, .int .i64 x.num, .string x.str, .slice xa x.names.length xq, .slice xc x.kids.length xr, .int .i64 x.pl] 25)
  have hbx := boxes2 w 11 o n s (.slice a1 ns.length q1) (.slice (some ⟨b, off, none⟩) 2 q2) p x.kind x.op x.num x.str (.slice xa x.names.length xq) (.slice xc x.kids.length xr) x.pl
  have hbl : b < w.heap.size := by omega
  have D1 := nodeAt_on hnode1 hbB (hal.mono hB)
  have C0 := hid (kq_2_mk hal (by simp; omega) (by simp; omega) hbx.1 hbx.2 (ndIn_on (hal.mono hB) _ _ _ hin0) (ndIn_on (hal.mono hB) _ _ _ hin1) (D1.1) (D1.2.1) (D1.2.2.1) (D1.2.2.2.1) (D1.2.2.2.2.1) (D1.2.2.2.2.2.1) (D1.2.2.2.2.2.2))
  have HE0 := hid hE0
  have HL0 := hid hl0
  have HE1 := hid hE1
  have HL1 := hid hl1
  have hrm := brT_len (decide (rankT y.kind y.op ≤ 2)) (textN y).e
  have hrl := brT_len (decide (rankT x.kind x.op < 2)) (textN x).e
  have HRK := hid (show rankT 11 o = 2 by simp [rankT])
  have HT := hid (show (⟨(textN (.mk 11 o n s ns [x, y] p)).e.toArray⟩ : ByteArray) = ⟨(brT (decide (rankT x.kind x.op < 2)) (textN x).e).toArray⟩ ++ ⟨#[32]⟩ ++ ⟨#[38, 38]⟩ ++ ⟨#[32]⟩ ++ ⟨(brT (decide (rankT y.kind y.op ≤ 2)) (textN y).e).toArray⟩ by
    have hq : decide (rankT y.kind y.op < 3) = decide (rankT y.kind y.op ≤ 2) := by rw [decide_eq_decide]; omega
    rw [textN_mk]; apply ByteArray.ext; simp [exprT, at0, at1, betweenT, tight_in, textN_rank, hq])
  have f1 : ¬ (9223372036854775807 < (brT (decide (rankT x.kind x.op < 2)) (textN x).e).length + 1) := by omega
  have f2 : ¬ (9223372036854775807 < (brT (decide (rankT x.kind x.op < 2)) (textN x).e).length + 1 + 2) := by omega
  have f3 : ¬ (9223372036854775807 < (brT (decide (rankT x.kind x.op < 2)) (textN x).e).length + 1 + 2 + 1) := by omega
  have f4 : ¬ (9223372036854775807 < (brT (decide (rankT x.kind x.op < 2)) (textN x).e).length + 1 + 2 + 1 + (brT (decide (rankT y.kind y.op ≤ 2)) (textN y).e).length) := by omega
  clear hrl hrm
  clear hal hbx hin0 hin1 hkk hat hs1 hk1 h1 hE0 hl0 hE1 hl1 hnode1 D1
  go_enter Tryd.func53, Tryd.ntmps53
  go_wp2_with fail
  go_region_held3 (fun a => (Below w.heap.size w a ∧ B ≤ a.heap.size ∧ b < a.heap.size ∧ Box w.heap.size 11 o n s (.slice a1 ns.length q1) (.slice (some ⟨b, off, none⟩) 2 q2) p a ∧ Box (w.heap.size + 1) x.kind x.op x.num x.str (.slice xa x.names.length xq) (.slice xc x.kids.length xr) x.pl a ∧ NdIn B a x (.slice xa x.names.length xq) (.slice xc x.kids.length xr) ∧ NdIn B a y (.slice ya y.names.length yq) (.slice yc y.kids.length yr)) ∧ a.cell? ⟨w.heap.size, 0, none⟩ = some (.int .i64 11) ∧ a.cell? ⟨w.heap.size, 1, none⟩ = some (.int .i64 o) ∧ a.cell? ⟨w.heap.size, 2, none⟩ = some (.int .i64 n) ∧ a.cell? ⟨w.heap.size, 3, none⟩ = some (.string s) ∧ a.cell? ⟨w.heap.size, 4, none⟩ = some (.slice a1 ns.length q1) ∧ a.cell? ⟨w.heap.size, 5, none⟩ = some (.slice (some ⟨b, off, none⟩) 2 q2) ∧ a.cell? ⟨w.heap.size, 6, none⟩ = some (.int .i64 p) ∧ a.cell? ⟨w.heap.size + 1, 0, none⟩ = some (.int .i64 x.kind) ∧ a.cell? ⟨w.heap.size + 1, 1, none⟩ = some (.int .i64 x.op) ∧ a.cell? ⟨w.heap.size + 1, 2, none⟩ = some (.int .i64 x.num) ∧ a.cell? ⟨w.heap.size + 1, 3, none⟩ = some (.string x.str) ∧ a.cell? ⟨w.heap.size + 1, 4, none⟩ = some (.slice xa x.names.length xq) ∧ a.cell? ⟨w.heap.size + 1, 5, none⟩ = some (.slice xc x.kids.length xr) ∧ a.cell? ⟨w.heap.size + 1, 6, none⟩ = some (.int .i64 x.pl) ∧ a.cell? ⟨b, off + 7, none⟩ = some (.int .i64 y.kind) ∧ a.cell? ⟨b, off + 7 + 1, none⟩ = some (.int .i64 y.op) ∧ a.cell? ⟨b, off + 7 + 2, none⟩ = some (.int .i64 y.num) ∧ a.cell? ⟨b, off + 7 + 3, none⟩ = some (.string y.str) ∧ a.cell? ⟨b, off + 7 + 4, none⟩ = some (.slice ya y.names.length yq) ∧ a.cell? ⟨b, off + 7 + 5, none⟩ = some (.slice yc y.kids.length yr) ∧ a.cell? ⟨b, off + 7 + 6, none⟩ = some (.int .i64 y.pl))
    (first | assumption | exact kq_2 (by assumption) bb | exact kq_2 C0.out (Below.refl _ _).drew | exact kq_2 (by assumption) (Below.refl _ _).drew)
    (first
      | (go_at_call_of 52 x; refine (rrank_calls x.kind x.op x.num x.str xa x.names.length xq xc x.kids.length xr x.pl _ hr).mono ?_; rintro e wx ⟨rfl, bb⟩)
      | (go_at_call 52; refine (rrank_calls 11 o n s a1 ns.length q1 (some ⟨b, off, none⟩) 2 q2 p _ (fun h => absurd h (by decide))).mono ?_; rintro e wx ⟨he, bb⟩; rw [HRK.out] at he; subst he))
  all_goals
    rename_i hz
    have C1 := hid hz
    clear hz C0 c0 c1 c2 c3 c4 c5 c6
    obtain ⟨x0, x1, x2, x3, x4, x5, x6, y0, y1, y2, y3, y4, y5, y6, v10, v11, v12, v13, v14, v15, v16⟩ := C1.out.2
    go_wp2_with fail
    refine (rsign_calls o _).mono ?_
    rintro e w2 ⟨rfl, b2⟩
    have C2 := hid (kq_2 C1.out b2)
    clear b2 C1 x0 x1 x2 x3 x4 x5 x6 y0 y1 y2 y3 y4 y5 y6 v10 v11 v12 v13 v14 v15 v16
    obtain ⟨x0, x1, x2, x3, x4, x5, x6, y0, y1, y2, y3, y4, y5, y6, v10, v11, v12, v13, v14, v15, v16⟩ := C2.out.2
    go_wp2_with fail
    go_region_held3 (fun a => (Below w.heap.size w a ∧ B ≤ a.heap.size ∧ b < a.heap.size ∧ Box w.heap.size 11 o n s (.slice a1 ns.length q1) (.slice (some ⟨b, off, none⟩) 2 q2) p a ∧ Box (w.heap.size + 1) x.kind x.op x.num x.str (.slice xa x.names.length xq) (.slice xc x.kids.length xr) x.pl a ∧ NdIn B a x (.slice xa x.names.length xq) (.slice xc x.kids.length xr) ∧ NdIn B a y (.slice ya y.names.length yq) (.slice yc y.kids.length yr)) ∧ a.cell? ⟨w.heap.size, 0, none⟩ = some (.int .i64 11) ∧ a.cell? ⟨w.heap.size, 1, none⟩ = some (.int .i64 o) ∧ a.cell? ⟨w.heap.size, 2, none⟩ = some (.int .i64 n) ∧ a.cell? ⟨w.heap.size, 3, none⟩ = some (.string s) ∧ a.cell? ⟨w.heap.size, 4, none⟩ = some (.slice a1 ns.length q1) ∧ a.cell? ⟨w.heap.size, 5, none⟩ = some (.slice (some ⟨b, off, none⟩) 2 q2) ∧ a.cell? ⟨w.heap.size, 6, none⟩ = some (.int .i64 p) ∧ a.cell? ⟨w.heap.size + 1, 0, none⟩ = some (.int .i64 x.kind) ∧ a.cell? ⟨w.heap.size + 1, 1, none⟩ = some (.int .i64 x.op) ∧ a.cell? ⟨w.heap.size + 1, 2, none⟩ = some (.int .i64 x.num) ∧ a.cell? ⟨w.heap.size + 1, 3, none⟩ = some (.string x.str) ∧ a.cell? ⟨w.heap.size + 1, 4, none⟩ = some (.slice xa x.names.length xq) ∧ a.cell? ⟨w.heap.size + 1, 5, none⟩ = some (.slice xc x.kids.length xr) ∧ a.cell? ⟨w.heap.size + 1, 6, none⟩ = some (.int .i64 x.pl) ∧ a.cell? ⟨b, off + 7, none⟩ = some (.int .i64 y.kind) ∧ a.cell? ⟨b, off + 7 + 1, none⟩ = some (.int .i64 y.op) ∧ a.cell? ⟨b, off + 7 + 2, none⟩ = some (.int .i64 y.num) ∧ a.cell? ⟨b, off + 7 + 3, none⟩ = some (.string y.str) ∧ a.cell? ⟨b, off + 7 + 4, none⟩ = some (.slice ya y.names.length yq) ∧ a.cell? ⟨b, off + 7 + 5, none⟩ = some (.slice yc y.kids.length yr) ∧ a.cell? ⟨b, off + 7 + 6, none⟩ = some (.int .i64 y.pl))
      (first | assumption | exact kq_2 (by assumption) bb | exact kq_2 C2.out (Below.refl _ _).drew | exact kq_2 (by assumption) (Below.refl _ _).drew)
      (first
        | (go_at_call_of 54 x; refine (rat_calls x HE0.out (decide (rankT x.kind x.op < 2)) HL0.out B _ _ _ (kq_2_core (by assumption)).2.1 (hid (kq_2_core (by assumption)).2.2.2.2.2.1)).mono ?_; rintro e wx ⟨rfl, bb⟩)
        | (go_at_call_of 54 y; refine (rat_calls y HE1.out (decide (rankT y.kind y.op ≤ 2)) HL1.out B _ _ _ (kq_2_core (by assumption)).2.1 (hid (kq_2_core (by assumption)).2.2.2.2.2.2)).mono ?_; rintro e wx ⟨rfl, bb⟩)
        | (go_at_call_of 52 y; refine (rrank_calls y.kind y.op y.num y.str ya y.names.length yq yc y.kids.length yr y.pl _ hry).mono ?_; rintro e wx ⟨rfl, bb⟩)
        | (go_at_call 52; refine (rrank_calls 11 o n s a1 ns.length q1 (some ⟨b, off, none⟩) 2 q2 p _ (fun h => absurd h (by decide))).mono ?_; rintro e wx ⟨he, bb⟩; rw [HRK.out] at he; subst he))
    all_goals
      rename_i hz
      have Z := hid hz.1.1
      clear hz
      go_wp2_with fail
      go_ret
      exact ⟨by rw [HT.out]; rfl, Z.out⟩

set_option maxHeartbeats 3200000 in
set_option maxRecDepth 100000 in
theorem rexpr_12 (o n : Int) (s : ByteArray) (ns : List ByteArray) (x y : Nd) (p : Int) (hE0 : RExprAt x) (hl0 : (textN x).e.length ≤ 100000000) (hE1 : RExprAt y) (hl1 : (textN y).e.length ≤ 100000000) (hry : y.kind = 10 → 1 ≤ y.op ∧ y.op ≤ 11) (hr : x.kind = 10 → 1 ≤ x.op ∧ x.op ≤ 11) (_hs : s.size ≤ 600) : RExprAt (.mk 12 o n s ns [x, y] p) := by
  intro B w nv kv hB h1
  obtain ⟨hs1, hk1⟩ := ndIn_mk.1 h1.out
  obtain ⟨a1, q1, rfl, _⟩ := strsIn_cases hs1
  obtain ⟨a2, q2, rfl, hkk⟩ := kidsIn_cases hk1
  obtain ⟨b, off, rfl, hbB, hat⟩ := hkk.resolve_left (by simp)
  obtain ⟨nv0, kv0, hnode0, hin0⟩ := ndsAt_get hat 0 (by simp)
  obtain ⟨nv1, kv1, hnode1, hin1⟩ := ndsAt_get hat 1 (by simp)
  simp only [List.getElem_cons_zero, List.getElem_cons_succ, Nat.zero_mul, Nat.add_zero, Nat.one_mul] at hnode0 hin0 hnode1 hin1
  simp only [Nd.kind, Nd.op, Nd.num, Nd.str, Nd.pl, List.length_cons, List.length_nil, Nat.zero_add, Nat.reduceAdd]
  obtain ⟨xa, xq, xc, xr, rfl, rfl⟩ := ndIn_shape hin0
  obtain ⟨ya, yq, yc, yr, rfl, rfl⟩ := ndIn_shape hin1
  obtain ⟨c0, c1, c2, c3, c4, c5, c6⟩ := hnode0
  have hal := box2_below w (.cells #[.int .i64 12, .int .i64 o, .int .i64 n, .string s, .slice a1 ns.length q1, .slice (some ⟨b, off, none⟩) 2 q2, .int .i64 p] 25) (.cells #[.int .i64 x.kind, .int .i64 x.op, .int .i64 x.num, .string x.str, .slice xa x.names.length xq, .slice xc x.kids.length xr, .int .i64 x.pl] 25)
  have hbx := boxes2 w 12 o n s (.slice a1 ns.length q1) (.slice (some ⟨b, off, none⟩) 2 q2) p x.kind x.op x.num x.str (.slice xa x.names.length xq) (.slice xc x.kids.length xr) x.pl
  have hbl : b < w.heap.size := by omega
  have D1 := nodeAt_on hnode1 hbB (hal.mono hB)
  have C0 := hid (kq_2_mk hal (by simp; omega) (by simp; omega) hbx.1 hbx.2 (ndIn_on (hal.mono hB) _ _ _ hin0) (ndIn_on (hal.mono hB) _ _ _ hin1) (D1.1) (D1.2.1) (D1.2.2.1) (D1.2.2.2.1) (D1.2.2.2.2.1) (D1.2.2.2.2.2.1) (D1.2.2.2.2.2.2))
  have HE0 := hid hE0
  have HL0 := hid hl0
  have HE1 := hid hE1
  have HL1 := hid hl1
  have hrm := brT_len (decide (rankT y.kind y.op ≤ 1)) (textN y).e
  have hrl := brT_len (decide (rankT x.kind x.op < 1)) (textN x).e
  have HRK := hid (show rankT 12 o = 1 by simp [rankT])
  have HT := hid (show (⟨(textN (.mk 12 o n s ns [x, y] p)).e.toArray⟩ : ByteArray) = ⟨(brT (decide (rankT x.kind x.op < 1)) (textN x).e).toArray⟩ ++ ⟨#[32]⟩ ++ ⟨#[124, 124]⟩ ++ ⟨#[32]⟩ ++ ⟨(brT (decide (rankT y.kind y.op ≤ 1)) (textN y).e).toArray⟩ by
    have hq : decide (rankT y.kind y.op < 2) = decide (rankT y.kind y.op ≤ 1) := by rw [decide_eq_decide]; omega
    rw [textN_mk]; apply ByteArray.ext; simp [exprT, at0, at1, betweenT, tight_in, textN_rank, hq])
  have f1 : ¬ (9223372036854775807 < (brT (decide (rankT x.kind x.op < 1)) (textN x).e).length + 1) := by omega
  have f2 : ¬ (9223372036854775807 < (brT (decide (rankT x.kind x.op < 1)) (textN x).e).length + 1 + 2) := by omega
  have f3 : ¬ (9223372036854775807 < (brT (decide (rankT x.kind x.op < 1)) (textN x).e).length + 1 + 2 + 1) := by omega
  have f4 : ¬ (9223372036854775807 < (brT (decide (rankT x.kind x.op < 1)) (textN x).e).length + 1 + 2 + 1 + (brT (decide (rankT y.kind y.op ≤ 1)) (textN y).e).length) := by omega
  clear hrl hrm
  clear hal hbx hin0 hin1 hkk hat hs1 hk1 h1 hE0 hl0 hE1 hl1 hnode1 D1
  go_enter Tryd.func53, Tryd.ntmps53
  go_wp2_with fail
  go_region_held3 (fun a => (Below w.heap.size w a ∧ B ≤ a.heap.size ∧ b < a.heap.size ∧ Box w.heap.size 12 o n s (.slice a1 ns.length q1) (.slice (some ⟨b, off, none⟩) 2 q2) p a ∧ Box (w.heap.size + 1) x.kind x.op x.num x.str (.slice xa x.names.length xq) (.slice xc x.kids.length xr) x.pl a ∧ NdIn B a x (.slice xa x.names.length xq) (.slice xc x.kids.length xr) ∧ NdIn B a y (.slice ya y.names.length yq) (.slice yc y.kids.length yr)) ∧ a.cell? ⟨w.heap.size, 0, none⟩ = some (.int .i64 12) ∧ a.cell? ⟨w.heap.size, 1, none⟩ = some (.int .i64 o) ∧ a.cell? ⟨w.heap.size, 2, none⟩ = some (.int .i64 n) ∧ a.cell? ⟨w.heap.size, 3, none⟩ = some (.string s) ∧ a.cell? ⟨w.heap.size, 4, none⟩ = some (.slice a1 ns.length q1) ∧ a.cell? ⟨w.heap.size, 5, none⟩ = some (.slice (some ⟨b, off, none⟩) 2 q2) ∧ a.cell? ⟨w.heap.size, 6, none⟩ = some (.int .i64 p) ∧ a.cell? ⟨w.heap.size + 1, 0, none⟩ = some (.int .i64 x.kind) ∧ a.cell? ⟨w.heap.size + 1, 1, none⟩ = some (.int .i64 x.op) ∧ a.cell? ⟨w.heap.size + 1, 2, none⟩ = some (.int .i64 x.num) ∧ a.cell? ⟨w.heap.size + 1, 3, none⟩ = some (.string x.str) ∧ a.cell? ⟨w.heap.size + 1, 4, none⟩ = some (.slice xa x.names.length xq) ∧ a.cell? ⟨w.heap.size + 1, 5, none⟩ = some (.slice xc x.kids.length xr) ∧ a.cell? ⟨w.heap.size + 1, 6, none⟩ = some (.int .i64 x.pl) ∧ a.cell? ⟨b, off + 7, none⟩ = some (.int .i64 y.kind) ∧ a.cell? ⟨b, off + 7 + 1, none⟩ = some (.int .i64 y.op) ∧ a.cell? ⟨b, off + 7 + 2, none⟩ = some (.int .i64 y.num) ∧ a.cell? ⟨b, off + 7 + 3, none⟩ = some (.string y.str) ∧ a.cell? ⟨b, off + 7 + 4, none⟩ = some (.slice ya y.names.length yq) ∧ a.cell? ⟨b, off + 7 + 5, none⟩ = some (.slice yc y.kids.length yr) ∧ a.cell? ⟨b, off + 7 + 6, none⟩ = some (.int .i64 y.pl))
    (first | assumption | exact kq_2 (by assumption) bb | exact kq_2 C0.out (Below.refl _ _).drew | exact kq_2 (by assumption) (Below.refl _ _).drew)
    (first
      | (go_at_call_of 52 x; refine (rrank_calls x.kind x.op x.num x.str xa x.names.length xq xc x.kids.length xr x.pl _ hr).mono ?_; rintro e wx ⟨rfl, bb⟩)
      | (go_at_call 52; refine (rrank_calls 12 o n s a1 ns.length q1 (some ⟨b, off, none⟩) 2 q2 p _ (fun h => absurd h (by decide))).mono ?_; rintro e wx ⟨he, bb⟩; rw [HRK.out] at he; subst he))
  all_goals
    rename_i hz
    have C1 := hid hz
    clear hz C0 c0 c1 c2 c3 c4 c5 c6
    obtain ⟨x0, x1, x2, x3, x4, x5, x6, y0, y1, y2, y3, y4, y5, y6, v10, v11, v12, v13, v14, v15, v16⟩ := C1.out.2
    go_wp2_with fail
    refine (rsign_calls o _).mono ?_
    rintro e w2 ⟨rfl, b2⟩
    have C2 := hid (kq_2 C1.out b2)
    clear b2 C1 x0 x1 x2 x3 x4 x5 x6 y0 y1 y2 y3 y4 y5 y6 v10 v11 v12 v13 v14 v15 v16
    obtain ⟨x0, x1, x2, x3, x4, x5, x6, y0, y1, y2, y3, y4, y5, y6, v10, v11, v12, v13, v14, v15, v16⟩ := C2.out.2
    go_wp2_with fail
    go_region_held3 (fun a => (Below w.heap.size w a ∧ B ≤ a.heap.size ∧ b < a.heap.size ∧ Box w.heap.size 12 o n s (.slice a1 ns.length q1) (.slice (some ⟨b, off, none⟩) 2 q2) p a ∧ Box (w.heap.size + 1) x.kind x.op x.num x.str (.slice xa x.names.length xq) (.slice xc x.kids.length xr) x.pl a ∧ NdIn B a x (.slice xa x.names.length xq) (.slice xc x.kids.length xr) ∧ NdIn B a y (.slice ya y.names.length yq) (.slice yc y.kids.length yr)) ∧ a.cell? ⟨w.heap.size, 0, none⟩ = some (.int .i64 12) ∧ a.cell? ⟨w.heap.size, 1, none⟩ = some (.int .i64 o) ∧ a.cell? ⟨w.heap.size, 2, none⟩ = some (.int .i64 n) ∧ a.cell? ⟨w.heap.size, 3, none⟩ = some (.string s) ∧ a.cell? ⟨w.heap.size, 4, none⟩ = some (.slice a1 ns.length q1) ∧ a.cell? ⟨w.heap.size, 5, none⟩ = some (.slice (some ⟨b, off, none⟩) 2 q2) ∧ a.cell? ⟨w.heap.size, 6, none⟩ = some (.int .i64 p) ∧ a.cell? ⟨w.heap.size + 1, 0, none⟩ = some (.int .i64 x.kind) ∧ a.cell? ⟨w.heap.size + 1, 1, none⟩ = some (.int .i64 x.op) ∧ a.cell? ⟨w.heap.size + 1, 2, none⟩ = some (.int .i64 x.num) ∧ a.cell? ⟨w.heap.size + 1, 3, none⟩ = some (.string x.str) ∧ a.cell? ⟨w.heap.size + 1, 4, none⟩ = some (.slice xa x.names.length xq) ∧ a.cell? ⟨w.heap.size + 1, 5, none⟩ = some (.slice xc x.kids.length xr) ∧ a.cell? ⟨w.heap.size + 1, 6, none⟩ = some (.int .i64 x.pl) ∧ a.cell? ⟨b, off + 7, none⟩ = some (.int .i64 y.kind) ∧ a.cell? ⟨b, off + 7 + 1, none⟩ = some (.int .i64 y.op) ∧ a.cell? ⟨b, off + 7 + 2, none⟩ = some (.int .i64 y.num) ∧ a.cell? ⟨b, off + 7 + 3, none⟩ = some (.string y.str) ∧ a.cell? ⟨b, off + 7 + 4, none⟩ = some (.slice ya y.names.length yq) ∧ a.cell? ⟨b, off + 7 + 5, none⟩ = some (.slice yc y.kids.length yr) ∧ a.cell? ⟨b, off + 7 + 6, none⟩ = some (.int .i64 y.pl))
      (first | assumption | exact kq_2 (by assumption) bb | exact kq_2 C2.out (Below.refl _ _).drew | exact kq_2 (by assumption) (Below.refl _ _).drew)
      (first
        | (go_at_call_of 54 x; refine (rat_calls x HE0.out (decide (rankT x.kind x.op < 1)) HL0.out B _ _ _ (kq_2_core (by assumption)).2.1 (hid (kq_2_core (by assumption)).2.2.2.2.2.1)).mono ?_; rintro e wx ⟨rfl, bb⟩)
        | (go_at_call_of 54 y; refine (rat_calls y HE1.out (decide (rankT y.kind y.op ≤ 1)) HL1.out B _ _ _ (kq_2_core (by assumption)).2.1 (hid (kq_2_core (by assumption)).2.2.2.2.2.2)).mono ?_; rintro e wx ⟨rfl, bb⟩)
        | (go_at_call_of 52 y; refine (rrank_calls y.kind y.op y.num y.str ya y.names.length yq yc y.kids.length yr y.pl _ hry).mono ?_; rintro e wx ⟨rfl, bb⟩)
        | (go_at_call 52; refine (rrank_calls 12 o n s a1 ns.length q1 (some ⟨b, off, none⟩) 2 q2 p _ (fun h => absurd h (by decide))).mono ?_; rintro e wx ⟨he, bb⟩; rw [HRK.out] at he; subst he))
    all_goals
      rename_i hz
      have Z := hid hz.1.1
      clear hz
      go_wp2_with fail
      go_ret
      exact ⟨by rw [HT.out]; rfl, Z.out⟩

end Go.Proofs.YtlnllpehifkjhaaDoor
