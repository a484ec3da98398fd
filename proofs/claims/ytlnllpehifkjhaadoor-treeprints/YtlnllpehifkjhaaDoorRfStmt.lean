/- Statements as the document writes them: those with one part. -/
import Derived.Test.YtlnllpehifkjhaaDoorRfText
import Derived.Deep.RegionHeld3
namespace Go.Proofs.YtlnllpehifkjhaaDoor
open Go.RowKit

theorem kp_1 {w a c : World} {B g0 g1 : Nat} {k0 o0 n0 : Int} {s0 : ByteArray} {nv0 kv0 : Value} {p0 : Int} {k1 o1 n1 : Int} {s1 : ByteArray} {nv1 kv1 : Value} {p1 : Int} {t : Nd} {mv lv : Value}
    (h : (Below w.heap.size w a ∧ B ≤ a.heap.size ∧ Box g0 k0 o0 n0 s0 nv0 kv0 p0 a ∧ Box g1 k1 o1 n1 s1 nv1 kv1 p1 a ∧ NdIn B a t mv lv) ∧ a.cell? ⟨g0, 0, none⟩ = some (.int .i64 k0) ∧ a.cell? ⟨g0, 1, none⟩ = some (.int .i64 o0) ∧ a.cell? ⟨g0, 2, none⟩ = some (.int .i64 n0) ∧ a.cell? ⟨g0, 3, none⟩ = some (.string s0) ∧ a.cell? ⟨g0, 4, none⟩ = some nv0 ∧ a.cell? ⟨g0, 5, none⟩ = some kv0 ∧ a.cell? ⟨g0, 6, none⟩ = some (.int .i64 p0) ∧ a.cell? ⟨g1, 0, none⟩ = some (.int .i64 k1) ∧ a.cell? ⟨g1, 1, none⟩ = some (.int .i64 o1) ∧ a.cell? ⟨g1, 2, none⟩ = some (.int .i64 n1) ∧ a.cell? ⟨g1, 3, none⟩ = some (.string s1) ∧ a.cell? ⟨g1, 4, none⟩ = some nv1 ∧ a.cell? ⟨g1, 5, none⟩ = some kv1 ∧ a.cell? ⟨g1, 6, none⟩ = some (.int .i64 p1)) (q : Below a.heap.size a c) : (Below w.heap.size w c ∧ B ≤ c.heap.size ∧ Box g0 k0 o0 n0 s0 nv0 kv0 p0 c ∧ Box g1 k1 o1 n1 s1 nv1 kv1 p1 c ∧ NdIn B c t mv lv) ∧ c.cell? ⟨g0, 0, none⟩ = some (.int .i64 k0) ∧ c.cell? ⟨g0, 1, none⟩ = some (.int .i64 o0) ∧ c.cell? ⟨g0, 2, none⟩ = some (.int .i64 n0) ∧ c.cell? ⟨g0, 3, none⟩ = some (.string s0) ∧ c.cell? ⟨g0, 4, none⟩ = some nv0 ∧ c.cell? ⟨g0, 5, none⟩ = some kv0 ∧ c.cell? ⟨g0, 6, none⟩ = some (.int .i64 p0) ∧ c.cell? ⟨g1, 0, none⟩ = some (.int .i64 k1) ∧ c.cell? ⟨g1, 1, none⟩ = some (.int .i64 o1) ∧ c.cell? ⟨g1, 2, none⟩ = some (.int .i64 n1) ∧ c.cell? ⟨g1, 3, none⟩ = some (.string s1) ∧ c.cell? ⟨g1, 4, none⟩ = some nv1 ∧ c.cell? ⟨g1, 5, none⟩ = some kv1 ∧ c.cell? ⟨g1, 6, none⟩ = some (.int .i64 p1) := by
  obtain ⟨⟨h1, h2, x0, x1, y⟩, _⟩ := h
  have z0 := box_on x0 q
  have z1 := box_on x1 q
  obtain ⟨c00, c01, c02, c03, c04, c05, c06⟩ := box_cells z0
  obtain ⟨c10, c11, c12, c13, c14, c15, c16⟩ := box_cells z1
  exact ⟨⟨below_in h1 (Nat.le_refl _) q, Nat.le_trans h2 q.size, z0, z1, ndIn_on (q.mono h2) _ _ _ y⟩, c00, c01, c02, c03, c04, c05, c06, c10, c11, c12, c13, c14, c15, c16⟩
theorem kp_1_mk {w a : World} {B g0 g1 : Nat} {k0 o0 n0 : Int} {s0 : ByteArray} {nv0 kv0 : Value} {p0 : Int} {k1 o1 n1 : Int} {s1 : ByteArray} {nv1 kv1 : Value} {p1 : Int} {t : Nd} {mv lv : Value}
    (h1 : Below w.heap.size w a) (h2 : B ≤ a.heap.size) (x0 : Box g0 k0 o0 n0 s0 nv0 kv0 p0 a) (x1 : Box g1 k1 o1 n1 s1 nv1 kv1 p1 a) (y : NdIn B a t mv lv) : (Below w.heap.size w a ∧ B ≤ a.heap.size ∧ Box g0 k0 o0 n0 s0 nv0 kv0 p0 a ∧ Box g1 k1 o1 n1 s1 nv1 kv1 p1 a ∧ NdIn B a t mv lv) ∧ a.cell? ⟨g0, 0, none⟩ = some (.int .i64 k0) ∧ a.cell? ⟨g0, 1, none⟩ = some (.int .i64 o0) ∧ a.cell? ⟨g0, 2, none⟩ = some (.int .i64 n0) ∧ a.cell? ⟨g0, 3, none⟩ = some (.string s0) ∧ a.cell? ⟨g0, 4, none⟩ = some nv0 ∧ a.cell? ⟨g0, 5, none⟩ = some kv0 ∧ a.cell? ⟨g0, 6, none⟩ = some (.int .i64 p0) ∧ a.cell? ⟨g1, 0, none⟩ = some (.int .i64 k1) ∧ a.cell? ⟨g1, 1, none⟩ = some (.int .i64 o1) ∧ a.cell? ⟨g1, 2, none⟩ = some (.int .i64 n1) ∧ a.cell? ⟨g1, 3, none⟩ = some (.string s1) ∧ a.cell? ⟨g1, 4, none⟩ = some nv1 ∧ a.cell? ⟨g1, 5, none⟩ = some kv1 ∧ a.cell? ⟨g1, 6, none⟩ = some (.int .i64 p1) := by
  obtain ⟨c00, c01, c02, c03, c04, c05, c06⟩ := box_cells x0
  obtain ⟨c10, c11, c12, c13, c14, c15, c16⟩ := box_cells x1
  exact ⟨⟨h1, h2, x0, x1, y⟩, c00, c01, c02, c03, c04, c05, c06, c10, c11, c12, c13, c14, c15, c16⟩
theorem kp_1_core {w a : World} {B g0 g1 : Nat} {k0 o0 n0 : Int} {s0 : ByteArray} {nv0 kv0 : Value} {p0 : Int} {k1 o1 n1 : Int} {s1 : ByteArray} {nv1 kv1 : Value} {p1 : Int} {t : Nd} {mv lv : Value} {R : Prop}
    (h : (Below w.heap.size w a ∧ B ≤ a.heap.size ∧ Box g0 k0 o0 n0 s0 nv0 kv0 p0 a ∧ Box g1 k1 o1 n1 s1 nv1 kv1 p1 a ∧ NdIn B a t mv lv) ∧ R) : (Below w.heap.size w a ∧ B ≤ a.heap.size ∧ Box g0 k0 o0 n0 s0 nv0 kv0 p0 a ∧ Box g1 k1 o1 n1 s1 nv1 kv1 p1 a ∧ NdIn B a t mv lv) := h.1
theorem brT_len (b : Bool) (l : List UInt8) : (brT b l).length ≤ l.length + 2 := by cases b <;> simp [brT]
theorem textN_rank (x : Nd) : (textN x).rank = rankT x.kind x.op := by
  obtain ⟨k, o, n, s, ns, ks, p⟩ := x
  rw [textN_mk]; rfl

set_option maxHeartbeats 3200000 in
set_option maxRecDepth 100000 in
theorem rstmt_21 (o n : Int) (s : ByteArray) (ns : List ByteArray) (x : Nd) (p : Int) (hE : RExprAt x) (hr : x.kind = 10 → 1 ≤ x.op ∧ x.op ≤ 11) (hl : (textN x).e.length ≤ 100000000) (hs : s.size ≤ 600) : RStmtAt (.mk 21 o n s ns [x] p) := by
  intro B w nv kv hB h1
  obtain ⟨hs1, hk1⟩ := ndIn_mk.1 h1.out
  obtain ⟨a1, q1, rfl, _⟩ := strsIn_cases hs1
  obtain ⟨a2, q2, rfl, hkk⟩ := kidsIn_cases hk1
  obtain ⟨b, off, rfl, hbB, hat⟩ := hkk.resolve_left (by simp)
  obtain ⟨nv0, kv0, hnode, hin⟩ := ndsAt_get hat 0 (by simp)
  simp only [List.getElem_cons_zero, Nat.zero_mul, Nat.add_zero] at hnode hin
  simp only [Nd.kind, Nd.op, Nd.num, Nd.str, Nd.pl, List.length_cons, List.length_nil, Nat.zero_add]
  obtain ⟨b1, r1, b2, r2, rfl, rfl⟩ := ndIn_shape hin
  obtain ⟨c0, c1, c2, c3, c4, c5, c6⟩ := hnode
  have hal := box2_below w (.cells #[.int .i64 21, .int .i64 o, .int .i64 n, .string s, .slice a1 ns.length q1, .slice (some ⟨b, off, none⟩) 1 q2, .int .i64 p] 25) (.cells #[.int .i64 x.kind, .int .i64 x.op, .int .i64 x.num, .string x.str, .slice b1 x.names.length r1, .slice b2 x.kids.length r2, .int .i64 x.pl] 25)
  have hbx := boxes2 w 21 o n s (.slice a1 ns.length q1) (.slice (some ⟨b, off, none⟩) 1 q2) p x.kind x.op x.num x.str (.slice b1 x.names.length r1) (.slice b2 x.kids.length r2) x.pl
  have C0 := hid (kp_1_mk hal (by simp; omega) hbx.1 hbx.2 (ndIn_on (hal.mono hB) _ _ _ hin))
  have hbl : b < w.heap.size := by omega
  have HE := hid hE
  have hrl : ((textN x).e : List UInt8).length ≤ 100000002 := by omega
  have HL := hid hl
  have HT := hid (show (⟨(textN (.mk 21 o n s ns [x] p)).s.toArray⟩ : ByteArray) = ⟨#[108, 101, 116, 32]⟩ ++ s ++ ⟨#[32, 61, 32]⟩ ++ ⟨(textN x).e.toArray⟩ ++ ⟨#[59]⟩ by
    rw [textN_mk]; apply ByteArray.ext; simp [stmtT, shortT, at0, becomesT])
  have f1 : ¬ (9223372036854775807 < 4 + s.size) := by omega
  have f2 : ¬ (9223372036854775807 < 4 + s.size + 3) := by omega
  have f3 : ¬ (9223372036854775807 < 4 + s.size + 3 + (textN x).e.length) := by omega
  have f4 : ¬ (9223372036854775807 < 4 + s.size + 3 + (textN x).e.length + 1) := by omega
  clear hrl
  clear hal hbx hin hkk hat hs1 hk1 h1 hE hl
  go_enter Tryd.func38, Tryd.ntmps38
  go_wp2_with fail
  refine (rrank_calls x.kind x.op x.num x.str b1 x.names.length r1 b2 x.kids.length r2 x.pl _ hr).mono ?_
  rintro e w1 ⟨rfl, bb1⟩
  have C1 := hid (kp_1 C0.out bb1)
  obtain ⟨x0, x1, x2, x3, x4, x5, x6, y0, y1, y2, y3, y4, y5, y6⟩ := C1.out.2
  clear bb1 C0 c0 c1 c2 c3 c4 c5 c6
  go_wp2_with fail
  go_region_held3 (fun a => (Below w.heap.size w a ∧ B ≤ a.heap.size ∧ Box w.heap.size 21 o n s (.slice a1 ns.length q1) (.slice (some ⟨b, off, none⟩) 1 q2) p a ∧ Box (w.heap.size + 1) x.kind x.op x.num x.str (.slice b1 x.names.length r1) (.slice b2 x.kids.length r2) x.pl a ∧ NdIn B a x (.slice b1 x.names.length r1) (.slice b2 x.kids.length r2)) ∧ a.cell? ⟨w.heap.size, 0, none⟩ = some (.int .i64 21) ∧ a.cell? ⟨w.heap.size, 1, none⟩ = some (.int .i64 o) ∧ a.cell? ⟨w.heap.size, 2, none⟩ = some (.int .i64 n) ∧ a.cell? ⟨w.heap.size, 3, none⟩ = some (.string s) ∧ a.cell? ⟨w.heap.size, 4, none⟩ = some (.slice a1 ns.length q1) ∧ a.cell? ⟨w.heap.size, 5, none⟩ = some (.slice (some ⟨b, off, none⟩) 1 q2) ∧ a.cell? ⟨w.heap.size, 6, none⟩ = some (.int .i64 p) ∧ a.cell? ⟨w.heap.size + 1, 0, none⟩ = some (.int .i64 x.kind) ∧ a.cell? ⟨w.heap.size + 1, 1, none⟩ = some (.int .i64 x.op) ∧ a.cell? ⟨w.heap.size + 1, 2, none⟩ = some (.int .i64 x.num) ∧ a.cell? ⟨w.heap.size + 1, 3, none⟩ = some (.string x.str) ∧ a.cell? ⟨w.heap.size + 1, 4, none⟩ = some (.slice b1 x.names.length r1) ∧ a.cell? ⟨w.heap.size + 1, 5, none⟩ = some (.slice b2 x.kids.length r2) ∧ a.cell? ⟨w.heap.size + 1, 6, none⟩ = some (.int .i64 x.pl))
    (first | assumption | exact kp_1 (by assumption) bb | exact kp_1 C1.out (Below.refl _ _).drew | exact kp_1 (by assumption) (Below.refl _ _).drew)
    (first
      | (go_at_call 53; refine (HE.out B _ _ _ (kp_1_core (by assumption)).2.1 (hid (kp_1_core (by assumption)).2.2.2.2)).mono ?_; rintro e wx ⟨rfl, bb⟩)
      | (go_at_call 54; refine (rat_calls x HE.out (decide (rankT x.kind x.op < 8)) HL.out B _ _ _ (kp_1_core (by assumption)).2.1 (hid (kp_1_core (by assumption)).2.2.2.2)).mono ?_; rintro e wx ⟨rfl, bb⟩))
  all_goals
    rename_i hz
    have Z := hid hz.1.1
    clear hz
    go_wp2_with fail
    go_ret
    exact ⟨by rw [HT.out]; rfl, Z.out⟩

set_option maxHeartbeats 3200000 in
set_option maxRecDepth 100000 in
theorem rstmt_22 (o n : Int) (s : ByteArray) (ns : List ByteArray) (x : Nd) (p : Int) (hE : RExprAt x) (hr : x.kind = 10 → 1 ≤ x.op ∧ x.op ≤ 11) (hl : (textN x).e.length ≤ 100000000) (hs : s.size ≤ 600) : RStmtAt (.mk 22 o n s ns [x] p) := by
  intro B w nv kv hB h1
  obtain ⟨hs1, hk1⟩ := ndIn_mk.1 h1.out
  obtain ⟨a1, q1, rfl, _⟩ := strsIn_cases hs1
  obtain ⟨a2, q2, rfl, hkk⟩ := kidsIn_cases hk1
  obtain ⟨b, off, rfl, hbB, hat⟩ := hkk.resolve_left (by simp)
  obtain ⟨nv0, kv0, hnode, hin⟩ := ndsAt_get hat 0 (by simp)
  simp only [List.getElem_cons_zero, Nat.zero_mul, Nat.add_zero] at hnode hin
  simp only [Nd.kind, Nd.op, Nd.num, Nd.str, Nd.pl, List.length_cons, List.length_nil, Nat.zero_add]
  obtain ⟨b1, r1, b2, r2, rfl, rfl⟩ := ndIn_shape hin
  obtain ⟨c0, c1, c2, c3, c4, c5, c6⟩ := hnode
  have hal := box2_below w (.cells #[.int .i64 22, .int .i64 o, .int .i64 n, .string s, .slice a1 ns.length q1, .slice (some ⟨b, off, none⟩) 1 q2, .int .i64 p] 25) (.cells #[.int .i64 x.kind, .int .i64 x.op, .int .i64 x.num, .string x.str, .slice b1 x.names.length r1, .slice b2 x.kids.length r2, .int .i64 x.pl] 25)
  have hbx := boxes2 w 22 o n s (.slice a1 ns.length q1) (.slice (some ⟨b, off, none⟩) 1 q2) p x.kind x.op x.num x.str (.slice b1 x.names.length r1) (.slice b2 x.kids.length r2) x.pl
  have C0 := hid (kp_1_mk hal (by simp; omega) hbx.1 hbx.2 (ndIn_on (hal.mono hB) _ _ _ hin))
  have hbl : b < w.heap.size := by omega
  have HE := hid hE
  have hrl : ((textN x).e : List UInt8).length ≤ 100000002 := by omega
  have HL := hid hl
  have HT := hid (show (⟨(textN (.mk 22 o n s ns [x] p)).s.toArray⟩ : ByteArray) = s ++ ⟨#[32, 61, 32]⟩ ++ ⟨(textN x).e.toArray⟩ ++ ⟨#[59]⟩ by
    rw [textN_mk]; apply ByteArray.ext; simp [stmtT, shortT, at0, becomesT])
  have f1 : ¬ (9223372036854775807 < s.size + 3) := by omega
  have f2 : ¬ (9223372036854775807 < s.size + 3 + (textN x).e.length) := by omega
  have f3 : ¬ (9223372036854775807 < s.size + 3 + (textN x).e.length + 1) := by omega
  clear hrl
  clear hal hbx hin hkk hat hs1 hk1 h1 hE hl
  go_enter Tryd.func38, Tryd.ntmps38
  go_wp2_with fail
  refine (rrank_calls x.kind x.op x.num x.str b1 x.names.length r1 b2 x.kids.length r2 x.pl _ hr).mono ?_
  rintro e w1 ⟨rfl, bb1⟩
  have C1 := hid (kp_1 C0.out bb1)
  obtain ⟨x0, x1, x2, x3, x4, x5, x6, y0, y1, y2, y3, y4, y5, y6⟩ := C1.out.2
  clear bb1 C0 c0 c1 c2 c3 c4 c5 c6
  go_wp2_with fail
  go_region_held3 (fun a => (Below w.heap.size w a ∧ B ≤ a.heap.size ∧ Box w.heap.size 22 o n s (.slice a1 ns.length q1) (.slice (some ⟨b, off, none⟩) 1 q2) p a ∧ Box (w.heap.size + 1) x.kind x.op x.num x.str (.slice b1 x.names.length r1) (.slice b2 x.kids.length r2) x.pl a ∧ NdIn B a x (.slice b1 x.names.length r1) (.slice b2 x.kids.length r2)) ∧ a.cell? ⟨w.heap.size, 0, none⟩ = some (.int .i64 22) ∧ a.cell? ⟨w.heap.size, 1, none⟩ = some (.int .i64 o) ∧ a.cell? ⟨w.heap.size, 2, none⟩ = some (.int .i64 n) ∧ a.cell? ⟨w.heap.size, 3, none⟩ = some (.string s) ∧ a.cell? ⟨w.heap.size, 4, none⟩ = some (.slice a1 ns.length q1) ∧ a.cell? ⟨w.heap.size, 5, none⟩ = some (.slice (some ⟨b, off, none⟩) 1 q2) ∧ a.cell? ⟨w.heap.size, 6, none⟩ = some (.int .i64 p) ∧ a.cell? ⟨w.heap.size + 1, 0, none⟩ = some (.int .i64 x.kind) ∧ a.cell? ⟨w.heap.size + 1, 1, none⟩ = some (.int .i64 x.op) ∧ a.cell? ⟨w.heap.size + 1, 2, none⟩ = some (.int .i64 x.num) ∧ a.cell? ⟨w.heap.size + 1, 3, none⟩ = some (.string x.str) ∧ a.cell? ⟨w.heap.size + 1, 4, none⟩ = some (.slice b1 x.names.length r1) ∧ a.cell? ⟨w.heap.size + 1, 5, none⟩ = some (.slice b2 x.kids.length r2) ∧ a.cell? ⟨w.heap.size + 1, 6, none⟩ = some (.int .i64 x.pl))
    (first | assumption | exact kp_1 (by assumption) bb | exact kp_1 C1.out (Below.refl _ _).drew | exact kp_1 (by assumption) (Below.refl _ _).drew)
    (first
      | (go_at_call 53; refine (HE.out B _ _ _ (kp_1_core (by assumption)).2.1 (hid (kp_1_core (by assumption)).2.2.2.2)).mono ?_; rintro e wx ⟨rfl, bb⟩)
      | (go_at_call 54; refine (rat_calls x HE.out (decide (rankT x.kind x.op < 8)) HL.out B _ _ _ (kp_1_core (by assumption)).2.1 (hid (kp_1_core (by assumption)).2.2.2.2)).mono ?_; rintro e wx ⟨rfl, bb⟩))
  all_goals
    rename_i hz
    have Z := hid hz.1.1
    clear hz
    go_wp2_with fail
    go_ret
    exact ⟨by rw [HT.out]; rfl, Z.out⟩

set_option maxHeartbeats 3200000 in
set_option maxRecDepth 100000 in
theorem rstmt_25 (o n : Int) (s : ByteArray) (ns : List ByteArray) (x : Nd) (p : Int) (hE : RExprAt x) (hr : x.kind = 10 → 1 ≤ x.op ∧ x.op ≤ 11) (hl : (textN x).e.length ≤ 100000000) (hs : s.size ≤ 600) : RStmtAt (.mk 25 o n s ns [x] p) := by
  intro B w nv kv hB h1
  obtain ⟨hs1, hk1⟩ := ndIn_mk.1 h1.out
  obtain ⟨a1, q1, rfl, _⟩ := strsIn_cases hs1
  obtain ⟨a2, q2, rfl, hkk⟩ := kidsIn_cases hk1
  obtain ⟨b, off, rfl, hbB, hat⟩ := hkk.resolve_left (by simp)
  obtain ⟨nv0, kv0, hnode, hin⟩ := ndsAt_get hat 0 (by simp)
  simp only [List.getElem_cons_zero, Nat.zero_mul, Nat.add_zero] at hnode hin
  simp only [Nd.kind, Nd.op, Nd.num, Nd.str, Nd.pl, List.length_cons, List.length_nil, Nat.zero_add]
  obtain ⟨b1, r1, b2, r2, rfl, rfl⟩ := ndIn_shape hin
  obtain ⟨c0, c1, c2, c3, c4, c5, c6⟩ := hnode
  have hal := box2_below w (.cells #[.int .i64 25, .int .i64 o, .int .i64 n, .string s, .slice a1 ns.length q1, .slice (some ⟨b, off, none⟩) 1 q2, .int .i64 p] 25) (.cells #[.int .i64 x.kind, .int .i64 x.op, .int .i64 x.num, .string x.str, .slice b1 x.names.length r1, .slice b2 x.kids.length r2, .int .i64 x.pl] 25)
  have hbx := boxes2 w 25 o n s (.slice a1 ns.length q1) (.slice (some ⟨b, off, none⟩) 1 q2) p x.kind x.op x.num x.str (.slice b1 x.names.length r1) (.slice b2 x.kids.length r2) x.pl
  have C0 := hid (kp_1_mk hal (by simp; omega) hbx.1 hbx.2 (ndIn_on (hal.mono hB) _ _ _ hin))
  have hbl : b < w.heap.size := by omega
  have HE := hid hE
  have hrl : (brT (decide (rankT x.kind x.op < 8)) (textN x).e : List UInt8).length ≤ 100000002 := by have := brT_len (decide (rankT x.kind x.op < 8)) (textN x).e; omega
  have HL := hid hl
  have HT := hid (show (⟨(textN (.mk 25 o n s ns [x] p)).s.toArray⟩ : ByteArray) = ⟨#[100, 101, 108, 101, 116, 101, 32]⟩ ++ ⟨(brT (decide (rankT x.kind x.op < 8)) (textN x).e).toArray⟩ ++ ⟨#[46]⟩ ++ s ++ ⟨#[59]⟩ by
    rw [textN_mk]; apply ByteArray.ext; simp [stmtT, shortT, at0, getT, tight_in, textN_rank])
  have f1 : ¬ (9223372036854775807 < 7 + (brT (decide (rankT x.kind x.op < 8)) (textN x).e).length) := by omega
  have f2 : ¬ (9223372036854775807 < 7 + (brT (decide (rankT x.kind x.op < 8)) (textN x).e).length + 1) := by omega
  have f3 : ¬ (9223372036854775807 < 7 + (brT (decide (rankT x.kind x.op < 8)) (textN x).e).length + 1 + s.size) := by omega
  have f4 : ¬ (9223372036854775807 < 7 + (brT (decide (rankT x.kind x.op < 8)) (textN x).e).length + 1 + s.size + 1) := by omega
  clear hrl
  clear hal hbx hin hkk hat hs1 hk1 h1 hE hl
  go_enter Tryd.func38, Tryd.ntmps38
  go_wp2_with fail
  refine (rrank_calls x.kind x.op x.num x.str b1 x.names.length r1 b2 x.kids.length r2 x.pl _ hr).mono ?_
  rintro e w1 ⟨rfl, bb1⟩
  have C1 := hid (kp_1 C0.out bb1)
  obtain ⟨x0, x1, x2, x3, x4, x5, x6, y0, y1, y2, y3, y4, y5, y6⟩ := C1.out.2
  clear bb1 C0 c0 c1 c2 c3 c4 c5 c6
  go_wp2_with fail
  go_region_held3 (fun a => (Below w.heap.size w a ∧ B ≤ a.heap.size ∧ Box w.heap.size 25 o n s (.slice a1 ns.length q1) (.slice (some ⟨b, off, none⟩) 1 q2) p a ∧ Box (w.heap.size + 1) x.kind x.op x.num x.str (.slice b1 x.names.length r1) (.slice b2 x.kids.length r2) x.pl a ∧ NdIn B a x (.slice b1 x.names.length r1) (.slice b2 x.kids.length r2)) ∧ a.cell? ⟨w.heap.size, 0, none⟩ = some (.int .i64 25) ∧ a.cell? ⟨w.heap.size, 1, none⟩ = some (.int .i64 o) ∧ a.cell? ⟨w.heap.size, 2, none⟩ = some (.int .i64 n) ∧ a.cell? ⟨w.heap.size, 3, none⟩ = some (.string s) ∧ a.cell? ⟨w.heap.size, 4, none⟩ = some (.slice a1 ns.length q1) ∧ a.cell? ⟨w.heap.size, 5, none⟩ = some (.slice (some ⟨b, off, none⟩) 1 q2) ∧ a.cell? ⟨w.heap.size, 6, none⟩ = some (.int .i64 p) ∧ a.cell? ⟨w.heap.size + 1, 0, none⟩ = some (.int .i64 x.kind) ∧ a.cell? ⟨w.heap.size + 1, 1, none⟩ = some (.int .i64 x.op) ∧ a.cell? ⟨w.heap.size + 1, 2, none⟩ = some (.int .i64 x.num) ∧ a.cell? ⟨w.heap.size + 1, 3, none⟩ = some (.string x.str) ∧ a.cell? ⟨w.heap.size + 1, 4, none⟩ = some (.slice b1 x.names.length r1) ∧ a.cell? ⟨w.heap.size + 1, 5, none⟩ = some (.slice b2 x.kids.length r2) ∧ a.cell? ⟨w.heap.size + 1, 6, none⟩ = some (.int .i64 x.pl))
    (first | assumption | exact kp_1 (by assumption) bb | exact kp_1 C1.out (Below.refl _ _).drew | exact kp_1 (by assumption) (Below.refl _ _).drew)
    (first
      | (go_at_call 53; refine (HE.out B _ _ _ (kp_1_core (by assumption)).2.1 (hid (kp_1_core (by assumption)).2.2.2.2)).mono ?_; rintro e wx ⟨rfl, bb⟩)
      | (go_at_call 54; refine (rat_calls x HE.out (decide (rankT x.kind x.op < 8)) HL.out B _ _ _ (kp_1_core (by assumption)).2.1 (hid (kp_1_core (by assumption)).2.2.2.2)).mono ?_; rintro e wx ⟨rfl, bb⟩))
  all_goals
    rename_i hz
    have Z := hid hz.1.1
    clear hz
    go_wp2_with fail
    go_ret
    exact ⟨by rw [HT.out]; rfl, Z.out⟩

set_option maxHeartbeats 3200000 in
set_option maxRecDepth 100000 in
theorem rstmt_27 (o n : Int) (s : ByteArray) (ns : List ByteArray) (x : Nd) (p : Int) (hE : RExprAt x) (hr : x.kind = 10 → 1 ≤ x.op ∧ x.op ≤ 11) (hl : (textN x).e.length ≤ 100000000) (_hs : s.size ≤ 600) : RStmtAt (.mk 27 o n s ns [x] p) := by
  intro B w nv kv hB h1
  obtain ⟨hs1, hk1⟩ := ndIn_mk.1 h1.out
  obtain ⟨a1, q1, rfl, _⟩ := strsIn_cases hs1
  obtain ⟨a2, q2, rfl, hkk⟩ := kidsIn_cases hk1
  obtain ⟨b, off, rfl, hbB, hat⟩ := hkk.resolve_left (by simp)
  obtain ⟨nv0, kv0, hnode, hin⟩ := ndsAt_get hat 0 (by simp)
  simp only [List.getElem_cons_zero, Nat.zero_mul, Nat.add_zero] at hnode hin
  simp only [Nd.kind, Nd.op, Nd.num, Nd.str, Nd.pl, List.length_cons, List.length_nil, Nat.zero_add]
  obtain ⟨b1, r1, b2, r2, rfl, rfl⟩ := ndIn_shape hin
  obtain ⟨c0, c1, c2, c3, c4, c5, c6⟩ := hnode
  have hal := box2_below w (.cells #[.int .i64 27, .int .i64 o, .int .i64 n, .string s, .slice a1 ns.length q1, .slice (some ⟨b, off, none⟩) 1 q2, .int .i64 p] 25) (.cells #[.int .i64 x.kind, .int .i64 x.op, .int .i64 x.num, .string x.str, .slice b1 x.names.length r1, .slice b2 x.kids.length r2, .int .i64 x.pl] 25)
  have hbx := boxes2 w 27 o n s (.slice a1 ns.length q1) (.slice (some ⟨b, off, none⟩) 1 q2) p x.kind x.op x.num x.str (.slice b1 x.names.length r1) (.slice b2 x.kids.length r2) x.pl
  have C0 := hid (kp_1_mk hal (by simp; omega) hbx.1 hbx.2 (ndIn_on (hal.mono hB) _ _ _ hin))
  have hbl : b < w.heap.size := by omega
  have HE := hid hE
  have hrl : ((textN x).e : List UInt8).length ≤ 100000002 := by omega
  have HL := hid hl
  have HT := hid (show (⟨(textN (.mk 27 o n s ns [x] p)).s.toArray⟩ : ByteArray) = ⟨#[112, 114, 105, 110, 116, 32]⟩ ++ ⟨(textN x).e.toArray⟩ ++ ⟨#[59]⟩ by
    rw [textN_mk]; apply ByteArray.ext; simp [stmtT, shortT, at0])
  have f1 : ¬ (9223372036854775807 < 6 + (textN x).e.length) := by omega
  have f2 : ¬ (9223372036854775807 < 6 + (textN x).e.length + 1) := by omega
  clear hrl
  clear hal hbx hin hkk hat hs1 hk1 h1 hE hl
  go_enter Tryd.func38, Tryd.ntmps38
  go_wp2_with fail
  refine (rrank_calls x.kind x.op x.num x.str b1 x.names.length r1 b2 x.kids.length r2 x.pl _ hr).mono ?_
  rintro e w1 ⟨rfl, bb1⟩
  have C1 := hid (kp_1 C0.out bb1)
  obtain ⟨x0, x1, x2, x3, x4, x5, x6, y0, y1, y2, y3, y4, y5, y6⟩ := C1.out.2
  clear bb1 C0 c0 c1 c2 c3 c4 c5 c6
  go_wp2_with fail
  refine (HE.out B _ _ _ C1.out.1.2.1 (hid C1.out.1.2.2.2.2)).mono ?_
  rintro e wx ⟨rfl, bb⟩
  have Z := hid (kp_1 C1.out bb).1.1
  clear bb C1
  go_wp2_with fail
  go_ret
  exact ⟨by rw [HT.out]; rfl, Z.out⟩

set_option maxHeartbeats 3200000 in
set_option maxRecDepth 100000 in
theorem rstmt_31 (o n : Int) (s : ByteArray) (ns : List ByteArray) (x : Nd) (p : Int) (hE : RExprAt x) (hr : x.kind = 10 → 1 ≤ x.op ∧ x.op ≤ 11) (hl : (textN x).e.length ≤ 100000000) (_hs : s.size ≤ 600) : RStmtAt (.mk 31 o n s ns [x] p) := by
  intro B w nv kv hB h1
  obtain ⟨hs1, hk1⟩ := ndIn_mk.1 h1.out
  obtain ⟨a1, q1, rfl, _⟩ := strsIn_cases hs1
  obtain ⟨a2, q2, rfl, hkk⟩ := kidsIn_cases hk1
  obtain ⟨b, off, rfl, hbB, hat⟩ := hkk.resolve_left (by simp)
  obtain ⟨nv0, kv0, hnode, hin⟩ := ndsAt_get hat 0 (by simp)
  simp only [List.getElem_cons_zero, Nat.zero_mul, Nat.add_zero] at hnode hin
  simp only [Nd.kind, Nd.op, Nd.num, Nd.str, Nd.pl, List.length_cons, List.length_nil, Nat.zero_add]
  obtain ⟨b1, r1, b2, r2, rfl, rfl⟩ := ndIn_shape hin
  obtain ⟨c0, c1, c2, c3, c4, c5, c6⟩ := hnode
  have hal := box2_below w (.cells #[.int .i64 31, .int .i64 o, .int .i64 n, .string s, .slice a1 ns.length q1, .slice (some ⟨b, off, none⟩) 1 q2, .int .i64 p] 25) (.cells #[.int .i64 x.kind, .int .i64 x.op, .int .i64 x.num, .string x.str, .slice b1 x.names.length r1, .slice b2 x.kids.length r2, .int .i64 x.pl] 25)
  have hbx := boxes2 w 31 o n s (.slice a1 ns.length q1) (.slice (some ⟨b, off, none⟩) 1 q2) p x.kind x.op x.num x.str (.slice b1 x.names.length r1) (.slice b2 x.kids.length r2) x.pl
  have C0 := hid (kp_1_mk hal (by simp; omega) hbx.1 hbx.2 (ndIn_on (hal.mono hB) _ _ _ hin))
  have hbl : b < w.heap.size := by omega
  have HE := hid hE
  have hrl : ((textN x).e : List UInt8).length ≤ 100000002 := by omega
  have HL := hid hl
  have HT := hid (show (⟨(textN (.mk 31 o n s ns [x] p)).s.toArray⟩ : ByteArray) = ⟨#[114, 101, 116, 117, 114, 110, 32]⟩ ++ ⟨(textN x).e.toArray⟩ ++ ⟨#[59]⟩ by
    rw [textN_mk]; apply ByteArray.ext; simp [stmtT, shortT, at0])
  have f1 : ¬ (9223372036854775807 < 7 + (textN x).e.length) := by omega
  have f2 : ¬ (9223372036854775807 < 7 + (textN x).e.length + 1) := by omega
  clear hrl
  clear hal hbx hin hkk hat hs1 hk1 h1 hE hl
  go_enter Tryd.func38, Tryd.ntmps38
  go_wp2_with fail
  refine (rrank_calls x.kind x.op x.num x.str b1 x.names.length r1 b2 x.kids.length r2 x.pl _ hr).mono ?_
  rintro e w1 ⟨rfl, bb1⟩
  have C1 := hid (kp_1 C0.out bb1)
  obtain ⟨x0, x1, x2, x3, x4, x5, x6, y0, y1, y2, y3, y4, y5, y6⟩ := C1.out.2
  clear bb1 C0 c0 c1 c2 c3 c4 c5 c6
  go_wp2_with fail
  refine (HE.out B _ _ _ C1.out.1.2.1 (hid C1.out.1.2.2.2.2)).mono ?_
  rintro e wx ⟨rfl, bb⟩
  have Z := hid (kp_1 C1.out bb).1.1
  clear bb C1
  go_wp2_with fail
  go_ret
  exact ⟨by rw [HT.out]; rfl, Z.out⟩

set_option maxHeartbeats 3200000 in
set_option maxRecDepth 100000 in
theorem rstmt_32 (o n : Int) (s : ByteArray) (ns : List ByteArray) (x : Nd) (p : Int) (hE : RExprAt x) (hr : x.kind = 10 → 1 ≤ x.op ∧ x.op ≤ 11) (hl : (textN x).e.length ≤ 100000000) (_hs : s.size ≤ 600) : RStmtAt (.mk 32 o n s ns [x] p) := by
  intro B w nv kv hB h1
  obtain ⟨hs1, hk1⟩ := ndIn_mk.1 h1.out
  obtain ⟨a1, q1, rfl, _⟩ := strsIn_cases hs1
  obtain ⟨a2, q2, rfl, hkk⟩ := kidsIn_cases hk1
  obtain ⟨b, off, rfl, hbB, hat⟩ := hkk.resolve_left (by simp)
  obtain ⟨nv0, kv0, hnode, hin⟩ := ndsAt_get hat 0 (by simp)
  simp only [List.getElem_cons_zero, Nat.zero_mul, Nat.add_zero] at hnode hin
  simp only [Nd.kind, Nd.op, Nd.num, Nd.str, Nd.pl, List.length_cons, List.length_nil, Nat.zero_add]
  obtain ⟨b1, r1, b2, r2, rfl, rfl⟩ := ndIn_shape hin
  obtain ⟨c0, c1, c2, c3, c4, c5, c6⟩ := hnode
  have hal := box2_below w (.cells #[.int .i64 32, .int .i64 o, .int .i64 n, .string s, .slice a1 ns.length q1, .slice (some ⟨b, off, none⟩) 1 q2, .int .i64 p] 25) (.cells #[.int .i64 x.kind, .int .i64 x.op, .int .i64 x.num, .string x.str, .slice b1 x.names.length r1, .slice b2 x.kids.length r2, .int .i64 x.pl] 25)
  have hbx := boxes2 w 32 o n s (.slice a1 ns.length q1) (.slice (some ⟨b, off, none⟩) 1 q2) p x.kind x.op x.num x.str (.slice b1 x.names.length r1) (.slice b2 x.kids.length r2) x.pl
  have C0 := hid (kp_1_mk hal (by simp; omega) hbx.1 hbx.2 (ndIn_on (hal.mono hB) _ _ _ hin))
  have hbl : b < w.heap.size := by omega
  have HE := hid hE
  have hrl : ((textN x).e : List UInt8).length ≤ 100000002 := by omega
  have HL := hid hl
  have HT := hid (show (⟨(textN (.mk 32 o n s ns [x] p)).s.toArray⟩ : ByteArray) = ⟨(textN x).e.toArray⟩ ++ ⟨#[59]⟩ by
    rw [textN_mk]; apply ByteArray.ext; simp [stmtT, shortT, at0])
  have f1 : ¬ (9223372036854775807 < (textN x).e.length + 1) := by omega
  clear hrl
  clear hal hbx hin hkk hat hs1 hk1 h1 hE hl
  go_enter Tryd.func38, Tryd.ntmps38
  go_wp2_with fail
  refine (rrank_calls x.kind x.op x.num x.str b1 x.names.length r1 b2 x.kids.length r2 x.pl _ hr).mono ?_
  rintro e w1 ⟨rfl, bb1⟩
  have C1 := hid (kp_1 C0.out bb1)
  obtain ⟨x0, x1, x2, x3, x4, x5, x6, y0, y1, y2, y3, y4, y5, y6⟩ := C1.out.2
  clear bb1 C0 c0 c1 c2 c3 c4 c5 c6
  go_wp2_with fail
  refine (HE.out B _ _ _ C1.out.1.2.1 (hid C1.out.1.2.2.2.2)).mono ?_
  rintro e wx ⟨rfl, bb⟩
  have Z := hid (kp_1 C1.out bb).1.1
  clear bb C1
  go_wp2_with fail
  go_ret
  exact ⟨by rw [HT.out]; rfl, Z.out⟩

end Go.Proofs.YtlnllpehifkjhaaDoor
