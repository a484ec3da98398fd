/- Statements as the document writes them: those with more parts. -/
import Derived.Test.YtlnllpehifkjhaaDoorRfStmt
namespace Go.Proofs.YtlnllpehifkjhaaDoor
open Go.RowKit

theorem ndIn_kids {B : Nat} {w : World} {t : Nd} {nv kv : Value} (h : NdIn B w t nv kv) : KidsIn B w kv t.kids := by
  obtain ⟨k, o, n, s, ns, ks, p⟩ := t
  exact (ndIn_mk.1 h).2
theorem textN_b (t : Nd) : (textN t).b = blockT (t.kids.map textN) := by
  obtain ⟨k, o, n, s, ns, ks, p⟩ := t
  rw [textN_mk]; rfl
theorem kq_2 {w a c : World} {B b g0 g1 : Nat} {k0 o0 n0 : Int} {s0 : ByteArray} {nv0 kv0 : Value} {p0 : Int} {k1 o1 n1 : Int} {s1 : ByteArray} {nv1 kv1 : Value} {p1 : Int} {t0 : Nd} {mv0 lv0 : Value} {t1 : Nd} {mv1 lv1 : Value} {of1 : Nat} {ka1 ob1 nc1 : Int} {sd1 : ByteArray} {ne1 kf1 : Value} {pg1 : Int} (h : (Below w.heap.size w a ∧ B ≤ a.heap.size ∧ b < a.heap.size ∧ Box g0 k0 o0 n0 s0 nv0 kv0 p0 a ∧ Box g1 k1 o1 n1 s1 nv1 kv1 p1 a ∧ NdIn B a t0 mv0 lv0 ∧ NdIn B a t1 mv1 lv1) ∧ a.cell? ⟨g0, 0, none⟩ = some (.int .i64 k0) ∧ a.cell? ⟨g0, 1, none⟩ = some (.int .i64 o0) ∧ a.cell? ⟨g0, 2, none⟩ = some (.int .i64 n0) ∧ a.cell? ⟨g0, 3, none⟩ = some (.string s0) ∧ a.cell? ⟨g0, 4, none⟩ = some nv0 ∧ a.cell? ⟨g0, 5, none⟩ = some kv0 ∧ a.cell? ⟨g0, 6, none⟩ = some (.int .i64 p0) ∧ a.cell? ⟨g1, 0, none⟩ = some (.int .i64 k1) ∧ a.cell? ⟨g1, 1, none⟩ = some (.int .i64 o1) ∧ a.cell? ⟨g1, 2, none⟩ = some (.int .i64 n1) ∧ a.cell? ⟨g1, 3, none⟩ = some (.string s1) ∧ a.cell? ⟨g1, 4, none⟩ = some nv1 ∧ a.cell? ⟨g1, 5, none⟩ = some kv1 ∧ a.cell? ⟨g1, 6, none⟩ = some (.int .i64 p1) ∧ a.cell? ⟨b, of1, none⟩ = some (.int .i64 ka1) ∧ a.cell? ⟨b, of1 + 1, none⟩ = some (.int .i64 ob1) ∧ a.cell? ⟨b, of1 + 2, none⟩ = some (.int .i64 nc1) ∧ a.cell? ⟨b, of1 + 3, none⟩ = some (.string sd1) ∧ a.cell? ⟨b, of1 + 4, none⟩ = some ne1 ∧ a.cell? ⟨b, of1 + 5, none⟩ = some kf1 ∧ a.cell? ⟨b, of1 + 6, none⟩ = some (.int .i64 pg1)) (q : Below a.heap.size a c) : (Below w.heap.size w c ∧ B ≤ c.heap.size ∧ b < c.heap.size ∧ Box g0 k0 o0 n0 s0 nv0 kv0 p0 c ∧ Box g1 k1 o1 n1 s1 nv1 kv1 p1 c ∧ NdIn B c t0 mv0 lv0 ∧ NdIn B c t1 mv1 lv1) ∧ c.cell? ⟨g0, 0, none⟩ = some (.int .i64 k0) ∧ c.cell? ⟨g0, 1, none⟩ = some (.int .i64 o0) ∧ c.cell? ⟨g0, 2, none⟩ = some (.int .i64 n0) ∧ c.cell? ⟨g0, 3, none⟩ = some (.string s0) ∧ c.cell? ⟨g0, 4, none⟩ = some nv0 ∧ c.cell? ⟨g0, 5, none⟩ = some kv0 ∧ c.cell? ⟨g0, 6, none⟩ = some (.int .i64 p0) ∧ c.cell? ⟨g1, 0, none⟩ = some (.int .i64 k1) ∧ c.cell? ⟨g1, 1, none⟩ = some (.int .i64 o1) ∧ c.cell? ⟨g1, 2, none⟩ = some (.int .i64 n1) ∧ c.cell? ⟨g1, 3, none⟩ = some (.string s1) ∧ c.cell? ⟨g1, 4, none⟩ = some nv1 ∧ c.cell? ⟨g1, 5, none⟩ = some kv1 ∧ c.cell? ⟨g1, 6, none⟩ = some (.int .i64 p1) ∧ c.cell? ⟨b, of1, none⟩ = some (.int .i64 ka1) ∧ c.cell? ⟨b, of1 + 1, none⟩ = some (.int .i64 ob1) ∧ c.cell? ⟨b, of1 + 2, none⟩ = some (.int .i64 nc1) ∧ c.cell? ⟨b, of1 + 3, none⟩ = some (.string sd1) ∧ c.cell? ⟨b, of1 + 4, none⟩ = some ne1 ∧ c.cell? ⟨b, of1 + 5, none⟩ = some kf1 ∧ c.cell? ⟨b, of1 + 6, none⟩ = some (.int .i64 pg1) := by
  obtain ⟨⟨h1, h2, hb, x0, x1, y0, y1⟩, _, _, _, _, _, _, _, _, _, _, _, _, _, _, e10, e11, e12, e13, e14, e15, e16⟩ := h
  have z0 := box_on x0 q
  have z1 := box_on x1 q
  obtain ⟨c00, c01, c02, c03, c04, c05, c06⟩ := box_cells z0
  obtain ⟨c10, c11, c12, c13, c14, c15, c16⟩ := box_cells z1
  exact ⟨⟨below_in h1 (Nat.le_refl _) q, Nat.le_trans h2 q.size, Nat.lt_of_lt_of_le hb q.size, z0, z1, ndIn_on (q.mono h2) _ _ _ y0, ndIn_on (q.mono h2) _ _ _ y1⟩, c00, c01, c02, c03, c04, c05, c06, c10, c11, c12, c13, c14, c15, c16, cell_keep q hb e10, cell_keep q hb e11, cell_keep q hb e12, cell_keep q hb e13, cell_keep q hb e14, cell_keep q hb e15, cell_keep q hb e16⟩
theorem kq_2_mk {w a : World} {B b g0 g1 : Nat} {k0 o0 n0 : Int} {s0 : ByteArray} {nv0 kv0 : Value} {p0 : Int} {k1 o1 n1 : Int} {s1 : ByteArray} {nv1 kv1 : Value} {p1 : Int} {t0 : Nd} {mv0 lv0 : Value} {t1 : Nd} {mv1 lv1 : Value} {of1 : Nat} {ka1 ob1 nc1 : Int} {sd1 : ByteArray} {ne1 kf1 : Value} {pg1 : Int} (h1 : Below w.heap.size w a) (h2 : B ≤ a.heap.size) (hb : b < a.heap.size) (z0 : Box g0 k0 o0 n0 s0 nv0 kv0 p0 a) (z1 : Box g1 k1 o1 n1 s1 nv1 kv1 p1 a) (y0 : NdIn B a t0 mv0 lv0) (y1 : NdIn B a t1 mv1 lv1) (h10 : a.cell? ⟨b, of1, none⟩ = some (.int .i64 ka1)) (h11 : a.cell? ⟨b, of1 + 1, none⟩ = some (.int .i64 ob1)) (h12 : a.cell? ⟨b, of1 + 2, none⟩ = some (.int .i64 nc1)) (h13 : a.cell? ⟨b, of1 + 3, none⟩ = some (.string sd1)) (h14 : a.cell? ⟨b, of1 + 4, none⟩ = some ne1) (h15 : a.cell? ⟨b, of1 + 5, none⟩ = some kf1) (h16 : a.cell? ⟨b, of1 + 6, none⟩ = some (.int .i64 pg1)) : (Below w.heap.size w a ∧ B ≤ a.heap.size ∧ b < a.heap.size ∧ Box g0 k0 o0 n0 s0 nv0 kv0 p0 a ∧ Box g1 k1 o1 n1 s1 nv1 kv1 p1 a ∧ NdIn B a t0 mv0 lv0 ∧ NdIn B a t1 mv1 lv1) ∧ a.cell? ⟨g0, 0, none⟩ = some (.int .i64 k0) ∧ a.cell? ⟨g0, 1, none⟩ = some (.int .i64 o0) ∧ a.cell? ⟨g0, 2, none⟩ = some (.int .i64 n0) ∧ a.cell? ⟨g0, 3, none⟩ = some (.string s0) ∧ a.cell? ⟨g0, 4, none⟩ = some nv0 ∧ a.cell? ⟨g0, 5, none⟩ = some kv0 ∧ a.cell? ⟨g0, 6, none⟩ = some (.int .i64 p0) ∧ a.cell? ⟨g1, 0, none⟩ = some (.int .i64 k1) ∧ a.cell? ⟨g1, 1, none⟩ = some (.int .i64 o1) ∧ a.cell? ⟨g1, 2, none⟩ = some (.int .i64 n1) ∧ a.cell? ⟨g1, 3, none⟩ = some (.string s1) ∧ a.cell? ⟨g1, 4, none⟩ = some nv1 ∧ a.cell? ⟨g1, 5, none⟩ = some kv1 ∧ a.cell? ⟨g1, 6, none⟩ = some (.int .i64 p1) ∧ a.cell? ⟨b, of1, none⟩ = some (.int .i64 ka1) ∧ a.cell? ⟨b, of1 + 1, none⟩ = some (.int .i64 ob1) ∧ a.cell? ⟨b, of1 + 2, none⟩ = some (.int .i64 nc1) ∧ a.cell? ⟨b, of1 + 3, none⟩ = some (.string sd1) ∧ a.cell? ⟨b, of1 + 4, none⟩ = some ne1 ∧ a.cell? ⟨b, of1 + 5, none⟩ = some kf1 ∧ a.cell? ⟨b, of1 + 6, none⟩ = some (.int .i64 pg1) := by
  obtain ⟨c00, c01, c02, c03, c04, c05, c06⟩ := box_cells z0
  obtain ⟨c10, c11, c12, c13, c14, c15, c16⟩ := box_cells z1
  exact ⟨⟨h1, h2, hb, z0, z1, y0, y1⟩, c00, c01, c02, c03, c04, c05, c06, c10, c11, c12, c13, c14, c15, c16, h10, h11, h12, h13, h14, h15, h16⟩
theorem kq_2_core {w a : World} {B b g0 g1 : Nat} {k0 o0 n0 : Int} {s0 : ByteArray} {nv0 kv0 : Value} {p0 : Int} {k1 o1 n1 : Int} {s1 : ByteArray} {nv1 kv1 : Value} {p1 : Int} {t0 : Nd} {mv0 lv0 : Value} {t1 : Nd} {mv1 lv1 : Value} {R : Prop} (h : (Below w.heap.size w a ∧ B ≤ a.heap.size ∧ b < a.heap.size ∧ Box g0 k0 o0 n0 s0 nv0 kv0 p0 a ∧ Box g1 k1 o1 n1 s1 nv1 kv1 p1 a ∧ NdIn B a t0 mv0 lv0 ∧ NdIn B a t1 mv1 lv1) ∧ R) : (Below w.heap.size w a ∧ B ≤ a.heap.size ∧ b < a.heap.size ∧ Box g0 k0 o0 n0 s0 nv0 kv0 p0 a ∧ Box g1 k1 o1 n1 s1 nv1 kv1 p1 a ∧ NdIn B a t0 mv0 lv0 ∧ NdIn B a t1 mv1 lv1) := h.1
theorem kq_3 {w a c : World} {B b g0 g1 : Nat} {k0 o0 n0 : Int} {s0 : ByteArray} {nv0 kv0 : Value} {p0 : Int} {k1 o1 n1 : Int} {s1 : ByteArray} {nv1 kv1 : Value} {p1 : Int} {t0 : Nd} {mv0 lv0 : Value} {t1 : Nd} {mv1 lv1 : Value} {t2 : Nd} {mv2 lv2 : Value} {of1 : Nat} {ka1 ob1 nc1 : Int} {sd1 : ByteArray} {ne1 kf1 : Value} {pg1 : Int} {of2 : Nat} {ka2 ob2 nc2 : Int} {sd2 : ByteArray} {ne2 kf2 : Value} {pg2 : Int} (h : (Below w.heap.size w a ∧ B ≤ a.heap.size ∧ b < a.heap.size ∧ Box g0 k0 o0 n0 s0 nv0 kv0 p0 a ∧ Box g1 k1 o1 n1 s1 nv1 kv1 p1 a ∧ NdIn B a t0 mv0 lv0 ∧ NdIn B a t1 mv1 lv1 ∧ NdIn B a t2 mv2 lv2) ∧ a.cell? ⟨g0, 0, none⟩ = some (.int .i64 k0) ∧ a.cell? ⟨g0, 1, none⟩ = some (.int .i64 o0) ∧ a.cell? ⟨g0, 2, none⟩ = some (.int .i64 n0) ∧ a.cell? ⟨g0, 3, none⟩ = some (.string s0) ∧ a.cell? ⟨g0, 4, none⟩ = some nv0 ∧ a.cell? ⟨g0, 5, none⟩ = some kv0 ∧ a.cell? ⟨g0, 6, none⟩ = some (.int .i64 p0) ∧ a.cell? ⟨g1, 0, none⟩ = some (.int .i64 k1) ∧ a.cell? ⟨g1, 1, none⟩ = some (.int .i64 o1) ∧ a.cell? ⟨g1, 2, none⟩ = some (.int .i64 n1) ∧ a.cell? ⟨g1, 3, none⟩ = some (.string s1) ∧ a.cell? ⟨g1, 4, none⟩ = some nv1 ∧ a.cell? ⟨g1, 5, none⟩ = some kv1 ∧ a.cell? ⟨g1, 6, none⟩ = some (.int .i64 p1) ∧ a.cell? ⟨b, of1, none⟩ = some (.int .i64 ka1) ∧ a.cell? ⟨b, of1 + 1, none⟩ = some (.int .i64 ob1) ∧ a.cell? ⟨b, of1 + 2, none⟩ = some (.int .i64 nc1) ∧ a.cell? ⟨b, of1 + 3, none⟩ = some (.string sd1) ∧ a.cell? ⟨b, of1 + 4, none⟩ = some ne1 ∧ a.cell? ⟨b, of1 + 5, none⟩ = some kf1 ∧ a.cell? ⟨b, of1 + 6, none⟩ = some (.int .i64 pg1) ∧ a.cell? ⟨b, of2, none⟩ = some (.int .i64 ka2) ∧ a.cell? ⟨b, of2 + 1, none⟩ = some (.int .i64 ob2) ∧ a.cell? ⟨b, of2 + 2, none⟩ = some (.int .i64 nc2) ∧ a.cell? ⟨b, of2 + 3, none⟩ = some (.string sd2) ∧ a.cell? ⟨b, of2 + 4, none⟩ = some ne2 ∧ a.cell? ⟨b, of2 + 5, none⟩ = some kf2 ∧ a.cell? ⟨b, of2 + 6, none⟩ = some (.int .i64 pg2)) (q : Below a.heap.size a c) : (Below w.heap.size w c ∧ B ≤ c.heap.size ∧ b < c.heap.size ∧ Box g0 k0 o0 n0 s0 nv0 kv0 p0 c ∧ Box g1 k1 o1 n1 s1 nv1 kv1 p1 c ∧ NdIn B c t0 mv0 lv0 ∧ NdIn B c t1 mv1 lv1 ∧ NdIn B c t2 mv2 lv2) ∧ c.cell? ⟨g0, 0, none⟩ = some (.int .i64 k0) ∧ c.cell? ⟨g0, 1, none⟩ = some (.int .i64 o0) ∧ c.cell? ⟨g0, 2, none⟩ = some (.int .i64 n0) ∧ c.cell? ⟨g0, 3, none⟩ = some (.string s0) ∧ c.cell? ⟨g0, 4, none⟩ = some nv0 ∧ c.cell? ⟨g0, 5, none⟩ = some kv0 ∧ c.cell? ⟨g0, 6, none⟩ = some (.int .i64 p0) ∧ c.cell? ⟨g1, 0, none⟩ = some (.int .i64 k1) ∧ c.cell? ⟨g1, 1, none⟩ = some (.int .i64 o1) ∧ c.cell? ⟨g1, 2, none⟩ = some (.int .i64 n1) ∧ c.cell? ⟨g1, 3, none⟩ = some (.string s1) ∧ c.cell? ⟨g1, 4, none⟩ = some nv1 ∧ c.cell? ⟨g1, 5, none⟩ = some kv1 ∧ c.cell? ⟨g1, 6, none⟩ = some (.int .i64 p1) ∧ c.cell? ⟨b, of1, none⟩ = some (.int .i64 ka1) ∧ c.cell? ⟨b, of1 + 1, none⟩ = some (.int .i64 ob1) ∧ c.cell? ⟨b, of1 + 2, none⟩ = some (.int .i64 nc1) ∧ c.cell? ⟨b, of1 + 3, none⟩ = some (.string sd1) ∧ c.cell? ⟨b, of1 + 4, none⟩ = some ne1 ∧ c.cell? ⟨b, of1 + 5, none⟩ = some kf1 ∧ c.cell? ⟨b, of1 + 6, none⟩ = some (.int .i64 pg1) ∧ c.cell? ⟨b, of2, none⟩ = some (.int .i64 ka2) ∧ c.cell? ⟨b, of2 + 1, none⟩ = some (.int .i64 ob2) ∧ c.cell? ⟨b, of2 + 2, none⟩ = some (.int .i64 nc2) ∧ c.cell? ⟨b, of2 + 3, none⟩ = some (.string sd2) ∧ c.cell? ⟨b, of2 + 4, none⟩ = some ne2 ∧ c.cell? ⟨b, of2 + 5, none⟩ = some kf2 ∧ c.cell? ⟨b, of2 + 6, none⟩ = some (.int .i64 pg2) := by
  obtain ⟨⟨h1, h2, hb, x0, x1, y0, y1, y2⟩, _, _, _, _, _, _, _, _, _, _, _, _, _, _, e10, e11, e12, e13, e14, e15, e16, e20, e21, e22, e23, e24, e25, e26⟩ := h
  have z0 := box_on x0 q
  have z1 := box_on x1 q
  obtain ⟨c00, c01, c02, c03, c04, c05, c06⟩ := box_cells z0
  obtain ⟨c10, c11, c12, c13, c14, c15, c16⟩ := box_cells z1
  exact ⟨⟨below_in h1 (Nat.le_refl _) q, Nat.le_trans h2 q.size, Nat.lt_of_lt_of_le hb q.size, z0, z1, ndIn_on (q.mono h2) _ _ _ y0, ndIn_on (q.mono h2) _ _ _ y1, ndIn_on (q.mono h2) _ _ _ y2⟩, c00, c01, c02, c03, c04, c05, c06, c10, c11, c12, c13, c14, c15, c16, cell_keep q hb e10, cell_keep q hb e11, cell_keep q hb e12, cell_keep q hb e13, cell_keep q hb e14, cell_keep q hb e15, cell_keep q hb e16, cell_keep q hb e20, cell_keep q hb e21, cell_keep q hb e22, cell_keep q hb e23, cell_keep q hb e24, cell_keep q hb e25, cell_keep q hb e26⟩
theorem kq_3_mk {w a : World} {B b g0 g1 : Nat} {k0 o0 n0 : Int} {s0 : ByteArray} {nv0 kv0 : Value} {p0 : Int} {k1 o1 n1 : Int} {s1 : ByteArray} {nv1 kv1 : Value} {p1 : Int} {t0 : Nd} {mv0 lv0 : Value} {t1 : Nd} {mv1 lv1 : Value} {t2 : Nd} {mv2 lv2 : Value} {of1 : Nat} {ka1 ob1 nc1 : Int} {sd1 : ByteArray} {ne1 kf1 : Value} {pg1 : Int} {of2 : Nat} {ka2 ob2 nc2 : Int} {sd2 : ByteArray} {ne2 kf2 : Value} {pg2 : Int} (h1 : Below w.heap.size w a) (h2 : B ≤ a.heap.size) (hb : b < a.heap.size) (z0 : Box g0 k0 o0 n0 s0 nv0 kv0 p0 a) (z1 : Box g1 k1 o1 n1 s1 nv1 kv1 p1 a) (y0 : NdIn B a t0 mv0 lv0) (y1 : NdIn B a t1 mv1 lv1) (y2 : NdIn B a t2 mv2 lv2) (h10 : a.cell? ⟨b, of1, none⟩ = some (.int .i64 ka1)) (h11 : a.cell? ⟨b, of1 + 1, none⟩ = some (.int .i64 ob1)) (h12 : a.cell? ⟨b, of1 + 2, none⟩ = some (.int .i64 nc1)) (h13 : a.cell? ⟨b, of1 + 3, none⟩ = some (.string sd1)) (h14 : a.cell? ⟨b, of1 + 4, none⟩ = some ne1) (h15 : a.cell? ⟨b, of1 + 5, none⟩ = some kf1) (h16 : a.cell? ⟨b, of1 + 6, none⟩ = some (.int .i64 pg1)) (h20 : a.cell? ⟨b, of2, none⟩ = some (.int .i64 ka2)) (h21 : a.cell? ⟨b, of2 + 1, none⟩ = some (.int .i64 ob2)) (h22 : a.cell? ⟨b, of2 + 2, none⟩ = some (.int .i64 nc2)) (h23 : a.cell? ⟨b, of2 + 3, none⟩ = some (.string sd2)) (h24 : a.cell? ⟨b, of2 + 4, none⟩ = some ne2) (h25 : a.cell? ⟨b, of2 + 5, none⟩ = some kf2) (h26 : a.cell? ⟨b, of2 + 6, none⟩ = some (.int .i64 pg2)) : (Below w.heap.size w a ∧ B ≤ a.heap.size ∧ b < a.heap.size ∧ Box g0 k0 o0 n0 s0 nv0 kv0 p0 a ∧ Box g1 k1 o1 n1 s1 nv1 kv1 p1 a ∧ NdIn B a t0 mv0 lv0 ∧ NdIn B a t1 mv1 lv1 ∧ NdIn B a t2 mv2 lv2) ∧ a.cell? ⟨g0, 0, none⟩ = some (.int .i64 k0) ∧ a.cell? ⟨g0, 1, none⟩ = some (.int .i64 o0) ∧ a.cell? ⟨g0, 2, none⟩ = some (.int .i64 n0) ∧ a.cell? ⟨g0, 3, none⟩ = some (.string s0) ∧ a.cell? ⟨g0, 4, none⟩ = some nv0 ∧ a.cell? ⟨g0, 5, none⟩ = some kv0 ∧ a.cell? ⟨g0, 6, none⟩ = some (.int .i64 p0) ∧ a.cell? ⟨g1, 0, none⟩ = some (.int .i64 k1) ∧ a.cell? ⟨g1, 1, none⟩ = some (.int .i64 o1) ∧ a.cell? ⟨g1, 2, none⟩ = some (.int .i64 n1) ∧ a.cell? ⟨g1, 3, none⟩ = some (.string s1) ∧ a.cell? ⟨g1, 4, none⟩ = some nv1 ∧ a.cell? ⟨g1, 5, none⟩ = some kv1 ∧ a.cell? ⟨g1, 6, none⟩ = some (.int .i64 p1) ∧ a.cell? ⟨b, of1, none⟩ = some (.int .i64 ka1) ∧ a.cell? ⟨b, of1 + 1, none⟩ = some (.int .i64 ob1) ∧ a.cell? ⟨b, of1 + 2, none⟩ = some (.int .i64 nc1) ∧ a.cell? ⟨b, of1 + 3, none⟩ = some (.string sd1) ∧ a.cell? ⟨b, of1 + 4, none⟩ = some ne1 ∧ a.cell? ⟨b, of1 + 5, none⟩ = some kf1 ∧ a.cell? ⟨b, of1 + 6, none⟩ = some (.int .i64 pg1) ∧ a.cell? ⟨b, of2, none⟩ = some (.int .i64 ka2) ∧ a.cell? ⟨b, of2 + 1, none⟩ = some (.int .i64 ob2) ∧ a.cell? ⟨b, of2 + 2, none⟩ = some (.int .i64 nc2) ∧ a.cell? ⟨b, of2 + 3, none⟩ = some (.string sd2) ∧ a.cell? ⟨b, of2 + 4, none⟩ = some ne2 ∧ a.cell? ⟨b, of2 + 5, none⟩ = some kf2 ∧ a.cell? ⟨b, of2 + 6, none⟩ = some (.int .i64 pg2) := by
  obtain ⟨c00, c01, c02, c03, c04, c05, c06⟩ := box_cells z0
  obtain ⟨c10, c11, c12, c13, c14, c15, c16⟩ := box_cells z1
  exact ⟨⟨h1, h2, hb, z0, z1, y0, y1, y2⟩, c00, c01, c02, c03, c04, c05, c06, c10, c11, c12, c13, c14, c15, c16, h10, h11, h12, h13, h14, h15, h16, h20, h21, h22, h23, h24, h25, h26⟩
theorem kq_3_core {w a : World} {B b g0 g1 : Nat} {k0 o0 n0 : Int} {s0 : ByteArray} {nv0 kv0 : Value} {p0 : Int} {k1 o1 n1 : Int} {s1 : ByteArray} {nv1 kv1 : Value} {p1 : Int} {t0 : Nd} {mv0 lv0 : Value} {t1 : Nd} {mv1 lv1 : Value} {t2 : Nd} {mv2 lv2 : Value} {R : Prop} (h : (Below w.heap.size w a ∧ B ≤ a.heap.size ∧ b < a.heap.size ∧ Box g0 k0 o0 n0 s0 nv0 kv0 p0 a ∧ Box g1 k1 o1 n1 s1 nv1 kv1 p1 a ∧ NdIn B a t0 mv0 lv0 ∧ NdIn B a t1 mv1 lv1 ∧ NdIn B a t2 mv2 lv2) ∧ R) : (Below w.heap.size w a ∧ B ≤ a.heap.size ∧ b < a.heap.size ∧ Box g0 k0 o0 n0 s0 nv0 kv0 p0 a ∧ Box g1 k1 o1 n1 s1 nv1 kv1 p1 a ∧ NdIn B a t0 mv0 lv0 ∧ NdIn B a t1 mv1 lv1 ∧ NdIn B a t2 mv2 lv2) := h.1

set_option maxHeartbeats 3200000 in
set_option maxRecDepth 100000 in
theorem rstmt_23 (o n : Int) (s : ByteArray) (ns : List ByteArray) (x y : Nd) (p : Int) (hE0 : RExprAt x) (hl0 : (textN x).e.length ≤ 100000000) (hE1 : RExprAt y) (hl1 : (textN y).e.length ≤ 100000000) (hr : x.kind = 10 → 1 ≤ x.op ∧ x.op ≤ 11) (hs : s.size ≤ 600) : RStmtAt (.mk 23 o n s ns [x, y] p) := by
  intro B w nv kv hB h1
  obtain ⟨hs1, hk1⟩ := ndIn_mk.1 h1.out
  obtain ⟨a1, q1, rfl, _⟩ := strsIn_cases hs1
  obtain ⟨a2, q2, rfl, hkk⟩ := kidsIn_cases hk1
  obtain ⟨b, off, rfl, hbB, hat⟩ := hkk.resolve_left (by simp)
  obtain ⟨nv0, kv0, hnode0, hin0⟩ := ndsAt_get hat 0 (by simp)
  obtain ⟨nv1, kv1, hnode1, hin1⟩ := ndsAt_get hat 1 (by simp)
  simp only [List.getElem_cons_zero, List.getElem_cons_succ, Nat.zero_mul, Nat.add_zero, Nat.one_mul] at hnode0 hin0 hnode1 hin1
  simp only [Nd.kind, Nd.op, Nd.num, Nd.str, Nd.pl, List.length_cons, List.length_nil, Nat.zero_add, Nat.reduceAdd]
  obtain ⟨xa, xq, xc, xr, rfl, rfl⟩ := ndIn_shape hin0
  obtain ⟨ya, yq, yc, yr, rfl, rfl⟩ := ndIn_shape hin1
  obtain ⟨c0, c1, c2, c3, c4, c5, c6⟩ := hnode0
  have hal := box2_below w (.cells #[.int .i64 23, .int .i64 o, .int .i64 n, .string s, .slice a1 ns.length q1, .slice (some ⟨b, off, none⟩) 2 q2, .int .i64 p] 25) (.cells #[.int .i64 x.kind, .int .i64 x.op, .int .i64 x.num, .string x.str, .slice xa x.names.length xq, .slice xc x.kids.length xr, .int .i64 x.pl] 25)
  have hbx := boxes2 w 23 o n s (.slice a1 ns.length q1) (.slice (some ⟨b, off, none⟩) 2 q2) p x.kind x.op x.num x.str (.slice xa x.names.length xq) (.slice xc x.kids.length xr) x.pl
  have hbl : b < w.heap.size := by omega
  have D1 := nodeAt_on hnode1 hbB (hal.mono hB)
  have C0 := hid (kq_2_mk hal (by simp; omega) (by simp; omega) hbx.1 hbx.2 (ndIn_on (hal.mono hB) _ _ _ hin0) (ndIn_on (hal.mono hB) _ _ _ hin1) (D1.1) (D1.2.1) (D1.2.2.1) (D1.2.2.2.1) (D1.2.2.2.2.1) (D1.2.2.2.2.2.1) (D1.2.2.2.2.2.2))
  have HE0 := hid hE0
  have HL0 := hid hl0
  have HE1 := hid hE1
  have HL1 := hid hl1
  have hrl := brT_len (decide (rankT x.kind x.op < 8)) (textN x).e
  have HT := hid (show (⟨(textN (.mk 23 o n s ns [x, y] p)).s.toArray⟩ : ByteArray) = ⟨(brT (decide (rankT x.kind x.op < 8)) (textN x).e).toArray⟩ ++ ⟨#[46]⟩ ++ s ++ ⟨#[32, 61, 32]⟩ ++ ⟨(textN y).e.toArray⟩ ++ ⟨#[59]⟩ by
    rw [textN_mk]; apply ByteArray.ext; simp [stmtT, shortT, at0, at1, getT, becomesT, tight_in, textN_rank])
  have f1 : ¬ (9223372036854775807 < (brT (decide (rankT x.kind x.op < 8)) (textN x).e).length + 1) := by omega
  have f2 : ¬ (9223372036854775807 < (brT (decide (rankT x.kind x.op < 8)) (textN x).e).length + 1 + s.size) := by omega
  have f3 : ¬ (9223372036854775807 < (brT (decide (rankT x.kind x.op < 8)) (textN x).e).length + 1 + s.size + 3) := by omega
  have f4 : ¬ (9223372036854775807 < (brT (decide (rankT x.kind x.op < 8)) (textN x).e).length + 1 + s.size + 3 + (textN y).e.length) := by omega
  have f5 : ¬ (9223372036854775807 < (brT (decide (rankT x.kind x.op < 8)) (textN x).e).length + 1 + s.size + 3 + (textN y).e.length + 1) := by omega
  clear hrl
  clear hal hbx hin0 hin1 hkk hat hs1 hk1 h1 hE0 hl0 hE1 hl1 hnode1 D1
  go_enter Tryd.func38, Tryd.ntmps38
  go_wp2_with fail
  refine (rrank_calls x.kind x.op x.num x.str xa x.names.length xq xc x.kids.length xr x.pl _ hr).mono ?_
  rintro e w1 ⟨rfl, bb1⟩
  have C1 := hid (kq_2 C0.out bb1)
  obtain ⟨x0, x1, x2, x3, x4, x5, x6, y0, y1, y2, y3, y4, y5, y6, v10, v11, v12, v13, v14, v15, v16⟩ := C1.out.2
  clear bb1 C0 c0 c1 c2 c3 c4 c5 c6
  go_wp2_with fail
  go_region_held3 (fun a => (Below w.heap.size w a ∧ B ≤ a.heap.size ∧ b < a.heap.size ∧ Box w.heap.size 23 o n s (.slice a1 ns.length q1) (.slice (some ⟨b, off, none⟩) 2 q2) p a ∧ Box (w.heap.size + 1) x.kind x.op x.num x.str (.slice xa x.names.length xq) (.slice xc x.kids.length xr) x.pl a ∧ NdIn B a x (.slice xa x.names.length xq) (.slice xc x.kids.length xr) ∧ NdIn B a y (.slice ya y.names.length yq) (.slice yc y.kids.length yr)) ∧ a.cell? ⟨w.heap.size, 0, none⟩ = some (.int .i64 23) ∧ a.cell? ⟨w.heap.size, 1, none⟩ = some (.int .i64 o) ∧ a.cell? ⟨w.heap.size, 2, none⟩ = some (.int .i64 n) ∧ a.cell? ⟨w.heap.size, 3, none⟩ = some (.string s) ∧ a.cell? ⟨w.heap.size, 4, none⟩ = some (.slice a1 ns.length q1) ∧ a.cell? ⟨w.heap.size, 5, none⟩ = some (.slice (some ⟨b, off, none⟩) 2 q2) ∧ a.cell? ⟨w.heap.size, 6, none⟩ = some (.int .i64 p) ∧ a.cell? ⟨w.heap.size + 1, 0, none⟩ = some (.int .i64 x.kind) ∧ a.cell? ⟨w.heap.size + 1, 1, none⟩ = some (.int .i64 x.op) ∧ a.cell? ⟨w.heap.size + 1, 2, none⟩ = some (.int .i64 x.num) ∧ a.cell? ⟨w.heap.size + 1, 3, none⟩ = some (.string x.str) ∧ a.cell? ⟨w.heap.size + 1, 4, none⟩ = some (.slice xa x.names.length xq) ∧ a.cell? ⟨w.heap.size + 1, 5, none⟩ = some (.slice xc x.kids.length xr) ∧ a.cell? ⟨w.heap.size + 1, 6, none⟩ = some (.int .i64 x.pl) ∧ a.cell? ⟨b, off + 7, none⟩ = some (.int .i64 y.kind) ∧ a.cell? ⟨b, off + 7 + 1, none⟩ = some (.int .i64 y.op) ∧ a.cell? ⟨b, off + 7 + 2, none⟩ = some (.int .i64 y.num) ∧ a.cell? ⟨b, off + 7 + 3, none⟩ = some (.string y.str) ∧ a.cell? ⟨b, off + 7 + 4, none⟩ = some (.slice ya y.names.length yq) ∧ a.cell? ⟨b, off + 7 + 5, none⟩ = some (.slice yc y.kids.length yr) ∧ a.cell? ⟨b, off + 7 + 6, none⟩ = some (.int .i64 y.pl))
    (first | assumption | exact kq_2 (by assumption) bb | exact kq_2 C1.out (Below.refl _ _).drew | exact kq_2 (by assumption) (Below.refl _ _).drew)
    (first
      | (go_at_call_of 53 y; refine (HE1.out B _ _ _ (kq_2_core (by assumption)).2.1 (hid (kq_2_core (by assumption)).2.2.2.2.2.2)).mono ?_; rintro e wx ⟨rfl, bb⟩)
      | (go_at_call 54; refine (rat_calls x HE0.out (decide (rankT x.kind x.op < 8)) HL0.out B _ _ _ (kq_2_core (by assumption)).2.1 (hid (kq_2_core (by assumption)).2.2.2.2.2.1)).mono ?_; rintro e wx ⟨rfl, bb⟩))
  all_goals
    rename_i hz
    have Z := hid hz.1.1
    clear hz
    go_wp2_with fail
    go_ret
    exact ⟨by rw [HT.out]; rfl, Z.out⟩

set_option maxHeartbeats 3200000 in
set_option maxRecDepth 100000 in
theorem rstmt_26 (o n : Int) (s : ByteArray) (ns : List ByteArray) (x y : Nd) (p : Int) (hE0 : RExprAt x) (hl0 : (textN x).e.length ≤ 100000000) (hE1 : RExprAt y) (hl1 : (textN y).e.length ≤ 100000000) (hr : x.kind = 10 → 1 ≤ x.op ∧ x.op ≤ 11) (_hs : s.size ≤ 600) : RStmtAt (.mk 26 o n s ns [x, y] p) := by
  intro B w nv kv hB h1
  obtain ⟨hs1, hk1⟩ := ndIn_mk.1 h1.out
  obtain ⟨a1, q1, rfl, _⟩ := strsIn_cases hs1
  obtain ⟨a2, q2, rfl, hkk⟩ := kidsIn_cases hk1
  obtain ⟨b, off, rfl, hbB, hat⟩ := hkk.resolve_left (by simp)
  obtain ⟨nv0, kv0, hnode0, hin0⟩ := ndsAt_get hat 0 (by simp)
  obtain ⟨nv1, kv1, hnode1, hin1⟩ := ndsAt_get hat 1 (by simp)
  simp only [List.getElem_cons_zero, List.getElem_cons_succ, Nat.zero_mul, Nat.add_zero, Nat.one_mul] at hnode0 hin0 hnode1 hin1
  simp only [Nd.kind, Nd.op, Nd.num, Nd.str, Nd.pl, List.length_cons, List.length_nil, Nat.zero_add, Nat.reduceAdd]
  obtain ⟨xa, xq, xc, xr, rfl, rfl⟩ := ndIn_shape hin0
  obtain ⟨ya, yq, yc, yr, rfl, rfl⟩ := ndIn_shape hin1
  obtain ⟨c0, c1, c2, c3, c4, c5, c6⟩ := hnode0
  have hal := box2_below w (.cells #[.int .i64 26, .int .i64 o, .int .i64 n, .string s, .slice a1 ns.length q1, .slice (some ⟨b, off, none⟩) 2 q2, .int .i64 p] 25) (.cells #[.int .i64 x.kind, .int .i64 x.op, .int .i64 x.num, .string x.str, .slice xa x.names.length xq, .slice xc x.kids.length xr, .int .i64 x.pl] 25)
  have hbx := boxes2 w 26 o n s (.slice a1 ns.length q1) (.slice (some ⟨b, off, none⟩) 2 q2) p x.kind x.op x.num x.str (.slice xa x.names.length xq) (.slice xc x.kids.length xr) x.pl
  have hbl : b < w.heap.size := by omega
  have D1 := nodeAt_on hnode1 hbB (hal.mono hB)
  have C0 := hid (kq_2_mk hal (by simp; omega) (by simp; omega) hbx.1 hbx.2 (ndIn_on (hal.mono hB) _ _ _ hin0) (ndIn_on (hal.mono hB) _ _ _ hin1) (D1.1) (D1.2.1) (D1.2.2.1) (D1.2.2.2.1) (D1.2.2.2.2.1) (D1.2.2.2.2.2.1) (D1.2.2.2.2.2.2))
  have HE0 := hid hE0
  have HL0 := hid hl0
  have HE1 := hid hE1
  have HL1 := hid hl1
  have hrl := brT_len (decide (rankT x.kind x.op < 8)) (textN x).e
  have HT := hid (show (⟨(textN (.mk 26 o n s ns [x, y] p)).s.toArray⟩ : ByteArray) = ⟨#[100, 101, 108, 101, 116, 101, 32]⟩ ++ ⟨(brT (decide (rankT x.kind x.op < 8)) (textN x).e).toArray⟩ ++ ⟨#[91]⟩ ++ ⟨(textN y).e.toArray⟩ ++ ⟨#[93, 59]⟩ by
    rw [textN_mk]; apply ByteArray.ext; simp [stmtT, shortT, at0, at1, indexT, tight_in, textN_rank])
  have f1 : ¬ (9223372036854775807 < 7 + (brT (decide (rankT x.kind x.op < 8)) (textN x).e).length) := by omega
  have f2 : ¬ (9223372036854775807 < 7 + (brT (decide (rankT x.kind x.op < 8)) (textN x).e).length + 1) := by omega
  have f3 : ¬ (9223372036854775807 < 7 + (brT (decide (rankT x.kind x.op < 8)) (textN x).e).length + 1 + (textN y).e.length) := by omega
  have f4 : ¬ (9223372036854775807 < 7 + (brT (decide (rankT x.kind x.op < 8)) (textN x).e).length + 1 + (textN y).e.length + 2) := by omega
  clear hrl
  clear hal hbx hin0 hin1 hkk hat hs1 hk1 h1 hE0 hl0 hE1 hl1 hnode1 D1
  go_enter Tryd.func38, Tryd.ntmps38
  go_wp2_with fail
  refine (rrank_calls x.kind x.op x.num x.str xa x.names.length xq xc x.kids.length xr x.pl _ hr).mono ?_
  rintro e w1 ⟨rfl, bb1⟩
  have C1 := hid (kq_2 C0.out bb1)
  obtain ⟨x0, x1, x2, x3, x4, x5, x6, y0, y1, y2, y3, y4, y5, y6, v10, v11, v12, v13, v14, v15, v16⟩ := C1.out.2
  clear bb1 C0 c0 c1 c2 c3 c4 c5 c6
  go_wp2_with fail
  go_region_held3 (fun a => (Below w.heap.size w a ∧ B ≤ a.heap.size ∧ b < a.heap.size ∧ Box w.heap.size 26 o n s (.slice a1 ns.length q1) (.slice (some ⟨b, off, none⟩) 2 q2) p a ∧ Box (w.heap.size + 1) x.kind x.op x.num x.str (.slice xa x.names.length xq) (.slice xc x.kids.length xr) x.pl a ∧ NdIn B a x (.slice xa x.names.length xq) (.slice xc x.kids.length xr) ∧ NdIn B a y (.slice ya y.names.length yq) (.slice yc y.kids.length yr)) ∧ a.cell? ⟨w.heap.size, 0, none⟩ = some (.int .i64 26) ∧ a.cell? ⟨w.heap.size, 1, none⟩ = some (.int .i64 o) ∧ a.cell? ⟨w.heap.size, 2, none⟩ = some (.int .i64 n) ∧ a.cell? ⟨w.heap.size, 3, none⟩ = some (.string s) ∧ a.cell? ⟨w.heap.size, 4, none⟩ = some (.slice a1 ns.length q1) ∧ a.cell? ⟨w.heap.size, 5, none⟩ = some (.slice (some ⟨b, off, none⟩) 2 q2) ∧ a.cell? ⟨w.heap.size, 6, none⟩ = some (.int .i64 p) ∧ a.cell? ⟨w.heap.size + 1, 0, none⟩ = some (.int .i64 x.kind) ∧ a.cell? ⟨w.heap.size + 1, 1, none⟩ = some (.int .i64 x.op) ∧ a.cell? ⟨w.heap.size + 1, 2, none⟩ = some (.int .i64 x.num) ∧ a.cell? ⟨w.heap.size + 1, 3, none⟩ = some (.string x.str) ∧ a.cell? ⟨w.heap.size + 1, 4, none⟩ = some (.slice xa x.names.length xq) ∧ a.cell? ⟨w.heap.size + 1, 5, none⟩ = some (.slice xc x.kids.length xr) ∧ a.cell? ⟨w.heap.size + 1, 6, none⟩ = some (.int .i64 x.pl) ∧ a.cell? ⟨b, off + 7, none⟩ = some (.int .i64 y.kind) ∧ a.cell? ⟨b, off + 7 + 1, none⟩ = some (.int .i64 y.op) ∧ a.cell? ⟨b, off + 7 + 2, none⟩ = some (.int .i64 y.num) ∧ a.cell? ⟨b, off + 7 + 3, none⟩ = some (.string y.str) ∧ a.cell? ⟨b, off + 7 + 4, none⟩ = some (.slice ya y.names.length yq) ∧ a.cell? ⟨b, off + 7 + 5, none⟩ = some (.slice yc y.kids.length yr) ∧ a.cell? ⟨b, off + 7 + 6, none⟩ = some (.int .i64 y.pl))
    (first | assumption | exact kq_2 (by assumption) bb | exact kq_2 C1.out (Below.refl _ _).drew | exact kq_2 (by assumption) (Below.refl _ _).drew)
    (first
      | (go_at_call_of 53 y; refine (HE1.out B _ _ _ (kq_2_core (by assumption)).2.1 (hid (kq_2_core (by assumption)).2.2.2.2.2.2)).mono ?_; rintro e wx ⟨rfl, bb⟩)
      | (go_at_call 54; refine (rat_calls x HE0.out (decide (rankT x.kind x.op < 8)) HL0.out B _ _ _ (kq_2_core (by assumption)).2.1 (hid (kq_2_core (by assumption)).2.2.2.2.2.1)).mono ?_; rintro e wx ⟨rfl, bb⟩))
  all_goals
    rename_i hz
    have Z := hid hz.1.1
    clear hz
    go_wp2_with fail
    go_ret
    exact ⟨by rw [HT.out]; rfl, Z.out⟩

set_option maxHeartbeats 3200000 in
set_option maxRecDepth 100000 in
theorem rstmt_30 (o n : Int) (s : ByteArray) (ns : List ByteArray) (x y : Nd) (p : Int) (hE0 : RExprAt x) (hl0 : (textN x).e.length ≤ 100000000) (hT : ∀ t ∈ y.kids, RStmtAt t) (hT4 : sum4 (y.kids.map textN) ≤ 100000000) (hTl : y.kids.length ≤ 1000000) (hr : x.kind = 10 → 1 ≤ x.op ∧ x.op ≤ 11) (_hs : s.size ≤ 600) : RStmtAt (.mk 30 o n s ns [x, y] p) := by
  intro B w nv kv hB h1
  obtain ⟨hs1, hk1⟩ := ndIn_mk.1 h1.out
  obtain ⟨a1, q1, rfl, _⟩ := strsIn_cases hs1
  obtain ⟨a2, q2, rfl, hkk⟩ := kidsIn_cases hk1
  obtain ⟨b, off, rfl, hbB, hat⟩ := hkk.resolve_left (by simp)
  obtain ⟨nv0, kv0, hnode0, hin0⟩ := ndsAt_get hat 0 (by simp)
  obtain ⟨nv1, kv1, hnode1, hin1⟩ := ndsAt_get hat 1 (by simp)
  simp only [List.getElem_cons_zero, List.getElem_cons_succ, Nat.zero_mul, Nat.add_zero, Nat.one_mul] at hnode0 hin0 hnode1 hin1
  simp only [Nd.kind, Nd.op, Nd.num, Nd.str, Nd.pl, List.length_cons, List.length_nil, Nat.zero_add, Nat.reduceAdd]
  obtain ⟨xa, xq, xc, xr, rfl, rfl⟩ := ndIn_shape hin0
  obtain ⟨ya, yq, yc, yr, rfl, rfl⟩ := ndIn_shape hin1
  obtain ⟨c0, c1, c2, c3, c4, c5, c6⟩ := hnode0
  have hal := box2_below w (.cells #[.int .i64 30, .int .i64 o, .int .i64 n, .string s, .slice a1 ns.length q1, .slice (some ⟨b, off, none⟩) 2 q2, .int .i64 p] 25) (.cells #[.int .i64 x.kind, .int .i64 x.op, .int .i64 x.num, .string x.str, .slice xa x.names.length xq, .slice xc x.kids.length xr, .int .i64 x.pl] 25)
  have hbx := boxes2 w 30 o n s (.slice a1 ns.length q1) (.slice (some ⟨b, off, none⟩) 2 q2) p x.kind x.op x.num x.str (.slice xa x.names.length xq) (.slice xc x.kids.length xr) x.pl
  have hbl : b < w.heap.size := by omega
  have D1 := nodeAt_on hnode1 hbB (hal.mono hB)
  have C0 := hid (kq_2_mk hal (by simp; omega) (by simp; omega) hbx.1 hbx.2 (ndIn_on (hal.mono hB) _ _ _ hin0) (ndIn_on (hal.mono hB) _ _ _ hin1) (D1.1) (D1.2.1) (D1.2.2.1) (D1.2.2.2.1) (D1.2.2.2.2.1) (D1.2.2.2.2.2.1) (D1.2.2.2.2.2.2))
  have HE0 := hid hE0
  have HL0 := hid hl0
  have HT0 := hid hT
  have HT1 := hid hT4
  have hrl := block_len (y.kids.map textN)
  have HT := hid (show (⟨(textN (.mk 30 o n s ns [x, y] p)).s.toArray⟩ : ByteArray) = ⟨#[119, 104, 105, 108, 101, 32, 40]⟩ ++ ⟨(textN x).e.toArray⟩ ++ ⟨#[41, 32]⟩ ++ ⟨(blockT (y.kids.map textN)).toArray⟩ by
    rw [textN_mk]; apply ByteArray.ext; simp [stmtT, branchT, at0, at1, textN_b])
  have f1 : ¬ (9223372036854775807 < 7 + (textN x).e.length) := by omega
  have f2 : ¬ (9223372036854775807 < 7 + (textN x).e.length + 2) := by omega
  have f3 : ¬ (9223372036854775807 < 7 + (textN x).e.length + 2 + (blockT (y.kids.map textN)).length) := by omega
  clear hrl
  clear hal hbx hin0 hin1 hkk hat hs1 hk1 h1 hE0 hl0 hT hT4 hnode1 D1
  go_enter Tryd.func38, Tryd.ntmps38
  go_wp2_with fail
  refine (rrank_calls x.kind x.op x.num x.str xa x.names.length xq xc x.kids.length xr x.pl _ hr).mono ?_
  rintro e w1 ⟨rfl, bb1⟩
  have C1 := hid (kq_2 C0.out bb1)
  obtain ⟨x0, x1, x2, x3, x4, x5, x6, y0, y1, y2, y3, y4, y5, y6, v10, v11, v12, v13, v14, v15, v16⟩ := C1.out.2
  clear bb1 C0 c0 c1 c2 c3 c4 c5 c6
  go_wp2_with fail
  go_region_held3 (fun a => (Below w.heap.size w a ∧ B ≤ a.heap.size ∧ b < a.heap.size ∧ Box w.heap.size 30 o n s (.slice a1 ns.length q1) (.slice (some ⟨b, off, none⟩) 2 q2) p a ∧ Box (w.heap.size + 1) x.kind x.op x.num x.str (.slice xa x.names.length xq) (.slice xc x.kids.length xr) x.pl a ∧ NdIn B a x (.slice xa x.names.length xq) (.slice xc x.kids.length xr) ∧ NdIn B a y (.slice ya y.names.length yq) (.slice yc y.kids.length yr)) ∧ a.cell? ⟨w.heap.size, 0, none⟩ = some (.int .i64 30) ∧ a.cell? ⟨w.heap.size, 1, none⟩ = some (.int .i64 o) ∧ a.cell? ⟨w.heap.size, 2, none⟩ = some (.int .i64 n) ∧ a.cell? ⟨w.heap.size, 3, none⟩ = some (.string s) ∧ a.cell? ⟨w.heap.size, 4, none⟩ = some (.slice a1 ns.length q1) ∧ a.cell? ⟨w.heap.size, 5, none⟩ = some (.slice (some ⟨b, off, none⟩) 2 q2) ∧ a.cell? ⟨w.heap.size, 6, none⟩ = some (.int .i64 p) ∧ a.cell? ⟨w.heap.size + 1, 0, none⟩ = some (.int .i64 x.kind) ∧ a.cell? ⟨w.heap.size + 1, 1, none⟩ = some (.int .i64 x.op) ∧ a.cell? ⟨w.heap.size + 1, 2, none⟩ = some (.int .i64 x.num) ∧ a.cell? ⟨w.heap.size + 1, 3, none⟩ = some (.string x.str) ∧ a.cell? ⟨w.heap.size + 1, 4, none⟩ = some (.slice xa x.names.length xq) ∧ a.cell? ⟨w.heap.size + 1, 5, none⟩ = some (.slice xc x.kids.length xr) ∧ a.cell? ⟨w.heap.size + 1, 6, none⟩ = some (.int .i64 x.pl) ∧ a.cell? ⟨b, off + 7, none⟩ = some (.int .i64 y.kind) ∧ a.cell? ⟨b, off + 7 + 1, none⟩ = some (.int .i64 y.op) ∧ a.cell? ⟨b, off + 7 + 2, none⟩ = some (.int .i64 y.num) ∧ a.cell? ⟨b, off + 7 + 3, none⟩ = some (.string y.str) ∧ a.cell? ⟨b, off + 7 + 4, none⟩ = some (.slice ya y.names.length yq) ∧ a.cell? ⟨b, off + 7 + 5, none⟩ = some (.slice yc y.kids.length yr) ∧ a.cell? ⟨b, off + 7 + 6, none⟩ = some (.int .i64 y.pl))
    (first | assumption | exact kq_2 (by assumption) bb | exact kq_2 C1.out (Below.refl _ _).drew | exact kq_2 (by assumption) (Below.refl _ _).drew)
    (first
      | (go_at_call_of 53 x; refine (HE0.out B _ _ _ (kq_2_core (by assumption)).2.1 (hid (kq_2_core (by assumption)).2.2.2.2.2.1)).mono ?_; rintro e wx ⟨rfl, bb⟩)
      | (go_at_call 55; refine (rblock_calls y.kids HT0.out HT1.out hTl B _ _ (kq_2_core (by assumption)).2.1 (hid (ndIn_kids (kq_2_core (by assumption)).2.2.2.2.2.2))).mono ?_; rintro e wx ⟨rfl, bb⟩))
  all_goals
    rename_i hz
    have Z := hid hz.1.1
    clear hz
    go_wp2_with fail
    go_ret
    exact ⟨by rw [HT.out]; rfl, Z.out⟩

set_option maxHeartbeats 3200000 in
set_option maxRecDepth 100000 in
theorem rstmt_24 (o n : Int) (s : ByteArray) (ns : List ByteArray) (x y z : Nd) (p : Int) (hE0 : RExprAt x) (hl0 : (textN x).e.length ≤ 100000000) (hE1 : RExprAt y) (hl1 : (textN y).e.length ≤ 100000000) (hE2 : RExprAt z) (hl2 : (textN z).e.length ≤ 100000000) (hr : x.kind = 10 → 1 ≤ x.op ∧ x.op ≤ 11) (_hs : s.size ≤ 600) : RStmtAt (.mk 24 o n s ns [x, y, z] p) := by
  intro B w nv kv hB h1
  obtain ⟨hs1, hk1⟩ := ndIn_mk.1 h1.out
  obtain ⟨a1, q1, rfl, _⟩ := strsIn_cases hs1
  obtain ⟨a2, q2, rfl, hkk⟩ := kidsIn_cases hk1
  obtain ⟨b, off, rfl, hbB, hat⟩ := hkk.resolve_left (by simp)
  obtain ⟨nv0, kv0, hnode0, hin0⟩ := ndsAt_get hat 0 (by simp)
  obtain ⟨nv1, kv1, hnode1, hin1⟩ := ndsAt_get hat 1 (by simp)
  obtain ⟨nv2, kv2, hnode2, hin2⟩ := ndsAt_get hat 2 (by simp)
  simp only [List.getElem_cons_zero, List.getElem_cons_succ, Nat.zero_mul, Nat.add_zero, Nat.one_mul, Nat.reduceMul] at hnode0 hin0 hnode1 hin1 hnode2 hin2
  simp only [Nd.kind, Nd.op, Nd.num, Nd.str, Nd.pl, List.length_cons, List.length_nil, Nat.zero_add, Nat.reduceAdd]
  obtain ⟨xa, xq, xc, xr, rfl, rfl⟩ := ndIn_shape hin0
  obtain ⟨ya, yq, yc, yr, rfl, rfl⟩ := ndIn_shape hin1
  obtain ⟨za, zq, zc, zr, rfl, rfl⟩ := ndIn_shape hin2
  obtain ⟨c0, c1, c2, c3, c4, c5, c6⟩ := hnode0
  have hal := box2_below w (.cells #[.int .i64 24, .int .i64 o, .int .i64 n, .string s, .slice a1 ns.length q1, .slice (some ⟨b, off, none⟩) 3 q2, .int .i64 p] 25) (.cells #[.int .i64 x.kind, .int .i64 x.op, .int .i64 x.num, .string x.str, .slice xa x.names.length xq, .slice xc x.kids.length xr, .int .i64 x.pl] 25)
  have hbx := boxes2 w 24 o n s (.slice a1 ns.length q1) (.slice (some ⟨b, off, none⟩) 3 q2) p x.kind x.op x.num x.str (.slice xa x.names.length xq) (.slice xc x.kids.length xr) x.pl
  have hbl : b < w.heap.size := by omega
  have D1 := nodeAt_on hnode1 hbB (hal.mono hB)
  have D2 := nodeAt_on hnode2 hbB (hal.mono hB)
  have C0 := hid (kq_3_mk hal (by simp; omega) (by simp; omega) hbx.1 hbx.2 (ndIn_on (hal.mono hB) _ _ _ hin0) (ndIn_on (hal.mono hB) _ _ _ hin1) (ndIn_on (hal.mono hB) _ _ _ hin2) (D1.1) (D1.2.1) (D1.2.2.1) (D1.2.2.2.1) (D1.2.2.2.2.1) (D1.2.2.2.2.2.1) (D1.2.2.2.2.2.2) (D2.1) (D2.2.1) (D2.2.2.1) (D2.2.2.2.1) (D2.2.2.2.2.1) (D2.2.2.2.2.2.1) (D2.2.2.2.2.2.2))
  have HE0 := hid hE0
  have HL0 := hid hl0
  have HE1 := hid hE1
  have HL1 := hid hl1
  have HE2 := hid hE2
  have HL2 := hid hl2
  have hrl := brT_len (decide (rankT x.kind x.op < 8)) (textN x).e
  have HT := hid (show (⟨(textN (.mk 24 o n s ns [x, y, z] p)).s.toArray⟩ : ByteArray) = ⟨(brT (decide (rankT x.kind x.op < 8)) (textN x).e).toArray⟩ ++ ⟨#[91]⟩ ++ ⟨(textN y).e.toArray⟩ ++ ⟨#[93, 32, 61, 32]⟩ ++ ⟨(textN z).e.toArray⟩ ++ ⟨#[59]⟩ by
    rw [textN_mk]; apply ByteArray.ext; simp [stmtT, shortT, at0, at1, at2, indexT, becomesT, tight_in, textN_rank])
  have f1 : ¬ (9223372036854775807 < (brT (decide (rankT x.kind x.op < 8)) (textN x).e).length + 1) := by omega
  have f2 : ¬ (9223372036854775807 < (brT (decide (rankT x.kind x.op < 8)) (textN x).e).length + 1 + (textN y).e.length) := by omega
  have f3 : ¬ (9223372036854775807 < (brT (decide (rankT x.kind x.op < 8)) (textN x).e).length + 1 + (textN y).e.length + 4) := by omega
  have f4 : ¬ (9223372036854775807 < (brT (decide (rankT x.kind x.op < 8)) (textN x).e).length + 1 + (textN y).e.length + 4 + (textN z).e.length) := by omega
  have f5 : ¬ (9223372036854775807 < (brT (decide (rankT x.kind x.op < 8)) (textN x).e).length + 1 + (textN y).e.length + 4 + (textN z).e.length + 1) := by omega
  clear hrl
  clear hal hbx hin0 hin1 hin2 hkk hat hs1 hk1 h1 hE0 hl0 hE1 hl1 hE2 hl2 hnode1 D1 hnode2 D2
  go_enter Tryd.func38, Tryd.ntmps38
  go_wp2_with fail
  refine (rrank_calls x.kind x.op x.num x.str xa x.names.length xq xc x.kids.length xr x.pl _ hr).mono ?_
  rintro e w1 ⟨rfl, bb1⟩
  have C1 := hid (kq_3 C0.out bb1)
  obtain ⟨x0, x1, x2, x3, x4, x5, x6, y0, y1, y2, y3, y4, y5, y6, v10, v11, v12, v13, v14, v15, v16, v20, v21, v22, v23, v24, v25, v26⟩ := C1.out.2
  clear bb1 C0 c0 c1 c2 c3 c4 c5 c6
  go_wp2_with fail
  go_region_held3 (fun a => (Below w.heap.size w a ∧ B ≤ a.heap.size ∧ b < a.heap.size ∧ Box w.heap.size 24 o n s (.slice a1 ns.length q1) (.slice (some ⟨b, off, none⟩) 3 q2) p a ∧ Box (w.heap.size + 1) x.kind x.op x.num x.str (.slice xa x.names.length xq) (.slice xc x.kids.length xr) x.pl a ∧ NdIn B a x (.slice xa x.names.length xq) (.slice xc x.kids.length xr) ∧ NdIn B a y (.slice ya y.names.length yq) (.slice yc y.kids.length yr) ∧ NdIn B a z (.slice za z.names.length zq) (.slice zc z.kids.length zr)) ∧ a.cell? ⟨w.heap.size, 0, none⟩ = some (.int .i64 24) ∧ a.cell? ⟨w.heap.size, 1, none⟩ = some (.int .i64 o) ∧ a.cell? ⟨w.heap.size, 2, none⟩ = some (.int .i64 n) ∧ a.cell? ⟨w.heap.size, 3, none⟩ = some (.string s) ∧ a.cell? ⟨w.heap.size, 4, none⟩ = some (.slice a1 ns.length q1) ∧ a.cell? ⟨w.heap.size, 5, none⟩ = some (.slice (some ⟨b, off, none⟩) 3 q2) ∧ a.cell? ⟨w.heap.size, 6, none⟩ = some (.int .i64 p) ∧ a.cell? ⟨w.heap.size + 1, 0, none⟩ = some (.int .i64 x.kind) ∧ a.cell? ⟨w.heap.size + 1, 1, none⟩ = some (.int .i64 x.op) ∧ a.cell? ⟨w.heap.size + 1, 2, none⟩ = some (.int .i64 x.num) ∧ a.cell? ⟨w.heap.size + 1, 3, none⟩ = some (.string x.str) ∧ a.cell? ⟨w.heap.size + 1, 4, none⟩ = some (.slice xa x.names.length xq) ∧ a.cell? ⟨w.heap.size + 1, 5, none⟩ = some (.slice xc x.kids.length xr) ∧ a.cell? ⟨w.heap.size + 1, 6, none⟩ = some (.int .i64 x.pl) ∧ a.cell? ⟨b, off + 7, none⟩ = some (.int .i64 y.kind) ∧ a.cell? ⟨b, off + 7 + 1, none⟩ = some (.int .i64 y.op) ∧ a.cell? ⟨b, off + 7 + 2, none⟩ = some (.int .i64 y.num) ∧ a.cell? ⟨b, off + 7 + 3, none⟩ = some (.string y.str) ∧ a.cell? ⟨b, off + 7 + 4, none⟩ = some (.slice ya y.names.length yq) ∧ a.cell? ⟨b, off + 7 + 5, none⟩ = some (.slice yc y.kids.length yr) ∧ a.cell? ⟨b, off + 7 + 6, none⟩ = some (.int .i64 y.pl) ∧ a.cell? ⟨b, off + 14, none⟩ = some (.int .i64 z.kind) ∧ a.cell? ⟨b, off + 14 + 1, none⟩ = some (.int .i64 z.op) ∧ a.cell? ⟨b, off + 14 + 2, none⟩ = some (.int .i64 z.num) ∧ a.cell? ⟨b, off + 14 + 3, none⟩ = some (.string z.str) ∧ a.cell? ⟨b, off + 14 + 4, none⟩ = some (.slice za z.names.length zq) ∧ a.cell? ⟨b, off + 14 + 5, none⟩ = some (.slice zc z.kids.length zr) ∧ a.cell? ⟨b, off + 14 + 6, none⟩ = some (.int .i64 z.pl))
    (first | assumption | exact kq_3 (by assumption) bb | exact kq_3 C1.out (Below.refl _ _).drew | exact kq_3 (by assumption) (Below.refl _ _).drew)
    (first
      | (go_at_call_of 53 y; refine (HE1.out B _ _ _ (kq_3_core (by assumption)).2.1 (hid (kq_3_core (by assumption)).2.2.2.2.2.2.1)).mono ?_; rintro e wx ⟨rfl, bb⟩)
      | (go_at_call_of 53 z; refine (HE2.out B _ _ _ (kq_3_core (by assumption)).2.1 (hid (kq_3_core (by assumption)).2.2.2.2.2.2.2)).mono ?_; rintro e wx ⟨rfl, bb⟩)
      | (go_at_call 54; refine (rat_calls x HE0.out (decide (rankT x.kind x.op < 8)) HL0.out B _ _ _ (kq_3_core (by assumption)).2.1 (hid (kq_3_core (by assumption)).2.2.2.2.2.1)).mono ?_; rintro e wx ⟨rfl, bb⟩))
  all_goals
    rename_i hz
    have Z := hid hz.1.1
    clear hz
    go_wp2_with fail
    go_ret
    exact ⟨by rw [HT.out]; rfl, Z.out⟩

end Go.Proofs.YtlnllpehifkjhaaDoor
