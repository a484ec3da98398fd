/- Objects as the document writes them. Functions as the document writes them. -/
import Derived.Test.YtlnllpehifkjhaaDoorRfStmt
import Derived.Test.YtlnllpehifkjhaaDoorRfText
namespace Go.Proofs.YtlnllpehifkjhaaDoor
open Go.RowKit

theorem ko_1 {w a c : World} {B g0 b d of1 of2 : Nat} {k0 o0 n0 : Int} {s0 : ByteArray} {nv0 kv0 : Value} {p0 : Int} {k1 o1 n1 : Int} {s1 : ByteArray} {nv1 kv1 : Value} {p1 : Int} {t : Nd} {mv lv : Value} {s2 : ByteArray} (h : (Below w.heap.size w a ∧ B ≤ a.heap.size ∧ b < a.heap.size ∧ d < a.heap.size ∧ Box g0 k0 o0 n0 s0 nv0 kv0 p0 a ∧ NdIn B a t mv lv) ∧ a.cell? ⟨g0, 0, none⟩ = some (.int .i64 k0) ∧ a.cell? ⟨g0, 1, none⟩ = some (.int .i64 o0) ∧ a.cell? ⟨g0, 2, none⟩ = some (.int .i64 n0) ∧ a.cell? ⟨g0, 3, none⟩ = some (.string s0) ∧ a.cell? ⟨g0, 4, none⟩ = some nv0 ∧ a.cell? ⟨g0, 5, none⟩ = some kv0 ∧ a.cell? ⟨g0, 6, none⟩ = some (.int .i64 p0) ∧ a.cell? ⟨b, of1, none⟩ = some (.int .i64 k1) ∧ a.cell? ⟨b, of1 + 1, none⟩ = some (.int .i64 o1) ∧ a.cell? ⟨b, of1 + 2, none⟩ = some (.int .i64 n1) ∧ a.cell? ⟨b, of1 + 3, none⟩ = some (.string s1) ∧ a.cell? ⟨b, of1 + 4, none⟩ = some nv1 ∧ a.cell? ⟨b, of1 + 5, none⟩ = some kv1 ∧ a.cell? ⟨b, of1 + 6, none⟩ = some (.int .i64 p1) ∧ a.cell? ⟨d, of2, none⟩ = some (.string s2)) (q : Below a.heap.size a c) : (Below w.heap.size w c ∧ B ≤ c.heap.size ∧ b < c.heap.size ∧ d < c.heap.size ∧ Box g0 k0 o0 n0 s0 nv0 kv0 p0 c ∧ NdIn B c t mv lv) ∧ c.cell? ⟨g0, 0, none⟩ = some (.int .i64 k0) ∧ c.cell? ⟨g0, 1, none⟩ = some (.int .i64 o0) ∧ c.cell? ⟨g0, 2, none⟩ = some (.int .i64 n0) ∧ c.cell? ⟨g0, 3, none⟩ = some (.string s0) ∧ c.cell? ⟨g0, 4, none⟩ = some nv0 ∧ c.cell? ⟨g0, 5, none⟩ = some kv0 ∧ c.cell? ⟨g0, 6, none⟩ = some (.int .i64 p0) ∧ c.cell? ⟨b, of1, none⟩ = some (.int .i64 k1) ∧ c.cell? ⟨b, of1 + 1, none⟩ = some (.int .i64 o1) ∧ c.cell? ⟨b, of1 + 2, none⟩ = some (.int .i64 n1) ∧ c.cell? ⟨b, of1 + 3, none⟩ = some (.string s1) ∧ c.cell? ⟨b, of1 + 4, none⟩ = some nv1 ∧ c.cell? ⟨b, of1 + 5, none⟩ = some kv1 ∧ c.cell? ⟨b, of1 + 6, none⟩ = some (.int .i64 p1) ∧ c.cell? ⟨d, of2, none⟩ = some (.string s2) := by
  obtain ⟨⟨h1, h2, hb, hd, x0, y⟩, _, _, _, _, _, _, _, e0, e1, e2, e3, e4, e5, e6, f⟩ := h
  have z0 := box_on x0 q
  obtain ⟨c00, c01, c02, c03, c04, c05, c06⟩ := box_cells z0
  exact ⟨⟨below_in h1 (Nat.le_refl _) q, Nat.le_trans h2 q.size, Nat.lt_of_lt_of_le hb q.size, Nat.lt_of_lt_of_le hd q.size, z0, ndIn_on (q.mono h2) _ _ _ y⟩, c00, c01, c02, c03, c04, c05, c06, cell_keep q hb e0, cell_keep q hb e1, cell_keep q hb e2, cell_keep q hb e3, cell_keep q hb e4, cell_keep q hb e5, cell_keep q hb e6, cell_keep q hd f⟩
theorem ko_1_mk {w a : World} {B g0 b d of1 of2 : Nat} {k0 o0 n0 : Int} {s0 : ByteArray} {nv0 kv0 : Value} {p0 : Int} {k1 o1 n1 : Int} {s1 : ByteArray} {nv1 kv1 : Value} {p1 : Int} {t : Nd} {mv lv : Value} {s2 : ByteArray} (h1 : Below w.heap.size w a) (h2 : B ≤ a.heap.size) (hb : b < a.heap.size) (hd : d < a.heap.size) (x0 : Box g0 k0 o0 n0 s0 nv0 kv0 p0 a) (y : NdIn B a t mv lv) (n : NodeAt b of1 k1 o1 n1 s1 nv1 kv1 p1 a) (f : a.cell? ⟨d, of2, none⟩ = some (.string s2)) : (Below w.heap.size w a ∧ B ≤ a.heap.size ∧ b < a.heap.size ∧ d < a.heap.size ∧ Box g0 k0 o0 n0 s0 nv0 kv0 p0 a ∧ NdIn B a t mv lv) ∧ a.cell? ⟨g0, 0, none⟩ = some (.int .i64 k0) ∧ a.cell? ⟨g0, 1, none⟩ = some (.int .i64 o0) ∧ a.cell? ⟨g0, 2, none⟩ = some (.int .i64 n0) ∧ a.cell? ⟨g0, 3, none⟩ = some (.string s0) ∧ a.cell? ⟨g0, 4, none⟩ = some nv0 ∧ a.cell? ⟨g0, 5, none⟩ = some kv0 ∧ a.cell? ⟨g0, 6, none⟩ = some (.int .i64 p0) ∧ a.cell? ⟨b, of1, none⟩ = some (.int .i64 k1) ∧ a.cell? ⟨b, of1 + 1, none⟩ = some (.int .i64 o1) ∧ a.cell? ⟨b, of1 + 2, none⟩ = some (.int .i64 n1) ∧ a.cell? ⟨b, of1 + 3, none⟩ = some (.string s1) ∧ a.cell? ⟨b, of1 + 4, none⟩ = some nv1 ∧ a.cell? ⟨b, of1 + 5, none⟩ = some kv1 ∧ a.cell? ⟨b, of1 + 6, none⟩ = some (.int .i64 p1) ∧ a.cell? ⟨d, of2, none⟩ = some (.string s2) := by
  obtain ⟨c00, c01, c02, c03, c04, c05, c06⟩ := box_cells x0
  obtain ⟨e0, e1, e2, e3, e4, e5, e6⟩ := n
  exact ⟨⟨h1, h2, hb, hd, x0, y⟩, c00, c01, c02, c03, c04, c05, c06, e0, e1, e2, e3, e4, e5, e6, f⟩
theorem ko_1_core {w a : World} {B g0 b d : Nat} {k0 o0 n0 : Int} {s0 : ByteArray} {nv0 kv0 : Value} {p0 : Int} {t : Nd} {mv lv : Value} {R : Prop} (h : (Below w.heap.size w a ∧ B ≤ a.heap.size ∧ b < a.heap.size ∧ d < a.heap.size ∧ Box g0 k0 o0 n0 s0 nv0 kv0 p0 a ∧ NdIn B a t mv lv) ∧ R) : (Below w.heap.size w a ∧ B ≤ a.heap.size ∧ b < a.heap.size ∧ d < a.heap.size ∧ Box g0 k0 o0 n0 s0 nv0 kv0 p0 a ∧ NdIn B a t mv lv) := h.1

/-- the parts of an object, as far as they are written -/
def innerT : List ByteArray → List Tx → List UInt8
  | s :: ns, x :: r => fieldT s x ++ fieldsT ns r
  | _, _ => []
theorem obj_inner (ns : List ByteArray) (l : List Tx) : objT ns l = 123 :: (innerT ns l ++ [125]) := by
  cases ns <;> cases l <;> simp [objT, innerT]
theorem fields_snoc : ∀ (ns : List ByteArray) (l : List Tx) (s : ByteArray) (x : Tx), ns.length = l.length → fieldsT (ns ++ [s]) (l ++ [x]) = fieldsT ns l ++ (44 :: 32 :: fieldT s x)
  | [], [], s, x, _ => by simp [fieldsT]
  | n :: ns, y :: l, s, x, h => by
    simp only [List.cons_append, fieldsT]
    rw [fields_snoc ns l s x (by simpa using h)]; simp
  | [], y :: l, s, x, h => by simp at h
  | n :: ns, [], s, x, h => by simp at h
theorem inner_snoc (ns : List ByteArray) (l : List Tx) (s : ByteArray) (x : Tx) (h : ns.length = l.length) : innerT (ns ++ [s]) (l ++ [x]) = innerT ns l ++ ((if ns.length = 0 then [] else [44, 32]) ++ fieldT s x) := by
  cases ns with
  | nil =>
    cases l with
    | nil => simp [innerT, fieldsT]
    | cons => simp at h
  | cons n ns =>
    cases l with
    | nil => simp at h
    | cons y l =>
      simp only [List.cons_append, innerT]
      rw [fields_snoc ns l s x (by simpa using h)]; simp
theorem inner_len (ns : List ByteArray) (l : List Tx) (h : ∀ x ∈ ns, x.size ≤ 100) : (innerT ns l).length ≤ sum4 l + 102 * ns.length := by
  cases ns with
  | nil => cases l <;> simp [innerT]
  | cons s ns =>
    cases l with
    | nil => simp [innerT]
    | cons t l =>
      have := fields_len ns l (fun x hx => h x (by simp [hx]))
      have h1 := h s (by simp)
      have := mx_e t
      have := list_size s
      rw [sum4_cons]
      simp only [innerT, fieldT, List.length_append, List.length_cons]
      omega

set_option maxHeartbeats 3200000 in
set_option maxRecDepth 100000 in
theorem rexpr_7 (o n : Int) (s : ByteArray) (ns : List ByteArray) (ks : List Nd) (p : Int) (hn : ns.length = ks.length) (hE : ∀ x ∈ ks, RExprAt x) (hlen : sum4 (ks.map textN) ≤ 100000000) (hks : ks.length ≤ 1000) (h100 : ∀ x ∈ ns, x.size ≤ 100) : RExprAt (.mk 7 o n s ns ks p) := by
  intro B w nv kv hB h1
  obtain ⟨hs1, hk1⟩ := ndIn_mk.1 h1.out
  obtain ⟨a1, q1, rfl, hss⟩ := strsIn_cases hs1
  obtain ⟨a2, q2, rfl, hkk⟩ := kidsIn_cases hk1
  simp only [Nd.kind, Nd.op, Nd.num, Nd.str, Nd.pl]
  have HT := hid (show (⟨(textN (.mk 7 o n s ns ks p)).e.toArray⟩ : ByteArray) = ⟨#[123]⟩ ++ ⟨(innerT ns (ks.map textN)).toArray⟩ ++ ⟨#[125]⟩ by
    rw [textN_mk]; apply ByteArray.ext; simp [exprT, obj_inner])
  have hil := inner_len ns (ks.map textN) h100
  have KS := hid hkk
  have SS := hid hss
  have IH := hid hE
  have H100 := hid h100
  have HN := hid hn
  have X := hid (box_new w 7 o n s (.slice a1 ns.length q1) (.slice a2 ks.length q2) p)
  have AL := hid (box1_below w (.cells #[.int .i64 7, .int .i64 o, .int .i64 n, .string s, .slice a1 ns.length q1, .slice a2 ks.length q2, .int .i64 p] 25))
  clear hE h1 hk1 hkk hs1 hss h100 hn
  go_enter Tryd.func53, Tryd.ntmps53
  go_wp2_with fail
  go_loopw [3, 4] (fun t i wr => ∃ j : Nat, j ≤ ks.length ∧ i = .int .i64 j ∧ t = .string ⟨(innerT (ns.take j) ((ks.take j).map textN)).toArray⟩ ∧ Below w.heap.size w wr ∧ Box w.heap.size 7 o n s (.slice a1 ns.length q1) (.slice a2 ks.length q2) p wr) (fun _ i _ => ks.length - (intOf i).toNat)
  case atStart => exact ⟨0, Nat.zero_le _, rfl, by simp [innerT], AL.out, X.out⟩
  case round =>
    clear X AL
    obtain ⟨j, hj, rfl, rfl, hb, hx⟩ := hrel
    have d5 := (box_cells hx).2.2.2.2.2.1
    have hl1 : (innerT (ns.take j) ((ks.take j).map textN)).length ≤ 100200000 := by
      have h1 := inner_len (ns.take j) ((ks.take j).map textN) (fun x hx => H100.out x (List.mem_of_mem_take hx))
      have h2 := sum4_take (ks.map textN) j
      rw [← List.map_take] at h2
      have h3 : (ns.take j).length ≤ j := by simp; omega
      omega
    by_cases hjl : j < ks.length
    · have hjn : j < ns.length := by rw [HN.out]; exact hjl
      obtain ⟨b, off, rfl, hbB, hat⟩ := KS.out.resolve_left (fun h => by rw [h] at hjl; cases hjl)
      obtain ⟨d, dof, rfl, hdB, hsa⟩ := SS.out.resolve_left (fun h => by rw [h] at hjn; cases hjn)
      obtain ⟨nv', kv', hnode, hin⟩ := ndsAt_get hat j hjl
      have hb' := hb.mono hB
      have hnode' := nodeAt_on hnode hbB hb'
      have hin' := ndIn_on hb' _ _ _ hin
      have hnm := cell_keep hb' hdB (hsa j hjn)
      have ih := IH.out ks[j] (List.getElem_mem hjl)
      have hxl : (textN ks[j]).e.length ≤ 100000000 := by
        have h1 := sum4_mem (List.mem_map_of_mem (f := textN) (List.getElem_mem hjl))
        have h2 := mx_e (textN ks[j])
        omega
      have hnl : ns[j].size ≤ 100 := H100.out _ (List.getElem_mem hjn)
      have HTT := hid (show innerT (ns.take (j + 1)) ((ks.take (j + 1)).map textN) = innerT (ns.take j) ((ks.take j).map textN) ++ ((if j = 0 then [] else [44, 32]) ++ (ns[j].data.toList ++ (58 :: 32 :: (textN ks[j]).e))) by
        have hl : (ns.take j).length = j := by rw [List.length_take]; omega
        have := inner_snoc (ns.take j) ((ks.take j).map textN) ns[j] (textN ks[j]) (by rw [hl, List.length_map, List.length_take]; omega)
        rw [hl] at this
        rw [List.take_succ_eq_append_getElem hjn, map_take_one ks j hjl]
        exact this)
      have HZ := hid (fun (h : ¬ 0 < j) => show innerT (ns.take j) ((ks.take j).map textN) = [] by rw [show j = 0 by omega]; simp [innerT])
      generalize ks[j] = x at *
      generalize ns[j] = nj at *
      have hsz := hb.size
      obtain ⟨b1, r1, b2, r2, rfl, rfl⟩ := ndIn_shape hin
      have C0 := hid (ko_1_mk hb (Nat.le_trans hB hsz) (Nat.lt_of_lt_of_le hbB (Nat.le_trans hB hsz)) (Nat.lt_of_lt_of_le hdB (Nat.le_trans hB hsz)) hx hin' hnode' hnm)
      have IH' := hid ih
      have hbl : b < wr.heap.size := Nat.lt_of_lt_of_le hbB (Nat.le_trans hB hsz)
      have hdl : d < wr.heap.size := Nat.lt_of_lt_of_le hdB (Nat.le_trans hB hsz)
      clear hin hin' hnode hnode' hnm hat hsa hb hb' ih KS SS IH hx d5 H100 HN HT
      by_cases h0 : 0 < j
      · have HT1 := hid (HTT.out.trans (by rw [if_neg (by omega)]))
        clear HTT HZ
        generalize innerT (ns.take j) ((ks.take j).map textN) = sf at *
        have f1 : ¬ (9223372036854775807 < sf.length + 2 + nj.size) := by omega
        have f2 : ¬ (9223372036854775807 < sf.length + 2 + nj.size + 2) := by omega
        have f3 : ¬ (9223372036854775807 < sf.length + 2 + nj.size + 2 + (textN x).e.length) := by omega
        obtain ⟨e0, e1, e2, e3, e4, e5, e6, c0, c1, c2, c3, c4, c5, c6, d0⟩ := C0.out.2
        go_wp2_with fail
        go_region_held3 (fun a => (Below w.heap.size w a ∧ B ≤ a.heap.size ∧ b < a.heap.size ∧ d < a.heap.size ∧ Box w.heap.size 7 o n s (.slice (some ⟨d, dof, none⟩) ns.length q1) (.slice (some ⟨b, off, none⟩) ks.length q2) p a ∧ NdIn B a x (.slice b1 x.names.length r1) (.slice b2 x.kids.length r2)) ∧ a.cell? ⟨w.heap.size, 0, none⟩ = some (.int .i64 7) ∧ a.cell? ⟨w.heap.size, 1, none⟩ = some (.int .i64 o) ∧ a.cell? ⟨w.heap.size, 2, none⟩ = some (.int .i64 n) ∧ a.cell? ⟨w.heap.size, 3, none⟩ = some (.string s) ∧ a.cell? ⟨w.heap.size, 4, none⟩ = some (.slice (some ⟨d, dof, none⟩) ns.length q1) ∧ a.cell? ⟨w.heap.size, 5, none⟩ = some (.slice (some ⟨b, off, none⟩) ks.length q2) ∧ a.cell? ⟨w.heap.size, 6, none⟩ = some (.int .i64 p) ∧ a.cell? ⟨b, off + j * 7, none⟩ = some (.int .i64 x.kind) ∧ a.cell? ⟨b, off + j * 7 + 1, none⟩ = some (.int .i64 x.op) ∧ a.cell? ⟨b, off + j * 7 + 2, none⟩ = some (.int .i64 x.num) ∧ a.cell? ⟨b, off + j * 7 + 3, none⟩ = some (.string x.str) ∧ a.cell? ⟨b, off + j * 7 + 4, none⟩ = some (.slice b1 x.names.length r1) ∧ a.cell? ⟨b, off + j * 7 + 5, none⟩ = some (.slice b2 x.kids.length r2) ∧ a.cell? ⟨b, off + j * 7 + 6, none⟩ = some (.int .i64 x.pl) ∧ a.cell? ⟨d, dof + j, none⟩ = some (.string nj))
          (first | assumption | exact ko_1 (by assumption) bb | exact ko_1 C0.out (Below.refl _ _).drew | exact ko_1 (by assumption) (Below.refl _ _).drew)
          (first
            | (go_at_call 53; refine (IH'.out B _ _ _ (ko_1_core (by assumption)).2.1 (hid (ko_1_core (by assumption)).2.2.2.2.2)).mono ?_; rintro e wx ⟨rfl, bb⟩))
        all_goals
          rename_i hz
          have Z := hid hz.1
          clear hz C0 e0 e1 e2 e3 e4 e5 e6 c0 c1 c2 c3 c4 c5 c6 d0
          generalize (textN x).e = xe at *
          go_wp2_with fail
          go_roundw
          case rel => exact ⟨j + 1, by omega, by go_num, by rw [HT1.out]; congr 1; apply ByteArray.ext; simp, Z.out.1, Z.out.2.2.2.2.1⟩
          case measure => simp [intOf]; omega
      · have HT1 := hid (HTT.out.trans (by rw [if_pos (by omega)]))
        have HZ1 := hid (HZ.out h0)
        clear HTT HZ
        generalize innerT (ns.take j) ((ks.take j).map textN) = sf at *
        have f1 : ¬ (9223372036854775807 < sf.length + nj.size) := by omega
        have f2 : ¬ (9223372036854775807 < sf.length + nj.size + 2) := by omega
        have f3 : ¬ (9223372036854775807 < sf.length + nj.size + 2 + (textN x).e.length) := by omega
        obtain ⟨e0, e1, e2, e3, e4, e5, e6, c0, c1, c2, c3, c4, c5, c6, d0⟩ := C0.out.2
        go_wp2_with fail
        go_region_held3 (fun a => (Below w.heap.size w a ∧ B ≤ a.heap.size ∧ b < a.heap.size ∧ d < a.heap.size ∧ Box w.heap.size 7 o n s (.slice (some ⟨d, dof, none⟩) ns.length q1) (.slice (some ⟨b, off, none⟩) ks.length q2) p a ∧ NdIn B a x (.slice b1 x.names.length r1) (.slice b2 x.kids.length r2)) ∧ a.cell? ⟨w.heap.size, 0, none⟩ = some (.int .i64 7) ∧ a.cell? ⟨w.heap.size, 1, none⟩ = some (.int .i64 o) ∧ a.cell? ⟨w.heap.size, 2, none⟩ = some (.int .i64 n) ∧ a.cell? ⟨w.heap.size, 3, none⟩ = some (.string s) ∧ a.cell? ⟨w.heap.size, 4, none⟩ = some (.slice (some ⟨d, dof, none⟩) ns.length q1) ∧ a.cell? ⟨w.heap.size, 5, none⟩ = some (.slice (some ⟨b, off, none⟩) ks.length q2) ∧ a.cell? ⟨w.heap.size, 6, none⟩ = some (.int .i64 p) ∧ a.cell? ⟨b, off + j * 7, none⟩ = some (.int .i64 x.kind) ∧ a.cell? ⟨b, off + j * 7 + 1, none⟩ = some (.int .i64 x.op) ∧ a.cell? ⟨b, off + j * 7 + 2, none⟩ = some (.int .i64 x.num) ∧ a.cell? ⟨b, off + j * 7 + 3, none⟩ = some (.string x.str) ∧ a.cell? ⟨b, off + j * 7 + 4, none⟩ = some (.slice b1 x.names.length r1) ∧ a.cell? ⟨b, off + j * 7 + 5, none⟩ = some (.slice b2 x.kids.length r2) ∧ a.cell? ⟨b, off + j * 7 + 6, none⟩ = some (.int .i64 x.pl) ∧ a.cell? ⟨d, dof + j, none⟩ = some (.string nj))
          (first | assumption | exact ko_1 (by assumption) bb | exact ko_1 C0.out (Below.refl _ _).drew | exact ko_1 (by assumption) (Below.refl _ _).drew)
          (first
            | (go_at_call 53; refine (IH'.out B _ _ _ (ko_1_core (by assumption)).2.1 (hid (ko_1_core (by assumption)).2.2.2.2.2)).mono ?_; rintro e wx ⟨rfl, bb⟩))
        all_goals
          rename_i hz
          have Z := hid hz.1
          clear hz C0 e0 e1 e2 e3 e4 e5 e6 c0 c1 c2 c3 c4 c5 c6 d0
          generalize (textN x).e = xe at *
          go_wp2_with fail
          go_roundw
          case rel => exact ⟨j + 1, by omega, by go_num, by rw [HT1.out, HZ1.out]; congr 1; apply ByteArray.ext; simp, Z.out.1, Z.out.2.2.2.2.1⟩
          case measure => simp [intOf]; omega
    · have e1 : ks.take j = ks := List.take_of_length_le (by omega)
      have e2 : ns.take j = ns := List.take_of_length_le (by have := HN.out; omega)
      have BB := hid hb
      have H2 := hid (show (⟨(textN (.mk 7 o n s ns ks p)).e.toArray⟩ : ByteArray) = ⟨#[123]⟩ ++ ⟨(innerT (ns.take j) ((ks.take j).map textN)).toArray⟩ ++ ⟨#[125]⟩ by rw [e1, e2]; exact HT.out)
      clear hb hx HT e1 e2
      generalize innerT (ns.take j) ((ks.take j).map textN) = sf at *
      go_wp2_with fail
      go_ret
      exact ⟨by rw [H2.out]; rfl, BB.out⟩

end Go.Proofs.YtlnllpehifkjhaaDoor

namespace Go.Proofs.YtlnllpehifkjhaaDoor
open Go.RowKit

theorem join_snoc (ns : List ByteArray) (s : ByteArray) : joinT (ns ++ [s]) = joinT ns ++ ((if ns.length = 0 then [] else [44, 32]) ++ s.data.toList) := by
  cases ns with
  | nil => simp [joinT]
  | cons n ns => simp [joinT]
theorem join_len2 (ns : List ByteArray) (h : ∀ x ∈ ns, x.size ≤ 100) : (joinT ns).length ≤ 102 * ns.length := by
  have key : ∀ ns : List ByteArray, (∀ x ∈ ns, x.size ≤ 100) → (ns.flatMap fun x => 44 :: 32 :: x.data.toList).length ≤ 102 * ns.length := by
    intro ns
    induction ns with
    | nil => intro _; simp
    | cons s ns ih =>
      intro h
      have := ih (fun x hx => h x (by simp [hx]))
      have h1 := h s (by simp)
      have := list_size s
      simp only [List.flatMap_cons, List.length_append, List.length_cons] at *
      omega
  cases ns with
  | nil => simp [joinT]
  | cons s ns =>
    have := key ns (fun x hx => h x (by simp [hx]))
    have h1 := h s (by simp)
    have := list_size s
    simp only [joinT, List.length_append, List.length_cons]
    omega

set_option maxHeartbeats 3200000 in
set_option maxRecDepth 100000 in
theorem rexpr_8 (o n : Int) (s : ByteArray) (ns : List ByteArray) (ks : List Nd) (p : Int) (hE : ∀ x ∈ ks, RStmtAt x) (hlen : sum4 (ks.map textN) ≤ 100000000) (hks : ks.length ≤ 1000) (hns : ns.length ≤ 1000) (h100 : ∀ x ∈ ns, x.size ≤ 100) : RExprAt (.mk 8 o n s ns ks p) := by
  intro B w nv kv hB h1
  obtain ⟨hs1, hk1⟩ := ndIn_mk.1 h1.out
  obtain ⟨a1, q1, rfl, hss⟩ := strsIn_cases hs1
  obtain ⟨a2, q2, rfl, _⟩ := kidsIn_cases hk1
  simp only [Nd.kind, Nd.op, Nd.num, Nd.str, Nd.pl]
  have HT := hid (show (⟨(textN (.mk 8 o n s ns ks p)).e.toArray⟩ : ByteArray) = ⟨#[102, 110, 40]⟩ ++ ⟨(joinT ns).toArray⟩ ++ ⟨#[41, 32]⟩ ++ ⟨(blockT (ks.map textN)).toArray⟩ by
    rw [textN_mk]; apply ByteArray.ext; simp [exprT])
  have hbl := block_len (ks.map textN)
  have hjl := join_len2 ns h100
  have SS := hid hss
  have IH := hid hE
  have H100 := hid h100
  have K0 := hid hk1
  have X := hid (box_new w 8 o n s (.slice a1 ns.length q1) (.slice a2 ks.length q2) p)
  have AL := hid (box1_below w (.cells #[.int .i64 8, .int .i64 o, .int .i64 n, .string s, .slice a1 ns.length q1, .slice a2 ks.length q2, .int .i64 p] 25))
  clear hE h1 hk1 hs1 hss h100
  go_enter Tryd.func53, Tryd.ntmps53
  go_wp2_with fail
  go_loopw [5, 6] (fun t i wr => ∃ j : Nat, j ≤ ns.length ∧ i = .int .i64 j ∧ t = .string ⟨(joinT (ns.take j)).toArray⟩ ∧ Below w.heap.size w wr ∧ Box w.heap.size 8 o n s (.slice a1 ns.length q1) (.slice a2 ks.length q2) p wr) (fun _ i _ => ns.length - (intOf i).toNat)
  case atStart => exact ⟨0, Nat.zero_le _, rfl, by simp [joinT], AL.out, X.out⟩
  case round =>
    clear X AL
    obtain ⟨j, hj, rfl, rfl, hb, hx⟩ := hrel
    have hl1 : (joinT (ns.take j)).length ≤ 200000 := by
      have h1 := join_len2 (ns.take j) (fun x hx => H100.out x (List.mem_of_mem_take hx))
      have h3 : (ns.take j).length ≤ j := by simp; omega
      omega
    by_cases hjn : j < ns.length
    · obtain ⟨d, dof, rfl, hdB, hsa⟩ := SS.out.resolve_left (fun h => by rw [h] at hjn; cases hjn)
      obtain ⟨d0, d1, d2, d3, d4, d5, d6⟩ := box_cells hx
      have hnm := cell_keep (hb.mono hB) hdB (hsa j hjn)
      have hnl : ns[j].size ≤ 100 := H100.out _ (List.getElem_mem hjn)
      have HTT := hid (show joinT (ns.take (j + 1)) = joinT (ns.take j) ++ ((if j = 0 then [] else [44, 32]) ++ ns[j].data.toList) by
        have hl : (ns.take j).length = j := by rw [List.length_take]; omega
        have := join_snoc (ns.take j) ns[j]
        rw [hl] at this
        rw [List.take_succ_eq_append_getElem hjn]
        exact this)
      have HZ := hid (fun (h : ¬ 0 < j) => show joinT (ns.take j) = [] by rw [show j = 0 by omega]; simp [joinT])
      generalize ns[j] = nj at *
      have BB := hid hb
      have HX := hid hx
      clear hsa hb hx SS IH H100 HT
      by_cases h0 : 0 < j
      · have HT1 := hid (HTT.out.trans (by rw [if_neg (by omega)]))
        clear HTT HZ
        generalize joinT (ns.take j) = sf at *
        go_wp2_with fail
        go_roundw
        case rel => exact ⟨j + 1, by omega, by go_num, by rw [HT1.out]; congr 1; apply ByteArray.ext; simp, BB.out, HX.out⟩
        case measure => simp [intOf]; omega
      · have HT1 := hid (HTT.out.trans (by rw [if_pos (by omega)]))
        have HZ1 := hid (HZ.out h0)
        clear HTT HZ
        generalize joinT (ns.take j) = sf at *
        go_wp2_with fail
        go_roundw
        case rel => exact ⟨j + 1, by omega, by go_num, by rw [HT1.out, HZ1.out]; congr 1, BB.out, HX.out⟩
        case measure => simp [intOf]; omega
    · have e2 : ns.take j = ns := List.take_of_length_le (by omega)
      obtain ⟨d0, d1, d2, d3, d4, d5, d6⟩ := box_cells hx
      have BB := hid hb
      have hsz := hb.size
      have K1 := hid (kidsIn_on (hb.mono hB) K0.out)
      have H2 := hid (show (⟨(textN (.mk 8 o n s ns ks p)).e.toArray⟩ : ByteArray) = ⟨#[102, 110, 40]⟩ ++ ⟨(joinT (ns.take j)).toArray⟩ ++ ⟨#[41, 32]⟩ ++ ⟨(blockT (ks.map textN)).toArray⟩ by rw [e2]; exact HT.out)
      clear hb hx HT e2 K0 SS H100
      generalize joinT (ns.take j) = sf at *
      go_wp2_with fail
      refine (rblock_calls ks IH.out hlen (by omega) B _ _ (by omega) K1).mono ?_
      rintro e w1 ⟨rfl, b1⟩
      have B1 := hid (BB.out.trans (b1.mono hsz))
      clear b1 BB K1 IH d0 d1 d2 d3 d4 d5 d6
      go_wp2_with fail
      go_ret
      exact ⟨by rw [H2.out]; rfl, B1.out⟩

end Go.Proofs.YtlnllpehifkjhaaDoor
