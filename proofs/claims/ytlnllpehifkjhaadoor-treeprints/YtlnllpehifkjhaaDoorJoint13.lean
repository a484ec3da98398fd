/- The document's if. What the document's Digits answers, for any number. -/
import Derived.Test.YtlnllpehifkjhaaDoorRfStmt2
import Derived.Test.YtlnllpehifkjhaaDoorJoint6
namespace Go.Proofs.YtlnllpehifkjhaaDoor
open Go.RowKit

set_option maxHeartbeats 3200000 in
set_option maxRecDepth 100000 in
theorem rstmt_28 (o n : Int) (s : ByteArray) (ns : List ByteArray) (x y z : Nd) (p : Int) (hE0 : RExprAt x) (hl0 : (textN x).e.length ≤ 100000000) (hT : ∀ t ∈ y.kids, RStmtAt t) (hT4 : sum4 (y.kids.map textN) ≤ 100000000) (hTl : y.kids.length ≤ 1000000) (hV : ∀ t ∈ z.kids, RStmtAt t) (hV4 : sum4 (z.kids.map textN) ≤ 100000000) (hVl : z.kids.length ≤ 1000000) (hr : x.kind = 10 → 1 ≤ x.op ∧ x.op ≤ 11) : RStmtAt (.mk 28 o n s ns [x, y, z] p) := by
  intro B w nv kv hB h1
  obtain ⟨hs1, hk1⟩ := ndIn_mk.1 h1.out
  obtain ⟨a1, q1, rfl, _⟩ := strsIn_cases hs1
  obtain ⟨a2, q2, rfl, hkk⟩ := kidsIn_cases hk1
  obtain ⟨b, off, rfl, hbB, hat⟩ := hkk.resolve_left (by simp)
  obtain ⟨nv0, kv0, hnode0, hin0⟩ := ndsAt_get hat 0 (by simp)
  obtain ⟨nv1, kv1, hnode1, hin1⟩ := ndsAt_get hat 1 (by simp)
  obtain ⟨nv2, kv2, hnode2, hin2⟩ := ndsAt_get hat 2 (by simp)
  simp only [List.getElem_cons_zero, List.getElem_cons_succ, Nat.zero_mul, Nat.add_zero, Nat.one_mul, Nat.reduceMul] at hnode0 hin0 hnode1 hin1 hnode2 hin2
  simp only [Nd.kind, Nd.op, Nd.num, Nd.str, Nd.pl, List.length_cons, List.length_nil, Nat.zero_add, Nat.reduceAdd]
  obtain ⟨xa, xq, xc, xr, rfl, rfl⟩ := ndIn_shape hin0
  obtain ⟨ya, yq, yc, yr, rfl, rfl⟩ := ndIn_shape hin1
  obtain ⟨za, zq, zc, zr, rfl, rfl⟩ := ndIn_shape hin2
  obtain ⟨c0, c1, c2, c3, c4, c5, c6⟩ := hnode0
  have hal := box2_below w (.cells #[.int .i64 28, .int .i64 o, .int .i64 n, .string s, .slice a1 ns.length q1, .slice (some ⟨b, off, none⟩) 3 q2, .int .i64 p] 25) (.cells #[.int .i64 x.kind, .int .i64 x.op, .int .i64 x.num, .string x.str, .slice xa x.names.length xq, .slice xc x.kids.length xr, .int .i64 x.pl] 25)
  have hbx := boxes2 w 28 o n s (.slice a1 ns.length q1) (.slice (some ⟨b, off, none⟩) 3 q2) p x.kind x.op x.num x.str (.slice xa x.names.length xq) (.slice xc x.kids.length xr) x.pl
  have hbl : b < w.heap.size := by omega
  have D1 := nodeAt_on hnode1 hbB (hal.mono hB)
  have D2 := nodeAt_on hnode2 hbB (hal.mono hB)
  have C0 := hid (kq_3_mk hal (by simp; omega) (by simp; omega) hbx.1 hbx.2 (ndIn_on (hal.mono hB) _ _ _ hin0) (ndIn_on (hal.mono hB) _ _ _ hin1) (ndIn_on (hal.mono hB) _ _ _ hin2) (D1.1) (D1.2.1) (D1.2.2.1) (D1.2.2.2.1) (D1.2.2.2.2.1) (D1.2.2.2.2.2.1) (D1.2.2.2.2.2.2) (D2.1) (D2.2.1) (D2.2.2.1) (D2.2.2.2.1) (D2.2.2.2.2.1) (D2.2.2.2.2.2.1) (D2.2.2.2.2.2.2))
  have HE0 := hid hE0
  have HT0 := hid hT
  have HT1 := hid hT4
  have HV0 := hid hV
  have HV1 := hid hV4
  have hrl := block_len (y.kids.map textN)
  have hrz := block_len (z.kids.map textN)
  have HT := hid (show textN (.mk 28 o n s ns [x, y, z] p) = textN (.mk 28 o n s ns [x, y, z] p) ∧ ((⟨(textN (.mk 28 o n s ns [x, y, z] p)).s.toArray⟩ : ByteArray) = if (textN z).has then ⟨#[105, 102, 32, 40]⟩ ++ ⟨(textN x).e.toArray⟩ ++ ⟨#[41, 32]⟩ ++ ⟨(blockT (y.kids.map textN)).toArray⟩ ++ ⟨#[32, 101, 108, 115, 101, 32]⟩ ++ ⟨(blockT (z.kids.map textN)).toArray⟩ else ⟨#[105, 102, 32, 40]⟩ ++ ⟨(textN x).e.toArray⟩ ++ ⟨#[41, 32]⟩ ++ ⟨(blockT (y.kids.map textN)).toArray⟩) by
    refine ⟨rfl, ?_⟩
    rw [textN_mk]; apply ByteArray.ext; cases hh : (textN z).has <;> simp [stmtT, branchT, at0, at1, at2, textN_b, hh])
  have HZ := hid (show (textN z).has = !z.kids.isEmpty by obtain ⟨k, o, n, s, ns, ks, p⟩ := z; rw [textN_mk]; rfl)
  have f1 : ¬ (9223372036854775807 < 4 + (textN x).e.length) := by omega
  have f2 : ¬ (9223372036854775807 < 4 + (textN x).e.length + 2) := by omega
  have f3 : ¬ (9223372036854775807 < 4 + (textN x).e.length + 2 + (blockT (y.kids.map textN)).length) := by omega
  have f4 : ¬ (9223372036854775807 < 4 + (textN x).e.length + 2 + (blockT (y.kids.map textN)).length + 6) := by omega
  have f5 : ¬ (9223372036854775807 < 4 + (textN x).e.length + 2 + (blockT (y.kids.map textN)).length + 6 + (blockT (z.kids.map textN)).length) := by omega
  clear hrl hrz hal hbx hin0 hin1 hin2 hkk hat hs1 hk1 h1 hE0 hl0 hT hT4 hV hV4 hnode1 hnode2 D1 D2
  go_enter Tryd.func38, Tryd.ntmps38
  go_wp2_with fail
  refine (rrank_calls x.kind x.op x.num x.str xa x.names.length xq xc x.kids.length xr x.pl _ hr).mono ?_
  rintro e w1 ⟨rfl, bb1⟩
  have C1 := hid (kq_3 C0.out bb1)
  obtain ⟨x0, x1, x2, x3, x4, x5, x6, y0, y1, y2, y3, y4, y5, y6, v10, v11, v12, v13, v14, v15, v16, v20, v21, v22, v23, v24, v25, v26⟩ := C1.out.2
  clear bb1 C0 c0 c1 c2 c3 c4 c5 c6
  go_wp2_with fail
  go_region_held3 (fun a => (Below w.heap.size w a ∧ B ≤ a.heap.size ∧ b < a.heap.size ∧ Box w.heap.size 28 o n s (.slice a1 ns.length q1) (.slice (some ⟨b, off, none⟩) 3 q2) p a ∧ Box (w.heap.size + 1) x.kind x.op x.num x.str (.slice xa x.names.length xq) (.slice xc x.kids.length xr) x.pl a ∧ NdIn B a x (.slice xa x.names.length xq) (.slice xc x.kids.length xr) ∧ NdIn B a y (.slice ya y.names.length yq) (.slice yc y.kids.length yr) ∧ NdIn B a z (.slice za z.names.length zq) (.slice zc z.kids.length zr)) ∧ a.cell? ⟨w.heap.size, 0, none⟩ = some (.int .i64 28) ∧ a.cell? ⟨w.heap.size, 1, none⟩ = some (.int .i64 o) ∧ a.cell? ⟨w.heap.size, 2, none⟩ = some (.int .i64 n) ∧ a.cell? ⟨w.heap.size, 3, none⟩ = some (.string s) ∧ a.cell? ⟨w.heap.size, 4, none⟩ = some (.slice a1 ns.length q1) ∧ a.cell? ⟨w.heap.size, 5, none⟩ = some (.slice (some ⟨b, off, none⟩) 3 q2) ∧ a.cell? ⟨w.heap.size, 6, none⟩ = some (.int .i64 p) ∧ a.cell? ⟨w.heap.size + 1, 0, none⟩ = some (.int .i64 x.kind) ∧ a.cell? ⟨w.heap.size + 1, 1, none⟩ = some (.int .i64 x.op) ∧ a.cell? ⟨w.heap.size + 1, 2, none⟩ = some (.int .i64 x.num) ∧ a.cell? ⟨w.heap.size + 1, 3, none⟩ = some (.string x.str) ∧ a.cell? ⟨w.heap.size + 1, 4, none⟩ = some (.slice xa x.names.length xq) ∧ a.cell? ⟨w.heap.size + 1, 5, none⟩ = some (.slice xc x.kids.length xr) ∧ a.cell? ⟨w.heap.size + 1, 6, none⟩ = some (.int .i64 x.pl) ∧ a.cell? ⟨b, off + 7, none⟩ = some (.int .i64 y.kind) ∧ a.cell? ⟨b, off + 7 + 1, none⟩ = some (.int .i64 y.op) ∧ a.cell? ⟨b, off + 7 + 2, none⟩ = some (.int .i64 y.num) ∧ a.cell? ⟨b, off + 7 + 3, none⟩ = some (.string y.str) ∧ a.cell? ⟨b, off + 7 + 4, none⟩ = some (.slice ya y.names.length yq) ∧ a.cell? ⟨b, off + 7 + 5, none⟩ = some (.slice yc y.kids.length yr) ∧ a.cell? ⟨b, off + 7 + 6, none⟩ = some (.int .i64 y.pl) ∧ a.cell? ⟨b, off + 14, none⟩ = some (.int .i64 z.kind) ∧ a.cell? ⟨b, off + 14 + 1, none⟩ = some (.int .i64 z.op) ∧ a.cell? ⟨b, off + 14 + 2, none⟩ = some (.int .i64 z.num) ∧ a.cell? ⟨b, off + 14 + 3, none⟩ = some (.string z.str) ∧ a.cell? ⟨b, off + 14 + 4, none⟩ = some (.slice za z.names.length zq) ∧ a.cell? ⟨b, off + 14 + 5, none⟩ = some (.slice zc z.kids.length zr) ∧ a.cell? ⟨b, off + 14 + 6, none⟩ = some (.int .i64 z.pl))
    (first | assumption | exact kq_3 (by assumption) bb | exact kq_3 C1.out (Below.refl _ _).drew | exact kq_3 (by assumption) (Below.refl _ _).drew)
    (first
      | (go_at_call 53; refine (HE0.out B _ _ _ (kq_3_core (by assumption)).2.1 (hid (kq_3_core (by assumption)).2.2.2.2.2.1)).mono ?_; rintro e wx ⟨rfl, bb⟩)
      | (go_at_call 55; refine (rblock_calls y.kids HT0.out HT1.out hTl B _ _ (kq_3_core (by assumption)).2.1 (hid (ndIn_kids (kq_3_core (by assumption)).2.2.2.2.2.2.1))).mono ?_; rintro e wx ⟨rfl, bb⟩))
  all_goals
    rename_i hz
    have C2 := hid hz
    clear hz x0 x1 x2 x3 x4 x5 x6 y0 y1 y2 y3 y4 y5 y6 v10 v11 v12 v13 v14 v15 v16 v20 v21 v22 v23 v24 v25 v26 C1
    obtain ⟨x0, x1, x2, x3, x4, x5, x6, y0, y1, y2, y3, y4, y5, y6, v10, v11, v12, v13, v14, v15, v16, v20, v21, v22, v23, v24, v25, v26⟩ := C2.out.2
    by_cases hzk : 0 < z.kids.length
    · have H := hid (HT.out.2.trans (if_pos (by rw [HZ.out]; cases hq : z.kids <;> simp_all)))
      go_wp2_with fail
      refine (rblock_calls z.kids HV0.out HV1.out hVl B _ _ C2.out.1.2.1 (hid (ndIn_kids C2.out.1.2.2.2.2.2.2.2))).mono ?_
      rintro e wx ⟨rfl, bb⟩
      have Z := hid (kq_3 C2.out bb).1.1
      clear bb C2
      go_wp2_with fail
      go_ret
      exact ⟨by rw [H.out]; rfl, Z.out⟩
    · have H := hid (HT.out.2.trans (if_neg (by rw [HZ.out]; cases hq : z.kids <;> simp_all)))
      go_wp2_with fail
      go_ret
      exact ⟨by rw [H.out]; rfl, C2.out.1.1⟩

end Go.Proofs.YtlnllpehifkjhaaDoor

namespace Go.Proofs.YtlnllpehifkjhaaDoor
open Go.RowKit

theorem cat_cons (b : UInt8) (l : List UInt8) : (⟨#[b]⟩ : ByteArray) ++ (⟨l.toArray⟩ : ByteArray) = ⟨(b :: l).toArray⟩ := by
  apply ByteArray.ext
  simp

theorem cat_app (a b : List UInt8) : (⟨a.toArray⟩ : ByteArray) ++ (⟨b.toArray⟩ : ByteArray) = ⟨(a ++ b).toArray⟩ := by
  apply ByteArray.ext
  simp

theorem one_string (b : UInt8) (v : Int) (hv : v = (b.toNat : Int)) (wx : World) :
    (convert 39 9 (.slice (some ⟨wx.heap.size, 0, none⟩) 1 1)).run Tryd.prog (wx.alloc (Obj.cells #[.int .u8 v] 5)) = .ok (.string ⟨#[b]⟩) (wx.alloc (Obj.cells #[.int .u8 v] 5)) :=
  run_convert_bytes_back (wx.alloc (Obj.cells #[.int .u8 v] 5)) 39 9 5 ⟨wx.heap.size, 0, none⟩ 1 [b] (by kernel_rfl) (by kernel_rfl) (by kernel_rfl)
    (fun j hj => by
      have : j = 0 := by simpa using hj
      subst this
      simp [Addr.add, hv])

set_option maxHeartbeats 800000 in
theorem refdig_calls (m : Nat) (hm : m ≤ 9223372036854775807) (w : World) :
    Calls Tryd.prog 88 #[.int .i64 m] w fun e w' => e = .returned (.string ⟨(dec 20 m).toArray⟩) ∧ Below w.heap.size w w' := by
  go_enter Tryd.func88, Tryd.ntmps88
  go_wp2
  go_loopw [0, 3, 4] (fun n s k wr => ∃ (j r : Nat) (acc : List UInt8), n = .int .i64 (r : Int) ∧ s = .string ⟨acc.toArray⟩ ∧ k = .int .i64 (j : Int) ∧ r ≤ 9223372036854775807 ∧ (0 < r ∨ j = 0) ∧ Told m j r acc ∧ w.heap.size ≤ wr.heap.size ∧ Below w.heap.size w wr) (fun _ _ k _ => 20 - (intOf k).toNat)
  case atStart => exact ⟨0, m, [], rfl, rfl, rfl, hm, Or.inr rfl, told_start (by omega), Nat.le_refl _, Below.refl _ _⟩
  case round =>
    obtain ⟨j, r, acc, rfl, rfl, rfl, hrm, hgo, ht, hsz, hg⟩ := hrel
    have hj := told_lt ht hgo
    have hl : acc.length ≤ 19 := by have := ht.1; omega
    have hstep := told_step ht hgo
    have hbn := dig_toNat r
    generalize UInt8.ofNat (48 + r % 10) = b at *
    have hcv := one_string b (48 + (r : Int) % 10) (by rw [hbn]; push_cast; rfl) wr
    have Hstep := hid hstep
    have Hg := hid hg
    clear ht hg hbn hstep
    by_cases hz : r / 10 = 0
    · have hz2 : ((r : Int) / 10 == 0) = true := beq_iff_eq.2 (by omega)
      have Hz := hid hz
      clear hz
      go_wp2
      go_ret
      refine ⟨?_, Hg.out.alloc hsz _⟩
      rw [← told_end Hstep.out Hz.out (by omega), ← cat_cons]
      rfl
    · have hz2 : ((r : Int) / 10 == 0) = false := beq_eq_false_iff_ne.2 (by omega)
      go_wp2
      go_roundw
      case rel => exact ⟨j + 1, r / 10, b :: acc, by go_num, by rw [cat_cons], by go_num, by omega, Or.inl (by omega), Hstep.out, by simp; omega, Hg.out.alloc hsz _⟩
      case measure => simp [intOf]; omega

theorem refdigits_calls (n : Int) (h1 : -9223372036854775808 ≤ n) (h2 : n ≤ 9223372036854775807) (w : World) :
    Calls Tryd.prog 68 #[.int .i64 n] w fun e w' => e = .returned (.string ⟨(digs n).toArray⟩) ∧ Below w.heap.size w w' := by
  by_cases h : 0 ≤ n
  · have Hd : Hid (digs n = dec 20 n.natAbs) := hid (by unfold digs; rw [if_neg (by omega)])
    obtain ⟨m, rfl⟩ := Int.eq_ofNat_of_zero_le h
    go_enter Tryd.func68, Tryd.ntmps68
    go_wp2_with fail
    refine (refdig_calls m (by omega) _).mono ?_
    rintro e w1 ⟨rfl, g1⟩
    go_wp2
    go_ret
    exact ⟨by rw [Hd.out]; rfl, g1⟩
  · obtain ⟨m, hm⟩ : ∃ m : Nat, n = -(m : Int) := ⟨n.natAbs, by omega⟩
    have hq : n.tdiv 10 = -((m / 10 : Nat) : Int) := by rw [hm, Int.neg_tdiv]; rfl
    have hr : n.tmod 10 = -((m % 10 : Nat) : Int) := by rw [hm, Int.neg_tmod]; rfl
    have Hq : Hid (wrap64 (-n.tdiv 10) = ((m / 10 : Nat) : Int)) := hid (by rw [hq, Int.neg_neg]; exact IntWalk.wrap64_in _ ⟨by omega, by omega⟩)
    have Hr : Hid (wrap64 (-n.tmod 10) = ((m % 10 : Nat) : Int)) := hid (by rw [hr, Int.neg_neg]; exact IntWalk.wrap64_in _ ⟨by omega, by omega⟩)
    have Hd := hid (digs_neg_small hm (by omega))
    by_cases h10 : m < 10
    · have hz : (n.tdiv 10 == 0) = true := beq_iff_eq.2 (by rw [hq]; omega)
      have hl := dec_length 20 (m % 10)
      have Hm : Hid (m % 10 = m) := hid (by omega)
      clear hq hr hm
      go_enter Tryd.func68, Tryd.ntmps68
      go_wp2_with fail
      rw [Hr.out]
      refine (refdig_calls (m % 10) (by omega) _).mono ?_
      rintro e w1 ⟨rfl, g1⟩
      generalize hA : dec 20 (m % 10) = A at *
      have HA := hid hA
      clear hA
      go_wp2
      go_ret
      refine ⟨?_, g1⟩
      rw [Hd.out, ← Hm.out, HA.out, ← cat_cons]
      rfl
    · have hz : (n.tdiv 10 == 0) = false := beq_eq_false_iff_ne.2 (by rw [hq]; omega)
      have hl := dec_length 20 (m % 10)
      have hl2 := dec_length 20 (m / 10)
      have hb : m ≤ 9223372036854775808 := by omega
      have Hs := hid (dec_split (m := m) (by omega) (by omega))
      clear hq hr hm
      go_enter Tryd.func68, Tryd.ntmps68
      go_wp2_with fail
      rw [Hq.out]
      refine (refdig_calls (m / 10) (by omega) _).mono ?_
      rintro e w1 ⟨rfl, g1⟩
      generalize hA : dec 20 (m / 10) = A at *
      have HA := hid hA
      clear hA
      go_wp2_with fail
      rw [Hr.out]
      refine (refdig_calls (m % 10) (by omega) _).mono ?_
      rintro e w2 ⟨rfl, g2⟩
      generalize hB : dec 20 (m % 10) = B at *
      have HB := hid hB
      clear hB
      go_wp2
      go_ret
      refine ⟨?_, below_on g1 g2⟩
      rw [Hd.out, Hs.out, ← List.cons_append, ← cat_app, ← cat_cons]
      rfl

end Go.Proofs.YtlnllpehifkjhaaDoor
