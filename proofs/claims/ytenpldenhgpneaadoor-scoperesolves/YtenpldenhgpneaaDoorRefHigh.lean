/- How high a tree is, and how many nodes it has, as the document tells it; whether they are few. -/
import Derived.Test.YtenpldenhgpneaaDoorJoint2
import Derived.Test.YtenpldenhgpneaaDoorNdFew
namespace Go.Proofs.YtenpldenhgpneaaDoor
open Go.RowKit

set_option maxHeartbeats 1600000 in
theorem refcount_calls (t : Nd) : ∀ (B : Nat) (w : World) (nv kv : Value), B ≤ w.heap.size → Hid (NdIn B w t nv kv) → countN t ≤ 1000000 →
    Calls Tryd.prog 26 #[.agg #[.int .i64 t.kind, .int .i64 t.op, .int .i64 t.num, .string t.str, nv, kv, .int .i64 t.pl]] w fun e w' =>
      e = .returned (.int .i64 (countN t)) ∧ Below w.heap.size w w' := by
  refine Nd.ind (P := fun t => ∀ (B : Nat) (w : World) (nv kv : Value), B ≤ w.heap.size → Hid (NdIn B w t nv kv) → countN t ≤ 1000000 →
    Calls Tryd.prog 26 #[.agg #[.int .i64 t.kind, .int .i64 t.op, .int .i64 t.num, .string t.str, nv, kv, .int .i64 t.pl]] w fun e w' =>
      e = .returned (.int .i64 (countN t)) ∧ Below w.heap.size w w') ?_ t
  clear t
  intro k o n s ns ks p ih B w nv kv hB hN hc
  obtain ⟨hs, hk⟩ := ndIn_mk.1 hN.out
  obtain ⟨ao, cap, rfl, hks⟩ := kidsIn_cases hk
  clear hk hN hs
  have hlen := length_count ks
  simp only [countN] at hc
  simp only [Nd.kind, Nd.op, Nd.num, Nd.str, Nd.pl]
  have IH := hid ih
  have KS := hid hks
  have HC := hid (show countN (.mk k o n s ns ks p) = countL ks + 1 by simp [countN])
  clear ih hks
  go_enter Tryd.func26, Tryd.ntmps26
  go_wp2_with fail
  go_loopw [3, 4] (fun a i wr => ∃ j : Nat, j ≤ ks.length ∧ i = .int .i64 j ∧ a = .int .i64 (countL (ks.take j) + 1) ∧ Below w.heap.size w wr ∧ Box w.heap.size k o n s nv (.slice ao ks.length cap) p wr) (fun _ i _ => ks.length - (intOf i).toNat)
  case atStart => exact ⟨0, Nat.zero_le _, rfl, rfl, (Below.refl _ _).alloc (Nat.le_refl _) _, box_new w k o n s nv _ p⟩
  case round =>
    obtain ⟨j, hj, rfl, rfl, hb, hx⟩ := hrel
    have hct := countL_take ks j
    have d5 := (box_cells hx).2.2.2.2.2.1
    by_cases hjl : j < ks.length
    · obtain ⟨b, off, rfl, hbB, hat⟩ := KS.out.resolve_left (fun h => by rw [h] at hjl; cases hjl)
      obtain ⟨nv', kv', hnode, hin⟩ := ndsAt_get hat j hjl
      have hb' := hb.mono hB
      obtain ⟨c0, c1, c2, c3, c4, c5, c6⟩ := nodeAt_on hnode hbB hb'
      have hin' := ndIn_on hb' _ _ _ hin
      have ih := IH.out ks[j] (List.getElem_mem hjl)
      have hcm := count_mem (List.getElem_mem hjl)
      have HT := hid (show countL (ks.take (j + 1)) = countL (ks.take j) + countN ks[j] by rw [take_one ks j hjl, countL_snoc])
      have hct1 := countL_take ks (j + 1)
      rw [HT.out] at hct1
      generalize ks[j] = x at *
      have N := hid hin'
      have BB := hid hb
      have HX := hid hx
      have hsz := hb.size
      obtain ⟨a1, q1, a2, q2, rfl, rfl⟩ := ndIn_shape hin
      have IH' := hid ih
      clear hin hin' hnode hat hb hb' ih KS IH hx
      go_wp2_with fail
      refine (IH'.out B _ _ _ (by omega) (hid N.out) (by omega)).mono ?_
      rintro e w1 ⟨rfl, b1⟩
      have B1 := hid (BB.out.trans (b1.mono hsz))
      have X1 := hid (box_on HX.out b1)
      clear b1 BB N HX d5
      go_wp2_with fail
      go_roundw
      case rel => exact ⟨j + 1, by omega, by go_num, by rw [HT.out]; go_num, B1.out, X1.out⟩
      case measure => simp [intOf]; omega
    · have e : ks.take j = ks := List.take_of_length_le (by omega)
      have BB := hid hb
      clear hb hx
      go_wp2_with fail
      go_ret
      exact ⟨by rw [HC.out, e]; rfl, BB.out⟩

set_option maxHeartbeats 1600000 in
theorem refheight_calls (t : Nd) : ∀ (B : Nat) (w : World) (nv kv : Value), B ≤ w.heap.size → Hid (NdIn B w t nv kv) → countN t ≤ 1000000 →
    Calls Tryd.prog 30 #[.agg #[.int .i64 t.kind, .int .i64 t.op, .int .i64 t.num, .string t.str, nv, kv, .int .i64 t.pl]] w fun e w' =>
      e = .returned (.int .i64 (highN t)) ∧ Below w.heap.size w w' := by
  refine Nd.ind (P := fun t => ∀ (B : Nat) (w : World) (nv kv : Value), B ≤ w.heap.size → Hid (NdIn B w t nv kv) → countN t ≤ 1000000 →
    Calls Tryd.prog 30 #[.agg #[.int .i64 t.kind, .int .i64 t.op, .int .i64 t.num, .string t.str, nv, kv, .int .i64 t.pl]] w fun e w' =>
      e = .returned (.int .i64 (highN t)) ∧ Below w.heap.size w w') ?_ t
  clear t
  intro k o n s ns ks p ih B w nv kv hB hN hc
  obtain ⟨hs, hk⟩ := ndIn_mk.1 hN.out
  obtain ⟨ao, cap, rfl, hks⟩ := kidsIn_cases hk
  clear hk hN hs
  have hlen := length_count ks
  have hhc := highL_count ks
  simp only [countN] at hc
  simp only [Nd.kind, Nd.op, Nd.num, Nd.str, Nd.pl]
  have IH := hid ih
  have KS := hid hks
  have HC := hid (show highN (.mk k o n s ns ks p) = highL ks + 1 by simp [highN])
  clear ih hks
  go_enter Tryd.func30, Tryd.ntmps30
  go_wp2_with fail
  go_loopw [3, 4] (fun a i wr => ∃ j : Nat, j ≤ ks.length ∧ i = .int .i64 j ∧ a = .int .i64 (highL (ks.take j)) ∧ Below w.heap.size w wr ∧ Box w.heap.size k o n s nv (.slice ao ks.length cap) p wr) (fun _ i _ => ks.length - (intOf i).toNat)
  case atStart => exact ⟨0, Nat.zero_le _, rfl, rfl, (Below.refl _ _).alloc (Nat.le_refl _) _, box_new w k o n s nv _ p⟩
  case round =>
    obtain ⟨j, hj, rfl, rfl, hb, hx⟩ := hrel
    have hct := highL_take ks j
    have d5 := (box_cells hx).2.2.2.2.2.1
    by_cases hjl : j < ks.length
    · obtain ⟨b, off, rfl, hbB, hat⟩ := KS.out.resolve_left (fun h => by rw [h] at hjl; cases hjl)
      obtain ⟨nv', kv', hnode, hin⟩ := ndsAt_get hat j hjl
      have hb' := hb.mono hB
      obtain ⟨c0, c1, c2, c3, c4, c5, c6⟩ := nodeAt_on hnode hbB hb'
      have hin' := ndIn_on hb' _ _ _ hin
      have ih := IH.out ks[j] (List.getElem_mem hjl)
      have hcm := count_mem (List.getElem_mem hjl)
      have HT := hid (show highL (ks.take (j + 1)) = max (highL (ks.take j)) (highN ks[j]) by rw [take_one ks j hjl, highL_snoc])
      generalize ks[j] = x at *
      have N := hid hin'
      have BB := hid hb
      have HX := hid hx
      have hsz := hb.size
      obtain ⟨a1, q1, a2, q2, rfl, rfl⟩ := ndIn_shape hin
      have IH' := hid ih
      clear hin hin' hnode hat hb hb' ih KS IH hx
      by_cases hgt : highL (ks.take j) < highN x
      · go_wp2_with fail
        refine (IH'.out B _ _ _ (by omega) (hid N.out) (by omega)).mono ?_
        rintro e w1 ⟨rfl, b1⟩
        have B1 := hid (BB.out.trans (b1.mono hsz))
        have X1 := hid (box_on HX.out b1)
        clear b1 BB N HX d5
        go_wp2_with fail
        go_roundw
        case rel => exact ⟨j + 1, by omega, by go_num, by rw [HT.out, Nat.max_eq_right (by omega)], B1.out, X1.out⟩
        case measure => simp [intOf]; omega
      · go_wp2_with fail
        refine (IH'.out B _ _ _ (by omega) (hid N.out) (by omega)).mono ?_
        rintro e w1 ⟨rfl, b1⟩
        have B1 := hid (BB.out.trans (b1.mono hsz))
        have X1 := hid (box_on HX.out b1)
        clear b1 BB N HX d5
        go_wp2_with fail
        go_roundw
        case rel => exact ⟨j + 1, by omega, by go_num, by rw [HT.out, Nat.max_eq_left (by omega)], B1.out, X1.out⟩
        case measure => simp [intOf]; omega
    · have e : ks.take j = ks := List.take_of_length_le (by omega)
      have BB := hid hb
      clear hb hx
      go_wp2_with fail
      go_ret
      exact ⟨by rw [HC.out, e]; rfl, BB.out⟩

end Go.Proofs.YtenpldenhgpneaaDoor
