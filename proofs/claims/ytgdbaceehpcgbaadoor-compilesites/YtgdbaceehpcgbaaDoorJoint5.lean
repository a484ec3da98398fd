/- How high a tree is, and how many nodes it has, as the document tells it; whether they are few. Whether a tree is small, as the document asks it. -/
import Derived.Test.YtgdbaceehpcgbaaDoorJoint3
import Derived.Test.YtgdbaceehpcgbaaDoorJoint2
namespace Go.Proofs.YtgdbaceehpcgbaaDoor
open Go.RowKit

set_option maxHeartbeats 1600000 in
theorem refcount_calls (t : Nd) : ∀ (B : Nat) (w : World) (nv kv : Value), B ≤ w.heap.size → Hid (NdIn B w t nv kv) → countN t ≤ 1000000 →
    Calls Tryd.prog 14 #[.agg #[.int .i64 t.kind, .int .i64 t.op, .int .i64 t.num, .string t.str, nv, kv, .int .i64 t.pl]] w fun e w' =>
      e = .returned (.int .i64 (countN t)) ∧ Below w.heap.size w w' := by
  refine Nd.ind (P := fun t => ∀ (B : Nat) (w : World) (nv kv : Value), B ≤ w.heap.size → Hid (NdIn B w t nv kv) → countN t ≤ 1000000 →
    Calls Tryd.prog 14 #[.agg #[.int .i64 t.kind, .int .i64 t.op, .int .i64 t.num, .string t.str, nv, kv, .int .i64 t.pl]] w fun e w' =>
      e = .returned (.int .i64 (countN t)) ∧ Below w.heap.size w w') ?_ t
  clear t
  intro k o n s ns ks p ih B w nv kv hB hN hc
  obtain ⟨hs, hk⟩ := ndIn_mk.1 hN.out
  obtain ⟨ao, cap, rfl, hks⟩ := kidsIn_cases hk
  clear hk hN hs
  have hlen := length_count ks
  simp only [countN] at hc
  simp only [Nd.kind, Nd.op, Nd.num, Nd.str, Nd.pl]
  have IH := hid ih
  have KS := hid hks
  have HC := hid (show countN (.mk k o n s ns ks p) = countL ks + 1 by simp [countN])
  clear ih hks
  go_enter Tryd.func14, Tryd.ntmps14
  go_wp2_with fail
  go_loopw [3, 4] (fun a i wr => ∃ j : Nat, j ≤ ks.length ∧ i = .int .i64 j ∧ a = .int .i64 (countL (ks.take j) + 1) ∧ Below w.heap.size w wr ∧ Box w.heap.size k o n s nv (.slice ao ks.length cap) p wr) (fun _ i _ => ks.length - (intOf i).toNat)
  case atStart => exact ⟨0, Nat.zero_le _, rfl, rfl, (Below.refl _ _).alloc (Nat.le_refl _) _, box_new w k o n s nv _ p⟩
  case round =>
    obtain ⟨j, hj, rfl, rfl, hb, hx⟩ := hrel
    have hct := countL_take ks j
    have d5 := (box_cells hx).2.2.2.2.2.1
    by_cases hjl : j < ks.length
    · obtain ⟨b, off, rfl, hbB, hat⟩ := KS.out.resolve_left (fun h => by rw [h] at hjl; cases hjl)
      obtain ⟨nv', kv', hnode, hin⟩ := ndsAt_get hat j hjl
      have hb' := hb.mono hB
      obtain ⟨c0, c1, c2, c3, c4, c5, c6⟩ := nodeAt_on hnode hbB hb'
      have hin' := ndIn_on hb' _ _ _ hin
      have ih := IH.out ks[j] (List.getElem_mem hjl)
      have hcm := count_mem (List.getElem_mem hjl)
      have HT := hid (show countL (ks.take (j + 1)) = countL (ks.take j) + countN ks[j] by rw [take_one ks j hjl, countL_snoc])
      have hct1 := countL_take ks (j + 1)
      rw [HT.out] at hct1
      generalize ks[j] = x at *
      have N := hid hin'
      have BB := hid hb
      have HX := hid hx
      have hsz := hb.size
      obtain ⟨a1, q1, a2, q2, rfl, rfl⟩ := ndIn_shape hin
      have IH' := hid ih
      clear hin hin' hnode hat hb hb' ih KS IH hx
      go_wp2_with fail
      refine (IH'.out B _ _ _ (by omega) (hid N.out) (by omega)).mono ?_
      rintro e w1 ⟨rfl, b1⟩
      have B1 := hid (BB.out.trans (b1.mono hsz))
      have X1 := hid (box_on HX.out b1)
      clear b1 BB N HX d5
      go_wp2_with fail
      go_roundw
      case rel => exact ⟨j + 1, by omega, by go_num, by rw [HT.out]; go_num, B1.out, X1.out⟩
      case measure => simp [intOf]; omega
    · have e : ks.take j = ks := List.take_of_length_le (by omega)
      have BB := hid hb
      clear hb hx
      go_wp2_with fail
      go_ret
      exact ⟨by rw [HC.out, e]; rfl, BB.out⟩

set_option maxHeartbeats 1600000 in
theorem refheight_calls (t : Nd) : ∀ (B : Nat) (w : World) (nv kv : Value), B ≤ w.heap.size → Hid (NdIn B w t nv kv) → countN t ≤ 1000000 →
    Calls Tryd.prog 34 #[.agg #[.int .i64 t.kind, .int .i64 t.op, .int .i64 t.num, .string t.str, nv, kv, .int .i64 t.pl]] w fun e w' =>
      e = .returned (.int .i64 (highN t)) ∧ Below w.heap.size w w' := by
  refine Nd.ind (P := fun t => ∀ (B : Nat) (w : World) (nv kv : Value), B ≤ w.heap.size → Hid (NdIn B w t nv kv) → countN t ≤ 1000000 →
    Calls Tryd.prog 34 #[.agg #[.int .i64 t.kind, .int .i64 t.op, .int .i64 t.num, .string t.str, nv, kv, .int .i64 t.pl]] w fun e w' =>
      e = .returned (.int .i64 (highN t)) ∧ Below w.heap.size w w') ?_ t
  clear t
  intro k o n s ns ks p ih B w nv kv hB hN hc
  obtain ⟨hs, hk⟩ := ndIn_mk.1 hN.out
  obtain ⟨ao, cap, rfl, hks⟩ := kidsIn_cases hk
  clear hk hN hs
  have hlen := length_count ks
  have hhc := highL_count ks
  simp only [countN] at hc
  simp only [Nd.kind, Nd.op, Nd.num, Nd.str, Nd.pl]
  have IH := hid ih
  have KS := hid hks
  have HC := hid (show highN (.mk k o n s ns ks p) = highL ks + 1 by simp [highN])
  clear ih hks
  go_enter Tryd.func34, Tryd.ntmps34
  go_wp2_with fail
  go_loopw [3, 4] (fun a i wr => ∃ j : Nat, j ≤ ks.length ∧ i = .int .i64 j ∧ a = .int .i64 (highL (ks.take j)) ∧ Below w.heap.size w wr ∧ Box w.heap.size k o n s nv (.slice ao ks.length cap) p wr) (fun _ i _ => ks.length - (intOf i).toNat)
  case atStart => exact ⟨0, Nat.zero_le _, rfl, rfl, (Below.refl _ _).alloc (Nat.le_refl _) _, box_new w k o n s nv _ p⟩
  case round =>
    obtain ⟨j, hj, rfl, rfl, hb, hx⟩ := hrel
    have hct := highL_take ks j
    have d5 := (box_cells hx).2.2.2.2.2.1
    by_cases hjl : j < ks.length
    · obtain ⟨b, off, rfl, hbB, hat⟩ := KS.out.resolve_left (fun h => by rw [h] at hjl; cases hjl)
      obtain ⟨nv', kv', hnode, hin⟩ := ndsAt_get hat j hjl
      have hb' := hb.mono hB
      obtain ⟨c0, c1, c2, c3, c4, c5, c6⟩ := nodeAt_on hnode hbB hb'
      have hin' := ndIn_on hb' _ _ _ hin
      have ih := IH.out ks[j] (List.getElem_mem hjl)
      have hcm := count_mem (List.getElem_mem hjl)
      have HT := hid (show highL (ks.take (j + 1)) = max (highL (ks.take j)) (highN ks[j]) by rw [take_one ks j hjl, highL_snoc])
      generalize ks[j] = x at *
      have N := hid hin'
      have BB := hid hb
      have HX := hid hx
      have hsz := hb.size
      obtain ⟨a1, q1, a2, q2, rfl, rfl⟩ := ndIn_shape hin
      have IH' := hid ih
      clear hin hin' hnode hat hb hb' ih KS IH hx
      by_cases hgt : highL (ks.take j) < highN x
      · go_wp2_with fail
        refine (IH'.out B _ _ _ (by omega) (hid N.out) (by omega)).mono ?_
        rintro e w1 ⟨rfl, b1⟩
        have B1 := hid (BB.out.trans (b1.mono hsz))
        have X1 := hid (box_on HX.out b1)
        clear b1 BB N HX d5
        go_wp2_with fail
        go_roundw
        case rel => exact ⟨j + 1, by omega, by go_num, by rw [HT.out, Nat.max_eq_right (by omega)], B1.out, X1.out⟩
        case measure => simp [intOf]; omega
      · go_wp2_with fail
        refine (IH'.out B _ _ _ (by omega) (hid N.out) (by omega)).mono ?_
        rintro e w1 ⟨rfl, b1⟩
        have B1 := hid (BB.out.trans (b1.mono hsz))
        have X1 := hid (box_on HX.out b1)
        clear b1 BB N HX d5
        go_wp2_with fail
        go_roundw
        case rel => exact ⟨j + 1, by omega, by go_num, by rw [HT.out, Nat.max_eq_left (by omega)], B1.out, X1.out⟩
        case measure => simp [intOf]; omega
    · have e : ks.take j = ks := List.take_of_length_le (by omega)
      have BB := hid hb
      clear hb hx
      go_wp2_with fail
      go_ret
      exact ⟨by rw [HC.out, e]; rfl, BB.out⟩

end Go.Proofs.YtgdbaceehpcgbaaDoor

namespace Go.Proofs.YtgdbaceehpcgbaaDoor
open Go.RowKit

set_option maxHeartbeats 3200000 in
theorem left_calls (t : Nd) : ∀ (B : Nat) (w : World) (nv kv : Value) (m : Int) (h : Nat), B ≤ w.heap.size → Hid (NdIn B w t nv kv) → 0 ≤ m → m ≤ 1000 → h ≤ 1000 →
    Calls Tryd.prog 27 #[.agg #[.int .i64 t.kind, .int .i64 t.op, .int .i64 t.num, .string t.str, nv, kv, .int .i64 t.pl], .int .i64 m, .int .i64 h] w fun e w' =>
      e = .returned (.int .i64 (leftN t m h)) ∧ Below w.heap.size w w' := by
  refine Nd.ind (P := fun t => ∀ (B : Nat) (w : World) (nv kv : Value) (m : Int) (h : Nat), B ≤ w.heap.size → Hid (NdIn B w t nv kv) → 0 ≤ m → m ≤ 1000 → h ≤ 1000 →
    Calls Tryd.prog 27 #[.agg #[.int .i64 t.kind, .int .i64 t.op, .int .i64 t.num, .string t.str, nv, kv, .int .i64 t.pl], .int .i64 m, .int .i64 h] w fun e w' =>
      e = .returned (.int .i64 (leftN t m h)) ∧ Below w.heap.size w w') ?_ t
  clear t
  intro k o n s ns ks p ih B w nv kv m h hB hN hm0 hm1 hh
  obtain ⟨hs, hk⟩ := ndIn_mk.1 hN.out
  obtain ⟨ao, cap, rfl, hks⟩ := kidsIn_cases hk
  obtain ⟨aos, caps, rfl, hss⟩ := strsIn_cases hs
  clear hk hN hs
  simp only [Nd.kind, Nd.op, Nd.num, Nd.str, Nd.pl]
  have IH := hid ih
  have KS := hid hks
  have SS := hid hss
  clear ih hks hss
  by_cases h0 : h = 0
  · have e0 : ((h : Int) == 0) = true := beq_iff_eq.2 (by omega)
    have H := hid (show leftN (.mk k o n s ns ks p) m h = -1 by rw [leftN, if_pos (Or.inl h0)])
    clear h0
    go_enter Tryd.func27, Tryd.ntmps27
    go_wp2_with fail
    go_ret
    exact ⟨by rw [H.out]; rfl, (Below.refl _ _).alloc (Nat.le_refl _) _⟩
  have e0 : ((h : Int) == 0) = false := beq_eq_false_iff_ne.2 (by omega)
  by_cases h6 : 600 < s.size
  · have H := hid (show leftN (.mk k o n s ns ks p) m h = -1 by rw [leftN, if_pos (Or.inr (Or.inl h6))])
    go_enter Tryd.func27, Tryd.ntmps27
    go_wp2_with fail
    go_ret
    exact ⟨by rw [H.out]; rfl, (Below.refl _ _).alloc (Nat.le_refl _) _⟩
  by_cases hn6 : 60 < ns.length
  · have H := hid (show leftN (.mk k o n s ns ks p) m h = -1 by rw [leftN, if_pos (Or.inr (Or.inr hn6))])
    have d6 : decide ((600 : Int) < (s.size : Int)) = false := decide_eq_false (by omega)
    go_enter Tryd.func27, Tryd.ntmps27
    go_wp2_with fail
    go_ret
    exact ⟨by rw [H.out]; rfl, (Below.refl _ _).alloc (Nat.le_refl _) _⟩
  have d6 : decide ((600 : Int) < (s.size : Int)) = false := decide_eq_false (by omega)
  have d7 : decide ((60 : Int) < (ns.length : Int)) = false := decide_eq_false (by omega)
  have HA := hid (show leftN (.mk k o n s ns ks p) m h = if longB ns then -1 else leftL ks (m - 1) (h - 1) by rw [leftN, if_neg (by omega)])
  have hal := (Below.refl w.heap.size w).alloc (Nat.le_refl _) (.cells #[.int .i64 k, .int .i64 o, .int .i64 n, .string s, .slice aos ns.length caps, .slice ao ks.length cap, .int .i64 p] 47)
  have AL := hid hal
  clear hal
  go_enter Tryd.func27, Tryd.ntmps27
  go_wp2_with fail
  go_loop [7] (fun i => ∃ j : Nat, j ≤ ns.length ∧ i = .int .i64 j ∧ (∀ (q : Nat) (hq : q < ns.length), q < j → ns[q].size ≤ 100)) (fun i => ns.length - (intOf i).toNat)
  case atStart => exact ⟨0, Nat.zero_le _, rfl, fun q _ h => absurd h (Nat.not_lt_zero _)⟩
  case round =>
    obtain ⟨j, hj, rfl, hq⟩ := hrel
    by_cases hjl : j < ns.length
    · obtain ⟨b, off, rfl, hbB, hat⟩ := SS.out.resolve_left (fun h => by rw [h] at hjl; cases hjl)
      have c0 := cell_keep (AL.out.mono hB) hbB (hat j hjl)
      have HY := hid (fun hlt => long_yes (ns := ns) (j := j) hjl hlt)
      have HQ := hid (fun (hle : ns[j].size ≤ 100) => show ∀ (q : Nat) (hq : q < ns.length), q < j + 1 → ns[q].size ≤ 100 from fun q h1 h2 => by
        rcases Nat.lt_or_ge q j with h3 | h3
        · exact hq q h1 h3
        · obtain rfl : q = j := by omega
          exact hle)
      clear hq hat
      generalize ns[j] = y at *
      by_cases hy : 100 < y.size
      · have H := hid (show leftN (.mk k o n s ns ks p) m h = -1 by rw [HA.out, if_pos (HY.out hy)])
        go_wp2_with fail
        go_ret
        exact ⟨by rw [H.out]; rfl, AL.out⟩
      · have H := hid (HQ.out (by omega))
        clear HQ HY
        go_wp2_with fail
        go_round
        case rel => exact ⟨j + 1, by omega, by go_num, H.out⟩
        case measure => simp [intOf]; omega
    · have hlong := long_no (ns := ns) (fun q hq' => hq q hq' (by omega))
      have HB := hid (show leftN (.mk k o n s ns ks p) m h = leftL ks (m - 1) (h - 1) by rw [HA.out, if_neg (by rw [hlong]; decide)])
      clear HA hq hlong SS
      go_wp2_with fail
      go_loopw [1, 8] (fun a i wr => ∃ (j : Nat) (c : Int), j ≤ ks.length ∧ i = .int .i64 j ∧ a = .int .i64 c ∧ -1 ≤ c ∧ j + c ≤ 1000 ∧ leftN (.mk k o n s ns ks p) m h = leftL (ks.drop j) c (h - 1) ∧ Below w.heap.size w wr ∧ Box w.heap.size k o n s (.slice aos ns.length caps) (.slice ao ks.length cap) p wr) (fun _ i _ => ks.length - (intOf i).toNat)
      case atStart => exact ⟨0, m - 1, Nat.zero_le _, rfl, rfl, by omega, by omega, by simpa using HB.out, AL.out, box_new w k o n s _ _ p⟩
      case round =>
        clear HB AL
        obtain ⟨j, c, hj, rfl, rfl, hc0, hc1, hl, hb, hx⟩ := hrel
        have d5 := (box_cells hx).2.2.2.2.2.1
        have BB := hid hb
        have HX := hid hx
        by_cases hjl : j < ks.length
        · by_cases hcn : c < 0
          · have H := hid (show leftN (.mk k o n s ns ks p) m h = c by rw [hl, leftL_neg _ _ _ hcn])
            have dc : decide ((0 : Int) ≤ c) = false := decide_eq_false (by omega)
            clear hb hx hl
            go_wp2_with fail
            go_ret
            exact ⟨by rw [H.out]; rfl, BB.out⟩
          · obtain ⟨b, off, rfl, hbB, hat⟩ := KS.out.resolve_left (fun h => by rw [h] at hjl; cases hjl)
            obtain ⟨nv', kv', hnode, hin⟩ := ndsAt_get hat j hjl
            have hb' := hb.mono hB
            obtain ⟨c0, c1, c2, c3, c4, c5, c6⟩ := nodeAt_on hnode hbB hb'
            have hin' := ndIn_on hb' _ _ _ hin
            have ih := IH.out ks[j] (List.getElem_mem hjl)
            have hl2 := hid (show leftN (.mk k o n s ns ks p) m h = leftL (ks.drop (j + 1)) (leftN ks[j] c (h - 1)) (h - 1) by
              rw [hl, List.drop_eq_getElem_cons hjl, leftL, if_neg hcn])
            have hbd := leftN_bounds ks[j] c (h - 1) (by omega)
            generalize ks[j] = x at *
            have N := hid hin'
            have hsz := hb.size
            obtain ⟨a1, q1, a2, q2, rfl, rfl⟩ := ndIn_shape hin
            have IH' := hid ih
            have dc : decide ((0 : Int) ≤ c) = true := decide_eq_true (by omega)
            have eh : ((h : Int) - 1) = ((h - 1 : Nat) : Int) := by omega
            have EH := hid eh
            clear hin hin' hnode hat hb hb' ih KS IH hx hl eh
            go_wp2_with fail
            rw [EH.out]
            refine (IH'.out B _ _ _ c (h - 1) (by omega) (hid N.out) (by omega) (by omega) (by omega)).mono ?_
            rintro e w1 ⟨rfl, b1⟩
            have B1 := hid (BB.out.trans (b1.mono hsz))
            have X1 := hid (box_on HX.out b1)
            clear b1 BB N HX d5
            go_wp2_with fail
            go_roundw
            case rel => exact ⟨j + 1, _, by omega, by go_num, rfl, hbd.1, by omega, hl2.out, B1.out, X1.out⟩
            case measure => simp [intOf]; omega
        · have H := hid (show leftN (.mk k o n s ns ks p) m h = c by rw [hl, List.drop_of_length_le (by omega), leftL])
          clear hb hx hl
          go_wp2_with fail
          go_ret
          exact ⟨by rw [H.out]; rfl, BB.out⟩

theorem few_calls (t : Nd) (B : Nat) (w : World) (nv kv : Value) (hB : B ≤ w.heap.size) (hN : Hid (NdIn B w t nv kv)) :
    Calls Tryd.prog 17 #[.agg #[.int .i64 t.kind, .int .i64 t.op, .int .i64 t.num, .string t.str, nv, kv, .int .i64 t.pl], .int .i64 300] w fun e w' =>
      e = .returned (.bool (fewB t)) ∧ Below w.heap.size w w' := by
  obtain ⟨a1, q1, a2, q2, rfl, rfl⟩ := ndIn_shape hN.out
  have b0 := (Below.refl w.heap.size w).alloc (Nat.le_refl _) (.cells #[.int .i64 t.kind, .int .i64 t.op, .int .i64 t.num, .string t.str, .slice a1 t.names.length q1, .slice a2 t.kids.length q2, .int .i64 t.pl] 47)
  have B0 := hid b0
  have N := hid (ndIn_on (b0.mono hB) _ _ _ hN.out)
  clear b0 hN
  go_enter Tryd.func17, Tryd.ntmps17
  go_wp2_with fail
  refine (left_calls t B _ _ _ 300 40 (by simp; omega) N (by omega) (by omega) (by omega)).mono ?_
  rintro e w1 ⟨rfl, b1⟩
  have B1 := hid (below_in B0.out (by simp) b1)
  clear b1 B0 N
  have H := hid (show fewB t = decide (0 ≤ leftN t 300 40) from rfl)
  generalize leftN t 300 40 = q at *
  go_wp2_with fail
  go_ret
  exact ⟨by rw [H.out]; rfl, B1.out⟩

end Go.Proofs.YtgdbaceehpcgbaaDoor
