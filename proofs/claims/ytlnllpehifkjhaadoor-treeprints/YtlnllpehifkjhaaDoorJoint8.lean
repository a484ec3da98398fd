/- How high a tree is, and how many nodes it has. slices.ContainsFunc over nodes and over texts; whether a tree is too high. -/
import Derived.Test.YtlnllpehifkjhaaDoorJoint3
namespace Go.Proofs.YtlnllpehifkjhaaDoor
open Go.RowKit

theorem take_one {α : Type} (l : List α) (i : Nat) (h : i < l.length) : l.take (i + 1) = l.take i ++ [l[i]] := by
  rw [List.take_succ_eq_append_getElem h]

set_option maxHeartbeats 1600000 in
theorem count_calls (t : Nd) : ∀ (B : Nat) (w : World) (nv kv : Value), B ≤ w.heap.size → Hid (NdIn B w t nv kv) → countN t ≤ 1000000 →
    Calls Tryd.prog 13 #[.agg #[.int .i64 t.kind, .int .i64 t.op, .int .i64 t.num, .string t.str, nv, kv, .int .i64 t.pl]] w fun e w' =>
      e = .returned (.int .i64 (countN t)) ∧ Below w.heap.size w w' := by
  refine Nd.ind (P := fun t => ∀ (B : Nat) (w : World) (nv kv : Value), B ≤ w.heap.size → Hid (NdIn B w t nv kv) → countN t ≤ 1000000 →
    Calls Tryd.prog 13 #[.agg #[.int .i64 t.kind, .int .i64 t.op, .int .i64 t.num, .string t.str, nv, kv, .int .i64 t.pl]] w fun e w' =>
      e = .returned (.int .i64 (countN t)) ∧ Below w.heap.size w w') ?_ t
  clear t
  intro k o n s ns ks p ih B w nv kv hB hN hc
  obtain ⟨hs, hk⟩ := ndIn_mk.1 hN.out
  obtain ⟨ao, cap, rfl, hks⟩ := kidsIn_cases hk
  clear hk hN hs
  have hlen := length_count ks
  simp only [countN] at hc
  simp only [Nd.kind, Nd.op, Nd.num, Nd.str, Nd.pl]
  have IH := hid ih
  have KS := hid hks
  have HC := hid (show countN (.mk k o n s ns ks p) = countL ks + 1 by simp [countN])
  clear ih hks
  go_enter Tryd.func13, Tryd.ntmps13
  go_wp2_with fail
  go_loopw [3, 9] (fun a i wr => ∃ j : Nat, j ≤ ks.length ∧ i = .int .i64 j ∧ a = .int .i64 (countL (ks.take j) + 1) ∧ Below w.heap.size w wr) (fun _ i _ => ks.length - (intOf i).toNat)
  case atStart => exact ⟨0, Nat.zero_le _, rfl, rfl, (Below.refl _ _).alloc (Nat.le_refl _) _⟩
  case round =>
    obtain ⟨j, hj, rfl, rfl, hb⟩ := hrel
    have hct := countL_take ks j
    by_cases hjl : j < ks.length
    · obtain ⟨b, off, rfl, hbB, hat⟩ := KS.out.resolve_left (fun h => by rw [h] at hjl; cases hjl)
      obtain ⟨nv', kv', hnode, hin⟩ := ndsAt_get hat j hjl
      have hb' := hb.mono hB
      obtain ⟨c0, c1, c2, c3, c4, c5, c6⟩ := nodeAt_on hnode hbB hb'
      have hin' := ndIn_on hb' _ _ _ hin
      have ih := IH.out ks[j] (List.getElem_mem hjl)
      have hcm := count_mem (List.getElem_mem hjl)
      have HT := hid (show countL (ks.take (j + 1)) = countL (ks.take j) + countN ks[j] by rw [take_one ks j hjl, countL_snoc])
      have hct1 := countL_take ks (j + 1)
      rw [HT.out] at hct1
      generalize ks[j] = x at *
      have N := hid hin'
      have BB := hid hb
      have hsz := hb.size
      obtain ⟨a1, q1, a2, q2, rfl, rfl⟩ := ndIn_shape hin
      have IH' := hid ih
      clear hin hin' hnode hat hb hb' ih KS IH
      go_wp2_with fail
      refine (IH'.out B _ _ _ (by simp; omega) (hid (ndIn_on ((Below.refl B wr).alloc (by omega) _) _ _ _ N.out)) (by omega)).mono ?_
      rintro e w1 ⟨rfl, b1⟩
      have B1 := hid ((BB.out.alloc hsz _).trans (b1.mono (by simp; omega)))
      clear b1 BB N
      go_wp2_with fail
      go_roundw
      case rel => exact ⟨j + 1, by omega, by go_num, by rw [HT.out]; go_num, B1.out⟩
      case measure => simp [intOf]; omega
    · have e : ks.take j = ks := List.take_of_length_le (by omega)
      have BB := hid hb
      clear hb
      go_wp2_with fail
      go_ret
      exact ⟨by rw [HC.out, e]; rfl, BB.out⟩

set_option maxHeartbeats 1600000 in
theorem height_calls (t : Nd) : ∀ (B : Nat) (w : World) (nv kv : Value), B ≤ w.heap.size → Hid (NdIn B w t nv kv) → countN t ≤ 1000000 →
    Calls Tryd.prog 11 #[.agg #[.int .i64 t.kind, .int .i64 t.op, .int .i64 t.num, .string t.str, nv, kv, .int .i64 t.pl]] w fun e w' =>
      e = .returned (.int .i64 (highN t)) ∧ Below w.heap.size w w' := by
  refine Nd.ind (P := fun t => ∀ (B : Nat) (w : World) (nv kv : Value), B ≤ w.heap.size → Hid (NdIn B w t nv kv) → countN t ≤ 1000000 →
    Calls Tryd.prog 11 #[.agg #[.int .i64 t.kind, .int .i64 t.op, .int .i64 t.num, .string t.str, nv, kv, .int .i64 t.pl]] w fun e w' =>
      e = .returned (.int .i64 (highN t)) ∧ Below w.heap.size w w') ?_ t
  clear t
  intro k o n s ns ks p ih B w nv kv hB hN hc
  obtain ⟨hs, hk⟩ := ndIn_mk.1 hN.out
  obtain ⟨ao, cap, rfl, hks⟩ := kidsIn_cases hk
  clear hk hN hs
  have hlen := length_count ks
  have hhc := highL_count ks
  simp only [countN] at hc
  simp only [Nd.kind, Nd.op, Nd.num, Nd.str, Nd.pl]
  have IH := hid ih
  have KS := hid hks
  have HC := hid (show highN (.mk k o n s ns ks p) = highL ks + 1 by simp [highN])
  clear ih hks
  go_enter Tryd.func11, Tryd.ntmps11
  go_wp2_with fail
  go_loopw [3, 9] (fun a i wr => ∃ j : Nat, j ≤ ks.length ∧ i = .int .i64 j ∧ a = .int .i64 (highL (ks.take j)) ∧ Below w.heap.size w wr) (fun _ i _ => ks.length - (intOf i).toNat)
  case atStart => exact ⟨0, Nat.zero_le _, rfl, rfl, (Below.refl _ _).alloc (Nat.le_refl _) _⟩
  case round =>
    obtain ⟨j, hj, rfl, rfl, hb⟩ := hrel
    have hct := highL_take ks j
    by_cases hjl : j < ks.length
    · obtain ⟨b, off, rfl, hbB, hat⟩ := KS.out.resolve_left (fun h => by rw [h] at hjl; cases hjl)
      obtain ⟨nv', kv', hnode, hin⟩ := ndsAt_get hat j hjl
      have hb' := hb.mono hB
      obtain ⟨c0, c1, c2, c3, c4, c5, c6⟩ := nodeAt_on hnode hbB hb'
      have hin' := ndIn_on hb' _ _ _ hin
      have ih := IH.out ks[j] (List.getElem_mem hjl)
      have hcm := count_mem (List.getElem_mem hjl)
      have HT := hid (show highL (ks.take (j + 1)) = max (highL (ks.take j)) (highN ks[j]) by rw [take_one ks j hjl, highL_snoc])
      have hct1 := highL_take ks (j + 1)
      rw [HT.out] at hct1
      generalize ks[j] = x at *
      have N := hid hin'
      have BB := hid hb
      have hsz := hb.size
      obtain ⟨a1, q1, a2, q2, rfl, rfl⟩ := ndIn_shape hin
      have IH' := hid ih
      clear hin hin' hnode hat hb hb' ih KS IH
      go_wp2_with fail
      refine (IH'.out B _ _ _ (by simp; omega) (hid (ndIn_on ((Below.refl B wr).alloc (by omega) _) _ _ _ N.out)) (by omega)).mono ?_
      rintro e w1 ⟨rfl, b1⟩
      have B1 := hid ((BB.out.alloc hsz _).trans (b1.mono (by simp; omega)))
      clear b1 BB N
      go_wp2_with fail
      go_roundw
      case rel => exact ⟨j + 1, by omega, by go_num, by rw [HT.out]; go_num, B1.out⟩
      case measure => simp [intOf]; omega
    · have e : ks.take j = ks := List.take_of_length_le (by omega)
      have BB := hid hb
      clear hb
      go_wp2_with fail
      go_ret
      exact ⟨by rw [HC.out, e]; rfl, BB.out⟩

end Go.Proofs.YtlnllpehifkjhaaDoor

namespace Go.Proofs.YtlnllpehifkjhaaDoor
open Go.RowKit

theorem any_no {α : Type} (P : α → Bool) (l : List α) (h : ∀ (q : Nat) (hq : q < l.length), P l[q] = false) : l.any P = false := by
  rw [List.any_eq_false]
  intro x hx
  obtain ⟨q, hq, rfl⟩ := List.getElem_of_mem hx
  simp [h q hq]
theorem any_yes {α : Type} (P : α → Bool) (l : List α) {q : Nat} (hq : q < l.length) (h : P l[q] = true) : l.any P = true := by
  rw [List.any_eq_true]
  exact ⟨_, List.getElem_mem hq, h⟩

/-- what a closure answers at each of some nodes -/
def HiCl (P : Nd → Bool) (B : Nat) (cap : Value) (ks : List Nd) (w : World) : Prop := ∀ x ∈ ks, ∀ (w' : World) (nv kv : Value), Below w.heap.size w w' → Hid (NdIn B w' x nv kv) →
    Calls Tryd.prog 30 #[.agg #[.int .i64 x.kind, .int .i64 x.op, .int .i64 x.num, .string x.str, nv, kv, .int .i64 x.pl], cap] w' fun e w'' => e = .returned (.bool (P x)) ∧ Below w'.heap.size w' w''

set_option maxHeartbeats 1600000 in
theorem Hi_index (P : Nd → Bool) (B : Nat) (cap : Value) (w : World) (kv : Value) (ks : List Nd) (hB : B ≤ w.heap.size) (h1 : Hid (KidsIn B w kv ks)) (hc : ks.length ≤ 1000000) (CL : Hid (HiCl P B cap ks w)) :
    Calls Tryd.prog 40 #[kv, .func (.func 30) #[] #[cap]] w fun e w' => (∃ r : Int, e = .returned (.int .i64 r) ∧ decide (0 ≤ r) = ks.any P) ∧ Below w.heap.size w w' := by
  obtain ⟨ao, cp, rfl, hks⟩ := kidsIn_cases h1.out
  have K1 := hid hks
  clear hks h1
  go_enter Tryd.func40, Tryd.ntmps40
  go_wp2_with fail
  go_loopw [8] (fun i wr => ∃ j : Nat, j ≤ ks.length ∧ i = .int .i64 j ∧ (∀ (q : Nat) (hq : q < ks.length), q < j → P ks[q] = false) ∧ Below w.heap.size w wr) (fun i _ => ks.length - (intOf i).toNat)
  case atStart => exact ⟨0, Nat.zero_le _, rfl, fun q _ h => absurd h (Nat.not_lt_zero _), Below.refl _ _⟩
  case round =>
    obtain ⟨j, hj, rfl, hq, hb⟩ := hrel
    have BB := hid hb
    by_cases hjl : j < ks.length
    · obtain ⟨b, off, rfl, hbB, hat⟩ := K1.out.resolve_left (fun h => by rw [h] at hjl; cases hjl)
      obtain ⟨nv1, kv1, hnode, hin⟩ := ndsAt_get hat j hjl
      have hb' := hb.mono hB
      obtain ⟨c0, c1, c2, c3, c4, c5, c6⟩ := nodeAt_on hnode hbB hb'
      have N1 := hid (ndIn_on hb' _ _ _ hin)
      have cl := hid (CL.out ks[j] (List.getElem_mem hjl) wr nv1 kv1 hb N1)
      have HY := hid (fun h => any_yes P ks hjl h)
      have HQ := hid (fun (he : P ks[j] = false) => show ∀ (q : Nat) (hq : q < ks.length), q < j + 1 → P ks[q] = false from fun q h1 h3 => by
        rcases Nat.lt_or_ge q j with h4 | h4
        · exact hq q h1 h4
        · obtain rfl : q = j := by omega
          exact he)
      generalize ks[j] = x at *
      obtain ⟨a1, q1, a2, q2, rfl, rfl⟩ := ndIn_shape hin
      clear hin hnode hat hb hb' K1 CL hq N1
      go_wp2_with fail
      refine cl.out.mono ?_
      rintro e w1 ⟨rfl, b1⟩
      have B1 := hid (below_in BB.out (Nat.le_refl _) b1)
      clear b1 BB cl
      generalize P x = sb at *
      cases sb
      · have H := hid (HQ.out rfl)
        clear HY HQ
        go_wp2_with fail
        go_roundw
        case rel => exact ⟨j + 1, by omega, by go_num, H.out, B1.out⟩
        case measure => simp [intOf]; omega
      · have H := hid (HY.out rfl)
        clear HY HQ
        go_wp2_with fail
        go_ret
        exact ⟨⟨j, rfl, by rw [H.out]; simp⟩, B1.out⟩
    · have H := hid (any_no P ks (fun q h1 => hq q h1 (by omega)))
      clear hq hb
      go_wp2_with fail
      go_ret
      exact ⟨⟨-1, rfl, by rw [H.out]; rfl⟩, BB.out⟩

theorem Hi_contains (P : Nd → Bool) (B : Nat) (cap : Value) (w : World) (kv : Value) (ks : List Nd) (hB : B ≤ w.heap.size) (h1 : Hid (KidsIn B w kv ks)) (hc : ks.length ≤ 1000000) (CL : Hid (HiCl P B cap ks w)) :
    Calls Tryd.prog 29 #[kv, .func (.func 30) #[] #[cap]] w fun e w' => e = .returned (.bool (ks.any P)) ∧ Below w.heap.size w w' := by
  go_enter Tryd.func29, Tryd.ntmps29
  go_wp2_with fail
  refine (Hi_index P B cap w kv ks hB h1 hc CL).mono ?_
  rintro e w1 ⟨⟨r, rfl, hr⟩, b1⟩
  have B1 := hid b1
  have HR := hid hr
  clear b1 hr
  go_wp2_with fail
  go_ret
  exact ⟨by rw [← HR.out]; rfl, B1.out⟩

/-- what a closure answers at each of some nodes -/
def AllCl (P : Nd → Bool) (B : Nat) (cap : Value) (ks : List Nd) (w : World) : Prop := ∀ x ∈ ks, ∀ (w' : World) (nv kv : Value), Below w.heap.size w w' → Hid (NdIn B w' x nv kv) →
    Calls Tryd.prog 56 #[.agg #[.int .i64 x.kind, .int .i64 x.op, .int .i64 x.num, .string x.str, nv, kv, .int .i64 x.pl], cap] w' fun e w'' => e = .returned (.bool (P x)) ∧ Below w'.heap.size w' w''

set_option maxHeartbeats 1600000 in
theorem All_index (P : Nd → Bool) (B : Nat) (cap : Value) (w : World) (kv : Value) (ks : List Nd) (hB : B ≤ w.heap.size) (h1 : Hid (KidsIn B w kv ks)) (hc : ks.length ≤ 1000000) (CL : Hid (AllCl P B cap ks w)) :
    Calls Tryd.prog 40 #[kv, .func (.func 56) #[] #[cap]] w fun e w' => (∃ r : Int, e = .returned (.int .i64 r) ∧ decide (0 ≤ r) = ks.any P) ∧ Below w.heap.size w w' := by
  obtain ⟨ao, cp, rfl, hks⟩ := kidsIn_cases h1.out
  have K1 := hid hks
  clear hks h1
  go_enter Tryd.func40, Tryd.ntmps40
  go_wp2_with fail
  go_loopw [8] (fun i wr => ∃ j : Nat, j ≤ ks.length ∧ i = .int .i64 j ∧ (∀ (q : Nat) (hq : q < ks.length), q < j → P ks[q] = false) ∧ Below w.heap.size w wr) (fun i _ => ks.length - (intOf i).toNat)
  case atStart => exact ⟨0, Nat.zero_le _, rfl, fun q _ h => absurd h (Nat.not_lt_zero _), Below.refl _ _⟩
  case round =>
    obtain ⟨j, hj, rfl, hq, hb⟩ := hrel
    have BB := hid hb
    by_cases hjl : j < ks.length
    · obtain ⟨b, off, rfl, hbB, hat⟩ := K1.out.resolve_left (fun h => by rw [h] at hjl; cases hjl)
      obtain ⟨nv1, kv1, hnode, hin⟩ := ndsAt_get hat j hjl
      have hb' := hb.mono hB
      obtain ⟨c0, c1, c2, c3, c4, c5, c6⟩ := nodeAt_on hnode hbB hb'
      have N1 := hid (ndIn_on hb' _ _ _ hin)
      have cl := hid (CL.out ks[j] (List.getElem_mem hjl) wr nv1 kv1 hb N1)
      have HY := hid (fun h => any_yes P ks hjl h)
      have HQ := hid (fun (he : P ks[j] = false) => show ∀ (q : Nat) (hq : q < ks.length), q < j + 1 → P ks[q] = false from fun q h1 h3 => by
        rcases Nat.lt_or_ge q j with h4 | h4
        · exact hq q h1 h4
        · obtain rfl : q = j := by omega
          exact he)
      generalize ks[j] = x at *
      obtain ⟨a1, q1, a2, q2, rfl, rfl⟩ := ndIn_shape hin
      clear hin hnode hat hb hb' K1 CL hq N1
      go_wp2_with fail
      refine cl.out.mono ?_
      rintro e w1 ⟨rfl, b1⟩
      have B1 := hid (below_in BB.out (Nat.le_refl _) b1)
      clear b1 BB cl
      generalize P x = sb at *
      cases sb
      · have H := hid (HQ.out rfl)
        clear HY HQ
        go_wp2_with fail
        go_roundw
        case rel => exact ⟨j + 1, by omega, by go_num, H.out, B1.out⟩
        case measure => simp [intOf]; omega
      · have H := hid (HY.out rfl)
        clear HY HQ
        go_wp2_with fail
        go_ret
        exact ⟨⟨j, rfl, by rw [H.out]; simp⟩, B1.out⟩
    · have H := hid (any_no P ks (fun q h1 => hq q h1 (by omega)))
      clear hq hb
      go_wp2_with fail
      go_ret
      exact ⟨⟨-1, rfl, by rw [H.out]; rfl⟩, BB.out⟩

theorem All_contains (P : Nd → Bool) (B : Nat) (cap : Value) (w : World) (kv : Value) (ks : List Nd) (hB : B ≤ w.heap.size) (h1 : Hid (KidsIn B w kv ks)) (hc : ks.length ≤ 1000000) (CL : Hid (AllCl P B cap ks w)) :
    Calls Tryd.prog 29 #[kv, .func (.func 56) #[] #[cap]] w fun e w' => e = .returned (.bool (ks.any P)) ∧ Below w.heap.size w w' := by
  go_enter Tryd.func29, Tryd.ntmps29
  go_wp2_with fail
  refine (All_index P B cap w kv ks hB h1 hc CL).mono ?_
  rintro e w1 ⟨⟨r, rfl, hr⟩, b1⟩
  have B1 := hid b1
  have HR := hid hr
  clear b1 hr
  go_wp2_with fail
  go_ret
  exact ⟨by rw [← HR.out]; rfl, B1.out⟩

/-- what a closure answers at each of some texts -/
def StrCl (P : ByteArray → Bool) (cap : Value) (ks : List ByteArray) (w : World) : Prop := ∀ x ∈ ks, ∀ (w' : World), Below w.heap.size w w' →
    Calls Tryd.prog 91 #[.string x, cap] w' fun e w'' => e = .returned (.bool (P x)) ∧ Below w'.heap.size w' w''

set_option maxHeartbeats 1600000 in
theorem Str_index (P : ByteArray → Bool) (B : Nat) (cap : Value) (w : World) (kv : Value) (ks : List ByteArray) (hB : B ≤ w.heap.size) (h1 : Hid (StrsIn B kv ks w)) (hc : ks.length ≤ 1000000) (CL : Hid (StrCl P cap ks w)) :
    Calls Tryd.prog 96 #[kv, .func (.func 91) #[] #[cap]] w fun e w' => (∃ r : Int, e = .returned (.int .i64 r) ∧ decide (0 ≤ r) = ks.any P) ∧ Below w.heap.size w w' := by
  obtain ⟨ao, cp, rfl, hks⟩ := strsIn_cases h1.out
  have K1 := hid hks
  clear hks h1
  go_enter Tryd.func96, Tryd.ntmps96
  go_wp2_with fail
  go_loopw [8] (fun i wr => ∃ j : Nat, j ≤ ks.length ∧ i = .int .i64 j ∧ (∀ (q : Nat) (hq : q < ks.length), q < j → P ks[q] = false) ∧ Below w.heap.size w wr) (fun i _ => ks.length - (intOf i).toNat)
  case atStart => exact ⟨0, Nat.zero_le _, rfl, fun q _ h => absurd h (Nat.not_lt_zero _), Below.refl _ _⟩
  case round =>
    obtain ⟨j, hj, rfl, hq, hb⟩ := hrel
    have BB := hid hb
    by_cases hjl : j < ks.length
    · obtain ⟨b, off, rfl, hbB, hat⟩ := K1.out.resolve_left (fun h => by rw [h] at hjl; cases hjl)
      have c0 := cell_keep (hb.mono hB) hbB (hat j hjl)
      have cl := hid (CL.out ks[j] (List.getElem_mem hjl) wr hb)
      have HY := hid (fun h => any_yes P ks hjl h)
      have HQ := hid (fun (he : P ks[j] = false) => show ∀ (q : Nat) (hq : q < ks.length), q < j + 1 → P ks[q] = false from fun q h1 h3 => by
        rcases Nat.lt_or_ge q j with h4 | h4
        · exact hq q h1 h4
        · obtain rfl : q = j := by omega
          exact he)
      generalize ks[j] = x at *
      clear hat hb K1 CL hq
      go_wp2_with fail
      refine cl.out.mono ?_
      rintro e w1 ⟨rfl, b1⟩
      have B1 := hid (below_in BB.out (Nat.le_refl _) b1)
      clear b1 BB cl
      generalize P x = sb at *
      cases sb
      · have H := hid (HQ.out rfl)
        clear HY HQ
        go_wp2_with fail
        go_roundw
        case rel => exact ⟨j + 1, by omega, by go_num, H.out, B1.out⟩
        case measure => simp [intOf]; omega
      · have H := hid (HY.out rfl)
        clear HY HQ
        go_wp2_with fail
        go_ret
        exact ⟨⟨j, rfl, by rw [H.out]; simp⟩, B1.out⟩
    · have H := hid (any_no P ks (fun q h1 => hq q h1 (by omega)))
      clear hq hb
      go_wp2_with fail
      go_ret
      exact ⟨⟨-1, rfl, by rw [H.out]; rfl⟩, BB.out⟩

theorem Str_contains (P : ByteArray → Bool) (B : Nat) (cap : Value) (w : World) (kv : Value) (ks : List ByteArray) (hB : B ≤ w.heap.size) (h1 : Hid (StrsIn B kv ks w)) (hc : ks.length ≤ 1000000) (CL : Hid (StrCl P cap ks w)) :
    Calls Tryd.prog 90 #[kv, .func (.func 91) #[] #[cap]] w fun e w' => e = .returned (.bool (ks.any P)) ∧ Below w.heap.size w w' := by
  go_enter Tryd.func90, Tryd.ntmps90
  go_wp2_with fail
  refine (Str_index P B cap w kv ks hB h1 hc CL).mono ?_
  rintro e w1 ⟨⟨r, rfl, hr⟩, b1⟩
  have B1 := hid b1
  have HR := hid hr
  clear b1 hr
  go_wp2_with fail
  go_ret
  exact ⟨by rw [← HR.out]; rfl, B1.out⟩

theorem high_any {k o n : Int} {s : ByteArray} {ns : List ByteArray} {ks : List Nd} {p : Int} {m : Nat} (hm : m ≠ 0) : ks.any (fun x => decide (m - 1 < highN x)) = decide (m < highN (.mk k o n s ns ks p)) := by
  have key : ∀ ks : List Nd, ks.any (fun x => decide (m - 1 < highN x)) = decide (m - 1 < highL ks) := by
    intro ks
    induction ks with
    | nil => simp [highL]
    | cons x r ih =>
      rw [List.any_cons, ih, highL, Bool.eq_iff_iff, Bool.or_eq_true, decide_eq_true_iff, decide_eq_true_iff, decide_eq_true_iff]
      omega
  rw [key, highN, Bool.eq_iff_iff, decide_eq_true_iff, decide_eq_true_iff]
  omega

/-- what is known of higher at a node -/
def HighAt (x : Nd) : Prop := ∀ (B : Nat) (w : World) (nv kv : Value) (m : Nat), B ≤ w.heap.size → Hid (NdIn B w x nv kv) → countN x ≤ 1000000 → m ≤ 1000 →
    Calls Tryd.prog 20 #[.agg #[.int .i64 x.kind, .int .i64 x.op, .int .i64 x.num, .string x.str, nv, kv, .int .i64 x.pl], .int .i64 m] w fun e w' =>
      e = .returned (.bool (decide (m < highN x))) ∧ Below w.heap.size w w'

theorem higher_one (x : Nd) (hx : HighAt x) (B : Nat) (w : World) (nv kv : Value) (g m : Nat) (hB : B ≤ w.heap.size) (hN : Hid (NdIn B w x nv kv)) (hc : countN x ≤ 1000000) (hm : m ≤ 1000) (hm0 : m ≠ 0) (hg : w.cell? ⟨g, 0, none⟩ = some (.int .i64 m)) (hgw : g < w.heap.size) :
    Calls Tryd.prog 30 #[.agg #[.int .i64 x.kind, .int .i64 x.op, .int .i64 x.num, .string x.str, nv, kv, .int .i64 x.pl], .pointer (some ⟨g, 0, none⟩)] w fun e w' =>
      e = .returned (.bool (decide (m - 1 < highN x))) ∧ Below w.heap.size w w' := by
  obtain ⟨a1, q1, a2, q2, rfl, rfl⟩ := ndIn_shape hN.out
  have hal := (Below.refl w.heap.size w).alloc (Nat.le_refl _) (.cells #[.int .i64 x.kind, .int .i64 x.op, .int .i64 x.num, .string x.str, .slice a1 x.names.length q1, .slice a2 x.kids.length q2, .int .i64 x.pl] 25)
  have AL := hid hal
  have N := hid (ndIn_on (hal.mono hB) _ _ _ hN.out)
  have HX := hid hx
  have EH := hid (show ((m : Int) - 1) = ((m - 1 : Nat) : Int) by omega)
  clear hal hN hx
  go_enter Tryd.func30, Tryd.ntmps30
  go_wp2_with fail
  rw [EH.out]
  refine (HX.out B _ _ _ (m - 1) (by simp; omega) N hc (by omega)).mono ?_
  rintro e w1 ⟨rfl, b1⟩
  have B1 := hid (below_in AL.out (by simp) b1)
  clear b1 AL N
  go_wp2_with fail
  go_ret
  exact ⟨rfl, B1.out⟩

theorem higher_calls (x : Nd) : HighAt x := by
  refine Nd.ind ?_ x
  clear x
  intro k o n s ns ks p ih B w nv kv m hB hN hc hm
  obtain ⟨hs, hk⟩ := ndIn_mk.1 hN.out
  obtain ⟨a1, q1, a2, q2, rfl, rfl⟩ := ndIn_shape hN.out
  simp only [Nd.kind, Nd.op, Nd.num, Nd.str, Nd.pl, Nd.names, Nd.kids] at *
  simp only [countN] at hc
  have hlen := length_count ks
  have hal := box2_below w (.cells #[.int .i64 k, .int .i64 o, .int .i64 n, .string s, .slice a1 ns.length q1, .slice a2 ks.length q2, .int .i64 p] 25) (.cells #[.int .i64 m] 3)
  by_cases h0 : m = 0
  · have e0 : ((m : Int) == 0) = true := beq_iff_eq.2 (by omega)
    have H := hid (show decide (m < highN (.mk k o n s ns ks p)) = true by rw [decide_eq_true_iff, h0]; exact highN_pos _)
    have AL := hid hal
    clear h0 hal hs hk hN
    go_enter Tryd.func20, Tryd.ntmps20
    go_wp2_with fail
    go_ret
    exact ⟨by rw [H.out]; rfl, AL.out⟩
  · have e0 : ((m : Int) == 0) = false := beq_eq_false_iff_ne.2 (by omega)
    have hmf : ∀ (fn : Fn) (first cap : Array Value) (w : World), (Instr.makeFunc fn first cap).run Tryd.prog w = .ok (.func fn first cap) w := fun _ _ _ _ => rfl
    have K := hid (kidsIn_on (hal.mono hB) hk)
    have H := hid (high_any (k := k) (o := o) (n := n) (s := s) (ns := ns) (ks := ks) (p := p) h0)
    have AL := hid hal
    have CL : Hid (HiCl (fun x => decide (m - 1 < highN x)) B (.pointer (some ⟨w.heap.size + 1, 0, none⟩)) ks ((w.alloc (.cells #[.int .i64 k, .int .i64 o, .int .i64 n, .string s, .slice a1 ns.length q1, .slice a2 ks.length q2, .int .i64 p] 25)).alloc (.cells #[.int .i64 m] 3))) := by
      intro x hx w' nv' kv' hb hin
      have hcm := count_mem hx
      have hz := hb.size
      simp only [World.size_alloc] at hz
      refine higher_one x (ih x hx) B w' nv' kv' (w.heap.size + 1) m (by omega) hin (by omega) hm h0 ?_ (by omega)
      refine cell_keep hb (by simp) ?_
      simp
    clear hal hs hk hN h0 ih
    go_enter Tryd.func20, Tryd.ntmps20
    go_wp2_with fail
    refine (Hi_contains (fun x => decide (m - 1 < highN x)) B _ _ _ ks (by simp; omega) K (by omega) CL).mono ?_
    rintro e w1 ⟨rfl, b1⟩
    have B1 := hid (below_in AL.out (by simp) b1)
    clear b1 AL K CL
    rw [H.out]
    go_wp2_with fail
    go_ret
    exact ⟨rfl, B1.out⟩

end Go.Proofs.YtlnllpehifkjhaaDoor
