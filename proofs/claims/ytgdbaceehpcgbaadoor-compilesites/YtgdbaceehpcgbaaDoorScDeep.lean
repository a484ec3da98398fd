/- Whether a function has a statement that is too high. -/
import Derived.Test.YtgdbaceehpcgbaaDoorJoint21
import Derived.Test.YtgdbaceehpcgbaaDoorTreeAll
import Derived.Test.YtgdbaceehpcgbaaDoorScMay
import Derived.Test.YtgdbaceehpcgbaaDoorJoint8
namespace Go.Proofs.YtgdbaceehpcgbaaDoor
set_option linter.unusedSimpArgs false
open Go.RowKit

/-- what a closure answers at each of some nodes -/
def DpCl (P : Nd → Bool) (B : Nat) (ks : List Nd) (w : World) : Prop := ∀ x ∈ ks, ∀ (w' : World) (nv kv : Value), Below w.heap.size w w' → Hid (NdIn B w' x nv kv) →
    Calls Tryd.prog 47 #[.agg #[.int .i64 x.kind, .int .i64 x.op, .int .i64 x.num, .string x.str, nv, kv, .int .i64 x.pl]] w' fun e w'' => e = .returned (.bool (P x)) ∧ Below w'.heap.size w' w''

set_option maxHeartbeats 1600000 in
theorem Dp_index (P : Nd → Bool) (B : Nat) (w : World) (kv : Value) (ks : List Nd) (hB : B ≤ w.heap.size) (h1 : Hid (KidsIn B w kv ks)) (hc : ks.length ≤ 1000000) (CL : Hid (DpCl P B ks w)) :
    Calls Tryd.prog 63 #[kv, .func (.func 47) #[] #[]] w fun e w' => (∃ r : Int, e = .returned (.int .i64 r) ∧ decide (0 ≤ r) = ks.any P) ∧ Below w.heap.size w w' := by
  obtain ⟨ao, cp, rfl, hks⟩ := kidsIn_cases h1.out
  have K1 := hid hks
  clear hks h1
  go_enter Tryd.func63, Tryd.ntmps63
  go_wp2_with fail
  go_loopw [8] (fun i wr => ∃ j : Nat, j ≤ ks.length ∧ i = .int .i64 j ∧ (∀ (q : Nat) (hq : q < ks.length), q < j → P ks[q] = false) ∧ Below w.heap.size w wr) (fun i _ => ks.length - (intOf i).toNat)
  case atStart => exact ⟨0, Nat.zero_le _, rfl, fun q _ h => absurd h (Nat.not_lt_zero _), Below.refl _ _⟩
  case round =>
    obtain ⟨j, hj, rfl, hq, hb⟩ := hrel
    have BB := hid hb
    by_cases hjl : j < ks.length
    · obtain ⟨b, off, rfl, hbB, hat⟩ := K1.out.resolve_left (fun h => by rw [h] at hjl; cases hjl)
      obtain ⟨nv1, kv1, hnode, hin⟩ := ndsAt_get hat j hjl
      have hb' := hb.mono hB
      obtain ⟨c0, c1, c2, c3, c4, c5, c6⟩ := nodeAt_on hnode hbB hb'
      have N1 := hid (ndIn_on hb' _ _ _ hin)
      have cl := hid (CL.out ks[j] (List.getElem_mem hjl) wr nv1 kv1 hb N1)
      have HY := hid (fun h => any_yes P ks hjl h)
      have HQ := hid (fun (he : P ks[j] = false) => show ∀ (q : Nat) (hq : q < ks.length), q < j + 1 → P ks[q] = false from fun q h1 h3 => by
        rcases Nat.lt_or_ge q j with h4 | h4
        · exact hq q h1 h4
        · obtain rfl : q = j := by omega
          exact he)
      generalize ks[j] = x at *
      obtain ⟨a1, q1, a2, q2, rfl, rfl⟩ := ndIn_shape hin
      clear hin hnode hat hb hb' K1 CL hq N1
      go_wp2_with fail
      refine cl.out.mono ?_
      rintro e w1 ⟨rfl, b1⟩
      have B1 := hid (below_in BB.out (Nat.le_refl _) b1)
      clear b1 BB cl
      generalize P x = sb at *
      cases sb
      · have H := hid (HQ.out rfl)
        clear HY HQ
        go_wp2_with fail
        go_roundw
        case rel => exact ⟨j + 1, by omega, by go_num, H.out, B1.out⟩
        case measure => simp [intOf]; omega
      · have H := hid (HY.out rfl)
        clear HY HQ
        go_wp2_with fail
        go_ret
        exact ⟨⟨j, rfl, by rw [H.out]; simp⟩, B1.out⟩
    · have H := hid (any_no P ks (fun q h1 => hq q h1 (by omega)))
      clear hq hb
      go_wp2_with fail
      go_ret
      exact ⟨⟨-1, rfl, by rw [H.out]; rfl⟩, BB.out⟩

theorem Dp_contains (P : Nd → Bool) (B : Nat) (w : World) (kv : Value) (ks : List Nd) (hB : B ≤ w.heap.size) (h1 : Hid (KidsIn B w kv ks)) (hc : ks.length ≤ 1000000) (CL : Hid (DpCl P B ks w)) :
    Calls Tryd.prog 46 #[kv, .func (.func 47) #[] #[]] w fun e w' => e = .returned (.bool (ks.any P)) ∧ Below w.heap.size w w' := by
  go_enter Tryd.func46, Tryd.ntmps46
  go_wp2_with fail
  refine (Dp_index P B w kv ks hB h1 hc CL).mono ?_
  rintro e w1 ⟨⟨r, rfl, hr⟩, b1⟩
  have B1 := hid b1
  have HR := hid hr
  clear b1 hr
  go_wp2_with fail
  go_ret
  exact ⟨by rw [← HR.out]; rfl, B1.out⟩


theorem deep1_calls (x : Nd) (B : Nat) (w : World) (nv kv : Value) (hO : Hid (Ok B w)) (hN : Hid (NdIn B w x nv kv)) (hs : smallN x = true) (hc : countN x ≤ 1000000) :
    Calls Tryd.prog 47 #[.agg #[.int .i64 x.kind, .int .i64 x.op, .int .i64 x.num, .string x.str, nv, kv, .int .i64 x.pl]] w fun e w' => e = .returned (.bool (checkN x == 13)) ∧ Below w.heap.size w w' := by
  obtain ⟨a1, q1, a2, q2, rfl, rfl⟩ := ndIn_shape hN.out
  have A := (Below.refl w.heap.size w).alloc (Nat.le_refl _) (.cells #[.int .i64 x.kind, .int .i64 x.op, .int .i64 x.num, .string x.str, .slice a1 x.names.length q1, .slice a2 x.kids.length q2, .int .i64 x.pl] 47)
  have hB := hO.out.1
  have IH := hid (check_tree x B _ (.slice a1 x.names.length q1) (.slice a2 x.kids.length q2) (hid (ok_on hO.out (A.mono hB))) (hid (ndIn_on (A.mono hB) _ _ _ hN.out)) hs hc)
  have HA := hid A
  clear A hN hO
  go_enter Tryd.func47, Tryd.ntmps47
  go_wp2_with fail
  refine IH.out.mono ?_
  rintro e1 w1 ⟨rfl, b1⟩
  have B1 := hid (below_on HA.out b1)
  clear b1 IH
  go_wp2_with fail
  go_ret
  exact ⟨rfl, B1.out⟩

end Go.Proofs.YtgdbaceehpcgbaaDoor
