/- Whether a node of a unit is right, and all below it. -/
import Derived.Test.YtgdbaceehpcgbaaDoorScIsPlain
import Derived.Test.YtgdbaceehpcgbaaDoorTreeAll
namespace Go.Proofs.YtgdbaceehpcgbaaDoor
set_option linter.unusedSimpArgs false
open Go.RowKit

/-- what a closure answers at each of some nodes -/
def RtCl (P : Nd → Bool) (B : Nat) (cap : Value) (ks : List Nd) (w : World) : Prop := ∀ x ∈ ks, ∀ (w' : World) (nv kv : Value), Below w.heap.size w w' → Hid (NdIn B w' x nv kv) →
    Calls Tryd.prog 84 #[.agg #[.int .i64 x.kind, .int .i64 x.op, .int .i64 x.num, .string x.str, nv, kv, .int .i64 x.pl], cap] w' fun e w'' => e = .returned (.bool (P x)) ∧ Below w'.heap.size w' w''

set_option maxHeartbeats 1600000 in
theorem Rt_index (P : Nd → Bool) (B : Nat) (cap : Value) (w : World) (kv : Value) (ks : List Nd) (hB : B ≤ w.heap.size) (h1 : Hid (KidsIn B w kv ks)) (hc : ks.length ≤ 1000000) (CL : Hid (RtCl P B cap ks w)) :
    Calls Tryd.prog 63 #[kv, .func (.func 84) #[] #[cap]] w fun e w' => (∃ r : Int, e = .returned (.int .i64 r) ∧ decide (0 ≤ r) = ks.any P) ∧ Below w.heap.size w w' := by
  obtain ⟨ao, cp, rfl, hks⟩ := kidsIn_cases h1.out
  have K1 := hid hks
  clear hks h1
  go_enter Tryd.func63, Tryd.ntmps63
  go_wp2_with fail
  go_loopw [8] (fun i wr => ∃ j : Nat, j ≤ ks.length ∧ i = .int .i64 j ∧ (∀ (q : Nat) (hq : q < ks.length), q < j → P ks[q] = false) ∧ Below w.heap.size w wr) (fun i _ => ks.length - (intOf i).toNat)
  case atStart => exact ⟨0, Nat.zero_le _, rfl, fun q _ h => absurd h (Nat.not_lt_zero _), Below.refl _ _⟩
  case round =>
    obtain ⟨j, hj, rfl, hq, hb⟩ := hrel
    have BB := hid hb
    by_cases hjl : j < ks.length
    · obtain ⟨b, off, rfl, hbB, hat⟩ := K1.out.resolve_left (fun h => by rw [h] at hjl; cases hjl)
      obtain ⟨nv1, kv1, hnode, hin⟩ := ndsAt_get hat j hjl
      have hb' := hb.mono hB
      obtain ⟨c0, c1, c2, c3, c4, c5, c6⟩ := nodeAt_on hnode hbB hb'
      have N1 := hid (ndIn_on hb' _ _ _ hin)
      have cl := hid (CL.out ks[j] (List.getElem_mem hjl) wr nv1 kv1 hb N1)
      have HY := hid (fun h => any_yes P ks hjl h)
      have HQ := hid (fun (he : P ks[j] = false) => show ∀ (q : Nat) (hq : q < ks.length), q < j + 1 → P ks[q] = false from fun q h1 h3 => by
        rcases Nat.lt_or_ge q j with h4 | h4
        · exact hq q h1 h4
        · obtain rfl : q = j := by omega
          exact he)
      generalize ks[j] = x at *
      obtain ⟨a1, q1, a2, q2, rfl, rfl⟩ := ndIn_shape hin
      clear hin hnode hat hb hb' K1 CL hq N1
      go_wp2_with fail
      refine cl.out.mono ?_
      rintro e w1 ⟨rfl, b1⟩
      have B1 := hid (below_in BB.out (Nat.le_refl _) b1)
      clear b1 BB cl
      generalize P x = sb at *
      cases sb
      · have H := hid (HQ.out rfl)
        clear HY HQ
        go_wp2_with fail
        go_roundw
        case rel => exact ⟨j + 1, by omega, by go_num, H.out, B1.out⟩
        case measure => simp [intOf]; omega
      · have H := hid (HY.out rfl)
        clear HY HQ
        go_wp2_with fail
        go_ret
        exact ⟨⟨j, rfl, by rw [H.out]; simp⟩, B1.out⟩
    · have H := hid (any_no P ks (fun q h1 => hq q h1 (by omega)))
      clear hq hb
      go_wp2_with fail
      go_ret
      exact ⟨⟨-1, rfl, by rw [H.out]; rfl⟩, BB.out⟩

theorem Rt_contains (P : Nd → Bool) (B : Nat) (cap : Value) (w : World) (kv : Value) (ks : List Nd) (hB : B ≤ w.heap.size) (h1 : Hid (KidsIn B w kv ks)) (hc : ks.length ≤ 1000000) (CL : Hid (RtCl P B cap ks w)) :
    Calls Tryd.prog 46 #[kv, .func (.func 84) #[] #[cap]] w fun e w' => e = .returned (.bool (ks.any P)) ∧ Below w.heap.size w w' := by
  go_enter Tryd.func46, Tryd.ntmps46
  go_wp2_with fail
  refine (Rt_index P B cap w kv ks hB h1 hc CL).mono ?_
  rintro e w1 ⟨⟨r, rfl, hr⟩, b1⟩
  have B1 := hid b1
  have HR := hid hr
  clear b1 hr
  go_wp2_with fail
  go_ret
  exact ⟨by rw [← HR.out]; rfl, B1.out⟩


theorem rightUL_any (b : Bds) : ∀ (l : List Nd), rightUL b l = !(l.any fun x => !rightU b x)
  | [] => by rw [rightUL]; rfl
  | x :: r => by rw [rightUL, rightUL_any b r, List.any_cons]; cases rightU b x <;> rfl
def BdsOk (b : Bds) : Prop := (-1000000 ≤ b.1 ∧ b.1 ≤ 1000000) ∧ (-1000000 ≤ b.2.1 ∧ b.2.1 ≤ 1000000) ∧ (-1000000 ≤ b.2.2 ∧ b.2.2 ≤ 1000000)
def RightAt (t : Nd) : Prop := ∀ (b : Bds) (B : Nat) (w : World) (nv kv : Value), BdsOk b → Hid (Ok B w) → Hid (NdIn B w t nv kv) → smallN t = true → countN t ≤ 400000 →
    Calls Tryd.prog 66 #[.agg #[.int .i64 b.1, .int .i64 b.2.1, .int .i64 b.2.2], .agg #[.int .i64 t.kind, .int .i64 t.op, .int .i64 t.num, .string t.str, nv, kv, .int .i64 t.pl]] w fun e w' => e = .returned (.bool (rightU b t)) ∧ Below w.heap.size w w'
/-- the closure: not right -/
theorem right1_calls (x : Nd) (ih : RightAt x) (b : Bds) (B g : Nat) (w : World) (nv kv : Value) (hb : BdsOk b) (hO : Hid (Ok B w)) (hN : Hid (NdIn B w x nv kv)) (hs : smallN x = true) (hc : countN x ≤ 400000) (hG : Hid (Blk g 98 #[.int .i64 b.1, .int .i64 b.2.1, .int .i64 b.2.2] w)) :
    Calls Tryd.prog 84 #[.agg #[.int .i64 x.kind, .int .i64 x.op, .int .i64 x.num, .string x.str, nv, kv, .int .i64 x.pl], .pointer (some ⟨g, 0, none⟩)] w fun e w' => e = .returned (.bool (!rightU b x)) ∧ Below w.heap.size w w' := by
  obtain ⟨a1, q1, a2, q2, rfl, rfl⟩ := ndIn_shape hN.out
  have A := (Below.refl w.heap.size w).alloc (Nat.le_refl _) (.cells #[.int .i64 x.kind, .int .i64 x.op, .int .i64 x.num, .string x.str, .slice a1 x.names.length q1, .slice a2 x.kids.length q2, .int .i64 x.pl] 47)
  have hB := hO.out.1
  have IH := hid (ih b B _ (.slice a1 x.names.length q1) (.slice a2 x.kids.length q2) hb (hid (ok_on hO.out (A.mono hB))) (hid (ndIn_on (A.mono hB) _ _ _ hN.out)) hs hc)
  have hg := blk_lt hG.out
  have hn : g ≠ w.heap.size := by omega
  have g0 : w.cell? ⟨g, 0, none⟩ = some (.int .i64 b.1) := (blk_cell hG.out 0).trans rfl
  have g1 : w.cell? ⟨g, 1, none⟩ = some (.int .i64 b.2.1) := (blk_cell hG.out 1).trans rfl
  have g2 : w.cell? ⟨g, 2, none⟩ = some (.int .i64 b.2.2) := (blk_cell hG.out 2).trans rfl
  have HA := hid A
  clear A ih hN hO
  go_enter Tryd.func84, Tryd.ntmps84
  go_wp2_with fail
  refine IH.out.mono ?_
  rintro e1 w1 ⟨rfl, b1⟩
  have B1 := hid (below_on HA.out b1)
  clear b1 IH
  go_wp2_with fail
  go_ret
  exact ⟨rfl, B1.out⟩
set_option maxHeartbeats 4000000 in
theorem right_of (k o n : Int) (s : ByteArray) (ns : List ByteArray) (ks : List Nd) (p : Int) (ih : ∀ x ∈ ks, RightAt x) : RightAt (.mk k o n s ns ks p) := by
  intro b B w nv kv hb hO hN hs hc
  have hB := hO.out.1
  obtain ⟨h1, h2⟩ := ndIn_mk.1 hN.out
  obtain ⟨na, nc, rfl, _⟩ := strsIn_cases h1
  obtain ⟨ka, kc, rfl, _⟩ := kidsIn_cases h2
  have HK := hid h2
  have hcl : countL ks ≤ 400000 := by rw [countN] at hc; omega
  have hlen := countL_len ks
  simp only [Nd.kind, Nd.op, Nd.num, Nd.str, Nd.pl]
  have H := hid (show rightU b (.mk k o n s ns ks p) = (namedB b k n && (plainB (.mk k o n s ns ks p) && !(ks.any fun x => !rightU b x))) by rw [rightU, rightUL_any])
  have A := ((Below.refl w.heap.size w).alloc (Nat.le_refl _) (.cells #[.int .i64 b.1, .int .i64 b.2.1, .int .i64 b.2.2] 98)).alloc (by simp) (.cells #[.int .i64 k, .int .i64 o, .int .i64 n, .string s, .slice na ns.length nc, .slice ka ks.length kc, .int .i64 p] 47)
  have x1 := blk_on (blk_new w 98 #[.int .i64 b.1, .int .i64 b.2.1, .int .i64 b.2.2]) ((Below.refl _ _).alloc (Nat.le_refl _) (.cells #[.int .i64 k, .int .i64 o, .int .i64 n, .string s, .slice na ns.length nc, .slice ka ks.length kc, .int .i64 p] 47))
  have x2 := (two_new w 98 47 #[.int .i64 b.1, .int .i64 b.2.1, .int .i64 b.2.2] #[.int .i64 k, .int .i64 o, .int .i64 n, .string s, .slice na ns.length nc, .slice ka ks.length kc, .int .i64 p]).1
  have HA := hid A
  have X1 := hid x1
  have X2 := hid x2
  have HNM := hid (isNamed_calls b hb k o n s na ka ns.length nc ks.length kc p ((w.alloc (.cells #[.int .i64 b.1, .int .i64 b.2.1, .int .i64 b.2.2] 98)).alloc (.cells #[.int .i64 k, .int .i64 o, .int .i64 n, .string s, .slice na ns.length nc, .slice ka ks.length kc, .int .i64 p] 47)))
  have HIH := hid ih
  clear A x1 x2 ih h1 h2
  go_enter Tryd.func66, Tryd.ntmps66
  go_wp2_with fail
  refine HNM.out.mono ?_
  rintro e1 w1 ⟨rfl, b1⟩
  have B1 := hid (below_on HA.out b1)
  have Y1 := hid (blk_on X1.out b1)
  have y2 := blk_on X2.out b1
  have Y2 := hid y2
  obtain ⟨c0, c1, c2, c3, c4, c5, c6⟩ := box_cells (show Box (w.heap.size + 1) k o n s (.slice na ns.length nc) (.slice ka ks.length kc) p w1 from y2)
  clear b1 y2 HNM HA X1 X2
  cases hn : namedB b k n
  · rw [hn] at H
    go_wp2_with fail
    go_ret
    exact ⟨by rw [H.out]; rfl, B1.out⟩
  · rw [hn] at H
    have HPL := hid (isPlain_calls k o n s ns ks p B w1 (.slice na ns.length nc) (.slice ka ks.length kc) (hid (ok_on hO.out (B1.out.mono hB))) (hid (ndIn_on (B1.out.mono hB) _ _ _ hN.out)) hs (by omega))
    go_wp2_with fail
    refine HPL.out.mono ?_
    rintro e2 w2 ⟨rfl, b2⟩
    have B2 := hid (below_on B1.out b2)
    have Z1 := hid (blk_on Y1.out b2)
    have z2 := blk_on Y2.out b2
    obtain ⟨c0, c1, c2, c3, c4, c5, c6⟩ := box_cells (show Box (w.heap.size + 1) k o n s (.slice na ns.length nc) (.slice ka ks.length kc) p w2 from z2)
    clear b2 z2 HPL Y1 Y2 B1
    cases hp : plainB (.mk k o n s ns ks p)
    · rw [hp] at H
      go_wp2_with fail
      go_ret
      exact ⟨by rw [H.out]; rfl, B2.out⟩
    · rw [hp] at H
      have hz2 := B2.out.size
      have HC := hid (Rt_contains (fun x => !rightU b x) B (.pointer (some ⟨w.heap.size, 0, none⟩)) w2 (.slice ka ks.length kc) ks (by omega) (hid (kidsIn_on (B2.out.mono hB) HK.out)) (by omega) (hid (fun x hx w' nv' kv' q hq =>
        right1_calls x (HIH.out x hx) b B w.heap.size w' nv' kv' hb (hid (ok_on hO.out ((below_on B2.out q).mono hB))) hq ((small_mk hs).2.2.2 x hx) (by have := count_mem hx; omega) (hid (blk_on Z1.out q)))))
      go_wp2_with fail
      refine HC.out.mono ?_
      rintro e3 w3 ⟨rfl, b3⟩
      have B3 := hid (below_on B2.out b3)
      clear b3 HC
      go_wp2_with fail
      go_ret
      exact ⟨by rw [H.out]; rfl, B3.out⟩
theorem isRight_calls (t : Nd) : RightAt t := by
  refine Nd.ind (P := RightAt) ?_ t
  intro k o n s ns ks p ih
  exact right_of k o n s ns ks p ih

end Go.Proofs.YtgdbaceehpcgbaaDoor
