/- slices.ContainsFunc over nodes and over texts; whether a tree is too high. -/
import Derived.Test.YtgdbaceehpcgbaaDoorJoint3
namespace Go.Proofs.YtgdbaceehpcgbaaDoor
open Go.RowKit

theorem any_no {α : Type} (P : α → Bool) (l : List α) (h : ∀ (q : Nat) (hq : q < l.length), P l[q] = false) : l.any P = false := by
  rw [List.any_eq_false]
  intro x hx
  obtain ⟨q, hq, rfl⟩ := List.getElem_of_mem hx
  simp [h q hq]
theorem any_yes {α : Type} (P : α → Bool) (l : List α) {q : Nat} (hq : q < l.length) (h : P l[q] = true) : l.any P = true := by
  rw [List.any_eq_true]
  exact ⟨_, List.getElem_mem hq, h⟩

/-- what a closure answers at each of some nodes -/
def HiCl (P : Nd → Bool) (B : Nat) (cap : Value) (ks : List Nd) (w : World) : Prop := ∀ x ∈ ks, ∀ (w' : World) (nv kv : Value), Below w.heap.size w w' → Hid (NdIn B w' x nv kv) →
    Calls Tryd.prog 78 #[.agg #[.int .i64 x.kind, .int .i64 x.op, .int .i64 x.num, .string x.str, nv, kv, .int .i64 x.pl], cap] w' fun e w'' => e = .returned (.bool (P x)) ∧ Below w'.heap.size w' w''

set_option maxHeartbeats 1600000 in
theorem Hi_index (P : Nd → Bool) (B : Nat) (cap : Value) (w : World) (kv : Value) (ks : List Nd) (hB : B ≤ w.heap.size) (h1 : Hid (KidsIn B w kv ks)) (hc : ks.length ≤ 1000000) (CL : Hid (HiCl P B cap ks w)) :
    Calls Tryd.prog 63 #[kv, .func (.func 78) #[] #[cap]] w fun e w' => (∃ r : Int, e = .returned (.int .i64 r) ∧ decide (0 ≤ r) = ks.any P) ∧ Below w.heap.size w w' := by
  obtain ⟨ao, cp, rfl, hks⟩ := kidsIn_cases h1.out
  have K1 := hid hks
  clear hks h1
  go_enter Tryd.func63, Tryd.ntmps63
  go_wp2_with fail
  go_loopw [8] (fun i wr => ∃ j : Nat, j ≤ ks.length ∧ i = .int .i64 j ∧ (∀ (q : Nat) (hq : q < ks.length), q < j → P ks[q] = false) ∧ Below w.heap.size w wr) (fun i _ => ks.length - (intOf i).toNat)
  case atStart => exact ⟨0, Nat.zero_le _, rfl, fun q _ h => absurd h (Nat.not_lt_zero _), Below.refl _ _⟩
  case round =>
    obtain ⟨j, hj, rfl, hq, hb⟩ := hrel
    have BB := hid hb
    by_cases hjl : j < ks.length
    · obtain ⟨b, off, rfl, hbB, hat⟩ := K1.out.resolve_left (fun h => by rw [h] at hjl; cases hjl)
      obtain ⟨nv1, kv1, hnode, hin⟩ := ndsAt_get hat j hjl
      have hb' := hb.mono hB
      obtain ⟨c0, c1, c2, c3, c4, c5, c6⟩ := nodeAt_on hnode hbB hb'
      have N1 := hid (ndIn_on hb' _ _ _ hin)
      have cl := hid (CL.out ks[j] (List.getElem_mem hjl) wr nv1 kv1 hb N1)
      have HY := hid (fun h => any_yes P ks hjl h)
      have HQ := hid (fun (he : P ks[j] = false) => show ∀ (q : Nat) (hq : q < ks.length), q < j + 1 → P ks[q] = false from fun q h1 h3 => by
        rcases Nat.lt_or_ge q j with h4 | h4
        · exact hq q h1 h4
        · obtain rfl : q = j := by omega
          exact he)
      generalize ks[j] = x at *
      obtain ⟨a1, q1, a2, q2, rfl, rfl⟩ := ndIn_shape hin
      clear hin hnode hat hb hb' K1 CL hq N1
      go_wp2_with fail
      refine cl.out.mono ?_
      rintro e w1 ⟨rfl, b1⟩
      have B1 := hid (below_in BB.out (Nat.le_refl _) b1)
      clear b1 BB cl
      generalize P x = sb at *
      cases sb
      · have H := hid (HQ.out rfl)
        clear HY HQ
        go_wp2_with fail
        go_roundw
        case rel => exact ⟨j + 1, by omega, by go_num, H.out, B1.out⟩
        case measure => simp [intOf]; omega
      · have H := hid (HY.out rfl)
        clear HY HQ
        go_wp2_with fail
        go_ret
        exact ⟨⟨j, rfl, by rw [H.out]; simp⟩, B1.out⟩
    · have H := hid (any_no P ks (fun q h1 => hq q h1 (by omega)))
      clear hq hb
      go_wp2_with fail
      go_ret
      exact ⟨⟨-1, rfl, by rw [H.out]; rfl⟩, BB.out⟩

theorem Hi_contains (P : Nd → Bool) (B : Nat) (cap : Value) (w : World) (kv : Value) (ks : List Nd) (hB : B ≤ w.heap.size) (h1 : Hid (KidsIn B w kv ks)) (hc : ks.length ≤ 1000000) (CL : Hid (HiCl P B cap ks w)) :
    Calls Tryd.prog 46 #[kv, .func (.func 78) #[] #[cap]] w fun e w' => e = .returned (.bool (ks.any P)) ∧ Below w.heap.size w w' := by
  go_enter Tryd.func46, Tryd.ntmps46
  go_wp2_with fail
  refine (Hi_index P B cap w kv ks hB h1 hc CL).mono ?_
  rintro e w1 ⟨⟨r, rfl, hr⟩, b1⟩
  have B1 := hid b1
  have HR := hid hr
  clear b1 hr
  go_wp2_with fail
  go_ret
  exact ⟨by rw [← HR.out]; rfl, B1.out⟩

/-- what a closure answers at each of some nodes -/
def AllCl (P : Nd → Bool) (B : Nat) (cap : Value) (ks : List Nd) (w : World) : Prop := ∀ x ∈ ks, ∀ (w' : World) (nv kv : Value), Below w.heap.size w w' → Hid (NdIn B w' x nv kv) →
    Calls Tryd.prog 98 #[.agg #[.int .i64 x.kind, .int .i64 x.op, .int .i64 x.num, .string x.str, nv, kv, .int .i64 x.pl], cap] w' fun e w'' => e = .returned (.bool (P x)) ∧ Below w'.heap.size w' w''

set_option maxHeartbeats 1600000 in
theorem All_index (P : Nd → Bool) (B : Nat) (cap : Value) (w : World) (kv : Value) (ks : List Nd) (hB : B ≤ w.heap.size) (h1 : Hid (KidsIn B w kv ks)) (hc : ks.length ≤ 1000000) (CL : Hid (AllCl P B cap ks w)) :
    Calls Tryd.prog 63 #[kv, .func (.func 98) #[] #[cap]] w fun e w' => (∃ r : Int, e = .returned (.int .i64 r) ∧ decide (0 ≤ r) = ks.any P) ∧ Below w.heap.size w w' := by
  obtain ⟨ao, cp, rfl, hks⟩ := kidsIn_cases h1.out
  have K1 := hid hks
  clear hks h1
  go_enter Tryd.func63, Tryd.ntmps63
  go_wp2_with fail
  go_loopw [8] (fun i wr => ∃ j : Nat, j ≤ ks.length ∧ i = .int .i64 j ∧ (∀ (q : Nat) (hq : q < ks.length), q < j → P ks[q] = false) ∧ Below w.heap.size w wr) (fun i _ => ks.length - (intOf i).toNat)
  case atStart => exact ⟨0, Nat.zero_le _, rfl, fun q _ h => absurd h (Nat.not_lt_zero _), Below.refl _ _⟩
  case round =>
    obtain ⟨j, hj, rfl, hq, hb⟩ := hrel
    have BB := hid hb
    by_cases hjl : j < ks.length
    · obtain ⟨b, off, rfl, hbB, hat⟩ := K1.out.resolve_left (fun h => by rw [h] at hjl; cases hjl)
      obtain ⟨nv1, kv1, hnode, hin⟩ := ndsAt_get hat j hjl
      have hb' := hb.mono hB
      obtain ⟨c0, c1, c2, c3, c4, c5, c6⟩ := nodeAt_on hnode hbB hb'
      have N1 := hid (ndIn_on hb' _ _ _ hin)
      have cl := hid (CL.out ks[j] (List.getElem_mem hjl) wr nv1 kv1 hb N1)
      have HY := hid (fun h => any_yes P ks hjl h)
      have HQ := hid (fun (he : P ks[j] = false) => show ∀ (q : Nat) (hq : q < ks.length), q < j + 1 → P ks[q] = false from fun q h1 h3 => by
        rcases Nat.lt_or_ge q j with h4 | h4
        · exact hq q h1 h4
        · obtain rfl : q = j := by omega
          exact he)
      generalize ks[j] = x at *
      obtain ⟨a1, q1, a2, q2, rfl, rfl⟩ := ndIn_shape hin
      clear hin hnode hat hb hb' K1 CL hq N1
      go_wp2_with fail
      refine cl.out.mono ?_
      rintro e w1 ⟨rfl, b1⟩
      have B1 := hid (below_in BB.out (Nat.le_refl _) b1)
      clear b1 BB cl
      generalize P x = sb at *
      cases sb
      · have H := hid (HQ.out rfl)
        clear HY HQ
        go_wp2_with fail
        go_roundw
        case rel => exact ⟨j + 1, by omega, by go_num, H.out, B1.out⟩
        case measure => simp [intOf]; omega
      · have H := hid (HY.out rfl)
        clear HY HQ
        go_wp2_with fail
        go_ret
        exact ⟨⟨j, rfl, by rw [H.out]; simp⟩, B1.out⟩
    · have H := hid (any_no P ks (fun q h1 => hq q h1 (by omega)))
      clear hq hb
      go_wp2_with fail
      go_ret
      exact ⟨⟨-1, rfl, by rw [H.out]; rfl⟩, BB.out⟩

theorem All_contains (P : Nd → Bool) (B : Nat) (cap : Value) (w : World) (kv : Value) (ks : List Nd) (hB : B ≤ w.heap.size) (h1 : Hid (KidsIn B w kv ks)) (hc : ks.length ≤ 1000000) (CL : Hid (AllCl P B cap ks w)) :
    Calls Tryd.prog 46 #[kv, .func (.func 98) #[] #[cap]] w fun e w' => e = .returned (.bool (ks.any P)) ∧ Below w.heap.size w w' := by
  go_enter Tryd.func46, Tryd.ntmps46
  go_wp2_with fail
  refine (All_index P B cap w kv ks hB h1 hc CL).mono ?_
  rintro e w1 ⟨⟨r, rfl, hr⟩, b1⟩
  have B1 := hid b1
  have HR := hid hr
  clear b1 hr
  go_wp2_with fail
  go_ret
  exact ⟨by rw [← HR.out]; rfl, B1.out⟩

/-- what a closure answers at each of some texts -/
def StrCl (P : ByteArray → Bool) (cap : Value) (ks : List ByteArray) (w : World) : Prop := ∀ x ∈ ks, ∀ (w' : World), Below w.heap.size w w' →
    Calls Tryd.prog 110 #[.string x, cap] w' fun e w'' => e = .returned (.bool (P x)) ∧ Below w'.heap.size w' w''

set_option maxHeartbeats 1600000 in
theorem Str_index (P : ByteArray → Bool) (B : Nat) (cap : Value) (w : World) (kv : Value) (ks : List ByteArray) (hB : B ≤ w.heap.size) (h1 : Hid (StrsIn B kv ks w)) (hc : ks.length ≤ 1000000) (CL : Hid (StrCl P cap ks w)) :
    Calls Tryd.prog 111 #[kv, .func (.func 110) #[] #[cap]] w fun e w' => (∃ r : Int, e = .returned (.int .i64 r) ∧ decide (0 ≤ r) = ks.any P) ∧ Below w.heap.size w w' := by
  obtain ⟨ao, cp, rfl, hks⟩ := strsIn_cases h1.out
  have K1 := hid hks
  clear hks h1
  go_enter Tryd.func111, Tryd.ntmps111
  go_wp2_with fail
  go_loopw [8] (fun i wr => ∃ j : Nat, j ≤ ks.length ∧ i = .int .i64 j ∧ (∀ (q : Nat) (hq : q < ks.length), q < j → P ks[q] = false) ∧ Below w.heap.size w wr) (fun i _ => ks.length - (intOf i).toNat)
  case atStart => exact ⟨0, Nat.zero_le _, rfl, fun q _ h => absurd h (Nat.not_lt_zero _), Below.refl _ _⟩
  case round =>
    obtain ⟨j, hj, rfl, hq, hb⟩ := hrel
    have BB := hid hb
    by_cases hjl : j < ks.length
    · obtain ⟨b, off, rfl, hbB, hat⟩ := K1.out.resolve_left (fun h => by rw [h] at hjl; cases hjl)
      have c0 := cell_keep (hb.mono hB) hbB (hat j hjl)
      have cl := hid (CL.out ks[j] (List.getElem_mem hjl) wr hb)
      have HY := hid (fun h => any_yes P ks hjl h)
      have HQ := hid (fun (he : P ks[j] = false) => show ∀ (q : Nat) (hq : q < ks.length), q < j + 1 → P ks[q] = false from fun q h1 h3 => by
        rcases Nat.lt_or_ge q j with h4 | h4
        · exact hq q h1 h4
        · obtain rfl : q = j := by omega
          exact he)
      generalize ks[j] = x at *
      clear hat hb K1 CL hq
      go_wp2_with fail
      refine cl.out.mono ?_
      rintro e w1 ⟨rfl, b1⟩
      have B1 := hid (below_in BB.out (Nat.le_refl _) b1)
      clear b1 BB cl
      generalize P x = sb at *
      cases sb
      · have H := hid (HQ.out rfl)
        clear HY HQ
        go_wp2_with fail
        go_roundw
        case rel => exact ⟨j + 1, by omega, by go_num, H.out, B1.out⟩
        case measure => simp [intOf]; omega
      · have H := hid (HY.out rfl)
        clear HY HQ
        go_wp2_with fail
        go_ret
        exact ⟨⟨j, rfl, by rw [H.out]; simp⟩, B1.out⟩
    · have H := hid (any_no P ks (fun q h1 => hq q h1 (by omega)))
      clear hq hb
      go_wp2_with fail
      go_ret
      exact ⟨⟨-1, rfl, by rw [H.out]; rfl⟩, BB.out⟩

theorem Str_contains (P : ByteArray → Bool) (B : Nat) (cap : Value) (w : World) (kv : Value) (ks : List ByteArray) (hB : B ≤ w.heap.size) (h1 : Hid (StrsIn B kv ks w)) (hc : ks.length ≤ 1000000) (CL : Hid (StrCl P cap ks w)) :
    Calls Tryd.prog 109 #[kv, .func (.func 110) #[] #[cap]] w fun e w' => e = .returned (.bool (ks.any P)) ∧ Below w.heap.size w w' := by
  go_enter Tryd.func109, Tryd.ntmps109
  go_wp2_with fail
  refine (Str_index P B cap w kv ks hB h1 hc CL).mono ?_
  rintro e w1 ⟨⟨r, rfl, hr⟩, b1⟩
  have B1 := hid b1
  have HR := hid hr
  clear b1 hr
  go_wp2_with fail
  go_ret
  exact ⟨by rw [← HR.out]; rfl, B1.out⟩

theorem high_any {k o n : Int} {s : ByteArray} {ns : List ByteArray} {ks : List Nd} {p : Int} {m : Nat} (hm : m ≠ 0) : ks.any (fun x => decide (m - 1 < highN x)) = decide (m < highN (.mk k o n s ns ks p)) := by
  have key : ∀ ks : List Nd, ks.any (fun x => decide (m - 1 < highN x)) = decide (m - 1 < highL ks) := by
    intro ks
    induction ks with
    | nil => simp [highL]
    | cons x r ih =>
      rw [List.any_cons, ih, highL, Bool.eq_iff_iff, Bool.or_eq_true, decide_eq_true_iff, decide_eq_true_iff, decide_eq_true_iff]
      omega
  rw [key, highN, Bool.eq_iff_iff, decide_eq_true_iff, decide_eq_true_iff]
  omega

/-- what is known of higher at a node -/
def HighAt (x : Nd) : Prop := ∀ (B : Nat) (w : World) (nv kv : Value) (m : Nat), B ≤ w.heap.size → Hid (NdIn B w x nv kv) → countN x ≤ 1000000 → m ≤ 1000 →
    Calls Tryd.prog 64 #[.agg #[.int .i64 x.kind, .int .i64 x.op, .int .i64 x.num, .string x.str, nv, kv, .int .i64 x.pl], .int .i64 m] w fun e w' =>
      e = .returned (.bool (decide (m < highN x))) ∧ Below w.heap.size w w'

theorem higher_one (x : Nd) (hx : HighAt x) (B : Nat) (w : World) (nv kv : Value) (g m : Nat) (hB : B ≤ w.heap.size) (hN : Hid (NdIn B w x nv kv)) (hc : countN x ≤ 1000000) (hm : m ≤ 1000) (hm0 : m ≠ 0) (hg : w.cell? ⟨g, 0, none⟩ = some (.int .i64 m)) (hgw : g < w.heap.size) :
    Calls Tryd.prog 78 #[.agg #[.int .i64 x.kind, .int .i64 x.op, .int .i64 x.num, .string x.str, nv, kv, .int .i64 x.pl], .pointer (some ⟨g, 0, none⟩)] w fun e w' =>
      e = .returned (.bool (decide (m - 1 < highN x))) ∧ Below w.heap.size w w' := by
  obtain ⟨a1, q1, a2, q2, rfl, rfl⟩ := ndIn_shape hN.out
  have hal := (Below.refl w.heap.size w).alloc (Nat.le_refl _) (.cells #[.int .i64 x.kind, .int .i64 x.op, .int .i64 x.num, .string x.str, .slice a1 x.names.length q1, .slice a2 x.kids.length q2, .int .i64 x.pl] 47)
  have AL := hid hal
  have N := hid (ndIn_on (hal.mono hB) _ _ _ hN.out)
  have HX := hid hx
  have EH := hid (show ((m : Int) - 1) = ((m - 1 : Nat) : Int) by omega)
  clear hal hN hx
  go_enter Tryd.func78, Tryd.ntmps78
  go_wp2_with fail
  rw [EH.out]
  refine (HX.out B _ _ _ (m - 1) (by simp; omega) N hc (by omega)).mono ?_
  rintro e w1 ⟨rfl, b1⟩
  have B1 := hid (below_in AL.out (by simp) b1)
  clear b1 AL N
  go_wp2_with fail
  go_ret
  exact ⟨rfl, B1.out⟩

theorem higher_calls (x : Nd) : HighAt x := by
  refine Nd.ind ?_ x
  clear x
  intro k o n s ns ks p ih B w nv kv m hB hN hc hm
  obtain ⟨hs, hk⟩ := ndIn_mk.1 hN.out
  obtain ⟨a1, q1, a2, q2, rfl, rfl⟩ := ndIn_shape hN.out
  simp only [Nd.kind, Nd.op, Nd.num, Nd.str, Nd.pl, Nd.names, Nd.kids] at *
  simp only [countN] at hc
  have hlen := length_count ks
  have hal := box2_below w (.cells #[.int .i64 k, .int .i64 o, .int .i64 n, .string s, .slice a1 ns.length q1, .slice a2 ks.length q2, .int .i64 p] 47) (.cells #[.int .i64 m] 3)
  by_cases h0 : m = 0
  · have e0 : ((m : Int) == 0) = true := beq_iff_eq.2 (by omega)
    have H := hid (show decide (m < highN (.mk k o n s ns ks p)) = true by rw [decide_eq_true_iff, h0]; exact highN_pos _)
    have AL := hid hal
    clear h0 hal hs hk hN
    go_enter Tryd.func64, Tryd.ntmps64
    go_wp2_with fail
    go_ret
    exact ⟨by rw [H.out]; rfl, AL.out⟩
  · have e0 : ((m : Int) == 0) = false := beq_eq_false_iff_ne.2 (by omega)
    have hmf : ∀ (fn : Fn) (first cap : Array Value) (w : World), (Instr.makeFunc fn first cap).run Tryd.prog w = .ok (.func fn first cap) w := fun _ _ _ _ => rfl
    have K := hid (kidsIn_on (hal.mono hB) hk)
    have H := hid (high_any (k := k) (o := o) (n := n) (s := s) (ns := ns) (ks := ks) (p := p) h0)
    have AL := hid hal
    have CL : Hid (HiCl (fun x => decide (m - 1 < highN x)) B (.pointer (some ⟨w.heap.size + 1, 0, none⟩)) ks ((w.alloc (.cells #[.int .i64 k, .int .i64 o, .int .i64 n, .string s, .slice a1 ns.length q1, .slice a2 ks.length q2, .int .i64 p] 47)).alloc (.cells #[.int .i64 m] 3))) := by
      intro x hx w' nv' kv' hb hin
      have hcm := count_mem hx
      have hz := hb.size
      simp only [World.size_alloc] at hz
      refine higher_one x (ih x hx) B w' nv' kv' (w.heap.size + 1) m (by omega) hin (by omega) hm h0 ?_ (by omega)
      refine cell_keep hb (by simp) ?_
      simp
    clear hal hs hk hN h0 ih
    go_enter Tryd.func64, Tryd.ntmps64
    go_wp2_with fail
    refine (Hi_contains (fun x => decide (m - 1 < highN x)) B _ _ _ ks (by simp; omega) K (by omega) CL).mono ?_
    rintro e w1 ⟨rfl, b1⟩
    have B1 := hid (below_in AL.out (by simp) b1)
    clear b1 AL K CL
    rw [H.out]
    go_wp2_with fail
    go_ret
    exact ⟨rfl, B1.out⟩

end Go.Proofs.YtgdbaceehpcgbaaDoor
