/- Whether two trees are alike. -/
import Derived.Test.YtmihckhflbepjaaDoorTreeAll
import Derived.Test.YtmihckhflbepjaaDoorKey
import Derived.Test.YtmihckhflbepjaaDoorJoint2
namespace Go.Proofs.YtmihckhflbepjaaDoor
open Go.RowKit

theorem str_beq (s t : ByteArray) : (s.toList == t.toList) = (s.data.toList == t.data.toList) := by rw [Lib.toList_data, Lib.toList_data]

set_option maxHeartbeats 1600000 in
theorem equal_calls (B : Nat) (w : World) (v v' : Value) (l l' : List ByteArray) (hB : B ≤ w.heap.size) (h1 : Hid (StrsIn B v l w)) (h2 : Hid (StrsIn B v' l' w)) (hc : l.length ≤ 1000000) :
    Calls Tryd.prog 71 #[v, v'] w fun e w' => e = .returned (.bool (namesB l l')) ∧ Below w.heap.size w w' := by
  obtain ⟨ao, cap, rfl, hss⟩ := strsIn_cases h1.out
  obtain ⟨ao', cap', rfl, hss'⟩ := strsIn_cases h2.out
  have S1 := hid hss
  have S2 := hid hss'
  clear hss hss' h1 h2
  by_cases hl : l.length = l'.length
  · have e0 : ((l.length : Int) != (l'.length : Int)) = false := by rw [hl]; simp
    go_enter Tryd.func71, Tryd.ntmps71
    go_wp2_with fail
    go_loopw [13] (fun i wr => ∃ j : Nat, j ≤ l.length ∧ i = .int .i64 j ∧ (∀ (q : Nat) (hq : q < l.length) (hq' : q < l'.length), q < j → l[q].data.toList = l'[q].data.toList) ∧ Below w.heap.size w wr) (fun i _ => l.length - (intOf i).toNat)
    case atStart => exact ⟨0, Nat.zero_le _, rfl, fun q _ _ h => absurd h (Nat.not_lt_zero _), Below.refl _ _⟩
    case round =>
      obtain ⟨j, hj, rfl, hq, hb⟩ := hrel
      have BB := hid hb
      by_cases hjl : j < l.length
      · have hjl' : j < l'.length := by omega
        obtain ⟨b, off, rfl, hbB, hat⟩ := S1.out.resolve_left (fun h => by rw [h] at hjl; cases hjl)
        obtain ⟨b', off', rfl, hbB', hat'⟩ := S2.out.resolve_left (fun h => by rw [h] at hjl'; cases hjl')
        have c0 := cell_keep (hb.mono hB) hbB (hat j hjl)
        have c1 := cell_keep (hb.mono hB) hbB' (hat' j hjl')
        have HN := hid (fun hn => names_not (l := l) (m := l') hjl hjl' hn)
        have HQ := hid (fun (he : l[j].data.toList = l'[j].data.toList) => show ∀ (q : Nat) (hq : q < l.length) (hq' : q < l'.length), q < j + 1 → l[q].data.toList = l'[q].data.toList from fun q h1 h2 h3 => by
          rcases Nat.lt_or_ge q j with h4 | h4
          · exact hq q h1 h2 h4
          · obtain rfl : q = j := by omega
            exact he)
        clear hq hat hat' hb S1 S2
        generalize l[j] = x at *
        generalize l'[j] = y at *
        cases hxy : (x.toList == y.toList) with
        | true =>
          have hne : (x.toList != y.toList) = false := by simp [bne, hxy]
          have H := hid (HQ.out (by rw [str_beq] at hxy; exact beq_iff_eq.1 hxy))
          clear HQ HN
          go_wp2_with fail
          go_region
          all_goals
            go_wp2_with fail
            go_roundw
            case rel => exact ⟨j + 1, by omega, by go_num, H.out, BB.out.drew⟩
            case measure => simp [intOf]; omega
        | false =>
          have hne : (x.toList != y.toList) = true := by simp [bne, hxy]
          have H := hid (HN.out (by rw [str_beq] at hxy; exact beq_eq_false_iff_ne.1 hxy))
          clear HQ HN
          go_wp2_with fail
          go_region
          all_goals
            go_wp2_with fail
            go_ret
            exact ⟨by rw [H.out]; rfl, BB.out.drew⟩
      · have H := hid (names_all hl (fun q h1 h2 => hq q h1 h2 (by omega)))
        clear hq hb
        go_wp2_with fail
        go_ret
        exact ⟨by rw [H.out]; rfl, BB.out⟩
  · have H := hid (names_short hl)
    have e0 : ((l.length : Int) != (l'.length : Int)) = true := by rw [bne_iff_ne]; omega
    clear hl
    go_enter Tryd.func71, Tryd.ntmps71
    go_wp2_with fail
    go_ret
    exact ⟨by rw [H.out]; rfl, Below.refl _ _⟩

set_option maxHeartbeats 1600000 in
theorem alike_calls (B : Nat) (w : World) (k o n : Int) (s : ByteArray) (ns : List ByteArray) (nv : Value) (a : Option Addr) (c q : Nat) (p k' o' n' : Int) (s' : ByteArray) (ns' : List ByteArray) (nv' : Value) (a' : Option Addr) (c' q' : Nat) (p' : Int)
    (hB : B ≤ w.heap.size) (h1 : Hid (StrsIn B nv ns w)) (h2 : Hid (StrsIn B nv' ns' w)) (hc : ns.length ≤ 1000000) :
    Calls Tryd.prog 55 #[.agg #[.int .i64 k, .int .i64 o, .int .i64 n, .string s, nv, .slice a c q, .int .i64 p], .agg #[.int .i64 k', .int .i64 o', .int .i64 n', .string s', nv', .slice a' c' q', .int .i64 p']] w fun e w' =>
      e = .returned (.bool (alikeB k o n s ns c k' o' n' s' ns' c')) ∧ Below w.heap.size w w' := by
  obtain ⟨ao, cap, rfl, _⟩ := strsIn_cases h1.out
  obtain ⟨ao', cap', rfl, _⟩ := strsIn_cases h2.out
  have hal := box2_below w (.cells #[.int .i64 k, .int .i64 o, .int .i64 n, .string s, .slice ao ns.length cap, .slice a c q, .int .i64 p] 25) (.cells #[.int .i64 k', .int .i64 o', .int .i64 n', .string s', .slice ao' ns'.length cap', .slice a' c' q', .int .i64 p'] 25)
  have AL := hid hal
  have T1 := hid (strsIn_on h1.out (hal.mono hB))
  have T2 := hid (strsIn_on h2.out (hal.mono hB))
  clear hal h1 h2
  cases ek : (k == k') with
  | false =>
    have H := hid (show alikeB k o n s ns c k' o' n' s' ns' c' = false by unfold alikeB; rw [ek]; simp)
    go_enter Tryd.func55, Tryd.ntmps55
    go_wp2_with fail
    go_ret
    exact ⟨by rw [H.out]; rfl, AL.out⟩
  | true =>
  cases eo : (o == o') with
  | false =>
    have H := hid (show alikeB k o n s ns c k' o' n' s' ns' c' = false by unfold alikeB; rw [eo]; simp)
    go_enter Tryd.func55, Tryd.ntmps55
    go_wp2_with fail
    go_ret
    exact ⟨by rw [H.out]; rfl, AL.out⟩
  | true =>
  cases en : (n == n') with
  | false =>
    have H := hid (show alikeB k o n s ns c k' o' n' s' ns' c' = false by unfold alikeB; rw [en]; simp)
    go_enter Tryd.func55, Tryd.ntmps55
    go_wp2_with fail
    go_ret
    exact ⟨by rw [H.out]; rfl, AL.out⟩
  | true =>
  cases es : (s.toList == s'.toList) with
  | false =>
    have es' := es
    rw [str_beq] at es'
    have H := hid (show alikeB k o n s ns c k' o' n' s' ns' c' = false by unfold alikeB; rw [es']; simp)
    clear es'
    go_enter Tryd.func55, Tryd.ntmps55
    go_wp2_with fail
    go_ret
    exact ⟨by rw [H.out]; rfl, AL.out⟩
  | true =>
    have es' := es
    rw [str_beq] at es'
    have H := hid (show alikeB k o n s ns c k' o' n' s' ns' c' = (namesB ns ns' && ((c : Int) == (c' : Int))) by
      unfold alikeB; rw [ek, eo, en, es', Bool.true_and, Bool.true_and, Bool.true_and, Bool.true_and]
      congr 1
      rw [Bool.eq_iff_iff, beq_iff_eq, beq_iff_eq]; omega)
    clear es'
    go_enter Tryd.func55, Tryd.ntmps55
    go_wp2_with fail
    refine (equal_calls B _ _ _ ns ns' (by simp; omega) T1 T2 hc).mono ?_
    rintro e w1 ⟨rfl, b1⟩
    have B1 := hid (below_in AL.out (by simp) b1)
    have hw := b1.size
    obtain ⟨g0, g1⟩ : w1.cell? ⟨w.heap.size, 5, none⟩ = some (.slice a c q) ∧ w1.cell? ⟨w.heap.size + 1, 5, none⟩ = some (.slice a' c' q') := by
      refine ⟨cell_keep b1 (by simp; omega) ?_, cell_keep b1 (by simp) ?_⟩
      · simp [World.cell?_alloc_past]
      · simp
    clear b1 AL T1 T2 hw
    generalize namesB ns ns' = nb at *
    cases nb
    · go_wp2_with fail
      go_ret
      exact ⟨by rw [H.out]; rfl, B1.out⟩
    · go_wp2_with fail
      go_ret
      exact ⟨by rw [H.out]; rfl, B1.out⟩

/-- what is known of Same at a node -/
def SameAt (x : Nd) : Prop := ∀ (y : Nd) (B : Nat) (w : World) (nv kv nv' kv' : Value), B ≤ w.heap.size → Hid (NdIn B w x nv kv) → Hid (NdIn B w y nv' kv') → smallN x = true → countN x ≤ 1000000 →
    Calls Tryd.prog 51 #[.agg #[.int .i64 x.kind, .int .i64 x.op, .int .i64 x.num, .string x.str, nv, kv, .int .i64 x.pl], .agg #[.int .i64 y.kind, .int .i64 y.op, .int .i64 y.num, .string y.str, nv', kv', .int .i64 y.pl]] w fun e w' =>
      e = .returned (.bool (sameN x y)) ∧ Below w.heap.size w w'

set_option maxHeartbeats 3200000 in
theorem equalfunc_calls (B : Nat) (w : World) (kv kv' : Value) (ks ks' : List Nd) (hB : B ≤ w.heap.size) (h1 : Hid (KidsIn B w kv ks)) (h2 : Hid (KidsIn B w kv' ks')) (hsm : ∀ x ∈ ks, smallN x = true) (hc : countL ks ≤ 1000000) (IH : Hid (∀ x ∈ ks, SameAt x)) :
    Calls Tryd.prog 50 #[kv, kv', .func (.func 51) #[] #[]] w fun e w' => e = .returned (.bool (sameL ks ks')) ∧ Below w.heap.size w w' := by
  obtain ⟨ao, cap, rfl, hks⟩ := kidsIn_cases h1.out
  obtain ⟨ao', cap', rfl, hks'⟩ := kidsIn_cases h2.out
  have K1 := hid hks
  have K2 := hid hks'
  clear hks hks' h1 h2
  have hlen := length_count ks
  by_cases hl : ks.length = ks'.length
  · have e0 : ((ks.length : Int) != (ks'.length : Int)) = false := by rw [hl]; simp
    have HL := hid hl
    clear hl
    go_enter Tryd.func50, Tryd.ntmps50
    go_wp2_with fail
    go_loopw [17] (fun i wr => ∃ j : Nat, j ≤ ks.length ∧ i = .int .i64 j ∧ (∀ (q : Nat) (hq : q < ks.length) (hq' : q < ks'.length), q < j → sameN ks[q] ks'[q] = true) ∧ Below w.heap.size w wr) (fun i _ => ks.length - (intOf i).toNat)
    case atStart => exact ⟨0, Nat.zero_le _, rfl, fun q _ _ h => absurd h (Nat.not_lt_zero _), Below.refl _ _⟩
    case round =>
      obtain ⟨j, hj, rfl, hq, hb⟩ := hrel
      have BB := hid hb
      by_cases hjl : j < ks.length
      · have hjl' : j < ks'.length := by have := HL.out; omega
        obtain ⟨b, off, rfl, hbB, hat⟩ := K1.out.resolve_left (fun h => by rw [h] at hjl; cases hjl)
        obtain ⟨b', off', rfl, hbB', hat'⟩ := K2.out.resolve_left (fun h => by rw [h] at hjl'; cases hjl')
        obtain ⟨nv1, kv1, hnode, hin⟩ := ndsAt_get hat j hjl
        obtain ⟨nv2, kv2, hnode', hin'⟩ := ndsAt_get hat' j hjl'
        have hb' := hb.mono hB
        obtain ⟨c0, c1, c2, c3, c4, c5, c6⟩ := nodeAt_on hnode hbB hb'
        obtain ⟨d0, d1, d2, d3, d4, d5, d6⟩ := nodeAt_on hnode' hbB' hb'
        have hin2 := ndIn_on hb' _ _ _ hin
        have hin2' := ndIn_on hb' _ _ _ hin'
        have ih := IH.out ks[j] (List.getElem_mem hjl)
        have hs1 := hsm ks[j] (List.getElem_mem hjl)
        have hcm := count_mem (List.getElem_mem hjl)
        have HN := hid (fun hn => sameL_not ks ks' j hjl hjl' hn)
        have HQ := hid (fun (he : sameN ks[j] ks'[j] = true) => show ∀ (q : Nat) (hq : q < ks.length) (hq' : q < ks'.length), q < j + 1 → sameN ks[q] ks'[q] = true from fun q h1 h2 h3 => by
          rcases Nat.lt_or_ge q j with h4 | h4
          · exact hq q h1 h2 h4
          · obtain rfl : q = j := by omega
            exact he)
        generalize ks[j] = x at *
        generalize ks'[j] = y at *
        have N1 := hid hin2
        have N2 := hid hin2'
        have HS := hid hs1
        have hsz := hb.size
        have hbw : b < wr.heap.size := by omega
        have hbw' : b' < wr.heap.size := by omega
        obtain ⟨a1, q1, a2, q2, rfl, rfl⟩ := ndIn_shape hin
        obtain ⟨a3, q3, a4, q4, rfl, rfl⟩ := ndIn_shape hin'
        have IH' := hid ih
        clear hin hin' hin2 hin2' hnode hnode' hat hat' hb hb' ih K1 K2 IH hq hs1 hsm
        go_wp2_with fail
        refine (IH'.out y B _ _ _ _ _ (by simp; omega) (hid (ndIn_on ((box2_below wr _ _).mono (by omega)) _ _ _ N1.out)) (hid (ndIn_on ((box2_below wr _ _).mono (by omega)) _ _ _ N2.out)) HS.out (by omega)).mono ?_
        rintro e w1 ⟨rfl, b1⟩
        have B1 := hid (below_in (BB.out.trans ((box2_below wr _ _).mono hsz)) (by simp) b1)
        clear b1 BB N1 N2
        generalize sameN x y = sb at *
        cases sb
        · have H := hid (HN.out rfl)
          clear HN HQ
          go_wp2_with fail
          go_ret
          exact ⟨by rw [H.out]; rfl, B1.out⟩
        · have H := hid (HQ.out rfl)
          clear HN HQ
          go_wp2_with fail
          go_roundw
          case rel => exact ⟨j + 1, by omega, by go_num, H.out, B1.out⟩
          case measure => simp [intOf]; omega
      · have H := hid (sameL_all ks ks' HL.out (fun q h1 h2 => hq q h1 h2 (by omega)))
        clear hq hb
        go_wp2_with fail
        go_ret
        exact ⟨by rw [H.out]; rfl, BB.out⟩
  · have H := hid (sameL_short ks ks' hl)
    have e0 : ((ks.length : Int) != (ks'.length : Int)) = true := by rw [bne_iff_ne]; omega
    clear hl
    go_enter Tryd.func50, Tryd.ntmps50
    go_wp2_with fail
    go_ret
    exact ⟨by rw [H.out]; rfl, Below.refl _ _⟩

set_option maxHeartbeats 1600000 in
theorem same_calls (x : Nd) : SameAt x := by
  refine Nd.ind ?_ x
  clear x
  intro k o n s ns ks p ih y B w nv kv nv' kv' hB h1 h2 hsm hc
  obtain ⟨k', o', n', s', ns', ks', p'⟩ := y
  obtain ⟨_, hns, _, hsk⟩ := small_mk hsm
  simp only [countN] at hc
  obtain ⟨hs1, hk1⟩ := ndIn_mk.1 h1.out
  obtain ⟨hs2, hk2⟩ := ndIn_mk.1 h2.out
  obtain ⟨a1, q1, a2, q2, rfl, rfl⟩ := ndIn_shape h1.out
  obtain ⟨a3, q3, a4, q4, rfl, rfl⟩ := ndIn_shape h2.out
  simp only [Nd.kind, Nd.op, Nd.num, Nd.str, Nd.pl, Nd.names, Nd.kids] at *
  have hal := box2_below w (.cells #[.int .i64 k, .int .i64 o, .int .i64 n, .string s, .slice a1 ns.length q1, .slice a2 ks.length q2, .int .i64 p] 25) (.cells #[.int .i64 k', .int .i64 o', .int .i64 n', .string s', .slice a3 ns'.length q3, .slice a4 ks'.length q4, .int .i64 p'] 25)
  have AL := hid hal
  have S1 := hid (strsIn_on hs1 (hal.mono hB))
  have S2 := hid (strsIn_on hs2 (hal.mono hB))
  have K1 := hid (kidsIn_on (hal.mono hB) hk1)
  have K2 := hid (kidsIn_on (hal.mono hB) hk2)
  have HM := hid (sameN_mk k o n s ns ks p k' o' n' s' ns' ks' p')
  have IH := hid ih
  clear ih hs1 hs2 hk1 hk2 h1 h2 hal hsm
  go_enter Tryd.func51, Tryd.ntmps51
  go_wp2_with fail
  refine (alike_calls B _ k o n s ns _ _ _ _ p k' o' n' s' ns' _ _ _ _ p' (by simp; omega) S1 S2 (by omega)).mono ?_
  rintro e w1 ⟨rfl, b1⟩
  have B1 := hid (below_in AL.out (by simp) b1)
  have hw := b1.size
  obtain ⟨g0, g1⟩ : w1.cell? ⟨w.heap.size, 5, none⟩ = some (.slice a2 ks.length q2) ∧ w1.cell? ⟨w.heap.size + 1, 5, none⟩ = some (.slice a4 ks'.length q4) := by
    refine ⟨cell_keep b1 (by simp; omega) ?_, cell_keep b1 (by simp) ?_⟩
    · simp [World.cell?_alloc_past]
    · simp
  have K1' := hid (kidsIn_on (b1.mono (by simp; omega)) K1.out)
  have K2' := hid (kidsIn_on (b1.mono (by simp; omega)) K2.out)
  have hB1 : B ≤ w1.heap.size := by simp at hw; omega
  clear b1 AL S1 S2 hw K1 K2
  generalize alikeB k o n s ns ks.length k' o' n' s' ns' ks'.length = ab at *
  cases ab
  · go_wp2_with fail
    go_ret
    exact ⟨by rw [HM.out]; rfl, B1.out⟩
  · go_wp2_with fail
    refine (equalfunc_calls B _ _ _ ks ks' hB1 K1' K2' hsk (by omega) IH).mono ?_
    rintro e w2 ⟨rfl, b2⟩
    go_wp2_with fail
    go_ret
    exact ⟨by rw [HM.out]; rfl, below_in B1.out (Nat.le_refl _) b2⟩

end Go.Proofs.YtmihckhflbepjaaDoor
