/- Whether two trees are alike, as the document asks it. -/
import Derived.Test.YtmihckhflbepjaaDoorTreeSame
import Derived.Test.YtmihckhflbepjaaDoorJoint5
import Derived.Deep.RegionHeld3
namespace Go.Proofs.YtmihckhflbepjaaDoor
open Go.RowKit

theorem pairs_on {w a c : World} {b off b' off' : Nat} {k o n : Int} {s : ByteArray} {nv kv : Value} {p k' o' n' : Int} {s' : ByteArray} {nv' kv' : Value} {p' : Int} {x0 x1 x2 x6 y0 y1 y2 y6 : Int} {x3 y3 : ByteArray} {xn xk yn yk : Value}
    (h : (Below w.heap.size w a ∧ b < a.heap.size ∧ b' < a.heap.size ∧ Box w.heap.size k o n s nv kv p a ∧ Box (w.heap.size + 1) k' o' n' s' nv' kv' p' a) ∧ a.cell? ⟨w.heap.size, 5, none⟩ = some kv ∧ a.cell? ⟨w.heap.size + 1, 5, none⟩ = some kv' ∧ a.cell? ⟨b, off, none⟩ = some (.int .i64 x0) ∧ a.cell? ⟨b, off + 1, none⟩ = some (.int .i64 x1) ∧ a.cell? ⟨b, off + 2, none⟩ = some (.int .i64 x2) ∧ a.cell? ⟨b, off + 3, none⟩ = some (.string x3) ∧ a.cell? ⟨b, off + 4, none⟩ = some xn ∧ a.cell? ⟨b, off + 5, none⟩ = some xk ∧ a.cell? ⟨b, off + 6, none⟩ = some (.int .i64 x6) ∧ a.cell? ⟨b', off', none⟩ = some (.int .i64 y0) ∧ a.cell? ⟨b', off' + 1, none⟩ = some (.int .i64 y1) ∧ a.cell? ⟨b', off' + 2, none⟩ = some (.int .i64 y2) ∧ a.cell? ⟨b', off' + 3, none⟩ = some (.string y3) ∧ a.cell? ⟨b', off' + 4, none⟩ = some yn ∧ a.cell? ⟨b', off' + 5, none⟩ = some yk ∧ a.cell? ⟨b', off' + 6, none⟩ = some (.int .i64 y6)) (q : Below a.heap.size a c) :
    (Below w.heap.size w c ∧ b < c.heap.size ∧ b' < c.heap.size ∧ Box w.heap.size k o n s nv kv p c ∧ Box (w.heap.size + 1) k' o' n' s' nv' kv' p' c) ∧ c.cell? ⟨w.heap.size, 5, none⟩ = some kv ∧ c.cell? ⟨w.heap.size + 1, 5, none⟩ = some kv' ∧ c.cell? ⟨b, off, none⟩ = some (.int .i64 x0) ∧ c.cell? ⟨b, off + 1, none⟩ = some (.int .i64 x1) ∧ c.cell? ⟨b, off + 2, none⟩ = some (.int .i64 x2) ∧ c.cell? ⟨b, off + 3, none⟩ = some (.string x3) ∧ c.cell? ⟨b, off + 4, none⟩ = some xn ∧ c.cell? ⟨b, off + 5, none⟩ = some xk ∧ c.cell? ⟨b, off + 6, none⟩ = some (.int .i64 x6) ∧ c.cell? ⟨b', off', none⟩ = some (.int .i64 y0) ∧ c.cell? ⟨b', off' + 1, none⟩ = some (.int .i64 y1) ∧ c.cell? ⟨b', off' + 2, none⟩ = some (.int .i64 y2) ∧ c.cell? ⟨b', off' + 3, none⟩ = some (.string y3) ∧ c.cell? ⟨b', off' + 4, none⟩ = some yn ∧ c.cell? ⟨b', off' + 5, none⟩ = some yk ∧ c.cell? ⟨b', off' + 6, none⟩ = some (.int .i64 y6) := by
  obtain ⟨⟨h1, h2, h3, h4, h5⟩, d0, d1, e0, e1, e2, e3, e4, e5, e6, f0, f1, f2, f3, f4, f5, f6⟩ := h
  have g0 := box_lt h4
  have g1 := box_lt h5
  exact ⟨⟨below_in h1 (Nat.le_refl _) q, Nat.lt_of_lt_of_le h2 q.size, Nat.lt_of_lt_of_le h3 q.size, box_on h4 q, box_on h5 q⟩, cell_keep q g0 d0, cell_keep q g1 d1,
    cell_keep q h2 e0, cell_keep q h2 e1, cell_keep q h2 e2, cell_keep q h2 e3, cell_keep q h2 e4, cell_keep q h2 e5, cell_keep q h2 e6,
    cell_keep q h3 f0, cell_keep q h3 f1, cell_keep q h3 f2, cell_keep q h3 f3, cell_keep q h3 f4, cell_keep q h3 f5, cell_keep q h3 f6⟩

/-- what is known of the document's Same at a node -/
def RSameAt (x : Nd) : Prop := ∀ (y : Nd) (B : Nat) (w : World) (nv kv nv' kv' : Value), B ≤ w.heap.size → Hid (NdIn B w x nv kv) → Hid (NdIn B w y nv' kv') → smallN x = true → countN x ≤ 1000000 →
    Calls Tryd.prog 25 #[.agg #[.int .i64 x.kind, .int .i64 x.op, .int .i64 x.num, .string x.str, nv, kv, .int .i64 x.pl], .agg #[.int .i64 y.kind, .int .i64 y.op, .int .i64 y.num, .string y.str, nv', kv', .int .i64 y.pl]] w fun e w' =>
      e = .returned (.bool (sameN x y)) ∧ Below w.heap.size w w'

set_option maxHeartbeats 6400000 in
theorem refsame_calls (x : Nd) : RSameAt x := by
  refine Nd.ind ?_ x
  clear x
  intro k o n s ns ks p ih y B w nv kv nv' kv' hB h1 h2 hsm hc
  obtain ⟨k', o', n', s', ns', ks', p'⟩ := y
  obtain ⟨_, hns, _, hsk⟩ := small_mk hsm
  simp only [countN] at hc
  obtain ⟨hs1, hk1⟩ := ndIn_mk.1 h1.out
  obtain ⟨hs2, hk2⟩ := ndIn_mk.1 h2.out
  obtain ⟨a1, q1, rfl, hss1⟩ := strsIn_cases hs1
  obtain ⟨a3, q3, rfl, hss2⟩ := strsIn_cases hs2
  obtain ⟨a2, q2, rfl, hkk1⟩ := kidsIn_cases hk1
  obtain ⟨a4, q4, rfl, hkk2⟩ := kidsIn_cases hk2
  have hlen := length_count ks
  simp only [Nd.kind, Nd.op, Nd.num, Nd.str, Nd.pl]
  have hal := box2_below w (.cells #[.int .i64 k, .int .i64 o, .int .i64 n, .string s, .slice a1 ns.length q1, .slice a2 ks.length q2, .int .i64 p] 25) (.cells #[.int .i64 k', .int .i64 o', .int .i64 n', .string s', .slice a3 ns'.length q3, .slice a4 ks'.length q4, .int .i64 p'] 25)
  have AL := hid hal
  have BX := hid (boxes2 w k o n s (.slice a1 ns.length q1) (.slice a2 ks.length q2) p k' o' n' s' (.slice a3 ns'.length q3) (.slice a4 ks'.length q4) p')
  have S1 := hid hss1
  have S2 := hid hss2
  have K1 := hid hkk1
  have K2 := hid hkk2
  have HM := hid (sameN_mk k o n s ns ks p k' o' n' s' ns' ks' p')
  have IH := hid ih
  clear ih hs1 hs2 hk1 hk2 h1 h2 hal hsm hss1 hss2 hkk1 hkk2
  cases ek : (k == k') with
  | false =>
    have ek' : (k != k') = true := by simp [bne, ek]
    have H := hid (show sameN (.mk k o n s ns ks p) (.mk k' o' n' s' ns' ks' p') = false by rw [HM.out]; unfold alikeB; rw [ek]; simp)
    go_enter Tryd.func25, Tryd.ntmps25
    go_wp2_with fail
    go_ret
    exact ⟨by rw [H.out]; rfl, AL.out⟩
  | true =>
  have ek' : (k != k') = false := by simp [bne, ek]
  cases eo : (o == o') with
  | false =>
    have eo' : (o != o') = true := by simp [bne, eo]
    have H := hid (show sameN (.mk k o n s ns ks p) (.mk k' o' n' s' ns' ks' p') = false by rw [HM.out]; unfold alikeB; rw [eo]; simp)
    go_enter Tryd.func25, Tryd.ntmps25
    go_wp2_with fail
    go_ret
    exact ⟨by rw [H.out]; rfl, AL.out⟩
  | true =>
  have eo' : (o != o') = false := by simp [bne, eo]
  cases en : (n == n') with
  | false =>
    have en' : (n != n') = true := by simp [bne, en]
    have H := hid (show sameN (.mk k o n s ns ks p) (.mk k' o' n' s' ns' ks' p') = false by rw [HM.out]; unfold alikeB; rw [en]; simp)
    go_enter Tryd.func25, Tryd.ntmps25
    go_wp2_with fail
    go_ret
    exact ⟨by rw [H.out]; rfl, AL.out⟩
  | true =>
  have en' : (n != n') = false := by simp [bne, en]
  cases es : (s.toList == s'.toList) with
  | false =>
    have es1 : (s.toList != s'.toList) = true := by simp [bne, es]
    have es' := es
    rw [str_beq] at es'
    have H := hid (show sameN (.mk k o n s ns ks p) (.mk k' o' n' s' ns' ks' p') = false by rw [HM.out]; unfold alikeB; rw [es']; simp)
    clear es'
    go_enter Tryd.func25, Tryd.ntmps25
    go_wp2_with fail
    go_ret
    exact ⟨by rw [H.out]; rfl, AL.out⟩
  | true =>
  have es1 : (s.toList != s'.toList) = false := by simp [bne, es]
  by_cases hnl : ns.length = ns'.length
  case neg =>
    have en1 : ((ns.length : Int) != (ns'.length : Int)) = true := by rw [bne_iff_ne]; omega
    have hnf := names_short hnl
    clear hnl
    have H := hid (show sameN (.mk k o n s ns ks p) (.mk k' o' n' s' ns' ks' p') = false by rw [HM.out]; unfold alikeB; rw [hnf]; simp)
    clear hnf
    go_enter Tryd.func25, Tryd.ntmps25
    go_wp2_with fail
    go_ret
    exact ⟨by rw [H.out]; rfl, AL.out⟩
  case pos =>
  have en1 : ((ns.length : Int) != (ns'.length : Int)) = false := by rw [hnl]; simp
  have NL := hid hnl
  clear hnl
  by_cases hkl : ks.length = ks'.length
  case neg =>
    have ek1 : ((ks.length : Int) != (ks'.length : Int)) = true := by rw [bne_iff_ne]; omega
    have hkf : (ks.length == ks'.length) = false := beq_eq_false_iff_ne.2 hkl
    clear hkl
    have H := hid (show sameN (.mk k o n s ns ks p) (.mk k' o' n' s' ns' ks' p') = false by rw [HM.out]; unfold alikeB; rw [hkf]; simp)
    clear hkf
    go_enter Tryd.func25, Tryd.ntmps25
    go_wp2_with fail
    go_ret
    exact ⟨by rw [H.out]; rfl, AL.out⟩
  case pos =>
  have ek1 : ((ks.length : Int) != (ks'.length : Int)) = false := by rw [hkl]; simp
  have HK := hid (show alikeB k o n s ns ks.length k' o' n' s' ns' ks'.length = namesB ns ns' by
    have es' := es
    rw [str_beq] at es'
    unfold alikeB; rw [ek, eo, en, es', hkl]; simp)
  have KL := hid hkl
  clear hkl
  go_enter Tryd.func25, Tryd.ntmps25
  go_wp2_with fail
  go_loopw [5] (fun i wr => ∃ j : Nat, j ≤ ns.length ∧ i = .int .i64 j ∧ (∀ (q : Nat) (hq : q < ns.length) (hq' : q < ns'.length), q < j → ns[q].data.toList = ns'[q].data.toList) ∧ Below w.heap.size w wr ∧ Box w.heap.size k o n s (.slice a1 ns.length q1) (.slice a2 ks.length q2) p wr ∧ Box (w.heap.size + 1) k' o' n' s' (.slice a3 ns'.length q3) (.slice a4 ks'.length q4) p' wr) (fun i _ => ns.length - (intOf i).toNat)
  case atStart => exact ⟨0, Nat.zero_le _, rfl, fun q _ _ h => absurd h (Nat.not_lt_zero _), AL.out, BX.out.1, BX.out.2⟩
  case round =>
    clear AL BX
    obtain ⟨j, hj, rfl, hq, hb, hx, hx'⟩ := hrel
    have BB := hid hb
    have HX := hid hx
    have HX' := hid hx'
    have c4 := (box_cells hx).2.2.2.2.1
    have c4' := (box_cells hx').2.2.2.2.1
    have z1 := hb.size
    by_cases hjl : j < ns.length
    · have hjl' : j < ns'.length := by have := NL.out; omega
      obtain ⟨b, off, rfl, hbB, hat⟩ := S1.out.resolve_left (fun h => by rw [h] at hjl; cases hjl)
      obtain ⟨b', off', rfl, hbB', hat'⟩ := S2.out.resolve_left (fun h => by rw [h] at hjl'; cases hjl')
      have c0 := cell_keep (hb.mono hB) hbB (hat j hjl)
      have c1 := cell_keep (hb.mono hB) hbB' (hat' j hjl')
      have HN := hid (fun hn => names_not (l := ns) (m := ns') hjl hjl' hn)
      have HQ := hid (fun (he : ns[j].data.toList = ns'[j].data.toList) => show ∀ (q : Nat) (hq : q < ns.length) (hq' : q < ns'.length), q < j + 1 → ns[q].data.toList = ns'[q].data.toList from fun q h1 h2 h3 => by
        rcases Nat.lt_or_ge q j with h4 | h4
        · exact hq q h1 h2 h4
        · obtain rfl : q = j := by omega
          exact he)
      clear hq hat hat' hb hx hx' S1 S2 K1 K2 IH
      generalize ns[j] = x at *
      generalize ns'[j] = y at *
      cases hxy : (x.toList == y.toList) with
      | true =>
        have hne : (x.toList != y.toList) = false := by simp [bne, hxy]
        have H := hid (HQ.out (by rw [str_beq] at hxy; exact beq_iff_eq.1 hxy))
        clear HQ HN
        go_wp2_with fail
        go_region
        all_goals
          go_wp2_with fail
          go_roundw
          case rel => exact ⟨j + 1, by omega, by go_num, H.out, BB.out.drew, HX.out, HX'.out⟩
          case measure => simp [intOf]; omega
      | false =>
        have hne : (x.toList != y.toList) = true := by simp [bne, hxy]
        have H := hid (show sameN (.mk k o n s ns ks p) (.mk k' o' n' s' ns' ks' p') = false by rw [HM.out, HK.out, HN.out (by rw [str_beq] at hxy; exact beq_eq_false_iff_ne.1 hxy)]; rfl)
        clear HQ HN
        go_wp2_with fail
        go_region
        all_goals
          go_wp2_with fail
          go_ret
          exact ⟨by rw [H.out]; rfl, BB.out.drew⟩
    · have HK2 := hid (show sameN (.mk k o n s ns ks p) (.mk k' o' n' s' ns' ks' p') = sameL ks ks' by
        rw [HM.out, HK.out, names_all NL.out (fun q h1 h2 => hq q h1 h2 (by omega)), Bool.true_and])
      clear hq hb hx hx' S1 S2 HM HK
      go_wp2_with fail
      go_loopw [6] (fun i wr => ∃ j : Nat, j ≤ ks.length ∧ i = .int .i64 j ∧ (∀ (q : Nat) (hq : q < ks.length) (hq' : q < ks'.length), q < j → sameN ks[q] ks'[q] = true) ∧ Below w.heap.size w wr ∧ Box w.heap.size k o n s (.slice a1 ns.length q1) (.slice a2 ks.length q2) p wr ∧ Box (w.heap.size + 1) k' o' n' s' (.slice a3 ns'.length q3) (.slice a4 ks'.length q4) p' wr) (fun i _ => ks.length - (intOf i).toNat)
      case atStart => exact ⟨0, Nat.zero_le _, rfl, fun q _ _ h => absurd h (Nat.not_lt_zero _), BB.out, HX.out, HX'.out⟩
      case round =>
        clear BB HX HX' c4 c4'
        obtain ⟨j, hj, rfl, hq, hb, hx, hx'⟩ := hrel
        have BB := hid hb
        have HX := hid hx
        have HX' := hid hx'
        have c4 := (box_cells hx).2.2.2.2.2.1
        have c4' := (box_cells hx').2.2.2.2.2.1
        by_cases hjl : j < ks.length
        · have hjl' : j < ks'.length := by have := KL.out; omega
          obtain ⟨b, off, rfl, hbB, hat⟩ := K1.out.resolve_left (fun h => by rw [h] at hjl; cases hjl)
          obtain ⟨b', off', rfl, hbB', hat'⟩ := K2.out.resolve_left (fun h => by rw [h] at hjl'; cases hjl')
          obtain ⟨nv1, kv1, hnode, hin⟩ := ndsAt_get hat j hjl
          obtain ⟨nv2, kv2, hnode', hin'⟩ := ndsAt_get hat' j hjl'
          have hb' := hb.mono hB
          have C1 := nodeAt_on hnode hbB hb'
          have C2 := nodeAt_on hnode' hbB' hb'
          have hin2 := ndIn_on hb' _ _ _ hin
          have hin2' := ndIn_on hb' _ _ _ hin'
          have ih := IH.out ks[j] (List.getElem_mem hjl)
          have hs1 := hsk ks[j] (List.getElem_mem hjl)
          have hcm := count_mem (List.getElem_mem hjl)
          have HN := hid (fun hn => sameL_not ks ks' j hjl hjl' hn)
          have HQ := hid (fun (he : sameN ks[j] ks'[j] = true) => show ∀ (q : Nat) (hq : q < ks.length) (hq' : q < ks'.length), q < j + 1 → sameN ks[q] ks'[q] = true from fun q h1 h2 h3 => by
            rcases Nat.lt_or_ge q j with h4 | h4
            · exact hq q h1 h2 h4
            · obtain rfl : q = j := by omega
              exact he)
          generalize ks[j] = x at *
          generalize ks'[j] = y at *
          have N1 := hid hin2
          have N2 := hid hin2'
          have HS := hid hs1
          have hsz := hb.size
          have hbw : b < wr.heap.size := by omega
          have hbw' : b' < wr.heap.size := by omega
          obtain ⟨b1, r1, b2, r2, rfl, rfl⟩ := ndIn_shape hin
          obtain ⟨b3, r3, b4, r4, rfl, rfl⟩ := ndIn_shape hin'
          have IH' := hid ih
          have PP : Hid ((Below w.heap.size w wr ∧ b < wr.heap.size ∧ b' < wr.heap.size ∧ Box w.heap.size k o n s (.slice a1 ns.length q1) (.slice (some ⟨b, off, none⟩) ks.length q2) p wr ∧ Box (w.heap.size + 1) k' o' n' s' (.slice a3 ns'.length q3) (.slice (some ⟨b', off', none⟩) ks'.length q4) p' wr) ∧ wr.cell? ⟨w.heap.size, 5, none⟩ = some (.slice (some ⟨b, off, none⟩) ks.length q2) ∧ wr.cell? ⟨w.heap.size + 1, 5, none⟩ = some (.slice (some ⟨b', off', none⟩) ks'.length q4) ∧ wr.cell? ⟨b, off + j * 7, none⟩ = some (.int .i64 x.kind) ∧ wr.cell? ⟨b, off + j * 7 + 1, none⟩ = some (.int .i64 x.op) ∧ wr.cell? ⟨b, off + j * 7 + 2, none⟩ = some (.int .i64 x.num) ∧ wr.cell? ⟨b, off + j * 7 + 3, none⟩ = some (.string x.str) ∧ wr.cell? ⟨b, off + j * 7 + 4, none⟩ = some (.slice b1 x.names.length r1) ∧ wr.cell? ⟨b, off + j * 7 + 5, none⟩ = some (.slice b2 x.kids.length r2) ∧ wr.cell? ⟨b, off + j * 7 + 6, none⟩ = some (.int .i64 x.pl) ∧ wr.cell? ⟨b', off' + j * 7, none⟩ = some (.int .i64 y.kind) ∧ wr.cell? ⟨b', off' + j * 7 + 1, none⟩ = some (.int .i64 y.op) ∧ wr.cell? ⟨b', off' + j * 7 + 2, none⟩ = some (.int .i64 y.num) ∧ wr.cell? ⟨b', off' + j * 7 + 3, none⟩ = some (.string y.str) ∧ wr.cell? ⟨b', off' + j * 7 + 4, none⟩ = some (.slice b3 y.names.length r3) ∧ wr.cell? ⟨b', off' + j * 7 + 5, none⟩ = some (.slice b4 y.kids.length r4) ∧ wr.cell? ⟨b', off' + j * 7 + 6, none⟩ = some (.int .i64 y.pl)) := ⟨⟨hb, hbw, hbw', hx, hx'⟩, c4, c4', C1.1, C1.2.1, C1.2.2.1, C1.2.2.2.1, C1.2.2.2.2.1, C1.2.2.2.2.2.1, C1.2.2.2.2.2.2, C2.1, C2.2.1, C2.2.2.1, C2.2.2.2.1, C2.2.2.2.2.1, C2.2.2.2.2.2.1, C2.2.2.2.2.2.2⟩
          clear hin hin' hin2 hin2' hnode hnode' hat hat' hb hb' ih K1 K2 IH hq hs1 hsk hx hx' C1 C2
          go_wp2_with fail
          go_region_held3 (fun a => (Below w.heap.size w a ∧ b < a.heap.size ∧ b' < a.heap.size ∧ Box w.heap.size k o n s (.slice a1 ns.length q1) (.slice (some ⟨b, off, none⟩) ks.length q2) p a ∧ Box (w.heap.size + 1) k' o' n' s' (.slice a3 ns'.length q3) (.slice (some ⟨b', off', none⟩) ks'.length q4) p' a) ∧ a.cell? ⟨w.heap.size, 5, none⟩ = some (.slice (some ⟨b, off, none⟩) ks.length q2) ∧ a.cell? ⟨w.heap.size + 1, 5, none⟩ = some (.slice (some ⟨b', off', none⟩) ks'.length q4) ∧ a.cell? ⟨b, off + j * 7, none⟩ = some (.int .i64 x.kind) ∧ a.cell? ⟨b, off + j * 7 + 1, none⟩ = some (.int .i64 x.op) ∧ a.cell? ⟨b, off + j * 7 + 2, none⟩ = some (.int .i64 x.num) ∧ a.cell? ⟨b, off + j * 7 + 3, none⟩ = some (.string x.str) ∧ a.cell? ⟨b, off + j * 7 + 4, none⟩ = some (.slice b1 x.names.length r1) ∧ a.cell? ⟨b, off + j * 7 + 5, none⟩ = some (.slice b2 x.kids.length r2) ∧ a.cell? ⟨b, off + j * 7 + 6, none⟩ = some (.int .i64 x.pl) ∧ a.cell? ⟨b', off' + j * 7, none⟩ = some (.int .i64 y.kind) ∧ a.cell? ⟨b', off' + j * 7 + 1, none⟩ = some (.int .i64 y.op) ∧ a.cell? ⟨b', off' + j * 7 + 2, none⟩ = some (.int .i64 y.num) ∧ a.cell? ⟨b', off' + j * 7 + 3, none⟩ = some (.string y.str) ∧ a.cell? ⟨b', off' + j * 7 + 4, none⟩ = some (.slice b3 y.names.length r3) ∧ a.cell? ⟨b', off' + j * 7 + 5, none⟩ = some (.slice b4 y.kids.length r4) ∧ a.cell? ⟨b', off' + j * 7 + 6, none⟩ = some (.int .i64 y.pl))
            (first | exact pairs_on (by assumption) bb | exact pairs_on PP.out (Below.refl _ _).drew | exact pairs_on (by assumption) (Below.refl _ _).drew)
            (first
              | (go_at_call 25; refine (IH'.out y B _ _ _ _ _ (by show B ≤ wr.heap.size; omega) (hid (ndIn_on ((Below.refl B wr).drew) _ _ _ N1.out)) (hid (ndIn_on ((Below.refl B wr).drew) _ _ _ N2.out)) HS.out (by omega)).mono ?_; rintro e wx ⟨rfl, bb⟩))
          rename_i hz
          have Z := hid hz.1
          clear hz PP BB N1 N2
          generalize sameN x y = sb at *
          cases sb
          · have H := hid (HK2.out.trans (HN.out rfl))
            clear HN HQ
            go_wp2_with fail
            go_ret
            exact ⟨by rw [H.out]; rfl, Z.out.1⟩
          · have H := hid (HQ.out rfl)
            clear HN HQ
            go_wp2_with fail
            go_roundw
            case rel => exact ⟨j + 1, by omega, by go_num, H.out, Z.out.1, Z.out.2.2.2.1, Z.out.2.2.2.2⟩
            case measure => simp [intOf]; omega
        · have H := hid (HK2.out.trans (sameL_all ks ks' KL.out (fun q h1 h2 => hq q h1 h2 (by omega))))
          clear hq hb hx hx'
          go_wp2_with fail
          go_ret
          exact ⟨by rw [H.out]; rfl, BB.out⟩

end Go.Proofs.YtmihckhflbepjaaDoor
