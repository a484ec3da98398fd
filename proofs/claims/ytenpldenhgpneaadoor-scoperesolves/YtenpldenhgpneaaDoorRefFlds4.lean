/- Whether a node's own fields are those of its kind, as the document asks it (7, 8, 10, k). -/
import Derived.Test.YtenpldenhgpneaaDoorJoint10
namespace Go.Proofs.YtenpldenhgpneaaDoor
open Go.RowKit


set_option maxHeartbeats 6400000 in
set_option maxRecDepth 100000 in
theorem fields_7 (o n : Int) (s : ByteArray) (ns : List ByteArray) (a1 : Option Addr) (q1 : Nat) (a2 : Option Addr) (c2 q2 : Nat) (p : Int) (B : Nat) (w : World) (hB : B ≤ w.heap.size) (hS : Hid (StrsIn B (.slice a1 ns.length q1) ns w)) (hns : ns.length ≤ 1000000) :
    Calls Tryd.prog 53 #[.agg #[.int .i64 7, .int .i64 o, .int .i64 n, .string s, .slice a1 ns.length q1, .slice a2 c2 q2, .int .i64 p]] w fun e w' =>
      e = .returned (.bool (fieldsB 7 o n s ns)) ∧ Below w.heap.size w w' := by
  have AL := hid (box1_below w (.cells #[.int .i64 7, .int .i64 o, .int .i64 n, .string s, .slice a1 ns.length q1, .slice a2 c2 q2, .int .i64 p] 25))
  have X := hid (box_new w 7 o n s (.slice a1 ns.length q1) (.slice a2 c2 q2) p)
  have HE := hid (empty_size s)
  by_cases ho : o = 0
  case neg =>
    have eo : (o != 0) = true := bne_iff_ne.2 ho
    have H := hid (show fieldsB 7 o n s ns = false by have he := HE.out; simp only [fieldsB, opOk, numOk, strOk, nsOk, properB, propB]; grind [sign_none])
    clear HE
    go_enter Tryd.func53, Tryd.ntmps53
    go_wp2_with fail
    go_ret
    exact ⟨by rw [H.out]; rfl, AL.out⟩
  case pos =>
  subst ho
  by_cases hn : n = 0
  case neg =>
    have en : (n != 0) = true := bne_iff_ne.2 hn
    have H := hid (show fieldsB 7 0 n s ns = false by have he := HE.out; simp only [fieldsB, opOk, numOk, strOk, nsOk, properB, propB]; grind)
    clear HE
    go_enter Tryd.func53, Tryd.ntmps53
    go_wp2_with fail
    go_ret
    exact ⟨by rw [H.out]; rfl, AL.out⟩
  case pos =>
  subst hn
  by_cases hse : s.size = 0
  case neg =>
    have es : s.toList.isEmpty = false := by rw [HE.out]; exact decide_eq_false hse
    have H := hid (show fieldsB 7 0 0 s ns = false by have he := HE.out; simp only [fieldsB, opOk, numOk, strOk, nsOk, properB, propB]; grind)
    clear HE
    go_enter Tryd.func53, Tryd.ntmps53
    go_wp2_with fail
    go_ret
    exact ⟨by rw [H.out]; rfl, AL.out⟩
  case pos =>
  have es : s.toList.isEmpty = true := by rw [HE.out]; exact decide_eq_true hse
  by_cases hl : 40 < ns.length
  · have H := hid (show fieldsB 7 0 0 s ns = false by have he := HE.out; simp only [fieldsB, opOk, numOk, strOk, nsOk, properB, propB]; grind)
    clear HE
    go_enter Tryd.func53, Tryd.ntmps53
    go_wp2_with fail
    go_ret
    exact ⟨by rw [H.out]; rfl, AL.out⟩
  have HB := hid (show fieldsB 7 0 0 s ns = ns.all propB by have he := HE.out; simp only [fieldsB, opOk, numOk, strOk, nsOk]; rw [decide_eq_true (show ns.length ≤ 40 by omega)]; grind)
  obtain ⟨ao, cap, e1, hss⟩ := strsIn_cases hS.out
  injection e1 with e1a _ e1c
  subst e1a e1c
  have SS := hid hss
  clear hss hS HE
  go_enter Tryd.func53, Tryd.ntmps53
  go_wp2_with fail
  go_loopw [5] (fun i wr => ∃ j : Nat, j ≤ ns.length ∧ i = .int .i64 j ∧ (∀ (q : Nat) (hq : q < ns.length), q < j → propB ns[q] = true) ∧ Below w.heap.size w wr ∧ Box w.heap.size 7 0 0 s (.slice a1 ns.length q1) (.slice a2 c2 q2) p wr) (fun i _ => ns.length - (intOf i).toNat)
  case atStart => exact ⟨0, Nat.zero_le _, rfl, fun q _ h => absurd h (Nat.not_lt_zero _), AL.out, X.out⟩
  case round =>
    clear AL X
    obtain ⟨j, hj, rfl, hq, hb, hx⟩ := hrel
    have BB := hid hb
    have HX := hid hx
    obtain ⟨c0, c1, c2', c3, c4, c5, c6⟩ := box_cells hx
    by_cases hjl : j < ns.length
    · obtain ⟨v, vo, rfl, hvB, hvat⟩ := SS.out.resolve_left (fun h => by rw [h] at hjl; cases hjl)
      have cv := cell_keep (hb.mono hB) hvB (hvat j hjl)
      have HN := hid (fun (hn : propB ns[j] = false) => all_false (P := propB) hjl hn)
      have HQ := hid (fun (he : propB ns[j] = true) => show ∀ (q : Nat) (hq : q < ns.length), q < j + 1 → propB ns[q] = true from fun q h1 h3 => by
        rcases Nat.lt_or_ge q j with h4 | h4
        · exact hq q h1 h4
        · obtain rfl : q = j := by omega
          exact he)
      clear hq hvat hb hx SS
      generalize ns[j] = m at *
      have HPM := hid (show propB m = nameB m.data.toList from rfl)
      have HPR := hid (show properB m = (nameB m.data.toList && !keyB m.data.toList) from rfl)
      go_wp2_with fail
      refine (refisname_calls m _).mono ?_
      rintro e w1 ⟨rfl, rfl⟩
      generalize nameB m.data.toList = nb at *
      cases nb
      · have H := hid (HB.out.trans (HN.out (by rw [HPM.out])))
        clear HN HQ
        go_wp2_with fail
        go_ret
        exact ⟨by rw [H.out]; rfl, BB.out⟩
      · have H := hid (HQ.out (by rw [HPM.out]))
        clear HN HQ
        go_wp2_with fail
        go_roundw
        case rel => exact ⟨j + 1, by omega, by go_num, H.out, BB.out, HX.out⟩
        case measure => simp [intOf]; omega
    · have H := hid (HB.out.trans (all_true (P := propB) (fun q h1 => hq q h1 (by omega))))
      clear hq hb hx
      go_wp2_with fail
      go_ret
      exact ⟨by rw [H.out]; rfl, BB.out⟩

set_option maxHeartbeats 6400000 in
set_option maxRecDepth 100000 in
theorem fields_8 (o n : Int) (s : ByteArray) (ns : List ByteArray) (a1 : Option Addr) (q1 : Nat) (a2 : Option Addr) (c2 q2 : Nat) (p : Int) (B : Nat) (w : World) (hB : B ≤ w.heap.size) (hS : Hid (StrsIn B (.slice a1 ns.length q1) ns w)) (hns : ns.length ≤ 1000000) :
    Calls Tryd.prog 53 #[.agg #[.int .i64 8, .int .i64 o, .int .i64 n, .string s, .slice a1 ns.length q1, .slice a2 c2 q2, .int .i64 p]] w fun e w' =>
      e = .returned (.bool (fieldsB 8 o n s ns)) ∧ Below w.heap.size w w' := by
  have AL := hid (box1_below w (.cells #[.int .i64 8, .int .i64 o, .int .i64 n, .string s, .slice a1 ns.length q1, .slice a2 c2 q2, .int .i64 p] 25))
  have X := hid (box_new w 8 o n s (.slice a1 ns.length q1) (.slice a2 c2 q2) p)
  have HE := hid (empty_size s)
  by_cases ho : o = 0
  case neg =>
    have eo : (o != 0) = true := bne_iff_ne.2 ho
    have H := hid (show fieldsB 8 o n s ns = false by have he := HE.out; simp only [fieldsB, opOk, numOk, strOk, nsOk, properB, propB]; grind [sign_none])
    clear HE
    go_enter Tryd.func53, Tryd.ntmps53
    go_wp2_with fail
    go_ret
    exact ⟨by rw [H.out]; rfl, AL.out⟩
  case pos =>
  subst ho
  by_cases hn : n = 0
  case neg =>
    have en : (n != 0) = true := bne_iff_ne.2 hn
    have H := hid (show fieldsB 8 0 n s ns = false by have he := HE.out; simp only [fieldsB, opOk, numOk, strOk, nsOk, properB, propB]; grind)
    clear HE
    go_enter Tryd.func53, Tryd.ntmps53
    go_wp2_with fail
    go_ret
    exact ⟨by rw [H.out]; rfl, AL.out⟩
  case pos =>
  subst hn
  by_cases hse : s.size = 0
  case neg =>
    have es : s.toList.isEmpty = false := by rw [HE.out]; exact decide_eq_false hse
    have H := hid (show fieldsB 8 0 0 s ns = false by have he := HE.out; simp only [fieldsB, opOk, numOk, strOk, nsOk, properB, propB]; grind)
    clear HE
    go_enter Tryd.func53, Tryd.ntmps53
    go_wp2_with fail
    go_ret
    exact ⟨by rw [H.out]; rfl, AL.out⟩
  case pos =>
  have es : s.toList.isEmpty = true := by rw [HE.out]; exact decide_eq_true hse
  by_cases hl : 6 < ns.length
  · have H := hid (show fieldsB 8 0 0 s ns = false by have he := HE.out; simp only [fieldsB, opOk, numOk, strOk, nsOk, properB, propB]; grind)
    clear HE
    go_enter Tryd.func53, Tryd.ntmps53
    go_wp2_with fail
    go_ret
    exact ⟨by rw [H.out]; rfl, AL.out⟩
  have HB := hid (show fieldsB 8 0 0 s ns = ns.all properB by have he := HE.out; simp only [fieldsB, opOk, numOk, strOk, nsOk]; rw [decide_eq_true (show ns.length ≤ 6 by omega)]; grind)
  obtain ⟨ao, cap, e1, hss⟩ := strsIn_cases hS.out
  injection e1 with e1a _ e1c
  subst e1a e1c
  have SS := hid hss
  clear hss hS HE
  go_enter Tryd.func53, Tryd.ntmps53
  go_wp2_with fail
  go_loopw [5] (fun i wr => ∃ j : Nat, j ≤ ns.length ∧ i = .int .i64 j ∧ (∀ (q : Nat) (hq : q < ns.length), q < j → properB ns[q] = true) ∧ Below w.heap.size w wr ∧ Box w.heap.size 8 0 0 s (.slice a1 ns.length q1) (.slice a2 c2 q2) p wr) (fun i _ => ns.length - (intOf i).toNat)
  case atStart => exact ⟨0, Nat.zero_le _, rfl, fun q _ h => absurd h (Nat.not_lt_zero _), AL.out, X.out⟩
  case round =>
    clear AL X
    obtain ⟨j, hj, rfl, hq, hb, hx⟩ := hrel
    have BB := hid hb
    have HX := hid hx
    obtain ⟨c0, c1, c2', c3, c4, c5, c6⟩ := box_cells hx
    by_cases hjl : j < ns.length
    · obtain ⟨v, vo, rfl, hvB, hvat⟩ := SS.out.resolve_left (fun h => by rw [h] at hjl; cases hjl)
      have cv := cell_keep (hb.mono hB) hvB (hvat j hjl)
      have HN := hid (fun (hn : properB ns[j] = false) => all_false (P := properB) hjl hn)
      have HQ := hid (fun (he : properB ns[j] = true) => show ∀ (q : Nat) (hq : q < ns.length), q < j + 1 → properB ns[q] = true from fun q h1 h3 => by
        rcases Nat.lt_or_ge q j with h4 | h4
        · exact hq q h1 h4
        · obtain rfl : q = j := by omega
          exact he)
      clear hq hvat hb hx SS
      generalize ns[j] = m at *
      have HPM := hid (show propB m = nameB m.data.toList from rfl)
      have HPR := hid (show properB m = (nameB m.data.toList && !keyB m.data.toList) from rfl)
      go_wp2_with fail
      refine (refisname_calls m _).mono ?_
      rintro e w1 ⟨rfl, rfl⟩
      generalize nameB m.data.toList = nb at *
      cases nb
      · have H := hid (HB.out.trans (HN.out (by rw [HPR.out]; rfl)))
        clear HN HQ
        go_wp2_with fail
        go_ret
        exact ⟨by rw [H.out]; rfl, BB.out⟩
      · go_wp2_with fail
        refine (rname_calls m _).mono ?_
        rintro e w1 ⟨rfl, b1⟩
        have B1 := hid (below_in BB.out (Nat.le_refl _) b1)
        have X1 := hid (box_on HX.out b1)
        clear b1 c0 c1 c2' c3 c4 c5 c6 cv
        generalize properB m = pm at *
        cases pm
        · have H := hid (HB.out.trans (HN.out rfl))
          clear HN HQ
          go_wp2_with fail
          go_ret
          exact ⟨by rw [H.out]; rfl, B1.out⟩
        · have H := hid (HQ.out rfl)
          clear HN HQ
          go_wp2_with fail
          go_roundw
          case rel => exact ⟨j + 1, by omega, by go_num, H.out, B1.out, X1.out⟩
          case measure => simp [intOf]; omega
    · have H := hid (HB.out.trans (all_true (P := properB) (fun q h1 => hq q h1 (by omega))))
      clear hq hb hx
      go_wp2_with fail
      go_ret
      exact ⟨by rw [H.out]; rfl, BB.out⟩

set_option maxHeartbeats 6400000 in
set_option maxRecDepth 100000 in
theorem fields_10 (o n : Int) (s : ByteArray) (ns : List ByteArray) (a1 : Option Addr) (q1 : Nat) (a2 : Option Addr) (c2 q2 : Nat) (p : Int) (B : Nat) (w : World) (hB : B ≤ w.heap.size) (hS : Hid (StrsIn B (.slice a1 ns.length q1) ns w)) (hns : ns.length ≤ 1000000) :
    Calls Tryd.prog 53 #[.agg #[.int .i64 10, .int .i64 o, .int .i64 n, .string s, .slice a1 ns.length q1, .slice a2 c2 q2, .int .i64 p]] w fun e w' =>
      e = .returned (.bool (fieldsB 10 o n s ns)) ∧ Below w.heap.size w w' := by
  have AL := hid (box1_below w (.cells #[.int .i64 10, .int .i64 o, .int .i64 n, .string s, .slice a1 ns.length q1, .slice a2 c2 q2, .int .i64 p] 25))
  have X := hid (box_new w 10 o n s (.slice a1 ns.length q1) (.slice a2 c2 q2) p)
  have HE := hid (empty_size s)
  go_enter Tryd.func53, Tryd.ntmps53
  go_wp2_with fail
  refine (rsign_calls o _).mono ?_
  rintro e w1 ⟨rfl, b1⟩
  have B1 := hid (below_in AL.out (by simp) b1)
  have X1 := hid (box_on X.out b1)
  obtain ⟨c0, c1, c2, c3, c4, c5, c6⟩ := box_cells X1.out
  clear b1
  generalize hsg : signT o = sg at *
  have HSG := hid hsg
  clear hsg
  have T1 := hid (strsIn_on hS.out ((B1.out).mono hB))
  have HO := hid (sign_none o)
  cases sg with
  | nil =>
    have H := hid (show fieldsB 10 o n s ns = false by have := HO.out.1 HSG.out; simp only [fieldsB, opOk]; grind)
    clear HE
    go_wp2_with fail
    go_ret
    exact ⟨by rw [H.out]; rfl, B1.out⟩
  | cons sx sr =>
  have ho10 : 1 ≤ o ∧ o ≤ 11 := by
    rcases Decidable.em (1 ≤ o ∧ o ≤ 11) with h | h
    · exact h
    · have := HO.out.2 h; rw [HSG.out] at this; cases this
  have HO10 := hid ho10
  clear ho10
  by_cases hn : n = 0
  case neg =>
    have en : (n != 0) = true := bne_iff_ne.2 hn
    have H := hid (show fieldsB 10 o n s ns = false by have ho10 := HO10.out; have he := HE.out; simp only [fieldsB, opOk, numOk, strOk, nsOk, properB, propB]; grind)
    clear HE
    go_wp2_with fail
    go_ret
    exact ⟨by rw [H.out]; rfl, B1.out⟩
  case pos =>
  subst hn
  by_cases hse : s.size = 0
  case neg =>
    have es : s.toList.isEmpty = false := by rw [HE.out]; exact decide_eq_false hse
    have H := hid (show fieldsB 10 o 0 s ns = false by have ho10 := HO10.out; have he := HE.out; simp only [fieldsB, opOk, numOk, strOk, nsOk, properB, propB]; grind)
    clear HE
    go_wp2_with fail
    go_ret
    exact ⟨by rw [H.out]; rfl, B1.out⟩
  case pos =>
  have es : s.toList.isEmpty = true := by rw [HE.out]; exact decide_eq_true hse
  by_cases hl : ns.length = 0
  case neg =>
    have dl : decide ((0 : Int) < (ns.length : Int)) = true := decide_eq_true (by omega)
    have H := hid (show fieldsB 10 o 0 s ns = false by have ho10 := HO10.out; have he := HE.out; simp only [fieldsB, opOk, numOk, strOk, nsOk, properB, propB]; grind)
    clear HE
    go_wp2_with fail
    go_ret
    exact ⟨by rw [H.out]; rfl, B1.out⟩
  case pos =>
  have H := hid (show fieldsB 10 o 0 s ns = true by have ho10 := HO10.out; have he := HE.out; simp only [fieldsB, opOk, numOk, strOk, nsOk, properB, propB]; grind)
  clear HE
  go_wp2_with fail
  go_loop [5] (fun i => i = .int .i64 0) (fun _ => 0)
  case atStart => rfl
  case round =>
    obtain rfl := hrel
    go_wp2_with fail
    go_ret
    exact ⟨by rw [H.out]; rfl, (by first | exact B1.out | (have hz := B1.out; simpa only [hl] using hz))⟩

set_option maxHeartbeats 6400000 in
set_option maxRecDepth 100000 in
theorem fields_other (k : Int) (hk : k ≠ 9 ∧ k ≠ 10 ∧ k ≠ 17 ∧ k ≠ 2 ∧ k ≠ 3 ∧ k ≠ 4 ∧ k ≠ 5 ∧ k ≠ 21 ∧ k ≠ 22 ∧ k ≠ 13 ∧ k ≠ 16 ∧ k ≠ 23 ∧ k ≠ 25 ∧ k ≠ 7 ∧ k ≠ 8) (o n : Int) (s : ByteArray) (ns : List ByteArray) (a1 : Option Addr) (q1 : Nat) (a2 : Option Addr) (c2 q2 : Nat) (p : Int) (B : Nat) (w : World) (_hB : B ≤ w.heap.size) (_hS : Hid (StrsIn B (.slice a1 ns.length q1) ns w)) (hns : ns.length ≤ 1000000) :
    Calls Tryd.prog 53 #[.agg #[.int .i64 k, .int .i64 o, .int .i64 n, .string s, .slice a1 ns.length q1, .slice a2 c2 q2, .int .i64 p]] w fun e w' =>
      e = .returned (.bool (fieldsB k o n s ns)) ∧ Below w.heap.size w w' := by
  have AL := hid (box1_below w (.cells #[.int .i64 k, .int .i64 o, .int .i64 n, .string s, .slice a1 ns.length q1, .slice a2 c2 q2, .int .i64 p] 25))
  have X := hid (box_new w k o n s (.slice a1 ns.length q1) (.slice a2 c2 q2) p)
  have HE := hid (empty_size s)
  obtain ⟨z9, z10, z17, z2, z3, z4, z5, z21, z22, z13, z16, z23, z25, z7, z8⟩ := hk
  have e9 : (k == 9) = false := beq_eq_false_iff_ne.2 z9
  have f9 : (k != 9) = true := bne_iff_ne.2 z9
  have e10 : (k == 10) = false := beq_eq_false_iff_ne.2 z10
  have f10 : (k != 10) = true := bne_iff_ne.2 z10
  have e17 : (k == 17) = false := beq_eq_false_iff_ne.2 z17
  have f17 : (k != 17) = true := bne_iff_ne.2 z17
  have e2 : (k == 2) = false := beq_eq_false_iff_ne.2 z2
  have f2 : (k != 2) = true := bne_iff_ne.2 z2
  have e3 : (k == 3) = false := beq_eq_false_iff_ne.2 z3
  have f3 : (k != 3) = true := bne_iff_ne.2 z3
  have e4 : (k == 4) = false := beq_eq_false_iff_ne.2 z4
  have f4 : (k != 4) = true := bne_iff_ne.2 z4
  have e5 : (k == 5) = false := beq_eq_false_iff_ne.2 z5
  have f5 : (k != 5) = true := bne_iff_ne.2 z5
  have e21 : (k == 21) = false := beq_eq_false_iff_ne.2 z21
  have f21 : (k != 21) = true := bne_iff_ne.2 z21
  have e22 : (k == 22) = false := beq_eq_false_iff_ne.2 z22
  have f22 : (k != 22) = true := bne_iff_ne.2 z22
  have e13 : (k == 13) = false := beq_eq_false_iff_ne.2 z13
  have f13 : (k != 13) = true := bne_iff_ne.2 z13
  have e16 : (k == 16) = false := beq_eq_false_iff_ne.2 z16
  have f16 : (k != 16) = true := bne_iff_ne.2 z16
  have e23 : (k == 23) = false := beq_eq_false_iff_ne.2 z23
  have f23 : (k != 23) = true := bne_iff_ne.2 z23
  have e25 : (k == 25) = false := beq_eq_false_iff_ne.2 z25
  have f25 : (k != 25) = true := bne_iff_ne.2 z25
  have e7 : (k == 7) = false := beq_eq_false_iff_ne.2 z7
  have f7 : (k != 7) = true := bne_iff_ne.2 z7
  have e8 : (k == 8) = false := beq_eq_false_iff_ne.2 z8
  have f8 : (k != 8) = true := bne_iff_ne.2 z8
  have HK := hid (show (k ≠ 9 ∧ k ≠ 10 ∧ k ≠ 17 ∧ k ≠ 2 ∧ k ≠ 3 ∧ k ≠ 4 ∧ k ≠ 5 ∧ k ≠ 21 ∧ k ≠ 22 ∧ k ≠ 13 ∧ k ≠ 16 ∧ k ≠ 23 ∧ k ≠ 25 ∧ k ≠ 7 ∧ k ≠ 8) from ⟨z9, z10, z17, z2, z3, z4, z5, z21, z22, z13, z16, z23, z25, z7, z8⟩)
  clear z9 z10 z17 z2 z3 z4 z5 z21 z22 z13 z16 z23 z25 z7 z8
  by_cases ho : o = 0
  case neg =>
    have eo : (o != 0) = true := bne_iff_ne.2 ho
    have H := hid (show fieldsB k o n s ns = false by have hk := HK.out; have he := HE.out; simp only [fieldsB, opOk, numOk, strOk, nsOk, properB, propB]; grind [sign_none])
    clear HE
    go_enter Tryd.func53, Tryd.ntmps53
    go_wp2_with fail
    go_ret
    exact ⟨by rw [H.out]; rfl, AL.out⟩
  case pos =>
  subst ho
  by_cases hn : n = 0
  case neg =>
    have en : (n != 0) = true := bne_iff_ne.2 hn
    have H := hid (show fieldsB k 0 n s ns = false by have hk := HK.out; have he := HE.out; simp only [fieldsB, opOk, numOk, strOk, nsOk, properB, propB]; grind)
    clear HE
    go_enter Tryd.func53, Tryd.ntmps53
    go_wp2_with fail
    go_ret
    exact ⟨by rw [H.out]; rfl, AL.out⟩
  case pos =>
  subst hn
  by_cases hse : s.size = 0
  case neg =>
    have es : s.toList.isEmpty = false := by rw [HE.out]; exact decide_eq_false hse
    have H := hid (show fieldsB k 0 0 s ns = false by have hk := HK.out; have he := HE.out; simp only [fieldsB, opOk, numOk, strOk, nsOk, properB, propB]; grind)
    clear HE
    go_enter Tryd.func53, Tryd.ntmps53
    go_wp2_with fail
    go_ret
    exact ⟨by rw [H.out]; rfl, AL.out⟩
  case pos =>
  have es : s.toList.isEmpty = true := by rw [HE.out]; exact decide_eq_true hse
  by_cases hl : ns.length = 0
  case neg =>
    have dl : decide ((0 : Int) < (ns.length : Int)) = true := decide_eq_true (by omega)
    have H := hid (show fieldsB k 0 0 s ns = false by have hk := HK.out; have he := HE.out; simp only [fieldsB, opOk, numOk, strOk, nsOk, properB, propB]; grind)
    clear HE
    go_enter Tryd.func53, Tryd.ntmps53
    go_wp2_with fail
    go_ret
    exact ⟨by rw [H.out]; rfl, AL.out⟩
  case pos =>
  have H := hid (show fieldsB k 0 0 s ns = true by have hk := HK.out; have he := HE.out; simp only [fieldsB, opOk, numOk, strOk, nsOk, properB, propB]; grind)
  clear HE
  go_enter Tryd.func53, Tryd.ntmps53
  go_wp2_with fail
  go_loop [5] (fun i => i = .int .i64 0) (fun _ => 0)
  case atStart => rfl
  case round =>
    obtain rfl := hrel
    go_wp2_with fail
    go_ret
    exact ⟨by rw [H.out]; rfl, (by first | exact AL.out | (have hz := AL.out; simpa only [hl] using hz))⟩

end Go.Proofs.YtenpldenhgpneaaDoor
