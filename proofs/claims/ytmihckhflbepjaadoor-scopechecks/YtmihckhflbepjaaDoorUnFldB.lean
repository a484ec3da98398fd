/- Whether a unit's node has the fields of its kind, as the document asks it: names. -/
import Derived.Test.YtmihckhflbepjaaDoorUnFld0
namespace Go.Proofs.YtmihckhflbepjaaDoor
set_option linter.unusedSimpArgs false
set_option linter.unusedVariables false
open Go.RowKit

set_option maxHeartbeats 12800000 in
set_option maxRecDepth 100000 in
theorem fieldsu_pos (G L : Int) (fa : Option Addr) (fn fc : Nat) (k o n : Int) (s : ByteArray) (a1 : Option Addr) (q1 : Nat) (a2 : Option Addr) (c2 q2 : Nat) (p : Int) (B : Nat) (w : World) (hB : B ≤ w.heap.size) (ns : List ByteArray) (m : Nat) (HM : Hid (ns.length = m)) (hS : Hid (StrsIn B (.slice a1 m q1) ns w)) (hns : m ≤ 1000000) (hpos : (0 : Int) < (m : Int))
    (hL : -1000000 ≤ L ∧ L ≤ 1000000) (hG : -1000000 ≤ G ∧ G ≤ 1000000) (hf : fn ≤ 1000000) :
    Calls Tryd.prog 49 #[.agg #[.int .i64 k, .int .i64 o, .int .i64 n, .string s, .slice a1 m q1, .slice a2 c2 q2, .int .i64 p], .agg #[.int .i64 G, .slice fa fn fc], .int .i64 L] w fun e w' =>
      e = .returned (.bool (fldD (L, G, (fn : Int)) k o n s ns)) ∧ Below w.heap.size w w' := by
  have T := two_blks w 25 30 #[.int .i64 k, .int .i64 o, .int .i64 n, .string s, .slice a1 m q1, .slice a2 c2 q2, .int .i64 p] #[.int .i64 G, .slice fa fn fc]
  have X1 := hid T.1
  have X2 := hid T.2.1
  have HT := hid T.2.2
  clear T
  have H := hid (show fldD (L, G, (fn : Int)) k o n s ns = (withB n 0 (mostD (L, G, (fn : Int)) k) && (opD k o && (strD k s && nsD k ns))) from rfl)
  generalize fldD (L, G, (fn : Int)) k o n s ns = F at *
  go_enter Tryd.func49, Tryd.ntmps49
  go_upto_region 3 with fail
  generalize hW : (w.alloc (.cells #[.int .i64 k, .int .i64 o, .int .i64 n, .string s, .slice a1 m q1, .slice a2 c2 q2, .int .i64 p] 25)).alloc (.cells #[.int .i64 G, .slice fa fn fc] 30) = w2 at *
  clear hW
  obtain ⟨c0, c1, c2', c3, c4, c5, c6⟩ := box_cells (show Box w.heap.size k o n s (.slice a1 m q1) (.slice a2 c2 q2) p w2 from X1.out)
  have u0 : w2.cell? ⟨w.heap.size + 1, 0, none⟩ = some (.int .i64 G) := (blk_cell X2.out 0).trans rfl
  have u1 : w2.cell? ⟨w.heap.size + 1, 1, none⟩ = some (.slice fa fn fc) := (blk_cell X2.out 1).trans rfl
  go_upto_block 0 with fail
  go_cut [8] (fun m wx => m = .int .i64 (mostD (L, G, (fn : Int)) k) ∧ wx = w2)
  case first =>
    have ways : k = 2 ∨ k = 3 ∨ k = 18 ∨ k = 33 ∨ k = 19 ∨ k = 34 ∨ k = 20 ∨ (k ≠ 2 ∧ k ≠ 3 ∧ k ≠ 18 ∧ k ≠ 33 ∧ k ≠ 19 ∧ k ≠ 34 ∧ k ≠ 20) := by omega
    clear H
    rcases ways with rfl | rfl | rfl | rfl | rfl | rfl | rfl | ⟨h1, h2, h3, h4, h5, h6, h7⟩
    iterate 7
      · as_aux_lemma =>
          go_wp2_with fail
          go_meet
          exact ⟨by first | rfl | (congr 1; go_num), rfl⟩
    · as_aux_lemma =>
        go_wp2_with fail
        go_meet
        exact ⟨by unfold mostD; rw [if_neg h1, if_neg h2, if_neg (by omega), if_neg (by omega), if_neg h7], rfl⟩
  case rest =>
    obtain ⟨rfl, rfl⟩ := hcut
    rename World => w2
    generalize mostD (L, G, (fn : Int)) k = mo at *
    have W0 := hid (show withB n 0 mo = (decide (0 ≤ n) && decide (n ≤ mo)) from rfl)
    generalize withB n 0 mo = wb at *
    go_upto_region 16 with fail
    go_cut [43] (fun c wx => c = .bool (!wb) ∧ wx = w2)
    case first =>
      clear H
      by_cases h1 : n < 0
      · have hb : wb = false := by rw [W0.out, decide_eq_false (p := 0 ≤ n) (by omega)]; rfl
        have d1 : decide (n < 0) = true := decide_eq_true h1
        subst hb
        as_aux_lemma =>
          go_wp2_with fail
          go_meet
          exact ⟨rfl, rfl⟩
      · have d1 : decide (n < 0) = false := decide_eq_false h1
        by_cases h2 : mo < n
        · have hb : wb = false := by rw [W0.out, decide_eq_false (p := n ≤ mo) (by omega), Bool.and_false]
          have d2 : decide (mo < n) = true := decide_eq_true h2
          subst hb
          as_aux_lemma =>
            go_wp2_with fail
            go_meet
            exact ⟨rfl, rfl⟩
        · have hb : wb = true := by rw [W0.out, decide_eq_true (p := 0 ≤ n) (by omega), decide_eq_true (p := n ≤ mo) (by omega)]; rfl
          have d2 : decide (mo < n) = false := decide_eq_false h2
          subst hb
          as_aux_lemma =>
            go_wp2_with fail
            go_meet
            exact ⟨rfl, rfl⟩
    case rest =>
      obtain ⟨rfl, rfl⟩ := hcut
      rename World => w2
      clear u0 u1 W0
      cases wb with
      | false =>
        have H0 := hid (show F = false by rw [H.out]; rfl)
        clear H
        as_aux_lemma =>
          go_wp2_with fail
          go_ret
          exact ⟨by rw [H0.out]; rfl, HT.out⟩
      | true =>
      replace H := hid (show F = (opD k o && (strD k s && nsD k ns)) by rw [H.out]; rfl)
      have OD := hid (show ∀ x, opD k o = x → opD k o = x from fun _ h => h)
      have OPE := hid (show opD k o = if k = 9 then decide (1 ≤ o ∧ o ≤ 2) else if k = 10 then decide (1 ≤ o ∧ o ≤ 11) else if k = 17 then decide (1 ≤ o ∧ o ≤ 7) else decide (o = 0) from rfl)
      clear OD
      generalize opD k o = ob at *
      go_upto_region 18 with fail
      go_cut [96] (fun c wx => c = .bool (!ob) ∧ Hid (Blk w.heap.size 25 #[.int .i64 k, .int .i64 o, .int .i64 n, .string s, .slice a1 m q1, .slice a2 c2 q2, .int .i64 p] wx) ∧ Hid (Below w.heap.size w wx))
      case first =>
        clear H
        have ways : k = 9 ∨ k = 10 ∨ k = 17 ∨ (k ≠ 9 ∧ k ≠ 10 ∧ k ≠ 17) := by omega
        rcases ways with rfl | rfl | rfl | ⟨h1, h2, h3⟩
        · by_cases g1 : o < 1
          · have hb : ob = false := by rw [OPE.out, if_pos rfl, decide_eq_false (by omega)]
            have d1 : decide (o < 1) = true := decide_eq_true g1
            subst hb
            as_aux_lemma =>
              go_wp2_with fail
              go_meet
              exact ⟨rfl, X1, HT⟩
          · have d1 : decide (o < 1) = false := decide_eq_false g1
            by_cases g2 : 2 < o
            · have hb : ob = false := by rw [OPE.out, if_pos rfl, decide_eq_false (by omega)]
              have d2 : decide (2 < o) = true := decide_eq_true g2
              subst hb
              as_aux_lemma =>
                go_wp2_with fail
                go_meet
                exact ⟨rfl, X1, HT⟩
            · have hb : ob = true := by rw [OPE.out, if_pos rfl, decide_eq_true (by omega)]
              have d2 : decide (2 < o) = false := decide_eq_false g2
              subst hb
              as_aux_lemma =>
                go_wp2_with fail
                go_meet
                exact ⟨rfl, X1, HT⟩
        · have O10 := hid (show ob = decide (1 ≤ o ∧ o ≤ 11) from OPE.out.trans (by rw [if_neg (by decide), if_pos rfl]))
          clear OPE
          as_aux_lemma =>
            go_wp2_with fail
            refine (rsign_calls o _).mono ?_
            rintro e w1 ⟨rfl, b1⟩
            have XX := hid (blk_on X1.out b1)
            have TT := hid (below_on HT.out b1)
            clear b1
            generalize hsg : signT o = sg at *
            have HO := hid (sign_none o)
            cases sg with
            | nil =>
              have hb : ob = false := O10.out.trans (decide_eq_false (HO.out.1 hsg))
              clear hsg HO
              subst hb
              go_wp2_with fail
              go_meet
              exact ⟨rfl, XX, TT⟩
            | cons sx sr =>
              have ho10 : 1 ≤ o ∧ o ≤ 11 := by
                rcases Decidable.em (1 ≤ o ∧ o ≤ 11) with h | h
                · exact h
                · have := HO.out.2 h; rw [hsg] at this; cases this
              have hb : ob = true := O10.out.trans (decide_eq_true ho10)
              clear hsg HO
              subst hb
              go_wp2_with fail
              go_meet
              exact ⟨rfl, XX, TT⟩
        · by_cases g1 : o < 1
          · have hb : ob = false := by rw [OPE.out, if_neg (by decide), if_neg (by decide), if_pos rfl, decide_eq_false (by omega)]
            have d1 : decide (o < 1) = true := decide_eq_true g1
            subst hb
            as_aux_lemma =>
              go_wp2_with fail
              go_meet
              exact ⟨rfl, X1, HT⟩
          · have d1 : decide (o < 1) = false := decide_eq_false g1
            by_cases g2 : 7 < o
            · have hb : ob = false := by rw [OPE.out, if_neg (by decide), if_neg (by decide), if_pos rfl, decide_eq_false (by omega)]
              have d2 : decide (7 < o) = true := decide_eq_true g2
              subst hb
              as_aux_lemma =>
                go_wp2_with fail
                go_meet
                exact ⟨rfl, X1, HT⟩
            · have hb : ob = true := by rw [OPE.out, if_neg (by decide), if_neg (by decide), if_pos rfl, decide_eq_true (by omega)]
              have d2 : decide (7 < o) = false := decide_eq_false g2
              subst hb
              as_aux_lemma =>
                go_wp2_with fail
                go_meet
                exact ⟨rfl, X1, HT⟩
        · have e1 : (k == 9) = false := by simpa using h1
          have e2 : (k == 10) = false := by simpa using h2
          have e3 : (k == 17) = false := by simpa using h3
          have f1 : (k != 9) = true := by simpa using h1
          have f2 : (k != 10) = true := by simpa using h2
          have f3 : (k != 17) = true := by simpa using h3
          by_cases g : o = 0
          · have d : (o != 0) = false := by simp [g]
            have hb : ob = true := by rw [OPE.out, if_neg h1, if_neg h2, if_neg h3, decide_eq_true g]
            subst hb
            clear g
            as_aux_lemma =>
              go_wp2_with fail
              go_meet
              exact ⟨rfl, X1, HT⟩
          · have d : (o != 0) = true := by simpa using g
            have hb : ob = false := by rw [OPE.out, if_neg h1, if_neg h2, if_neg h3, decide_eq_false g]
            subst hb
            clear g
            as_aux_lemma =>
              go_wp2_with fail
              go_meet
              exact ⟨rfl, X1, HT⟩
      case rest =>
        obtain ⟨rfl, XB, TB⟩ := hcut
        rename World => wc
        clear X1 X2 HT c0 c1 c2' c3 c4 c5 c6 OPE
        cases ob with
        | false =>
          have H0 := hid (show F = false by rw [H.out]; rfl)
          clear H
          as_aux_lemma =>
            go_wp2_with fail
            go_ret
            exact ⟨by rw [H0.out]; rfl, TB.out⟩
        | true =>
        replace H := hid (show F = (strD k s && nsD k ns) by rw [H.out]; rfl)
        obtain ⟨c0, c1, c2', c3, c4, c5, c6⟩ := box_cells (show Box w.heap.size k o n s (.slice a1 m q1) (.slice a2 c2 q2) p wc from XB.out)
        have PK := hid (show propK k = decide (k = 13 ∨ k = 16 ∨ k = 23 ∨ k = 25) from rfl)
        generalize propK k = pk at *
        go_upto_region 20 with fail
        go_cut [9] (fun c wx => c = .bool pk ∧ wx = wc)
        case first =>
          clear H
          have ways : k = 13 ∨ k = 16 ∨ k = 23 ∨ k = 25 ∨ (k ≠ 13 ∧ k ≠ 16 ∧ k ≠ 23 ∧ k ≠ 25) := by omega
          rcases ways with rfl | rfl | rfl | rfl | ⟨h1, h2, h3, h4⟩
          iterate 4
            · have hb : pk = true := by rw [PK.out]; rfl
              subst hb
              as_aux_lemma =>
                go_wp2_with fail
                go_meet
                exact ⟨rfl, rfl⟩
          · have e1 : (k == 13) = false := by simpa using h1
            have e2 : (k == 16) = false := by simpa using h2
            have e3 : (k == 23) = false := by simpa using h3
            have e4 : (k == 25) = false := by simpa using h4
            have hb : pk = false := by rw [PK.out, decide_eq_false (by omega)]
            subst hb
            as_aux_lemma =>
              go_wp2_with fail
              go_meet
              exact ⟨rfl, rfl⟩
        case rest =>
          obtain ⟨rfl, rfl⟩ := hcut
          rename World => wc
          have HE := hid (empty_size s)
          have SN := hid (show (strD k s && nsF k ns) = (strD k s && nsF k ns) from rfl)
          obtain ⟨sn, hsn⟩ : ∃ b, b = (strD k s && nsF k ns) := ⟨_, rfl⟩
          replace SN := hid hsn
          clear hsn
          go_upto_region 21 with fail
          go_cut [156] (fun c wx => c = .bool (!sn) ∧ wx = wc)
          case first =>
            clear H
            have hst : strD k s = if k = 13 ∨ k = 16 ∨ k = 23 ∨ k = 25 then propB s else if k = 4 then decide (s.size ≤ 256) else decide (s.size = 0) := rfl
            have HST := hid hst
            clear hst
            have d5 : decide ((0 : Int) < (m : Int)) = true := decide_eq_true hpos
            cases pk with
            | true =>
              have hp' : k = 13 ∨ k = 16 ∨ k = 23 ∨ k = 25 := of_decide_eq_true PK.out.symm
              have h7 : k ≠ 7 := by omega
              have f7 : (k != 7) = true := by simpa using h7
              have e4 : (k == 4) = false := by simp; omega
              have hsd := hid (show strD k s = nameB s.data.toList by rw [HST.out, if_pos hp']; rfl)
              have NSN := hid (show nsF k ns = false by rw [nsF_no h7]; exact decide_eq_false (by have := HM.out; omega))
              clear hp' PK HST
              as_aux_lemma =>
                go_wp2_with fail
                refine (refisname_calls s _).mono ?_
                rintro e w1 ⟨rfl, hw1⟩
                subst hw1
                generalize hnm : nameB s.data.toList = nm at *
                cases nm with
                | false =>
                  have hb : sn = false := by rw [SN.out, hsd.out]; rfl
                  subst hb
                  clear hnm
                  go_wp2_with fail
                  go_meet
                  exact ⟨rfl, rfl⟩
                | true =>
                  have hb : sn = false := by rw [SN.out, hsd.out, NSN.out]; rfl
                  subst hb
                  clear hnm
                  go_wp2_with fail
                  go_meet
                  exact ⟨rfl, rfl⟩
            | false =>
              have hp' : ¬ (k = 13 ∨ k = 16 ∨ k = 23 ∨ k = 25) := of_decide_eq_false PK.out.symm
              replace HST := hid (HST.out.trans (if_neg hp'))
              clear PK
              by_cases h4 : k = 4
              · subst h4
                have h7 : (4 : Int) ≠ 7 := by decide
                replace HST := hid (HST.out.trans (if_pos rfl))
                have NSN := hid (show nsF 4 ns = false by rw [nsF_no h7]; exact decide_eq_false (by have := HM.out; omega))
                clear hp'
                by_cases g : s.size ≤ 256
                · have d : decide ((256 : Int) < (s.size : Int)) = false := decide_eq_false (by omega)
                  have hb : sn = false := by rw [SN.out, NSN.out, HST.out, decide_eq_true g]; rfl
                  clear g
                  subst hb
                  as_aux_lemma =>
                    go_wp2_with fail
                    go_meet
                    exact ⟨rfl, rfl⟩
                · have d : decide ((256 : Int) < (s.size : Int)) = true := decide_eq_true (by omega)
                  have hb : sn = false := by rw [SN.out, HST.out, decide_eq_false g]; rfl
                  clear g
                  subst hb
                  as_aux_lemma =>
                    go_wp2_with fail
                    go_meet
                    exact ⟨rfl, rfl⟩
              · have e4 : (k == 4) = false := by simpa using h4
                have f4 : (k != 4) = true := by simpa using h4
                replace HST := hid (HST.out.trans (if_neg h4))
                by_cases g : s.size = 0
                rotate_left 1
                · have es : s.toList.isEmpty = false := by rw [HE.out]; exact decide_eq_false g
                  have hb : sn = false := by rw [SN.out, HST.out, decide_eq_false g]; rfl
                  clear g h4 hp'
                  subst hb
                  as_aux_lemma =>
                    go_wp2_with fail
                    go_meet
                    exact ⟨rfl, rfl⟩
                have es : s.toList.isEmpty = true := by rw [HE.out]; exact decide_eq_true g
                replace HST := hid (HST.out.trans (decide_eq_true g))
                clear g
                by_cases h7 : k = 7
                · subst h7
                  clear hp' h4
                  by_cases g5 : m ≤ 40
                  · have d6 : decide ((40 : Int) < (m : Int)) = false := decide_eq_false (by omega)
                    have hb : sn = true := by rw [SN.out, HST.out, nsF_7, HM.out, decide_eq_true g5]; rfl
                    clear g5
                    subst hb
                    as_aux_lemma =>
                      go_wp2_with fail
                      go_meet
                      exact ⟨rfl, rfl⟩
                  · have d6 : decide ((40 : Int) < (m : Int)) = true := decide_eq_true (by omega)
                    have hb : sn = false := by rw [SN.out, nsF_7, HM.out, decide_eq_false g5, Bool.and_false]
                    clear g5
                    subst hb
                    as_aux_lemma =>
                      go_wp2_with fail
                      go_meet
                      exact ⟨rfl, rfl⟩
                · have f7 : (k != 7) = true := by simpa using h7
                  have NSN := hid (show nsF k ns = false by rw [nsF_no h7]; exact decide_eq_false (by have := HM.out; omega))
                  have hb : sn = false := by rw [SN.out, NSN.out, HST.out]; rfl
                  clear h7 h4 hp'
                  subst hb
                  as_aux_lemma =>
                    go_wp2_with fail
                    go_meet
                    exact ⟨rfl, rfl⟩
          case rest =>
            obtain ⟨rfl, rfl⟩ := hcut
            rename World => wc
            clear HE PK
            cases sn with
            | false =>
              have H0 := hid (show F = false by
                have hv := SN.out.symm
                rw [H.out]
                rw [Bool.and_eq_false_iff] at hv ⊢
                rcases hv with h | h
                · exact .inl h
                · exact .inr (ns_less h))
              clear H SN
              as_aux_lemma =>
                go_wp2_with fail
                go_ret
                exact ⟨by rw [H0.out]; rfl, TB.out⟩
            | true =>
            have hv := SN.out.symm
            rw [Bool.and_eq_true] at hv
            replace H := hid (show F = nsD k ns by rw [H.out, hv.1]; rfl)
            have NF := hid hv.2
            clear hv SN
            go_wp2_with fail
            clear c0 c1 c2' c3 c4 c5 c6
            go_loopw [10] (fun iV wr => ∃ j : Nat, j ≤ m ∧ iV = .int .i64 j ∧ Hid (∀ (q : Nat) (hq : q < ns.length), q < j → propB ns[q] = true) ∧ wc = wr) (fun iV _ => m - (intOf iV).toNat)
            case atStart => exact ⟨0, by omega, rfl, hid (fun q hq h => absurd h (Nat.not_lt_zero _)), rfl⟩
            case round =>
              obtain ⟨j, hj, rfl, hA, rfl⟩ := hrel
              obtain ⟨c0, c1, c2', c3, c4, c5, c6⟩ := box_cells (show Box w.heap.size k o n s (.slice a1 m q1) (.slice a2 c2 q2) p wc from XB.out)
              by_cases hjl : j < m
              · have hjl' : (j : Int) < (m : Int) := by omega
                have hjn : j < ns.length := by have := HM.out; omega
                obtain ⟨ao, cap, he, hss⟩ := strsIn_cases hS.out
                injection he with he1 he2 he3
                subst he1
                obtain ⟨b, off, hab, hbB, hat⟩ := hss.resolve_left (fun h => by rw [h] at hjn; cases hjn)
                subst hab
                have s0 := cell_keep (TB.out.mono hB) hbB (hat j hjn)
                have NB := hid (fun (h : propB ns[j] = false) => ns_bad (k := k) hjn h)
                have NA := hid (fun (h : propB ns[j] = true) => (show ∀ (q : Nat) (hq : q < ns.length), q < j + 1 → propB ns[q] = true from fun q hq h1 => by
                  rcases Nat.lt_or_ge q j with h4 | h4
                  · exact hA.out q hq h4
                  · obtain rfl : q = j := by omega
                    exact h))
                have PB := hid (show propB ns[j] = nameB ns[j].data.toList from rfl)
                clear hat hss hA he2 he3
                generalize ns[j] = z at *
                clear hjn
                go_wp2_with fail
                refine (refisname_calls z _).mono ?_
                rintro e w1 ⟨rfl, hw1⟩
                subst hw1
                generalize hnm : nameB z.data.toList = nm at *
                cases nm with
                | false =>
                  have H0 := hid (H.out.trans (NB.out PB.out))
                  clear hnm NB NA PB
                  go_wp2_with fail
                  go_ret
                  exact ⟨by rw [H0.out]; rfl, TB.out⟩
                | true =>
                  have A2 := hid (NA.out PB.out)
                  clear hnm NB NA PB
                  go_wp2_with fail
                  go_roundw
                  case rel =>
                    (repeat apply Exists.intro)
                    refine ⟨?r1, rfl⟩
                    first | exact ⟨j + 1, by omega, by go_num, A2, trivial⟩ | exact ⟨j + 1, by omega, by go_num, A2, rfl⟩
                  case measure => simp [intOf]; omega
              · have hje : j = m := by omega
                have H0 := hid (show F = true by rw [H.out]; exact ns_end NF.out (fun q hq => hA.out q hq (by have := HM.out; omega)))
                clear hA
                subst hje
                as_aux_lemma =>
                  go_wp2_with fail
                  go_ret
                  exact ⟨by rw [H0.out]; rfl, TB.out⟩

end Go.Proofs.YtmihckhflbepjaaDoor
