/- The document's tokens: one, and all. -/
import Derived.Test.YtffijiabaeipaaaDoorRefLex
namespace Go.Proofs.YtffijiabaeipaaaDoor
open Go.RowKit

set_option maxHeartbeats 1600000 in
theorem refone_word (s : ByteArray) (hs : s.size ≤ 1000000) (k : Nat) (hk : k < s.size) (hl : letterN s[k].toNat = true) (w : World) :
    Calls Tryd.prog 21 #[.string s, .int .i64 k] w fun e w' => e = TokOut.ending (oneOut (s.data.toList.drop k) k) ∧ Below w.heap.size w w' := by
  have b0 := hid ((Below.refl w.heap.size w).alloc (Nat.le_refl _) (.cells #[.int .i64 0, .string ⟨#[]⟩, .int .i64 0, .int .i64 0] 38))
  have S0 := hid (slot4_new w rfl 38)
  have hq : oneOut (s.data.toList.drop k) k = (if letterN s[k].toNat then wordOut (s.data.toList.drop k) k else if digitN s[k].toNat then numbOut (s.data.toList.drop k) k else if s[k].toNat = 34 then quoOut (s.data.toList.drop k) k else sgnOut (s.data.toList.drop k) k) := by
    rw [drop_byte s k hk]; rfl
  have hq := (hq.trans (by rw [hl, if_pos rfl]) : oneOut (s.data.toList.drop k) k = wordOut (s.data.toList.drop k) k)
  have Hl := hid hl
  clear hl
  have hm1 := runTo_ge wordN s k
  have hm2 := runTo_le (p := wordN) (Nat.le_of_lt hk)
  conv at hq => rhs; unfold wordOut
  have hto : k + runL wordN (s.data.toList.drop k) = runTo wordN s k := rfl
  have hcb : (⟨((s.data.toList.drop k).take (runL wordN (s.data.toList.drop k))).toArray⟩ : ByteArray) = s.extract k (runTo wordN s k) := (cut_bytes s k _).symm
  have hcut : (s.data.toList.drop k).take (runL wordN (s.data.toList.drop k)) = (s.extract k (runTo wordN s k)).data.toList := by
    rw [cut_list]; unfold runTo; rw [Nat.add_sub_cancel_left]
  rw [hcb, hcut, hto] at hq
  clear hto hcb hcut
  have HQ := hid hq
  clear hq
  go_enter Tryd.func21, Tryd.ntmps21
  go_wp2_with fail
  refine (rletter_calls _ _).mono ?_
  rintro e w0 ⟨rfl, hw⟩
  rw [hw] at b0 S0
  clear hw
  rw [Hl.out]
  go_wp2_with fail
  go_loop [7] (fun i => ∃ j : Nat, k ≤ j ∧ j ≤ s.size ∧ i = .int .i64 j ∧ runTo wordN s k = runTo wordN s j) (fun i => s.size - (intOf i).toNat)
  case atStart => exact ⟨k, Nat.le_refl _, Nat.le_of_lt hk, rfl, rfl⟩
  case round =>
    obtain ⟨j, hkj, hj, rfl, hrun⟩ := hrel
    have STOP : runTo wordN s k = j → Hid (oneOut (s.data.toList.drop k) k = (if keyB (s.extract k j).data.toList then (⟨2, s.extract k j, 0, k⟩, j, 0) else if nameB (s.extract k j).data.toList then (⟨1, s.extract k j, 0, k⟩, j, 0) else (Tok.zero, k, 11))) := by
      intro h
      have := HQ.out
      rw [h] at this
      exact this
    clear HQ
    by_cases hjl : j < s.size
    · cases hlj : letterN s[j].toNat with
      | true =>
        have H := hid (hrun.trans (runTo_on hjl (by simp [wordN, hlj])))
        have Hp := hid hlj
        clear hrun hlj STOP
        go_wp2_with fail
        refine (rletter_calls _ _).mono ?_
        rintro e w1 ⟨rfl, rfl⟩
        rw [Hp.out]
        go_wp2
        go_round
        case rel => exact ⟨j + 1, by omega, by omega, by go_num, H.out⟩
        case measure => simp [intOf]; omega
      | false =>
        cases hdj : digitN s[j].toNat with
        | true =>
          have H := hid (hrun.trans (runTo_on hjl (by simp [wordN, hdj])))
          have Hp := hid hlj
          have Hd := hid hdj
          clear hrun hlj hdj STOP
          go_wp2_with fail
          refine (rletter_calls _ _).mono ?_
          rintro e w1 ⟨rfl, rfl⟩
          rw [Hp.out]
          go_wp2_with fail
          refine (rdigit_calls _ _).mono ?_
          rintro e w1 ⟨rfl, rfl⟩
          rw [Hd.out]
          go_wp2
          go_round
          case rel => exact ⟨j + 1, by omega, by omega, by go_num, H.out⟩
          case measure => simp [intOf]; omega
        | false =>
          have E := STOP (hrun.trans (runTo_off hjl (by simp [wordN, hlj, hdj])))
          have Hp := hid hlj
          have Hd := hid hdj
          clear hrun hlj hdj STOP
          cases hkey : keyB (s.extract k j).data.toList with
          | true =>
            have H := hid (E.out.trans (by rw [hkey, if_pos rfl]))
            have Hk := hid hkey
            clear E hkey
            go_wp2_with fail
            refine (rletter_calls _ _).mono ?_
            rintro e w1 ⟨rfl, rfl⟩
            rw [Hp.out]
            go_wp2_with fail
            refine (rdigit_calls _ _).mono ?_
            rintro e w1 ⟨rfl, rfl⟩
            rw [Hd.out]
            go_wp2_with fail
            refine (refiskey_calls _ _).mono ?_
            rintro e w2 ⟨rfl, b2⟩
            rw [Hk.out]
            have B2 := hid (below_in b0.out (Nat.le_refl _) b2)
            have S2 := hid (slot4_on S0.out b2)
            have ⟨g0, c0, c1, c2, c3, f0, f1, f2, f3⟩ := S2.out
            clear b2 b0 S0
            go_wp2
            rw [H.out]
            exact bodyPost_ret (ret_rt rfl rfl (put4_cells S2.out _ _ _ _)) rfl ⟨rfl, put4 B2.out (Nat.le_refl _) _ _ _ _⟩
          | false =>
            cases hnm : nameB (s.extract k j).data.toList with
            | true =>
              have H := hid (E.out.trans (by rw [hkey, if_neg (by decide), hnm, if_pos rfl]))
              have Hk := hid hkey
              have Hn := hid hnm
              clear E hkey hnm
              go_wp2_with fail
              refine (rletter_calls _ _).mono ?_
              rintro e w1 ⟨rfl, rfl⟩
              rw [Hp.out]
              go_wp2_with fail
              refine (rdigit_calls _ _).mono ?_
              rintro e w1 ⟨rfl, rfl⟩
              rw [Hd.out]
              go_wp2_with fail
              refine (refiskey_calls _ _).mono ?_
              rintro e w2 ⟨rfl, b2⟩
              rw [Hk.out]
              have B2 := hid (below_in b0.out (Nat.le_refl _) b2)
              have S2 := hid (slot4_on S0.out b2)
              have ⟨g0, c0, c1, c2, c3, f0, f1, f2, f3⟩ := S2.out
              clear b2 b0 S0
              go_wp2_with fail
              refine (refisname_calls _ _).mono ?_
              rintro e w3 ⟨rfl, rfl⟩
              rw [Hn.out]
              go_wp2
              rw [H.out]
              exact bodyPost_ret (ret_rt rfl rfl (put4_cells S2.out _ _ _ _)) rfl ⟨rfl, put4 B2.out (Nat.le_refl _) _ _ _ _⟩
            | false =>
              have H := hid (E.out.trans (by rw [hkey, if_neg (by decide), hnm, if_neg (by decide)]))
              have Hk := hid hkey
              have Hn := hid hnm
              clear E hkey hnm
              go_wp2_with fail
              refine (rletter_calls _ _).mono ?_
              rintro e w1 ⟨rfl, rfl⟩
              rw [Hp.out]
              go_wp2_with fail
              refine (rdigit_calls _ _).mono ?_
              rintro e w1 ⟨rfl, rfl⟩
              rw [Hd.out]
              go_wp2_with fail
              refine (refiskey_calls _ _).mono ?_
              rintro e w2 ⟨rfl, b2⟩
              rw [Hk.out]
              have B2 := hid (below_in b0.out (Nat.le_refl _) b2)
              have S2 := hid (slot4_on S0.out b2)
              have ⟨g0, c0, c1, c2, c3, f0, f1, f2, f3⟩ := S2.out
              clear b2 b0 S0
              go_wp2_with fail
              refine (refisname_calls _ _).mono ?_
              rintro e w3 ⟨rfl, rfl⟩
              rw [Hn.out]
              go_wp2
              rw [H.out]
              exact bodyPost_ret (ret_rt rfl rfl (put4_cells S2.out _ _ _ _)) rfl ⟨rfl, put4 B2.out (Nat.le_refl _) _ _ _ _⟩
    · have E := STOP (hrun.trans (runTo_end (by omega)))
      clear hrun STOP
      cases hkey : keyB (s.extract k j).data.toList with
      | true =>
        have H := hid (E.out.trans (by rw [hkey, if_pos rfl]))
        have Hk := hid hkey
        clear E hkey
        go_wp2_with fail
        refine (refiskey_calls _ _).mono ?_
        rintro e w2 ⟨rfl, b2⟩
        rw [Hk.out]
        have B2 := hid (below_in b0.out (Nat.le_refl _) b2)
        have S2 := hid (slot4_on S0.out b2)
        have ⟨g0, c0, c1, c2, c3, f0, f1, f2, f3⟩ := S2.out
        clear b2 b0 S0
        go_wp2
        rw [H.out]
        exact bodyPost_ret (ret_rt rfl rfl (put4_cells S2.out _ _ _ _)) rfl ⟨rfl, put4 B2.out (Nat.le_refl _) _ _ _ _⟩
      | false =>
        cases hnm : nameB (s.extract k j).data.toList with
        | true =>
          have H := hid (E.out.trans (by rw [hkey, if_neg (by decide), hnm, if_pos rfl]))
          have Hk := hid hkey
          have Hn := hid hnm
          clear E hkey hnm
          go_wp2_with fail
          refine (refiskey_calls _ _).mono ?_
          rintro e w2 ⟨rfl, b2⟩
          rw [Hk.out]
          have B2 := hid (below_in b0.out (Nat.le_refl _) b2)
          have S2 := hid (slot4_on S0.out b2)
          have ⟨g0, c0, c1, c2, c3, f0, f1, f2, f3⟩ := S2.out
          clear b2 b0 S0
          go_wp2_with fail
          refine (refisname_calls _ _).mono ?_
          rintro e w3 ⟨rfl, rfl⟩
          rw [Hn.out]
          go_wp2
          rw [H.out]
          exact bodyPost_ret (ret_rt rfl rfl (put4_cells S2.out _ _ _ _)) rfl ⟨rfl, put4 B2.out (Nat.le_refl _) _ _ _ _⟩
        | false =>
          have H := hid (E.out.trans (by rw [hkey, if_neg (by decide), hnm, if_neg (by decide)]))
          have Hk := hid hkey
          have Hn := hid hnm
          clear E hkey hnm
          go_wp2_with fail
          refine (refiskey_calls _ _).mono ?_
          rintro e w2 ⟨rfl, b2⟩
          rw [Hk.out]
          have B2 := hid (below_in b0.out (Nat.le_refl _) b2)
          have S2 := hid (slot4_on S0.out b2)
          have ⟨g0, c0, c1, c2, c3, f0, f1, f2, f3⟩ := S2.out
          clear b2 b0 S0
          go_wp2_with fail
          refine (refisname_calls _ _).mono ?_
          rintro e w3 ⟨rfl, rfl⟩
          rw [Hn.out]
          go_wp2
          rw [H.out]
          exact bodyPost_ret (ret_rt rfl rfl (put4_cells S2.out _ _ _ _)) rfl ⟨rfl, put4 B2.out (Nat.le_refl _) _ _ _ _⟩

set_option maxHeartbeats 1600000 in
theorem refone_num (s : ByteArray) (hs : s.size ≤ 1000000) (k : Nat) (hk : k < s.size) (hl : letterN s[k].toNat = false) (hd : digitN s[k].toNat = true) (w : World) :
    Calls Tryd.prog 21 #[.string s, .int .i64 k] w fun e w' => e = TokOut.ending (oneOut (s.data.toList.drop k) k) ∧ Below w.heap.size w w' := by
  have b0 := hid ((Below.refl w.heap.size w).alloc (Nat.le_refl _) (.cells #[.int .i64 0, .string ⟨#[]⟩, .int .i64 0, .int .i64 0] 38))
  have S0 := hid (slot4_new w rfl 38)
  have hq : oneOut (s.data.toList.drop k) k = (if letterN s[k].toNat then wordOut (s.data.toList.drop k) k else if digitN s[k].toNat then numbOut (s.data.toList.drop k) k else if s[k].toNat = 34 then quoOut (s.data.toList.drop k) k else sgnOut (s.data.toList.drop k) k) := by
    rw [drop_byte s k hk]; rfl
  have hq := (hq.trans (by rw [hl, if_neg (by decide), hd, if_pos rfl]) : oneOut (s.data.toList.drop k) k = numbOut (s.data.toList.drop k) k)
  have Hl := hid hl
  have Hd := hid hd
  clear hl hd
  have hm1 := runTo_ge digitN s k
  have hm2 := runTo_le (p := digitN) (Nat.le_of_lt hk)
  conv at hq => rhs; unfold numbOut
  have hto : k + runL digitN (s.data.toList.drop k) = runTo digitN s k := rfl
  have hcut : (s.data.toList.drop k).take (runL digitN (s.data.toList.drop k)) = (s.extract k (runTo digitN s k)).data.toList := by
    rw [cut_list]; unfold runTo; rw [Nat.add_sub_cancel_left]
  rw [hcut, hto] at hq
  clear hto hcut
  have HQ := hid hq
  clear hq
  go_enter Tryd.func21, Tryd.ntmps21
  go_wp2_with fail
  refine (rletter_calls _ _).mono ?_
  rintro e w0 ⟨rfl, hw⟩
  rw [hw] at b0 S0
  clear hw
  rw [Hl.out]
  go_wp2_with fail
  refine (rdigit_calls _ _).mono ?_
  rintro e w00 ⟨rfl, rfl⟩
  rw [Hd.out]
  go_wp2_with fail
  go_loop [7] (fun i => ∃ j : Nat, k ≤ j ∧ j ≤ s.size ∧ i = .int .i64 j ∧ runTo digitN s k = runTo digitN s j) (fun i => s.size - (intOf i).toNat)
  case atStart => exact ⟨k, Nat.le_refl _, Nat.le_of_lt hk, rfl, rfl⟩
  case round =>
    obtain ⟨j, hkj, hj, rfl, hrun⟩ := hrel
    have STOP : runTo digitN s k = j → Hid (oneOut (s.data.toList.drop k) k = (if (readOut (s.extract k j).data.toList).2 = 0 then (⟨3, ⟨(digs (readOut (s.extract k j).data.toList).1).toArray⟩, (readOut (s.extract k j).data.toList).1, k⟩, j, 0) else (Tok.zero, k, (readOut (s.extract k j).data.toList).2))) := by
      intro h
      have := HQ.out
      rw [h] at this
      exact this
    clear HQ
    by_cases hjl : j < s.size
    · cases hdj : digitN s[j].toNat with
      | true =>
        have H := hid (hrun.trans (runTo_on hjl hdj))
        have Hp := hid hdj
        clear hrun hdj STOP
        go_wp2_with fail
        refine (rdigit_calls _ _).mono ?_
        rintro e w1 ⟨rfl, rfl⟩
        rw [Hp.out]
        go_wp2
        go_round
        case rel => exact ⟨j + 1, by omega, by omega, by go_num, H.out⟩
        case measure => simp [intOf]; omega
      | false =>
        have E := STOP (hrun.trans (runTo_off hjl hdj))
        have Hp := hid hdj
        clear hrun hdj STOP
        have he := readOut_err (s.extract k j).data.toList
        have hbd := readOut_bounds (s.extract k j).data.toList
        have hxs : (s.extract k j).size ≤ 4611686018427387903 := by rw [cut_size s hj]; omega
        generalize hr : readOut (s.extract k j).data.toList = r at *
        obtain ⟨n, e⟩ := r
        have Hr := hid hr
        clear hr
        simp only at he E hbd
        obtain ⟨n0, n1⟩ := hbd
        rcases (show e = 0 ∨ e ≠ 0 from by omega) with rfl | hne
        · have H := hid (E.out.trans (by rw [if_pos rfl]))
          clear E he
          go_wp2_with fail
          refine (rdigit_calls _ _).mono ?_
          rintro e w1 ⟨rfl, rfl⟩
          rw [Hp.out]
          go_wp2_with fail
          refine (refread_calls _ hxs _).mono ?_
          rintro e w1 ⟨rfl, rfl⟩
          rw [Hr.out]
          go_wp2_with fail
          refine (refdigits_calls n (by omega) (by omega) _).mono ?_
          rintro e w2 ⟨rfl, b2⟩
          have B2 := hid (below_in b0.out (Nat.le_refl _) b2)
          have S2 := hid (slot4_on S0.out b2)
          have ⟨g0, c0, c1, c2, c3, f0, f1, f2, f3⟩ := S2.out
          clear b2 b0 S0
          go_wp2
          rw [H.out]
          exact bodyPost_ret (ret_rt rfl rfl (put4_cells S2.out _ _ _ _)) rfl ⟨rfl, put4 B2.out (Nat.le_refl _) _ _ _ _⟩
        · have H := hid (E.out.trans (by rw [if_neg hne]))
          have en : (e != 0) = true := by rw [bne_iff_ne]; exact hne
          clear E hne
          have ⟨g0, c0, c1, c2, c3, f0, f1, f2, f3⟩ := S0.out
          go_wp2_with fail
          refine (rdigit_calls _ _).mono ?_
          rintro e w1 ⟨rfl, rfl⟩
          rw [Hp.out]
          go_wp2_with fail
          refine (refread_calls _ hxs _).mono ?_
          rintro e w1 ⟨rfl, rfl⟩
          rw [Hr.out]
          go_wp2
          rw [H.out]
          exact bodyPost_ret (ret_rt rfl rfl (put4_cells S0.out _ _ _ _)) rfl ⟨rfl, put4 b0.out (Nat.le_refl _) _ _ _ _⟩
    · have E := STOP (hrun.trans (runTo_end (by omega)))
      clear hrun STOP
      have he := readOut_err (s.extract k j).data.toList
      have hbd := readOut_bounds (s.extract k j).data.toList
      have hxs : (s.extract k j).size ≤ 4611686018427387903 := by rw [cut_size s hj]; omega
      generalize hr : readOut (s.extract k j).data.toList = r at *
      obtain ⟨n, e⟩ := r
      have Hr := hid hr
      clear hr
      simp only at he E hbd
      obtain ⟨n0, n1⟩ := hbd
      rcases (show e = 0 ∨ e ≠ 0 from by omega) with rfl | hne
      · have H := hid (E.out.trans (by rw [if_pos rfl]))
        clear E he
        go_wp2_with fail
        refine (refread_calls _ hxs _).mono ?_
        rintro e w1 ⟨rfl, rfl⟩
        rw [Hr.out]
        go_wp2_with fail
        refine (refdigits_calls n (by omega) (by omega) _).mono ?_
        rintro e w2 ⟨rfl, b2⟩
        have B2 := hid (below_in b0.out (Nat.le_refl _) b2)
        have S2 := hid (slot4_on S0.out b2)
        have ⟨g0, c0, c1, c2, c3, f0, f1, f2, f3⟩ := S2.out
        clear b2 b0 S0
        go_wp2
        rw [H.out]
        exact bodyPost_ret (ret_rt rfl rfl (put4_cells S2.out _ _ _ _)) rfl ⟨rfl, put4 B2.out (Nat.le_refl _) _ _ _ _⟩
      · have H := hid (E.out.trans (by rw [if_neg hne]))
        have en : (e != 0) = true := by rw [bne_iff_ne]; exact hne
        clear E hne
        have ⟨g0, c0, c1, c2, c3, f0, f1, f2, f3⟩ := S0.out
        go_wp2_with fail
        refine (refread_calls _ hxs _).mono ?_
        rintro e w1 ⟨rfl, rfl⟩
        rw [Hr.out]
        go_wp2
        rw [H.out]
        exact bodyPost_ret (ret_rt rfl rfl (put4_cells S0.out _ _ _ _)) rfl ⟨rfl, put4 b0.out (Nat.le_refl _) _ _ _ _⟩

set_option maxHeartbeats 1600000 in
theorem refone_quo (s : ByteArray) (hs : s.size ≤ 1000000) (k : Nat) (hk : k < s.size) (hl : letterN s[k].toNat = false) (hd : digitN s[k].toNat = false) (h34 : s[k].toNat = 34) (w : World) :
    Calls Tryd.prog 21 #[.string s, .int .i64 k] w fun e w' => e = TokOut.ending (oneOut (s.data.toList.drop k) k) ∧ Below w.heap.size w w' := by
  have b0 := hid ((Below.refl w.heap.size w).alloc (Nat.le_refl _) (.cells #[.int .i64 0, .string ⟨#[]⟩, .int .i64 0, .int .i64 0] 38))
  have S0 := hid (slot4_new w rfl 38)
  have hq : oneOut (s.data.toList.drop k) k = (if letterN s[k].toNat then wordOut (s.data.toList.drop k) k else if digitN s[k].toNat then numbOut (s.data.toList.drop k) k else if s[k].toNat = 34 then quoOut (s.data.toList.drop k) k else sgnOut (s.data.toList.drop k) k) := by
    rw [drop_byte s k hk]; rfl
  have hq := (hq.trans (by rw [hl, if_neg (by decide), hd, if_neg (by decide), if_pos h34]) : oneOut (s.data.toList.drop k) k = quoOut (s.data.toList.drop k) k)
  have Hl := hid hl
  have Hd := hid hd
  have e34 : ((s[k].toNat : Int) == 34) = true := beq_iff_eq.2 (by omega)
  clear hl hd h34
  have hn : (takeOut (s.data.toList.drop k)).2.1 ≤ 1000000 := by
    have := takeOut_le (s.data.toList.drop k)
    rw [List.length_drop, list_size] at this; omega
  have hb := takeOut_bad (s.data.toList.drop k)
  conv at hq => rhs; unfold quoOut
  have Ht := hid (show takeOut (s.extract k s.size).data.toList = takeOut (s.data.toList.drop k) by rw [rest_list])
  have hes : (s.extract k s.size).size ≤ 1000000 := by rw [cut_size s (Nat.le_refl _)]; omega
  generalize takeOut (s.data.toList.drop k) = o at *
  obtain ⟨x, n, e⟩ := o
  simp only at hn hb hq
  rcases hb with rfl | ⟨rfl, _, _⟩
  · by_cases hx : 256 < x.length
    · have H := hid (hq.trans (by rw [if_pos rfl, if_pos hx]))
      clear hq
      go_enter Tryd.func21, Tryd.ntmps21
      go_wp2_with fail
      refine (rletter_calls _ _).mono ?_
      rintro e w0 ⟨rfl, hw⟩
      rw [hw] at b0 S0
      clear hw
      rw [Hl.out]
      go_wp2_with fail
      refine (rdigit_calls _ _).mono ?_
      rintro e w00 ⟨rfl, rfl⟩
      rw [Hd.out]
      go_wp2_with fail
      refine (reftake_calls _ hes _).mono ?_
      rintro e w1 ⟨rfl, b2⟩
      rw [Ht.out]
      have B2 := hid (below_in b0.out (Nat.le_refl _) b2)
      have S2 := hid (slot4_on S0.out b2)
      have ⟨g0, c0, c1, c2, c3, f0, f1, f2, f3⟩ := S2.out
      clear b2 b0 S0 Ht
      go_wp2
      rw [H.out]
      exact bodyPost_ret (ret_rt rfl rfl (put4_cells S2.out _ _ _ _)) rfl ⟨rfl, put4 B2.out (Nat.le_refl _) _ _ _ _⟩
    · have H := hid (hq.trans (by rw [if_pos rfl, if_neg hx]))
      clear hq
      go_enter Tryd.func21, Tryd.ntmps21
      go_wp2_with fail
      refine (rletter_calls _ _).mono ?_
      rintro e w0 ⟨rfl, hw⟩
      rw [hw] at b0 S0
      clear hw
      rw [Hl.out]
      go_wp2_with fail
      refine (rdigit_calls _ _).mono ?_
      rintro e w00 ⟨rfl, rfl⟩
      rw [Hd.out]
      go_wp2_with fail
      refine (reftake_calls _ hes _).mono ?_
      rintro e w1 ⟨rfl, b2⟩
      rw [Ht.out]
      have B2 := hid (below_in b0.out (Nat.le_refl _) b2)
      have S2 := hid (slot4_on S0.out b2)
      have ⟨g0, c0, c1, c2, c3, f0, f1, f2, f3⟩ := S2.out
      clear b2 b0 S0 Ht
      go_wp2
      rw [H.out]
      exact bodyPost_ret (ret_rt rfl rfl (put4_cells S2.out _ _ _ _)) rfl ⟨rfl, put4 B2.out (Nat.le_refl _) _ _ _ _⟩
  · have H := hid (hq.trans (by rw [if_neg (by decide)]))
    clear hq
    go_enter Tryd.func21, Tryd.ntmps21
    go_wp2_with fail
    refine (rletter_calls _ _).mono ?_
    rintro e w0 ⟨rfl, hw⟩
    rw [hw] at b0 S0
    clear hw
    rw [Hl.out]
    go_wp2_with fail
    refine (rdigit_calls _ _).mono ?_
    rintro e w00 ⟨rfl, rfl⟩
    rw [Hd.out]
    go_wp2_with fail
    refine (reftake_calls _ hes _).mono ?_
    rintro e w1 ⟨rfl, b2⟩
    rw [Ht.out]
    have B2 := hid (below_in b0.out (Nat.le_refl _) b2)
    have S2 := hid (slot4_on S0.out b2)
    have ⟨g0, c0, c1, c2, c3, f0, f1, f2, f3⟩ := S2.out
    clear b2 b0 S0 Ht
    go_wp2
    rw [H.out]
    exact bodyPost_ret (ret_rt rfl rfl (put4_cells S2.out _ _ _ _)) rfl ⟨rfl, put4 B2.out (Nat.le_refl _) _ _ _ _⟩

theorem signL_two (l : List UInt8) : (signL l).length ≤ 2 := by
  have : ∀ L : List (List UInt8), (∀ x ∈ L, x.length ≤ 2) → ∀ l, (firstOf L l).length ≤ 2 := by
    intro L
    induction L with
    | nil => intro _ l; simp [firstOf]
    | cons x L ih =>
      intro hx l
      unfold firstOf
      split
      · exact hx x (by simp)
      · exact ih (fun y hy => hx y (by simp [hy])) l
  exact this sgnL (by decide) _

set_option maxHeartbeats 1600000 in
theorem refone_sgn (s : ByteArray) (hs : s.size ≤ 1000000) (k : Nat) (hk : k < s.size) (hl : letterN s[k].toNat = false) (hd : digitN s[k].toNat = false) (h34 : s[k].toNat ≠ 34) (w : World) :
    Calls Tryd.prog 21 #[.string s, .int .i64 k] w fun e w' => e = TokOut.ending (oneOut (s.data.toList.drop k) k) ∧ Below w.heap.size w w' := by
  have b0 := hid ((Below.refl w.heap.size w).alloc (Nat.le_refl _) (.cells #[.int .i64 0, .string ⟨#[]⟩, .int .i64 0, .int .i64 0] 38))
  have S0 := hid (slot4_new w rfl 38)
  have hq : oneOut (s.data.toList.drop k) k = (if letterN s[k].toNat then wordOut (s.data.toList.drop k) k else if digitN s[k].toNat then numbOut (s.data.toList.drop k) k else if s[k].toNat = 34 then quoOut (s.data.toList.drop k) k else sgnOut (s.data.toList.drop k) k) := by
    rw [drop_byte s k hk]; rfl
  have hq := (hq.trans (by rw [hl, if_neg (by decide), hd, if_neg (by decide), if_neg h34]) : oneOut (s.data.toList.drop k) k = sgnOut (s.data.toList.drop k) k)
  have Hl := hid hl
  have Hd := hid hd
  have e34 : ((s[k].toNat : Int) == 34) = false := beq_eq_false_iff_ne.2 (by omega)
  clear hl hd h34
  conv at hq => rhs; unfold sgnOut
  have h2 := signL_two (s.data.toList.drop k)
  generalize hx : signL (s.data.toList.drop k) = x at *
  have Hx := hid hx
  clear hx
  by_cases hz : x = []
  · subst hz
    have H := hid (hq.trans (by rw [if_pos rfl]))
    clear hq
    go_enter Tryd.func21, Tryd.ntmps21
    go_wp2_with fail
    refine (rletter_calls _ _).mono ?_
    rintro e w0 ⟨rfl, hw⟩
    rw [hw] at b0 S0
    clear hw
    rw [Hl.out]
    go_wp2_with fail
    refine (rdigit_calls _ _).mono ?_
    rintro e w00 ⟨rfl, rfl⟩
    rw [Hd.out]
    go_wp2_with fail
    refine (refsign_calls s hs k (Nat.le_of_lt hk) _).mono ?_
    rintro e w1 ⟨rfl, b2⟩
    rw [Hx.out]
    have B2 := hid (below_in b0.out (Nat.le_refl _) b2)
    have S2 := hid (slot4_on S0.out b2)
    have ⟨g0, c0, c1, c2, c3, f0, f1, f2, f3⟩ := S2.out
    clear b2 b0 S0
    go_wp2
    rw [H.out]
    exact bodyPost_ret (ret_rt rfl rfl (put4_cells S2.out _ _ _ _)) rfl ⟨rfl, put4 B2.out (Nat.le_refl _) _ _ _ _⟩
  · have H := hid (hq.trans (by rw [if_neg hz]))
    have Hz : x.isEmpty = false := by
      cases x with
      | nil => exact absurd rfl hz
      | cons => rfl
    clear hq hz
    go_enter Tryd.func21, Tryd.ntmps21
    go_wp2_with fail
    refine (rletter_calls _ _).mono ?_
    rintro e w0 ⟨rfl, hw⟩
    rw [hw] at b0 S0
    clear hw
    rw [Hl.out]
    go_wp2_with fail
    refine (rdigit_calls _ _).mono ?_
    rintro e w00 ⟨rfl, rfl⟩
    rw [Hd.out]
    go_wp2_with fail
    refine (refsign_calls s hs k (Nat.le_of_lt hk) _).mono ?_
    rintro e w1 ⟨rfl, b2⟩
    rw [Hx.out]
    have B2 := hid (below_in b0.out (Nat.le_refl _) b2)
    have S2 := hid (slot4_on S0.out b2)
    have ⟨g0, c0, c1, c2, c3, f0, f1, f2, f3⟩ := S2.out
    clear b2 b0 S0
    go_wp2
    rw [H.out]
    exact bodyPost_ret (ret_rt rfl rfl (put4_cells S2.out _ _ _ _)) rfl ⟨rfl, put4 B2.out (Nat.le_refl _) _ _ _ _⟩

theorem refone_calls (s : ByteArray) (hs : s.size ≤ 1000000) (k : Nat) (hk : k < s.size) (w : World) :
    Calls Tryd.prog 21 #[.string s, .int .i64 k] w fun e w' => e = TokOut.ending (oneOut (s.data.toList.drop k) k) ∧ Below w.heap.size w w' := by
  cases hl : letterN s[k].toNat with
  | true => exact refone_word s hs k hk hl w
  | false =>
    cases hd : digitN s[k].toNat with
    | true => exact refone_num s hs k hk hl hd w
    | false =>
      by_cases h34 : s[k].toNat = 34
      · exact refone_quo s hs k hk hl hd h34 w
      · exact refone_sgn s hs k hk hl hd h34 w

end Go.Proofs.YtffijiabaeipaaaDoor
