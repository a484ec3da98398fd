/- All tokens of a text, as the document reads them. -/
import Derived.Test.YtffijiabaeipaaaDoorRefOne
namespace Go.Proofs.YtffijiabaeipaaaDoor
open Go.RowKit

set_option maxHeartbeats 1600000 in
theorem reftokens_calls (s : ByteArray) (hs : s.size ≤ 1000000) (w : World) :
    Calls Tryd.prog 9 #[.string s] w fun e w' => ∃ v, e = tokEnding v (tokOut s) ∧ Row 38 w.heap.size v (tokOut s).1 w' ∧ Below w.heap.size w w' := by
  by_cases hlong : 2000 < s.size
  · have H := hid (show tokOut s = ([], 0, 3) by unfold tokOut; rw [if_pos hlong])
    go_enter Tryd.func9, Tryd.ntmps9
    go_wp2
    go_ret3
    exact ⟨.slice none 0 0, by rw [H.out]; rfl, by rw [H.out]; exact row_nil _ _ _, Below.refl _ _⟩
  have hgo : tokOut s = tokGo s (s.size + 1) (skipTo false s 0) [] := by unfold tokOut; rw [if_neg hlong]
  generalize tokOut s = out at *
  have hk0 := skipTo_le (f := false) (s := s) (k := 0) (Nat.zero_le _)
  generalize hk : skipTo false s 0 = k0 at *
  have Hk := hid hk
  have HG := hid hgo
  clear hk hgo
  go_enter Tryd.func9, Tryd.ntmps9
  go_wp2_with fail
  refine (refskip_calls s hs 0 (Nat.zero_le _) _).mono ?_
  rintro e w1 ⟨rfl, rfl⟩
  rw [Hk.out]
  clear Hk
  go_wp2
  go_loopw [5, 6] (fun l i wr => ∃ (j f : Nat) (acc : List Tok), j ≤ s.size ∧ i = .int .i64 j ∧ acc.length ≤ 600 ∧ s.size < j + f ∧ out = tokGo s f j acc ∧ Row 38 w.heap.size l acc wr ∧ Below w.heap.size w wr) (fun _ i _ => s.size - (intOf i).toNat)
  case atStart => exact ⟨k0, s.size + 1, [], hk0, rfl, by decide, by omega, HG.out, row_nil _ _ _, Below.refl _ _⟩
  case round =>
    clear HG
    obtain ⟨j, f, acc, hj, rfl, hacc, hf, hout, hrow, hbel⟩ := hrel
    obtain ⟨f, rfl⟩ : ∃ f', f = f' + 1 := ⟨f - 1, by omega⟩
    obtain ⟨ao, cap, rfl⟩ := row_shape hrow
    have R := hid hrow
    have B := hid hbel
    have hsz : w.heap.size ≤ wr.heap.size := hbel.size
    clear hrow hbel
    by_cases hjl : j < s.size
    · have hto := fun h => one_to (s := s) (k := j) hj h
      have hbad := fun he => hout.trans (tokGo_bad (acc := acc) (f := f) hjl rfl he)
      have hfull := fun he hf => hout.trans (tokGo_full (acc := acc) (f := f) hjl rfl he hf)
      have hmore := fun he hf => hout.trans (tokGo_more (acc := acc) (f := f) hjl rfl he hf)
      generalize ho : oneOut (s.data.toList.drop j) j = o at *
      obtain ⟨⟨t0, t1, t2, t3⟩, n, er⟩ := o
      have Ho := hid ho
      clear ho hout
      simp only at hto hbad hfull hmore
      rcases (show er = 0 ∨ er ≠ 0 from by omega) with rfl | hne
      · have hto1 := hto rfl
        by_cases h600 : acc.length = 600
        · have H := hid (hfull rfl h600)
          have e6 : ((acc.length : Int) == 600) = true := beq_iff_eq.2 (by omega)
          clear hbad hfull hmore hto
          go_wp2_with fail
          refine (refone_calls s hs j hjl _).mono ?_
          rintro e w1 ⟨rfl, b1⟩
          rw [Ho.out]
          have B1 := hid (below_in B.out (Nat.le_refl _) b1)
          clear b1 R B
          unfold TokOut.ending Tok.val
          go_wp2
          go_ret3
          exact ⟨.slice none 0 0, by rw [H.out]; rfl, by rw [H.out]; exact row_nil _ _ _, B1.out.alloc B1.out.size _⟩
        · have H := hid (hmore rfl h600)
          have e6 : ((acc.length : Int) == 600) = false := beq_eq_false_iff_ne.2 (by omega)
          have hq1 := skipTo_ge false s n
          have hq2 := skipTo_le (f := false) hto1.2
          clear hbad hfull hmore hto
          go_wp2_with fail
          refine (refone_calls s hs j hjl _).mono ?_
          rintro e w1 ⟨rfl, b1⟩
          rw [Ho.out]
          have b2 := (Below.refl w1.heap.size w1).alloc (Nat.le_refl _) (.cells #[.int .i64 t0, .string t1, .int .i64 t2, .int .i64 t3] 38)
          have B1 := hid (below_in (below_in B.out (Nat.le_refl _) b1) (Nat.le_refl _) b2)
          have R1 := hid (row_on (row_on R.out b1) b2)
          have hsz1 : w.heap.size ≤ (w1.alloc (.cells #[.int .i64 t0, .string t1, .int .i64 t2, .int .i64 t3] 38)).heap.size := B1.out.size
          clear b1 b2 R B
          unfold TokOut.ending Tok.val
          go_wp2_with (at_builtin; refine wp_rapp rfl _ _ rfl w.heap.size acc ⟨t0, t1, t2, t3⟩ _ rfl _ (by rfl) R1.out _ (by rfl) (by simp) (by omega) hsz1 ?_)
          intro v' w2 R2 b2
          have R3 := hid R2
          have B3 := hid (B1.out.trans b2)
          clear R1 B1 R2 b2 hsz1
          go_wp2_with fail
          refine (refskip_calls s hs n hto1.2 _).mono ?_
          rintro e w3 ⟨rfl, rfl⟩
          generalize skipTo false s n = q at *
          go_wp2
          go_roundw
          case rel => exact ⟨q, f, acc ++ [⟨t0, t1, t2, t3⟩], hq2, rfl, by simp; omega, by omega, H.out, R3.out, B3.out⟩
          case measure => simp [intOf]; omega
      · have H := hid (hbad hne)
        have en : (er != 0) = true := by rw [bne_iff_ne]; exact hne
        clear hbad hfull hmore hto
        go_wp2_with fail
        refine (refone_calls s hs j hjl _).mono ?_
        rintro e w1 ⟨rfl, b1⟩
        rw [Ho.out]
        have B1 := hid (below_in B.out (Nat.le_refl _) b1)
        clear b1 R B
        unfold TokOut.ending Tok.val
        go_wp2
        go_ret3
        exact ⟨.slice none 0 0, by rw [H.out]; rfl, by rw [H.out]; exact row_nil _ _ _, B1.out.alloc B1.out.size _⟩
    · have H := hid (hout.trans (tokGo_end (by omega)))
      clear hout
      go_wp2_with (at_builtin; refine wp_rapp rfl _ _ rfl w.heap.size acc ⟨6, ⟨#[]⟩, 0, s.size⟩ _ rfl _ (by rfl) R.out _ (by rfl) (by simp) (by omega) hsz ?_)
      intro v' w2 R2 B2
      go_wp2
      go_ret3
      exact ⟨v', by rw [H.out]; rfl, by rw [H.out]; exact R2, B.out.trans B2⟩

end Go.Proofs.YtffijiabaeipaaaDoor
