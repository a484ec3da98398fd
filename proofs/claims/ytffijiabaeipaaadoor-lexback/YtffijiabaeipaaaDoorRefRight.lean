/- Which tokens may be, as the document says. -/
import Derived.Test.YtffijiabaeipaaaDoorLexRight
import Derived.Test.YtffijiabaeipaaaDoorRefToks
namespace Go.Proofs.YtffijiabaeipaaaDoor
open Go.RowKit

theorem signs_texts (w : World) :
    Calls Tryd.prog 27 #[] w fun e w' => e = .returned (.slice (some ⟨w.heap.size, 0, none⟩) 25 25) ∧ Hid (Texts w.heap.size sgnL w') ∧ Below w.heap.size w w' :=
  (signs_calls w).mono fun _ _ h => ⟨h.1, h.2 ▸ texts_new w sgnL 9, h.2 ▸ (Below.refl w.heap.size w).alloc (Nat.le_refl _) _⟩
theorem has_below (g n : Nat) (L : List (List UInt8)) (hn : L.length = n) (hl : n ≤ 1000) (s : ByteArray) (w : World) (T : Hid (Texts g L w)) :
    Calls Tryd.prog 26 #[.slice (some ⟨g, 0, none⟩) n n, .string s] w fun e w' => e = .returned (.bool (inB L s.data.toList)) ∧ Below w.heap.size w w' :=
  (has_calls g n L hn hl s w T).mono fun _ _ h => ⟨h.1, h.2 ▸ Below.refl _ _⟩

set_option maxHeartbeats 1600000 in
theorem refright_sign (x : ByteArray) (p : Int) (w : World) :
    Calls Tryd.prog 13 #[.agg #[.int .i64 5, .string x, .int .i64 0, .int .i64 p]] w fun e w' => e = .returned (.bool (inB sgnL x.data.toList)) ∧ Below w.heap.size w w' := by
  have BX := hid (box4_new w (.int .i64 5) (.string x) (.int .i64 0) (.int .i64 p) 38)
  go_enter Tryd.func13, Tryd.ntmps13
  go_wp2_with fail
  go_region_held3 (fun w' => w.heap.size + 1 ≤ w'.heap.size ∧ Below w.heap.size w w' ∧ w'.cell? ⟨w.heap.size, 0, none⟩ = some (.int .i64 5) ∧ w'.cell? ⟨w.heap.size, 1, none⟩ = some (.string x) ∧ w'.cell? ⟨w.heap.size, 2, none⟩ = some (.int .i64 0) ∧ w'.cell? ⟨w.heap.size, 3, none⟩ = some (.int .i64 p))
    (first | exact box4_on (by assumption) bb | exact box4_on BX.out (Below.refl _ _).drew | exact box4_on (by assumption) (Below.refl _ _).drew)
    (first
      | (go_at_call 27; refine (signs_texts _).mono ?_; rintro e wx ⟨rfl, T, bb⟩)
      | (go_at_call 26; refine (has_below _ 25 sgnL rfl (by decide) x _ (by first | assumption | simpa using T)).mono ?_; rintro e wx ⟨rfl, bb⟩))
  rename_i hx
  go_wp2
  go_ret
  exact ⟨rfl, hx.2.1⟩

set_option maxHeartbeats 1600000 in
theorem refright_calls (k : Int) (x : ByteArray) (n p : Int) (n1 : -9223372036854775808 ≤ n) (n2 : n ≤ 9223372036854775807) (w : World) :
    Calls Tryd.prog 13 #[.agg #[.int .i64 k, .string x, .int .i64 n, .int .i64 p]] w fun e w' => e = .returned (.bool (rightTok ⟨k, x, n, p⟩)) ∧ Below w.heap.size w w' := by
  have BX := hid (box4_new w (.int .i64 k) (.string x) (.int .i64 n) (.int .i64 p) 38)
  have R := rightTok_eq k n p x
  rcases (show k = 3 ∨ k ≠ 3 from by omega) with rfl | h3
  · rw [if_pos rfl] at R
    rcases (show n < 0 ∨ (0 ≤ n ∧ 4611686018427387903 < n) ∨ (0 ≤ n ∧ n ≤ 4611686018427387903) from by omega) with hn | ⟨hn, hn2⟩ | ⟨hn, hn2⟩
    · have H := hid (R.trans (by rw [decide_eq_false (show ¬ 0 ≤ n by omega), Bool.false_and]))
      have d : decide (0 ≤ n) = false := decide_eq_false (by omega)
      clear R
      go_enter Tryd.func13, Tryd.ntmps13
      go_wp2
      go_quiet (fail)
      go_wp2
      go_ret
      exact ⟨by rw [H.out]; rfl, below_drewN BX.out.2.1 _⟩
    · have H := hid (R.trans (by rw [decide_eq_false (show ¬ n ≤ 4611686018427387903 by omega), Bool.false_and, Bool.and_false]))
      have d : decide (0 ≤ n) = true := decide_eq_true (by omega)
      have d2 : decide (n ≤ 4611686018427387903) = false := decide_eq_false (by omega)
      clear R
      go_enter Tryd.func13, Tryd.ntmps13
      go_wp2
      go_quiet (fail)
      go_wp2
      go_ret
      exact ⟨by rw [H.out]; rfl, below_drewN BX.out.2.1 _⟩
    · have H := hid (R.trans (by rw [decide_eq_true hn, decide_eq_true hn2, Bool.true_and, Bool.true_and]))
      have d : decide (0 ≤ n) = true := decide_eq_true (by omega)
      have d2 : decide (n ≤ 4611686018427387903) = true := decide_eq_true (by omega)
      have hq : (x.toList == digs n) = (x.data.toList == digs n) := by rw [Lib.toList_data]
      generalize (x.data.toList == digs n) = b at *
      clear R
      go_enter Tryd.func13, Tryd.ntmps13
      go_wp2_with fail
      go_region_held3 (fun w' => w.heap.size + 1 ≤ w'.heap.size ∧ Below w.heap.size w w' ∧ w'.cell? ⟨w.heap.size, 0, none⟩ = some (.int .i64 3) ∧ w'.cell? ⟨w.heap.size, 1, none⟩ = some (.string x) ∧ w'.cell? ⟨w.heap.size, 2, none⟩ = some (.int .i64 n) ∧ w'.cell? ⟨w.heap.size, 3, none⟩ = some (.int .i64 p))
        (first | exact box4_on (by assumption) bb | exact box4_on BX.out (Below.refl _ _).drew | exact box4_on (by assumption) (Below.refl _ _).drew)
        (first | (go_at_call 25; refine (refdigits_calls n n1 n2 _).mono ?_; rintro e wx ⟨rfl, bb⟩))
      rename_i hx
      go_wp2
      go_ret
      exact ⟨by rw [H.out]; rfl, hx.2.1⟩
  · rw [if_neg h3] at R
    have e3 : (k != 3) = true := by rw [bne_iff_ne]; exact h3
    by_cases hn : n = 0
    · subst hn
      have R2 := R.trans (by rw [if_pos rfl])
      clear R
      rcases (show k = 1 ∨ k = 2 ∨ k = 4 ∨ k = 5 ∨ k = 6 ∨ (k ≠ 1 ∧ k ≠ 2 ∧ k ≠ 4 ∧ k ≠ 5 ∧ k ≠ 6) from by omega) with rfl | rfl | rfl | rfl | rfl | ⟨h1, h2, h4, h5, h6⟩
      · have H := hid (R2.trans (show rightTx 1 x = (nameB x.data.toList && !keyB x.data.toList) from rfl))
        clear R2
        cases hnm : nameB x.data.toList with
        | true =>
          have Hn := hid hnm
          clear hnm
          go_enter Tryd.func13, Tryd.ntmps13
          go_wp2_with fail
          refine (refisname_calls _ _).mono ?_
          rintro e w1 ⟨rfl, hw⟩
          rw [hw] at BX
          obtain ⟨z, _, c0, c1, c2, c3⟩ := BX.out
          clear hw
          rw [Hn.out]
          go_wp2_with fail
          refine (refiskey_calls _ _).mono ?_
          rintro e w2 ⟨rfl, b2⟩
          have B := hid (box4_on BX.out b2)
          clear b2
          go_wp2
          go_ret
          exact ⟨by rw [H.out, Hn.out]; rfl, B.out.2.1⟩
        | false =>
          have Hn := hid hnm
          clear hnm
          go_enter Tryd.func13, Tryd.ntmps13
          go_wp2_with fail
          refine (refisname_calls _ _).mono ?_
          rintro e w1 ⟨rfl, hw⟩
          rw [hw] at BX
          clear hw
          rw [Hn.out]
          go_wp2
          go_ret
          exact ⟨by rw [H.out, Hn.out]; rfl, BX.out.2.1⟩
      · have H := hid (R2.trans (show rightTx 2 x = keyB x.data.toList from rfl))
        clear R2
        go_enter Tryd.func13, Tryd.ntmps13
        go_wp2_with fail
        refine (refiskey_calls _ _).mono ?_
        rintro e w1 ⟨rfl, b2⟩
        have B := hid (box4_on BX.out b2)
        clear b2
        go_wp2
        go_ret
        exact ⟨by rw [H.out]; rfl, B.out.2.1⟩
      · have H := hid (R2.trans (show rightTx 4 x = decide (x.size ≤ 256) from rfl))
        clear R2
        by_cases hx : x.size ≤ 256
        · have d : decide (x.size ≤ 256) = true := decide_eq_true hx
          have d2 : decide ((x.size : Int) ≤ 256) = true := decide_eq_true (by omega)
          go_enter Tryd.func13, Tryd.ntmps13
          go_wp2
          go_ret
          exact ⟨by rw [H.out, d]; rfl, BX.out.2.1⟩
        · have d : decide (x.size ≤ 256) = false := decide_eq_false hx
          have d2 : decide ((x.size : Int) ≤ 256) = false := decide_eq_false (by omega)
          go_enter Tryd.func13, Tryd.ntmps13
          go_wp2
          go_ret
          exact ⟨by rw [H.out, d]; rfl, BX.out.2.1⟩
      · have H := hid (R2.trans (show rightTx 5 x = inB sgnL x.data.toList from rfl))
        exact (refright_sign x p w).mono fun e w' h => ⟨by rw [H.out]; exact h.1, h.2⟩
      · have H := hid (R2.trans (show rightTx 6 x = x.data.toList.isEmpty from rfl))
        clear R2
        cases hx : x.data.toList.isEmpty with
        | true =>
          have hx2 : x.toList.isEmpty = true := by rw [Lib.toList_data]; exact hx
          have Hx := hid hx
          clear hx
          go_enter Tryd.func13, Tryd.ntmps13
          go_wp2
          go_ret
          exact ⟨by rw [H.out, Hx.out]; rfl, BX.out.2.1⟩
        | false =>
          have hx2 : x.toList.isEmpty = false := by rw [Lib.toList_data]; exact hx
          have Hx := hid hx
          clear hx
          go_enter Tryd.func13, Tryd.ntmps13
          go_wp2
          go_ret
          exact ⟨by rw [H.out, Hx.out]; rfl, BX.out.2.1⟩
      · have H := hid (R2.trans (show rightTx k x = false by unfold rightTx; rw [if_neg h1, if_neg h2, if_neg h4, if_neg h5, if_neg h6]))
        clear R2
        have e1 : (k == 1) = false := beq_eq_false_iff_ne.2 h1
        have e2 : (k == 2) = false := beq_eq_false_iff_ne.2 h2
        have f3 : (k == 3) = false := beq_eq_false_iff_ne.2 h3
        have e4 : (k == 4) = false := beq_eq_false_iff_ne.2 h4
        have e5 : (k == 5) = false := beq_eq_false_iff_ne.2 h5
        have e6 : (k == 6) = false := beq_eq_false_iff_ne.2 h6
        go_enter Tryd.func13, Tryd.ntmps13
        go_wp2
        go_ret
        exact ⟨by rw [H.out]; rfl, BX.out.2.1⟩
    · have H := hid (R.trans (by rw [if_neg hn]))
      have en : (n != 0) = true := by rw [bne_iff_ne]; exact hn
      clear R
      go_enter Tryd.func13, Tryd.ntmps13
      go_wp2
      go_ret
      exact ⟨by rw [H.out]; rfl, BX.out.2.1⟩

end Go.Proofs.YtffijiabaeipaaaDoor
