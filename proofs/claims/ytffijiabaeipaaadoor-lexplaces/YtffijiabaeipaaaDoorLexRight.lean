/- Which tokens may be. -/
import Derived.Test.YtffijiabaeipaaaDoorLexWorks
import Derived.Deep.RegionHeld3
namespace Go.Proofs.YtffijiabaeipaaaDoor
open Go.RowKit

/-- a token in a block of the call's own, below it nothing turned -/
abbrev Box4 (w : World) (x y z q : Value) (a : World) : Prop :=
  w.heap.size + 1 ≤ a.heap.size ∧ Below w.heap.size w a ∧ a.cell? ⟨w.heap.size, 0, none⟩ = some x ∧ a.cell? ⟨w.heap.size, 1, none⟩ = some y ∧ a.cell? ⟨w.heap.size, 2, none⟩ = some z ∧ a.cell? ⟨w.heap.size, 3, none⟩ = some q
theorem box4_new (w : World) (x y z q : Value) (t : TypeId) : Box4 w x y z q (w.alloc (Obj.cells #[x, y, z, q] t)) :=
  ⟨by simp, (Below.refl _ _).alloc (Nat.le_refl _) _, by simp, by simp, by simp, by simp⟩
theorem box4_on {w a b : World} {x y z q : Value} (h : Box4 w x y z q a) (k : Below a.heap.size a b) : Box4 w x y z q b := by
  obtain ⟨h1, h2, h3, h4, h5, h6⟩ := h
  exact ⟨Nat.le_trans h1 k.size, below_on h2 k, cell_stays k (show w.heap.size < a.heap.size by omega) h3, cell_stays k (show w.heap.size < a.heap.size by omega) h4,
    cell_stays k (show w.heap.size < a.heap.size by omega) h5, cell_stays k (show w.heap.size < a.heap.size by omega) h6⟩

/-- of the Text of a token that is no number -/
def rightTx (k : Int) (x : ByteArray) : Bool :=
  if k = 1 then nameB x.data.toList && !keyB x.data.toList
  else if k = 2 then keyB x.data.toList
  else if k = 4 then decide (x.size ≤ 256)
  else if k = 5 then sgnL.contains x.data.toList
  else if k = 6 then x.data.toList.isEmpty else false
theorem rightTok_eq (k n p : Int) (x : ByteArray) : rightTok ⟨k, x, n, p⟩ = (if k = 3 then decide (0 ≤ n) && (decide (n ≤ 4611686018427387903) && (x.data.toList == digs n)) else if n = 0 then rightTx k x else false) := rfl

theorem firstOf_mem : ∀ (L : List (List UInt8)) (l : List UInt8), firstOf L l = [] ∨ firstOf L l ∈ L
  | [], _ => .inl rfl
  | x :: L, l => by
    unfold firstOf
    split
    · right; simp
    · rcases firstOf_mem L l with h | h
      · exact .inl h
      · right; simp [h]
theorem sgn_self (l : List UInt8) (h : l ≠ []) : (signL l == l) = sgnL.contains l := by
  rw [Bool.eq_iff_iff, beq_iff_eq, List.contains_iff_mem]
  constructor
  · intro e
    rcases firstOf_mem sgnL l with h1 | h1
    · exact absurd (e.symm.trans h1) h
    · rw [← e]; exact h1
  · intro hm
    have : ∀ x ∈ sgnL, signL x = x := by decide
    exact this l hm
theorem sgn_empty : sgnL.contains ([] : List UInt8) = false := by decide

theorem longest_same (s : ByteArray) (w : World) (SG : Hid (Texts 0 sgnL w)) :
    Calls Tryd.prog 51 #[.string s] w fun e w' => e = .returned (.string ⟨(signL s.data.toList).toArray⟩) ∧ w' = w :=
  (longest_calls s w SG).mono fun _ _ h => ⟨h.1, h.2.symm⟩

set_option maxHeartbeats 800000 in
theorem rightText_calls (k : Int) (x : ByteArray) (n p : Int) (w : World) (h0 : 0 < w.heap.size) (SG : Hid (Texts 0 sgnL w)) :
    Calls Tryd.prog 23 #[.agg #[.int .i64 k, .string x, .int .i64 n, .int .i64 p]] w fun e w' => e = .returned (.bool (rightTx k x)) ∧ Below w.heap.size w w' := by
  have BX := hid (box4_new w (.int .i64 k) (.string x) (.int .i64 n) (.int .i64 p) 36)
  have SG1 := hid (texts_on SG.out h0 BX.out.2.1)
  clear SG
  rcases (show k = 1 ∨ k = 2 ∨ k = 4 ∨ k = 5 ∨ k = 6 ∨ (k ≠ 1 ∧ k ≠ 2 ∧ k ≠ 4 ∧ k ≠ 5 ∧ k ≠ 6) from by omega) with rfl | rfl | rfl | rfl | rfl | ⟨h1, h2, h4, h5, h6⟩
  · have H := hid (show rightTx 1 x = (nameB x.data.toList && !keyB x.data.toList) from rfl)
    cases hnm : nameB x.data.toList with
    | true =>
      have Hn := hid hnm
      go_enter Tryd.func23, Tryd.ntmps23
      go_wp2_with fail
      refine (isname_calls _ _).mono ?_
      rintro e w1 ⟨rfl, hw⟩
      rw [hw] at BX
      obtain ⟨z, _, c0, c1, c2, c3⟩ := BX.out
      clear hw
      rw [Hn.out]
      go_wp2_with fail
      refine (iskey_calls _ _).mono ?_
      rintro e w2 ⟨rfl, rfl⟩
      go_wp2
      go_ret
      exact ⟨by rw [H.out, Hn.out]; rfl, BX.out.2.1⟩
    | false =>
      have Hn := hid hnm
      go_enter Tryd.func23, Tryd.ntmps23
      go_wp2_with fail
      refine (isname_calls _ _).mono ?_
      rintro e w1 ⟨rfl, hw⟩
      rw [hw] at BX
      clear hw
      rw [Hn.out]
      go_wp2
      go_ret
      exact ⟨by rw [H.out, Hn.out]; rfl, BX.out.2.1⟩
  · have H := hid (show rightTx 2 x = keyB x.data.toList from rfl)
    go_enter Tryd.func23, Tryd.ntmps23
    go_wp2_with fail
    refine (iskey_calls _ _).mono ?_
    rintro e w1 ⟨rfl, hw⟩
    rw [hw] at BX
    clear hw
    go_wp2
    go_ret
    exact ⟨by rw [H.out]; rfl, BX.out.2.1⟩
  · have H := hid (show rightTx 4 x = decide (x.size ≤ 256) from rfl)
    by_cases hx : x.size ≤ 256
    · have d : decide (x.size ≤ 256) = true := decide_eq_true hx
      have d2 : decide ((x.size : Int) ≤ 256) = true := decide_eq_true (by omega)
      go_enter Tryd.func23, Tryd.ntmps23
      go_wp2
      go_ret
      exact ⟨by rw [H.out, d]; rfl, BX.out.2.1⟩
    · have d : decide (x.size ≤ 256) = false := decide_eq_false hx
      have d2 : decide ((x.size : Int) ≤ 256) = false := decide_eq_false (by omega)
      go_enter Tryd.func23, Tryd.ntmps23
      go_wp2
      go_ret
      exact ⟨by rw [H.out, d]; rfl, BX.out.2.1⟩
  · by_cases hz : x.data.toList = []
    · have H := hid (show rightTx 5 x = false by
        show sgnL.contains x.data.toList = false
        rw [hz]; exact sgn_empty)
      have hx2 : x.toList.isEmpty = true := by rw [Lib.toList_data, hz]; rfl
      clear hz
      go_enter Tryd.func23, Tryd.ntmps23
      go_wp2
      go_quiet (fail)
      go_wp2
      go_ret
      exact ⟨by rw [H.out]; rfl, below_drewN BX.out.2.1 _⟩
    · have H := hid (show rightTx 5 x = (signL x.data.toList == x.data.toList) from (sgn_self _ hz).symm)
      have hx2 : x.toList.isEmpty = false := by
        rw [Lib.toList_data]
        cases hq : x.data.toList with
        | nil => exact absurd hq hz
        | cons => rfl
      clear hz
      have hq2 : (signL x.data.toList == x.toList) = (signL x.data.toList == x.data.toList) := by rw [Lib.toList_data]
      generalize (signL x.data.toList == x.data.toList) = b at *
      go_enter Tryd.func23, Tryd.ntmps23
      go_wp2
      go_quiet ((go_at_call 51; refine Calls.quiet_of_same (longest_same x _ ?_); exact hid fun i h => SG1.out i h))
      go_wp2
      go_ret
      exact ⟨by rw [H.out]; rfl, below_drewN BX.out.2.1 _⟩
  · have H := hid (show rightTx 6 x = x.data.toList.isEmpty from rfl)
    cases hx : x.data.toList.isEmpty with
    | true =>
      have hx2 : x.toList.isEmpty = true := by rw [Lib.toList_data]; exact hx
      have Hx := hid hx
      clear hx
      go_enter Tryd.func23, Tryd.ntmps23
      go_wp2
      go_ret
      exact ⟨by rw [H.out, Hx.out]; rfl, BX.out.2.1⟩
    | false =>
      have hx2 : x.toList.isEmpty = false := by rw [Lib.toList_data]; exact hx
      have Hx := hid hx
      clear hx
      go_enter Tryd.func23, Tryd.ntmps23
      go_wp2
      go_ret
      exact ⟨by rw [H.out, Hx.out]; rfl, BX.out.2.1⟩
  · have H := hid (show rightTx k x = false by unfold rightTx; rw [if_neg h1, if_neg h2, if_neg h4, if_neg h5, if_neg h6])
    have e1 : (k == 1) = false := beq_eq_false_iff_ne.2 h1
    have e2 : (k == 2) = false := beq_eq_false_iff_ne.2 h2
    have e4 : (k == 4) = false := beq_eq_false_iff_ne.2 h4
    have e5 : (k == 5) = false := beq_eq_false_iff_ne.2 h5
    have e6 : (k == 6) = false := beq_eq_false_iff_ne.2 h6
    go_enter Tryd.func23, Tryd.ntmps23
    go_wp2
    go_ret
    exact ⟨by rw [H.out]; rfl, BX.out.2.1⟩

set_option maxHeartbeats 1600000 in
theorem right_calls (k : Int) (x : ByteArray) (n p : Int) (n1 : -9223372036854775808 ≤ n) (n2 : n ≤ 9223372036854775807) (w : World) (h0 : 0 < w.heap.size) (SG : Hid (Texts 0 sgnL w)) :
    Calls Tryd.prog 12 #[.agg #[.int .i64 k, .string x, .int .i64 n, .int .i64 p]] w fun e w' => e = .returned (.bool (rightTok ⟨k, x, n, p⟩)) ∧ Below w.heap.size w w' := by
  have BX := hid (box4_new w (.int .i64 k) (.string x) (.int .i64 n) (.int .i64 p) 36)
  have SG1 := hid (texts_on SG.out h0 BX.out.2.1)
  have hz1 : 0 < (w.alloc (.cells #[.int .i64 k, .string x, .int .i64 n, .int .i64 p] 36)).heap.size := by simp
  clear SG
  have R := rightTok_eq k n p x
  rcases (show k = 3 ∨ k ≠ 3 from by omega) with rfl | h3
  · rw [if_pos rfl] at R
    clear SG1 hz1
    rcases (show n < 0 ∨ (0 ≤ n ∧ 4611686018427387903 < n) ∨ (0 ≤ n ∧ n ≤ 4611686018427387903) from by omega) with hn | ⟨hn, hn2⟩ | ⟨hn, hn2⟩
    · have H := hid (R.trans (by rw [decide_eq_false (show ¬ 0 ≤ n by omega), Bool.false_and]))
      have d : decide (0 ≤ n) = false := decide_eq_false (by omega)
      clear R
      go_enter Tryd.func12, Tryd.ntmps12
      go_wp2
      go_quiet (fail)
      go_wp2
      go_ret
      exact ⟨by rw [H.out]; rfl, below_drewN BX.out.2.1 _⟩
    · have H := hid (R.trans (by rw [decide_eq_false (show ¬ n ≤ 4611686018427387903 by omega), Bool.false_and, Bool.and_false]))
      have d : decide (0 ≤ n) = true := decide_eq_true (by omega)
      have d2 : decide (n ≤ 4611686018427387903) = false := decide_eq_false (by omega)
      clear R
      go_enter Tryd.func12, Tryd.ntmps12
      go_wp2
      go_quiet (fail)
      go_wp2
      go_ret
      exact ⟨by rw [H.out]; rfl, below_drewN BX.out.2.1 _⟩
    · have H := hid (R.trans (by rw [decide_eq_true hn, decide_eq_true hn2, Bool.true_and, Bool.true_and]))
      have d : decide (0 ≤ n) = true := decide_eq_true (by omega)
      have d2 : decide (n ≤ 4611686018427387903) = true := decide_eq_true (by omega)
      have hq : (x.toList == digs n) = (x.data.toList == digs n) := by rw [Lib.toList_data]
      generalize (x.data.toList == digs n) = b at *
      clear R
      go_enter Tryd.func12, Tryd.ntmps12
      go_wp2_with fail
      go_region_held3 (fun w' => w.heap.size + 1 ≤ w'.heap.size ∧ Below w.heap.size w w' ∧ w'.cell? ⟨w.heap.size, 0, none⟩ = some (.int .i64 3) ∧ w'.cell? ⟨w.heap.size, 1, none⟩ = some (.string x) ∧ w'.cell? ⟨w.heap.size, 2, none⟩ = some (.int .i64 n) ∧ w'.cell? ⟨w.heap.size, 3, none⟩ = some (.int .i64 p))
        (first | exact box4_on (by assumption) bb | exact box4_on BX.out (Below.refl _ _).drew | exact box4_on (by assumption) (Below.refl _ _).drew)
        (first | (go_at_call 22; refine (digits_calls n n1 n2 _).mono ?_; rintro e wx ⟨rfl, bb⟩))
      rename_i hx
      go_wp2
      go_ret
      exact ⟨by rw [H.out]; rfl, hx.2.1⟩
  · rw [if_neg h3] at R
    have e3 : (k == 3) = false := beq_eq_false_iff_ne.2 h3
    by_cases hn : n = 0
    · subst hn
      have H := hid (R.trans (by rw [if_pos rfl]))
      clear R
      go_enter Tryd.func12, Tryd.ntmps12
      go_wp2_with fail
      refine (rightText_calls k x 0 p _ hz1 SG1).mono ?_
      rintro e w1 ⟨rfl, b1⟩
      have B := hid (box4_on BX.out b1)
      clear b1 BX SG1
      go_wp2
      go_ret
      exact ⟨by rw [H.out]; rfl, B.out.2.1⟩
    · have H := hid (R.trans (by rw [if_neg hn]))
      have en : (n == 0) = false := beq_eq_false_iff_ne.2 hn
      clear R
      go_enter Tryd.func12, Tryd.ntmps12
      go_wp2
      go_ret
      exact ⟨by rw [H.out]; rfl, BX.out.2.1⟩

end Go.Proofs.YtffijiabaeipaaaDoor
