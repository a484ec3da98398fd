/- How tight a sign is; a node that is one word. -/
import Derived.Test.YtlnllpehifkjhaaDoorNdMem
import Derived.Test.YtlnllpehifkjhaaDoorNdText
import Derived.Test.YtlnllpehifkjhaaDoorDig
import Derived.Test.YtlnllpehifkjhaaDoorTxtQuote
namespace Go.Proofs.YtlnllpehifkjhaaDoor
open Go.RowKit

def signRankT (o : Int) : Int := if o = 10 ∨ o = 11 then 3 else if 6 ≤ o ∧ o ≤ 9 then 4 else if o = 1 ∨ o = 2 then 5 else if 3 ≤ o ∧ o ≤ 5 then 6 else 9

theorem signrank_calls (o : Int) (w : World) :
    Calls Tryd.prog 98 #[.int .i64 o] w fun e w' => e = .returned (.int .i64 (signRankT o)) ∧ w = w' := by
  by_cases h : 1 ≤ o ∧ o ≤ 11
  · obtain rfl | rfl | rfl | rfl | rfl | rfl | rfl | rfl | rfl | rfl | rfl : o = 1 ∨ o = 2 ∨ o = 3 ∨ o = 4 ∨ o = 5 ∨ o = 6 ∨ o = 7 ∨ o = 8 ∨ o = 9 ∨ o = 10 ∨ o = 11 := by omega
    all_goals
      clear h
      go_enter Tryd.func98, Tryd.ntmps98
      go_wp2_with fail
      go_ret
      exact ⟨rfl, rfl⟩
  · have H := hid (show signRankT o = 9 by unfold signRankT; rw [if_neg (by omega), if_neg (by omega), if_neg (by omega), if_neg (by omega)])
    have e1 : (o == 1) = false := beq_eq_false_iff_ne.2 (by omega)
    have e2 : (o == 2) = false := beq_eq_false_iff_ne.2 (by omega)
    have e3 : (o == 3) = false := beq_eq_false_iff_ne.2 (by omega)
    have e4 : (o == 4) = false := beq_eq_false_iff_ne.2 (by omega)
    have e5 : (o == 5) = false := beq_eq_false_iff_ne.2 (by omega)
    have e6 : (o == 6) = false := beq_eq_false_iff_ne.2 (by omega)
    have e7 : (o == 7) = false := beq_eq_false_iff_ne.2 (by omega)
    have e8 : (o == 8) = false := beq_eq_false_iff_ne.2 (by omega)
    have e9 : (o == 9) = false := beq_eq_false_iff_ne.2 (by omega)
    have e10 : (o == 10) = false := beq_eq_false_iff_ne.2 (by omega)
    have e11 : (o == 11) = false := beq_eq_false_iff_ne.2 (by omega)
    clear h
    go_enter Tryd.func98, Tryd.ntmps98
    go_wp2_with fail
    go_ret
    exact ⟨by rw [H.out]; rfl, rfl⟩

theorem rank_calls (k o n : Int) (s : ByteArray) (a1 : Option Addr) (c1 q1 : Nat) (a2 : Option Addr) (c2 q2 : Nat) (p : Int) (w : World) :
    Calls Tryd.prog 93 #[.agg #[.int .i64 k, .int .i64 o, .int .i64 n, .string s, .slice a1 c1 q1, .slice a2 c2 q2, .int .i64 p]] w fun e w' =>
      e = .returned (.int .i64 (rankT k o)) ∧ Below w.heap.size w w' := by
  have AL := hid (box1_below w (.cells #[.int .i64 k, .int .i64 o, .int .i64 n, .string s, .slice a1 c1 q1, .slice a2 c2 q2, .int .i64 p] 25))
  by_cases h : 9 ≤ k ∧ k ≤ 16
  · obtain rfl | rfl | rfl | rfl | rfl | rfl | rfl | rfl : k = 10 ∨ k = 9 ∨ k = 11 ∨ k = 12 ∨ k = 13 ∨ k = 14 ∨ k = 15 ∨ k = 16 := by omega
    · have H := hid (show rankT 10 o = signRankT o by unfold rankT signRankT; rfl)
      go_enter Tryd.func93, Tryd.ntmps93
      go_wp2_with fail
      refine (signrank_calls o _).mono ?_
      rintro e w1 ⟨rfl, rfl⟩
      go_wp2_with fail
      go_ret
      exact ⟨by rw [H.out]; rfl, AL.out⟩
    all_goals
      clear h
      go_enter Tryd.func93, Tryd.ntmps93
      go_wp2_with fail
      go_ret
      exact ⟨rfl, AL.out⟩
  · have e9 : (k == 9) = false := beq_eq_false_iff_ne.2 (by omega)
    have e10 : (k == 10) = false := beq_eq_false_iff_ne.2 (by omega)
    have e11 : (k == 11) = false := beq_eq_false_iff_ne.2 (by omega)
    have e12 : (k == 12) = false := beq_eq_false_iff_ne.2 (by omega)
    have e13 : (k == 13) = false := beq_eq_false_iff_ne.2 (by omega)
    have e14 : (k == 14) = false := beq_eq_false_iff_ne.2 (by omega)
    have e15 : (k == 15) = false := beq_eq_false_iff_ne.2 (by omega)
    have e16 : (k == 16) = false := beq_eq_false_iff_ne.2 (by omega)
    have H := hid (show rankT k o = if 1 ≤ k ∧ k ≤ 20 then 9 else 0 by unfold rankT; rw [if_neg (by omega), if_neg (by omega), if_neg (by omega), if_neg (by omega), if_neg (by omega)])
    by_cases h1 : 1 ≤ k
    · by_cases h2 : k ≤ 20
      · rw [if_pos ⟨h1, h2⟩] at H
        clear h
        go_enter Tryd.func93, Tryd.ntmps93
        go_wp2_with fail
        go_ret
        exact ⟨by rw [H.out]; rfl, AL.out⟩
      · rw [if_neg (by omega)] at H
        have d2 : decide (k ≤ 20) = false := decide_eq_false h2
        clear h
        go_enter Tryd.func93, Tryd.ntmps93
        go_wp2_with fail
        go_ret
        exact ⟨by rw [H.out]; rfl, AL.out⟩
    · rw [if_neg (by omega)] at H
      have d1 : decide (1 ≤ k) = false := decide_eq_false h1
      clear h
      go_enter Tryd.func93, Tryd.ntmps93
      go_wp2_with fail
      go_ret
      exact ⟨by rw [H.out]; rfl, AL.out⟩

theorem word_calls (k o n : Int) (s : ByteArray) (a1 : Option Addr) (c1 q1 : Nat) (a2 : Option Addr) (c2 q2 : Nat) (p : Int) (hn1 : -9223372036854775808 ≤ n) (hn2 : n ≤ 9223372036854775807) (hs : s.size ≤ 1000000) (w : World) :
    Calls Tryd.prog 86 #[.agg #[.int .i64 k, .int .i64 o, .int .i64 n, .string s, .slice a1 c1 q1, .slice a2 c2 q2, .int .i64 p]] w fun e w' =>
      e = .returned (.string ⟨(wordT k n s).toArray⟩) ∧ Below w.heap.size w w' := by
  have AL := hid (box1_below w (.cells #[.int .i64 k, .int .i64 o, .int .i64 n, .string s, .slice a1 c1 q1, .slice a2 c2 q2, .int .i64 p] 25))
  cases h1 : (k == 1) with
  | true =>
    obtain rfl := beq_iff_eq.1 h1
    clear h1
    go_enter Tryd.func86, Tryd.ntmps86
    go_wp2_with fail
    go_ret
    exact ⟨rfl, AL.out⟩
  | false =>
  cases h6 : (k == 6) with
  | true =>
    obtain rfl := beq_iff_eq.1 h6
    clear h6 h1
    go_enter Tryd.func86, Tryd.ntmps86
    go_wp2_with fail
    go_ret
    exact ⟨rfl, AL.out⟩
  | false =>
  cases h2 : (k == 2) with
  | true =>
    obtain rfl := beq_iff_eq.1 h2
    clear h2 h1 h6
    by_cases h0 : n = 0
    · subst h0
      go_enter Tryd.func86, Tryd.ntmps86
      go_wp2_with fail
      go_ret
      exact ⟨rfl, AL.out⟩
    · have e0 : (n == 0) = false := beq_eq_false_iff_ne.2 h0
      have H := hid (show wordT 2 n s = [116, 114, 117, 101] by unfold wordT; rw [if_neg (by decide), if_neg (by decide), if_pos rfl, if_neg h0])
      clear h0
      go_enter Tryd.func86, Tryd.ntmps86
      go_wp2_with fail
      go_ret
      exact ⟨by rw [H.out]; rfl, AL.out⟩
  | false =>
  cases h3 : (k == 3) with
  | true =>
    obtain rfl := beq_iff_eq.1 h3
    clear h2 h1 h6 h3
    have H := hid (show wordT 3 n s = digs n by unfold wordT; rw [if_neg (by decide), if_neg (by decide), if_neg (by decide), if_pos rfl])
    go_enter Tryd.func86, Tryd.ntmps86
    go_wp2_with fail
    refine (digits_calls n hn1 hn2 _).mono ?_
    rintro e w1 ⟨rfl, b1⟩
    go_wp2_with fail
    go_ret
    exact ⟨by rw [H.out]; rfl, below_in AL.out (by simp) b1⟩
  | false =>
  cases h4 : (k == 4) with
  | true =>
    obtain rfl := beq_iff_eq.1 h4
    clear h2 h1 h6 h3 h4
    have H := hid (show wordT 4 n s = quoted s.data.toList by unfold wordT; rw [if_neg (by decide), if_neg (by decide), if_neg (by decide), if_neg (by decide), if_pos rfl])
    go_enter Tryd.func86, Tryd.ntmps86
    go_wp2_with fail
    refine (quote_calls s hs _).mono ?_
    rintro e w1 ⟨rfl, b1⟩
    go_wp2_with fail
    go_ret
    exact ⟨by rw [H.out]; rfl, below_in AL.out (by simp) b1⟩
  | false =>
    have H := hid (show (⟨(wordT k n s).toArray⟩ : ByteArray) = s by
      unfold wordT; rw [if_neg (beq_eq_false_iff_ne.1 h1), if_neg (beq_eq_false_iff_ne.1 h6), if_neg (beq_eq_false_iff_ne.1 h2), if_neg (beq_eq_false_iff_ne.1 h3), if_neg (beq_eq_false_iff_ne.1 h4)])
    go_enter Tryd.func86, Tryd.ntmps86
    go_wp2_with fail
    go_ret
    exact ⟨by rw [H.out]; rfl, AL.out⟩

end Go.Proofs.YtlnllpehifkjhaaDoor
