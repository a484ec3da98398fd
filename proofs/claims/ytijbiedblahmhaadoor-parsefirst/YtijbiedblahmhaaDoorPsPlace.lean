/- Whether what was read last is a place, or can become a value. -/
import Derived.Test.YtijbiedblahmhaaDoorJoint3
namespace Go.Proofs.YtijbiedblahmhaaDoor
open Go.RowKit

/-- is it a place? -/
def plB (x : Nd) (u : Tok) : Bool := (x.kind == 13 || x.kind == 14) && !(u.text.data.toList == [41])
/-- can it become a value? -/
def caB (x : Nd) (u : Tok) : Bool := plB x u || (x.kind == 5 && !(u.text.data.toList == [41]))

set_option maxRecDepth 100000 in
set_option maxHeartbeats 3200000 in
theorem place_calls (P : Nat) (L l pre : List Tok) (u : Tok) (x : Nd) (a1 a2 : Option Addr) (q1 q2 : Nat) (w : World) (H : Hid (PSt P L w l)) (hp : pre ++ u :: l = L) :
    Calls Tryd.prog 58 #[.pointer (some ⟨P, 0, none⟩), ndv x (.slice a1 x.names.length q1) (.slice a2 x.kids.length q2)] w fun e w' => e = .returned (.bool (plB x u)) ∧ Below w.heap.size w w' := by
  have A := hid ((Below.refl _ w).alloc (Nat.le_refl _) (.cells (ndc x (.slice a1 x.names.length q1) (.slice a2 x.kids.length q2)) 26))
  have S0 := hid (H.out.on A.out)
  have X0 := hid (blk_new w 26 (ndc x (.slice a1 x.names.length q1) (.slice a2 x.kids.length q2)))
  have HB := hid (fun w' (S : Hid (PSt P L w' l)) => brackets_calls P L l pre u w' S hp)
  unfold plB
  generalize (u.text.data.toList == [41]) = ub at *
  clear H hp
  unfold ndv
  unfold ndc at *
  generalize x.kind = k at *
  by_cases h13 : k = 13
  · have h13' : (k == 13) = true := by simp [h13]
    rw [h13', Bool.true_or, Bool.true_and]
    clear h13'
    subst h13
    obtain ⟨c0, c1, c2, c3, c4, c5, c6⟩ := cells7 X0.out
    go_enter Tryd.func58, Tryd.ntmps58
    go_wp2_with fail
    refine (HB.out _ S0).mono ?_
    rintro e w1 ⟨rfl, b1⟩
    have A1 := hid (below_in A.out (Nat.le_refl _) b1)
    clear b1 S0 A X0 HB
    go_wp2_with fail
    go_ret
    exact ⟨rfl, A1.out⟩
  · have h13' : (k == 13) = false := by simp [h13]
    by_cases h14 : k = 14
    · have h14' : (k == 14) = true := by simp [h14]
      rw [h13', h14', Bool.or_true, Bool.true_and]
      clear h13' h14' h13
      subst h14
      obtain ⟨c0, c1, c2, c3, c4, c5, c6⟩ := cells7 X0.out
      go_enter Tryd.func58, Tryd.ntmps58
      go_wp2_with fail
      refine (HB.out _ S0).mono ?_
      rintro e w1 ⟨rfl, b1⟩
      have A1 := hid (below_in A.out (Nat.le_refl _) b1)
      clear b1 S0 A X0 HB
      go_wp2_with fail
      go_ret
      exact ⟨rfl, A1.out⟩
    · have h14' : (k == 14) = false := by simp [h14]
      rw [h13', h14', Bool.or_false, Bool.false_and]
      clear h13' h14'
      obtain ⟨c0, c1, c2, c3, c4, c5, c6⟩ := cells7 X0.out
      go_enter Tryd.func58, Tryd.ntmps58
      go_wp2_with fail
      go_ret
      exact ⟨rfl, A.out⟩

set_option maxRecDepth 100000 in
set_option maxHeartbeats 3200000 in
theorem can_calls (P : Nat) (L l pre : List Tok) (u : Tok) (x : Nd) (a1 a2 : Option Addr) (q1 q2 : Nat) (w : World) (H : Hid (PSt P L w l)) (hp : pre ++ u :: l = L) :
    Calls Tryd.prog 46 #[.pointer (some ⟨P, 0, none⟩), ndv x (.slice a1 x.names.length q1) (.slice a2 x.kids.length q2)] w fun e w' => e = .returned (.bool (caB x u)) ∧ Below w.heap.size w w' := by
  have A := hid ((Below.refl _ w).alloc (Nat.le_refl _) (.cells (ndc x (.slice a1 x.names.length q1) (.slice a2 x.kids.length q2)) 26))
  have S0 := hid (H.out.on A.out)
  have X0 := hid (blk_new w 26 (ndc x (.slice a1 x.names.length q1) (.slice a2 x.kids.length q2)))
  have HB := hid (fun w' (S : Hid (PSt P L w' l)) => brackets_calls P L l pre u w' S hp)
  have HQ := hid (fun w' (S : Hid (PSt P L w' l)) => place_calls P L l pre u x a1 a2 q1 q2 w' S hp)
  unfold caB
  generalize plB x u = pb at *
  generalize (u.text.data.toList == [41]) = ub at *
  clear H hp
  unfold ndv at *
  unfold ndc at *
  generalize x.kind = k at *
  cases pb with
  | true =>
    rw [Bool.true_or]
    obtain ⟨c0, c1, c2, c3, c4, c5, c6⟩ := cells7 X0.out
    go_enter Tryd.func46, Tryd.ntmps46
    go_wp2_with fail
    refine (HQ.out _ S0).mono ?_
    rintro e w1 ⟨rfl, b1⟩
    have A1 := hid (below_in A.out (Nat.le_refl _) b1)
    clear b1 S0 A X0 HB HQ
    go_wp2_with fail
    go_ret
    exact ⟨rfl, A1.out⟩
  | false =>
    rw [Bool.false_or]
    by_cases h5 : k = 5
    · have h5' : (k == 5) = true := by simp [h5]
      rw [h5', Bool.true_and]
      clear h5'
      subst h5
      obtain ⟨c0, c1, c2, c3, c4, c5, c6⟩ := cells7 X0.out
      go_enter Tryd.func46, Tryd.ntmps46
      go_wp2_with fail
      refine (HQ.out _ S0).mono ?_
      rintro e w1 ⟨rfl, b1⟩
      have A1 := hid (below_in A.out (Nat.le_refl _) b1)
      have S1 := hid (S0.out.on b1)
      have X1 := hid (blk_on X0.out b1)
      obtain ⟨d0, d1, d2, d3, d4, d5, d6⟩ := cells7 X1.out
      clear b1 S0 A X0 HQ c0 c1 c2 c3 c4 c5 c6
      go_wp2_with fail
      refine (HB.out _ S1).mono ?_
      rintro e w2 ⟨rfl, b2⟩
      have A2 := hid (below_in A1.out (Nat.le_refl _) b2)
      clear b2 S1 A1 X1 HB d0 d1 d2 d3 d4 d5 d6
      go_wp2_with fail
      go_ret
      exact ⟨rfl, A2.out⟩
    · have h5' : (k == 5) = false := by simp [h5]
      rw [h5', Bool.false_and]
      clear h5'
      obtain ⟨c0, c1, c2, c3, c4, c5, c6⟩ := cells7 X0.out
      go_enter Tryd.func46, Tryd.ntmps46
      go_wp2_with fail
      refine (HQ.out _ S0).mono ?_
      rintro e w1 ⟨rfl, b1⟩
      have A1 := hid (below_in A.out (Nat.le_refl _) b1)
      have X1 := hid (blk_on X0.out b1)
      obtain ⟨d0, d1, d2, d3, d4, d5, d6⟩ := cells7 X1.out
      clear b1 S0 A X0 HQ HB c0 c1 c2 c3 c4 c5 c6
      go_wp2_with fail
      go_ret
      exact ⟨rfl, A1.out⟩

end Go.Proofs.YtijbiedblahmhaaDoor
