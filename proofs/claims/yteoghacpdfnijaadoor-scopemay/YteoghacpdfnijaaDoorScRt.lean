/- What Check asks of a node alone: within, isExpr, isNamed, hasRoom. -/
import Derived.Test.YteoghacpdfnijaaDoorNdOwn
import Derived.Test.YteoghacpdfnijaaDoorJoint4
import Derived.Test.YteoghacpdfnijaaDoorScMay
namespace Go.Proofs.YteoghacpdfnijaaDoor
set_option linter.unusedSimpArgs false
open Go.RowKit

theorem within_calls (n a b : Int) (w : World) : Calls Tryd.prog 45 #[.int .i64 n, .int .i64 a, .int .i64 b] w fun e w' => e = .returned (.bool (withB n a b)) ∧ Below w.heap.size w w' := by
  have H := hid (show withB n a b = (decide (a ≤ n) && decide (n ≤ b)) from rfl)
  cases h1 : decide (a ≤ n) <;> cases h2 : decide (n ≤ b)
  all_goals
    go_enter Tryd.func45, Tryd.ntmps45
    go_wp2_with fail
    go_ret
    exact ⟨by rw [H.out, h1, h2]; rfl, Below.refl _ _⟩
theorem isExpr_calls (k o n : Int) (s : ByteArray) (a1 a2 : Option Addr) (l1 q1 l2 q2 : Nat) (p : Int) (w : World) :
    Calls Tryd.prog 87 #[.agg #[.int .i64 k, .int .i64 o, .int .i64 n, .string s, .slice a1 l1 q1, .slice a2 l2 q2, .int .i64 p]] w fun e w' => e = .returned (.bool (decide (sortK k = 1))) ∧ Below w.heap.size w w' := by
  have A := hid ((Below.refl w.heap.size w).alloc (Nat.le_refl _) (.cells #[.int .i64 k, .int .i64 o, .int .i64 n, .string s, .slice a1 l1 q1, .slice a2 l2 q2, .int .i64 p] 25))
  have H := hid (show decide (sortK k = 1) = (decide (1 ≤ k) && decide (k ≤ 20)) from by
    unfold sortK
    by_cases h : 1 ≤ k ∧ k ≤ 20
    · rw [if_pos h]; simp [h.1, h.2]
    · rw [if_neg h]
      have : (decide (1 ≤ k) && decide (k ≤ 20)) = false := by simpa using h
      rw [this]
      split <;> simp)
  cases h1 : decide (1 ≤ k) <;> cases h2 : decide (k ≤ 20)
  all_goals
    go_enter Tryd.func87, Tryd.ntmps87
    go_wp2_with fail
    go_ret
    exact ⟨by rw [H.out, h1, h2]; rfl, A.out⟩
theorem hasRoom_calls (i : Nat) (hi : i ≤ 1000000) (p l : Int) (a2 : Option Addr) (l2 q2 : Nat) (w : World) :
    Calls Tryd.prog 46 #[.agg #[.int .i64 p, .int .i64 l, .slice a2 l2 q2], .int .i64 i] w fun e w' => e = .returned (.bool (roomB i p l)) ∧ Below w.heap.size w w' := by
  have A := hid ((Below.refl w.heap.size w).alloc (Nat.le_refl _) (.cells #[.int .i64 p, .int .i64 l, .slice a2 l2 q2] 45))
  have X := hid (blk_new w 45 #[.int .i64 p, .int .i64 l, .slice a2 l2 q2])
  by_cases h0 : i = 0
  · subst h0
    have H := hid (show roomB 0 p l = ((p == 0) && (l == 0)) from rfl)
    cases h1 : (p == 0) <;> cases h2 : (l == 0)
    all_goals
      go_enter Tryd.func46, Tryd.ntmps46
      go_wp2_with fail
      go_ret
      exact ⟨by rw [H.out, h1, h2]; rfl, A.out⟩
  · have H := hid (show roomB i p l = (withB p 0 6 && withB l p 24) from by unfold roomB; rw [if_neg h0])
    have hi0 : ((i : Int) == 0) = false := by simpa using h0
    go_enter Tryd.func46, Tryd.ntmps46
    go_wp2_with fail
    refine (within_calls _ _ _ _).mono ?_
    rintro e1 w1 ⟨rfl, b1⟩
    have B1 := hid (below_on A.out b1)
    have x1 := blk_on X.out b1
    obtain ⟨c0, c1⟩ : w1.cell? ⟨w.heap.size, 0, none⟩ = some (.int .i64 p) ∧ w1.cell? ⟨w.heap.size, 1, none⟩ = some (.int .i64 l) := ⟨(blk_cell x1 0).trans rfl, (blk_cell x1 1).trans rfl⟩
    clear b1 x1 A X
    cases hw : withB p 0 6
    · rw [hw] at H
      go_wp2_with fail
      go_ret
      exact ⟨by rw [H.out]; rfl, B1.out⟩
    · rw [hw] at H
      go_wp2_with fail
      refine (within_calls _ _ _ _).mono ?_
      rintro e2 w2 ⟨rfl, b2⟩
      have B2 := hid (below_on B1.out b2)
      clear b2
      go_wp2_with fail
      go_ret
      exact ⟨by rw [H.out]; rfl, B2.out⟩
set_option maxHeartbeats 1600000 in
theorem isNamed_calls (b : Bds) (hb : (-1000000 ≤ b.1 ∧ b.1 ≤ 1000000) ∧ (-1000000 ≤ b.2.1 ∧ b.2.1 ≤ 1000000) ∧ (-1000000 ≤ b.2.2 ∧ b.2.2 ≤ 1000000)) (k o n : Int) (s : ByteArray) (a1 a2 : Option Addr) (l1 q1 l2 q2 : Nat) (p : Int) (w : World) :
    Calls Tryd.prog 75 #[.agg #[.int .i64 b.1, .int .i64 b.2.1, .int .i64 b.2.2], .agg #[.int .i64 k, .int .i64 o, .int .i64 n, .string s, .slice a1 l1 q1, .slice a2 l2 q2, .int .i64 p]] w fun e w' => e = .returned (.bool (namedB b k n)) ∧ Below w.heap.size w w' := by
  obtain ⟨L, G, F⟩ := b
  dsimp only at hb ⊢
  have A := hid (((Below.refl w.heap.size w).alloc (Nat.le_refl _) (.cells #[.int .i64 L, .int .i64 G, .int .i64 F] 77)).alloc (by simp) (.cells #[.int .i64 k, .int .i64 o, .int .i64 n, .string s, .slice a1 l1 q1, .slice a2 l2 q2, .int .i64 p] 25))
  have H := hid (show namedB (L, G, F) k n = if k = 5 ∨ k = 8 ∨ k = 21 ∨ k = 22 then false else if k = 18 ∨ k = 33 then withB n 0 (L - 1) else if k = 19 ∨ k = 34 then withB n 0 (G - 1) else if k = 20 then withB n 0 (F - 1) else true from rfl)
  have ways : k = 5 ∨ k = 8 ∨ k = 21 ∨ k = 22 ∨ k = 18 ∨ k = 33 ∨ k = 19 ∨ k = 34 ∨ k = 20 ∨ (k ≠ 5 ∧ k ≠ 8 ∧ k ≠ 21 ∧ k ≠ 22 ∧ k ≠ 18 ∧ k ≠ 33 ∧ k ≠ 19 ∧ k ≠ 34 ∧ k ≠ 20) := by omega
  rcases ways with rfl | rfl | rfl | rfl | rfl | rfl | rfl | rfl | rfl | ⟨h1, h2, h3, h4, h5, h6, h7, h8, h9⟩
  iterate 4
    · go_enter Tryd.func75, Tryd.ntmps75
      go_wp2_with fail
      go_ret
      exact ⟨by rw [H.out]; rfl, A.out⟩
  iterate 5
    · go_enter Tryd.func75, Tryd.ntmps75
      go_wp2_with fail
      refine (within_calls _ _ _ _).mono ?_
      rintro e1 w1 ⟨rfl, b1⟩
      have B1 := hid (below_on A.out b1)
      clear b1
      go_wp2_with fail
      go_ret
      exact ⟨by rw [H.out]; first | rfl | (congr 2; go_num), B1.out⟩
  · go_enter Tryd.func75, Tryd.ntmps75
    go_wp2_with fail
    go_ret
    exact ⟨by rw [H.out, if_neg (by omega), if_neg (by omega), if_neg (by omega), if_neg (by omega)]; rfl, A.out⟩
theorem un_same {k n : Int} (h : k ≠ 18 ∧ k ≠ 19 ∧ k ≠ 20 ∧ k ≠ 33 ∧ k ≠ 34) : unK k = k ∧ unM k n = n := by
  unfold unK unM
  rw [if_neg (by omega), if_neg (by omega), if_neg (by omega)]
  exact ⟨rfl, rfl⟩
end Go.Proofs.YteoghacpdfnijaaDoor
