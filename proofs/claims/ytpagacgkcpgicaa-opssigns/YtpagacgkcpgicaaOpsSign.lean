/- Which sign is which the other way round, and which has no error: ops' answers, the document's, and what follows. -/
import Derived.Test.YtpagacgkcpgicaaOpsPlain
namespace Go.Proofs.Ytpagacgkcpgicaa
open Go.RowKit

def swapB (op : Int) : Int := if op = 6 then 8 else if op = 8 then 6 else if op = 7 then 9 else if op = 9 then 7 else if op = 3 ∨ op = 10 ∨ op = 11 then op else 0
def pureB (op a b : Int) : Bool :=
  if op = 10 ∨ op = 11 then true else if 1 ≤ op ∧ op ≤ 3 then a == 2 && b == 2 else if 6 ≤ op ∧ op ≤ 9 then a == b && (a == 2 || a == 3) else false

theorem swap_cases (op : Int) : op = 6 ∨ op = 8 ∨ op = 7 ∨ op = 9 ∨ op = 3 ∨ op = 10 ∨ op = 11 ∨ (op ≠ 6 ∧ op ≠ 8 ∧ op ≠ 7 ∧ op ≠ 9 ∧ op ≠ 3 ∧ op ≠ 10 ∧ op ≠ 11) := by omega
theorem pure_cases (op : Int) : op = 1 ∨ op = 2 ∨ op = 3 ∨ op = 4 ∨ op = 5 ∨ op = 6 ∨ op = 7 ∨ op = 8 ∨ op = 9 ∨ op = 10 ∨ op = 11 ∨ (op < 1 ∨ 11 < op) := by omega

theorem swap_calls (op : Int) (w : World) : Calls Try.prog 18 #[.int .i64 op] w fun e w' => e = .returned (.int .i64 (swapB op)) ∧ Below w.heap.size w w' := by
  rcases swap_cases op with rfl | rfl | rfl | rfl | rfl | rfl | rfl | ⟨h6, h8, h7, h9, h3, h10, h11⟩
  · rw [show swapB 6 = 8 from rfl]
    go_enter Try.func18, Try.ntmps18
    go_wp2
    go_ret
    exact ⟨rfl, Below.refl _ _⟩
  · rw [show swapB 8 = 6 from rfl]
    go_enter Try.func18, Try.ntmps18
    go_wp2
    go_ret
    exact ⟨rfl, Below.refl _ _⟩
  · rw [show swapB 7 = 9 from rfl]
    go_enter Try.func18, Try.ntmps18
    go_wp2
    go_ret
    exact ⟨rfl, Below.refl _ _⟩
  · rw [show swapB 9 = 7 from rfl]
    go_enter Try.func18, Try.ntmps18
    go_wp2
    go_ret
    exact ⟨rfl, Below.refl _ _⟩
  · rw [show swapB 3 = 3 from rfl]
    go_enter Try.func18, Try.ntmps18
    go_wp2
    go_ret
    exact ⟨rfl, Below.refl _ _⟩
  · rw [show swapB 10 = 10 from rfl]
    go_enter Try.func18, Try.ntmps18
    go_wp2
    go_ret
    exact ⟨rfl, Below.refl _ _⟩
  · rw [show swapB 11 = 11 from rfl]
    go_enter Try.func18, Try.ntmps18
    go_wp2
    go_ret
    exact ⟨rfl, Below.refl _ _⟩
  · rw [show swapB op = 0 from by simp [swapB, h6, h8, h7, h9, h3, h10, h11]]
    go_enter Try.func18, Try.ntmps18
    go_wp2
    go_ret
    exact ⟨rfl, Below.refl _ _⟩

theorem refswap_calls (op : Int) (w : World) : Calls Try.prog 19 #[.int .i64 op] w fun e w' => e = .returned (.int .i64 (swapB op)) ∧ Below w.heap.size w w' := by
  rcases swap_cases op with rfl | rfl | rfl | rfl | rfl | rfl | rfl | ⟨h6, h8, h7, h9, h3, h10, h11⟩
  · rw [show swapB 6 = 8 from rfl]
    go_enter Try.func19, Try.ntmps19
    go_wp2
    go_ret
    exact ⟨rfl, Below.refl _ _⟩
  · rw [show swapB 8 = 6 from rfl]
    go_enter Try.func19, Try.ntmps19
    go_wp2
    go_ret
    exact ⟨rfl, Below.refl _ _⟩
  · rw [show swapB 7 = 9 from rfl]
    go_enter Try.func19, Try.ntmps19
    go_wp2
    go_ret
    exact ⟨rfl, Below.refl _ _⟩
  · rw [show swapB 9 = 7 from rfl]
    go_enter Try.func19, Try.ntmps19
    go_wp2
    go_ret
    exact ⟨rfl, Below.refl _ _⟩
  · rw [show swapB 3 = 3 from rfl]
    go_enter Try.func19, Try.ntmps19
    go_wp2
    go_ret
    exact ⟨rfl, Below.refl _ _⟩
  · rw [show swapB 10 = 10 from rfl]
    go_enter Try.func19, Try.ntmps19
    go_wp2
    go_ret
    exact ⟨rfl, Below.refl _ _⟩
  · rw [show swapB 11 = 11 from rfl]
    go_enter Try.func19, Try.ntmps19
    go_wp2
    go_ret
    exact ⟨rfl, Below.refl _ _⟩
  · rw [show swapB op = 0 from by simp [swapB, h6, h8, h7, h9, h3, h10, h11]]
    go_enter Try.func19, Try.ntmps19
    go_wp2
    go_ret
    exact ⟨rfl, Below.refl _ _⟩

theorem pure_calls (op a b : Int) (w : World) : Calls Try.prog 20 #[.int .i64 op, .int .i64 a, .int .i64 b] w fun e w' => e = .returned (.bool (pureB op a b)) ∧ Below w.heap.size w w' := by
  rcases pure_cases op with rfl | rfl | rfl | rfl | rfl | rfl | rfl | rfl | rfl | rfl | rfl | ho
  · cases ha : (a == 2)
    · have H := hid (show pureB 1 a b = false from by simp only [pureB, ha]; simp)
      go_enter Try.func20, Try.ntmps20
      go_wp2
      go_ret
      exact ⟨by rw [H.out]; rfl, Below.refl _ _⟩
    · have H := hid (show pureB 1 a b = (b == 2) from by simp only [pureB, ha]; simp)
      go_enter Try.func20, Try.ntmps20
      go_wp2
      go_ret
      exact ⟨by rw [H.out]; rfl, Below.refl _ _⟩
  · cases ha : (a == 2)
    · have H := hid (show pureB 2 a b = false from by simp only [pureB, ha]; simp)
      go_enter Try.func20, Try.ntmps20
      go_wp2
      go_ret
      exact ⟨by rw [H.out]; rfl, Below.refl _ _⟩
    · have H := hid (show pureB 2 a b = (b == 2) from by simp only [pureB, ha]; simp)
      go_enter Try.func20, Try.ntmps20
      go_wp2
      go_ret
      exact ⟨by rw [H.out]; rfl, Below.refl _ _⟩
  · cases ha : (a == 2)
    · have H := hid (show pureB 3 a b = false from by simp only [pureB, ha]; simp)
      go_enter Try.func20, Try.ntmps20
      go_wp2
      go_ret
      exact ⟨by rw [H.out]; rfl, Below.refl _ _⟩
    · have H := hid (show pureB 3 a b = (b == 2) from by simp only [pureB, ha]; simp)
      go_enter Try.func20, Try.ntmps20
      go_wp2
      go_ret
      exact ⟨by rw [H.out]; rfl, Below.refl _ _⟩
  · have H := hid (show pureB 4 a b = false from rfl)
    go_enter Try.func20, Try.ntmps20
    go_wp2
    go_ret
    exact ⟨by rw [H.out]; rfl, Below.refl _ _⟩
  · have H := hid (show pureB 5 a b = false from rfl)
    go_enter Try.func20, Try.ntmps20
    go_wp2
    go_ret
    exact ⟨by rw [H.out]; rfl, Below.refl _ _⟩
  · cases hab : (a == b)
    · have H := hid (show pureB 6 a b = false from by simp only [pureB, hab]; simp)
      go_enter Try.func20, Try.ntmps20
      go_wp2
      go_ret
      exact ⟨by rw [H.out]; rfl, Below.refl _ _⟩
    · cases ha : (a == 2)
      · have H := hid (show pureB 6 a b = (a == 3) from by simp only [pureB, hab, ha]; simp)
        go_enter Try.func20, Try.ntmps20
        go_wp2
        go_ret
        exact ⟨by rw [H.out]; rfl, Below.refl _ _⟩
      · have H := hid (show pureB 6 a b = true from by simp only [pureB, hab, ha]; simp)
        go_enter Try.func20, Try.ntmps20
        go_wp2
        go_ret
        exact ⟨by rw [H.out]; rfl, Below.refl _ _⟩
  · cases hab : (a == b)
    · have H := hid (show pureB 7 a b = false from by simp only [pureB, hab]; simp)
      go_enter Try.func20, Try.ntmps20
      go_wp2
      go_ret
      exact ⟨by rw [H.out]; rfl, Below.refl _ _⟩
    · cases ha : (a == 2)
      · have H := hid (show pureB 7 a b = (a == 3) from by simp only [pureB, hab, ha]; simp)
        go_enter Try.func20, Try.ntmps20
        go_wp2
        go_ret
        exact ⟨by rw [H.out]; rfl, Below.refl _ _⟩
      · have H := hid (show pureB 7 a b = true from by simp only [pureB, hab, ha]; simp)
        go_enter Try.func20, Try.ntmps20
        go_wp2
        go_ret
        exact ⟨by rw [H.out]; rfl, Below.refl _ _⟩
  · cases hab : (a == b)
    · have H := hid (show pureB 8 a b = false from by simp only [pureB, hab]; simp)
      go_enter Try.func20, Try.ntmps20
      go_wp2
      go_ret
      exact ⟨by rw [H.out]; rfl, Below.refl _ _⟩
    · cases ha : (a == 2)
      · have H := hid (show pureB 8 a b = (a == 3) from by simp only [pureB, hab, ha]; simp)
        go_enter Try.func20, Try.ntmps20
        go_wp2
        go_ret
        exact ⟨by rw [H.out]; rfl, Below.refl _ _⟩
      · have H := hid (show pureB 8 a b = true from by simp only [pureB, hab, ha]; simp)
        go_enter Try.func20, Try.ntmps20
        go_wp2
        go_ret
        exact ⟨by rw [H.out]; rfl, Below.refl _ _⟩
  · cases hab : (a == b)
    · have H := hid (show pureB 9 a b = false from by simp only [pureB, hab]; simp)
      go_enter Try.func20, Try.ntmps20
      go_wp2
      go_ret
      exact ⟨by rw [H.out]; rfl, Below.refl _ _⟩
    · cases ha : (a == 2)
      · have H := hid (show pureB 9 a b = (a == 3) from by simp only [pureB, hab, ha]; simp)
        go_enter Try.func20, Try.ntmps20
        go_wp2
        go_ret
        exact ⟨by rw [H.out]; rfl, Below.refl _ _⟩
      · have H := hid (show pureB 9 a b = true from by simp only [pureB, hab, ha]; simp)
        go_enter Try.func20, Try.ntmps20
        go_wp2
        go_ret
        exact ⟨by rw [H.out]; rfl, Below.refl _ _⟩
  · have H := hid (show pureB 10 a b = true from rfl)
    go_enter Try.func20, Try.ntmps20
    go_wp2
    go_ret
    exact ⟨by rw [H.out]; rfl, Below.refl _ _⟩
  · have H := hid (show pureB 11 a b = true from rfl)
    go_enter Try.func20, Try.ntmps20
    go_wp2
    go_ret
    exact ⟨by rw [H.out]; rfl, Below.refl _ _⟩
  · have H := hid (show pureB op a b = false from by
      unfold pureB
      rw [if_neg (by omega), if_neg (by omega), if_neg (by omega)])
    have o1 : (op == 1) = false := beq_eq_false_iff_ne.2 (by omega)
    have o2 : (op == 2) = false := beq_eq_false_iff_ne.2 (by omega)
    have o3 : (op == 3) = false := beq_eq_false_iff_ne.2 (by omega)
    have o4 : (op == 4) = false := beq_eq_false_iff_ne.2 (by omega)
    have o5 : (op == 5) = false := beq_eq_false_iff_ne.2 (by omega)
    have o6 : (op == 6) = false := beq_eq_false_iff_ne.2 (by omega)
    have o7 : (op == 7) = false := beq_eq_false_iff_ne.2 (by omega)
    have o8 : (op == 8) = false := beq_eq_false_iff_ne.2 (by omega)
    have o9 : (op == 9) = false := beq_eq_false_iff_ne.2 (by omega)
    have o10 : (op == 10) = false := beq_eq_false_iff_ne.2 (by omega)
    have o11 : (op == 11) = false := beq_eq_false_iff_ne.2 (by omega)
    clear ho
    go_enter Try.func20, Try.ntmps20
    go_wp2
    go_ret
    exact ⟨by rw [H.out]; rfl, Below.refl _ _⟩

theorem refpure_calls (op a b : Int) (w : World) : Calls Try.prog 21 #[.int .i64 op, .int .i64 a, .int .i64 b] w fun e w' => e = .returned (.bool (pureB op a b)) ∧ Below w.heap.size w w' := by
  by_cases hab : a = b
  · subst hab
    rcases pure_cases op with rfl | rfl | rfl | rfl | rfl | rfl | rfl | rfl | rfl | rfl | rfl | ho
    · cases ha : (a == 2)
      · have H := hid (show pureB 1 a a = false from by simp only [pureB, ha]; simp)
        cases ha3 : (a == 3)
        · go_enter Try.func21, Try.ntmps21
          go_wp2
          go_ret
          exact ⟨by rw [H.out]; rfl, Below.refl _ _⟩
        · go_enter Try.func21, Try.ntmps21
          go_wp2
          go_ret
          exact ⟨by rw [H.out]; rfl, Below.refl _ _⟩
      · have H := hid (show pureB 1 a a = true from by simp only [pureB, ha]; simp)
        go_enter Try.func21, Try.ntmps21
        go_wp2
        go_ret
        exact ⟨by rw [H.out]; rfl, Below.refl _ _⟩
    · cases ha : (a == 2)
      · have H := hid (show pureB 2 a a = false from by simp only [pureB, ha]; simp)
        cases ha3 : (a == 3)
        · go_enter Try.func21, Try.ntmps21
          go_wp2
          go_ret
          exact ⟨by rw [H.out]; rfl, Below.refl _ _⟩
        · go_enter Try.func21, Try.ntmps21
          go_wp2
          go_ret
          exact ⟨by rw [H.out]; rfl, Below.refl _ _⟩
      · have H := hid (show pureB 2 a a = true from by simp only [pureB, ha]; simp)
        go_enter Try.func21, Try.ntmps21
        go_wp2
        go_ret
        exact ⟨by rw [H.out]; rfl, Below.refl _ _⟩
    · cases ha : (a == 2)
      · have H := hid (show pureB 3 a a = false from by simp only [pureB, ha]; simp)
        cases ha3 : (a == 3)
        · go_enter Try.func21, Try.ntmps21
          go_wp2
          go_ret
          exact ⟨by rw [H.out]; rfl, Below.refl _ _⟩
        · go_enter Try.func21, Try.ntmps21
          go_wp2
          go_ret
          exact ⟨by rw [H.out]; rfl, Below.refl _ _⟩
      · have H := hid (show pureB 3 a a = true from by simp only [pureB, ha]; simp)
        go_enter Try.func21, Try.ntmps21
        go_wp2
        go_ret
        exact ⟨by rw [H.out]; rfl, Below.refl _ _⟩
    · have H := hid (show pureB 4 a a = false from rfl)
      cases ha : (a == 2)
      · cases ha3 : (a == 3)
        · go_enter Try.func21, Try.ntmps21
          go_wp2
          go_ret
          exact ⟨by rw [H.out]; rfl, Below.refl _ _⟩
        · go_enter Try.func21, Try.ntmps21
          go_wp2
          go_ret
          exact ⟨by rw [H.out]; rfl, Below.refl _ _⟩
      · cases ha3 : (a == 3)
        · go_enter Try.func21, Try.ntmps21
          go_wp2
          go_ret
          exact ⟨by rw [H.out]; rfl, Below.refl _ _⟩
        · exact absurd ((beq_iff_eq.1 ha).symm.trans (beq_iff_eq.1 ha3)) (by decide)
    · have H := hid (show pureB 5 a a = false from rfl)
      cases ha : (a == 2)
      · cases ha3 : (a == 3)
        · go_enter Try.func21, Try.ntmps21
          go_wp2
          go_ret
          exact ⟨by rw [H.out]; rfl, Below.refl _ _⟩
        · go_enter Try.func21, Try.ntmps21
          go_wp2
          go_ret
          exact ⟨by rw [H.out]; rfl, Below.refl _ _⟩
      · cases ha3 : (a == 3)
        · go_enter Try.func21, Try.ntmps21
          go_wp2
          go_ret
          exact ⟨by rw [H.out]; rfl, Below.refl _ _⟩
        · exact absurd ((beq_iff_eq.1 ha).symm.trans (beq_iff_eq.1 ha3)) (by decide)
    · cases ha : (a == 2)
      · cases ha3 : (a == 3)
        · have H := hid (show pureB 6 a a = false from by simp only [pureB, ha, ha3]; simp)
          go_enter Try.func21, Try.ntmps21
          go_wp2
          go_ret
          exact ⟨by rw [H.out]; rfl, Below.refl _ _⟩
        · have H := hid (show pureB 6 a a = true from by simp only [pureB, ha, ha3]; simp)
          go_enter Try.func21, Try.ntmps21
          go_wp2
          go_ret
          exact ⟨by rw [H.out]; rfl, Below.refl _ _⟩
      · have H := hid (show pureB 6 a a = true from by simp only [pureB, ha]; simp)
        go_enter Try.func21, Try.ntmps21
        go_wp2
        go_ret
        exact ⟨by rw [H.out]; rfl, Below.refl _ _⟩
    · cases ha : (a == 2)
      · cases ha3 : (a == 3)
        · have H := hid (show pureB 7 a a = false from by simp only [pureB, ha, ha3]; simp)
          go_enter Try.func21, Try.ntmps21
          go_wp2
          go_ret
          exact ⟨by rw [H.out]; rfl, Below.refl _ _⟩
        · have H := hid (show pureB 7 a a = true from by simp only [pureB, ha, ha3]; simp)
          go_enter Try.func21, Try.ntmps21
          go_wp2
          go_ret
          exact ⟨by rw [H.out]; rfl, Below.refl _ _⟩
      · have H := hid (show pureB 7 a a = true from by simp only [pureB, ha]; simp)
        go_enter Try.func21, Try.ntmps21
        go_wp2
        go_ret
        exact ⟨by rw [H.out]; rfl, Below.refl _ _⟩
    · cases ha : (a == 2)
      · cases ha3 : (a == 3)
        · have H := hid (show pureB 8 a a = false from by simp only [pureB, ha, ha3]; simp)
          go_enter Try.func21, Try.ntmps21
          go_wp2
          go_ret
          exact ⟨by rw [H.out]; rfl, Below.refl _ _⟩
        · have H := hid (show pureB 8 a a = true from by simp only [pureB, ha, ha3]; simp)
          go_enter Try.func21, Try.ntmps21
          go_wp2
          go_ret
          exact ⟨by rw [H.out]; rfl, Below.refl _ _⟩
      · have H := hid (show pureB 8 a a = true from by simp only [pureB, ha]; simp)
        go_enter Try.func21, Try.ntmps21
        go_wp2
        go_ret
        exact ⟨by rw [H.out]; rfl, Below.refl _ _⟩
    · cases ha : (a == 2)
      · cases ha3 : (a == 3)
        · have H := hid (show pureB 9 a a = false from by simp only [pureB, ha, ha3]; simp)
          go_enter Try.func21, Try.ntmps21
          go_wp2
          go_ret
          exact ⟨by rw [H.out]; rfl, Below.refl _ _⟩
        · have H := hid (show pureB 9 a a = true from by simp only [pureB, ha, ha3]; simp)
          go_enter Try.func21, Try.ntmps21
          go_wp2
          go_ret
          exact ⟨by rw [H.out]; rfl, Below.refl _ _⟩
      · have H := hid (show pureB 9 a a = true from by simp only [pureB, ha]; simp)
        go_enter Try.func21, Try.ntmps21
        go_wp2
        go_ret
        exact ⟨by rw [H.out]; rfl, Below.refl _ _⟩
    · have H := hid (show pureB 10 a a = true from rfl)
      go_enter Try.func21, Try.ntmps21
      go_wp2
      go_ret
      exact ⟨by rw [H.out]; rfl, Below.refl _ _⟩
    · have H := hid (show pureB 11 a a = true from rfl)
      go_enter Try.func21, Try.ntmps21
      go_wp2
      go_ret
      exact ⟨by rw [H.out]; rfl, Below.refl _ _⟩
    · have H := hid (show pureB op a a = false from by
        unfold pureB
        rw [if_neg (by omega), if_neg (by omega), if_neg (by omega)])
      have o10 : (op == 10) = false := beq_eq_false_iff_ne.2 (by omega)
      have o11 : (op == 11) = false := beq_eq_false_iff_ne.2 (by omega)
      rcases ho with ho | ho
      · have o1 : decide (op < 1) = true := decide_eq_true ho
        go_enter Try.func21, Try.ntmps21
        go_wp2
        go_ret
        exact ⟨by rw [H.out]; rfl, Below.refl _ _⟩
      · have o1 : decide (op < 1) = false := decide_eq_false (by omega)
        have o2 : decide (9 < op) = true := decide_eq_true (by omega)
        go_enter Try.func21, Try.ntmps21
        go_wp2
        go_ret
        exact ⟨by rw [H.out]; rfl, Below.refl _ _⟩
  · have hne : (a != b) = true := bne_iff_ne.2 hab
    have hne' : (a == b) = false := beq_eq_false_iff_ne.2 hab
    by_cases h10 : op = 10
    · subst h10
      have H := hid (show pureB 10 a b = true from rfl)
      go_enter Try.func21, Try.ntmps21
      go_wp2
      go_ret
      exact ⟨by rw [H.out]; rfl, Below.refl _ _⟩
    · by_cases h11 : op = 11
      · subst h11
        have H := hid (show pureB 11 a b = true from rfl)
        go_enter Try.func21, Try.ntmps21
        go_wp2
        go_ret
        exact ⟨by rw [H.out]; rfl, Below.refl _ _⟩
      · have H := hid (show pureB op a b = false from by
          unfold pureB
          rw [if_neg (by omega)]
          split
          · rw [Bool.and_eq_false_iff, beq_eq_false_iff_ne, beq_eq_false_iff_ne]; omega
          · split
            · rw [hne']; rfl
            · rfl)
        have o10 : (op == 10) = false := beq_eq_false_iff_ne.2 h10
        have o11 : (op == 11) = false := beq_eq_false_iff_ne.2 h11
        clear h10 h11 hab hne'
        go_enter Try.func21, Try.ntmps21
        go_wp2
        go_ret
        exact ⟨by rw [H.out]; rfl, Below.refl _ _⟩

theorem alike_comm (k n : Int) (l : List UInt8) (k' n' : Int) (l' : List UInt8) : alike k' n' l' k n l = alike k n l k' n' l' := by
  rw [Bool.eq_iff_iff]
  simp [alike]
  constructor <;> (rintro ⟨h1, h2, h3⟩; exact ⟨h1.symm, h2.symm, h3.symm⟩)

theorem swap_bin (op k n : Int) (s : ByteArray) (k' n' : Int) (s' : ByteArray) (most : Int) (h : 0 < swapB op) :
    binOut (swapB op) k' n' s' k n s most = binOut op k n s k' n' s' most := by
  rcases swap_cases op with rfl | rfl | rfl | rfl | rfl | rfl | rfl | ⟨h6, h8, h7, h9, h3, h10, h11⟩
  · simp [swapB, binOut, numOut, strOut, ordB, and_comm]
  · simp [swapB, binOut, numOut, strOut, ordB, and_comm]
  · simp [swapB, binOut, numOut, strOut, ordB, and_comm]
  · simp [swapB, binOut, numOut, strOut, ordB, and_comm]
  · simp [swapB, binOut, numOut, strOut, and_comm, Int.mul_comm]
  · simp [swapB, binOut, alike_comm k n]
  · simp [swapB, binOut, alike_comm k n]
  · simp [swapB, h6, h8, h7, h9, h3, h10, h11] at h

theorem pure_bin (op k n : Int) (s : ByteArray) (k' n' : Int) (s' : ByteArray) (most : Int) (h : pureB op k k' = true) : (binOut op k n s k' n' s' most).2.2.2 = 0 := by
  rcases pure_cases op with rfl | rfl | rfl | rfl | rfl | rfl | rfl | rfl | rfl | rfl | rfl | ho
  · simp [pureB] at h; simp [binOut, h, numOut, intOut]
  · simp [pureB] at h; simp [binOut, h, numOut, intOut]
  · simp [pureB] at h; simp [binOut, h, numOut, intOut]
  · simp [pureB] at h
  · simp [pureB] at h
  · simp [pureB] at h; obtain ⟨rfl, rfl | rfl⟩ := h <;> simp [binOut, numOut, strOut, boolOut]
  · simp [pureB] at h; obtain ⟨rfl, rfl | rfl⟩ := h <;> simp [binOut, numOut, strOut, boolOut]
  · simp [pureB] at h; obtain ⟨rfl, rfl | rfl⟩ := h <;> simp [binOut, numOut, strOut, boolOut]
  · simp [pureB] at h; obtain ⟨rfl, rfl | rfl⟩ := h <;> simp [binOut, numOut, strOut, boolOut]
  · simp [binOut, boolOut]
  · simp [binOut, boolOut]
  · exfalso
    unfold pureB at h
    rw [if_neg (by omega), if_neg (by omega), if_neg (by omega)] at h
    cases h

end Go.Proofs.Ytpagacgkcpgicaa
