/- A value of the language as an argument: opened and shut. What value's functions that tell answer, for any value. How value shows a value, for any value. -/
import Derived.Test.YtimhgbcanmgajaaGreatProg
import Derived.Test.YtimhgbcanmgajaaGreatJoint1
import Derived.ProofKit
import Derived.OpenShut
import Derived.ShutString
import Derived.Lib.SmallJoins
import Derived.Test.YtimhgbcanmgajaaGreatDig
namespace Go.Proofs.YtimhgbcanmgajaaGreat
set_option maxRecDepth 100000
open Go.ChangeShapes Go.WideShapes Go.ChangeAt Go.RowKit Go.Joins

theorem val_cells : Tryz.prog.cellsOf 37 = 3 := by kernel_rfl

theorem open_value {H : Type} {enc : TypeId × Value → H} {W : World} {B b0 : Nat} {spare : Nat → Bool} {held : Bool} {r : Reach} {v : Value} {d : DataW H} {p : List MemPlace}
    (hv : Value.okWide Tryz.prog W r b0 37 v) (h : DataW.Trod enc Tryz.prog W B spare held 37 v d p) :
    ∃ (k n : Int) (s : ByteArray), v = .agg #[.int .i64 k, .int .i64 n, .string s] ∧ d = .agg [.lit (.int .i64 k), .lit (.int .i64 n), .lit (.string s.data.toList)] ∧ p = [] ∧
      (Lit.int .i64 k).wf = true ∧ (Lit.int .i64 n).wf = true ∧ s.size ≤ maxLen := by
  obtain ⟨c0, c1, c2, y0, y1, y2, m, rfl, rfl, rfl, hy0, hy1, hy2⟩ := open_agg3 Tryz.underlying37 (by kernel_rfl) val_cells hv h
  obtain ⟨k, e0, rfl, wk⟩ := DataW.trod_int Tryz.underlying3 hy0
  obtain ⟨n, e1, rfl, wn⟩ := DataW.trod_int Tryz.underlying3 hy1
  obtain ⟨s, e2, rfl, ws⟩ := DataW.trod_string Tryz.underlying9 hy2
  simp at e0 e1 e2
  subst e0 e1 e2
  exact ⟨k, n, s, rfl, rfl, rfl, wk, wn, ws⟩

theorem shut_value {H : Type} {enc : TypeId × Value → H} {W : World} {B : Nat} {spare : Nat → Bool} {held : Bool} {k n : Int} {s : ByteArray}
    (wk : (Lit.int .i64 k).wf = true) (wn : (Lit.int .i64 n).wf = true) (ws : s.size ≤ maxLen) :
    DataW.Trod enc Tryz.prog W B spare held 37 (.agg #[.int .i64 k, .int .i64 n, .string s]) (.agg [.lit (.int .i64 k), .lit (.int .i64 n), .lit (.string s.data.toList)]) [] :=
  shut_agg3 (y0 := (.lit (.int .i64 k), [])) (y1 := (.lit (.int .i64 n), [])) (y2 := (.lit (.string s.data.toList), [])) Tryz.underlying37 (by kernel_rfl) val_cells
    ⟨1, by simp [DataW.trod, Tryz.underlying3, wk]⟩ ⟨1, by simp [DataW.trod, Tryz.underlying3, wn]⟩ ⟨1, by simp [DataW.trod, Tryz.underlying9, ws]⟩

end Go.Proofs.YtimhgbcanmgajaaGreat

namespace Go.Proofs.YtimhgbcanmgajaaGreat
set_option maxRecDepth 100000
open Go.RowKit

theorem box1 (w : World) (o : Obj) : Below w.heap.size w (w.alloc o) := (Below.refl _ _).alloc (Nat.le_refl _) _

theorem box2 (w : World) (o o' : Obj) : Below w.heap.size w ((w.alloc o).alloc o') := (box1 w o).alloc (by simp) _

end Go.Proofs.YtimhgbcanmgajaaGreat

namespace Go.Proofs.YtimhgbcanmgajaaGreat
set_option maxRecDepth 100000
open Go.RowKit

theorem show_calls (k n : Int) (h1 : -9223372036854775808 ≤ n) (h2 : n ≤ 9223372036854775807) (s : ByteArray) (w : World) :
    Calls Tryz.prog 135 #[.agg #[.int .i64 k, .int .i64 n, .string s]] w fun e w' => e = .returned (.string ⟨(showB k n s.data.toList).toArray⟩) ∧ Below w.heap.size w w' := by
  rcases (show k = 0 ∨ k = 1 ∨ k = 2 ∨ k = 3 ∨ k = 4 ∨ k = 5 ∨ (k ≠ 0 ∧ k ≠ 1 ∧ k ≠ 2 ∧ k ≠ 3 ∧ k ≠ 4 ∧ k ≠ 5) from by omega) with rfl | rfl | rfl | rfl | rfl | rfl | ⟨k0, k1, k2, k3, k4, k5⟩
  · have hr := hid (show showB 0 n s.data.toList = [110, 117, 108, 108] from rfl)
    go_enter Tryz.func135, Tryz.ntmps135
    go_wp2
    go_ret
    exact ⟨by rw [hr.out]; rfl, box1 _ _⟩
  · by_cases hn : n = 0
    · subst hn
      have hr := hid (show showB 1 0 s.data.toList = [102, 97, 108, 115, 101] from rfl)
      go_enter Tryz.func135, Tryz.ntmps135
      go_wp2
      go_ret
      exact ⟨by rw [hr.out]; rfl, box1 _ _⟩
    · have hr := hid (show showB 1 n s.data.toList = [116, 114, 117, 101] from by simp [showB, hn])
      go_enter Tryz.func135, Tryz.ntmps135
      go_wp2
      go_ret
      exact ⟨by rw [hr.out]; rfl, box1 _ _⟩
  · have hr := hid (show showB 2 n s.data.toList = digs n from rfl)
    go_enter Tryz.func135, Tryz.ntmps135
    go_wp2_with fail
    refine (digits_calls n h1 h2 _).mono ?_
    rintro e w1 ⟨rfl, b1⟩
    go_wp2
    go_ret
    exact ⟨by rw [hr.out]; rfl, below_on (box1 _ _) b1⟩
  · have hr := hid (show showB 3 n s.data.toList = s.data.toList from rfl)
    go_enter Tryz.func135, Tryz.ntmps135
    go_wp2
    go_ret
    exact ⟨by rw [hr.out]; rfl, box1 _ _⟩
  · have hr := hid (show showB 4 n s.data.toList = [111, 98, 106, 101, 99, 116] from rfl)
    go_enter Tryz.func135, Tryz.ntmps135
    go_wp2
    go_ret
    exact ⟨by rw [hr.out]; rfl, box1 _ _⟩
  · have hr := hid (show showB 5 n s.data.toList = [102, 117, 110, 99, 116, 105, 111, 110] from rfl)
    go_enter Tryz.func135, Tryz.ntmps135
    go_wp2
    go_ret
    exact ⟨by rw [hr.out]; rfl, box1 _ _⟩
  · have hr := hid (show showB k n s.data.toList = [] from by simp [showB, k0, k1, k2, k3, k4, k5])
    go_enter Tryz.func135, Tryz.ntmps135
    go_wp2
    go_ret
    exact ⟨by rw [hr.out]; rfl, box1 _ _⟩

theorem cat_head (b : UInt8) (l : List UInt8) : (⟨#[b]⟩ : ByteArray) ++ (⟨l.toArray⟩ : ByteArray) = ⟨(b :: l).toArray⟩ := by
  apply ByteArray.ext
  simp

end Go.Proofs.YtimhgbcanmgajaaGreat
