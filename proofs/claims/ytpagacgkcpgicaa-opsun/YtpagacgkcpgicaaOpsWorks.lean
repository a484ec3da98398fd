/- The laws' own test, and whether values' strings are short. -/
import Derived.Test.YtpagacgkcpgicaaOpsBin
namespace Go.Proofs.Ytpagacgkcpgicaa
open Go.RowKit

/-- a value's three cells at block g -/
def Cells3 (g : Nat) (w : World) (x y z : Value) : Prop := g < w.heap.size ∧ w.cell? ⟨g, 0, none⟩ = some x ∧ w.cell? ⟨g, 1, none⟩ = some y ∧ w.cell? ⟨g, 2, none⟩ = some z
theorem c3_on {g : Nat} {a b : World} {x y z : Value} (h : Cells3 g a x y z) (k : Below a.heap.size a b) : Cells3 g b x y z :=
  ⟨Nat.lt_of_lt_of_le h.1 k.size, cell_on k h.1 h.2.1, cell_on k h.1 h.2.2.1, cell_on k h.1 h.2.2.2⟩
theorem c3_new (a : World) (x y z : Value) (t : TypeId) : Cells3 a.heap.size (a.alloc (Obj.cells #[x, y, z] t)) x y z := ⟨by simp, by simp, by simp, by simp⟩
theorem c3_next {g : Nat} {a b : World} {o : Obj} {x y z : Value} (h : Cells3 g a x y z) (k : Below (a.alloc o).heap.size (a.alloc o) b) : Cells3 g b x y z := c3_on (c3_on h (box1 _ _)) k
theorem c3_fresh {a b : World} {t : TypeId} {x y z : Value} (k : Below (a.alloc (Obj.cells #[x, y, z] t)).heap.size (a.alloc (Obj.cells #[x, y, z] t)) b) : Cells3 a.heap.size b x y z := c3_on (c3_new a x y z t) k
theorem below_next {w a b : World} {o : Obj} (h : Below w.heap.size w a) (k : Below (a.alloc o).heap.size (a.alloc o) b) : Below w.heap.size w b := below_on (below_on h (box1 _ _)) k

theorem six2 (W : World) {g : Nat} (hg : g = W.heap.size) (x y z x' y' z' : Value) (t : TypeId) : (W.alloc (Obj.cells #[x, y, z, x', y', z'] t)).cell? ⟨g, 2, none⟩ = some z := by subst hg; simp
theorem six5 (W : World) {g : Nat} (hg : g = W.heap.size) (x y z x' y' z' : Value) (t : TypeId) : (W.alloc (Obj.cells #[x, y, z, x', y', z'] t)).cell? ⟨g, 5, none⟩ = some z' := by subst hg; simp

def shortB (s : ByteArray) : Bool := decide (s.size ≤ 1000)
def shortsB (s s' : ByteArray) : Bool := shortB s && shortB s'
theorem shortB_yes {s : ByteArray} (h : s.size ≤ 1000) : shortB s = true := decide_eq_true h
theorem shortB_no {s : ByteArray} (h : ¬ s.size ≤ 1000) : shortB s = false := decide_eq_false h
theorem shortB_of {s : ByteArray} (h : shortB s = true) : s.size ≤ 1000 := of_decide_eq_true h

theorem short1_calls (g : Nat) (s : ByteArray) (w : World) (hc : w.cell? ⟨g, 2, none⟩ = some (.string s)) :
    Calls Try.prog 8 #[.slice (some ⟨g, 0, none⟩) 1 1] w fun e w' => e = .returned (.bool (shortB s)) ∧ w = w' := by
  go_enter Try.func8, Try.ntmps8
  go_wp2_with fail
  go_loop [3] (fun i => i = .int .i64 0 ∨ (i = .int .i64 1 ∧ s.size ≤ 1000)) (fun i => 1 - (intOf i).toNat)
  case atStart => exact .inl rfl
  case round =>
    rcases hrel with rfl | ⟨rfl, hs⟩
    · by_cases hs : s.size ≤ 1000
      · go_wp2
        go_round
        case rel => exact .inr ⟨rfl, hs⟩
        case measure => simp [intOf]
      · have H := hid (shortB_no hs)
        go_wp2
        go_ret
        exact ⟨by rw [H.out]; rfl, rfl⟩
    · have H := hid (shortB_yes hs)
      clear hs
      go_wp2
      go_ret
      exact ⟨by rw [H.out]; rfl, rfl⟩

theorem short2_calls (g : Nat) (s s' : ByteArray) (w : World) (hc : w.cell? ⟨g, 2, none⟩ = some (.string s)) (hc' : w.cell? ⟨g, 5, none⟩ = some (.string s')) :
    Calls Try.prog 8 #[.slice (some ⟨g, 0, none⟩) 2 2] w fun e w' => e = .returned (.bool (shortsB s s')) ∧ w = w' := by
  go_enter Try.func8, Try.ntmps8
  go_wp2_with fail
  go_loop [3] (fun i => i = .int .i64 0 ∨ (i = .int .i64 1 ∧ s.size ≤ 1000) ∨ (i = .int .i64 2 ∧ s.size ≤ 1000 ∧ s'.size ≤ 1000)) (fun i => 2 - (intOf i).toNat)
  case atStart => exact .inl rfl
  case round =>
    rcases hrel with rfl | ⟨rfl, hs⟩ | ⟨rfl, hs, hs'⟩
    · by_cases hs : s.size ≤ 1000
      · go_wp2
        go_round
        case rel => exact .inr (.inl ⟨rfl, hs⟩)
        case measure => simp [intOf]
      · have H := hid (show shortsB s s' = false from by unfold shortsB; rw [shortB_no hs]; rfl)
        go_wp2
        go_ret
        exact ⟨by rw [H.out]; rfl, rfl⟩
    · by_cases hs' : s'.size ≤ 1000
      · go_wp2
        go_round
        case rel => exact .inr (.inr ⟨rfl, hs, hs'⟩)
        case measure => simp [intOf]
      · have H := hid (show shortsB s s' = false from by unfold shortsB; rw [shortB_no hs', Bool.and_false])
        go_wp2
        go_ret
        exact ⟨by rw [H.out]; rfl, rfl⟩
    · have H := hid (show shortsB s s' = true from by unfold shortsB; rw [shortB_yes hs, shortB_yes hs']; rfl)
      clear hs hs'
      go_wp2
      go_ret
      exact ⟨by rw [H.out]; rfl, rfl⟩

theorem shorts_no {s s' : ByteArray} (hs : ¬ (s.size ≤ 1000 ∧ s'.size ≤ 1000)) : shortsB s s' = false := by
  unfold shortsB
  by_cases h1 : s.size ≤ 1000
  · rw [shortB_no (fun h2 => hs ⟨h1, h2⟩), Bool.and_false]
  · rw [shortB_no h1]; rfl
theorem shorts_yes {s s' : ByteArray} (hs : s.size ≤ 1000) (hs' : s'.size ≤ 1000) : shortsB s s' = true := by unfold shortsB; rw [shortB_yes hs, shortB_yes hs']; rfl

theorem works_calls (w : World) : Calls Try.prog 9 #[] w fun e w' => e = .returned (.bool true) ∧ Below w.heap.size w w' := by
  have R1 := hid (show binOut 1 3 0 ⟨#[97]⟩ 3 0 ⟨#[97]⟩ 2 = (3, 0, ⟨#[97, 97]⟩, 0) from rfl)
  have R2 := hid (show binOut 1 3 0 ⟨#[97]⟩ 3 0 ⟨#[97]⟩ 1 = (0, 0, ⟨#[]⟩, 43) from rfl)
  have R3 := hid (show binOut 1 3 0 ⟨#[97]⟩ 2 1 ⟨#[]⟩ 9 = (0, 0, ⟨#[]⟩, 30) from rfl)
  have H0 := hid (held2p w (.int .i64 3) (.int .i64 0) (.string ⟨#[97]⟩) (.int .i64 2) (.int .i64 1) (.string ⟨#[]⟩) 23 23)
  go_enter Try.func9, Try.ntmps9
  go_wp2_with fail
  refine (bin_calls 1 3 0 _ 3 0 _ (by decide) (by decide) 2 _).mono ?_
  rintro e w1 ⟨rfl, b1⟩
  rw [R1.out]
  have H1 := hid (held2_on H0.out b1)
  clear b1 H0 R1
  obtain ⟨z1, _, c0, c1, c2, c3, c4, c5⟩ := H1.out
  have l1 : w.heap.size < w1.heap.size := by omega
  have l2 : w.heap.size + 1 < w1.heap.size := by omega
  go_wp2_with fail
  refine (bin_calls 1 3 0 _ 3 0 _ (by decide) (by decide) 1 _).mono ?_
  rintro e w2 ⟨rfl, b2⟩
  rw [R2.out]
  have H2 := hid (held2_on (held2_on H1.out (box1 _ _)) b2)
  have C1 := hid (c3_fresh b2)
  clear b2 H1 z1 c0 c1 c2 c3 c4 c5 l1 l2 R2
  obtain ⟨z1, _, c0, c1, c2, c3, c4, c5⟩ := H2.out
  have l1 : w.heap.size < w2.heap.size := by omega
  have l2 : w.heap.size + 1 < w2.heap.size := by omega
  go_wp2_with fail
  refine (bin_calls 1 3 0 _ 2 1 _ (by decide) (by decide) 9 _).mono ?_
  rintro e w3 ⟨rfl, b3⟩
  rw [R3.out]
  have B3 := hid (below_next H2.out.2.1 b3)
  have C2 := hid (c3_next C1.out b3)
  clear b3 H2 C1 z1 c0 c1 c2 c3 c4 c5 l1 l2 R3
  obtain ⟨z1, c0, c1, c2⟩ := C2.out
  go_wp2
  go_ret
  exact ⟨rfl, below_on B3.out (box1 _ _)⟩

end Go.Proofs.Ytpagacgkcpgicaa
