/- Keys. -/
import Derived.Test.YtgdbaceehpcgbaaDoorJoint1
import Derived.Test.YtgdbaceehpcgbaaDoorProg
import Derived.Test.YtgdbaceehpcgbaaDoorJoint2
import Derived.Lib.Strings
import Derived.BigQuiet
import Derived.WalkSmall
namespace Go.Proofs.YtgdbaceehpcgbaaDoor
open Go.RowKit

theorem lit_eq {s : ByteArray} {l : List UInt8} (h : (s.toList == l) = true) : s.data.toList = l := by
  rw [beq_iff_eq, Lib.toList_data] at h
  exact h
theorem lit_ne {s : ByteArray} {l : List UInt8} (h : (s.toList == l) = false) : s.data.toList ≠ l := by
  rw [beq_eq_false_iff_ne, Lib.toList_data] at h
  exact h
theorem lit_beq (s : ByteArray) (l : List UInt8) : (l == s.toList) = (l == s.data.toList) := by rw [Lib.toList_data]
/-- is a text one of a list? -/
def inB (L : List (List UInt8)) (l : List UInt8) : Bool := L.contains l

set_option maxHeartbeats 1600000 in
theorem iskey_calls (s : ByteArray) (w : World) :
    Calls Tryd.prog 103 #[.string s] w fun e w' => e = .returned (.bool (keyB s.data.toList)) ∧ w = w' := by
  cases h0 : (s.toList == ([99, 111, 117, 110, 116] : List UInt8)) with
  | true =>
    have H := hid (show keyB s.data.toList = true by rw [lit_eq (l := [99, 111, 117, 110, 116]) h0]; rfl)
    go_enter Tryd.func103, Tryd.ntmps103
    go_wp2
    go_ret
    exact ⟨by rw [H.out]; rfl, rfl⟩
  | false =>
  cases h1 : (s.toList == ([100, 101, 108, 101, 116, 101] : List UInt8)) with
  | true =>
    have H := hid (show keyB s.data.toList = true by rw [lit_eq (l := [100, 101, 108, 101, 116, 101]) h1]; rfl)
    go_enter Tryd.func103, Tryd.ntmps103
    go_wp2
    go_ret
    exact ⟨by rw [H.out]; rfl, rfl⟩
  | false =>
  cases h2 : (s.toList == ([101, 108, 115, 101] : List UInt8)) with
  | true =>
    have H := hid (show keyB s.data.toList = true by rw [lit_eq (l := [101, 108, 115, 101]) h2]; rfl)
    go_enter Tryd.func103, Tryd.ntmps103
    go_wp2
    go_ret
    exact ⟨by rw [H.out]; rfl, rfl⟩
  | false =>
  cases h3 : (s.toList == ([102, 97, 108, 115, 101] : List UInt8)) with
  | true =>
    have H := hid (show keyB s.data.toList = true by rw [lit_eq (l := [102, 97, 108, 115, 101]) h3]; rfl)
    go_enter Tryd.func103, Tryd.ntmps103
    go_wp2
    go_ret
    exact ⟨by rw [H.out]; rfl, rfl⟩
  | false =>
  cases h4 : (s.toList == ([102, 110] : List UInt8)) with
  | true =>
    have H := hid (show keyB s.data.toList = true by rw [lit_eq (l := [102, 110]) h4]; rfl)
    go_enter Tryd.func103, Tryd.ntmps103
    go_wp2
    go_ret
    exact ⟨by rw [H.out]; rfl, rfl⟩
  | false =>
  cases h5 : (s.toList == ([104, 97, 115] : List UInt8)) with
  | true =>
    have H := hid (show keyB s.data.toList = true by rw [lit_eq (l := [104, 97, 115]) h5]; rfl)
    go_enter Tryd.func103, Tryd.ntmps103
    go_wp2
    go_ret
    exact ⟨by rw [H.out]; rfl, rfl⟩
  | false =>
  cases h6 : (s.toList == ([105, 102] : List UInt8)) with
  | true =>
    have H := hid (show keyB s.data.toList = true by rw [lit_eq (l := [105, 102]) h6]; rfl)
    go_enter Tryd.func103, Tryd.ntmps103
    go_wp2
    go_ret
    exact ⟨by rw [H.out]; rfl, rfl⟩
  | false =>
  cases h7 : (s.toList == ([107, 101, 121] : List UInt8)) with
  | true =>
    have H := hid (show keyB s.data.toList = true by rw [lit_eq (l := [107, 101, 121]) h7]; rfl)
    go_enter Tryd.func103, Tryd.ntmps103
    go_wp2
    go_ret
    exact ⟨by rw [H.out]; rfl, rfl⟩
  | false =>
  cases h8 : (s.toList == ([108, 101, 110] : List UInt8)) with
  | true =>
    have H := hid (show keyB s.data.toList = true by rw [lit_eq (l := [108, 101, 110]) h8]; rfl)
    go_enter Tryd.func103, Tryd.ntmps103
    go_wp2
    go_ret
    exact ⟨by rw [H.out]; rfl, rfl⟩
  | false =>
  cases h9 : (s.toList == ([108, 101, 116] : List UInt8)) with
  | true =>
    have H := hid (show keyB s.data.toList = true by rw [lit_eq (l := [108, 101, 116]) h9]; rfl)
    go_enter Tryd.func103, Tryd.ntmps103
    go_wp2
    go_ret
    exact ⟨by rw [H.out]; rfl, rfl⟩
  | false =>
  cases h10 : (s.toList == ([110, 117, 108, 108] : List UInt8)) with
  | true =>
    have H := hid (show keyB s.data.toList = true by rw [lit_eq (l := [110, 117, 108, 108]) h10]; rfl)
    go_enter Tryd.func103, Tryd.ntmps103
    go_wp2
    go_ret
    exact ⟨by rw [H.out]; rfl, rfl⟩
  | false =>
  cases h11 : (s.toList == ([112, 114, 105, 110, 116] : List UInt8)) with
  | true =>
    have H := hid (show keyB s.data.toList = true by rw [lit_eq (l := [112, 114, 105, 110, 116]) h11]; rfl)
    go_enter Tryd.func103, Tryd.ntmps103
    go_wp2
    go_ret
    exact ⟨by rw [H.out]; rfl, rfl⟩
  | false =>
  cases h12 : (s.toList == ([112, 114, 111, 116, 111] : List UInt8)) with
  | true =>
    have H := hid (show keyB s.data.toList = true by rw [lit_eq (l := [112, 114, 111, 116, 111]) h12]; rfl)
    go_enter Tryd.func103, Tryd.ntmps103
    go_wp2
    go_ret
    exact ⟨by rw [H.out]; rfl, rfl⟩
  | false =>
  cases h13 : (s.toList == ([114, 101, 116, 117, 114, 110] : List UInt8)) with
  | true =>
    have H := hid (show keyB s.data.toList = true by rw [lit_eq (l := [114, 101, 116, 117, 114, 110]) h13]; rfl)
    go_enter Tryd.func103, Tryd.ntmps103
    go_wp2
    go_ret
    exact ⟨by rw [H.out]; rfl, rfl⟩
  | false =>
  cases h14 : (s.toList == ([115, 101, 116, 112, 114, 111, 116, 111] : List UInt8)) with
  | true =>
    have H := hid (show keyB s.data.toList = true by rw [lit_eq (l := [115, 101, 116, 112, 114, 111, 116, 111]) h14]; rfl)
    go_enter Tryd.func103, Tryd.ntmps103
    go_wp2
    go_ret
    exact ⟨by rw [H.out]; rfl, rfl⟩
  | false =>
  cases h15 : (s.toList == ([115, 116, 114] : List UInt8)) with
  | true =>
    have H := hid (show keyB s.data.toList = true by rw [lit_eq (l := [115, 116, 114]) h15]; rfl)
    go_enter Tryd.func103, Tryd.ntmps103
    go_wp2
    go_ret
    exact ⟨by rw [H.out]; rfl, rfl⟩
  | false =>
  cases h16 : (s.toList == ([116, 104, 105, 115] : List UInt8)) with
  | true =>
    have H := hid (show keyB s.data.toList = true by rw [lit_eq (l := [116, 104, 105, 115]) h16]; rfl)
    go_enter Tryd.func103, Tryd.ntmps103
    go_wp2
    go_ret
    exact ⟨by rw [H.out]; rfl, rfl⟩
  | false =>
  cases h17 : (s.toList == ([116, 114, 117, 101] : List UInt8)) with
  | true =>
    have H := hid (show keyB s.data.toList = true by rw [lit_eq (l := [116, 114, 117, 101]) h17]; rfl)
    go_enter Tryd.func103, Tryd.ntmps103
    go_wp2
    go_ret
    exact ⟨by rw [H.out]; rfl, rfl⟩
  | false =>
  cases h18 : (s.toList == ([119, 104, 105, 108, 101] : List UInt8)) with
  | true =>
    have H := hid (show keyB s.data.toList = true by rw [lit_eq (l := [119, 104, 105, 108, 101]) h18]; rfl)
    go_enter Tryd.func103, Tryd.ntmps103
    go_wp2
    go_ret
    exact ⟨by rw [H.out]; rfl, rfl⟩
  | false =>
  have H := hid (show keyB s.data.toList = false by
    simp only [keyB, keyL, List.contains_cons, List.contains_nil, Bool.or_eq_false_iff, beq_eq_false_iff_ne, and_true]
    exact ⟨lit_ne (l := [99, 111, 117, 110, 116]) h0, lit_ne (l := [100, 101, 108, 101, 116, 101]) h1, lit_ne (l := [101, 108, 115, 101]) h2, lit_ne (l := [102, 97, 108, 115, 101]) h3, lit_ne (l := [102, 110]) h4, lit_ne (l := [104, 97, 115]) h5, lit_ne (l := [105, 102]) h6, lit_ne (l := [107, 101, 121]) h7, lit_ne (l := [108, 101, 110]) h8, lit_ne (l := [108, 101, 116]) h9, lit_ne (l := [110, 117, 108, 108]) h10, lit_ne (l := [112, 114, 105, 110, 116]) h11, lit_ne (l := [112, 114, 111, 116, 111]) h12, lit_ne (l := [114, 101, 116, 117, 114, 110]) h13, lit_ne (l := [115, 101, 116, 112, 114, 111, 116, 111]) h14, lit_ne (l := [115, 116, 114]) h15, lit_ne (l := [116, 104, 105, 115]) h16, lit_ne (l := [116, 114, 117, 101]) h17, lit_ne (l := [119, 104, 105, 108, 101]) h18⟩)
  go_enter Tryd.func103, Tryd.ntmps103
  go_wp2
  go_ret
  exact ⟨by rw [H.out]; rfl, rfl⟩

/-- a list of texts in memory -/
def Texts (g : Nat) (L : List (List UInt8)) (w : World) : Prop := ∀ (i : Nat) (h : i < L.length), w.cell? ⟨g, i, none⟩ = some (.string ⟨(L[i]).toArray⟩)
def textCells (L : List (List UInt8)) : Array Value := (L.map fun l => Value.string ⟨l.toArray⟩).toArray
theorem texts_new (w : World) (L : List (List UInt8)) (t : TypeId) : Texts w.heap.size L (w.alloc (.cells (textCells L) t)) := by
  intro i h
  rw [World.cell?_alloc_new]
  simp [textCells, h]

end Go.Proofs.YtgdbaceehpcgbaaDoor
