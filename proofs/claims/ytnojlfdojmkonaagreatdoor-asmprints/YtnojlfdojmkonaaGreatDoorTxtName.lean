/- What text.IsName and the document's answer, for any text. -/
import Derived.Test.YtnojlfdojmkonaaGreatDoorTxtQuote
namespace Go.Proofs.YtnojlfdojmkonaaGreatDoor
open Go.RowKit

theorem digit_calls (n : Nat) (w : World) :
    Calls Tryz.prog 125 #[.int .u8 (n : Int)] w fun e w' => e = .returned (.bool (digitN n)) ∧ w = w' := by
  rcases (show n < 48 ∨ (48 ≤ n ∧ n ≤ 57) ∨ 57 < n from by omega) with h | ⟨h1, h2⟩ | h
  · have H := hid (show digitN n = false by simp [digitN]; omega)
    go_enter Tryz.func125, Tryz.ntmps125
    go_wp2
    go_ret
    exact ⟨by rw [H.out]; rfl, rfl⟩
  · have H := hid (show digitN n = true by simp [digitN]; omega)
    have d : decide ((n : Int) ≤ 57) = true := decide_eq_true (by omega)
    go_enter Tryz.func125, Tryz.ntmps125
    go_wp2
    go_ret
    exact ⟨by rw [H.out]; rfl, rfl⟩
  · have H := hid (show digitN n = false by simp [digitN]; omega)
    have d : decide ((n : Int) ≤ 57) = false := decide_eq_false (by omega)
    go_enter Tryz.func125, Tryz.ntmps125
    go_wp2
    go_ret
    exact ⟨by rw [H.out]; rfl, rfl⟩

def ld (c : UInt8) : Bool := letterN c.toNat || digitN c.toNat

theorem nameB_empty {s : ByteArray} (h : s.size = 0) : nameB s.data.toList = false := by
  have : s.data.toList = [] := List.length_eq_zero_iff.1 (by rw [list_size]; exact h)
  rw [this]; rfl
theorem nameB_long {s : ByteArray} (h : 12 < s.size) : nameB s.data.toList = false := by
  have hl := list_size s
  cases hs : s.data.toList with
  | nil => rfl
  | cons c r => rw [hs] at hl; simp at hl; simp [nameB]; omega
theorem nameB_first {s : ByteArray} (h : 0 < s.size) (hl : letterN s[0].toNat = false) : nameB s.data.toList = false := by
  have := drop_byte s 0 h
  rw [List.drop_zero] at this
  rw [this]; simp [nameB, hl]
theorem digit_no_letter {n : Nat} (h : digitN n = true) : letterN n = false := by
  simp [digitN] at h
  simp [letterN]; omega
theorem nameB_bad {s : ByteArray} {k : Nat} (h : k < s.size) (hb : ld s[k] = false) : nameB s.data.toList = false := by
  have hm : s[k] ∈ s.data.toList := by
    have := drop_byte s k h
    have h2 : s[k] ∈ s.data.toList.drop k := by rw [this]; simp
    exact List.mem_of_mem_drop h2
  cases hs : s.data.toList with
  | nil => rfl
  | cons c r =>
    rw [hs] at hm
    rcases List.mem_cons.1 hm with hc | hr
    · have : letterN c.toNat = false := by rw [← hc]; simp [ld] at hb; exact hb.1
      simp [nameB, this]
    · have : r.all (fun x => letterN x.toNat || digitN x.toNat) = false := by
        rw [List.all_eq_false]; exact ⟨_, hr, by simp [ld] at hb; simp [hb]⟩
      simp [nameB, this]
theorem nameB_good {s : ByteArray} (h : 0 < s.size) (h12 : s.size ≤ 12) (hl : letterN s[0].toNat = true) (ha : (s.data.toList.drop 1).all ld = true) : nameB s.data.toList = true := by
  have hlen := list_size s
  have := drop_byte s 0 h
  rw [List.drop_zero] at this
  rw [this] at hlen ⊢
  simp only [List.length_cons] at hlen
  have ha' : (s.data.toList.drop (0 + 1)).all (fun x => letterN x.toNat || digitN x.toNat) = true := ha
  simp only [nameB, hl, ha', Bool.true_and]
  simp at hlen ⊢; omega

theorem all_byte {s : ByteArray} {k : Nat} (h : k < s.size) (ha : (s.data.toList.take k).all ld = true) (hb : ld s[k] = true) : (s.data.toList.take (k + 1)).all ld = true := by
  rw [take_byte s k h, List.all_append, ha]; simp [hb]

end Go.Proofs.YtnojlfdojmkonaaGreatDoor
