/- What text.Take answers, for any text: its reader, method by method. -/
import Derived.Test.YtnojlfdojmkonaaGreatDoorJoint3
import Derived.Deep.RegionLaw
namespace Go.Proofs.YtnojlfdojmkonaaGreatDoor
open Go.RowKit

/-- the reader at block b: its text, its place, and the bytes read so far -/
def Rdr (s : ByteArray) (B b k : Nat) (acc : List UInt8) (w : World) : Prop := Has 128 [.string s, .int .i64 (k : Int)] B b acc w

theorem fits_reader : Fits 128 4 := ⟨by kernel_rfl, by decide⟩

/-- the byte at the head; 0 at the end -/
def lookN : List UInt8 → Nat
  | [] => 0
  | c :: _ => c.toNat

theorem Rdr.text {s : ByteArray} {B b k : Nat} {acc : List UInt8} {w : World} (h : Rdr s B b k acc w) : w.cell? ⟨b, 2, none⟩ = some (.string s) := Has.cell (j := 0) h rfl
theorem Rdr.at {s : ByteArray} {B b k : Nat} {acc : List UInt8} {w : World} (h : Rdr s B b k acc w) : w.cell? ⟨b, 3, none⟩ = some (.int .i64 (k : Int)) := Has.cell (j := 1) h rfl
theorem Rdr.drew {s : ByteArray} {B b k : Nat} {acc : List UInt8} {w : World} (h : Rdr s B b k acc w) : Rdr s B b k acc w.drew := Has.drew h
theorem Rdr.on {s : ByteArray} {B b k : Nat} {acc : List UInt8} {w : World} (h : Rdr s B b k acc w) (n : Int) (hn : n = ((k + 1 : Nat) : Int)) : Rdr s B b (k + 1) acc (w.setCell ⟨b, 3, none⟩ (.int .i64 n)) := by
  subst hn
  exact Has.put h 1 _
theorem Rdr.low {s : ByteArray} {B b k : Nat} {acc : List UInt8} {w : World} (h : Rdr s B b k acc w) : B ≤ b := by obtain ⟨_, _, h⟩ := h; exact h.low
theorem Rdr.size {s : ByteArray} {B b k : Nat} {acc : List UInt8} {w : World} (h : Rdr s B b k acc w) : B ≤ w.heap.size := Nat.le_trans h.low (Nat.le_of_lt (Has.lt h))

set_option maxRecDepth 100000 in
theorem look_calls (s : ByteArray) (B b k : Nat) (acc : List UInt8) (hk : k ≤ s.size) (w : World) (h : Rdr s B b k acc w) :
    Calls Tryz.prog 113 #[.pointer (some ⟨b, 0, none⟩)] w fun e w' => e = .returned (.int .u8 (lookN (s.data.toList.drop k) : Int)) ∧ Rdr s B b k acc w' ∧ Below B w w' := by
  have ct := h.text
  have ca := h.at
  have HR := hid h
  by_cases hkl : k < s.size
  · have e1 : ((k : Int) == (s.size : Int)) = false := beq_eq_false_iff_ne.2 (by omega)
    have Hl := hid (show lookN (s.data.toList.drop k) = s[k].toNat by rw [drop_byte s k hkl]; rfl)
    clear h
    go_enter Tryz.func113, Tryz.ntmps113
    go_wp2
    go_region
    all_goals (go_wp2; go_region)
    all_goals (go_wp2; go_ret; exact ⟨by rw [Hl.out]; rfl, HR.out.drew.drew, (Below.refl B w).drew.drew⟩)
  · have e1 : ((k : Int) == (s.size : Int)) = true := beq_iff_eq.2 (by omega)
    have Hl := hid (show lookN (s.data.toList.drop k) = 0 by rw [drop_end s k (by omega)]; rfl)
    clear h
    go_enter Tryz.func113, Tryz.ntmps113
    go_wp2
    go_region
    all_goals (go_wp2; go_ret; exact ⟨by rw [Hl.out]; rfl, HR.out.drew, (Below.refl B w).drew⟩)

set_option maxRecDepth 100000 in
theorem skip_yes (s : ByteArray) (hs : s.size ≤ 1000000) (B b k : Nat) (acc : List UInt8) (c : Nat) (hk : k ≤ s.size) (w : World) (h : Rdr s B b k acc w) (hl : lookN (s.data.toList.drop k) = c) :
    Calls Tryz.prog 104 #[.pointer (some ⟨b, 0, none⟩), .int .u8 (c : Int)] w fun e w' => e = .returned (.bool true) ∧ Rdr s B b (k + 1) acc w' ∧ Below B w w' := by
  have HL := hid hl
  clear hl
  go_enter Tryz.func104, Tryz.ntmps104
  go_wp2_with fail
  refine (look_calls s B b k acc hk _ h).mono ?_
  rintro e w1 ⟨rfl, h1, b1⟩
  rw [HL.out]
  have ca := h1.at
  have fa : w1.frozen? ⟨b, 3, none⟩ = false := Has.free h1 3
  have H1 := hid h1
  have B1 := hid b1
  clear h h1 b1
  go_wp2
  go_ret
  exact ⟨rfl, H1.out.on _ (by go_num), B1.out.setCell (p := ⟨b, 3, none⟩) H1.out.low _⟩

set_option maxRecDepth 100000 in
theorem skip_no (s : ByteArray) (B b k : Nat) (acc : List UInt8) (c : Nat) (hk : k ≤ s.size) (w : World) (h : Rdr s B b k acc w) (hl : lookN (s.data.toList.drop k) ≠ c) :
    Calls Tryz.prog 104 #[.pointer (some ⟨b, 0, none⟩), .int .u8 (c : Int)] w fun e w' => e = .returned (.bool false) ∧ Rdr s B b k acc w' ∧ Below B w w' := by
  go_enter Tryz.func104, Tryz.ntmps104
  go_wp2_with fail
  refine (look_calls s B b k acc hk _ h).mono ?_
  rintro e w1 ⟨rfl, h1, b1⟩
  have e1 : ((lookN (s.data.toList.drop k) : Int) != (c : Int)) = true := bne_iff_ne.2 (by omega)
  have H1 := hid h1
  have B1 := hid b1
  clear h h1 b1
  go_wp2
  go_ret
  exact ⟨rfl, H1.out, B1.out⟩

/-- what worth hands back -/
def wval (n : Nat) : Nat := if worthN n = 16 then 0 else worthN n
def wok (n : Nat) : Bool := decide (worthN n ≠ 16)

theorem wval_of {n m : Nat} (h : worthN n = m) (hm : m ≠ 16) : wval n = m ∧ wok n = true := by
  unfold wval wok; rw [h]; simp [hm]
theorem wval_no {n : Nat} (h : worthN n = 16) : wval n = 0 ∧ wok n = false := by
  unfold wval wok; rw [h]; simp

set_option maxRecDepth 100000 in
theorem worth_calls (n : Nat) (w : World) :
    Calls Tryz.prog 123 #[.int .u8 (n : Int)] w fun e w' => e = .returned (.tuple #[.int .u8 (wval n : Int), .bool (wok n)]) ∧ w = w' := by
  by_cases hd : digitN n
  · have hd2 : 48 ≤ n ∧ n ≤ 57 := by simpa [digitN] using hd
    have H := hid (wval_of (n := n) (m := n - 48) (by unfold worthN; rw [if_pos hd2]) (by omega))
    obtain ⟨d1, d2⟩ := hd2
    go_enter Tryz.func123, Tryz.ntmps123
    go_wp2_with fail
    refine (digit_calls n _).mono ?_
    rintro e w1 ⟨rfl, rfl⟩
    go_wp2
    go_ret2
    refine ⟨?_, rfl⟩
    rw [H.out.1, H.out.2]
    simp
    omega
  · have hd2 : ¬ (48 ≤ n ∧ n ≤ 57) := by simpa [digitN] using hd
    rcases (show n < 65 ∨ (65 ≤ n ∧ n ≤ 70) ∨ (70 < n ∧ n < 97) ∨ (97 ≤ n ∧ n ≤ 102) ∨ 102 < n from by omega) with h | ⟨h1, h2⟩ | ⟨h1, h2⟩ | ⟨h1, h2⟩ | h
    · have H := hid (wval_no (n := n) (by unfold worthN; rw [if_neg hd2, if_neg (by omega), if_neg (by omega)]))
      clear hd2
      go_enter Tryz.func123, Tryz.ntmps123
      go_wp2_with fail
      refine (digit_calls n _).mono ?_
      rintro e w1 ⟨rfl, rfl⟩
      go_wp2
      go_ret2
      exact ⟨by rw [H.out.1, H.out.2]; rfl, rfl⟩
    · have H := hid (wval_of (n := n) (m := n - 55) (by unfold worthN; rw [if_neg hd2, if_neg (by omega), if_pos (by omega)]) (by omega))
      clear hd2
      go_enter Tryz.func123, Tryz.ntmps123
      go_wp2_with fail
      refine (digit_calls n _).mono ?_
      rintro e w1 ⟨rfl, rfl⟩
      go_wp2
      go_ret2
      refine ⟨?_, rfl⟩
      rw [H.out.1, H.out.2]
      simp
      omega
    · have H := hid (wval_no (n := n) (by unfold worthN; rw [if_neg hd2, if_neg (by omega), if_neg (by omega)]))
      have d : decide ((n : Int) ≤ 70) = false := decide_eq_false (by omega)
      clear hd2
      go_enter Tryz.func123, Tryz.ntmps123
      go_wp2_with fail
      refine (digit_calls n _).mono ?_
      rintro e w1 ⟨rfl, rfl⟩
      go_wp2
      go_ret2
      exact ⟨by rw [H.out.1, H.out.2]; rfl, rfl⟩
    · have H := hid (wval_of (n := n) (m := n - 87) (by unfold worthN; rw [if_neg hd2, if_pos (by omega)]) (by omega))
      clear hd2
      go_enter Tryz.func123, Tryz.ntmps123
      go_wp2_with fail
      refine (digit_calls n _).mono ?_
      rintro e w1 ⟨rfl, rfl⟩
      go_wp2
      go_ret2
      refine ⟨?_, rfl⟩
      rw [H.out.1, H.out.2]
      simp
      omega
    · have H := hid (wval_no (n := n) (by unfold worthN; rw [if_neg hd2, if_neg (by omega), if_neg (by omega)]))
      have d : decide ((n : Int) ≤ 70) = false := decide_eq_false (by omega)
      have d2 : decide ((n : Int) ≤ 102) = false := decide_eq_false (by omega)
      clear hd2
      go_enter Tryz.func123, Tryz.ntmps123
      go_wp2_with fail
      refine (digit_calls n _).mono ?_
      rintro e w1 ⟨rfl, rfl⟩
      go_wp2
      go_ret2
      exact ⟨by rw [H.out.1, H.out.2]; rfl, rfl⟩

end Go.Proofs.YtnojlfdojmkonaaGreatDoor
