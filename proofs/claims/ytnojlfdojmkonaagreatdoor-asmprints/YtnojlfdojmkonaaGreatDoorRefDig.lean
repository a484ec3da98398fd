/- What the document's Digits answers, for any number. -/
import Derived.Test.YtnojlfdojmkonaaGreatDoorDig
namespace Go.Proofs.YtnojlfdojmkonaaGreatDoor
open Go.RowKit
set_option maxRecDepth 100000

theorem cat_cons (b : UInt8) (l : List UInt8) : (⟨#[b]⟩ : ByteArray) ++ (⟨l.toArray⟩ : ByteArray) = ⟨(b :: l).toArray⟩ := by
  apply ByteArray.ext
  simp

theorem cat_app (a b : List UInt8) : (⟨a.toArray⟩ : ByteArray) ++ (⟨b.toArray⟩ : ByteArray) = ⟨(a ++ b).toArray⟩ := by
  apply ByteArray.ext
  simp

theorem one_string (b : UInt8) (v : Int) (hv : v = (b.toNat : Int)) (wx : World) :
    (convert 48 9 (.slice (some ⟨wx.heap.size, 0, none⟩) 1 1)).run Tryz.prog (wx.alloc (Obj.cells #[.int .u8 v] 5)) = .ok (.string ⟨#[b]⟩) (wx.alloc (Obj.cells #[.int .u8 v] 5)) :=
  run_convert_bytes_back (wx.alloc (Obj.cells #[.int .u8 v] 5)) 48 9 5 ⟨wx.heap.size, 0, none⟩ 1 [b] (by kernel_rfl) (by kernel_rfl) (by kernel_rfl)
    (fun j hj => by
      have : j = 0 := by simpa using hj
      subst this
      simp [Addr.add, hv])

set_option maxHeartbeats 800000 in
theorem refdig_calls (m : Nat) (hm : m ≤ 9223372036854775807) (w : World) :
    Calls Tryz.prog 72 #[.int .i64 m] w fun e w' => e = .returned (.string ⟨(dec 20 m).toArray⟩) ∧ Below w.heap.size w w' := by
  go_enter Tryz.func72, Tryz.ntmps72
  go_wp2
  go_loopw [0, 3, 4] (fun n s k wr => ∃ (j r : Nat) (acc : List UInt8), n = .int .i64 (r : Int) ∧ s = .string ⟨acc.toArray⟩ ∧ k = .int .i64 (j : Int) ∧ r ≤ 9223372036854775807 ∧ (0 < r ∨ j = 0) ∧ Told m j r acc ∧ w.heap.size ≤ wr.heap.size ∧ Below w.heap.size w wr) (fun _ _ k _ => 20 - (intOf k).toNat)
  case atStart => exact ⟨0, m, [], rfl, rfl, rfl, hm, Or.inr rfl, told_start (by omega), Nat.le_refl _, Below.refl _ _⟩
  case round =>
    obtain ⟨j, r, acc, rfl, rfl, rfl, hrm, hgo, ht, hsz, hg⟩ := hrel
    have hj := told_lt ht hgo
    have hl : acc.length ≤ 19 := by have := ht.1; omega
    have hstep := told_step ht hgo
    have hbn := dig_toNat r
    generalize UInt8.ofNat (48 + r % 10) = b at *
    have hcv := one_string b (48 + (r : Int) % 10) (by rw [hbn]; push_cast; rfl) wr
    have Hstep := hid hstep
    have Hg := hid hg
    clear ht hg hbn hstep
    by_cases hz : r / 10 = 0
    · have hz2 : ((r : Int) / 10 == 0) = true := beq_iff_eq.2 (by omega)
      have Hz := hid hz
      clear hz
      go_wp2
      go_ret
      refine ⟨?_, Hg.out.alloc hsz _⟩
      rw [← told_end Hstep.out Hz.out (by omega), ← cat_cons]
      rfl
    · have hz2 : ((r : Int) / 10 == 0) = false := beq_eq_false_iff_ne.2 (by omega)
      go_wp2
      go_roundw
      case rel => exact ⟨j + 1, r / 10, b :: acc, by go_num, by rw [cat_cons], by go_num, by omega, Or.inl (by omega), Hstep.out, by simp; omega, Hg.out.alloc hsz _⟩
      case measure => simp [intOf]; omega

theorem refdigits_calls (n : Int) (h1 : -9223372036854775808 ≤ n) (h2 : n ≤ 9223372036854775807) (w : World) :
    Calls Tryz.prog 55 #[.int .i64 n] w fun e w' => e = .returned (.string ⟨(digs n).toArray⟩) ∧ Below w.heap.size w w' := by
  by_cases h : 0 ≤ n
  · have Hd : Hid (digs n = dec 20 n.natAbs) := hid (by unfold digs; rw [if_neg (by omega)])
    obtain ⟨m, rfl⟩ := Int.eq_ofNat_of_zero_le h
    go_enter Tryz.func55, Tryz.ntmps55
    go_wp2_with fail
    refine (refdig_calls m (by omega) _).mono ?_
    rintro e w1 ⟨rfl, g1⟩
    go_wp2
    go_ret
    exact ⟨by rw [Hd.out]; rfl, g1⟩
  · obtain ⟨m, hm⟩ : ∃ m : Nat, n = -(m : Int) := ⟨n.natAbs, by omega⟩
    have hq : n.tdiv 10 = -((m / 10 : Nat) : Int) := by rw [hm, Int.neg_tdiv]; rfl
    have hr : n.tmod 10 = -((m % 10 : Nat) : Int) := by rw [hm, Int.neg_tmod]; rfl
    have Hq : Hid (wrap64 (-n.tdiv 10) = ((m / 10 : Nat) : Int)) := hid (by rw [hq, Int.neg_neg]; exact IntWalk.wrap64_in _ ⟨by omega, by omega⟩)
    have Hr : Hid (wrap64 (-n.tmod 10) = ((m % 10 : Nat) : Int)) := hid (by rw [hr, Int.neg_neg]; exact IntWalk.wrap64_in _ ⟨by omega, by omega⟩)
    have Hd := hid (digs_neg_small hm (by omega))
    by_cases h10 : m < 10
    · have hz : (n.tdiv 10 == 0) = true := beq_iff_eq.2 (by rw [hq]; omega)
      have hl := dec_length 20 (m % 10)
      have Hm : Hid (m % 10 = m) := hid (by omega)
      clear hq hr hm
      go_enter Tryz.func55, Tryz.ntmps55
      go_wp2_with fail
      rw [Hr.out]
      refine (refdig_calls (m % 10) (by omega) _).mono ?_
      rintro e w1 ⟨rfl, g1⟩
      generalize hA : dec 20 (m % 10) = A at *
      have HA := hid hA
      clear hA
      go_wp2
      go_ret
      refine ⟨?_, g1⟩
      rw [Hd.out, ← Hm.out, HA.out, ← cat_cons]
      rfl
    · have hz : (n.tdiv 10 == 0) = false := beq_eq_false_iff_ne.2 (by rw [hq]; omega)
      have hl := dec_length 20 (m % 10)
      have hl2 := dec_length 20 (m / 10)
      have hb : m ≤ 9223372036854775808 := by omega
      have Hs := hid (dec_split (m := m) (by omega) (by omega))
      clear hq hr hm
      go_enter Tryz.func55, Tryz.ntmps55
      go_wp2_with fail
      rw [Hq.out]
      refine (refdig_calls (m / 10) (by omega) _).mono ?_
      rintro e w1 ⟨rfl, g1⟩
      generalize hA : dec 20 (m / 10) = A at *
      have HA := hid hA
      clear hA
      go_wp2_with fail
      rw [Hr.out]
      refine (refdig_calls (m % 10) (by omega) _).mono ?_
      rintro e w2 ⟨rfl, g2⟩
      generalize hB : dec 20 (m % 10) = B at *
      have HB := hid hB
      clear hB
      go_wp2
      go_ret
      refine ⟨?_, below_on g1 g2⟩
      rw [Hd.out, Hs.out, ← List.cons_append, ← cat_app, ← cat_cons]
      rfl

end Go.Proofs.YtnojlfdojmkonaaGreatDoor
