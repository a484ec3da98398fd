/- What num.Read and the document's Read answer, for any text (NumRead, NumReads and RefNum's Read again, for cuts without num's other functions, ending in Below). What the document's Digits answers, for any number. -/
import Derived.Test.YtnojlfdojmkonaaGreatDoorProg
import Derived.Test.YtnojlfdojmkonaaGreatDoorJoint1
import Derived.Lib.Strings
import Derived.Test.YtnojlfdojmkonaaGreatDoorDig
namespace Go.Proofs.YtnojlfdojmkonaaGreatDoor
open Go.RowKit

/-- what the round knows of memory: the two variables of the closure -/
structure KeptR (w : World) (n : Int) (ab : Bool) (wr : World) : Prop where
  cn : wr.cell? ⟨w.heap.size, 0, none⟩ = some (.int .i64 n)
  ca : wr.cell? ⟨w.heap.size + 1, 0, none⟩ = some (.bool ab)
  fn : wr.frozen? ⟨w.heap.size, 0, none⟩ = false
  fa : wr.frozen? ⟨w.heap.size + 1, 0, none⟩ = false
  gr : Below w.heap.size w wr

theorem kept_start (w : World) : KeptR w 0 false ((w.alloc (Obj.cells #[.int .i64 0] 3)).alloc (Obj.cells #[.bool false] 4)) where
  cn := by simp
  ca := by simp
  fn := by simp
  fa := by simp
  gr := ((Below.refl _ _).alloc (Nat.le_refl _) _).alloc (by simp) _

theorem kept_above {w wr : World} {n : Int} {ab : Bool} (h : KeptR w n ab wr) : KeptR w n true (wr.setCell ⟨w.heap.size + 1, 0, none⟩ (.bool true)) where
  cn := by rw [World.cell?_setCell_other (h := by simp)]; exact h.cn
  ca := World.cell?_setCell_same' _ _ _ (by rw [h.ca]; rfl)
  fn := by simp [h.fn]
  fa := by simp [h.fa]
  gr := h.gr.setCell (by simp) _

theorem kept_more {w wr : World} {n : Int} {ab : Bool} (h : KeptR w n ab wr) (m : Int) : KeptR w m ab (wr.setCell ⟨w.heap.size, 0, none⟩ (.int .i64 m)) where
  cn := World.cell?_setCell_same' _ _ _ (by rw [h.cn]; rfl)
  ca := by rw [World.cell?_setCell_other (h := by simp)]; exact h.ca
  fn := by simp [h.fn]
  fa := by simp [h.fa]
  gr := h.gr.setCell (by simp) _

set_option maxHeartbeats 800000 in
theorem refread_calls (s : ByteArray) (hs : s.size ≤ 4611686018427387903) (w : World) :
    Calls Tryz.prog 83 #[.string s] w fun e w' =>
      e = .returned (.tuple #[.int .i64 (readOut s.data.toList).1, .int .i64 (readOut s.data.toList).2]) ∧ w = w' := by
  go_enter Tryz.func83, Tryz.ntmps83
  go_wp2
  go_loop [4, 5, 6, 7] (fun n big i d => ∃ k : Nat, k ≤ s.size ∧ i = .int .i64 k ∧ n = .int .i64 (rst (s.data.toList.take k)).1 ∧ big = .bool (rst (s.data.toList.take k)).2 ∧
      (s.data.toList.take k).all isDig = true) (fun _ _ i _ => s.size - (intOf i).toNat)
  case atStart => exact ⟨0, Nat.zero_le _, rfl, rfl, rfl, rfl⟩
  case round =>
    obtain ⟨k, hk, rfl, rfl, rfl, hall⟩ := hrel
    by_cases hkl : k < s.size
    · have hbs : k < s.data.toList.length := by simpa using hkl
      have hget : s.data.toList[k] = s[k] := by rw [Array.getElem_toList]; rfl
      have hlast := take_succ_dig _ k hbs
      rw [hget] at hlast
      rcases (show s[k].toNat < 48 ∨ 57 < s[k].toNat ∨ (48 ≤ s[k].toNat ∧ s[k].toNat ≤ 57) from by omega) with hl | hh | hd
      · have Hbad := hid (readOut_bad hbs (by rw [hget]; simp [isDig]; omega))
        clear hlast hget hall
        go_wp2
        go_ret2
        exact ⟨by rw [Hbad.out]; rfl, rfl⟩
      · have Hbad := hid (readOut_bad hbs (by rw [hget]; simp [isDig]; omega))
        clear hlast hget hall
        go_wp2
        go_ret2
        exact ⟨by rw [Hbad.out]; rfl, rfl⟩
      · obtain ⟨d0, d9⟩ := hd
        have hb := rst_bounds _ hall
        have hdig : isDig s[k] = true := by simp [isDig]; omega
        have hall' : (s.data.toList.take (k + 1)).all isDig = true := by rw [hlast, List.all_append, hall]; simp [hdig]
        have hnext : rst (s.data.toList.take (k + 1)) = rstep (rst (s.data.toList.take k)) ((s[k].toNat : Int) - 48) := by rw [hlast, rst_snoc]
        have Hall := hid hall'
        clear hlast hget hall hall' hdig
        generalize hst0 : rst (s.data.toList.take k) = st at *
        obtain ⟨n, ab⟩ := st
        simp only at hb
        cases ab
        · by_cases hab : (4611686018427387903 - ((s[k].toNat : Int) - 48)) / 10 < n
          · have Hst : Hid (rst (s.data.toList.take (k + 1)) = (n, true)) := by
              refine hid ?_
              rw [hnext]; unfold rstep; rw [if_pos (Or.inr hab)]
            clear hnext hst0
            go_wp2
            go_round
            case rel => exact ⟨k + 1, by omega, by go_num, by rw [Hst.out], by rw [Hst.out], Hall.out⟩
            case measure => simp [intOf]; omega
          · have Hst : Hid (rst (s.data.toList.take (k + 1)) = (10 * n + ((s[k].toNat : Int) - 48), false)) := by
              refine hid ?_
              rw [hnext]; unfold rstep; rw [if_neg (by simp; omega)]
            clear hnext hst0
            go_wp2
            go_round
            case rel => exact ⟨k + 1, by omega, by go_num, by rw [Hst.out]; simp; omega, by rw [Hst.out], Hall.out⟩
            case measure => simp [intOf]; omega
        · have Hst : Hid (rst (s.data.toList.take (k + 1)) = (n, true)) := by
            refine hid ?_
            rw [hnext]; unfold rstep; rw [if_pos (Or.inl rfl)]
          clear hnext hst0
          go_wp2
          go_round
          case rel => exact ⟨k + 1, by omega, by go_num, by rw [Hst.out], by rw [Hst.out], Hall.out⟩
          case measure => simp [intOf]; omega
    · have hke : s.data.toList.length = k := by simp; omega
      by_cases h0 : k = 0
      · have Hout : Hid (readOut s.data.toList = (0, 11)) := by
          refine hid ?_
          rw [h0] at hke
          rw [List.length_eq_zero_iff.1 hke]; rfl
        have hz : s.size = 0 := by omega
        have hz2 : ((s.size : Int) == 0) = true := by simp [hz]
        clear hke hall hz
        go_wp2
        go_ret2
        exact ⟨by rw [Hout.out]; rfl, rfl⟩
      · have hfull : readOut s.data.toList = rout (rst (s.data.toList.take k)) := by
          rw [← hke, List.take_length]
          refine readOut_good ?_ ?_
          · intro h; rw [h] at hke; simp at hke; omega
          · rw [← hke, List.take_length] at hall; exact hall
        have hz2 : ((s.size : Int) == 0) = false := beq_eq_false_iff_ne.2 (by omega)
        generalize hst0 : rst (s.data.toList.take k) = st at *
        obtain ⟨n, ab⟩ := st
        have Hfull := hid hfull
        clear hfull hke hall hst0
        cases ab
        · go_wp2
          go_ret2
          exact ⟨by rw [Hfull.out]; rfl, rfl⟩
        · go_wp2
          go_ret2
          exact ⟨by rw [Hfull.out]; rfl, rfl⟩

end Go.Proofs.YtnojlfdojmkonaaGreatDoor

namespace Go.Proofs.YtnojlfdojmkonaaGreatDoor
open Go.RowKit
set_option maxRecDepth 100000

theorem cat_cons (b : UInt8) (l : List UInt8) : (⟨#[b]⟩ : ByteArray) ++ (⟨l.toArray⟩ : ByteArray) = ⟨(b :: l).toArray⟩ := by
  apply ByteArray.ext
  simp

theorem cat_app (a b : List UInt8) : (⟨a.toArray⟩ : ByteArray) ++ (⟨b.toArray⟩ : ByteArray) = ⟨(a ++ b).toArray⟩ := by
  apply ByteArray.ext
  simp

theorem one_string (b : UInt8) (v : Int) (hv : v = (b.toNat : Int)) (wx : World) :
    (convert 48 9 (.slice (some ⟨wx.heap.size, 0, none⟩) 1 1)).run Tryz.prog (wx.alloc (Obj.cells #[.int .u8 v] 5)) = .ok (.string ⟨#[b]⟩) (wx.alloc (Obj.cells #[.int .u8 v] 5)) :=
  run_convert_bytes_back (wx.alloc (Obj.cells #[.int .u8 v] 5)) 48 9 5 ⟨wx.heap.size, 0, none⟩ 1 [b] (by kernel_rfl) (by kernel_rfl) (by kernel_rfl)
    (fun j hj => by
      have : j = 0 := by simpa using hj
      subst this
      simp [Addr.add, hv])

set_option maxHeartbeats 800000 in
theorem refdig_calls (m : Nat) (hm : m ≤ 9223372036854775807) (w : World) :
    Calls Tryz.prog 72 #[.int .i64 m] w fun e w' => e = .returned (.string ⟨(dec 20 m).toArray⟩) ∧ Below w.heap.size w w' := by
  go_enter Tryz.func72, Tryz.ntmps72
  go_wp2
  go_loopw [0, 3, 4] (fun n s k wr => ∃ (j r : Nat) (acc : List UInt8), n = .int .i64 (r : Int) ∧ s = .string ⟨acc.toArray⟩ ∧ k = .int .i64 (j : Int) ∧ r ≤ 9223372036854775807 ∧ (0 < r ∨ j = 0) ∧ Told m j r acc ∧ w.heap.size ≤ wr.heap.size ∧ Below w.heap.size w wr) (fun _ _ k _ => 20 - (intOf k).toNat)
  case atStart => exact ⟨0, m, [], rfl, rfl, rfl, hm, Or.inr rfl, told_start (by omega), Nat.le_refl _, Below.refl _ _⟩
  case round =>
    obtain ⟨j, r, acc, rfl, rfl, rfl, hrm, hgo, ht, hsz, hg⟩ := hrel
    have hj := told_lt ht hgo
    have hl : acc.length ≤ 19 := by have := ht.1; omega
    have hstep := told_step ht hgo
    have hbn := dig_toNat r
    generalize UInt8.ofNat (48 + r % 10) = b at *
    have hcv := one_string b (48 + (r : Int) % 10) (by rw [hbn]; push_cast; rfl) wr
    have Hstep := hid hstep
    have Hg := hid hg
    clear ht hg hbn hstep
    by_cases hz : r / 10 = 0
    · have hz2 : ((r : Int) / 10 == 0) = true := beq_iff_eq.2 (by omega)
      have Hz := hid hz
      clear hz
      go_wp2
      go_ret
      refine ⟨?_, Hg.out.alloc hsz _⟩
      rw [← told_end Hstep.out Hz.out (by omega), ← cat_cons]
      rfl
    · have hz2 : ((r : Int) / 10 == 0) = false := beq_eq_false_iff_ne.2 (by omega)
      go_wp2
      go_roundw
      case rel => exact ⟨j + 1, r / 10, b :: acc, by go_num, by rw [cat_cons], by go_num, by omega, Or.inl (by omega), Hstep.out, by simp; omega, Hg.out.alloc hsz _⟩
      case measure => simp [intOf]; omega

theorem refdigits_calls (n : Int) (h1 : -9223372036854775808 ≤ n) (h2 : n ≤ 9223372036854775807) (w : World) :
    Calls Tryz.prog 55 #[.int .i64 n] w fun e w' => e = .returned (.string ⟨(digs n).toArray⟩) ∧ Below w.heap.size w w' := by
  by_cases h : 0 ≤ n
  · have Hd : Hid (digs n = dec 20 n.natAbs) := hid (by unfold digs; rw [if_neg (by omega)])
    obtain ⟨m, rfl⟩ := Int.eq_ofNat_of_zero_le h
    go_enter Tryz.func55, Tryz.ntmps55
    go_wp2_with fail
    refine (refdig_calls m (by omega) _).mono ?_
    rintro e w1 ⟨rfl, g1⟩
    go_wp2
    go_ret
    exact ⟨by rw [Hd.out]; rfl, g1⟩
  · obtain ⟨m, hm⟩ : ∃ m : Nat, n = -(m : Int) := ⟨n.natAbs, by omega⟩
    have hq : n.tdiv 10 = -((m / 10 : Nat) : Int) := by rw [hm, Int.neg_tdiv]; rfl
    have hr : n.tmod 10 = -((m % 10 : Nat) : Int) := by rw [hm, Int.neg_tmod]; rfl
    have Hq : Hid (wrap64 (-n.tdiv 10) = ((m / 10 : Nat) : Int)) := hid (by rw [hq, Int.neg_neg]; exact IntWalk.wrap64_in _ ⟨by omega, by omega⟩)
    have Hr : Hid (wrap64 (-n.tmod 10) = ((m % 10 : Nat) : Int)) := hid (by rw [hr, Int.neg_neg]; exact IntWalk.wrap64_in _ ⟨by omega, by omega⟩)
    have Hd := hid (digs_neg_small hm (by omega))
    by_cases h10 : m < 10
    · have hz : (n.tdiv 10 == 0) = true := beq_iff_eq.2 (by rw [hq]; omega)
      have hl := dec_length 20 (m % 10)
      have Hm : Hid (m % 10 = m) := hid (by omega)
      clear hq hr hm
      go_enter Tryz.func55, Tryz.ntmps55
      go_wp2_with fail
      rw [Hr.out]
      refine (refdig_calls (m % 10) (by omega) _).mono ?_
      rintro e w1 ⟨rfl, g1⟩
      generalize hA : dec 20 (m % 10) = A at *
      have HA := hid hA
      clear hA
      go_wp2
      go_ret
      refine ⟨?_, g1⟩
      rw [Hd.out, ← Hm.out, HA.out, ← cat_cons]
      rfl
    · have hz : (n.tdiv 10 == 0) = false := beq_eq_false_iff_ne.2 (by rw [hq]; omega)
      have hl := dec_length 20 (m % 10)
      have hl2 := dec_length 20 (m / 10)
      have hb : m ≤ 9223372036854775808 := by omega
      have Hs := hid (dec_split (m := m) (by omega) (by omega))
      clear hq hr hm
      go_enter Tryz.func55, Tryz.ntmps55
      go_wp2_with fail
      rw [Hq.out]
      refine (refdig_calls (m / 10) (by omega) _).mono ?_
      rintro e w1 ⟨rfl, g1⟩
      generalize hA : dec 20 (m / 10) = A at *
      have HA := hid hA
      clear hA
      go_wp2_with fail
      rw [Hr.out]
      refine (refdig_calls (m % 10) (by omega) _).mono ?_
      rintro e w2 ⟨rfl, g2⟩
      generalize hB : dec 20 (m % 10) = B at *
      have HB := hid hB
      clear hB
      go_wp2
      go_ret
      refine ⟨?_, below_on g1 g2⟩
      rw [Hd.out, Hs.out, ← List.cons_append, ← cat_app, ← cat_cons]
      rfl

end Go.Proofs.YtnojlfdojmkonaaGreatDoor
