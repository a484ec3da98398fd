/- What num.Read answers, for any text. -/
import Derived.Test.YtlgfbmfdkkbgaaaNumRead
import Derived.Lib.Strings
namespace Go.Proofs.Ytlgfbmfdkkbgaaa
open Go.RowKit

theorem grown_trans {a b c : World} (h : Grown a b) (k : Grown b c) : Grown a c :=
  ⟨World.keptBut_trans h.1 k.1, fun x => (k.2.1 x).trans (h.2.1 x), Nat.le_trans h.2.2 k.2.2⟩

theorem reading_calls (w : World) :
    Calls Try.prog 28 #[] w fun e w' =>
      e = .returned (.func (.func 31) #[] #[.pointer (some ⟨w.heap.size + 1, 0, none⟩), .pointer (some ⟨w.heap.size, 0, none⟩)]) ∧
        (w.alloc (Obj.cells #[.int .i64 0] 3)).alloc (Obj.cells #[.bool false] 4) = w' := by
  have hmf : ∀ (fn : Fn) (first cap : Array Value) (w : World), (Instr.makeFunc fn first cap).run Try.prog w = .ok (.func fn first cap) w := fun _ _ _ _ => rfl
  go_enter Try.func28, Try.ntmps28
  go_wp2
  go_ret
  exact ⟨rfl, rfl⟩

theorem take_succ_dig (l : List UInt8) (k : Nat) (h : k < l.length) : l.take (k + 1) = l.take k ++ [l[k]] := by
  rw [List.take_succ_eq_append_getElem h]

/-- what the round knows of memory: the two variables of the closure -/
structure Kept (w : World) (n : Int) (ab : Bool) (wr : World) : Prop where
  cn : wr.cell? ⟨w.heap.size, 0, none⟩ = some (.int .i64 n)
  ca : wr.cell? ⟨w.heap.size + 1, 0, none⟩ = some (.bool ab)
  fn : wr.frozen? ⟨w.heap.size, 0, none⟩ = false
  fa : wr.frozen? ⟨w.heap.size + 1, 0, none⟩ = false
  gr : Grown w wr

theorem kept_start (w : World) : Kept w 0 false ((w.alloc (Obj.cells #[.int .i64 0] 3)).alloc (Obj.cells #[.bool false] 4)) where
  cn := by simp
  ca := by simp
  fn := by simp
  fa := by simp
  gr := ((Grown.refl _).alloc _ _).alloc _ _

theorem kept_above {w wr : World} {n : Int} {ab : Bool} (h : Kept w n ab wr) : Kept w n true (wr.setCell ⟨w.heap.size + 1, 0, none⟩ (.bool true)) where
  cn := by rw [World.cell?_setCell_other (h := by simp)]; exact h.cn
  ca := World.cell?_setCell_same' _ _ _ (by rw [h.ca]; rfl)
  fn := by simp [h.fn]
  fa := by simp [h.fa]
  gr := h.gr.setCell (by simp) _

theorem kept_more {w wr : World} {n : Int} {ab : Bool} (h : Kept w n ab wr) (m : Int) : Kept w m ab (wr.setCell ⟨w.heap.size, 0, none⟩ (.int .i64 m)) where
  cn := World.cell?_setCell_same' _ _ _ (by rw [h.cn]; rfl)
  ca := by rw [World.cell?_setCell_other (h := by simp)]; exact h.ca
  fn := by simp [h.fn]
  fa := by simp [h.fa]
  gr := h.gr.setCell (by simp) _

theorem readOut_bad {l : List UInt8} {k : Nat} (h : k < l.length) (hb : isDig l[k] = false) : readOut l = (0, 11) := by
  have : l.all isDig = false := by
    rw [List.all_eq_false]
    exact ⟨l[k], List.getElem_mem h, by simp [hb]⟩
  simp [readOut, this]

theorem readOut_good {l : List UInt8} (h : l ≠ []) (hall : l.all isDig = true) : readOut l = rout (rst l) := by
  unfold readOut
  rw [hall]
  cases l with
  | nil => exact absurd rfl h
  | cons => rfl

set_option maxHeartbeats 800000 in
theorem read_calls (s : ByteArray) (hs : s.size ≤ 4611686018427387903) (w : World) :
    Calls Try.prog 24 #[.string s] w fun e w' =>
      e = .returned (.tuple #[.int .i64 (readOut s.data.toList).1, .int .i64 (readOut s.data.toList).2]) ∧ Grown w w' := by
  by_cases h0 : s.size = 0
  · have he : s.data.toList = [] := by
      have : s.data.toList.length = 0 := by simpa using h0
      exact List.length_eq_zero_iff.1 this
    have he2 : s.toList.isEmpty = true := by
      rw [Lib.toList_data, he]; rfl
    go_enter Try.func24, Try.ntmps24
    go_wp2
    go_ret2
    exact ⟨by rw [he]; rfl, Grown.refl _⟩
  · have he2 : s.toList.isEmpty = false := by
      rw [Lib.toList_data]
      cases h : s.data.toList with
      | nil => exact absurd (show s.size = 0 from by have : s.data.toList.length = 0 := by rw [h]; rfl
                                                     simpa using this) h0
      | cons => rfl
    go_enter Try.func24, Try.ntmps24
    go_wp2_with (go_at_call 28; refine (reading_calls _).mono ?_; rintro e w' ⟨rfl, rfl⟩)
    go_loopw [5, 6, 7] (fun n e i wr => ∃ k : Nat, k ≤ s.size ∧ i = .int .i64 k ∧ n = .int .i64 (rout (rst (s.data.toList.take k))).1 ∧ e = .int .i64 (rout (rst (s.data.toList.take k))).2 ∧
        (s.data.toList.take k).all isDig = true ∧ Kept w (rst (s.data.toList.take k)).1 (rst (s.data.toList.take k)).2 wr) (fun _ _ i _ => s.size - (intOf i).toNat)
    case atStart => exact ⟨0, Nat.zero_le _, rfl, rfl, rfl, rfl, kept_start w⟩
    case round =>
      obtain ⟨k, hk, rfl, rfl, rfl, hall, hkept⟩ := hrel
      by_cases hkl : k < s.size
      · have hbs : k < s.data.toList.length := by simpa using hkl
        have hget : s.data.toList[k] = s[k] := by rw [Array.getElem_toList]; rfl
        have hlast := take_succ_dig _ k hbs
        rw [hget] at hlast
        rcases (show s[k].toNat < 48 ∨ 57 < s[k].toNat ∨ (48 ≤ s[k].toNat ∧ s[k].toNat ≤ 57) from by omega) with hl | hh | hd
        · have hbad : readOut s.data.toList = (0, 11) := readOut_bad hbs (by rw [hget]; simp [isDig]; omega)
          have Hbad : Hid (readOut s.data.toList = (0, 11)) := hbad
          clear hbad hlast hget
          go_wp2
          go_ret2
          exact ⟨by rw [Hbad.out]; rfl, hkept.gr⟩
        · have hbad : readOut s.data.toList = (0, 11) := readOut_bad hbs (by rw [hget]; simp [isDig]; omega)
          have Hbad : Hid (readOut s.data.toList = (0, 11)) := hbad
          clear hbad hlast hget
          go_wp2
          go_ret2
          exact ⟨by rw [Hbad.out]; rfl, hkept.gr⟩
        · obtain ⟨d0, d9⟩ := hd
          have hb := rst_bounds _ hall
          have hdig : isDig s[k] = true := by simp [isDig]; omega
          have hall' : (s.data.toList.take (k + 1)).all isDig = true := by rw [hlast, List.all_append, hall]; simp [hdig]
          have hnext : rst (s.data.toList.take (k + 1)) = rstep (rst (s.data.toList.take k)) ((s[k].toNat : Int) - 48) := by rw [hlast, rst_snoc]
          by_cases hab : (rst (s.data.toList.take k)).2 = true ∨ (4611686018427387903 - ((s[k].toNat : Int) - 48)) / 10 < (rst (s.data.toList.take k)).1
          · have hst : rstep (rst (s.data.toList.take k)) ((s[k].toNat : Int) - 48) = ((rst (s.data.toList.take k)).1, true) := by unfold rstep; rw [if_pos hab]
            have R : Hid (∀ wx, wr.setCell ⟨w.heap.size + 1, 0, none⟩ (.bool true) = wx → Kept w (rst (s.data.toList.take (k + 1))).1 (rst (s.data.toList.take (k + 1))).2 wx) := by
              rintro wx rfl; rw [hnext, hst]; exact kept_above hkept
            have Hout : Hid (rout (rst (s.data.toList.take (k + 1))) = (0, 10)) := by
              show rout (rst (s.data.toList.take (k + 1))) = (0, 10)
              rw [hnext, hst]; rfl
            have Hab : Hid ((rst (s.data.toList.take k)).2 = true ∨ (4611686018427387903 - ((s[k].toNat : Int) - 48)) / 10 < (rst (s.data.toList.take k)).1) := hab
            have Hk : Hid (Kept w (rst (s.data.toList.take k)).1 (rst (s.data.toList.take k)).2 wr) := hkept
            have Hall : Hid ((s.data.toList.take (k + 1)).all isDig = true) := hall'
            clear hlast hget hnext hst hall hall' hab hkept hb hdig
            go_wp2_with fail
            refine (take_above _ _ _ _ _ _ Hk.out.cn Hk.out.ca Hk.out.fa (by omega) (by omega) Hab.out).mono ?_
            rintro e w1 ⟨rfl, hw⟩
            have R1 : Hid (Kept w (rst (s.data.toList.take (k + 1))).1 (rst (s.data.toList.take (k + 1))).2 w1) := R.out w1 hw
            clear R hw Hab Hk
            go_wp2
            go_roundw
            case rel => exact ⟨k + 1, by omega, by go_num, by rw [Hout.out], by rw [Hout.out], Hall.out, R1.out⟩
            case measure => simp [intOf]; omega
          · have hb2 : (rst (s.data.toList.take k)).2 = false := by
              cases hx : (rst (s.data.toList.take k)).2 with
              | false => rfl
              | true => exact absurd (Or.inl hx) hab
            have hle : (rst (s.data.toList.take k)).1 ≤ (4611686018427387903 - ((s[k].toNat : Int) - 48)) / 10 := by
              rw [hb2] at hab; simp at hab; omega
            have hst : rstep (rst (s.data.toList.take k)) ((s[k].toNat : Int) - 48) = (10 * (rst (s.data.toList.take k)).1 + ((s[k].toNat : Int) - 48), false) := by unfold rstep; rw [if_neg hab]
            have R : Hid (∀ wx, wr.setCell ⟨w.heap.size, 0, none⟩ (.int .i64 (10 * (rst (s.data.toList.take k)).1 + ((s[k].toNat : Int) - 48))) = wx → Kept w (rst (s.data.toList.take (k + 1))).1 (rst (s.data.toList.take (k + 1))).2 wx) := by
              rintro wx rfl; rw [hnext, hst]; rw [hb2] at hkept; exact kept_more hkept _
            have Hout : Hid (rout (rst (s.data.toList.take (k + 1))) = (10 * (rst (s.data.toList.take k)).1 + ((s[k].toNat : Int) - 48), 0)) := by
              show rout (rst (s.data.toList.take (k + 1))) = (10 * (rst (s.data.toList.take k)).1 + ((s[k].toNat : Int) - 48), 0)
              rw [hnext, hst]; rfl
            have Hk : Hid (Kept w (rst (s.data.toList.take k)).1 false wr) := by rw [hb2] at hkept; exact hkept
            have Hle : Hid ((rst (s.data.toList.take k)).1 ≤ (4611686018427387903 - ((s[k].toNat : Int) - 48)) / 10) := hle
            have Hb : Hid (0 ≤ (rst (s.data.toList.take k)).1) := hb.1
            have Hall : Hid ((s.data.toList.take (k + 1)).all isDig = true) := hall'
            clear hlast hget hnext hst hall hall' hab hkept hb hdig hb2 hle
            go_wp2_with fail
            refine (take_more _ _ _ _ _ Hk.out.cn Hk.out.ca Hk.out.fn (by omega) (by omega) Hb.out Hle.out).mono ?_
            rintro e w1 ⟨rfl, hw⟩
            have R1 : Hid (Kept w (rst (s.data.toList.take (k + 1))).1 (rst (s.data.toList.take (k + 1))).2 w1) := R.out w1 hw
            clear R hw Hk Hle Hb
            go_wp2
            go_roundw
            case rel => exact ⟨k + 1, by omega, by go_num, by rw [Hout.out], by rw [Hout.out], Hall.out, R1.out⟩
            case measure => simp [intOf]; omega
      · have hke : s.data.toList.length = k := by simp; omega
        have hfull : readOut s.data.toList = rout (rst (s.data.toList.take k)) := by
          rw [← hke, List.take_length]
          refine readOut_good ?_ ?_
          · intro h; rw [h] at hke; simp at hke; omega
          · rw [← hke, List.take_length] at hall; exact hall
        have Hfull : Hid (readOut s.data.toList = rout (rst (s.data.toList.take k))) := hfull
        have Hgr : Hid (Grown w wr) := hkept.gr
        clear hfull hke hall hkept
        go_wp2
        go_ret2
        exact ⟨by rw [Hfull.out]; rfl, Hgr.out⟩

end Go.Proofs.Ytlgfbmfdkkbgaaa
