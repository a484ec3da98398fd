/- What num.Digits answers, for any number. -/
import Derived.Test.YtimhgbcanmgajaaGreatProg
import Derived.Test.YtimhgbcanmgajaaGreatJoint1
import Derived.Lib.Strings
namespace Go.Proofs.YtimhgbcanmgajaaGreat
set_option maxRecDepth 100000
open Go.RowKit

theorem neg_u64 {n : Int} (h : n < 0) (h1 : -9223372036854775808 ≤ n) : IntKind.u64.wrap (-IntKind.u64.wrap n) = (n.natAbs : Int) := by
  simp [IntKind.wrap, IntKind.signed, IntKind.bits]; omega

theorem size_calls (n : Int) (h1 : -9223372036854775808 ≤ n) (h2 : n ≤ 9223372036854775807) (w : World) :
    Calls Tryz.prog 161 #[.int .i64 n] w fun e w' => e = .returned (.int .u64 (n.natAbs : Int)) ∧ w = w' := by
  by_cases h : n < 0
  · go_enter Tryz.func161, Tryz.ntmps161
    go_wp2
    go_ret
    exact ⟨by rw [neg_u64 h h1]; rfl, rfl⟩
  · go_enter Tryz.func161, Tryz.ntmps161
    go_wp2
    go_ret
    exact ⟨by rw [show (n.natAbs : Int) = n from by omega]; rfl, rfl⟩

/-- the array of the call: its last cells are acc -/
structure Room (w : World) (acc : List UInt8) (wr : World) : Prop where
  cell : ∀ i, i < 20 → ∃ v, wr.cell? ⟨w.heap.size, i, none⟩ = some (.int .u8 v)
  told : ∀ j (hj : j < acc.length), wr.cell? ⟨w.heap.size, 20 - acc.length + j, none⟩ = some (.int .u8 (acc[j].toNat : Int))
  free : ∀ i, i < 20 → wr.frozen? ⟨w.heap.size, i, none⟩ = false
  low : w.heap.size < wr.heap.size
  gr : Below w.heap.size w wr

theorem room_start (w : World) (c : Array Value) (hc : c = (List.replicate 20 (Value.int .u8 0)).toArray) : Room w [] (w.alloc (Obj.cells c 261)) where
  cell := fun i hi => ⟨0, by subst hc; rw [World.cell?_alloc_new, List.getElem?_toArray, List.getElem?_replicate, if_pos hi]⟩
  told := fun j hj => absurd hj (by simp)
  free := fun i _ => by simp
  low := by simp
  gr := (Below.refl _ _).alloc (Nat.le_refl _) _

theorem room_step {w wr : World} {acc : List UInt8} (h : Room w acc wr) (hl : acc.length < 20) (b : UInt8) (at' : Nat) (hat : at' = 19 - acc.length) (v : Int) (hv : v = (b.toNat : Int)) :
    Room w (b :: acc) (wr.setCell ⟨w.heap.size, at', none⟩ (.int .u8 v)) where
  cell := fun i hi => by
    by_cases h' : i = at'
    · subst h'
      obtain ⟨u, hu⟩ := h.cell i hi
      exact ⟨v, World.cell?_setCell_same' _ _ _ (by rw [hu]; rfl)⟩
    · have hne : (⟨w.heap.size, at', none⟩ : Addr) ≠ ⟨w.heap.size, i, none⟩ := fun e => h' (by injection e with _ e2; exact e2.symm)
      rw [World.cell?_setCell_other (h := hne)]; exact h.cell i hi
  told := fun j hj => by
    simp only [List.length_cons] at hj ⊢
    match j, hj with
    | 0, _ =>
      have e : 20 - (acc.length + 1) + 0 = at' := by omega
      rw [e]
      obtain ⟨u, hu⟩ := h.cell at' (by omega)
      rw [World.cell?_setCell_same' _ _ _ (by rw [hu]; rfl), hv]; rfl
    | j + 1, hj =>
      have e : 20 - (acc.length + 1) + (j + 1) = 20 - acc.length + j := by omega
      have hne : (⟨w.heap.size, at', none⟩ : Addr) ≠ ⟨w.heap.size, 20 - acc.length + j, none⟩ := fun e => by injection e with _ e2; omega
      rw [e, World.cell?_setCell_other (h := hne)]
      simpa using h.told j (by omega)
  free := fun i hi => by simp [h.free i hi]
  low := by simpa [World.setCell] using h.low
  gr := h.gr.setCell (Nat.le_refl _) _

theorem room_slice (B p : Nat) (i : Int) (hi : i = (p : Int)) (hp : p < 20) (n : Nat) (hn : n = 20 - p) (w : World) :
    (Instr.sliceAt 261 (.pointer (some ⟨B, 0, none⟩)) (some (.int .i64 i)) (some (.int .i64 20)) (some (.int .i64 20))).run Tryz.prog w = .ok (.slice (some ⟨B, p, none⟩) n n) w := by
  have hl : Tryz.prog.arrayLen 261 = 20 := by kernel_rfl
  have hu : Tryz.prog.underlying 261 = some (.array (Tryz.prog.arrayLen 261) (Tryz.prog.elem 261)) := by kernel_rfl
  have hz : (sizeOf (Tryz.prog.elem 261)).run Tryz.prog w = .ok 1 w := by kernel_rfl
  subst hi hn
  rw [run_sliceAt_array_lhm w _ _ hu .i64 .i64 .i64 (p : Int) 20 20 (by omega) (by omega) (by omega) (by rw [hl]; decide), hz]
  simp only [Result.andThen, slicedAt]
  rw [if_neg (by simp; omega)]
  simp [Addr.add]
  omega

theorem room_string {w wr : World} {acc : List UInt8} (h : Room w acc wr) (c : Nat) :
    (convert 116 9 (.slice (some ⟨w.heap.size, 20 - acc.length, none⟩) acc.length c)).run Tryz.prog wr = .ok (.string ⟨acc.toArray⟩) wr :=
  run_convert_bytes_back wr 116 9 5 ⟨w.heap.size, 20 - acc.length, none⟩ c acc (by kernel_rfl) (by kernel_rfl) (by kernel_rfl)
    (fun j hj => by
      have e : (⟨w.heap.size, 20 - acc.length, none⟩ : Addr).add j = ⟨w.heap.size, 20 - acc.length + j, none⟩ := by unfold Addr.add; split <;> simp_all
      rw [e]; exact h.told j hj)

set_option maxHeartbeats 800000 in
theorem digits_calls (n : Int) (h1 : -9223372036854775808 ≤ n) (h2 : n ≤ 9223372036854775807) (w : World) :
    Calls Tryz.prog 134 #[.int .i64 n] w fun e w' => e = .returned (.string ⟨(digs n).toArray⟩) ∧ Below w.heap.size w w' := by
  have hm : n.natAbs ≤ 9223372036854775808 := by omega
  go_enter Tryz.func134, Tryz.ntmps134
  go_wp2_with (go_at_call 161; refine (size_calls _ h1 h2 _).mono ?_; rintro e w' ⟨rfl, rfl⟩)
  generalize hgm : n.natAbs = m at *
  have Hm : Hid (n.natAbs = m) := hgm
  clear hgm
  go_loopw [4, 5] (fun at' rest wr => ∃ (j r : Nat) (acc : List UInt8), at' = .int .i64 (20 - (j : Int)) ∧ rest = .int .u64 (r : Int) ∧ r ≤ 9223372036854775808 ∧ Told m j r acc ∧ Room w acc wr) (fun at' _ _ => (intOf at').toNat)
  case atStart => exact ⟨0, m, [], by simp, rfl, hm, told_start (by omega), room_start w _ rfl⟩
  case round =>
    obtain ⟨j, r, acc, rfl, rfl, hrm, ht, hroom⟩ := hrel
    have hlen := ht.1
    have hj19 := ht.2.1
    by_cases hgo : 0 < r ∨ j = 0
    · have hj := told_lt ht hgo
      have hstep := told_step ht hgo
      have R : Hid (∀ wx, wr.setCell ⟨w.heap.size, 20 - j - 1, none⟩ (.int .u8 (48 + (r : Int) % 10)) = wx → Room w (UInt8.ofNat (48 + r % 10) :: acc) wx) := by
        rintro wx rfl
        exact room_step hroom (by omega) _ _ (by omega) _ (by rw [dig_toNat]; push_cast; rfl)
      obtain ⟨u, hu⟩ := hroom.cell (20 - j - 1) (by omega)
      have hf := hroom.free (20 - j - 1) (by omega)
      have Ht : Hid (Told m (j + 1) (r / 10) (UInt8.ofNat (48 + r % 10) :: acc)) := hstep
      clear hstep hroom ht hlen
      rcases Nat.eq_zero_or_pos r with hr0 | hr0
      · have hj0 : j = 0 := by omega
        subst hr0 hj0
        go_wp2
        go_roundw
        case rel => exact ⟨0 + 1, 0 / 10, _, by simp, by simp, by omega, Ht.out, R.out _ rfl⟩
        case measure => simp [intOf]
      · go_wp2
        go_roundw
        case rel => exact ⟨j + 1, r / 10, _, by go_num, by go_num, by omega, Ht.out, R.out _ rfl⟩
        case measure => simp [intOf]; omega
    · have hr : r = 0 := by omega
      have hj : j ≠ 0 := by omega
      have Hacc : Hid (acc = dec 20 m) := told_end ht hr hj
      subst hr
      by_cases hn : n < 0
      · have Hd : Hid (digs n = 45 :: acc) := by
          show digs n = 45 :: acc
          unfold digs; rw [if_pos hn, Hacc.out, ← Hm.out]
        have hroom' : Room w (45 :: acc) (wr.setCell ⟨w.heap.size, 20 - j - 1, none⟩ (.int .u8 45)) := room_step hroom (by omega) 45 _ (by omega) _ rfl
        have hsl := room_slice w.heap.size (20 - j - 1) (20 - (j : Int) - 1) (by omega) (by omega) (acc.length + 1) (by omega)
        have hcv := room_string hroom' (acc.length + 1)
        rw [show 20 - (45 :: acc).length = 20 - j - 1 from by simp; omega, List.length_cons] at hcv
        obtain ⟨u, hu⟩ := hroom.cell (20 - j - 1) (by omega)
        have hf := hroom.free (20 - j - 1) (by omega)
        have Hgr : Hid (Below w.heap.size w (wr.setCell ⟨w.heap.size, 20 - j - 1, none⟩ (.int .u8 45))) := hroom'.gr
        have hjj : ((20 - (j : Int)) == 20) = false := by rw [beq_eq_false_iff_ne]; omega
        clear ht hroom hroom' hlen hgo Hm Hacc
        go_wp2
        go_ret
        exact ⟨by rw [Hd.out]; rfl, Hgr.out⟩
      · have Hd : Hid (digs n = acc) := by
          show digs n = acc
          unfold digs; rw [if_neg hn, Hacc.out, ← Hm.out]
        have hsl := room_slice w.heap.size (20 - j) (20 - (j : Int)) (by omega) (by omega) acc.length (by omega)
        have hcv := room_string hroom acc.length
        rw [show 20 - acc.length = 20 - j from by omega] at hcv
        have Hgr : Hid (Below w.heap.size w wr) := hroom.gr
        have hjj : ((20 - (j : Int)) == 20) = false := by rw [beq_eq_false_iff_ne]; omega
        clear ht hroom hlen hgo Hm Hacc
        go_wp2
        go_ret
        exact ⟨by rw [Hd.out]; rfl, Hgr.out⟩

end Go.Proofs.YtimhgbcanmgajaaGreat
