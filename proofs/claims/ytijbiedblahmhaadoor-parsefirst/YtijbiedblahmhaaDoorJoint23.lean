/- What text.Take answers, for any text. What num.Digits answers, for any number. -/
import Derived.Test.YtijbiedblahmhaaDoorTxtTakes
import Derived.Deep.RegionWith
import Derived.Test.YtijbiedblahmhaaDoorProg
import Derived.Test.YtijbiedblahmhaaDoorJoint2
import Derived.Test.YtijbiedblahmhaaDoorJoint1
import Derived.Lib.Strings
namespace Go.Proofs.YtijbiedblahmhaaDoor
open Go.RowKit

theorem go_close {f : Nat} {l acc : List UInt8} {k : Nat} {out : List UInt8 × Nat × Int} (h : takeGo f l k acc = out) (hf : l.length < f) (hl : lookN l = 34) : out = (acc, k + 1, 0) := by
  match f, l with
  | f + 1, [] => simp [lookN] at hl
  | f + 1, c :: r => rw [← h, takeGo, if_pos (by exact hl)]
theorem go_fail {f : Nat} {l acc : List UInt8} {k n : Nat} {out : List UInt8 × Nat × Int} (h : takeGo f l k acc = out) (hf : l.length < f) (hl : lookN l ≠ 34) (ho : oneOf l = (none, n)) : out = ([], k + n, 11) := by
  match f, l with
  | f + 1, [] => simp [oneOf] at ho; rw [← h, takeGo, ← ho]; rfl
  | f + 1, c :: r => rw [← h, takeGo, if_neg (by exact hl), ho]
theorem go_next {f : Nat} {l acc : List UInt8} {k n : Nat} {b : UInt8} {out : List UInt8 × Nat × Int} (h : takeGo f l k acc = out) (hf : l.length < f) (ho : oneOf l = (some b, n)) :
    ∃ f', takeGo f' (l.drop n) (k + n) (acc ++ [b]) = out ∧ (l.drop n).length < f' ∧ 1 ≤ n ∧ n ≤ l.length := by
  have hn := oneOf_pos ho
  have hle := oneOf_le l
  rw [ho] at hle
  match f, l with
  | f + 1, [] => simp [oneOf] at ho
  | f + 1, c :: r =>
    rw [takeGo_step ho] at h
    refine ⟨f, h, ?_, hn, hle⟩
    simp only [List.length_drop]
    simp at hf hle ⊢
    omega

/-- the reader's place, as the world holds it -/
def atOf (b : Nat) (w : World) : Nat := match w.cell? ⟨b, 3, none⟩ with | some (.int _ n) => n.toNat | _ => 0
theorem Rdr.atOf {s : ByteArray} {B b k : Nat} {acc : List UInt8} {w : World} (h : Rdr s B b k acc w) : atOf b w = k := by
  unfold YtijbiedblahmhaaDoor.atOf; rw [h.at]; simp

set_option maxHeartbeats 1600000 in
set_option maxRecDepth 100000 in
theorem whole_calls (s : ByteArray) (hs : s.size ≤ 1000000) (B b : Nat) (w : World) (h : Rdr s B b 0 [] w) :
    Calls Tryd.prog 52 #[.pointer (some ⟨b, 0, none⟩)] w fun e w' => ∃ (k : Nat) (acc : List UInt8), Rdr s B b k acc w' ∧ Below B w w' ∧
      ((e = .returned (.bool true) ∧ takeOut s.data.toList = (acc, k, 0)) ∨ (e = .returned (.bool false) ∧ takeOut s.data.toList = ([], k, 11))) := by
  have HR := hid h
  clear h
  by_cases h34 : lookN (s.data.toList.drop 0) = 34
  · have H34 := hid h34
    have hpos : 0 < s.size := by
      rcases Nat.lt_or_ge 0 s.size with h' | h'
      · exact h'
      · rw [drop_end s 0 h'] at h34; simp [lookN] at h34
    have hd := drop_byte s 0 hpos
    have hout : takeOut s.data.toList = takeGo ((s.data.toList.drop 1).length + 1) (s.data.toList.drop 1) 1 [] := by
      rw [List.drop_zero] at hd h34
      conv => lhs; rw [hd]
      rw [hd] at h34
      simp only [takeOut]
      rw [if_pos (by exact h34)]
    have HO := hid hout
    clear h34 hd hout
    go_enter Tryd.func52, Tryd.ntmps52
    go_wp2_with fail
    refine (skip_yes s hs B b 0 [] 34 (by omega) _ HR.out H34.out).mono ?_
    rintro e w1 ⟨rfl, h1, b1⟩
    have H1 := hid h1
    have B1 := hid b1
    clear h1 b1
    go_wp2_with fail
    go_loopw [] (fun wr => ∃ (k f : Nat) (acc : List UInt8), k ≤ s.size ∧ acc.length ≤ k ∧ takeGo f (s.data.toList.drop k) k acc = takeOut s.data.toList ∧ (s.data.toList.drop k).length < f ∧ Rdr s B b k acc wr ∧ Below B w wr) (fun wr => s.size - atOf b wr)
    case atStart => exact ⟨1, _, [], hpos, by simp, HO.out.symm, by omega, H1.out, B1.out⟩
    case round =>
      clear H1 B1 HO HR H34
      obtain ⟨k, f, acc, hk, hak, hgo, hf, hR, hB⟩ := hrel
      have HR := hid hR
      have HB := hid hB
      have HG := hid hgo
      have HF := hid hf
      clear hR hB hgo hf
      by_cases h34 : lookN (s.data.toList.drop k) = 34
      · have HO := hid (go_close HG.out HF.out h34)
        have H34 := hid h34
        clear h34
        go_wp2_with fail
        refine (skip_yes s hs B b k acc 34 hk _ HR.out H34.out).mono ?_
        rintro e w2 ⟨rfl, h2, b2⟩
        have H2 := hid h2
        have B2 := hid (HB.out.trans b2)
        clear h2 b2
        go_wp2
        go_ret
        exact ⟨k + 1, acc, H2.out, B2.out, Or.inl ⟨rfl, HO.out⟩⟩
      · have H34 := hid h34
        cases hone : oneOf (s.data.toList.drop k) with
        | mk o n =>
          have HOne := hid hone
          clear hone
          cases o with
          | none =>
            have HO := hid (go_fail HG.out HF.out h34 HOne.out)
            clear h34
            go_wp2_with fail
            refine (skip_no s B b k acc 34 hk _ HR.out H34.out).mono ?_
            rintro e w2 ⟨rfl, h2, b2⟩
            have H2 := hid h2
            have B2 := hid (HB.out.trans b2)
            clear h2 b2
            go_wp2_with fail
            refine (one_calls s hs B b k acc hk (by omega) _ H2.out none n HOne.out).mono ?_
            rintro e w3 ⟨rfl, h3, b3⟩
            have H3 := hid h3
            have B3 := hid (B2.out.trans b3)
            clear h3 b3
            go_wp2
            go_ret
            exact ⟨k + n, acc ++ none.toList, H3.out, B3.out, Or.inr ⟨rfl, HO.out⟩⟩
          | some c =>
            obtain ⟨f', hg', hf', hn1, hn2⟩ := go_next HG.out HF.out HOne.out
            have HG' := hid hg'
            have HF' := hid hf'
            rw [List.length_drop, list_size] at hn2
            clear h34 hg' hf'
            go_wp2_with fail
            refine (skip_no s B b k acc 34 hk _ HR.out H34.out).mono ?_
            rintro e w2 ⟨rfl, h2, b2⟩
            have H2 := hid h2
            have B2 := hid (HB.out.trans b2)
            clear h2 b2
            go_wp2_with fail
            refine (one_calls s hs B b k acc hk (by omega) _ H2.out (some c) n HOne.out).mono ?_
            rintro e w3 ⟨rfl, h3, b3⟩
            have H3 := hid h3
            have B3 := hid (B2.out.trans b3)
            clear h3 b3
            go_wp2
            refine ⟨⟨k + n, f', acc ++ [c], by omega, by simp; omega, by rw [← List.drop_drop]; exact HG'.out, by rw [← List.drop_drop]; exact HF'.out, H3.out, B3.out⟩, ?_⟩
            rw [H3.out.atOf, HR.out.atOf]
            omega
  · have hout : takeOut s.data.toList = ([], 0, 11) := by
      rw [List.drop_zero] at h34
      cases hd : s.data.toList with
      | nil => rfl
      | cons c r => rw [hd] at h34; simp only [takeOut]; rw [if_neg (by exact h34)]
    have HO := hid hout
    have H34 := hid h34
    clear hout h34
    go_enter Tryd.func52, Tryd.ntmps52
    go_wp2_with fail
    refine (skip_no s B b 0 [] 34 (by omega) _ HR.out H34.out).mono ?_
    rintro e w1 ⟨rfl, h1, b1⟩
    have H1 := hid h1
    have B1 := hid b1
    clear h1 b1
    go_wp2
    go_ret
    exact ⟨0, [], H1.out, B1.out, Or.inr ⟨rfl, HO.out⟩⟩

set_option maxHeartbeats 1600000 in
set_option maxRecDepth 100000 in
theorem take_calls (s : ByteArray) (hs : s.size ≤ 1000000) (w : World) :
    Calls Tryd.prog 41 #[.string s] w fun e w' =>
      e = .returned (.tuple #[.string ⟨(takeOut s.data.toList).1.toArray⟩, .int .i64 ((takeOut s.data.toList).2.1 : Int), .int .i64 (takeOut s.data.toList).2.2]) ∧ Below w.heap.size w w' := by
  have hnew : Rdr s w.heap.size w.heap.size 0 [] (w.alloc (.cells #[.pointer none, .slice none 0 0, .string s, .int .i64 0] 70)) := has_new 70 [.string s, .int .i64 0] w _ rfl
  have hb0 : Below w.heap.size w (w.alloc (.cells #[.pointer none, .slice none 0 0, .string s, .int .i64 0] 70)) := (Below.refl _ w).alloc (Nat.le_refl _) _
  have H0 := hid hnew
  have B0 := hid hb0
  clear hnew hb0
  go_enter Tryd.func41, Tryd.ntmps41
  go_wp2_with fail
  refine (whole_calls s hs _ _ _ H0.out).mono ?_
  rintro e w1 ⟨k, acc, h1, b1, (⟨rfl, ho⟩ | ⟨rfl, ho⟩)⟩
  · have H1 := hid h1
    have B1 := hid (B0.out.trans b1)
    have ca : w1.drew.cell? ⟨w.heap.size, 3, none⟩ = some (.int .i64 (k : Int)) := h1.drew.at
    have HO := hid ho
    have HD := hid h1.drew
    clear h1 b1 ho
    go_wp2_with fail
    go_region_with (go_at_call 53; refine (string_calls _ _ _ _ _ _ HD.out).mono ?_; rintro e w2 ⟨rfl, b2, hc⟩; have c2 : w2.cell? ⟨w.heap.size, 3, none⟩ = some (.int .i64 (k : Int)) := (hc 3).trans ca; clear hc)
    all_goals (go_wp2; go_ret3; exact ⟨by rw [HO.out]; rfl, B1.out.drew.trans b2⟩)
  · have H1 := hid h1
    have B1 := hid (B0.out.trans b1)
    have ca : w1.drew.cell? ⟨w.heap.size, 3, none⟩ = some (.int .i64 (k : Int)) := h1.drew.at
    have HO := hid ho
    clear h1 b1 ho
    go_wp2_with fail
    go_region
    all_goals (go_wp2; go_ret3; exact ⟨by rw [HO.out]; rfl, B1.out.drew⟩)

end Go.Proofs.YtijbiedblahmhaaDoor

namespace Go.Proofs.YtijbiedblahmhaaDoor
open Go.RowKit

theorem neg_u64 {n : Int} (h : n < 0) (h1 : -9223372036854775808 ≤ n) : IntKind.u64.wrap (-IntKind.u64.wrap n) = (n.natAbs : Int) := by
  simp [IntKind.wrap, IntKind.signed, IntKind.bits]; omega

theorem size_calls (n : Int) (h1 : -9223372036854775808 ≤ n) (h2 : n ≤ 9223372036854775807) (w : World) :
    Calls Tryd.prog 51 #[.int .i64 n] w fun e w' => e = .returned (.int .u64 (n.natAbs : Int)) ∧ w = w' := by
  by_cases h : n < 0
  · go_enter Tryd.func51, Tryd.ntmps51
    go_wp2
    go_ret
    exact ⟨by rw [neg_u64 h h1]; rfl, rfl⟩
  · go_enter Tryd.func51, Tryd.ntmps51
    go_wp2
    go_ret
    exact ⟨by rw [show (n.natAbs : Int) = n from by omega]; rfl, rfl⟩

/-- the array of the call: its last cells are acc -/
structure Room (w : World) (acc : List UInt8) (wr : World) : Prop where
  cell : ∀ i, i < 20 → ∃ v, wr.cell? ⟨w.heap.size, i, none⟩ = some (.int .u8 v)
  told : ∀ j (hj : j < acc.length), wr.cell? ⟨w.heap.size, 20 - acc.length + j, none⟩ = some (.int .u8 (acc[j].toNat : Int))
  free : ∀ i, i < 20 → wr.frozen? ⟨w.heap.size, i, none⟩ = false
  low : w.heap.size < wr.heap.size
  gr : Below w.heap.size w wr

theorem room_start (w : World) (c : Array Value) (hc : c = (List.replicate 20 (Value.int .u8 0)).toArray) : Room w [] (w.alloc (Obj.cells c 62)) where
  cell := fun i hi => ⟨0, by subst hc; rw [World.cell?_alloc_new, List.getElem?_toArray, List.getElem?_replicate, if_pos hi]⟩
  told := fun j hj => absurd hj (by simp)
  free := fun i _ => by simp
  low := by simp
  gr := (Below.refl _ _).alloc (Nat.le_refl _) _

theorem room_step {w wr : World} {acc : List UInt8} (h : Room w acc wr) (hl : acc.length < 20) (b : UInt8) (at' : Nat) (hat : at' = 19 - acc.length) (v : Int) (hv : v = (b.toNat : Int)) :
    Room w (b :: acc) (wr.setCell ⟨w.heap.size, at', none⟩ (.int .u8 v)) where
  cell := fun i hi => by
    by_cases h' : i = at'
    · subst h'
      obtain ⟨u, hu⟩ := h.cell i hi
      exact ⟨v, World.cell?_setCell_same' _ _ _ (by rw [hu]; rfl)⟩
    · have hne : (⟨w.heap.size, at', none⟩ : Addr) ≠ ⟨w.heap.size, i, none⟩ := fun e => h' (by injection e with _ e2; exact e2.symm)
      rw [World.cell?_setCell_other (h := hne)]; exact h.cell i hi
  told := fun j hj => by
    simp only [List.length_cons] at hj ⊢
    match j, hj with
    | 0, _ =>
      have e : 20 - (acc.length + 1) + 0 = at' := by omega
      rw [e]
      obtain ⟨u, hu⟩ := h.cell at' (by omega)
      rw [World.cell?_setCell_same' _ _ _ (by rw [hu]; rfl), hv]; rfl
    | j + 1, hj =>
      have e : 20 - (acc.length + 1) + (j + 1) = 20 - acc.length + j := by omega
      have hne : (⟨w.heap.size, at', none⟩ : Addr) ≠ ⟨w.heap.size, 20 - acc.length + j, none⟩ := fun e => by injection e with _ e2; omega
      rw [e, World.cell?_setCell_other (h := hne)]
      simpa using h.told j (by omega)
  free := fun i hi => by simp [h.free i hi]
  low := by simpa [World.setCell] using h.low
  gr := h.gr.setCell (Nat.le_refl _) _

theorem room_slice (B p : Nat) (i : Int) (hi : i = (p : Int)) (hp : p < 20) (n : Nat) (hn : n = 20 - p) (w : World) :
    (Instr.sliceAt 62 (.pointer (some ⟨B, 0, none⟩)) (some (.int .i64 i)) (some (.int .i64 20)) (some (.int .i64 20))).run Tryd.prog w = .ok (.slice (some ⟨B, p, none⟩) n n) w := by
  have hl : Tryd.prog.arrayLen 62 = 20 := by kernel_rfl
  have hu : Tryd.prog.underlying 62 = some (.array (Tryd.prog.arrayLen 62) (Tryd.prog.elem 62)) := by kernel_rfl
  have hz : (sizeOf (Tryd.prog.elem 62)).run Tryd.prog w = .ok 1 w := by kernel_rfl
  subst hi hn
  rw [run_sliceAt_array_lhm w _ _ hu .i64 .i64 .i64 (p : Int) 20 20 (by omega) (by omega) (by omega) (by rw [hl]; decide), hz]
  simp only [Result.andThen, slicedAt]
  rw [if_neg (by simp; omega)]
  simp [Addr.add]
  omega

theorem room_string {w wr : World} {acc : List UInt8} (h : Room w acc wr) (c : Nat) :
    (convert 65 9 (.slice (some ⟨w.heap.size, 20 - acc.length, none⟩) acc.length c)).run Tryd.prog wr = .ok (.string ⟨acc.toArray⟩) wr :=
  run_convert_bytes_back wr 65 9 5 ⟨w.heap.size, 20 - acc.length, none⟩ c acc (by kernel_rfl) (by kernel_rfl) (by kernel_rfl)
    (fun j hj => by
      have e : (⟨w.heap.size, 20 - acc.length, none⟩ : Addr).add j = ⟨w.heap.size, 20 - acc.length + j, none⟩ := by unfold Addr.add; split <;> simp_all
      rw [e]; exact h.told j hj)

set_option maxHeartbeats 800000 in
theorem digits_calls (n : Int) (h1 : -9223372036854775808 ≤ n) (h2 : n ≤ 9223372036854775807) (w : World) :
    Calls Tryd.prog 40 #[.int .i64 n] w fun e w' => e = .returned (.string ⟨(digs n).toArray⟩) ∧ Below w.heap.size w w' := by
  have hm : n.natAbs ≤ 9223372036854775808 := by omega
  go_enter Tryd.func40, Tryd.ntmps40
  go_wp2_with (go_at_call 51; refine (size_calls _ h1 h2 _).mono ?_; rintro e w' ⟨rfl, rfl⟩)
  generalize hgm : n.natAbs = m at *
  have Hm : Hid (n.natAbs = m) := hgm
  clear hgm
  go_loopw [4, 5] (fun at' rest wr => ∃ (j r : Nat) (acc : List UInt8), at' = .int .i64 (20 - (j : Int)) ∧ rest = .int .u64 (r : Int) ∧ r ≤ 9223372036854775808 ∧ Told m j r acc ∧ Room w acc wr) (fun at' _ _ => (intOf at').toNat)
  case atStart => exact ⟨0, m, [], by simp, rfl, hm, told_start (by omega), room_start w _ rfl⟩
  case round =>
    obtain ⟨j, r, acc, rfl, rfl, hrm, ht, hroom⟩ := hrel
    have hlen := ht.1
    have hj19 := ht.2.1
    by_cases hgo : 0 < r ∨ j = 0
    · have hj := told_lt ht hgo
      have hstep := told_step ht hgo
      have R : Hid (∀ wx, wr.setCell ⟨w.heap.size, 20 - j - 1, none⟩ (.int .u8 (48 + (r : Int) % 10)) = wx → Room w (UInt8.ofNat (48 + r % 10) :: acc) wx) := by
        rintro wx rfl
        exact room_step hroom (by omega) _ _ (by omega) _ (by rw [dig_toNat]; push_cast; rfl)
      obtain ⟨u, hu⟩ := hroom.cell (20 - j - 1) (by omega)
      have hf := hroom.free (20 - j - 1) (by omega)
      have Ht : Hid (Told m (j + 1) (r / 10) (UInt8.ofNat (48 + r % 10) :: acc)) := hstep
      clear hstep hroom ht hlen
      rcases Nat.eq_zero_or_pos r with hr0 | hr0
      · have hj0 : j = 0 := by omega
        subst hr0 hj0
        go_wp2
        go_roundw
        case rel => exact ⟨0 + 1, 0 / 10, _, by simp, by simp, by omega, Ht.out, R.out _ rfl⟩
        case measure => simp [intOf]
      · go_wp2
        go_roundw
        case rel => exact ⟨j + 1, r / 10, _, by go_num, by go_num, by omega, Ht.out, R.out _ rfl⟩
        case measure => simp [intOf]; omega
    · have hr : r = 0 := by omega
      have hj : j ≠ 0 := by omega
      have Hacc : Hid (acc = dec 20 m) := told_end ht hr hj
      subst hr
      by_cases hn : n < 0
      · have Hd : Hid (digs n = 45 :: acc) := by
          show digs n = 45 :: acc
          unfold digs; rw [if_pos hn, Hacc.out, ← Hm.out]
        have hroom' : Room w (45 :: acc) (wr.setCell ⟨w.heap.size, 20 - j - 1, none⟩ (.int .u8 45)) := room_step hroom (by omega) 45 _ (by omega) _ rfl
        have hsl := room_slice w.heap.size (20 - j - 1) (20 - (j : Int) - 1) (by omega) (by omega) (acc.length + 1) (by omega)
        have hcv := room_string hroom' (acc.length + 1)
        rw [show 20 - (45 :: acc).length = 20 - j - 1 from by simp; omega, List.length_cons] at hcv
        obtain ⟨u, hu⟩ := hroom.cell (20 - j - 1) (by omega)
        have hf := hroom.free (20 - j - 1) (by omega)
        have Hgr : Hid (Below w.heap.size w (wr.setCell ⟨w.heap.size, 20 - j - 1, none⟩ (.int .u8 45))) := hroom'.gr
        have hjj : ((20 - (j : Int)) == 20) = false := by rw [beq_eq_false_iff_ne]; omega
        clear ht hroom hroom' hlen hgo Hm Hacc
        go_wp2
        go_ret
        exact ⟨by rw [Hd.out]; rfl, Hgr.out⟩
      · have Hd : Hid (digs n = acc) := by
          show digs n = acc
          unfold digs; rw [if_neg hn, Hacc.out, ← Hm.out]
        have hsl := room_slice w.heap.size (20 - j) (20 - (j : Int)) (by omega) (by omega) acc.length (by omega)
        have hcv := room_string hroom acc.length
        rw [show 20 - acc.length = 20 - j from by omega] at hcv
        have Hgr : Hid (Below w.heap.size w wr) := hroom.gr
        have hjj : ((20 - (j : Int)) == 20) = false := by rw [beq_eq_false_iff_ne]; omega
        clear ht hroom hlen hgo Hm Hacc
        go_wp2
        go_ret
        exact ⟨by rw [Hd.out]; rfl, Hgr.out⟩

end Go.Proofs.YtijbiedblahmhaaDoor
