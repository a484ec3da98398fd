/- The longest sign that comes. What num.Digits answers, for any number. What num.Read and the document's Read answer, for any text (NumRead, NumReads and RefNum's Read again, for cuts without num's other functions, ending in Below). -/
import Derived.Test.YtijbiedblahmhaaDoorLexKey
import Derived.Deep.MidRow
import Derived.Test.YtijbiedblahmhaaDoorProg
import Derived.Test.YtijbiedblahmhaaDoorGround
import Derived.Test.YtijbiedblahmhaaDoorJoint1
import Derived.Lib.Strings
namespace Go.Proofs.YtijbiedblahmhaaDoor
open Go.RowKit

theorem firstOf_skip : ∀ (L : List (List UInt8)) (l : List UInt8) (j : Nat) (h : j < L.length), prefB L[j] l = false → firstOf (L.drop j) l = firstOf (L.drop (j + 1)) l := by
  intro L l j h hp
  rw [List.drop_eq_getElem_cons h]
  unfold prefB at hp
  simp [firstOf, hp]
theorem firstOf_here : ∀ (L : List (List UInt8)) (l : List UInt8) (j : Nat) (h : j < L.length), prefB L[j] l = true → firstOf (L.drop j) l = L[j] := by
  intro L l j h hp
  rw [List.drop_eq_getElem_cons h]
  unfold prefB at hp
  simp [firstOf, hp]

theorem sgn_range {w : World} (h : Texts 0 sgnL w) : w.rangeAt 0 0 (sgnL.map fun l => Value.string ⟨l.toArray⟩) := by
  intro j v hv
  rw [List.getElem?_map, Option.map_eq_some_iff] at hv
  obtain ⟨l, hl, rfl⟩ := hv
  obtain ⟨hj, rfl⟩ := List.getElem?_eq_some_iff.1 hl
  simpa using h j hj

theorem index25 (A : Array Value) (x : ByteArray) (j : Nat) (hj : j < 25) (h : A[j]? = some (.string x)) (w : World) :
    (Instr.index 72 (.agg A) (.int .i64 (j : Int))).run Tryd.prog w = .ok (.string x) w := by
  simp [go_sem, Instr.index, part, h, asIntOf]
  omega

set_option maxRecDepth 100000 in
theorem longest_calls (s : ByteArray) (w : World) (SG : Hid (Texts 0 sgnL w)) :
    Calls Tryd.prog 42 #[.string s] w fun e w' => e = .returned (.string ⟨(signL s.data.toList).toArray⟩) ∧ w = w' := by
  go_enter Tryd.func42, Tryd.ntmps42
  go_wp2_with (refine wpList_load_mid rfl 72 _ rfl 0 0 rfl _ _ (sgn_range SG.out) Tryd.underlying72 rfl (by kernel_rfl) ?_)
  generalize hA : (List.map (fun l => Value.string ⟨l.toArray⟩) sgnL).toArray = A
  have hAt : Hid (∀ (j : Nat) (h : j < sgnL.length), A[j]? = some (.string ⟨(sgnL[j]).toArray⟩)) := hid fun j h => by rw [← hA]; simp [h]
  have h25 : sgnL.length = 25 := rfl
  clear hA
  go_wp2
  go_loop [6] (fun i => ∃ j : Nat, j ≤ 25 ∧ i = .int .i64 j ∧ signL s.data.toList = firstOf (sgnL.drop j) s.data.toList) (fun i => 25 - (intOf i).toNat)
  case atStart => exact ⟨0, by omega, rfl, rfl⟩
  case round =>
    obtain ⟨j, hj, rfl, hf⟩ := hrel
    by_cases hjl : j < 25
    · have hjL : j < sgnL.length := by omega
      have c := index25 A _ j hjl (hAt.out j hjL) w
      cases hp : prefB sgnL[j] s.data.toList with
      | true =>
        have H := hid (hf.trans (firstOf_here sgnL _ j hjL hp))
        have Hp := hid hp
        clear hp hf
        generalize sgnL[j] = x at *
        go_wp2_with fail
        refine (hasprefix_calls _ _ _).mono ?_
        rintro e w1 ⟨rfl, rfl⟩
        rw [Hp.out]
        go_wp2
        go_ret
        exact ⟨by rw [H.out]; rfl, rfl⟩
      | false =>
        have H := hid (hf.trans (firstOf_skip sgnL _ j hjL hp))
        have Hp := hid hp
        clear hp hf
        generalize sgnL[j] = x at *
        go_wp2_with fail
        refine (hasprefix_calls _ _ _).mono ?_
        rintro e w1 ⟨rfl, rfl⟩
        rw [Hp.out]
        go_wp2
        go_round
        case rel => exact ⟨j + 1, by omega, by go_num, H.out⟩
        case measure => simp [intOf]; omega
    · have H := hid (hf.trans (show firstOf (sgnL.drop j) s.data.toList = [] by rw [List.drop_of_length_le (by omega)]; rfl))
      clear hf
      go_wp2
      go_ret
      exact ⟨by rw [H.out]; rfl, rfl⟩

theorem pref_cut (s : ByteArray) (k n : Nat) (x : List UInt8) (hn : x.length = n) (_h : k + n ≤ s.size) : ((s.extract k (k + n)).toList == x) = prefB x (s.data.toList.drop k) := by
  rw [Lib.toList_data, cut_list, Bool.eq_iff_iff, beq_iff_eq, prefB, List.isPrefixOf_iff_prefix, List.prefix_iff_eq_take, hn, Nat.add_sub_cancel_left]
  exact eq_comm
theorem pref_none (s : ByteArray) (k : Nat) (x : List UInt8) (hk : k ≤ s.size) (h : s.size < k + x.length) : prefB x (s.data.toList.drop k) = false := by
  cases h1 : prefB x (s.data.toList.drop k) with
  | false => rfl
  | true =>
    have := (List.isPrefixOf_iff_prefix.1 h1).length_le
    rw [List.length_drop, list_size] at this; omega

end Go.Proofs.YtijbiedblahmhaaDoor

namespace Go.Proofs.YtijbiedblahmhaaDoor
open Go.RowKit

theorem neg_u64 {n : Int} (h : n < 0) (h1 : -9223372036854775808 ≤ n) : IntKind.u64.wrap (-IntKind.u64.wrap n) = (n.natAbs : Int) := by
  simp [IntKind.wrap, IntKind.signed, IntKind.bits]; omega

theorem size_calls (n : Int) (h1 : -9223372036854775808 ≤ n) (h2 : n ≤ 9223372036854775807) (w : World) :
    Calls Tryd.prog 51 #[.int .i64 n] w fun e w' => e = .returned (.int .u64 (n.natAbs : Int)) ∧ w = w' := by
  by_cases h : n < 0
  · go_enter Tryd.func51, Tryd.ntmps51
    go_wp2
    go_ret
    exact ⟨by rw [neg_u64 h h1]; rfl, rfl⟩
  · go_enter Tryd.func51, Tryd.ntmps51
    go_wp2
    go_ret
    exact ⟨by rw [show (n.natAbs : Int) = n from by omega]; rfl, rfl⟩

/-- the array of the call: its last cells are acc -/
structure Room (w : World) (acc : List UInt8) (wr : World) : Prop where
  cell : ∀ i, i < 20 → ∃ v, wr.cell? ⟨w.heap.size, i, none⟩ = some (.int .u8 v)
  told : ∀ j (hj : j < acc.length), wr.cell? ⟨w.heap.size, 20 - acc.length + j, none⟩ = some (.int .u8 (acc[j].toNat : Int))
  free : ∀ i, i < 20 → wr.frozen? ⟨w.heap.size, i, none⟩ = false
  low : w.heap.size < wr.heap.size
  gr : Below w.heap.size w wr

theorem room_start (w : World) (c : Array Value) (hc : c = (List.replicate 20 (Value.int .u8 0)).toArray) : Room w [] (w.alloc (Obj.cells c 62)) where
  cell := fun i hi => ⟨0, by subst hc; rw [World.cell?_alloc_new, List.getElem?_toArray, List.getElem?_replicate, if_pos hi]⟩
  told := fun j hj => absurd hj (by simp)
  free := fun i _ => by simp
  low := by simp
  gr := (Below.refl _ _).alloc (Nat.le_refl _) _

theorem room_step {w wr : World} {acc : List UInt8} (h : Room w acc wr) (hl : acc.length < 20) (b : UInt8) (at' : Nat) (hat : at' = 19 - acc.length) (v : Int) (hv : v = (b.toNat : Int)) :
    Room w (b :: acc) (wr.setCell ⟨w.heap.size, at', none⟩ (.int .u8 v)) where
  cell := fun i hi => by
    by_cases h' : i = at'
    · subst h'
      obtain ⟨u, hu⟩ := h.cell i hi
      exact ⟨v, World.cell?_setCell_same' _ _ _ (by rw [hu]; rfl)⟩
    · have hne : (⟨w.heap.size, at', none⟩ : Addr) ≠ ⟨w.heap.size, i, none⟩ := fun e => h' (by injection e with _ e2; exact e2.symm)
      rw [World.cell?_setCell_other (h := hne)]; exact h.cell i hi
  told := fun j hj => by
    simp only [List.length_cons] at hj ⊢
    match j, hj with
    | 0, _ =>
      have e : 20 - (acc.length + 1) + 0 = at' := by omega
      rw [e]
      obtain ⟨u, hu⟩ := h.cell at' (by omega)
      rw [World.cell?_setCell_same' _ _ _ (by rw [hu]; rfl), hv]; rfl
    | j + 1, hj =>
      have e : 20 - (acc.length + 1) + (j + 1) = 20 - acc.length + j := by omega
      have hne : (⟨w.heap.size, at', none⟩ : Addr) ≠ ⟨w.heap.size, 20 - acc.length + j, none⟩ := fun e => by injection e with _ e2; omega
      rw [e, World.cell?_setCell_other (h := hne)]
      simpa using h.told j (by omega)
  free := fun i hi => by simp [h.free i hi]
  low := by simpa [World.setCell] using h.low
  gr := h.gr.setCell (Nat.le_refl _) _

theorem room_slice (B p : Nat) (i : Int) (hi : i = (p : Int)) (hp : p < 20) (n : Nat) (hn : n = 20 - p) (w : World) :
    (Instr.sliceAt 62 (.pointer (some ⟨B, 0, none⟩)) (some (.int .i64 i)) (some (.int .i64 20)) (some (.int .i64 20))).run Tryd.prog w = .ok (.slice (some ⟨B, p, none⟩) n n) w := by
  have hl : Tryd.prog.arrayLen 62 = 20 := by kernel_rfl
  have hu : Tryd.prog.underlying 62 = some (.array (Tryd.prog.arrayLen 62) (Tryd.prog.elem 62)) := by kernel_rfl
  have hz : (sizeOf (Tryd.prog.elem 62)).run Tryd.prog w = .ok 1 w := by kernel_rfl
  subst hi hn
  rw [run_sliceAt_array_lhm w _ _ hu .i64 .i64 .i64 (p : Int) 20 20 (by omega) (by omega) (by omega) (by rw [hl]; decide), hz]
  simp only [Result.andThen, slicedAt]
  rw [if_neg (by simp; omega)]
  simp [Addr.add]
  omega

theorem room_string {w wr : World} {acc : List UInt8} (h : Room w acc wr) (c : Nat) :
    (convert 65 9 (.slice (some ⟨w.heap.size, 20 - acc.length, none⟩) acc.length c)).run Tryd.prog wr = .ok (.string ⟨acc.toArray⟩) wr :=
  run_convert_bytes_back wr 65 9 5 ⟨w.heap.size, 20 - acc.length, none⟩ c acc (by kernel_rfl) (by kernel_rfl) (by kernel_rfl)
    (fun j hj => by
      have e : (⟨w.heap.size, 20 - acc.length, none⟩ : Addr).add j = ⟨w.heap.size, 20 - acc.length + j, none⟩ := by unfold Addr.add; split <;> simp_all
      rw [e]; exact h.told j hj)

set_option maxHeartbeats 800000 in
theorem digits_calls (n : Int) (h1 : -9223372036854775808 ≤ n) (h2 : n ≤ 9223372036854775807) (w : World) :
    Calls Tryd.prog 40 #[.int .i64 n] w fun e w' => e = .returned (.string ⟨(digs n).toArray⟩) ∧ Below w.heap.size w w' := by
  have hm : n.natAbs ≤ 9223372036854775808 := by omega
  go_enter Tryd.func40, Tryd.ntmps40
  go_wp2_with (go_at_call 51; refine (size_calls _ h1 h2 _).mono ?_; rintro e w' ⟨rfl, rfl⟩)
  generalize hgm : n.natAbs = m at *
  have Hm : Hid (n.natAbs = m) := hgm
  clear hgm
  go_loopw [4, 5] (fun at' rest wr => ∃ (j r : Nat) (acc : List UInt8), at' = .int .i64 (20 - (j : Int)) ∧ rest = .int .u64 (r : Int) ∧ r ≤ 9223372036854775808 ∧ Told m j r acc ∧ Room w acc wr) (fun at' _ _ => (intOf at').toNat)
  case atStart => exact ⟨0, m, [], by simp, rfl, hm, told_start (by omega), room_start w _ rfl⟩
  case round =>
    obtain ⟨j, r, acc, rfl, rfl, hrm, ht, hroom⟩ := hrel
    have hlen := ht.1
    have hj19 := ht.2.1
    by_cases hgo : 0 < r ∨ j = 0
    · have hj := told_lt ht hgo
      have hstep := told_step ht hgo
      have R : Hid (∀ wx, wr.setCell ⟨w.heap.size, 20 - j - 1, none⟩ (.int .u8 (48 + (r : Int) % 10)) = wx → Room w (UInt8.ofNat (48 + r % 10) :: acc) wx) := by
        rintro wx rfl
        exact room_step hroom (by omega) _ _ (by omega) _ (by rw [dig_toNat]; push_cast; rfl)
      obtain ⟨u, hu⟩ := hroom.cell (20 - j - 1) (by omega)
      have hf := hroom.free (20 - j - 1) (by omega)
      have Ht : Hid (Told m (j + 1) (r / 10) (UInt8.ofNat (48 + r % 10) :: acc)) := hstep
      clear hstep hroom ht hlen
      rcases Nat.eq_zero_or_pos r with hr0 | hr0
      · have hj0 : j = 0 := by omega
        subst hr0 hj0
        go_wp2
        go_roundw
        case rel => exact ⟨0 + 1, 0 / 10, _, by simp, by simp, by omega, Ht.out, R.out _ rfl⟩
        case measure => simp [intOf]
      · go_wp2
        go_roundw
        case rel => exact ⟨j + 1, r / 10, _, by go_num, by go_num, by omega, Ht.out, R.out _ rfl⟩
        case measure => simp [intOf]; omega
    · have hr : r = 0 := by omega
      have hj : j ≠ 0 := by omega
      have Hacc : Hid (acc = dec 20 m) := told_end ht hr hj
      subst hr
      by_cases hn : n < 0
      · have Hd : Hid (digs n = 45 :: acc) := by
          show digs n = 45 :: acc
          unfold digs; rw [if_pos hn, Hacc.out, ← Hm.out]
        have hroom' : Room w (45 :: acc) (wr.setCell ⟨w.heap.size, 20 - j - 1, none⟩ (.int .u8 45)) := room_step hroom (by omega) 45 _ (by omega) _ rfl
        have hsl := room_slice w.heap.size (20 - j - 1) (20 - (j : Int) - 1) (by omega) (by omega) (acc.length + 1) (by omega)
        have hcv := room_string hroom' (acc.length + 1)
        rw [show 20 - (45 :: acc).length = 20 - j - 1 from by simp; omega, List.length_cons] at hcv
        obtain ⟨u, hu⟩ := hroom.cell (20 - j - 1) (by omega)
        have hf := hroom.free (20 - j - 1) (by omega)
        have Hgr : Hid (Below w.heap.size w (wr.setCell ⟨w.heap.size, 20 - j - 1, none⟩ (.int .u8 45))) := hroom'.gr
        have hjj : ((20 - (j : Int)) == 20) = false := by rw [beq_eq_false_iff_ne]; omega
        clear ht hroom hroom' hlen hgo Hm Hacc
        go_wp2
        go_ret
        exact ⟨by rw [Hd.out]; rfl, Hgr.out⟩
      · have Hd : Hid (digs n = acc) := by
          show digs n = acc
          unfold digs; rw [if_neg hn, Hacc.out, ← Hm.out]
        have hsl := room_slice w.heap.size (20 - j) (20 - (j : Int)) (by omega) (by omega) acc.length (by omega)
        have hcv := room_string hroom acc.length
        rw [show 20 - acc.length = 20 - j from by omega] at hcv
        have Hgr : Hid (Below w.heap.size w wr) := hroom.gr
        have hjj : ((20 - (j : Int)) == 20) = false := by rw [beq_eq_false_iff_ne]; omega
        clear ht hroom hlen hgo Hm Hacc
        go_wp2
        go_ret
        exact ⟨by rw [Hd.out]; rfl, Hgr.out⟩

end Go.Proofs.YtijbiedblahmhaaDoor

namespace Go.Proofs.YtijbiedblahmhaaDoor
open Go.RowKit

/-! the closure of num.reading -/
theorem take_above (d n : Int) (pa pn : Nat) (w : World) (ab : Bool) (hn : w.cell? ⟨pn, 0, none⟩ = some (.int .i64 n)) (ha : w.cell? ⟨pa, 0, none⟩ = some (.bool ab))
    (fa : w.frozen? ⟨pa, 0, none⟩ = false) (d0 : 0 ≤ d) (d9 : d ≤ 9) (h : ab = true ∨ (4611686018427387903 - d) / 10 < n) :
    Calls Tryd.prog 60 #[.int .i64 d, .pointer (some ⟨pa, 0, none⟩), .pointer (some ⟨pn, 0, none⟩)] w fun e w' =>
      e = .returned (.tuple #[.int .i64 0, .int .i64 10]) ∧ w.setCell ⟨pa, 0, none⟩ (.bool true) = w' := by
  cases ab
  · have h2 : (4611686018427387903 - d) / 10 < n := by simpa using h
    clear h
    go_enter Tryd.func60, Tryd.ntmps60
    go_wp2
    go_ret2
    exact ⟨rfl, rfl⟩
  · clear h
    go_enter Tryd.func60, Tryd.ntmps60
    go_wp2
    go_ret2
    exact ⟨rfl, rfl⟩

theorem take_more (d n : Int) (pa pn : Nat) (w : World) (hn : w.cell? ⟨pn, 0, none⟩ = some (.int .i64 n)) (ha : w.cell? ⟨pa, 0, none⟩ = some (.bool false))
    (fn : w.frozen? ⟨pn, 0, none⟩ = false) (d0 : 0 ≤ d) (d9 : d ≤ 9) (n0 : 0 ≤ n) (h : n ≤ (4611686018427387903 - d) / 10) :
    Calls Tryd.prog 60 #[.int .i64 d, .pointer (some ⟨pa, 0, none⟩), .pointer (some ⟨pn, 0, none⟩)] w fun e w' =>
      e = .returned (.tuple #[.int .i64 (10 * n + d), .int .i64 0]) ∧ w.setCell ⟨pn, 0, none⟩ (.int .i64 (10 * n + d)) = w' := by
  go_enter Tryd.func60, Tryd.ntmps60
  go_wp2
  go_ret2
  exact ⟨rfl, rfl⟩

theorem reading_calls (w : World) :
    Calls Tryd.prog 50 #[] w fun e w' =>
      e = .returned (.func (.func 60) #[] #[.pointer (some ⟨w.heap.size + 1, 0, none⟩), .pointer (some ⟨w.heap.size, 0, none⟩)]) ∧
        (w.alloc (Obj.cells #[.int .i64 0] 3)).alloc (Obj.cells #[.bool false] 4) = w' := by
  have hmf : ∀ (fn : Fn) (first cap : Array Value) (w : World), (Instr.makeFunc fn first cap).run Tryd.prog w = .ok (.func fn first cap) w := fun _ _ _ _ => rfl
  go_enter Tryd.func50, Tryd.ntmps50
  go_wp2
  go_ret
  exact ⟨rfl, rfl⟩

/-- what the round knows of memory: the two variables of the closure -/
structure KeptR (w : World) (n : Int) (ab : Bool) (wr : World) : Prop where
  cn : wr.cell? ⟨w.heap.size, 0, none⟩ = some (.int .i64 n)
  ca : wr.cell? ⟨w.heap.size + 1, 0, none⟩ = some (.bool ab)
  fn : wr.frozen? ⟨w.heap.size, 0, none⟩ = false
  fa : wr.frozen? ⟨w.heap.size + 1, 0, none⟩ = false
  gr : Below w.heap.size w wr

theorem kept_start (w : World) : KeptR w 0 false ((w.alloc (Obj.cells #[.int .i64 0] 3)).alloc (Obj.cells #[.bool false] 4)) where
  cn := by simp
  ca := by simp
  fn := by simp
  fa := by simp
  gr := ((Below.refl _ _).alloc (Nat.le_refl _) _).alloc (by simp) _

theorem kept_above {w wr : World} {n : Int} {ab : Bool} (h : KeptR w n ab wr) : KeptR w n true (wr.setCell ⟨w.heap.size + 1, 0, none⟩ (.bool true)) where
  cn := by rw [World.cell?_setCell_other (h := by simp)]; exact h.cn
  ca := World.cell?_setCell_same' _ _ _ (by rw [h.ca]; rfl)
  fn := by simp [h.fn]
  fa := by simp [h.fa]
  gr := h.gr.setCell (by simp) _

theorem kept_more {w wr : World} {n : Int} {ab : Bool} (h : KeptR w n ab wr) (m : Int) : KeptR w m ab (wr.setCell ⟨w.heap.size, 0, none⟩ (.int .i64 m)) where
  cn := World.cell?_setCell_same' _ _ _ (by rw [h.cn]; rfl)
  ca := by rw [World.cell?_setCell_other (h := by simp)]; exact h.ca
  fn := by simp [h.fn]
  fa := by simp [h.fa]
  gr := h.gr.setCell (by simp) _

set_option maxHeartbeats 800000 in
theorem read_calls (s : ByteArray) (hs : s.size ≤ 4611686018427387903) (w : World) :
    Calls Tryd.prog 39 #[.string s] w fun e w' =>
      e = .returned (.tuple #[.int .i64 (readOut s.data.toList).1, .int .i64 (readOut s.data.toList).2]) ∧ Below w.heap.size w w' := by
  by_cases h0 : s.size = 0
  · have he : s.data.toList = [] := by
      have : s.data.toList.length = 0 := by simpa using h0
      exact List.length_eq_zero_iff.1 this
    have he2 : s.toList.isEmpty = true := by
      rw [Lib.toList_data, he]; rfl
    go_enter Tryd.func39, Tryd.ntmps39
    go_wp2
    go_ret2
    exact ⟨by rw [he]; rfl, Below.refl _ _⟩
  · have he2 : s.toList.isEmpty = false := by
      rw [Lib.toList_data]
      cases h : s.data.toList with
      | nil => exact absurd (show s.size = 0 from by have : s.data.toList.length = 0 := by rw [h]; rfl
                                                     simpa using this) h0
      | cons => rfl
    go_enter Tryd.func39, Tryd.ntmps39
    go_wp2_with (go_at_call 50; refine (reading_calls _).mono ?_; rintro e w' ⟨rfl, rfl⟩)
    go_loopw [5, 6, 7] (fun n e i wr => ∃ k : Nat, k ≤ s.size ∧ i = .int .i64 k ∧ n = .int .i64 (rout (rst (s.data.toList.take k))).1 ∧ e = .int .i64 (rout (rst (s.data.toList.take k))).2 ∧
        (s.data.toList.take k).all isDig = true ∧ KeptR w (rst (s.data.toList.take k)).1 (rst (s.data.toList.take k)).2 wr) (fun _ _ i _ => s.size - (intOf i).toNat)
    case atStart => exact ⟨0, Nat.zero_le _, rfl, rfl, rfl, rfl, kept_start w⟩
    case round =>
      obtain ⟨k, hk, rfl, rfl, rfl, hall, hkept⟩ := hrel
      by_cases hkl : k < s.size
      · have hbs : k < s.data.toList.length := by simpa using hkl
        have hget : s.data.toList[k] = s[k] := by rw [Array.getElem_toList]; rfl
        have hlast := take_succ_dig _ k hbs
        rw [hget] at hlast
        rcases (show s[k].toNat < 48 ∨ 57 < s[k].toNat ∨ (48 ≤ s[k].toNat ∧ s[k].toNat ≤ 57) from by omega) with hl | hh | hd
        · have hbad : readOut s.data.toList = (0, 11) := readOut_bad hbs (by rw [hget]; simp [isDig]; omega)
          have Hbad : Hid (readOut s.data.toList = (0, 11)) := hbad
          clear hbad hlast hget
          go_wp2
          go_ret2
          exact ⟨by rw [Hbad.out]; rfl, hkept.gr⟩
        · have hbad : readOut s.data.toList = (0, 11) := readOut_bad hbs (by rw [hget]; simp [isDig]; omega)
          have Hbad : Hid (readOut s.data.toList = (0, 11)) := hbad
          clear hbad hlast hget
          go_wp2
          go_ret2
          exact ⟨by rw [Hbad.out]; rfl, hkept.gr⟩
        · obtain ⟨d0, d9⟩ := hd
          have hb := rst_bounds _ hall
          have hdig : isDig s[k] = true := by simp [isDig]; omega
          have hall' : (s.data.toList.take (k + 1)).all isDig = true := by rw [hlast, List.all_append, hall]; simp [hdig]
          have hnext : rst (s.data.toList.take (k + 1)) = rstep (rst (s.data.toList.take k)) ((s[k].toNat : Int) - 48) := by rw [hlast, rst_snoc]
          by_cases hab : (rst (s.data.toList.take k)).2 = true ∨ (4611686018427387903 - ((s[k].toNat : Int) - 48)) / 10 < (rst (s.data.toList.take k)).1
          · have hst : rstep (rst (s.data.toList.take k)) ((s[k].toNat : Int) - 48) = ((rst (s.data.toList.take k)).1, true) := by unfold rstep; rw [if_pos hab]
            have R : Hid (∀ wx, wr.setCell ⟨w.heap.size + 1, 0, none⟩ (.bool true) = wx → KeptR w (rst (s.data.toList.take (k + 1))).1 (rst (s.data.toList.take (k + 1))).2 wx) := by
              rintro wx rfl; rw [hnext, hst]; exact kept_above hkept
            have Hout : Hid (rout (rst (s.data.toList.take (k + 1))) = (0, 10)) := by
              show rout (rst (s.data.toList.take (k + 1))) = (0, 10)
              rw [hnext, hst]; rfl
            have Hab : Hid ((rst (s.data.toList.take k)).2 = true ∨ (4611686018427387903 - ((s[k].toNat : Int) - 48)) / 10 < (rst (s.data.toList.take k)).1) := hab
            have Hk : Hid (KeptR w (rst (s.data.toList.take k)).1 (rst (s.data.toList.take k)).2 wr) := hkept
            have Hall : Hid ((s.data.toList.take (k + 1)).all isDig = true) := hall'
            clear hlast hget hnext hst hall hall' hab hkept hb hdig
            go_wp2_with fail
            refine (take_above _ _ _ _ _ _ Hk.out.cn Hk.out.ca Hk.out.fa (by omega) (by omega) Hab.out).mono ?_
            rintro e w1 ⟨rfl, hw⟩
            have R1 : Hid (KeptR w (rst (s.data.toList.take (k + 1))).1 (rst (s.data.toList.take (k + 1))).2 w1) := R.out w1 hw
            clear R hw Hab Hk
            go_wp2
            go_roundw
            case rel => exact ⟨k + 1, by omega, by go_num, by rw [Hout.out], by rw [Hout.out], Hall.out, R1.out⟩
            case measure => simp [intOf]; omega
          · have hb2 : (rst (s.data.toList.take k)).2 = false := by
              cases hx : (rst (s.data.toList.take k)).2 with
              | false => rfl
              | true => exact absurd (Or.inl hx) hab
            have hle : (rst (s.data.toList.take k)).1 ≤ (4611686018427387903 - ((s[k].toNat : Int) - 48)) / 10 := by
              rw [hb2] at hab; simp at hab; omega
            have hst : rstep (rst (s.data.toList.take k)) ((s[k].toNat : Int) - 48) = (10 * (rst (s.data.toList.take k)).1 + ((s[k].toNat : Int) - 48), false) := by unfold rstep; rw [if_neg hab]
            have R : Hid (∀ wx, wr.setCell ⟨w.heap.size, 0, none⟩ (.int .i64 (10 * (rst (s.data.toList.take k)).1 + ((s[k].toNat : Int) - 48))) = wx → KeptR w (rst (s.data.toList.take (k + 1))).1 (rst (s.data.toList.take (k + 1))).2 wx) := by
              rintro wx rfl; rw [hnext, hst]; rw [hb2] at hkept; exact kept_more hkept _
            have Hout : Hid (rout (rst (s.data.toList.take (k + 1))) = (10 * (rst (s.data.toList.take k)).1 + ((s[k].toNat : Int) - 48), 0)) := by
              show rout (rst (s.data.toList.take (k + 1))) = (10 * (rst (s.data.toList.take k)).1 + ((s[k].toNat : Int) - 48), 0)
              rw [hnext, hst]; rfl
            have Hk : Hid (KeptR w (rst (s.data.toList.take k)).1 false wr) := by rw [hb2] at hkept; exact hkept
            have Hle : Hid ((rst (s.data.toList.take k)).1 ≤ (4611686018427387903 - ((s[k].toNat : Int) - 48)) / 10) := hle
            have Hb : Hid (0 ≤ (rst (s.data.toList.take k)).1) := hb.1
            have Hall : Hid ((s.data.toList.take (k + 1)).all isDig = true) := hall'
            clear hlast hget hnext hst hall hall' hab hkept hb hdig hb2 hle
            go_wp2_with fail
            refine (take_more _ _ _ _ _ Hk.out.cn Hk.out.ca Hk.out.fn (by omega) (by omega) Hb.out Hle.out).mono ?_
            rintro e w1 ⟨rfl, hw⟩
            have R1 : Hid (KeptR w (rst (s.data.toList.take (k + 1))).1 (rst (s.data.toList.take (k + 1))).2 w1) := R.out w1 hw
            clear R hw Hk Hle Hb
            go_wp2
            go_roundw
            case rel => exact ⟨k + 1, by omega, by go_num, by rw [Hout.out], by rw [Hout.out], Hall.out, R1.out⟩
            case measure => simp [intOf]; omega
      · have hke : s.data.toList.length = k := by simp; omega
        have hfull : readOut s.data.toList = rout (rst (s.data.toList.take k)) := by
          rw [← hke, List.take_length]
          refine readOut_good ?_ ?_
          · intro h; rw [h] at hke; simp at hke; omega
          · rw [← hke, List.take_length] at hall; exact hall
        have Hfull : Hid (readOut s.data.toList = rout (rst (s.data.toList.take k))) := hfull
        have Hgr : Hid (Below w.heap.size w wr) := hkept.gr
        clear hfull hke hall hkept
        go_wp2
        go_ret2
        exact ⟨by rw [Hfull.out]; rfl, Hgr.out⟩

end Go.Proofs.YtijbiedblahmhaaDoor
