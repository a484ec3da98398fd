/- Blanks and notes. The document's signs. The longest sign that comes. What text.Take answers, for any text: its reader, method by method. -/
import Derived.Test.YtijbiedblahmhaaDoorJoint21
import Derived.Lib.Strings
import Derived.Test.YtijbiedblahmhaaDoorJoint2
import Derived.Deep.MidRow
import Derived.Deep.RegionLaw
namespace Go.Proofs.YtijbiedblahmhaaDoor
open Go.RowKit

theorem cut_list (s : ByteArray) (a b : Nat) : (s.extract a b).data.toList = (s.data.toList.drop a).take (b - a) := by
  rw [ByteArray.data_extract, Array.toList_extract, List.extract_eq_take_drop]
theorem cut_size (s : ByteArray) {a b : Nat} (hb : b ≤ s.size) : (s.extract a b).size = b - a := by
  rw [← list_size, cut_list, List.length_take, List.length_drop, list_size]; omega
theorem rest_list (s : ByteArray) (k : Nat) : (s.extract k s.size).data.toList = s.data.toList.drop k := by
  rw [cut_list, List.take_of_length_le]
  rw [List.length_drop, list_size]; exact Nat.le_refl _

def prefB (p l : List UInt8) : Bool := p.isPrefixOf l
theorem pref_short {s p : ByteArray} (h : s.size < p.size) : prefB p.data.toList s.data.toList = false := by
  cases h1 : prefB p.data.toList s.data.toList with
  | false => rfl
  | true =>
    have := (List.isPrefixOf_iff_prefix.1 h1).length_le
    rw [list_size, list_size] at this; omega
theorem pref_long {s p : ByteArray} (_h : p.size ≤ s.size) : ((s.extract 0 p.size).toList == p.toList) = prefB p.data.toList s.data.toList := by
  rw [Lib.toList_data, Lib.toList_data, cut_list, Bool.eq_iff_iff, beq_iff_eq, prefB, List.isPrefixOf_iff_prefix, List.prefix_iff_eq_take, list_size]
  simp only [List.drop_zero, Nat.sub_zero]
  exact eq_comm

theorem hasp_calls (s p : ByteArray) (w : World) :
    Calls Tryd.prog 35 #[.string s, .string p] w fun e w' => e = .returned (.bool (prefB p.data.toList s.data.toList)) ∧ w = w' := by
  by_cases h : p.size ≤ s.size
  · have H := hid (pref_long h)
    go_enter Tryd.func35, Tryd.ntmps35
    go_wp2
    go_ret
    exact ⟨by rw [← H.out]; rfl, rfl⟩
  · have H := hid (pref_short (s := s) (p := p) (by omega))
    go_enter Tryd.func35, Tryd.ntmps35
    go_wp2
    go_ret
    exact ⟨by rw [H.out]; rfl, rfl⟩

theorem hasprefix_calls (s p : ByteArray) (w : World) :
    Calls Tryd.prog 21 #[.string s, .string p] w fun e w' => e = .returned (.bool (prefB p.data.toList s.data.toList)) ∧ w = w' := by
  go_enter Tryd.func21, Tryd.ntmps21
  go_wp2_with fail
  refine (hasp_calls s p _).mono ?_
  rintro e w1 ⟨rfl, rfl⟩
  go_wp2
  go_ret
  exact ⟨rfl, rfl⟩

theorem pref_slashes (l : List UInt8) : prefB [47, 47] l = slashes l := by
  match l with
  | [] => rfl
  | [a] => simp [prefB, slashes, List.isPrefixOf]
  | a :: b :: r =>
    have e : ∀ c : UInt8, ((47 : UInt8) == c) = decide (c.toNat = 47) := by
      intro c
      rw [Bool.eq_iff_iff, beq_iff_eq, decide_eq_true_iff]
      constructor
      · rintro rfl; rfl
      · intro h; exact (UInt8.toNat_inj.1 (by rw [h]; rfl))
    simp [prefB, slashes, List.isPrefixOf, e]

theorem skip_calls (s : ByteArray) (hs : s.size ≤ 1000000) (k : Nat) (hk : k ≤ s.size) (w : World) :
    Calls Tryd.prog 15 #[.string s, .int .i64 k] w fun e w' => e = .returned (.int .i64 (skipTo false s k)) ∧ w = w' := by
  go_enter Tryd.func15, Tryd.ntmps15
  go_wp2
  go_loop [1] (fun i => ∃ j : Nat, k ≤ j ∧ j ≤ s.size ∧ i = .int .i64 j ∧ skipTo false s k = skipTo false s j) (fun i => s.size - (intOf i).toNat)
  case atStart => exact ⟨k, Nat.le_refl _, hk, rfl, rfl⟩
  case round =>
    obtain ⟨j, hkj, hj, rfl, hrun⟩ := hrel
    have h1 := runTo_ge blankN s j
    have h2 := runTo_le (p := blankN) hj
    have hst := fun h => runTo_stop (p := blankN) (s := s) (k := j) h
    have e1 := hrun.trans (skipTo_blanks _ j (Nat.le_refl _))
    generalize hm : runTo blankN s j = m at *
    have Hm := hid hm
    clear hm hrun
    cases hsl : slashes (s.data.toList.drop m) with
    | false =>
      have H := hid (e1.trans (skipTo_off hsl hst))
      have Hp := hid (show prefB [47, 47] (s.extract m s.size).data.toList = false by rw [rest_list, pref_slashes, hsl])
      clear e1 hst hsl
      go_wp2_with fail
      refine (runblank_calls s hs j hj _).mono ?_
      rintro e w1 ⟨rfl, rfl⟩
      rw [Hm.out]
      go_wp2_with fail
      refine (hasprefix_calls _ _ _).mono ?_
      rintro e w1 ⟨rfl, rfl⟩
      rw [Hp.out]
      go_wp2
      go_ret
      exact ⟨by rw [H.out]; rfl, rfl⟩
    | true =>
      have H := hid (e1.trans (skipTo_slashes hsl))
      have Hp := hid (show prefB [47, 47] (s.extract m s.size).data.toList = true by rw [rest_list, pref_slashes, hsl])
      have hml : m < s.size := by
        rcases Nat.lt_or_ge m s.size with h | h
        · exact h
        · rw [drop_end s m h] at hsl; simp [slashes] at hsl
      have h3 : m < runTo noteN s m := by
        have h47 : noteN s[m].toNat = true := by
          rw [drop_byte s m hml] at hsl
          cases hd : s.data.toList.drop (m + 1) with
          | nil => rw [hd] at hsl; simp [slashes] at hsl
          | cons c r => rw [hd] at hsl; simp [slashes] at hsl; simp [noteN, hsl.1]
        rw [runTo_on hml h47]
        have := runTo_ge noteN s (m + 1)
        omega
      have h4 := runTo_le (p := noteN) h2
      clear e1 hst hsl
      go_wp2_with fail
      refine (runblank_calls s hs j hj _).mono ?_
      rintro e w1 ⟨rfl, rfl⟩
      rw [Hm.out]
      go_wp2_with fail
      refine (hasprefix_calls _ _ _).mono ?_
      rintro e w1 ⟨rfl, rfl⟩
      rw [Hp.out]
      go_wp2_with fail
      refine (runnote_calls s hs m h2 _).mono ?_
      rintro e w1 ⟨rfl, rfl⟩
      generalize runTo noteN s m = q at *
      go_wp2
      go_round
      case rel => exact ⟨q, by omega, by omega, by rfl, H.out⟩
      case measure => simp [intOf]; omega

end Go.Proofs.YtijbiedblahmhaaDoor

namespace Go.Proofs.YtijbiedblahmhaaDoor
open Go.RowKit

end Go.Proofs.YtijbiedblahmhaaDoor

namespace Go.Proofs.YtijbiedblahmhaaDoor
open Go.RowKit

theorem firstOf_skip : ∀ (L : List (List UInt8)) (l : List UInt8) (j : Nat) (h : j < L.length), prefB L[j] l = false → firstOf (L.drop j) l = firstOf (L.drop (j + 1)) l := by
  intro L l j h hp
  rw [List.drop_eq_getElem_cons h]
  unfold prefB at hp
  simp [firstOf, hp]
theorem firstOf_here : ∀ (L : List (List UInt8)) (l : List UInt8) (j : Nat) (h : j < L.length), prefB L[j] l = true → firstOf (L.drop j) l = L[j] := by
  intro L l j h hp
  rw [List.drop_eq_getElem_cons h]
  unfold prefB at hp
  simp [firstOf, hp]

theorem sgn_range {w : World} (h : Texts 0 sgnL w) : w.rangeAt 0 0 (sgnL.map fun l => Value.string ⟨l.toArray⟩) := by
  intro j v hv
  rw [List.getElem?_map, Option.map_eq_some_iff] at hv
  obtain ⟨l, hl, rfl⟩ := hv
  obtain ⟨hj, rfl⟩ := List.getElem?_eq_some_iff.1 hl
  simpa using h j hj

theorem index25 (A : Array Value) (x : ByteArray) (j : Nat) (hj : j < 25) (h : A[j]? = some (.string x)) (w : World) :
    (Instr.index 72 (.agg A) (.int .i64 (j : Int))).run Tryd.prog w = .ok (.string x) w := by
  simp [go_sem, Instr.index, part, h, asIntOf]
  omega

set_option maxRecDepth 100000 in
theorem longest_calls (s : ByteArray) (w : World) (SG : Hid (Texts 0 sgnL w)) :
    Calls Tryd.prog 42 #[.string s] w fun e w' => e = .returned (.string ⟨(signL s.data.toList).toArray⟩) ∧ w = w' := by
  go_enter Tryd.func42, Tryd.ntmps42
  go_wp2_with (refine wpList_load_mid rfl 72 _ rfl 0 0 rfl _ _ (sgn_range SG.out) Tryd.underlying72 rfl (by kernel_rfl) ?_)
  generalize hA : (List.map (fun l => Value.string ⟨l.toArray⟩) sgnL).toArray = A
  have hAt : Hid (∀ (j : Nat) (h : j < sgnL.length), A[j]? = some (.string ⟨(sgnL[j]).toArray⟩)) := hid fun j h => by rw [← hA]; simp [h]
  have h25 : sgnL.length = 25 := rfl
  clear hA
  go_wp2
  go_loop [6] (fun i => ∃ j : Nat, j ≤ 25 ∧ i = .int .i64 j ∧ signL s.data.toList = firstOf (sgnL.drop j) s.data.toList) (fun i => 25 - (intOf i).toNat)
  case atStart => exact ⟨0, by omega, rfl, rfl⟩
  case round =>
    obtain ⟨j, hj, rfl, hf⟩ := hrel
    by_cases hjl : j < 25
    · have hjL : j < sgnL.length := by omega
      have c := index25 A _ j hjl (hAt.out j hjL) w
      cases hp : prefB sgnL[j] s.data.toList with
      | true =>
        have H := hid (hf.trans (firstOf_here sgnL _ j hjL hp))
        have Hp := hid hp
        clear hp hf
        generalize sgnL[j] = x at *
        go_wp2_with fail
        refine (hasprefix_calls _ _ _).mono ?_
        rintro e w1 ⟨rfl, rfl⟩
        rw [Hp.out]
        go_wp2
        go_ret
        exact ⟨by rw [H.out]; rfl, rfl⟩
      | false =>
        have H := hid (hf.trans (firstOf_skip sgnL _ j hjL hp))
        have Hp := hid hp
        clear hp hf
        generalize sgnL[j] = x at *
        go_wp2_with fail
        refine (hasprefix_calls _ _ _).mono ?_
        rintro e w1 ⟨rfl, rfl⟩
        rw [Hp.out]
        go_wp2
        go_round
        case rel => exact ⟨j + 1, by omega, by go_num, H.out⟩
        case measure => simp [intOf]; omega
    · have H := hid (hf.trans (show firstOf (sgnL.drop j) s.data.toList = [] by rw [List.drop_of_length_le (by omega)]; rfl))
      clear hf
      go_wp2
      go_ret
      exact ⟨by rw [H.out]; rfl, rfl⟩

theorem pref_cut (s : ByteArray) (k n : Nat) (x : List UInt8) (hn : x.length = n) (_h : k + n ≤ s.size) : ((s.extract k (k + n)).toList == x) = prefB x (s.data.toList.drop k) := by
  rw [Lib.toList_data, cut_list, Bool.eq_iff_iff, beq_iff_eq, prefB, List.isPrefixOf_iff_prefix, List.prefix_iff_eq_take, hn, Nat.add_sub_cancel_left]
  exact eq_comm
theorem pref_none (s : ByteArray) (k : Nat) (x : List UInt8) (hk : k ≤ s.size) (h : s.size < k + x.length) : prefB x (s.data.toList.drop k) = false := by
  cases h1 : prefB x (s.data.toList.drop k) with
  | false => rfl
  | true =>
    have := (List.isPrefixOf_iff_prefix.1 h1).length_le
    rw [List.length_drop, list_size] at this; omega

end Go.Proofs.YtijbiedblahmhaaDoor

namespace Go.Proofs.YtijbiedblahmhaaDoor
open Go.RowKit

/-- the reader at block b: its text, its place, and the bytes read so far -/
def Rdr (s : ByteArray) (B b k : Nat) (acc : List UInt8) (w : World) : Prop := Has 70 [.string s, .int .i64 (k : Int)] B b acc w

theorem fits_reader : Fits 70 4 := ⟨by kernel_rfl, by decide⟩

/-- the byte at the head; 0 at the end -/
def lookN : List UInt8 → Nat
  | [] => 0
  | c :: _ => c.toNat

theorem Rdr.text {s : ByteArray} {B b k : Nat} {acc : List UInt8} {w : World} (h : Rdr s B b k acc w) : w.cell? ⟨b, 2, none⟩ = some (.string s) := Has.cell (j := 0) h rfl
theorem Rdr.at {s : ByteArray} {B b k : Nat} {acc : List UInt8} {w : World} (h : Rdr s B b k acc w) : w.cell? ⟨b, 3, none⟩ = some (.int .i64 (k : Int)) := Has.cell (j := 1) h rfl
theorem Rdr.drew {s : ByteArray} {B b k : Nat} {acc : List UInt8} {w : World} (h : Rdr s B b k acc w) : Rdr s B b k acc w.drew := Has.drew h
theorem Rdr.on {s : ByteArray} {B b k : Nat} {acc : List UInt8} {w : World} (h : Rdr s B b k acc w) (n : Int) (hn : n = ((k + 1 : Nat) : Int)) : Rdr s B b (k + 1) acc (w.setCell ⟨b, 3, none⟩ (.int .i64 n)) := by
  subst hn
  exact Has.put h 1 _
theorem Rdr.low {s : ByteArray} {B b k : Nat} {acc : List UInt8} {w : World} (h : Rdr s B b k acc w) : B ≤ b := by obtain ⟨_, _, h⟩ := h; exact h.low
theorem Rdr.size {s : ByteArray} {B b k : Nat} {acc : List UInt8} {w : World} (h : Rdr s B b k acc w) : B ≤ w.heap.size := Nat.le_trans h.low (Nat.le_of_lt (Has.lt h))

set_option maxRecDepth 100000 in
theorem look_calls (s : ByteArray) (B b k : Nat) (acc : List UInt8) (hk : k ≤ s.size) (w : World) (h : Rdr s B b k acc w) :
    Calls Tryd.prog 70 #[.pointer (some ⟨b, 0, none⟩)] w fun e w' => e = .returned (.int .u8 (lookN (s.data.toList.drop k) : Int)) ∧ Rdr s B b k acc w' ∧ Below B w w' := by
  have ct := h.text
  have ca := h.at
  have HR := hid h
  by_cases hkl : k < s.size
  · have e1 : ((k : Int) == (s.size : Int)) = false := beq_eq_false_iff_ne.2 (by omega)
    have Hl := hid (show lookN (s.data.toList.drop k) = s[k].toNat by rw [drop_byte s k hkl]; rfl)
    clear h
    go_enter Tryd.func70, Tryd.ntmps70
    go_wp2
    go_region
    all_goals (go_wp2; go_region)
    all_goals (go_wp2; go_ret; exact ⟨by rw [Hl.out]; rfl, HR.out.drew.drew, (Below.refl B w).drew.drew⟩)
  · have e1 : ((k : Int) == (s.size : Int)) = true := beq_iff_eq.2 (by omega)
    have Hl := hid (show lookN (s.data.toList.drop k) = 0 by rw [drop_end s k (by omega)]; rfl)
    clear h
    go_enter Tryd.func70, Tryd.ntmps70
    go_wp2
    go_region
    all_goals (go_wp2; go_ret; exact ⟨by rw [Hl.out]; rfl, HR.out.drew, (Below.refl B w).drew⟩)

set_option maxRecDepth 100000 in
theorem skip_yes (s : ByteArray) (hs : s.size ≤ 1000000) (B b k : Nat) (acc : List UInt8) (c : Nat) (hk : k ≤ s.size) (w : World) (h : Rdr s B b k acc w) (hl : lookN (s.data.toList.drop k) = c) :
    Calls Tryd.prog 61 #[.pointer (some ⟨b, 0, none⟩), .int .u8 (c : Int)] w fun e w' => e = .returned (.bool true) ∧ Rdr s B b (k + 1) acc w' ∧ Below B w w' := by
  have HL := hid hl
  clear hl
  go_enter Tryd.func61, Tryd.ntmps61
  go_wp2_with fail
  refine (look_calls s B b k acc hk _ h).mono ?_
  rintro e w1 ⟨rfl, h1, b1⟩
  rw [HL.out]
  have ca := h1.at
  have fa : w1.frozen? ⟨b, 3, none⟩ = false := Has.free h1 3
  have H1 := hid h1
  have B1 := hid b1
  clear h h1 b1
  go_wp2
  go_ret
  exact ⟨rfl, H1.out.on _ (by go_num), B1.out.setCell (p := ⟨b, 3, none⟩) H1.out.low _⟩

set_option maxRecDepth 100000 in
theorem skip_no (s : ByteArray) (B b k : Nat) (acc : List UInt8) (c : Nat) (hk : k ≤ s.size) (w : World) (h : Rdr s B b k acc w) (hl : lookN (s.data.toList.drop k) ≠ c) :
    Calls Tryd.prog 61 #[.pointer (some ⟨b, 0, none⟩), .int .u8 (c : Int)] w fun e w' => e = .returned (.bool false) ∧ Rdr s B b k acc w' ∧ Below B w w' := by
  go_enter Tryd.func61, Tryd.ntmps61
  go_wp2_with fail
  refine (look_calls s B b k acc hk _ h).mono ?_
  rintro e w1 ⟨rfl, h1, b1⟩
  have e1 : ((lookN (s.data.toList.drop k) : Int) != (c : Int)) = true := bne_iff_ne.2 (by omega)
  have H1 := hid h1
  have B1 := hid b1
  clear h h1 b1
  go_wp2
  go_ret
  exact ⟨rfl, H1.out, B1.out⟩

/-- what worth hands back -/
def wval (n : Nat) : Nat := if worthN n = 16 then 0 else worthN n
def wok (n : Nat) : Bool := decide (worthN n ≠ 16)

theorem wval_of {n m : Nat} (h : worthN n = m) (hm : m ≠ 16) : wval n = m ∧ wok n = true := by
  unfold wval wok; rw [h]; simp [hm]
theorem wval_no {n : Nat} (h : worthN n = 16) : wval n = 0 ∧ wok n = false := by
  unfold wval wok; rw [h]; simp

set_option maxRecDepth 100000 in
theorem worth_calls (n : Nat) (w : World) :
    Calls Tryd.prog 90 #[.int .u8 (n : Int)] w fun e w' => e = .returned (.tuple #[.int .u8 (wval n : Int), .bool (wok n)]) ∧ w = w' := by
  by_cases hd : digitN n
  · have hd2 : 48 ≤ n ∧ n ≤ 57 := by simpa [digitN] using hd
    have H := hid (wval_of (n := n) (m := n - 48) (by unfold worthN; rw [if_pos hd2]) (by omega))
    obtain ⟨d1, d2⟩ := hd2
    go_enter Tryd.func90, Tryd.ntmps90
    go_wp2_with fail
    refine (digit_calls n _).mono ?_
    rintro e w1 ⟨rfl, rfl⟩
    go_wp2
    go_ret2
    refine ⟨?_, rfl⟩
    rw [H.out.1, H.out.2]
    simp
    omega
  · have hd2 : ¬ (48 ≤ n ∧ n ≤ 57) := by simpa [digitN] using hd
    rcases (show n < 65 ∨ (65 ≤ n ∧ n ≤ 70) ∨ (70 < n ∧ n < 97) ∨ (97 ≤ n ∧ n ≤ 102) ∨ 102 < n from by omega) with h | ⟨h1, h2⟩ | ⟨h1, h2⟩ | ⟨h1, h2⟩ | h
    · have H := hid (wval_no (n := n) (by unfold worthN; rw [if_neg hd2, if_neg (by omega), if_neg (by omega)]))
      clear hd2
      go_enter Tryd.func90, Tryd.ntmps90
      go_wp2_with fail
      refine (digit_calls n _).mono ?_
      rintro e w1 ⟨rfl, rfl⟩
      go_wp2
      go_ret2
      exact ⟨by rw [H.out.1, H.out.2]; rfl, rfl⟩
    · have H := hid (wval_of (n := n) (m := n - 55) (by unfold worthN; rw [if_neg hd2, if_neg (by omega), if_pos (by omega)]) (by omega))
      clear hd2
      go_enter Tryd.func90, Tryd.ntmps90
      go_wp2_with fail
      refine (digit_calls n _).mono ?_
      rintro e w1 ⟨rfl, rfl⟩
      go_wp2
      go_ret2
      refine ⟨?_, rfl⟩
      rw [H.out.1, H.out.2]
      simp
      omega
    · have H := hid (wval_no (n := n) (by unfold worthN; rw [if_neg hd2, if_neg (by omega), if_neg (by omega)]))
      have d : decide ((n : Int) ≤ 70) = false := decide_eq_false (by omega)
      clear hd2
      go_enter Tryd.func90, Tryd.ntmps90
      go_wp2_with fail
      refine (digit_calls n _).mono ?_
      rintro e w1 ⟨rfl, rfl⟩
      go_wp2
      go_ret2
      exact ⟨by rw [H.out.1, H.out.2]; rfl, rfl⟩
    · have H := hid (wval_of (n := n) (m := n - 87) (by unfold worthN; rw [if_neg hd2, if_pos (by omega)]) (by omega))
      clear hd2
      go_enter Tryd.func90, Tryd.ntmps90
      go_wp2_with fail
      refine (digit_calls n _).mono ?_
      rintro e w1 ⟨rfl, rfl⟩
      go_wp2
      go_ret2
      refine ⟨?_, rfl⟩
      rw [H.out.1, H.out.2]
      simp
      omega
    · have H := hid (wval_no (n := n) (by unfold worthN; rw [if_neg hd2, if_neg (by omega), if_neg (by omega)]))
      have d : decide ((n : Int) ≤ 70) = false := decide_eq_false (by omega)
      have d2 : decide ((n : Int) ≤ 102) = false := decide_eq_false (by omega)
      clear hd2
      go_enter Tryd.func90, Tryd.ntmps90
      go_wp2_with fail
      refine (digit_calls n _).mono ?_
      rintro e w1 ⟨rfl, rfl⟩
      go_wp2
      go_ret2
      exact ⟨by rw [H.out.1, H.out.2]; rfl, rfl⟩

end Go.Proofs.YtijbiedblahmhaaDoor
