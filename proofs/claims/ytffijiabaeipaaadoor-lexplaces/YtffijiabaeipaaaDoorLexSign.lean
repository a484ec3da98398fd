/- The longest sign that comes. -/
import Derived.Test.YtffijiabaeipaaaDoorLexKey
import Derived.Deep.MidRow
namespace Go.Proofs.YtffijiabaeipaaaDoor
open Go.RowKit

theorem firstOf_skip : ∀ (L : List (List UInt8)) (l : List UInt8) (j : Nat) (h : j < L.length), prefB L[j] l = false → firstOf (L.drop j) l = firstOf (L.drop (j + 1)) l := by
  intro L l j h hp
  rw [List.drop_eq_getElem_cons h]
  unfold prefB at hp
  simp [firstOf, hp]
theorem firstOf_here : ∀ (L : List (List UInt8)) (l : List UInt8) (j : Nat) (h : j < L.length), prefB L[j] l = true → firstOf (L.drop j) l = L[j] := by
  intro L l j h hp
  rw [List.drop_eq_getElem_cons h]
  unfold prefB at hp
  simp [firstOf, hp]

theorem sgn_range {w : World} (h : Texts 0 sgnL w) : w.rangeAt 0 0 (sgnL.map fun l => Value.string ⟨l.toArray⟩) := by
  intro j v hv
  rw [List.getElem?_map, Option.map_eq_some_iff] at hv
  obtain ⟨l, hl, rfl⟩ := hv
  obtain ⟨hj, rfl⟩ := List.getElem?_eq_some_iff.1 hl
  simpa using h j hj

theorem index25 (A : Array Value) (x : ByteArray) (j : Nat) (hj : j < 25) (h : A[j]? = some (.string x)) (w : World) :
    (Instr.index 80 (.agg A) (.int .i64 (j : Int))).run Tryd.prog w = .ok (.string x) w := by
  simp [go_sem, Instr.index, part, h, asIntOf]
  omega

theorem longest_calls (s : ByteArray) (w : World) (SG : Hid (Texts 0 sgnL w)) :
    Calls Tryd.prog 51 #[.string s] w fun e w' => e = .returned (.string ⟨(signL s.data.toList).toArray⟩) ∧ w = w' := by
  go_enter Tryd.func51, Tryd.ntmps51
  go_wp2_with (refine wpList_load_mid rfl 80 _ rfl 0 0 rfl _ _ (sgn_range SG.out) Tryd.underlying80 rfl (by kernel_rfl) ?_)
  generalize hA : (List.map (fun l => Value.string ⟨l.toArray⟩) sgnL).toArray = A
  have hAt : Hid (∀ (j : Nat) (h : j < sgnL.length), A[j]? = some (.string ⟨(sgnL[j]).toArray⟩)) := hid fun j h => by rw [← hA]; simp [h]
  have h25 : sgnL.length = 25 := rfl
  clear hA
  go_wp2
  go_loop [6] (fun i => ∃ j : Nat, j ≤ 25 ∧ i = .int .i64 j ∧ signL s.data.toList = firstOf (sgnL.drop j) s.data.toList) (fun i => 25 - (intOf i).toNat)
  case atStart => exact ⟨0, by omega, rfl, rfl⟩
  case round =>
    obtain ⟨j, hj, rfl, hf⟩ := hrel
    by_cases hjl : j < 25
    · have hjL : j < sgnL.length := by omega
      have c := index25 A _ j hjl (hAt.out j hjL) w
      cases hp : prefB sgnL[j] s.data.toList with
      | true =>
        have H := hid (hf.trans (firstOf_here sgnL _ j hjL hp))
        have Hp := hid hp
        clear hp hf
        generalize sgnL[j] = x at *
        go_wp2_with fail
        refine (hasprefix_calls _ _ _).mono ?_
        rintro e w1 ⟨rfl, rfl⟩
        rw [Hp.out]
        go_wp2
        go_ret
        exact ⟨by rw [H.out]; rfl, rfl⟩
      | false =>
        have H := hid (hf.trans (firstOf_skip sgnL _ j hjL hp))
        have Hp := hid hp
        clear hp hf
        generalize sgnL[j] = x at *
        go_wp2_with fail
        refine (hasprefix_calls _ _ _).mono ?_
        rintro e w1 ⟨rfl, rfl⟩
        rw [Hp.out]
        go_wp2
        go_round
        case rel => exact ⟨j + 1, by omega, by go_num, H.out⟩
        case measure => simp [intOf]; omega
    · have H := hid (hf.trans (show firstOf (sgnL.drop j) s.data.toList = [] by rw [List.drop_of_length_le (by omega)]; rfl))
      clear hf
      go_wp2
      go_ret
      exact ⟨by rw [H.out]; rfl, rfl⟩

theorem pref_cut (s : ByteArray) (k n : Nat) (x : List UInt8) (hn : x.length = n) (_h : k + n ≤ s.size) : ((s.extract k (k + n)).toList == x) = prefB x (s.data.toList.drop k) := by
  rw [Lib.toList_data, cut_list, Bool.eq_iff_iff, beq_iff_eq, prefB, List.isPrefixOf_iff_prefix, List.prefix_iff_eq_take, hn, Nat.add_sub_cancel_left]
  exact eq_comm
theorem pref_none (s : ByteArray) (k : Nat) (x : List UInt8) (hk : k ≤ s.size) (h : s.size < k + x.length) : prefB x (s.data.toList.drop k) = false := by
  cases h1 : prefB x (s.data.toList.drop k) with
  | false => rfl
  | true =>
    have := (List.isPrefixOf_iff_prefix.1 h1).length_le
    rw [List.length_drop, list_size] at this; omega

set_option maxHeartbeats 800000 in
theorem refsign_calls (s : ByteArray) (hs : s.size ≤ 1000000) (k : Nat) (hk : k ≤ s.size) (w : World) :
    Calls Tryd.prog 48 #[.string s, .int .i64 k] w fun e w' => e = .returned (.string ⟨(signL (s.data.toList.drop k)).toArray⟩) ∧ Below w.heap.size w w' := by
  go_enter Tryd.func48, Tryd.ntmps48
  go_wp2_with fail
  refine (signs_calls _).mono ?_
  rintro e w1 ⟨rfl, hw⟩
  have T := hid (hw ▸ texts_new w sgnL 9)
  have B := hid (hw ▸ (Below.refl w.heap.size w).alloc (Nat.le_refl _) (.cells (textCells sgnL) 9))
  clear hw
  have h25 : sgnL.length = 25 := rfl
  go_wp2
  go_loopw [6, 7] (fun i n wr => ∃ j : Nat, j ≤ 25 ∧ i = .int .i64 j ∧ signL (s.data.toList.drop k) = firstOf (sgnL.drop j) (s.data.toList.drop k) ∧ Texts w.heap.size sgnL wr ∧ Below w.heap.size w wr) (fun i _ _ => 25 - (intOf i).toNat)
  case atStart => exact ⟨0, by omega, rfl, rfl, T.out, B.out⟩
  case round =>
    obtain ⟨j, hj, rfl, hf, hT, hB⟩ := hrel
    clear T B
    by_cases hjl : j < 25
    · have hjL : j < sgnL.length := by omega
      have c := hT j hjL
      have T := hid hT
      have B := hid hB
      have hx2 : sgnL[j].length ≤ 2 := by
        have : ∀ x ∈ sgnL, x.length ≤ 2 := by decide
        exact this _ (List.getElem_mem hjL)
      cases hp : prefB sgnL[j] (s.data.toList.drop k) with
      | true =>
        have H := hid (hf.trans (firstOf_here sgnL _ j hjL hp))
        by_cases hr : k + sgnL[j].length ≤ s.size
        · have Hp := (pref_cut s k _ _ rfl hr).trans hp
          have hd : decide ((sgnL[j].length : Int) ≤ (s.size : Int) - (k : Int)) = true := decide_eq_true (by omega)
          clear hp hf hT hB
          generalize sgnL[j] = x at *
          go_wp2
          go_quiet (fail)
          go_wp2
          go_ret
          exact ⟨by rw [H.out]; rfl, below_drewN B.out _⟩
        · rw [pref_none s k _ hk (by omega)] at hp; cases hp
      | false =>
        have H := hid (hf.trans (firstOf_skip sgnL _ j hjL hp))
        by_cases hr : k + sgnL[j].length ≤ s.size
        · have Hp := (pref_cut s k _ _ rfl hr).trans hp
          have hd : decide ((sgnL[j].length : Int) ≤ (s.size : Int) - (k : Int)) = true := decide_eq_true (by omega)
          clear hp hf hT hB
          generalize sgnL[j] = x at *
          go_wp2
          go_quiet (fail)
          go_wp2
          go_roundw
          case rel => exact ⟨j + 1, by omega, by go_num, H.out, fun i h => T.out i h, below_drewN B.out _⟩
          case measure => simp [intOf]; omega
        · have hd : decide ((sgnL[j].length : Int) ≤ (s.size : Int) - (k : Int)) = false := decide_eq_false (by omega)
          clear hp hf hT hB
          generalize sgnL[j] = x at *
          go_wp2
          go_quiet (fail)
          go_wp2
          go_roundw
          case rel => exact ⟨j + 1, by omega, by go_num, H.out, fun i h => T.out i h, below_drewN B.out _⟩
          case measure => simp [intOf]; omega
    · have H := hid (hf.trans (show firstOf (sgnL.drop j) (s.data.toList.drop k) = [] by rw [List.drop_of_length_le (by omega)]; rfl))
      have B := hid hB
      clear hf hT hB
      go_wp2
      go_ret
      exact ⟨by rw [H.out]; rfl, B.out⟩

end Go.Proofs.YtffijiabaeipaaaDoor
