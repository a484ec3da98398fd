/- What num.Read and the document's Read answer, for any text (NumRead, NumReads and RefNum's Read again, for cuts without num's other functions, ending in Below). -/
import Derived.Test.YtffijiabaeipaaaDoorProg
import Derived.Test.YtffijiabaeipaaaDoorGround
import Derived.Lib.Strings
namespace Go.Proofs.YtffijiabaeipaaaDoor
open Go.RowKit

/-- a digit's byte -/
def isDig (b : UInt8) : Bool := decide (48 ≤ b.toNat) && decide (b.toNat ≤ 57)
/-- one digit more: the number so far, and whether it was above -/
def rstep (st : Int × Bool) (d : Int) : Int × Bool := if st.2 = true ∨ (4611686018427387903 - d) / 10 < st.1 then (st.1, true) else (10 * st.1 + d, false)
/-- the number so far behind a text -/
def rst (l : List UInt8) : Int × Bool := l.foldl (fun st b => rstep st ((b.toNat : Int) - 48)) (0, false)
/-- what is answered by what was read -/
def rout (st : Int × Bool) : Int × Int := if st.2 then (0, 10) else (st.1, 0)
/-- the answer of Read -/
def readOut (l : List UInt8) : Int × Int := if l.isEmpty || !l.all isDig then (0, 11) else rout (rst l)

theorem rstep_bounds {st : Int × Bool} {d : Int} (h0 : 0 ≤ st.1) (h1 : st.1 ≤ 4611686018427387903) (d0 : 0 ≤ d) (_d9 : d ≤ 9) : 0 ≤ (rstep st d).1 ∧ (rstep st d).1 ≤ 4611686018427387903 := by
  unfold rstep; split
  · exact ⟨h0, h1⟩
  · rename_i h; simp only [not_or] at h; constructor <;> simp only <;> omega

theorem rst_snoc (l : List UInt8) (b : UInt8) : rst (l ++ [b]) = rstep (rst l) ((b.toNat : Int) - 48) := by simp [rst]

theorem rfold_bounds : ∀ (l : List UInt8) (st : Int × Bool), 0 ≤ st.1 → st.1 ≤ 4611686018427387903 → l.all isDig = true →
    0 ≤ (l.foldl (fun st b => rstep st ((b.toNat : Int) - 48)) st).1 ∧ (l.foldl (fun st b => rstep st ((b.toNat : Int) - 48)) st).1 ≤ 4611686018427387903
  | [], st, h0, h1, _ => ⟨h0, h1⟩
  | b :: l, st, h0, h1, h => by
    rw [List.all_cons, Bool.and_eq_true] at h
    have hb := h.1
    simp [isDig] at hb
    have := rstep_bounds (d := (b.toNat : Int) - 48) h0 h1 (by omega) (by omega)
    exact rfold_bounds l _ this.1 this.2 h.2

theorem rst_bounds (l : List UInt8) (h : l.all isDig = true) : 0 ≤ (rst l).1 ∧ (rst l).1 ≤ 4611686018427387903 :=
  rfold_bounds l (0, false) (by decide) (by decide) h

/-! the closure of num.reading -/
theorem take_above (d n : Int) (pa pn : Nat) (w : World) (ab : Bool) (hn : w.cell? ⟨pn, 0, none⟩ = some (.int .i64 n)) (ha : w.cell? ⟨pa, 0, none⟩ = some (.bool ab))
    (fa : w.frozen? ⟨pa, 0, none⟩ = false) (d0 : 0 ≤ d) (d9 : d ≤ 9) (h : ab = true ∨ (4611686018427387903 - d) / 10 < n) :
    Calls Tryd.prog 67 #[.int .i64 d, .pointer (some ⟨pa, 0, none⟩), .pointer (some ⟨pn, 0, none⟩)] w fun e w' =>
      e = .returned (.tuple #[.int .i64 0, .int .i64 10]) ∧ w.setCell ⟨pa, 0, none⟩ (.bool true) = w' := by
  cases ab
  · have h2 : (4611686018427387903 - d) / 10 < n := by simpa using h
    clear h
    go_enter Tryd.func67, Tryd.ntmps67
    go_wp2
    go_ret2
    exact ⟨rfl, rfl⟩
  · clear h
    go_enter Tryd.func67, Tryd.ntmps67
    go_wp2
    go_ret2
    exact ⟨rfl, rfl⟩

theorem take_more (d n : Int) (pa pn : Nat) (w : World) (hn : w.cell? ⟨pn, 0, none⟩ = some (.int .i64 n)) (ha : w.cell? ⟨pa, 0, none⟩ = some (.bool false))
    (fn : w.frozen? ⟨pn, 0, none⟩ = false) (d0 : 0 ≤ d) (d9 : d ≤ 9) (n0 : 0 ≤ n) (h : n ≤ (4611686018427387903 - d) / 10) :
    Calls Tryd.prog 67 #[.int .i64 d, .pointer (some ⟨pa, 0, none⟩), .pointer (some ⟨pn, 0, none⟩)] w fun e w' =>
      e = .returned (.tuple #[.int .i64 (10 * n + d), .int .i64 0]) ∧ w.setCell ⟨pn, 0, none⟩ (.int .i64 (10 * n + d)) = w' := by
  go_enter Tryd.func67, Tryd.ntmps67
  go_wp2
  go_ret2
  exact ⟨rfl, rfl⟩

theorem reading_calls (w : World) :
    Calls Tryd.prog 65 #[] w fun e w' =>
      e = .returned (.func (.func 67) #[] #[.pointer (some ⟨w.heap.size + 1, 0, none⟩), .pointer (some ⟨w.heap.size, 0, none⟩)]) ∧
        (w.alloc (Obj.cells #[.int .i64 0] 3)).alloc (Obj.cells #[.bool false] 4) = w' := by
  have hmf : ∀ (fn : Fn) (first cap : Array Value) (w : World), (Instr.makeFunc fn first cap).run Tryd.prog w = .ok (.func fn first cap) w := fun _ _ _ _ => rfl
  go_enter Tryd.func65, Tryd.ntmps65
  go_wp2
  go_ret
  exact ⟨rfl, rfl⟩

theorem take_succ_dig (l : List UInt8) (k : Nat) (h : k < l.length) : l.take (k + 1) = l.take k ++ [l[k]] := by
  rw [List.take_succ_eq_append_getElem h]

/-- what the round knows of memory: the two variables of the closure -/
structure KeptR (w : World) (n : Int) (ab : Bool) (wr : World) : Prop where
  cn : wr.cell? ⟨w.heap.size, 0, none⟩ = some (.int .i64 n)
  ca : wr.cell? ⟨w.heap.size + 1, 0, none⟩ = some (.bool ab)
  fn : wr.frozen? ⟨w.heap.size, 0, none⟩ = false
  fa : wr.frozen? ⟨w.heap.size + 1, 0, none⟩ = false
  gr : Below w.heap.size w wr

theorem kept_start (w : World) : KeptR w 0 false ((w.alloc (Obj.cells #[.int .i64 0] 3)).alloc (Obj.cells #[.bool false] 4)) where
  cn := by simp
  ca := by simp
  fn := by simp
  fa := by simp
  gr := ((Below.refl _ _).alloc (Nat.le_refl _) _).alloc (by simp) _

theorem kept_above {w wr : World} {n : Int} {ab : Bool} (h : KeptR w n ab wr) : KeptR w n true (wr.setCell ⟨w.heap.size + 1, 0, none⟩ (.bool true)) where
  cn := by rw [World.cell?_setCell_other (h := by simp)]; exact h.cn
  ca := World.cell?_setCell_same' _ _ _ (by rw [h.ca]; rfl)
  fn := by simp [h.fn]
  fa := by simp [h.fa]
  gr := h.gr.setCell (by simp) _

theorem kept_more {w wr : World} {n : Int} {ab : Bool} (h : KeptR w n ab wr) (m : Int) : KeptR w m ab (wr.setCell ⟨w.heap.size, 0, none⟩ (.int .i64 m)) where
  cn := World.cell?_setCell_same' _ _ _ (by rw [h.cn]; rfl)
  ca := by rw [World.cell?_setCell_other (h := by simp)]; exact h.ca
  fn := by simp [h.fn]
  fa := by simp [h.fa]
  gr := h.gr.setCell (by simp) _

theorem readOut_bad {l : List UInt8} {k : Nat} (h : k < l.length) (hb : isDig l[k] = false) : readOut l = (0, 11) := by
  have : l.all isDig = false := by
    rw [List.all_eq_false]
    exact ⟨l[k], List.getElem_mem h, by simp [hb]⟩
  simp [readOut, this]

theorem readOut_good {l : List UInt8} (h : l ≠ []) (hall : l.all isDig = true) : readOut l = rout (rst l) := by
  unfold readOut
  rw [hall]
  cases l with
  | nil => exact absurd rfl h
  | cons => rfl

set_option maxHeartbeats 800000 in
theorem read_calls (s : ByteArray) (hs : s.size ≤ 4611686018427387903) (w : World) :
    Calls Tryd.prog 59 #[.string s] w fun e w' =>
      e = .returned (.tuple #[.int .i64 (readOut s.data.toList).1, .int .i64 (readOut s.data.toList).2]) ∧ Below w.heap.size w w' := by
  by_cases h0 : s.size = 0
  · have he : s.data.toList = [] := by
      have : s.data.toList.length = 0 := by simpa using h0
      exact List.length_eq_zero_iff.1 this
    have he2 : s.toList.isEmpty = true := by
      rw [Lib.toList_data, he]; rfl
    go_enter Tryd.func59, Tryd.ntmps59
    go_wp2
    go_ret2
    exact ⟨by rw [he]; rfl, Below.refl _ _⟩
  · have he2 : s.toList.isEmpty = false := by
      rw [Lib.toList_data]
      cases h : s.data.toList with
      | nil => exact absurd (show s.size = 0 from by have : s.data.toList.length = 0 := by rw [h]; rfl
                                                     simpa using this) h0
      | cons => rfl
    go_enter Tryd.func59, Tryd.ntmps59
    go_wp2_with (go_at_call 65; refine (reading_calls _).mono ?_; rintro e w' ⟨rfl, rfl⟩)
    go_loopw [5, 6, 7] (fun n e i wr => ∃ k : Nat, k ≤ s.size ∧ i = .int .i64 k ∧ n = .int .i64 (rout (rst (s.data.toList.take k))).1 ∧ e = .int .i64 (rout (rst (s.data.toList.take k))).2 ∧
        (s.data.toList.take k).all isDig = true ∧ KeptR w (rst (s.data.toList.take k)).1 (rst (s.data.toList.take k)).2 wr) (fun _ _ i _ => s.size - (intOf i).toNat)
    case atStart => exact ⟨0, Nat.zero_le _, rfl, rfl, rfl, rfl, kept_start w⟩
    case round =>
      obtain ⟨k, hk, rfl, rfl, rfl, hall, hkept⟩ := hrel
      by_cases hkl : k < s.size
      · have hbs : k < s.data.toList.length := by simpa using hkl
        have hget : s.data.toList[k] = s[k] := by rw [Array.getElem_toList]; rfl
        have hlast := take_succ_dig _ k hbs
        rw [hget] at hlast
        rcases (show s[k].toNat < 48 ∨ 57 < s[k].toNat ∨ (48 ≤ s[k].toNat ∧ s[k].toNat ≤ 57) from by omega) with hl | hh | hd
        · have hbad : readOut s.data.toList = (0, 11) := readOut_bad hbs (by rw [hget]; simp [isDig]; omega)
          have Hbad : Hid (readOut s.data.toList = (0, 11)) := hbad
          clear hbad hlast hget
          go_wp2
          go_ret2
          exact ⟨by rw [Hbad.out]; rfl, hkept.gr⟩
        · have hbad : readOut s.data.toList = (0, 11) := readOut_bad hbs (by rw [hget]; simp [isDig]; omega)
          have Hbad : Hid (readOut s.data.toList = (0, 11)) := hbad
          clear hbad hlast hget
          go_wp2
          go_ret2
          exact ⟨by rw [Hbad.out]; rfl, hkept.gr⟩
        · obtain ⟨d0, d9⟩ := hd
          have hb := rst_bounds _ hall
          have hdig : isDig s[k] = true := by simp [isDig]; omega
          have hall' : (s.data.toList.take (k + 1)).all isDig = true := by rw [hlast, List.all_append, hall]; simp [hdig]
          have hnext : rst (s.data.toList.take (k + 1)) = rstep (rst (s.data.toList.take k)) ((s[k].toNat : Int) - 48) := by rw [hlast, rst_snoc]
          by_cases hab : (rst (s.data.toList.take k)).2 = true ∨ (4611686018427387903 - ((s[k].toNat : Int) - 48)) / 10 < (rst (s.data.toList.take k)).1
          · have hst : rstep (rst (s.data.toList.take k)) ((s[k].toNat : Int) - 48) = ((rst (s.data.toList.take k)).1, true) := by unfold rstep; rw [if_pos hab]
            have R : Hid (∀ wx, wr.setCell ⟨w.heap.size + 1, 0, none⟩ (.bool true) = wx → KeptR w (rst (s.data.toList.take (k + 1))).1 (rst (s.data.toList.take (k + 1))).2 wx) := by
              rintro wx rfl; rw [hnext, hst]; exact kept_above hkept
            have Hout : Hid (rout (rst (s.data.toList.take (k + 1))) = (0, 10)) := by
              show rout (rst (s.data.toList.take (k + 1))) = (0, 10)
              rw [hnext, hst]; rfl
            have Hab : Hid ((rst (s.data.toList.take k)).2 = true ∨ (4611686018427387903 - ((s[k].toNat : Int) - 48)) / 10 < (rst (s.data.toList.take k)).1) := hab
            have Hk : Hid (KeptR w (rst (s.data.toList.take k)).1 (rst (s.data.toList.take k)).2 wr) := hkept
            have Hall : Hid ((s.data.toList.take (k + 1)).all isDig = true) := hall'
            clear hlast hget hnext hst hall hall' hab hkept hb hdig
            go_wp2_with fail
            refine (take_above _ _ _ _ _ _ Hk.out.cn Hk.out.ca Hk.out.fa (by omega) (by omega) Hab.out).mono ?_
            rintro e w1 ⟨rfl, hw⟩
            have R1 : Hid (KeptR w (rst (s.data.toList.take (k + 1))).1 (rst (s.data.toList.take (k + 1))).2 w1) := R.out w1 hw
            clear R hw Hab Hk
            go_wp2
            go_roundw
            case rel => exact ⟨k + 1, by omega, by go_num, by rw [Hout.out], by rw [Hout.out], Hall.out, R1.out⟩
            case measure => simp [intOf]; omega
          · have hb2 : (rst (s.data.toList.take k)).2 = false := by
              cases hx : (rst (s.data.toList.take k)).2 with
              | false => rfl
              | true => exact absurd (Or.inl hx) hab
            have hle : (rst (s.data.toList.take k)).1 ≤ (4611686018427387903 - ((s[k].toNat : Int) - 48)) / 10 := by
              rw [hb2] at hab; simp at hab; omega
            have hst : rstep (rst (s.data.toList.take k)) ((s[k].toNat : Int) - 48) = (10 * (rst (s.data.toList.take k)).1 + ((s[k].toNat : Int) - 48), false) := by unfold rstep; rw [if_neg hab]
            have R : Hid (∀ wx, wr.setCell ⟨w.heap.size, 0, none⟩ (.int .i64 (10 * (rst (s.data.toList.take k)).1 + ((s[k].toNat : Int) - 48))) = wx → KeptR w (rst (s.data.toList.take (k + 1))).1 (rst (s.data.toList.take (k + 1))).2 wx) := by
              rintro wx rfl; rw [hnext, hst]; rw [hb2] at hkept; exact kept_more hkept _
            have Hout : Hid (rout (rst (s.data.toList.take (k + 1))) = (10 * (rst (s.data.toList.take k)).1 + ((s[k].toNat : Int) - 48), 0)) := by
              show rout (rst (s.data.toList.take (k + 1))) = (10 * (rst (s.data.toList.take k)).1 + ((s[k].toNat : Int) - 48), 0)
              rw [hnext, hst]; rfl
            have Hk : Hid (KeptR w (rst (s.data.toList.take k)).1 false wr) := by rw [hb2] at hkept; exact hkept
            have Hle : Hid ((rst (s.data.toList.take k)).1 ≤ (4611686018427387903 - ((s[k].toNat : Int) - 48)) / 10) := hle
            have Hb : Hid (0 ≤ (rst (s.data.toList.take k)).1) := hb.1
            have Hall : Hid ((s.data.toList.take (k + 1)).all isDig = true) := hall'
            clear hlast hget hnext hst hall hall' hab hkept hb hdig hb2 hle
            go_wp2_with fail
            refine (take_more _ _ _ _ _ Hk.out.cn Hk.out.ca Hk.out.fn (by omega) (by omega) Hb.out Hle.out).mono ?_
            rintro e w1 ⟨rfl, hw⟩
            have R1 : Hid (KeptR w (rst (s.data.toList.take (k + 1))).1 (rst (s.data.toList.take (k + 1))).2 w1) := R.out w1 hw
            clear R hw Hk Hle Hb
            go_wp2
            go_roundw
            case rel => exact ⟨k + 1, by omega, by go_num, by rw [Hout.out], by rw [Hout.out], Hall.out, R1.out⟩
            case measure => simp [intOf]; omega
      · have hke : s.data.toList.length = k := by simp; omega
        have hfull : readOut s.data.toList = rout (rst (s.data.toList.take k)) := by
          rw [← hke, List.take_length]
          refine readOut_good ?_ ?_
          · intro h; rw [h] at hke; simp at hke; omega
          · rw [← hke, List.take_length] at hall; exact hall
        have Hfull : Hid (readOut s.data.toList = rout (rst (s.data.toList.take k))) := hfull
        have Hgr : Hid (Below w.heap.size w wr) := hkept.gr
        clear hfull hke hall hkept
        go_wp2
        go_ret2
        exact ⟨by rw [Hfull.out]; rfl, Hgr.out⟩

set_option maxHeartbeats 800000 in
theorem refread_calls (s : ByteArray) (hs : s.size ≤ 4611686018427387903) (w : World) :
    Calls Tryd.prog 46 #[.string s] w fun e w' =>
      e = .returned (.tuple #[.int .i64 (readOut s.data.toList).1, .int .i64 (readOut s.data.toList).2]) ∧ w = w' := by
  go_enter Tryd.func46, Tryd.ntmps46
  go_wp2
  go_loop [4, 5, 6, 7] (fun n big i d => ∃ k : Nat, k ≤ s.size ∧ i = .int .i64 k ∧ n = .int .i64 (rst (s.data.toList.take k)).1 ∧ big = .bool (rst (s.data.toList.take k)).2 ∧
      (s.data.toList.take k).all isDig = true) (fun _ _ i _ => s.size - (intOf i).toNat)
  case atStart => exact ⟨0, Nat.zero_le _, rfl, rfl, rfl, rfl⟩
  case round =>
    obtain ⟨k, hk, rfl, rfl, rfl, hall⟩ := hrel
    by_cases hkl : k < s.size
    · have hbs : k < s.data.toList.length := by simpa using hkl
      have hget : s.data.toList[k] = s[k] := by rw [Array.getElem_toList]; rfl
      have hlast := take_succ_dig _ k hbs
      rw [hget] at hlast
      rcases (show s[k].toNat < 48 ∨ 57 < s[k].toNat ∨ (48 ≤ s[k].toNat ∧ s[k].toNat ≤ 57) from by omega) with hl | hh | hd
      · have Hbad := hid (readOut_bad hbs (by rw [hget]; simp [isDig]; omega))
        clear hlast hget hall
        go_wp2
        go_ret2
        exact ⟨by rw [Hbad.out]; rfl, rfl⟩
      · have Hbad := hid (readOut_bad hbs (by rw [hget]; simp [isDig]; omega))
        clear hlast hget hall
        go_wp2
        go_ret2
        exact ⟨by rw [Hbad.out]; rfl, rfl⟩
      · obtain ⟨d0, d9⟩ := hd
        have hb := rst_bounds _ hall
        have hdig : isDig s[k] = true := by simp [isDig]; omega
        have hall' : (s.data.toList.take (k + 1)).all isDig = true := by rw [hlast, List.all_append, hall]; simp [hdig]
        have hnext : rst (s.data.toList.take (k + 1)) = rstep (rst (s.data.toList.take k)) ((s[k].toNat : Int) - 48) := by rw [hlast, rst_snoc]
        have Hall := hid hall'
        clear hlast hget hall hall' hdig
        generalize hst0 : rst (s.data.toList.take k) = st at *
        obtain ⟨n, ab⟩ := st
        simp only at hb
        cases ab
        · by_cases hab : (4611686018427387903 - ((s[k].toNat : Int) - 48)) / 10 < n
          · have Hst : Hid (rst (s.data.toList.take (k + 1)) = (n, true)) := by
              refine hid ?_
              rw [hnext]; unfold rstep; rw [if_pos (Or.inr hab)]
            clear hnext hst0
            go_wp2
            go_round
            case rel => exact ⟨k + 1, by omega, by go_num, by rw [Hst.out], by rw [Hst.out], Hall.out⟩
            case measure => simp [intOf]; omega
          · have Hst : Hid (rst (s.data.toList.take (k + 1)) = (10 * n + ((s[k].toNat : Int) - 48), false)) := by
              refine hid ?_
              rw [hnext]; unfold rstep; rw [if_neg (by simp; omega)]
            clear hnext hst0
            go_wp2
            go_round
            case rel => exact ⟨k + 1, by omega, by go_num, by rw [Hst.out]; simp; omega, by rw [Hst.out], Hall.out⟩
            case measure => simp [intOf]; omega
        · have Hst : Hid (rst (s.data.toList.take (k + 1)) = (n, true)) := by
            refine hid ?_
            rw [hnext]; unfold rstep; rw [if_pos (Or.inl rfl)]
          clear hnext hst0
          go_wp2
          go_round
          case rel => exact ⟨k + 1, by omega, by go_num, by rw [Hst.out], by rw [Hst.out], Hall.out⟩
          case measure => simp [intOf]; omega
    · have hke : s.data.toList.length = k := by simp; omega
      by_cases h0 : k = 0
      · have Hout : Hid (readOut s.data.toList = (0, 11)) := by
          refine hid ?_
          rw [h0] at hke
          rw [List.length_eq_zero_iff.1 hke]; rfl
        have hz : s.size = 0 := by omega
        have hz2 : ((s.size : Int) == 0) = true := by simp [hz]
        clear hke hall hz
        go_wp2
        go_ret2
        exact ⟨by rw [Hout.out]; rfl, rfl⟩
      · have hfull : readOut s.data.toList = rout (rst (s.data.toList.take k)) := by
          rw [← hke, List.take_length]
          refine readOut_good ?_ ?_
          · intro h; rw [h] at hke; simp at hke; omega
          · rw [← hke, List.take_length] at hall; exact hall
        have hz2 : ((s.size : Int) == 0) = false := beq_eq_false_iff_ne.2 (by omega)
        generalize hst0 : rst (s.data.toList.take k) = st at *
        obtain ⟨n, ab⟩ := st
        have Hfull := hid hfull
        clear hfull hke hall hst0
        cases ab
        · go_wp2
          go_ret2
          exact ⟨by rw [Hfull.out]; rfl, rfl⟩
        · go_wp2
          go_ret2
          exact ⟨by rw [Hfull.out]; rfl, rfl⟩

end Go.Proofs.YtffijiabaeipaaaDoor
