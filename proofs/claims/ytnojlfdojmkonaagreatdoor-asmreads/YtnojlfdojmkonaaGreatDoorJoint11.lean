/- What the program's reader does with a line, by what came ahead. The program's reader: the next line, whatever came ahead. -/
import Derived.Test.YtnojlfdojmkonaaGreatDoorJoint2
import Derived.Test.YtnojlfdojmkonaaGreatDoorAsRd2
namespace Go.Proofs.YtnojlfdojmkonaaGreatDoor
set_option linter.unusedSimpArgs false
set_option maxRecDepth 100000
open Go.RowKit

def polB : ByteArray := ⟨#[112, 111, 111, 108, 32]⟩
theorem pre_iff (l : List UInt8) : Lib.hasPrefix l polB.data.toList = true ↔ l.take 5 = polW := by
  unfold Lib.hasPrefix
  rw [List.isPrefixOf_iff_prefix, List.prefix_iff_eq_take]
  exact ⟨fun h => h.symm, fun h => h.symm⟩
set_option maxHeartbeats 1600000 in
theorem cutpre_calls (s : ByteArray) (w : World) : Calls Tryz.prog 74 #[.string s, .string ⟨#[112, 111, 111, 108, 32]⟩] w fun e w' => (∃ t b, e = .returned (.tuple #[.string t, .bool b]) ∧ ((b = true ∧ s.data.toList.take 5 = polW ∧ t.data.toList = s.data.toList.drop 5) ∨ (b = false ∧ s.data.toList.take 5 ≠ polW))) ∧ w' = w := by
  have HP := hid (Any.stringslite_HasPrefix lays206 s polB w)
  have PI := hid (pre_iff s.data.toList)
  have hz := Lib.size_eq s
  cases hb : Lib.hasPrefix s.data.toList polB.data.toList with
  | true =>
    rw [hb] at HP
    have hp := PI.out.1 hb
    have h5 : 5 ≤ s.size := by
      have := congrArg List.length hp
      rw [List.length_take] at this
      have : polW.length = 5 := rfl
      omega
    have HPP := hid hp
    have hd := hid (show (s.extract 5 s.size).data.toList = s.data.toList.drop 5 by
      rw [Lib.extract_data, List.take_of_length_le (by rw [List.length_drop]; omega)])
    have hsl : ∀ W, (Instr.slice 9 (.string s) (some (.int .i64 5)) none none).run Tryz.prog W = .ok (.string (s.extract 5 s.size)) W := fun W => by
      rw [run_slice_string_from_if W 9 s .i64 _ Tryz.underlying9, if_pos ⟨by omega, by omega⟩]
      rfl
    clear hz hb hp PI
    go_enter Tryz.func74, Tryz.ntmps74
    go_wp2_with (first | (go_at_call 96; refine HP.out.mono ?_; rintro e w2 ⟨rfl, rfl⟩) | go_in)
    go_ret2
    exact ⟨⟨_, _, rfl, .inl ⟨rfl, HPP.out, hd.out⟩⟩, rfl⟩
  | false =>
    rw [hb] at HP
    have HN := hid (show s.data.toList.take 5 ≠ polW from fun e => by
      rw [PI.out.2 e] at hb
      cases hb)
    clear hz hb PI
    go_enter Tryz.func74, Tryz.ntmps74
    go_wp2_with (first | (go_at_call 96; refine HP.out.mono ?_; rintro e w2 ⟨rfl, rfl⟩) | go_in)
    go_ret2
    exact ⟨⟨_, _, rfl, .inr ⟨rfl, HN.out⟩⟩, rfl⟩
/-- a method of the reader, as a value -/
def nvF (f r : Nat) : Value := .func (.func f) #[.pointer (some ⟨r, 0, none⟩)] #[]
set_option maxHeartbeats 6400000 in
theorem globals_calls {B r : Nat} {P : Pg} {nv pv cv : Value} {xs : List Cv} (s : ByteArray) (w : World) (hL : Hid (LibW B w)) (h : Hid (RdB B r P nv pv cv xs w)) (hs : s.size ≤ 1000000) :
    Calls Tryz.prog 37 #[.pointer (some ⟨r, 0, none⟩), .string s] w fun e w' => ∃ b, e = .returned (.bool b) ∧ Below B w w' ∧ ((b = true ∧ ∃ m, numsP s.data.toList gloW 1 = some m ∧ RdB B r ⟨m.headD 0, P.pool, P.codes⟩ (nvF 58 r) pv cv xs w') ∨ (b = false ∧ numsP s.data.toList gloW 1 = none)) := by
  have WC := hid (words_calls s w hL.out hs)
  have hBw := hL.out.le
  have hz := Lib.size_eq s
  go_enter Tryz.func37, Tryz.ntmps37
  go_wp2_with fail
  refine WC.out.mono ?_
  rintro e w2 ⟨v, ss, rfl, hss, hwi, b2⟩
  have B2 := hid b2
  have R2 := hid (h.out.on b2)
  have SS := hid hss
  obtain ⟨cs, rfl, hwb, hwl, hw1, hwc⟩ := hwi
  obtain ⟨s0, rs, rfl, hs0, hrs⟩ := ss_head hss
  have SZ := hid (ss_short hss (by omega))
  have NW := hid (nums_words (s := s.data.toList) (first := gloW) (many := 1) (by decide))
  have WH := hid (words_head s.data.toList)
  have HS0 := hid hs0
  have HRS := hid hrs
  have HW1 := hid hw1
  have HWC := hid hwc
  have hc3 : w2.cell? ⟨r, 3, none⟩ = some nv := blk_cellZ R2.out.blk 3 rfl
  have hf3 := blk_free R2.out.blk 3
  have R3 := hid (R2.out.put (nvF 58 r))
  have hwr : ¬ w.heap.size = r := fun e => absurd h.out.rlt (by omega)
  have hwr2 : ¬ r = w.heap.size := fun e => hwr e.symm
  have WB3 := hid (show Blk w.heap.size 9 cs (w2.setCell ⟨r, 3, none⟩ (nvF 58 r)) from (Below.heap_setCell _ _ _ _ (fun e => hwr (by simpa using e))).trans hwb)
  have hgw := blk_lt hwb
  have L3 := hid (show Below B w (w2.setCell ⟨r, 3, none⟩ (nvF 58 r)) from (b2.mono hBw).trans ((Below.refl B w2).setCell (p := ⟨r, 3, none⟩) R2.out.low _))
  have c0 : (w2.setCell ⟨r, 3, none⟩ (nvF 58 r)).cell? ⟨w.heap.size, 0, none⟩ = some (.string s0) := by rw [blk_cell WB3.out]; exact hwc 0 s0 rfl
  have hrl : rs.length ≤ 5 := by
    have h1 := (words_ne s.data.toList).2
    have h2 := congrArg List.length hss
    simp only [List.length_map, List.length_cons] at h2
    omega
  have HRL := hid hrl
  have HTL := hid (show s0.toList = s0.data.toList from Lib.toList_data s0)
  clear hs0 hrs hw1 hwc hwl b2 hss hz hrl hwb
  have hst : (store ⟨r, 3, none⟩ (.func (.func 58) #[.pointer (some ⟨r, 0, none⟩)] #[])).run Tryz.prog w2 = .ok () (w2.setCell ⟨r, 3, none⟩ (nvF 58 r)) := by
    rw [run_store _ _ _ _ _ rfl, hc3, hf3]
    rfl
  go_upto_region 3 with fail
  generalize hW3 : w2.setCell ⟨r, 3, none⟩ (nvF 58 r) = w3 at *
  have hsz3 : w2.heap.size ≤ w3.heap.size := by rw [← hW3]; simp [World.setCell]
  clear hW3 hst hc3 hf3
  by_cases hc : s0.data.toList = gloW
  · have hq : (s0.toList == [103, 108, 111, 98, 97, 108, 115]) = true := by rw [HTL.out, hc]; rfl
    have hcs : ¬ cs.size = 1 := fun h1 => by
      have h2 := HW1.out h1
      have h3 := HS0.out
      rw [h2, hc] at h3
      cases h3
    have hsl := fun W => words_tail w.heap.size (rs.length + 1) cs.size (by omega) hcs W
    have HC := hid hc
    have q4 := box_below w3 (.cells #[.pointer (some ⟨r, 0, none⟩)] 98)
    have b4 := blk_new w3 98 #[.pointer (some ⟨r, 0, none⟩)]
    have hr3 := R3.out.rlt
    have hg3 := blk_lt WB3.out
    clear hc hcs
    simp only [List.length_cons, Nat.add_sub_cancel] at hsl ⊢
    refine wp_region_held_drew (S := fun aZ => aZ.cell? ⟨w.heap.size, 0, none⟩ = some (.string s0)) (by kernel_rfl) ?_ (fun hHeld => ?_)
    · go_simp
    refine tkk 0 ?_
    refine tkk 1 ?_
    refine tkk 2 ?_
    refine tkk 3 ?_
    refine tkk 4 ?_
    refine tkk 5 ?_
    refine tkk 6 ?_
    refine tkk 7 ?_
    refine tkk 8 ?_
    refine tkk 9 ?_
    refine tkk 10 ?_
    refine rdy 11 (fun K hK => ?_)
    go_simp
    refine hK.out _ _ ?_ (fun _ => ?_)
    · (first | assumption | go_simp)
    clear hK K
    refine rdy 12 (fun K hK => ?_)
    go_simp
    have q5 : Below w3.heap.size w3 (w3.alloc (.cells #[.pointer (some ⟨r, 0, none⟩)] 98)).drew := q4.drew
    have b5 : Blk w3.heap.size 98 #[.pointer (some ⟨r, 0, none⟩)] (w3.alloc (.cells #[.pointer (some ⟨r, 0, none⟩)] 98)).drew := b4
    clear q4 b4
    generalize hW4 : (w3.alloc (.cells #[.pointer (some ⟨r, 0, none⟩)] 98)).drew = w4 at *
    clear hW4
    have L4 := hid (L3.out.trans (q5.mono (Nat.le_trans hBw (Nat.le_trans B2.out.size (show w2.heap.size ≤ w3.heap.size from by omega)))))
    have LW4 := hid (hL.out.on L4.out)
    have ST4 := hid (tail_in (blk_on WB3.out q5) HWC.out rs.length (cs.size - 1) rfl)
    have PL4 := hid (show Plc w4 (.slice (some ⟨w3.heap.size, 0, none⟩) 1 1) r [0] from ⟨w3.heap.size, 1, rfl, blk_lt b5, by omega, fun i o ho => by
      rw [blk_cell b5]
      match i, ho with
      | 0, ho => simp at ho; subst ho; rfl
      | i + 1, ho => simp at ho⟩)
    have R4 := hid (R3.out.on q5)
    refine (fill_calls rs [0] r 63 _ _ _ w4 LW4 ST4 PL4 (hid R4.out.blk) R4.out.low (hid (fun ao n c e a ha => by
      injection e with e1
      rw [← e1] at ha
      injection ha with ha
      rw [← ha]
      exact hwr)) (hid (fun o ho => by
      simp at ho
      subst ho
      exact ⟨P.g, rfl⟩)) (hid (fun s hs' => SZ.out s (by simp [hs']))) (by have := HRL.out; omega)).mono ?_
    rintro e w5 ⟨b, rfl, hk, ht, hf⟩
    have K5 := hid hk
    have L5 := hid (L4.out.trans (hk.below (B := B) LW4.out.le (fun k hk => by rw [hk]; exact R4.out.low)))
    have u0 : w5.cell? ⟨w.heap.size, 0, none⟩ = some (.string s0) := cell_keep (by rw [blk_cell (blk_on WB3.out q5)]; exact HWC.out 0 s0 rfl) hk (Nat.lt_of_lt_of_le hg3 q5.size) hwr
    have HT := hid ht
    have HF := hid hf
    clear hk ht hf q5 b5 ST4 PL4
    go_simp
    refine hK.out _ _ ?_ (fun _ => ?_)
    · (first | assumption | go_simp)
    clear hK K
    refine tkk 13 ?_
    refine tkk 14 ?_
    refine wpAnyH_done (by kernel_rfl) ?_ _
    cases b with
    | false =>
      have HN := hid (show numsP s.data.toList gloW 1 = none by
        rw [NW.out]
        split
        · rename_i hh
          rcases HF.out rfl with h1 | h1
          · exfalso
            have h2 := hh.2
            rw [← HRS.out, List.length_map] at h2
            exact h1 h2
          · rw [← HRS.out]; exact h1
        · rfl)
      clear HT HF
      go_wp2_with fail
      go_ret
      exact ⟨false, rfl, by first | exact L5.out | exact L5.out.drew, .inr ⟨rfl, HN.out⟩⟩
    | true =>
      obtain ⟨ns, hl4, hns, hbk⟩ := HT.out rfl
      have hln := allN_len hns
      rw [List.length_map, hl4] at hln
      obtain ⟨n0, rfl⟩ : ∃ n0, ns = [n0] := List.length_eq_one_iff.1 hln
      have HN := hid (show numsP s.data.toList gloW 1 = some [n0] by
        rw [NW.out, if_pos ⟨by rw [WH.out, ← HS0.out]; exact HC.out, by rw [← HRS.out, List.length_map]; exact hl4⟩, ← HRS.out]
        exact hns)
      have R5 := hid (R4.out.glo (g := n0) K5.out hbk)
      clear hl4 hns hbk hln HT HF
      go_wp2_with fail
      go_ret
      exact ⟨true, rfl, by first | exact L5.out | exact L5.out.drew, .inl ⟨rfl, [n0], HN.out, by first | exact R5.out | exact R5.out.on ((Below.refl _ _).drew)⟩⟩
  · have hq : (s0.toList == [103, 108, 111, 98, 97, 108, 115]) = false := by rw [HTL.out]; simpa [gloW] using hc
    have HN := hid (show numsP s.data.toList gloW 1 = none by
      rw [NW.out, if_neg (fun hh => hc (by rw [HS0.out, ← WH.out]; exact hh.1))])
    have hg3 := blk_lt WB3.out
    clear hc
    refine wp_region_held_drew (S := fun aZ => aZ.cell? ⟨w.heap.size, 0, none⟩ = some (.string s0)) (by kernel_rfl) ?_ (fun hHeld => ?_)
    · go_simp
    refine tkk 0 ?_
    refine tkk 1 ?_
    refine tkk 2 ?_
    refine tkk 3 ?_
    refine tkk 4 ?_
    refine tks 5 ?_
    refine tks 6 ?_
    refine tks 7 ?_
    refine tks 8 ?_
    refine tks 9 ?_
    refine tks 10 ?_
    refine tks 11 ?_
    refine tks 12 ?_
    refine tkk 13 ?_
    refine tkk 14 ?_
    refine wpAnyH_done (by kernel_rfl) ?_ _
    go_wp2_with fail
    go_ret
    exact ⟨false, rfl, by first | exact L3.out | exact L3.out.drew, .inr ⟨rfl, HN.out⟩⟩

end Go.Proofs.YtnojlfdojmkonaaGreatDoor

namespace Go.Proofs.YtnojlfdojmkonaaGreatDoor
set_option linter.unusedSimpArgs false
set_option maxRecDepth 100000
open Go.RowKit

theorem polQ_iff (q : List UInt8) : polQ q ↔ (takeOut q).2.2 = 0 ∧ (takeOut q).2.1 = q.length ∧ quoted (takeOut q).1 = q := by
  unfold polQ
  constructor
  · rintro ⟨h1, h2⟩
    refine ⟨h1, ?_, h2⟩
    have := takeOut_quoted (takeOut q).1 []
    rw [List.append_nil, h2] at this
    rw [this]
  · rintro ⟨h1, _, h2⟩
    exact ⟨h1, h2⟩
theorem pool_word {s : List UInt8} (h : s.take 5 = polW) : numsP s codW 4 = none := by
  refine nums_other ?_
  have : s = [112, 111, 111, 108] ++ 32 :: s.drop 5 := by
    conv => lhs; rw [← List.take_append_drop 5 s, h]
    rfl
  rw [this, split_app _ (by decide)]
  show [112, 111, 111, 108] ≠ codW
  decide
theorem takeP_pool {P : Pg} {n : Nat} {s : List UInt8} (hn : n ≠ 0) (hc : P.codes = []) (h5 : s.take 5 = polW) (hq : polQ (s.drop 5)) : takeP P n s = some ⟨P.g, P.pool ++ [⟨(takeOut (s.drop 5)).1.toArray⟩], P.codes⟩ := by
  have hq' := (polQ_iff _).1 hq
  have hl : 5 < s.length := by
    rcases Nat.lt_or_ge 5 s.length with h | h
    · exact h
    · have : s.drop 5 = [] := List.drop_of_length_le h
      rw [this] at hq
      exact absurd hq.1 (by decide)
  rw [List.length_drop] at hq'
  unfold takeP
  rw [if_neg hn, if_pos ⟨hc, hl, h5⟩, if_pos hq']
theorem takeP_pool_no {P : Pg} {n : Nat} {s : List UInt8} (hn : n ≠ 0) (hc : P.codes = []) (h5 : s.take 5 = polW) (hq : ¬ polQ (s.drop 5)) : takeP P n s = none := by
  unfold takeP
  rw [if_neg hn]
  split
  · rename_i h
    rw [if_neg (fun hh => hq ((polQ_iff _).2 (by rw [List.length_drop]; exact hh)))]
  · rw [pool_word h5, hc]; rfl
theorem takeP_code {P : Pg} {n : Nat} {s : List UInt8} {m : List Int} (hn : n ≠ 0) (hc : P.codes = [] → s.take 5 ≠ polW) (h : numsP s codW 4 = some m) : takeP P n s = some ⟨P.g, P.pool, P.codes ++ [⟨m.headD 0, m.tail.headD 0, m.tail.tail.headD 0, m.tail.tail.tail.headD 0, []⟩]⟩ := by
  unfold takeP
  rw [if_neg hn, if_neg (fun hh => hc hh.1 hh.2.2), h]
theorem takeP_code_no {P : Pg} {n : Nat} {s : List UInt8} (hn : n ≠ 0) (hc : P.codes = []) (h5 : s.take 5 ≠ polW) (h : numsP s codW 4 = none) : takeP P n s = none := by
  unfold takeP
  rw [if_neg hn, if_neg (fun hh => h5 hh.2.2), h, hc]; rfl
theorem takeP_ins {P : Pg} {n : Nat} {s : List UInt8} {cs : List Cd} {c : Cd} (hn : n ≠ 0) (hc : P.codes = cs ++ [c]) (h : numsP s codW 4 = none) : takeP P n s = (insR s).map fun x => ⟨P.g, P.pool, P.codes.dropLast ++ [⟨c.p, c.l, c.s, c.d, c.ins ++ [x]⟩]⟩ := by
  unfold takeP
  rw [if_neg hn, if_neg (fun hh => by rw [hc] at hh; simp at hh), h, hc]
  simp only [List.getLast?_append, List.getLast?_singleton, Option.some_or, List.dropLast_concat]
  cases insR s <;> rfl
/-- not more than so many of each -/
structure FewK (P : Pg) (k : Nat) : Prop where
  pool : P.pool.length ≤ k
  codes : P.codes.length ≤ k
  ins : ∀ c ∈ P.codes, c.ins.length ≤ k
  strs : ∀ s ∈ P.pool, s.size ≤ 1000000
theorem fewK_zero : FewK pg0 0 := ⟨Nat.le_refl _, Nat.le_refl _, fun _ h => (nomatch h), fun _ h => (nomatch h)⟩
theorem fewK_take {P Q : Pg} {n k : Nat} {s : List UInt8} (h : FewK P k) (hs : s.length ≤ 1000000) (ht : takeP P n s = some Q) : FewK Q (k + 1) := by
  unfold takeP at ht
  split at ht
  · split at ht
    · have e := Option.some.inj ht
      subst e
      exact ⟨Nat.le_succ_of_le h.pool, Nat.le_succ_of_le h.codes, fun c hc => Nat.le_succ_of_le (h.ins c hc), h.strs⟩
    · cases ht
  · split at ht
    · split at ht
      · have e := Option.some.inj ht
        subst e
        refine ⟨by simpa using h.pool, Nat.le_succ_of_le h.codes, fun c hc => Nat.le_succ_of_le (h.ins c hc), fun x hx => ?_⟩
        rcases List.mem_append.1 hx with hx | hx
        · exact h.strs x hx
        · rw [List.mem_singleton.1 hx]
          have h1 := takeOut_short (s.drop 5)
          rw [List.length_drop] at h1
          have h2 : (⟨(takeOut (s.drop 5)).1.toArray⟩ : ByteArray).size = (takeOut (s.drop 5)).1.length := Lib.size_eq _
          omega
      · cases ht
    · split at ht
      · have e := Option.some.inj ht
        subst e
        refine ⟨Nat.le_succ_of_le h.pool, by simpa using h.codes, fun c hc => ?_, h.strs⟩
        rcases List.mem_append.1 hc with hc | hc
        · exact Nat.le_succ_of_le (h.ins c hc)
        · rw [List.mem_singleton.1 hc]; simp
      · split at ht
        · cases ht
        · rename_i c hl
          split at ht
          · cases ht
          · have e := Option.some.inj ht
            subst e
            obtain ⟨zs, hz⟩ := List.getLast?_eq_some_iff.1 hl
            have hlen := h.codes
            rw [hz] at hlen
            simp only [List.length_append, List.length_singleton] at hlen
            refine ⟨Nat.le_succ_of_le h.pool, by rw [hz, List.dropLast_concat]; simp; omega, fun d hd => ?_, h.strs⟩
            rw [hz, List.dropLast_concat] at hd
            rcases List.mem_append.1 hd with hd | hd
            · exact Nat.le_succ_of_le (h.ins d (by rw [hz]; simp [hd]))
            · rw [List.mem_singleton.1 hd]
              have := h.ins c (by rw [hz]; simp)
              simpa using this
/-- what reads the next line -/
def NxF (n : Nat) (P : Pg) : Nat := if n = 0 then 37 else if P.codes = [] then 58 else 76
theorem NxF_code {n : Nat} {P : Pg} (h : P.codes ≠ []) : NxF (n + 1) P = 76 := by unfold NxF; rw [if_neg (by omega), if_neg h]
def NxOut (B r n : Nat) (P : Pg) (s : List UInt8) (w : World) (e : Ending) (w' : World) : Prop :=
  ∃ b, e = .returned (.bool b) ∧ Below B w w' ∧ ((b = true ∧ ∃ Q pv cv xs, takeP P n s = some Q ∧ RdB B r Q (nvF (NxF (n + 1) Q) r) pv cv xs w') ∨ (b = false ∧ takeP P n s = none))
theorem next_globals {B r : Nat} {pv cv : Value} {xs : List Cv} (s : ByteArray) (w : World) (hL : Hid (LibW B w)) (h : Hid (RdB B r pg0 (nvF 37 r) pv cv xs w)) (hs : s.size ≤ 1000000) :
    Calls Tryz.prog 37 #[.pointer (some ⟨r, 0, none⟩), .string s] w (NxOut B r 0 pg0 s.data.toList w) := by
  refine (globals_calls s w hL h hs).mono ?_
  rintro e w' ⟨b, rfl, hB, hb⟩
  refine ⟨b, rfl, hB, ?_⟩
  rcases hb with ⟨rfl, m, hm, hR⟩ | ⟨rfl, hm⟩
  · exact .inl ⟨rfl, _, _, _, _, by unfold takeP; rw [if_pos rfl, hm], hR⟩
  · exact .inr ⟨rfl, by unfold takeP; rw [if_pos rfl, hm]⟩
set_option maxHeartbeats 6400000 in
theorem next_pool {B r n : Nat} {P : Pg} {pv cv : Value} {xs : List Cv} (s : ByteArray) (w : World) (hL : Hid (LibW B w)) (h : Hid (RdB B r P (nvF 58 r) pv cv xs w)) (hs : s.size ≤ 1000000) (hn : Hid (n ≠ 0)) (hc : Hid (P.codes = [])) (hF : Hid (FewK P 1000000)) :
    Calls Tryz.prog 58 #[.pointer (some ⟨r, 0, none⟩), .string s] w (NxOut B r n P s.data.toList w) := by
  have CP := hid (cutpre_calls s w)
  have hBw := hL.out.le
  have hz := Lib.size_eq s
  have WC := hid (fun W hW => words_calls (B := B) s W hW hs)
  have HZ := hid (show s.data.toList.length ≤ 1000000 by omega)
  have hxl : xs.length ≤ 1000000 := by
    have := congrArg List.length h.out.fst
    rw [List.length_map, hc.out] at this
    rw [this]; simp
  have HXL := hid hxl
  have HSZ := hid hs
  clear hz hxl hs
  go_enter Tryz.func58, Tryz.ntmps58
  go_wp2_with fail
  refine CP.out.mono ?_
  rintro e w2 ⟨⟨t, b, rfl, hb⟩, rfl⟩
  rcases hb with ⟨rfl, h5, hd⟩ | ⟨rfl, h5⟩
  · have H5 := hid h5
    have HD := hid hd
    have htz : t.size ≤ 1000000 := by
      have h1 := Lib.size_eq t
      rw [hd, List.length_drop] at h1
      have := HZ.out
      omega
    clear h5 hd
    go_wp2_with fail
    refine (pool_calls t w2 hBw h htz hF.out.pool).mono ?_
    rintro e w3 ⟨b, rfl, hB, hb⟩
    have HB := hid hB
    have HBB := hid hb
    clear hB hb
    go_wp2_with fail
    go_ret
    refine ⟨b, rfl, HB.out, ?_⟩
    rcases HBB.out with ⟨rfl, hq, pv', hR⟩ | ⟨rfl, hq⟩
    · rw [HD.out] at hq hR
      refine .inl ⟨rfl, _, pv', cv, xs, takeP_pool hn.out hc.out H5.out hq, ?_⟩
      have e : NxF (n + 1) (⟨P.g, P.pool ++ [⟨(takeOut (s.data.toList.drop 5)).1.toArray⟩], P.codes⟩ : Pg) = 58 := by
        unfold NxF
        rw [if_neg (by omega), if_pos hc.out]
      rw [e]
      exact hR
    · rw [HD.out] at hq
      exact .inr ⟨rfl, takeP_pool_no hn.out hc.out H5.out hq⟩
  · have H5 := hid h5
    have hc3 : w2.cell? ⟨r, 3, none⟩ = some (nvF 58 r) := blk_cellZ h.out.blk 3 rfl
    have hf3 := blk_free h.out.blk 3
    have hst : (store ⟨r, 3, none⟩ (.func (.func 76) #[.pointer (some ⟨r, 0, none⟩)] #[])).run Tryz.prog w2 = .ok () (w2.setCell ⟨r, 3, none⟩ (nvF 76 r)) := by
      rw [run_store _ _ _ _ _ rfl, hc3, hf3]
      rfl
    have R3 := hid (h.out.put (nvF 76 r))
    have L3 := hid (show Below B w2 (w2.setCell ⟨r, 3, none⟩ (nvF 76 r)) from (Below.refl B w2).setCell (p := ⟨r, 3, none⟩) h.out.low _)
    have LW3 := hid (hL.out.on L3.out)
    clear h5 hc3 hf3
    go_wp2_with fail
    generalize hW3 : w2.setCell ⟨r, 3, none⟩ (nvF 76 r) = w3 at *
    clear hW3 hst
    refine (WC.out w3 LW3.out).mono ?_
    rintro e w4 ⟨v, ss, rfl, hss, hwi, b4⟩
    have L4 := hid (L3.out.trans (b4.mono LW3.out.le))
    have R4 := hid (R3.out.on b4)
    have LW4 := hid (hL.out.on L4.out)
    have SS := hid hss
    have WI := hid hwi
    clear b4 hss hwi
    go_wp2_with fail
    refine (code_calls w4 LW4 R4 WI SS HZ.out HXL.out).mono ?_
    rintro e w5 ⟨b, rfl, hB, hb⟩
    have HB := hid (L4.out.trans hB)
    have HBB := hid hb
    clear hB hb
    go_wp2_with fail
    go_ret
    refine ⟨b, rfl, HB.out, ?_⟩
    rcases HBB.out with ⟨rfl, m, hm, cv', xs', hR⟩ | ⟨rfl, hm, _⟩
    · refine .inl ⟨rfl, _, pv, cv', xs', takeP_code hn.out (fun _ => H5.out) hm, ?_⟩
      rw [NxF_code (by simp)]
      exact hR
    · exact .inr ⟨rfl, takeP_code_no hn.out hc.out H5.out hm⟩
set_option maxHeartbeats 6400000 in
theorem next_code {B r n : Nat} {P : Pg} {pv cv : Value} {xs : List Cv} (s : ByteArray) (w : World) (hL : Hid (LibW B w)) (h : Hid (RdB B r P (nvF 76 r) pv cv xs w)) (hs : s.size ≤ 1000000) (hn : Hid (n ≠ 0)) (hc : Hid (P.codes ≠ [])) (hF : Hid (FewK P 1000000)) :
    Calls Tryz.prog 76 #[.pointer (some ⟨r, 0, none⟩), .string s] w (NxOut B r n P s.data.toList w) := by
  have hBw := hL.out.le
  have hz := Lib.size_eq s
  have WC := hid (words_calls s w hL.out hs)
  have HZ := hid (show s.data.toList.length ≤ 1000000 by omega)
  have hxl := congrArg List.length h.out.fst
  rw [List.length_map] at hxl
  have hx0 : xs ≠ [] := fun e => hc.out (by rw [← h.out.fst, e]; rfl)
  obtain ⟨ys, y, rfl⟩ : ∃ ys y, xs = ys ++ [y] := ⟨xs.dropLast, xs.getLast hx0, (List.dropLast_concat_getLast hx0).symm⟩
  obtain ⟨c, iv⟩ := y
  have hcd : P.codes = ys.map Prod.fst ++ [c] := by rw [← h.out.fst, List.map_append]; rfl
  have HCD := hid hcd
  have hci := hF.out.ins c (by rw [hcd]; simp)
  have hlx := hF.out.codes
  rw [← hxl, List.length_append] at hlx
  simp only [List.length_singleton] at hlx
  have HLX := hid hlx
  have HCI := hid hci
  clear hz hxl hcd hci hx0 hlx
  go_enter Tryz.func76, Tryz.ntmps76
  go_wp2_with fail
  refine WC.out.mono ?_
  rintro e w2 ⟨v, ss, rfl, hss, hwi, b2⟩
  have B2 := hid b2
  have R2 := hid (h.out.on b2)
  have LW2 := hid (hL.out.on (b2.mono hBw))
  have SS := hid hss
  have WI := hid hwi
  clear b2 hss hwi
  go_wp2_with fail
  refine (code_calls w2 LW2 R2 WI SS HZ.out (by simp only [List.length_append, List.length_singleton]; have := HLX.out; omega)).mono ?_
  rintro e w3 ⟨b, rfl, hB, hb⟩
  rcases hb with ⟨rfl, m, hm, cv', xs', hR⟩ | ⟨rfl, hm, b3⟩
  · have HB := hid ((B2.out.mono hBw).trans hB)
    have HM := hid hm
    have HR := hid hR
    clear hB hm hR
    go_wp2_with fail
    go_ret
    refine ⟨true, rfl, HB.out, .inl ⟨rfl, _, pv, cv', xs', takeP_code hn.out (fun e => absurd e hc.out) HM.out, ?_⟩⟩
    rw [NxF_code (by simp)]
    exact HR.out
  · have L3 := hid (B2.out.trans (b3.mono B2.out.size))
    have R3 := hid (R2.out.on b3)
    have LW3 := hid (hL.out.on (L3.out.mono hBw))
    have WI3 := hid (WI.out.on b3)
    have HM := hid hm
    clear hB hm b3
    go_wp2_with fail
    refine (ainstr_calls w3 LW3 R3 WI3 SS HZ.out (by have := HLX.out; omega) HCI.out).mono ?_
    rintro e w4 ⟨b, rfl, hB, hb⟩
    have HB := hid ((L3.out.mono hBw).trans hB)
    have HBB := hid hb
    clear hB hb
    go_wp2_with fail
    go_ret
    refine ⟨b, rfl, HB.out, ?_⟩
    have ht := takeP_ins (s := s.data.toList) hn.out HCD.out HM.out
    rcases HBB.out with ⟨rfl, x, hx, xs', hR⟩ | ⟨rfl, hx⟩
    · rw [hx] at ht
      refine .inl ⟨rfl, _, pv, cv, xs', ht, ?_⟩
      rw [NxF_code (by simp)]
      exact hR
    · rw [hx] at ht
      exact .inr ⟨rfl, ht⟩

end Go.Proofs.YtnojlfdojmkonaaGreatDoor
