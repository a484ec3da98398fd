/- The program's reader: the next line, whatever came ahead. -/
import Derived.Test.YtnojlfdojmkonaaGreatDoorAsRd3
namespace Go.Proofs.YtnojlfdojmkonaaGreatDoor
set_option linter.unusedSimpArgs false
set_option maxRecDepth 100000
open Go.RowKit

theorem polQ_iff (q : List UInt8) : polQ q ↔ (takeOut q).2.2 = 0 ∧ (takeOut q).2.1 = q.length ∧ quoted (takeOut q).1 = q := by
  unfold polQ
  constructor
  · rintro ⟨h1, h2⟩
    refine ⟨h1, ?_, h2⟩
    have := takeOut_quoted (takeOut q).1 []
    rw [List.append_nil, h2] at this
    rw [this]
  · rintro ⟨h1, _, h2⟩
    exact ⟨h1, h2⟩
theorem pool_word {s : List UInt8} (h : s.take 5 = polW) : numsP s codW 4 = none := by
  refine nums_other ?_
  have : s = [112, 111, 111, 108] ++ 32 :: s.drop 5 := by
    conv => lhs; rw [← List.take_append_drop 5 s, h]
    rfl
  rw [this, split_app _ (by decide)]
  show [112, 111, 111, 108] ≠ codW
  decide
theorem takeP_pool {P : Pg} {n : Nat} {s : List UInt8} (hn : n ≠ 0) (hc : P.codes = []) (h5 : s.take 5 = polW) (hq : polQ (s.drop 5)) : takeP P n s = some ⟨P.g, P.pool ++ [⟨(takeOut (s.drop 5)).1.toArray⟩], P.codes⟩ := by
  have hq' := (polQ_iff _).1 hq
  have hl : 5 < s.length := by
    rcases Nat.lt_or_ge 5 s.length with h | h
    · exact h
    · have : s.drop 5 = [] := List.drop_of_length_le h
      rw [this] at hq
      exact absurd hq.1 (by decide)
  rw [List.length_drop] at hq'
  unfold takeP
  rw [if_neg hn, if_pos ⟨hc, hl, h5⟩, if_pos hq']
theorem takeP_pool_no {P : Pg} {n : Nat} {s : List UInt8} (hn : n ≠ 0) (hc : P.codes = []) (h5 : s.take 5 = polW) (hq : ¬ polQ (s.drop 5)) : takeP P n s = none := by
  unfold takeP
  rw [if_neg hn]
  split
  · rename_i h
    rw [if_neg (fun hh => hq ((polQ_iff _).2 (by rw [List.length_drop]; exact hh)))]
  · rw [pool_word h5, hc]; rfl
theorem takeP_code {P : Pg} {n : Nat} {s : List UInt8} {m : List Int} (hn : n ≠ 0) (hc : P.codes = [] → s.take 5 ≠ polW) (h : numsP s codW 4 = some m) : takeP P n s = some ⟨P.g, P.pool, P.codes ++ [⟨m.headD 0, m.tail.headD 0, m.tail.tail.headD 0, m.tail.tail.tail.headD 0, []⟩]⟩ := by
  unfold takeP
  rw [if_neg hn, if_neg (fun hh => hc hh.1 hh.2.2), h]
theorem takeP_code_no {P : Pg} {n : Nat} {s : List UInt8} (hn : n ≠ 0) (hc : P.codes = []) (h5 : s.take 5 ≠ polW) (h : numsP s codW 4 = none) : takeP P n s = none := by
  unfold takeP
  rw [if_neg hn, if_neg (fun hh => h5 hh.2.2), h, hc]; rfl
theorem takeP_ins {P : Pg} {n : Nat} {s : List UInt8} {cs : List Cd} {c : Cd} (hn : n ≠ 0) (hc : P.codes = cs ++ [c]) (h : numsP s codW 4 = none) : takeP P n s = (insR s).map fun x => ⟨P.g, P.pool, P.codes.dropLast ++ [⟨c.p, c.l, c.s, c.d, c.ins ++ [x]⟩]⟩ := by
  unfold takeP
  rw [if_neg hn, if_neg (fun hh => by rw [hc] at hh; simp at hh), h, hc]
  simp only [List.getLast?_append, List.getLast?_singleton, Option.some_or, List.dropLast_concat]
  cases insR s <;> rfl
/-- not more than so many of each -/
structure FewK (P : Pg) (k : Nat) : Prop where
  pool : P.pool.length ≤ k
  codes : P.codes.length ≤ k
  ins : ∀ c ∈ P.codes, c.ins.length ≤ k
  strs : ∀ s ∈ P.pool, s.size ≤ 1000000
theorem fewK_zero : FewK pg0 0 := ⟨Nat.le_refl _, Nat.le_refl _, fun _ h => (nomatch h), fun _ h => (nomatch h)⟩
theorem fewK_take {P Q : Pg} {n k : Nat} {s : List UInt8} (h : FewK P k) (hs : s.length ≤ 1000000) (ht : takeP P n s = some Q) : FewK Q (k + 1) := by
  unfold takeP at ht
  split at ht
  · split at ht
    · have e := Option.some.inj ht
      subst e
      exact ⟨Nat.le_succ_of_le h.pool, Nat.le_succ_of_le h.codes, fun c hc => Nat.le_succ_of_le (h.ins c hc), h.strs⟩
    · cases ht
  · split at ht
    · split at ht
      · have e := Option.some.inj ht
        subst e
        refine ⟨by simpa using h.pool, Nat.le_succ_of_le h.codes, fun c hc => Nat.le_succ_of_le (h.ins c hc), fun x hx => ?_⟩
        rcases List.mem_append.1 hx with hx | hx
        · exact h.strs x hx
        · rw [List.mem_singleton.1 hx]
          have h1 := takeOut_short (s.drop 5)
          rw [List.length_drop] at h1
          have h2 : (⟨(takeOut (s.drop 5)).1.toArray⟩ : ByteArray).size = (takeOut (s.drop 5)).1.length := Lib.size_eq _
          omega
      · cases ht
    · split at ht
      · have e := Option.some.inj ht
        subst e
        refine ⟨Nat.le_succ_of_le h.pool, by simpa using h.codes, fun c hc => ?_, h.strs⟩
        rcases List.mem_append.1 hc with hc | hc
        · exact Nat.le_succ_of_le (h.ins c hc)
        · rw [List.mem_singleton.1 hc]; simp
      · split at ht
        · cases ht
        · rename_i c hl
          split at ht
          · cases ht
          · have e := Option.some.inj ht
            subst e
            obtain ⟨zs, hz⟩ := List.getLast?_eq_some_iff.1 hl
            have hlen := h.codes
            rw [hz] at hlen
            simp only [List.length_append, List.length_singleton] at hlen
            refine ⟨Nat.le_succ_of_le h.pool, by rw [hz, List.dropLast_concat]; simp; omega, fun d hd => ?_, h.strs⟩
            rw [hz, List.dropLast_concat] at hd
            rcases List.mem_append.1 hd with hd | hd
            · exact Nat.le_succ_of_le (h.ins d (by rw [hz]; simp [hd]))
            · rw [List.mem_singleton.1 hd]
              have := h.ins c (by rw [hz]; simp)
              simpa using this
/-- what reads the next line -/
def NxF (n : Nat) (P : Pg) : Nat := if n = 0 then 37 else if P.codes = [] then 58 else 76
theorem NxF_code {n : Nat} {P : Pg} (h : P.codes ≠ []) : NxF (n + 1) P = 76 := by unfold NxF; rw [if_neg (by omega), if_neg h]
def NxOut (B r n : Nat) (P : Pg) (s : List UInt8) (w : World) (e : Ending) (w' : World) : Prop :=
  ∃ b, e = .returned (.bool b) ∧ Below B w w' ∧ ((b = true ∧ ∃ Q pv cv xs, takeP P n s = some Q ∧ RdB B r Q (nvF (NxF (n + 1) Q) r) pv cv xs w') ∨ (b = false ∧ takeP P n s = none))
theorem next_globals {B r : Nat} {pv cv : Value} {xs : List Cv} (s : ByteArray) (w : World) (hL : Hid (LibW B w)) (h : Hid (RdB B r pg0 (nvF 37 r) pv cv xs w)) (hs : s.size ≤ 1000000) :
    Calls Tryz.prog 37 #[.pointer (some ⟨r, 0, none⟩), .string s] w (NxOut B r 0 pg0 s.data.toList w) := by
  refine (globals_calls s w hL h hs).mono ?_
  rintro e w' ⟨b, rfl, hB, hb⟩
  refine ⟨b, rfl, hB, ?_⟩
  rcases hb with ⟨rfl, m, hm, hR⟩ | ⟨rfl, hm⟩
  · exact .inl ⟨rfl, _, _, _, _, by unfold takeP; rw [if_pos rfl, hm], hR⟩
  · exact .inr ⟨rfl, by unfold takeP; rw [if_pos rfl, hm]⟩
set_option maxHeartbeats 6400000 in
theorem next_pool {B r n : Nat} {P : Pg} {pv cv : Value} {xs : List Cv} (s : ByteArray) (w : World) (hL : Hid (LibW B w)) (h : Hid (RdB B r P (nvF 58 r) pv cv xs w)) (hs : s.size ≤ 1000000) (hn : Hid (n ≠ 0)) (hc : Hid (P.codes = [])) (hF : Hid (FewK P 1000000)) :
    Calls Tryz.prog 58 #[.pointer (some ⟨r, 0, none⟩), .string s] w (NxOut B r n P s.data.toList w) := by
  have CP := hid (cutpre_calls s w)
  have hBw := hL.out.le
  have hz := Lib.size_eq s
  have WC := hid (fun W hW => words_calls (B := B) s W hW hs)
  have HZ := hid (show s.data.toList.length ≤ 1000000 by omega)
  have hxl : xs.length ≤ 1000000 := by
    have := congrArg List.length h.out.fst
    rw [List.length_map, hc.out] at this
    rw [this]; simp
  have HXL := hid hxl
  have HSZ := hid hs
  clear hz hxl hs
  go_enter Tryz.func58, Tryz.ntmps58
  go_wp2_with fail
  refine CP.out.mono ?_
  rintro e w2 ⟨⟨t, b, rfl, hb⟩, rfl⟩
  rcases hb with ⟨rfl, h5, hd⟩ | ⟨rfl, h5⟩
  · have H5 := hid h5
    have HD := hid hd
    have htz : t.size ≤ 1000000 := by
      have h1 := Lib.size_eq t
      rw [hd, List.length_drop] at h1
      have := HZ.out
      omega
    clear h5 hd
    go_wp2_with fail
    refine (pool_calls t w2 hBw h htz hF.out.pool).mono ?_
    rintro e w3 ⟨b, rfl, hB, hb⟩
    have HB := hid hB
    have HBB := hid hb
    clear hB hb
    go_wp2_with fail
    go_ret
    refine ⟨b, rfl, HB.out, ?_⟩
    rcases HBB.out with ⟨rfl, hq, pv', hR⟩ | ⟨rfl, hq⟩
    · rw [HD.out] at hq hR
      refine .inl ⟨rfl, _, pv', cv, xs, takeP_pool hn.out hc.out H5.out hq, ?_⟩
      have e : NxF (n + 1) (⟨P.g, P.pool ++ [⟨(takeOut (s.data.toList.drop 5)).1.toArray⟩], P.codes⟩ : Pg) = 58 := by
        unfold NxF
        rw [if_neg (by omega), if_pos hc.out]
      rw [e]
      exact hR
    · rw [HD.out] at hq
      exact .inr ⟨rfl, takeP_pool_no hn.out hc.out H5.out hq⟩
  · have H5 := hid h5
    have hc3 : w2.cell? ⟨r, 3, none⟩ = some (nvF 58 r) := blk_cellZ h.out.blk 3 rfl
    have hf3 := blk_free h.out.blk 3
    have hst : (store ⟨r, 3, none⟩ (.func (.func 76) #[.pointer (some ⟨r, 0, none⟩)] #[])).run Tryz.prog w2 = .ok () (w2.setCell ⟨r, 3, none⟩ (nvF 76 r)) := by
      rw [run_store _ _ _ _ _ rfl, hc3, hf3]
      rfl
    have R3 := hid (h.out.put (nvF 76 r))
    have L3 := hid (show Below B w2 (w2.setCell ⟨r, 3, none⟩ (nvF 76 r)) from (Below.refl B w2).setCell (p := ⟨r, 3, none⟩) h.out.low _)
    have LW3 := hid (hL.out.on L3.out)
    clear h5 hc3 hf3
    go_wp2_with fail
    generalize hW3 : w2.setCell ⟨r, 3, none⟩ (nvF 76 r) = w3 at *
    clear hW3 hst
    refine (WC.out w3 LW3.out).mono ?_
    rintro e w4 ⟨v, ss, rfl, hss, hwi, b4⟩
    have L4 := hid (L3.out.trans (b4.mono LW3.out.le))
    have R4 := hid (R3.out.on b4)
    have LW4 := hid (hL.out.on L4.out)
    have SS := hid hss
    have WI := hid hwi
    clear b4 hss hwi
    go_wp2_with fail
    refine (code_calls w4 LW4 R4 WI SS HZ.out HXL.out).mono ?_
    rintro e w5 ⟨b, rfl, hB, hb⟩
    have HB := hid (L4.out.trans hB)
    have HBB := hid hb
    clear hB hb
    go_wp2_with fail
    go_ret
    refine ⟨b, rfl, HB.out, ?_⟩
    rcases HBB.out with ⟨rfl, m, hm, cv', xs', hR⟩ | ⟨rfl, hm, _⟩
    · refine .inl ⟨rfl, _, pv, cv', xs', takeP_code hn.out (fun _ => H5.out) hm, ?_⟩
      rw [NxF_code (by simp)]
      exact hR
    · exact .inr ⟨rfl, takeP_code_no hn.out hc.out H5.out hm⟩
set_option maxHeartbeats 6400000 in
theorem next_code {B r n : Nat} {P : Pg} {pv cv : Value} {xs : List Cv} (s : ByteArray) (w : World) (hL : Hid (LibW B w)) (h : Hid (RdB B r P (nvF 76 r) pv cv xs w)) (hs : s.size ≤ 1000000) (hn : Hid (n ≠ 0)) (hc : Hid (P.codes ≠ [])) (hF : Hid (FewK P 1000000)) :
    Calls Tryz.prog 76 #[.pointer (some ⟨r, 0, none⟩), .string s] w (NxOut B r n P s.data.toList w) := by
  have hBw := hL.out.le
  have hz := Lib.size_eq s
  have WC := hid (words_calls s w hL.out hs)
  have HZ := hid (show s.data.toList.length ≤ 1000000 by omega)
  have hxl := congrArg List.length h.out.fst
  rw [List.length_map] at hxl
  have hx0 : xs ≠ [] := fun e => hc.out (by rw [← h.out.fst, e]; rfl)
  obtain ⟨ys, y, rfl⟩ : ∃ ys y, xs = ys ++ [y] := ⟨xs.dropLast, xs.getLast hx0, (List.dropLast_concat_getLast hx0).symm⟩
  obtain ⟨c, iv⟩ := y
  have hcd : P.codes = ys.map Prod.fst ++ [c] := by rw [← h.out.fst, List.map_append]; rfl
  have HCD := hid hcd
  have hci := hF.out.ins c (by rw [hcd]; simp)
  have hlx := hF.out.codes
  rw [← hxl, List.length_append] at hlx
  simp only [List.length_singleton] at hlx
  have HLX := hid hlx
  have HCI := hid hci
  clear hz hxl hcd hci hx0 hlx
  go_enter Tryz.func76, Tryz.ntmps76
  go_wp2_with fail
  refine WC.out.mono ?_
  rintro e w2 ⟨v, ss, rfl, hss, hwi, b2⟩
  have B2 := hid b2
  have R2 := hid (h.out.on b2)
  have LW2 := hid (hL.out.on (b2.mono hBw))
  have SS := hid hss
  have WI := hid hwi
  clear b2 hss hwi
  go_wp2_with fail
  refine (code_calls w2 LW2 R2 WI SS HZ.out (by simp only [List.length_append, List.length_singleton]; have := HLX.out; omega)).mono ?_
  rintro e w3 ⟨b, rfl, hB, hb⟩
  rcases hb with ⟨rfl, m, hm, cv', xs', hR⟩ | ⟨rfl, hm, b3⟩
  · have HB := hid ((B2.out.mono hBw).trans hB)
    have HM := hid hm
    have HR := hid hR
    clear hB hm hR
    go_wp2_with fail
    go_ret
    refine ⟨true, rfl, HB.out, .inl ⟨rfl, _, pv, cv', xs', takeP_code hn.out (fun e => absurd e hc.out) HM.out, ?_⟩⟩
    rw [NxF_code (by simp)]
    exact HR.out
  · have L3 := hid (B2.out.trans (b3.mono B2.out.size))
    have R3 := hid (R2.out.on b3)
    have LW3 := hid (hL.out.on (L3.out.mono hBw))
    have WI3 := hid (WI.out.on b3)
    have HM := hid hm
    clear hB hm b3
    go_wp2_with fail
    refine (ainstr_calls w3 LW3 R3 WI3 SS HZ.out (by have := HLX.out; omega) HCI.out).mono ?_
    rintro e w4 ⟨b, rfl, hB, hb⟩
    have HB := hid ((L3.out.mono hBw).trans hB)
    have HBB := hid hb
    clear hB hb
    go_wp2_with fail
    go_ret
    refine ⟨b, rfl, HB.out, ?_⟩
    have ht := takeP_ins (s := s.data.toList) hn.out HCD.out HM.out
    rcases HBB.out with ⟨rfl, x, hx, xs', hR⟩ | ⟨rfl, hx⟩
    · rw [hx] at ht
      refine .inl ⟨rfl, _, pv, cv, xs', ht, ?_⟩
      rw [NxF_code (by simp)]
      exact hR
    · rw [hx] at ht
      exact .inr ⟨rfl, ht⟩

end Go.Proofs.YtnojlfdojmkonaaGreatDoor
