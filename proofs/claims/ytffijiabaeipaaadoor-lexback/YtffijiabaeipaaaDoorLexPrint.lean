/- Tokens as text. -/
import Derived.Test.YtffijiabaeipaaaDoorLexArg
import Derived.Test.YtffijiabaeipaaaDoorTxtQuote
import Derived.Test.YtffijiabaeipaaaDoorRefTxt
namespace Go.Proofs.YtffijiabaeipaaaDoor
open Go.RowKit

theorem bytes_none {s : ByteArray} (h : s.data.toList = []) : s = ByteArray.empty := ByteArray.ext (Array.toList_inj.1 (by rw [h]; rfl))

theorem has_on {T : TypeId} {ext : List Value} {B b : Nat} {l : List UInt8} {a c : World} (h : Has T ext B b l a) (k : Below a.heap.size a c) : Has T ext B b l c := by
  have hb := h.lt
  obtain ⟨p, v, h⟩ := h
  refine ⟨p, v, h.low, h.seen, (k.block b hb).trans h.blk, ?_, h.ne, h.nil⟩
  refine ⟨h.own.1, ?_⟩
  rcases h.own.2 with h1 | ⟨g, cap, cur, h1, h2, h3, h4⟩
  · exact .inl h1
  · refine .inr ⟨g, cap, cur, h1, h2, ?_, h4⟩
    rw [k.block g (lt_of_block h3)]
    exact h3

theorem bld_keep {T : TypeId} {ext : List Value} {B b : Nat} {p v v' : Value} {l : List UInt8} {w : World} (hB : B ≤ b) (hs : p = .pointer none ∨ p = .pointer (some ⟨b, 0, none⟩)) (hb : w.heap[b]? = some (.cells (p :: v :: ext).toArray T (0, 0)))
    (hown : w.ownsRow B 5 1 v' l.length (Lib.byteCells l)) (hT : T ≠ 5) (hl : l = [] → v' = .slice none 0 0) : Has T ext B b l (w.setCell ⟨b, 1, none⟩ v') := by
  have hne := Lib.ownBlock_ne hown hb hT
  refine ⟨p, v', hB, hs, ?_, ?_, hne, hl⟩
  · simp [World.setCell, Array.getElem?_modify, hb]
  · exact hown.kept (row := some b) ⟨rfl, rfl, rfl, by simp [World.setCell], fun k _ hk => Below.heap_setCell _ _ _ _ (fun e => hk (by simp [e]))⟩ (Or.inr hne)

/-- any text, an empty one, too -/
theorem writeText_calls (T : TypeId) (ext : List Value) (B b : Nat) (l : List UInt8) (s : ByteArray) (w : World) (h : Has T ext B b l w) (hF : Fits T (ext.length + 2)) (hlen : l.length + s.size ≤ 140737488355328) (hBw : B ≤ w.heap.size) :
    Calls Tryd.prog 28 #[.pointer (some ⟨b, 0, none⟩), .string s] w fun e w' => e = .returned (.tuple #[.int .i64 s.size, .nilIface]) ∧ Has T ext B b (l ++ s.data.toList) w' ∧ Below B w w' := by
  obtain ⟨i0, hi, hz0, hz1, hz2⟩ := info8
  have hT := hF.ne
  go_enter Tryd.func28, Tryd.ntmps28
  go_wp2_with (go_at_call 54; refine (check_calls T ext B b l _ h hF).mono ?_)
  rintro e w1 ⟨rfl, ⟨v, h1⟩, hb1⟩
  have hbk := h1.blk
  have hown := h1.own
  have hne := h1.ne
  have c0 : w1.cell? ⟨b, 0, none⟩ = some (.pointer (some ⟨b, 0, none⟩)) := by rw [Lib.cell_of_heap hbk]; rfl
  have c1 : w1.cell? ⟨b, 1, none⟩ = some v := by rw [Lib.cell_of_heap hbk]; rfl
  go_wp2_with (at_builtin; refine Lib.wpList_append_own_string _ rfl _ _ 53 9 rfl B 5 i0 under_bytes under_str hi hz0 hz1 hz2 _ _ _ rfl hown s rfl ?c3 ?c4 ?c5 ?_)
  case c3 => unfold maxLen; omega
  case c4 => omega
  case c5 => have := hb1.size; omega
  intro v' w2 hown' hgrow hiff
  have hlt := lt_of_block hbk
  have hb2 : w2.heap[b]? = some (.cells (.pointer (some ⟨b, 0, none⟩) :: v :: ext).toArray T (0, 0)) := by
    rw [hgrow.block b hlt (fun e => hne e.symm)]
    exact hbk
  have d0 : w2.cell? ⟨b, 0, none⟩ = some (.pointer (some ⟨b, 0, none⟩)) := by rw [Lib.cell_of_heap hb2]; rfl
  have d1 : w2.cell? ⟨b, 1, none⟩ = some v := by rw [Lib.cell_of_heap hb2]; rfl
  have f1 : w2.frozen? ⟨b, 1, none⟩ = false := Lib.frozen_of_heap hb2 1
  obtain ⟨ao, n', cap, rfl⟩ : ∃ ao n' cap, v' = .slice ao n' cap := by
    rcases hown'.2 with ⟨hv, _⟩ | ⟨g, cap, cur, hv, _⟩
    · exact ⟨_, _, _, hv⟩
    · exact ⟨_, _, _, hv⟩
  go_wp2
  go_ret2
  refine ⟨rfl, ?_, ?_⟩
  · refine bld_keep h1.low (Or.inr rfl) hb2 (l := l ++ s.data.toList) ?_ hT (fun hn => hiff.2 ⟨h1.nil (List.append_eq_nil_iff.1 hn).1, bytes_none (List.append_eq_nil_iff.1 hn).2⟩)
    rw [Lib.byteCells_append, List.length_append, ← Lib.strCells_eq]
    simpa using hown'
  · exact (hb1.grown hgrow (by have := hb1.size; omega) (fun k hk => (hown.lt k hk).1)).setCell (p := ⟨b, 1, none⟩) h1.low _

theorem printL_snoc (l : List Tok) (t : Tok) : printL (l ++ [t]) = printL l ++ (tokText t ++ [32]) := by simp [printL]
theorem tokText_len {t : Tok} (h : t.text.size ≤ 600) : (tokText t).length ≤ 2402 := by
  unfold tokText
  split
  · have := quoted_length t.text.data.toList
    rw [list_size] at this; omega
  · rw [list_size]; omega
theorem printL_len : ∀ (l : List Tok), (∀ t ∈ l, t.text.size ≤ 600) → (printL l).length ≤ l.length * 2403
  | [], _ => by simp [printL]
  | t :: l, h => by
    have h1 := tokText_len (h t (by simp))
    have h2 := printL_len l (fun u hu => h u (by simp [hu]))
    have : (printL (t :: l)).length = (tokText t).length + 1 + (printL l).length := by simp [printL]; omega
    simp only [List.length_cons]
    omega

set_option maxHeartbeats 1600000 in
theorem print_cells (b off cap : Nat) (l : List Tok) (n : Nat) (hl : l.length = n) (hn : n ≤ 611) (hsm : Hid (∀ t ∈ l, t.text.size ≤ 600)) (w : World) (hb : b < w.heap.size) (L : Hid (LiesAt b off l w)) :
    Calls Tryd.prog 14 #[.slice (some ⟨b, off, none⟩) n cap] w fun e w' => e = .returned (.string ⟨(printL l).toArray⟩) ∧ Below w.heap.size w w' := by
  have hnew := hid (has_new 55 [] w #[.pointer none, .slice none 0 0] rfl)
  have hF := fits_builder
  have b0 := hid ((Below.refl _ w).alloc (Nat.le_refl _) (.cells #[.pointer none, .slice none 0 0] 55))
  go_enter Tryd.func14, Tryd.ntmps14
  go_wp2
  go_loopw [8] (fun i wr => ∃ j : Nat, j ≤ n ∧ i = .int .i64 j ∧ Has 55 [] w.heap.size w.heap.size (printL (l.take j)) wr ∧ Below w.heap.size w wr) (fun i _ => n - (intOf i).toNat)
  case atStart => exact ⟨0, Nat.zero_le _, rfl, hnew.out, b0.out⟩
  case round =>
    obtain ⟨j, hj, rfl, hh, hbel⟩ := hrel
    clear hnew b0
    have B := hid hbel
    have hsz : w.heap.size ≤ wr.heap.size := hbel.size
    have H := hid hh
    clear hh hbel
    by_cases hjl : j < n
    · have hjL : j < l.length := by omega
      obtain ⟨c0, c1, c2, c3⟩ := liesAt_on L.out hb B.out j hjL
      have ht := hid (show printL (l.take (j + 1)) = printL (l.take j) ++ (tokText l[j] ++ [32]) by rw [List.take_succ_eq_append_getElem hjL, printL_snoc])
      have hx6 : l[j].text.size ≤ 600 := hsm.out _ (List.getElem_mem hjL)
      have hlen : (printL (l.take j)).length ≤ 1468233 := by
        have h1 := printL_len (l.take j) (fun t h => hsm.out t (List.mem_of_mem_take h))
        rw [List.length_take] at h1
        have : min j l.length * 2403 ≤ 611 * 2403 := Nat.mul_le_mul_right _ (by omega)
        omega
      generalize l[j] = t at *
      obtain ⟨t0, t1, t2, t3⟩ := t
      simp only at c0 c1 c2 c3 hx6
      have ba := (Below.refl wr.heap.size wr).alloc (Nat.le_refl _) (.cells #[.int .i64 t0, .string t1, .int .i64 t2, .int .i64 t3] 36)
      have H1 := hid (has_on H.out ba)
      have B1 := hid (below_in B.out (Nat.le_refl _) ba)
      have hsz1 : w.heap.size ≤ (wr.alloc (.cells #[.int .i64 t0, .string t1, .int .i64 t2, .int .i64 t3] 36)).heap.size := B1.out.size
      clear H B ba
      by_cases h4 : t0 = 4
      · have e4 : (t0 == 4) = true := beq_iff_eq.2 h4
        have htx := hid (show tokText ⟨t0, t1, t2, t3⟩ = quoted t1.data.toList by unfold tokText; rw [if_pos h4])
        have hql : (quoted t1.data.toList).length ≤ 2402 := by
          have := quoted_length t1.data.toList
          rw [list_size] at this; omega
        clear h4
        go_wp2_with fail
        refine (quote_calls t1 (by omega) _).mono ?_
        rintro e w1 ⟨rfl, b1⟩
        have H2 := hid (has_on H1.out b1)
        have B2 := hid (below_in B1.out (Nat.le_refl _) b1)
        clear H1 B1 b1 hsz1
        generalize quoted t1.data.toList = q at *
        go_wp2_with fail
        refine (writeText_calls _ _ _ _ _ ⟨q.toArray⟩ _ H2.out hF (by rw [← list_size]; simp; omega) B2.out.size).mono ?_
        rintro e w2 ⟨rfl, h3, b3⟩
        have H3 := hid h3
        have B3 := hid (B2.out.trans b3)
        clear H2 B2 h3 b3
        go_wp2_with fail
        refine (writeByte_calls _ _ _ _ _ 32 _ rfl _ H3.out hF (by simp; omega) B3.out.size).mono ?_
        rintro e w3 ⟨rfl, h4, b4⟩
        have H4 := hid h4
        have B4 := hid (B3.out.trans b4)
        clear H3 B3 h4 b4
        go_wp2
        go_roundw
        case rel => exact ⟨j + 1, by omega, by go_num, by rw [ht.out, htx.out]; simpa using H4.out, B4.out⟩
        case measure => simp [intOf]; omega
      · have e4 : (t0 == 4) = false := beq_eq_false_iff_ne.2 h4
        have htx := hid (show tokText ⟨t0, t1, t2, t3⟩ = t1.data.toList by unfold tokText; rw [if_neg h4])
        clear h4
        go_wp2_with fail
        refine (writeText_calls _ _ _ _ _ t1 _ H1.out hF (by omega) hsz1).mono ?_
        rintro e w2 ⟨rfl, h3, b3⟩
        have H3 := hid h3
        have B3 := hid (B1.out.trans b3)
        have hl3 : (printL (l.take j) ++ t1.data.toList).length ≤ 1468833 := by rw [List.length_append, list_size]; omega
        clear H1 B1 h3 b3 hsz1
        go_wp2_with fail
        refine (writeByte_calls _ _ _ _ _ 32 _ rfl _ H3.out hF (by omega) B3.out.size).mono ?_
        rintro e w3 ⟨rfl, h4, b4⟩
        have H4 := hid h4
        have B4 := hid (B3.out.trans b4)
        clear H3 B3 h4 b4
        go_wp2
        go_roundw
        case rel => exact ⟨j + 1, by omega, by go_num, by rw [ht.out, htx.out]; simpa using H4.out, B4.out⟩
        case measure => simp [intOf]; omega
    · have ht := hid (show l.take j = l from List.take_of_length_le (by omega))
      go_wp2_with fail
      refine (string_calls _ _ _ _ _ _ H.out).mono ?_
      rintro e w4 ⟨rfl, b4, -⟩
      have B4 := hid (B.out.trans b4)
      clear b4
      go_wp2
      go_ret
      exact ⟨by rw [ht.out]; rfl, B4.out⟩

theorem print_none (ao : Option Addr) (cap : Nat) (w : World) :
    Calls Tryd.prog 14 #[.slice ao 0 cap] w fun e w' => e = .returned (.string ⟨#[]⟩) ∧ Below w.heap.size w w' := by
  have hnew := hid (has_new 55 [] w #[.pointer none, .slice none 0 0] rfl)
  have b0 := hid ((Below.refl _ w).alloc (Nat.le_refl _) (.cells #[.pointer none, .slice none 0 0] 55))
  go_enter Tryd.func14, Tryd.ntmps14
  go_wp2
  go_loopw [8] (fun i wr => i = .int .i64 0 ∧ Has 55 [] w.heap.size w.heap.size [] wr ∧ Below w.heap.size w wr) (fun _ _ => 0)
  case atStart => exact ⟨rfl, hnew.out, b0.out⟩
  case round =>
    obtain ⟨rfl, hh, hbel⟩ := hrel
    have B := hid hbel
    have H := hid hh
    clear hh hbel hnew b0
    go_wp2_with fail
    refine (string_calls _ _ _ _ _ _ H.out).mono ?_
    rintro e w4 ⟨rfl, b4, -⟩
    have B4 := hid (B.out.trans b4)
    clear b4
    go_wp2
    go_ret
    exact ⟨rfl, B4.out⟩

theorem print_calls {v : Value} {l : List Tok} {w : World} (h : TokArg v l w) (ho : othersB l = true) :
    Calls Tryd.prog 14 #[v] w fun e w' => e = .returned (.string ⟨(printL l).toArray⟩) ∧ Below w.heap.size w w' := by
  have hs := others_small ho
  rcases h with ⟨ao, cap, rfl, rfl⟩ | ⟨b, off, cap, rfl, hb, hL⟩
  · exact print_none ao cap w
  · exact print_cells b off cap l l.length rfl hs.1 hs.2 w hb hL

end Go.Proofs.YtffijiabaeipaaaDoor
