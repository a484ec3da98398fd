/- Tokens that came in, as the document's. -/
import Derived.Test.YtffijiabaeipaaaDoorLexArg
import Derived.BigRegion
namespace Go.Proofs.YtffijiabaeipaaaDoor
open Go.RowKit

theorem step_rapp {ops : Array Oper} {o : Oper} {a : Act} {w : World} {K : Act → World → Prop} {Q : Exit → Act → World → Prop} {E : Prop} (hgd : o.guard = none) (s x : Operand)
    (ho : o.op = .call { callee := .builtin .append, args := #[s, x], argTypes := #[27, 27] })
    (B : Nat) (l : List Tok) (t : Tok) (cs : Array Value) (hcs : cs = t.cells.toArray) (v : Value) (hs : a.eval s = v) (hown : Row 38 B v l w)
    (hx : a.eval x = .slice (some ⟨w.heap.size, 0, none⟩) 1 1) (hlen : l.length ≤ 1000000) (hB : B ≤ w.heap.size)
    (h : ∀ v' w', Row 38 B v' (l ++ [t]) w' → Below B w w' → K (a.put o.dst v') w') :
    if Region.wanted o (yielded ops a.tmps) = true then Oper.wp Tryd.prog o a (w.alloc (.cells cs 38)).drew K Q else E := by
  have hw : Region.wanted o (yielded ops a.tmps) = true := by simp [Region.wanted, hgd]
  rw [if_pos hw]
  obtain ⟨i0, hi, hz0, hz1, hz2⟩ := infoR
  have hown1 : (w.alloc (.cells cs 38)).drew.ownsRow B 38 4 v l.length (tokCells l) := World.ownsRow.alloc hown _
  refine wp_append_own _ s x 27 ho B 38 i0 _ 4 40 underR hi hz0 hz1 hz2 rfl (by decide) v _ _ hs hown1 ⟨w.heap.size, 0, none⟩ 1 1 t.cells hx rfl ?_ ?_ (by unfold maxLen; omega) (by omega) (by show B ≤ (w.alloc (.cells cs 38)).heap.size; simp; omega) ?_
  · intro j u hj
    have e : (⟨w.heap.size, 0, none⟩ : Addr).add j = ⟨w.heap.size, j, none⟩ := by unfold Addr.add; split <;> simp_all
    show (w.alloc (.cells cs 38)).cell? _ = _
    rw [e, World.cell?_alloc_new, hcs]
    simpa using hj
  · intro u hu
    exact tokCells_one [t] u (by simpa [tokCells] using hu)
  · intro v' w2 hown' hgrow _
    refine h v' w2 ?_ ?_
    · unfold Row
      rw [tokCells_append, List.length_append]
      simpa [tokCells] using hown'
    · exact (((Below.refl B w).alloc hB _).drew).grown hgrow (by show B ≤ (w.alloc (.cells cs 38)).heap.size; simp; omega) (fun k hk => (hown.lt k hk).1)

set_option maxHeartbeats 1600000 in
theorem others_cells (b off cap : Nat) (l : List Tok) (n : Nat) (hl : l.length = n) (w : World) (hb : b < w.heap.size) (L : Hid (LiesAt b off l w)) :
    Calls Tryd.prog 11 #[.slice (some ⟨b, off, none⟩) n cap] w fun e w' => ∃ v, e = .returned (.tuple #[v, .bool (othersB l)]) ∧ (othersB l = true → Row 38 w.heap.size v l w') ∧ Below w.heap.size w w' := by
  go_enter Tryd.func11, Tryd.ntmps11
  go_wp2
  go_loopw [4, 5] (fun o i wr => ∃ j : Nat, j ≤ n ∧ i = .int .i64 j ∧ j ≤ 611 ∧ (∀ (k : Nat) (h : k < l.length), k < j → l[k].text.size ≤ 600) ∧ Row 38 w.heap.size o (l.take j) wr ∧ Below w.heap.size w wr) (fun _ i _ => n - (intOf i).toNat)
  case atStart => exact ⟨0, Nat.zero_le _, rfl, by omega, fun _ _ h => absurd h (Nat.not_lt_zero _), row_nil _ _ _, Below.refl _ _⟩
  case round =>
    obtain ⟨j, hj, rfl, hj6, hsm, hrow, hbel⟩ := hrel
    obtain ⟨ao, cp, rfl⟩ := row_shape hrow
    have R := hid hrow
    have B := hid hbel
    have hsz : w.heap.size ≤ wr.heap.size := hbel.size
    clear hrow hbel
    by_cases hjl : j < n
    · have hjL : j < l.length := by omega
      obtain ⟨c0, c1, c2, c3⟩ := liesAt_on L.out hb B.out j hjL
      by_cases h610 : 610 < j
      · have H := hid (others_bad hjL (.inl h610))
        clear c0 c1 c2 c3 hsm
        go_wp2
        go_ret2
        exact ⟨.slice none 0 0, by rw [H.out]; rfl, fun h => (by rw [H.out] at h; cases h), B.out⟩
      · by_cases h600 : 600 < l[j].text.size
        · have H := hid (others_bad hjL (.inr h600))
          have d : decide (600 < (l[j].text.size : Int)) = true := decide_eq_true (by omega)
          clear hsm
          go_wp2
          go_ret2
          exact ⟨.slice none 0 0, by rw [H.out]; rfl, fun h => (by rw [H.out] at h; cases h), B.out⟩
        · have d : decide (600 < (l[j].text.size : Int)) = false := decide_eq_false (by omega)
          have HS := hid (show ∀ (k : Nat) (h : k < l.length), k < j + 1 → l[k].text.size ≤ 600 from fun k h hk => by
            rcases Nat.lt_or_ge k j with h1 | h1
            · exact hsm k h h1
            · obtain rfl : k = j := by omega
              omega)
          have ht := hid (show l.take (j + 1) = l.take j ++ [l[j]] from List.take_succ_eq_append_getElem hjL)
          have hlen : (l.take j).length ≤ 1000000 := by rw [List.length_take]; omega
          clear hsm h600
          generalize l[j] = t at *
          obtain ⟨t0, t1, t2, t3⟩ := t
          simp only at c0 c1 c2 c3 d
          generalize l.take j = acc at *
          go_wp2_with fail
          go_region_law (refine step_rapp rfl _ _ rfl w.heap.size acc ⟨t0, t1, t2, t3⟩ _ rfl _ (by rfl) R.out (by rfl) hlen hsz ?_; intro v2 w3 h3 b3)
          all_goals
            (have R3 := hid h3
             have B3 := hid (B.out.trans b3)
             clear h3 b3 R B c0 c1 c2 c3
             go_wp2
             go_roundw
             case rel => exact ⟨j + 1, by omega, by go_num, by omega, HS.out, by rw [ht.out]; exact R3.out, B3.out⟩
             case measure => simp [intOf]; omega)
    · have H := hid (show othersB l = true by
        unfold othersB
        rw [Bool.and_eq_true, decide_eq_true_iff, List.all_eq_true]
        refine ⟨by omega, fun t ht => ?_⟩
        obtain ⟨k, hk, rfl⟩ := List.getElem_of_mem ht
        exact decide_eq_true (hsm k hk (by omega)))
      have ht := hid (show l.take j = l from List.take_of_length_le (by omega))
      clear hsm
      go_wp2
      go_ret2
      exact ⟨.slice ao (l.take j).length cp, by rw [H.out]; rfl, fun _ => (by have := R.out; rw [ht.out] at this; rw [ht.out]; exact this), B.out⟩

theorem others_none (ao : Option Addr) (cap : Nat) (w : World) :
    Calls Tryd.prog 11 #[.slice ao 0 cap] w fun e w' => e = .returned (.tuple #[.slice none 0 0, .bool true]) ∧ w = w' := by
  go_enter Tryd.func11, Tryd.ntmps11
  go_wp2
  go_loop [4, 5] (fun o i => o = .slice none 0 0 ∧ i = .int .i64 0) (fun _ _ => 0)
  case atStart => exact ⟨rfl, rfl⟩
  case round =>
    obtain ⟨rfl, rfl⟩ := hrel
    go_wp2
    go_ret2
    exact ⟨rfl, rfl⟩

theorem others_calls {v : Value} {l : List Tok} {w : World} (h : TokArg v l w) :
    Calls Tryd.prog 11 #[v] w fun e w' => ∃ v', e = .returned (.tuple #[v', .bool (othersB l)]) ∧ (othersB l = true → Row 38 w.heap.size v' l w') ∧ Below w.heap.size w w' := by
  rcases h with ⟨ao, cap, rfl, rfl⟩ | ⟨b, off, cap, rfl, hb, hL⟩
  · exact (others_none ao cap w).mono fun e w' h => ⟨.slice none 0 0, h.1, fun _ => row_nil _ _ _, h.2 ▸ Below.refl _ _⟩
  · exact others_cells b off cap l l.length rfl w hb hL

end Go.Proofs.YtffijiabaeipaaaDoor
