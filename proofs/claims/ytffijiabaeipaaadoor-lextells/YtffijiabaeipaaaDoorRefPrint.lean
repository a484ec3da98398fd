/- Tokens as text, as the document writes them. -/
import Derived.Test.YtffijiabaeipaaaDoorLexPrint
import Derived.Test.YtffijiabaeipaaaDoorRefDig
namespace Go.Proofs.YtffijiabaeipaaaDoor
open Go.RowKit

set_option maxHeartbeats 1600000 in
theorem refprint_cells (g cap : Nat) (l : List Tok) (n : Nat) (hl : l.length = n) (hn : n ≤ 611) (hsm : Hid (∀ t ∈ l, t.text.size ≤ 600)) (w : World) (hg : g < w.heap.size) (L : Hid (Lies g l w)) :
    Calls Tryd.prog 15 #[.slice (some ⟨g, 0, none⟩) n cap] w fun e w' => e = .returned (.string ⟨(printL l).toArray⟩) ∧ Below w.heap.size w w' := by
  go_enter Tryd.func15, Tryd.ntmps15
  go_wp2
  go_loopw [3, 4] (fun s i wr => ∃ j : Nat, j ≤ n ∧ i = .int .i64 j ∧ s = .string ⟨(printL (l.take j)).toArray⟩ ∧ Below w.heap.size w wr) (fun _ i _ => n - (intOf i).toNat)
  case atStart => exact ⟨0, Nat.zero_le _, rfl, rfl, Below.refl _ _⟩
  case round =>
    obtain ⟨j, hj, rfl, rfl, hbel⟩ := hrel
    have B := hid hbel
    clear hbel
    by_cases hjl : j < n
    · have hjL : j < l.length := by omega
      obtain ⟨c0, c1, c2, c3⟩ := L.out j hjL
      have c0 := cell_stays B.out hg c0
      have c1 := cell_stays B.out hg c1
      have ht := hid (show printL (l.take (j + 1)) = printL (l.take j) ++ (tokText l[j] ++ [32]) by rw [List.take_succ_eq_append_getElem hjL, printL_snoc])
      have hx6 : l[j].text.size ≤ 600 := hsm.out _ (List.getElem_mem hjL)
      have hlen : (printL (l.take j)).length ≤ 1468233 := by
        have h1 := printL_len (l.take j) (fun t h => hsm.out t (List.mem_of_mem_take h))
        rw [List.length_take] at h1
        have : min j l.length * 2403 ≤ 611 * 2403 := Nat.mul_le_mul_right _ (by omega)
        omega
      clear c2 c3
      generalize l[j] = t at *
      obtain ⟨t0, t1, t2, t3⟩ := t
      simp only at c0 c1 hx6
      by_cases h4 : t0 = 4
      · have e4 : (t0 == 4) = true := beq_iff_eq.2 h4
        have htx := hid (show tokText ⟨t0, t1, t2, t3⟩ = quoted t1.data.toList by unfold tokText; rw [if_pos h4])
        have hql : (quoted t1.data.toList).length ≤ 2402 := by
          have := quoted_length t1.data.toList
          rw [list_size] at this; omega
        clear h4
        go_wp2_with fail
        refine (refquote_calls t1 (by omega) _).mono ?_
        rintro e w1 ⟨rfl, b1⟩
        have B2 := hid (below_in B.out (Nat.le_refl _) b1)
        clear B b1
        generalize quoted t1.data.toList = q at *
        go_wp2
        go_roundw
        case rel => exact ⟨j + 1, by omega, by go_num, by rw [ht.out, htx.out]; congr 1; apply ByteArray.ext; simp, B2.out⟩
        case measure => simp [intOf]; omega
      · have e4 : (t0 == 4) = false := beq_eq_false_iff_ne.2 h4
        have htx := hid (show tokText ⟨t0, t1, t2, t3⟩ = t1.data.toList by unfold tokText; rw [if_neg h4])
        clear h4
        go_wp2
        go_roundw
        case rel => exact ⟨j + 1, by omega, by go_num, by rw [ht.out, htx.out]; congr 1; apply ByteArray.ext; simp, B.out⟩
        case measure => simp [intOf]; omega
    · have ht := hid (show l.take j = l from List.take_of_length_le (by omega))
      go_wp2
      go_ret
      exact ⟨by rw [ht.out]; rfl, B.out⟩

theorem refprint_none (ao : Option Addr) (cap : Nat) (w : World) :
    Calls Tryd.prog 15 #[.slice ao 0 cap] w fun e w' => e = .returned (.string ⟨#[]⟩) ∧ Below w.heap.size w w' := by
  go_enter Tryd.func15, Tryd.ntmps15
  go_wp2
  go_loop [3, 4] (fun s i => i = .int .i64 0 ∧ s = .string ⟨#[]⟩) (fun _ _ => 0)
  case atStart => exact ⟨rfl, rfl⟩
  case round =>
    obtain ⟨rfl, rfl⟩ := hrel
    go_wp2
    go_ret
    exact ⟨rfl, Below.refl _ _⟩

theorem refprint_calls {T : TypeId} {B : Nat} {v : Value} {l : List Tok} {w : World} (h : Row T B v l w) (ho : othersB l = true) :
    Calls Tryd.prog 15 #[v] w fun e w' => e = .returned (.string ⟨(printL l).toArray⟩) ∧ Below w.heap.size w w' := by
  have hs := others_small ho
  rcases row_lies h with ⟨rfl, rfl⟩ | ⟨g, cap, rfl, _, hg, hL⟩
  · exact refprint_none none 0 w
  · exact refprint_cells g cap l l.length rfl hs.1 hs.2 w hg hL

end Go.Proofs.YtffijiabaeipaaaDoor
