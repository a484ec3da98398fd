/- Tokens side by side. -/
import Derived.Test.YtffijiabaeipaaaDoorRefToks
namespace Go.Proofs.YtffijiabaeipaaaDoor
open Go.RowKit

theorem tokCells_get (l : List Tok) (i : Nat) (h : i < l.length) (j : Nat) (hj : j < 4) : (tokCells l)[i * 4 + j]? = (l[i]).cells[j]? := by
  induction l generalizing i with
  | nil => simp at h
  | cons t l ih =>
    have e : tokCells (t :: l) = t.cells ++ tokCells l := by simp [tokCells]
    have e4 : t.cells.length = 4 := rfl
    cases i with
    | zero => rw [e, List.getElem?_append_left (by rw [e4]; omega)]; simp
    | succ i =>
      rw [e, List.getElem?_append_right (by rw [e4]; omega), e4, show (i + 1) * 4 + j - 4 = i * 4 + j from by omega]
      simpa using ih i (by simpa using h)

/-- the cells of a slice of tokens -/
def Lies (g : Nat) (l : List Tok) (w : World) : Prop := ∀ (i : Nat) (h : i < l.length),
  w.cell? ⟨g, i * 4, none⟩ = some (.int .i64 l[i].kind) ∧ w.cell? ⟨g, i * 4 + 1, none⟩ = some (.string l[i].text) ∧ w.cell? ⟨g, i * 4 + 2, none⟩ = some (.int .i64 l[i].num) ∧ w.cell? ⟨g, i * 4 + 3, none⟩ = some (.int .i64 l[i].pl)
theorem row_lies {T : TypeId} {B : Nat} {v : Value} {l : List Tok} {w : World} (h : Row T B v l w) : (v = .slice none 0 0 ∧ l = []) ∨ ∃ g cap, v = .slice (some ⟨g, 0, none⟩) l.length cap ∧ B ≤ g ∧ g < w.heap.size ∧ Lies g l w := by
  rcases h.2 with ⟨h1, h2⟩ | ⟨g, cap, cur, h1, h2, h3, _⟩
  · exact .inl ⟨h1, List.length_eq_zero_iff.1 h2⟩
  · refine .inr ⟨g, cap, h1, h2, ?_, ?_⟩
    · rcases Nat.lt_or_ge g w.heap.size with h | h
      · exact h
      · rw [Array.getElem?_eq_none h] at h3; cases h3
    · intro i hi
      have c := World.ownsRow.cells h (g := g) (by rw [h1]; rfl)
      have ea : ∀ j : Nat, (⟨g, 0, none⟩ : Addr).add j = ⟨g, j, none⟩ := fun j => by unfold Addr.add; split <;> simp_all
      simp only [ea] at c
      refine ⟨?_, ?_, ?_, ?_⟩
      · exact c (i * 4) _ (by simpa [Tok.cells] using tokCells_get l i hi 0 (by omega))
      · exact c (i * 4 + 1) _ (by simpa [Tok.cells] using tokCells_get l i hi 1 (by omega))
      · exact c (i * 4 + 2) _ (by simpa [Tok.cells] using tokCells_get l i hi 2 (by omega))
      · exact c (i * 4 + 3) _ (by simpa [Tok.cells] using tokCells_get l i hi 3 (by omega))

set_option maxHeartbeats 1600000 in
theorem same_cells (g g' cap cap' : Nat) (l m : List Tok) (n : Nat) (hl : l.length = n) (hm : m.length = n) (hn : n ≤ 1000000) (places : Bool) (w : World) (L : Hid (Lies g l w)) (M : Hid (Lies g' m w))
    (E : Hid (∀ (i : Nat) (h : i < l.length) (h' : i < m.length), l[i].kind = m[i].kind ∧ l[i].text = m[i].text ∧ l[i].num = m[i].num ∧ (places = true → l[i].pl = m[i].pl))) :
    Calls Tryd.prog 10 #[.slice (some ⟨g, 0, none⟩) n cap, .slice (some ⟨g', 0, none⟩) n cap', .bool places] w fun e w' => e = .returned (.bool true) ∧ Below w.heap.size w w' := by
  have en : ((n : Int) != (n : Int)) = false := by rw [bne_eq_false_iff_eq]
  go_enter Tryd.func10, Tryd.ntmps10
  go_wp2
  go_loopw [7] (fun i wr => ∃ j : Nat, j ≤ n ∧ i = .int .i64 j ∧ Lies g l wr ∧ Lies g' m wr ∧ Below w.heap.size w wr) (fun i _ => n - (intOf i).toNat)
  case atStart => exact ⟨0, Nat.zero_le _, rfl, L.out, M.out, Below.refl _ _⟩
  case round =>
    obtain ⟨j, hj, rfl, hL, hM, hB⟩ := hrel
    clear L M
    by_cases hjl : j < n
    · obtain ⟨c0, c1, c2, c3⟩ := hL j (by omega)
      obtain ⟨d0, d1, d2, d3⟩ := hM j (by omega)
      obtain ⟨q0, q1, q2, q3⟩ := E.out j (by omega) (by omega)
      generalize l[j]'(by omega) = t at *
      generalize m[j]'(by omega) = t' at *
      obtain ⟨x0, x1, x2, x3⟩ := t
      obtain ⟨y0, y1, y2, y3⟩ := t'
      simp only at q0 q1 q2 q3 c0 c1 c2 c3 d0 d1 d2 d3
      subst q0 q1 q2
      have L := hid hL
      have M := hid hM
      have B := hid hB
      clear hL hM hB E
      have k0 : (x0 != x0) = false := by rw [bne_eq_false_iff_eq]
      have k1 : (x1.toList != x1.toList) = false := by rw [bne_eq_false_iff_eq]
      have k2 : (x2 != x2) = false := by rw [bne_eq_false_iff_eq]
      cases places with
      | true =>
        obtain rfl := q3 rfl
        have k3 : (x3 != x3) = false := by rw [bne_eq_false_iff_eq]
        go_wp2
        go_quiet (fail)
        go_wp2
        go_roundw
        case rel => exact ⟨j + 1, by omega, by go_num, fun i h => L.out i h, fun i h => M.out i h, below_drewN B.out _⟩
        case measure => simp [intOf]; omega
      | false =>
        go_wp2
        go_quiet (fail)
        go_wp2
        go_roundw
        case rel => exact ⟨j + 1, by omega, by go_num, fun i h => L.out i h, fun i h => M.out i h, below_drewN B.out _⟩
        case measure => simp [intOf]; omega
    · have B := hid hB
      clear hL hM hB E
      go_wp2
      go_ret
      exact ⟨rfl, B.out⟩

theorem same_none (ao ao' : Option Addr) (cap cap' : Nat) (places : Bool) (w : World) :
    Calls Tryd.prog 10 #[.slice ao 0 cap, .slice ao' 0 cap', .bool places] w fun e w' => e = .returned (.bool true) ∧ Below w.heap.size w w' := by
  go_enter Tryd.func10, Tryd.ntmps10
  go_wp2
  go_loop [7] (fun i => i = .int .i64 0) (fun _ => 0)
  case atStart => rfl
  case round =>
    obtain rfl := hrel
    go_wp2
    go_ret
    exact ⟨rfl, Below.refl _ _⟩

theorem same_rows {T T' : TypeId} {B B' : Nat} {v v' : Value} {l m : List Tok} {places : Bool} {w : World} (L : Row T B v l w) (M : Row T' B' v' m w) (hlm : l.length = m.length) (hn : l.length ≤ 1000000)
    (E : ∀ (i : Nat) (h : i < l.length) (h' : i < m.length), l[i].kind = m[i].kind ∧ l[i].text = m[i].text ∧ l[i].num = m[i].num ∧ (places = true → l[i].pl = m[i].pl)) :
    Calls Tryd.prog 10 #[v, v', .bool places] w fun e w' => e = .returned (.bool true) ∧ Below w.heap.size w w' := by
  by_cases h0 : l.length = 0
  · obtain ⟨ao, cap, rfl⟩ := row_shape L
    obtain ⟨ao', cap', rfl⟩ := row_shape M
    rw [← hlm, h0]
    exact same_none _ _ _ _ _ _
  · rcases row_lies L with ⟨_, rfl⟩ | ⟨g, cap, rfl, _, _, hL⟩
    · exact absurd rfl h0
    · rcases row_lies M with ⟨_, rfl⟩ | ⟨g', cap', rfl, _, _, hM⟩
      · exact absurd (hlm.trans rfl) h0
      · rw [← hlm]
        exact same_cells g g' cap cap' l m l.length rfl hlm.symm hn places w hL hM E

end Go.Proofs.YtffijiabaeipaaaDoor
