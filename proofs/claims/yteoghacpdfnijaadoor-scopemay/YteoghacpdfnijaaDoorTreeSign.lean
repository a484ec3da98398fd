/- Where calls stand; signs and built-in calls. -/
import Derived.Test.YteoghacpdfnijaaDoorNdMem
import Derived.Test.YteoghacpdfnijaaDoorNdRight
import Derived.Test.YteoghacpdfnijaaDoorKey
namespace Go.Proofs.YteoghacpdfnijaaDoor
open Go.RowKit

/-- where a call stands: old memory below B, the table of signs in block 0 -/
def Ok (B : Nat) (w : World) : Prop := B ≤ w.heap.size ∧ 0 < B ∧ Texts 0 tsgnL w
theorem ok_on {B : Nat} {a c : World} (h : Ok B a) (q : Below B a c) : Ok B c :=
  ⟨Nat.le_trans h.1 q.size, h.2.1, fun i hi => cell_keep q h.2.1 (h.2.2 i hi)⟩

theorem sign_calls (o : Int) (B : Nat) (w : World) (hO : Hid (Ok B w)) :
    Calls Tryd.prog 94 #[.int .i64 o] w fun e w' => e = .returned (.string ⟨(signT o).toArray⟩) ∧ w = w' := by
  by_cases h0 : o < 0
  · have H := hid (show signT o = [] by unfold signT; rw [if_pos h0])
    go_enter Tryd.func94, Tryd.ntmps94
    go_wp2_with fail
    go_ret
    exact ⟨by rw [H.out]; rfl, rfl⟩
  have d0 : decide (o < 0) = false := decide_eq_false h0
  by_cases h1 : 12 ≤ o
  · have H := hid (show signT o = [] by
      unfold signT; rw [if_neg h0, List.getD_eq_getElem?_getD, List.getElem?_eq_none (by simp [tsgnL]; omega)]; rfl)
    go_enter Tryd.func94, Tryd.ntmps94
    go_wp2_with fail
    go_ret
    exact ⟨by rw [H.out]; rfl, rfl⟩
  have d1 : decide (12 ≤ o) = false := decide_eq_false h1
  obtain ⟨j, rfl⟩ : ∃ j : Nat, o = (j : Int) := ⟨o.toNat, by omega⟩
  have hj : j < tsgnL.length := by show j < 12; omega
  have c := hO.out.2.2 j hj
  have H := hid (show signT (j : Int) = tsgnL[j] by
    unfold signT; rw [if_neg h0, List.getD_eq_getElem?_getD, Int.toNat_natCast, List.getElem?_eq_getElem hj]; rfl)
  have hj12 : j < 12 := hj
  clear hO
  generalize tsgnL[j] = x at *
  go_enter Tryd.func94, Tryd.ntmps94
  go_wp2_with fail
  go_ret
  exact ⟨by rw [H.out]; rfl, rfl⟩

theorem built_calls (o : Int) (w : World) :
    Calls Tryd.prog 96 #[.int .i64 o] w fun e w' => e = .returned (.tuple #[.string ⟨(builtT o).1.toArray⟩, .int .i64 (builtT o).2]) ∧ w = w' := by
  by_cases h : 1 ≤ o ∧ o ≤ 7
  · obtain rfl | rfl | rfl | rfl | rfl | rfl | rfl : o = 1 ∨ o = 2 ∨ o = 3 ∨ o = 4 ∨ o = 5 ∨ o = 6 ∨ o = 7 := by omega
    all_goals
      clear h
      go_enter Tryd.func96, Tryd.ntmps96
      go_wp2_with fail
      go_ret2
      exact ⟨rfl, rfl⟩
  · have H := hid (show builtT o = ([], 0) by
      unfold builtT
      by_cases h0 : o < 0
      · rw [if_pos h0]
      · rw [if_neg h0]
        by_cases h1 : o = 0
        · subst h1; rfl
        · rw [List.getD_eq_getElem?_getD, List.getElem?_eq_none (by simp [builtL]; omega)]; rfl)
    have e1 : (o == 1) = false := beq_eq_false_iff_ne.2 (by omega)
    have e2 : (o == 2) = false := beq_eq_false_iff_ne.2 (by omega)
    have e3 : (o == 3) = false := beq_eq_false_iff_ne.2 (by omega)
    have e4 : (o == 4) = false := beq_eq_false_iff_ne.2 (by omega)
    have e5 : (o == 5) = false := beq_eq_false_iff_ne.2 (by omega)
    have e6 : (o == 6) = false := beq_eq_false_iff_ne.2 (by omega)
    have e7 : (o == 7) = false := beq_eq_false_iff_ne.2 (by omega)
    clear h
    go_enter Tryd.func96, Tryd.ntmps96
    go_wp2_with fail
    go_ret2
    exact ⟨by rw [H.out]; rfl, rfl⟩

theorem kids_at {B : Nat} {w : World} {a : Option Addr} {c q : Nat} {ks : List Nd} (h : KidsIn B w (.slice a c q) ks) (hl : ks ≠ []) : ∃ b off, a = some ⟨b, off, none⟩ ∧ b < B ∧ NdsAt B w b ks off := by
  rcases h with ⟨_, _, _, h⟩ | ⟨b, off, cap, e, hb, h, _⟩
  · exact absurd h hl
  · injection e with e1 e2 e3
    exact ⟨b, off, e1, hb, h⟩

theorem list_two {α : Type} {l : List α} (h : l.length = 2) : ∃ a b, l = [a, b] := by
  match l, h with
  | [a, b], _ => exact ⟨a, b, rfl⟩
theorem list_three {α : Type} {l : List α} (h : l.length = 3) : ∃ a b c, l = [a, b, c] := by
  match l, h with
  | [a, b, c], _ => exact ⟨a, b, c, rfl⟩
end Go.Proofs.YteoghacpdfnijaaDoor
