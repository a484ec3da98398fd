/- What all our texts stand on: hidden facts, and chains of calls that leave old memory alone. What Read answers, as a plain function. -/
import Derived.WalkKit
import Derived.WalkLawsBesides
import Derived.WalkSpells
import Derived.Outline
import Derived.Below
namespace Go.Proofs.YtnojlfdojmkonaaGreatDoor
open Go.RowKit

theorem hid {p : Prop} (h : p) : Hid p := h

theorem below_on {a b c : World} (h : Below a.heap.size a b) (k : Below b.heap.size b c) : Below a.heap.size a c := h.trans (k.mono h.size)
theorem below_in {B : Nat} {a b c : World} (h : Below B a b) (hB : B ≤ a.heap.size) (k : Below b.heap.size b c) : Below B a c := h.trans (k.mono (Nat.le_trans hB h.size))

end Go.Proofs.YtnojlfdojmkonaaGreatDoor

namespace Go.Proofs.YtnojlfdojmkonaaGreatDoor
open Go.RowKit

/-- a digit's byte -/
def isDig (b : UInt8) : Bool := decide (48 ≤ b.toNat) && decide (b.toNat ≤ 57)
/-- one digit more: the number so far, and whether it was above -/
def rstep (st : Int × Bool) (d : Int) : Int × Bool := if st.2 = true ∨ (4611686018427387903 - d) / 10 < st.1 then (st.1, true) else (10 * st.1 + d, false)
/-- the number so far behind a text -/
def rst (l : List UInt8) : Int × Bool := l.foldl (fun st b => rstep st ((b.toNat : Int) - 48)) (0, false)
/-- what is answered by what was read -/
def rout (st : Int × Bool) : Int × Int := if st.2 then (0, 10) else (st.1, 0)
/-- the answer of Read -/
def readOut (l : List UInt8) : Int × Int := if l.isEmpty || !l.all isDig then (0, 11) else rout (rst l)

theorem rstep_bounds {st : Int × Bool} {d : Int} (h0 : 0 ≤ st.1) (h1 : st.1 ≤ 4611686018427387903) (d0 : 0 ≤ d) (_d9 : d ≤ 9) : 0 ≤ (rstep st d).1 ∧ (rstep st d).1 ≤ 4611686018427387903 := by
  unfold rstep; split
  · exact ⟨h0, h1⟩
  · rename_i h; simp only [not_or] at h; constructor <;> simp only <;> omega

theorem rst_snoc (l : List UInt8) (b : UInt8) : rst (l ++ [b]) = rstep (rst l) ((b.toNat : Int) - 48) := by simp [rst]

theorem rfold_bounds : ∀ (l : List UInt8) (st : Int × Bool), 0 ≤ st.1 → st.1 ≤ 4611686018427387903 → l.all isDig = true →
    0 ≤ (l.foldl (fun st b => rstep st ((b.toNat : Int) - 48)) st).1 ∧ (l.foldl (fun st b => rstep st ((b.toNat : Int) - 48)) st).1 ≤ 4611686018427387903
  | [], st, h0, h1, _ => ⟨h0, h1⟩
  | b :: l, st, h0, h1, h => by
    rw [List.all_cons, Bool.and_eq_true] at h
    have hb := h.1
    simp [isDig] at hb
    have := rstep_bounds (d := (b.toNat : Int) - 48) h0 h1 (by omega) (by omega)
    exact rfold_bounds l _ this.1 this.2 h.2

theorem rst_bounds (l : List UInt8) (h : l.all isDig = true) : 0 ≤ (rst l).1 ∧ (rst l).1 ≤ 4611686018427387903 :=
  rfold_bounds l (0, false) (by decide) (by decide) h

theorem take_succ_dig (l : List UInt8) (k : Nat) (h : k < l.length) : l.take (k + 1) = l.take k ++ [l[k]] := by
  rw [List.take_succ_eq_append_getElem h]

theorem readOut_bad {l : List UInt8} {k : Nat} (h : k < l.length) (hb : isDig l[k] = false) : readOut l = (0, 11) := by
  have : l.all isDig = false := by
    rw [List.all_eq_false]
    exact ⟨l[k], List.getElem_mem h, by simp [hb]⟩
  simp [readOut, this]

theorem readOut_good {l : List UInt8} (h : l ≠ []) (hall : l.all isDig = true) : readOut l = rout (rst l) := by
  unfold readOut
  rw [hall]
  cases l with
  | nil => exact absurd rfl h
  | cons => rfl

end Go.Proofs.YtnojlfdojmkonaaGreatDoor
