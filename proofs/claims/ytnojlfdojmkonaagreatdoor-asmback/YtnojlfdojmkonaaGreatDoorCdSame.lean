/- Are two programs one: the program's word. -/
import Derived.Test.YtnojlfdojmkonaaGreatDoorTk
import Derived.Test.YtnojlfdojmkonaaGreatDoorCdSz
import Derived.Lib.Strings
namespace Go.Proofs.YtnojlfdojmkonaaGreatDoor
set_option linter.unusedSimpArgs false
set_option linter.unusedVariables false
set_option maxRecDepth 100000
open Go.RowKit

def SameOut (Q : Prop) (e : Ending) : Prop := ∃ r, e = .returned (.bool r) ∧ (r = true ↔ Q)
theorem rows_no {α : Type} {xs ys : List α} {i : Nat} {x y : α} (hx : xs[i]? = some x) (hy : ys[i]? = some y) (h : x ≠ y) : xs ≠ ys := fun e => by
  rw [e, hy] at hx
  exact h (Option.some.inj hx).symm
theorem rows_is {α : Type} {xs ys : List α} (hl : xs.length = ys.length) (h : ∀ (k : Nat) x y, k < xs.length → xs[k]? = some x → ys[k]? = some y → x = y) : xs = ys := List.ext_getElem hl fun k h1 h2 => h k _ _ h1 (List.getElem?_eq_getElem h1) (List.getElem?_eq_getElem h2)
theorem bytes_ne {x y : ByteArray} (h : x ≠ y) : (x.toList != y.toList) = true := by
  rw [bne_iff_ne, Lib.toList_data, Lib.toList_data]
  intro e
  exact h (ByteArray.ext (Array.ext' e))
theorem two_box (w : World) (T U : TypeId) (cs ds : Array Value) : Blk w.heap.size T cs ((w.alloc (.cells cs T)).alloc (.cells ds U)) ∧ Blk (w.heap.size + 1) U ds ((w.alloc (.cells cs T)).alloc (.cells ds U)) ∧ Below w.heap.size w ((w.alloc (.cells cs T)).alloc (.cells ds U)) := by
  have x := blk_new (w.alloc (.cells cs T)) U ds
  rw [World.size_alloc] at x
  exact ⟨blk_on (blk_new w T cs) ((Below.refl _ _).alloc (Nat.le_refl _) _), x, ((Below.refl w.heap.size w).alloc (Nat.le_refl _) _).alloc (by simp) _⟩
theorem cd_eq {p l s d p' l' s' d' : Int} {is js : List In} : ((⟨p, l, s, d, is⟩ : Cd) = ⟨p', l', s', d', js⟩) ↔ (p == p') = true ∧ (l == l') = true ∧ (s == s') = true ∧ (d == d') = true ∧ is = js := by
  simp
theorem pg_eq {G G' : Int} {ss ss' : List ByteArray} {cs cs' : List Cd} : ((⟨G, ss, cs⟩ : Pg) = ⟨G', ss', cs'⟩) ↔ (G == G') = true ∧ ss = ss' ∧ cs = cs' := by
  simp
/-- what Same needs to know of a program -/
structure PgS (B : Nat) (w : World) (P : Pg) (pv cv : Value) : Prop where
  pool : PlIn B w pv P.pool
  codes : CdsIn B w cv P.codes
  few : P.pool.length ≤ 1000000 ∧ P.codes.length ≤ 1000000
  ins : ∀ c ∈ P.codes, c.ins.length ≤ 1000000
end Go.Proofs.YtnojlfdojmkonaaGreatDoor
