/- Values in rows: three cells each. -/
import Derived.Test.YtemidicgipebjaaGreatDcPlain
import Derived.Test.YtemidicgipebjaaGreatGround
namespace Go.Proofs.YtemidicgipebjaaGreat
set_option linter.unusedSimpArgs false
open Go.RowKit

def valC (v : Vl) : List Value := [.int .i64 v.1, .int .i64 v.2.1, .string v.2.2]
def namesC (l : List Ent) : List Value := l.map fun e => .string e.1
def valsC (l : List Ent) : List Value := l.flatMap fun e => valC e.2
theorem valsC_len : ∀ l : List Ent, (valsC l).length = l.length * 3
  | [] => rfl
  | e :: r => by
    have := valsC_len r
    show (valC e.2 ++ valsC r).length = _
    rw [List.length_append, this, List.length_cons, show (valC e.2).length = 3 from rfl]
    omega
theorem valsC_append (l m : List Ent) : valsC (l ++ m) = valsC l ++ valsC m := by simp [valsC]
theorem valsC_at : ∀ {l : List Ent} {i j : Nat} {e : Ent}, l[i]? = some e → j < 3 → (valsC l)[i * 3 + j]? = (valC e.2)[j]?
  | [], i, j, e, h, _ => by simp at h
  | x :: r, 0, j, e, h, hj => by
    simp at h
    subst h
    show (valC x.2 ++ valsC r)[0 * 3 + j]? = _
    rw [Nat.zero_mul, Nat.zero_add, List.getElem?_append_left (by simp [valC]; exact hj)]
  | x :: r, i + 1, j, e, h, hj => by
    show (valC x.2 ++ valsC r)[(i + 1) * 3 + j]? = _
    rw [List.getElem?_append_right (by simp [valC]; omega), show (i + 1) * 3 + j - (valC x.2).length = i * 3 + j by simp [valC]; omega]
    exact valsC_at (by simpa using h) hj
theorem valsC_set : ∀ {l : List Ent} {i : Nat} {s : ByteArray} (v : Vl), i < l.length →
    (((valsC l).set (i * 3) (.int .i64 v.1)).set (i * 3 + 1) (.int .i64 v.2.1)).set (i * 3 + 2) (.string v.2.2) = valsC (l.set i (s, v))
  | [], i, s, v, h => by simp at h
  | x :: r, 0, s, v, _ => rfl
  | x :: r, i + 1, s, v, h => by
    have ih := valsC_set (l := r) (i := i) (s := s) v (by simpa using h)
    show (((valC x.2 ++ valsC r).set ((i + 1) * 3) (.int .i64 v.1)).set ((i + 1) * 3 + 1) (.int .i64 v.2.1)).set ((i + 1) * 3 + 2) (.string v.2.2) = valC x.2 ++ valsC (r.set i (s, v))
    rw [← ih, show (i + 1) * 3 = i * 3 + 1 + 1 + 1 by omega, show i * 3 + 1 + 1 + 1 + 1 = (i * 3 + 1) + 1 + 1 + 1 by omega]
    rfl
theorem valC_one (v : Vl) : ∀ u ∈ valC v, u.oneCell' = true := by
  intro u hu
  simp [valC] at hu
  rcases hu with rfl | rfl | rfl <;> rfl


end Go.Proofs.YtemidicgipebjaaGreat
