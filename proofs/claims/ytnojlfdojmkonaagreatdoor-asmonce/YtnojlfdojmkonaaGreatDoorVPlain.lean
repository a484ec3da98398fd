/- What a value is, by its kind, its number and its bytes: no program in sight. -/
import Derived.Test.YtnojlfdojmkonaaGreatDoorTxtPlain
import Derived.Test.YtnojlfdojmkonaaGreatDoorDigPlain
namespace Go.Proofs.YtnojlfdojmkonaaGreatDoor
open Go.RowKit

def truthB (k n : Int) : Bool := !(k == 0) && (!(k == 1) || !(n == 0))
def countsB (k n : Int) : Bool :=
  if k = 0 then n == 0 else if k = 1 then n == 0 || n == 1 else if k = 2 then decide (-4611686018427387904 ≤ n) && decide (n ≤ 4611686018427387903)
  else if k = 4 then decide (1 ≤ n) else if k = 5 then decide (0 ≤ n) else false
def rightB (k n : Int) (l : List UInt8) : Bool := if k = 3 then n == 0 && decide (l.length ≤ 256) else decide (l = []) && countsB k n
def alike (k n : Int) (l : List UInt8) (k' n' : Int) (l' : List UInt8) : Bool := k == k' && (n == n' && l == l')

def showB (k n : Int) (l : List UInt8) : List UInt8 :=
  if k = 0 then [110, 117, 108, 108] else if k = 1 then (if n = 0 then [102, 97, 108, 115, 101] else [116, 114, 117, 101]) else if k = 2 then digs n
  else if k = 3 then l else if k = 4 then [111, 98, 106, 101, 99, 116] else if k = 5 then [102, 117, 110, 99, 116, 105, 111, 110] else []
def printB (k n : Int) (l : List UInt8) : List UInt8 :=
  if k = 3 then quoted l else if k = 4 then 35 :: digs n else if k = 5 then 38 :: digs n else showB k n l

theorem vright_of {k n lo hi : Int} {l : List UInt8} (hk : k ≠ 3) (h : countsB k n = (decide (lo ≤ n) && decide (n ≤ hi))) : rightB k n l = (decide (lo ≤ n) && (decide (n ≤ hi) && decide (l = []))) := by
  unfold rightB
  rw [if_neg hk, h, Bool.and_comm, Bool.and_assoc]
theorem counts0 (n : Int) : countsB 0 n = (decide (0 ≤ n) && decide (n ≤ 0)) := by
  show (n == 0) = _; rw [Bool.eq_iff_iff]; simp; omega
theorem counts1 (n : Int) : countsB 1 n = (decide (0 ≤ n) && decide (n ≤ 1)) := by
  show (n == 0 || n == 1) = _; rw [Bool.eq_iff_iff]; simp; omega
theorem counts2 (n : Int) : countsB 2 n = (decide (-4611686018427387904 ≤ n) && decide (n ≤ 4611686018427387903)) := rfl
theorem counts4 (n : Int) (h : n ≤ 9223372036854775807) : countsB 4 n = (decide (1 ≤ n) && decide (n ≤ 9223372036854775807)) := by
  show decide (1 ≤ n) = _; rw [decide_eq_true h, Bool.and_true]
theorem counts5 (n : Int) (h : n ≤ 9223372036854775807) : countsB 5 n = (decide (0 ≤ n) && decide (n ≤ 9223372036854775807)) := by
  show decide (0 ≤ n) = _; rw [decide_eq_true h, Bool.and_true]

end Go.Proofs.YtnojlfdojmkonaaGreatDoor
