/- Which nodes are right, as a plain function. -/
import Derived.Test.YteoghacpdfnijaaDoorNdPlain
namespace Go.Proofs.YteoghacpdfnijaaDoor
open Go.RowKit

/-- signs between two, by their numbers -/
def tsgnL : List (List UInt8) := [[], [43], [45], [42], [47], [37], [60], [60, 61], [62], [62, 61], [61, 61], [33, 61]]
def signT (o : Int) : List UInt8 := if o < 0 then [] else tsgnL.getD o.toNat []
/-- built-in calls: name, and how many parts -/
def builtL : List (List UInt8 × Nat) := [([], 0), ([99, 111, 117, 110, 116], 1), ([107, 101, 121], 2), ([104, 97, 115], 2), ([112, 114, 111, 116, 111], 1), ([115, 101, 116, 112, 114, 111, 116, 111], 2), ([108, 101, 110], 1), ([115, 116, 114], 1)]
def builtT (o : Int) : List UInt8 × Nat := if o < 0 then ([], 0) else builtL.getD o.toNat ([], 0)
/-- how tight a sign is -/
def rankT (k o : Int) : Int :=
  if k = 12 then 1 else if k = 11 then 2 else if k = 10 then (if o = 10 ∨ o = 11 then 3 else if 6 ≤ o ∧ o ≤ 9 then 4 else if o = 1 ∨ o = 2 then 5 else if 3 ≤ o ∧ o ≤ 5 then 6 else 9)
  else if k = 9 then 7 else if 13 ≤ k ∧ k ≤ 16 then 8 else if 1 ≤ k ∧ k ≤ 20 then 9 else 0

/-- an expression 1, a statement that is no block 2, a block 3 -/
def isK (k : Int) : Nat := if 1 ≤ k ∧ k ≤ 17 then 1 else if k = 29 then 3 else if 21 ≤ k ∧ k ≤ 32 then 2 else 0
/-- what a kid is to be -/
def wantK (k : Int) (i : Nat) : Nat := if k = 8 ∨ k = 29 then 2 else if (k = 28 ∨ k = 30) ∧ 0 < i then 3 else 1

def properB (s : ByteArray) : Bool := nameB s.data.toList && !keyB s.data.toList
def propB (s : ByteArray) : Bool := nameB s.data.toList
def opOk (k o : Int) : Bool := if k = 9 then decide (1 ≤ o ∧ o ≤ 2) else if k = 10 then decide (1 ≤ o ∧ o ≤ 11) else if k = 17 then decide (1 ≤ o ∧ o ≤ 7) else decide (o = 0)
def numOk (k n : Int) : Bool := if k = 2 then decide (n = 0 ∨ n = 1) else if k = 3 then decide (0 ≤ n ∧ n ≤ 4611686018427387903) else decide (n = 0)
def strOk (k : Int) (s : ByteArray) : Bool :=
  if k = 4 then decide (s.size ≤ 256) else if k = 5 ∨ k = 21 ∨ k = 22 then properB s else if k = 13 ∨ k = 16 ∨ k = 23 ∨ k = 25 then propB s else decide (s.size = 0)
def nsOk (k : Int) (ns : List ByteArray) : Bool :=
  if k = 7 then decide (ns.length ≤ 40) && ns.all propB else if k = 8 then decide (ns.length ≤ 6) && ns.all properB else decide (ns.length = 0)
def cntOk (k o : Int) (m c : Nat) : Bool :=
  if 1 ≤ k ∧ k ≤ 6 then decide (c = 0) else if k = 7 then decide (c = m) else if k = 8 ∨ k = 29 then decide (c ≤ 40)
  else if k = 9 ∨ k = 13 ∨ k = 21 ∨ k = 22 ∨ k = 25 ∨ k = 27 ∨ k = 31 ∨ k = 32 then decide (c = 1)
  else if k = 10 ∨ k = 11 ∨ k = 12 ∨ k = 14 ∨ k = 23 ∨ k = 26 ∨ k = 30 then decide (c = 2)
  else if k = 15 ∨ k = 16 then decide (1 ≤ c ∧ c ≤ 7) else if k = 17 then decide (c = (builtT o).2) else if k = 24 ∨ k = 28 then decide (c = 3) else false
/-- a node's own fields, and how many kids it has, are those of its kind -/
def okB (k o n : Int) (s : ByteArray) (ns : List ByteArray) (c : Nat) : Bool := opOk k o && (numOk k n && (strOk k s && (nsOk k ns && cntOk k o ns.length c)))

mutual
/-- right as an expression (1), a statement (2), a block (3) -/
def rightN : Nd → Nat → Bool
  | .mk k o n s ns ks _, a => (isK k == a) && (okB k o n s ns ks.length && rightL ks k 0)
def rightL : List Nd → Int → Nat → Bool
  | [], _, _ => true
  | x :: r, k, i => rightN x (wantK k i) && rightL r k (i + 1)
end
theorem rightN_mk (k o n : Int) (s : ByteArray) (ns : List ByteArray) (ks : List Nd) (p : Int) (a : Nat) : rightN (.mk k o n s ns ks p) a = ((isK k == a) && (okB k o n s ns ks.length && rightL ks k 0)) := by rw [rightN]

/-- all kids are wanted alike -/
theorem rightL_all {k : Int} {a : Nat} (h : ∀ i, wantK k i = a) : ∀ (ks : List Nd) (i : Nat), rightL ks k i = !ks.any fun x => !rightN x a
  | [], i => by rw [rightL]; rfl
  | x :: r, i => by
    rw [rightL, h, rightL_all h r (i + 1), List.any_cons]
    cases rightN x a <;> simp

theorem isK_not3 {k : Int} (h : k ≠ 29) : (isK k == 3) = false := by
  unfold isK; rw [beq_eq_false_iff_ne]; grind
theorem isK_not1 {k : Int} (h : ¬(1 ≤ k ∧ k ≤ 17)) : (isK k == 1) = false := by
  unfold isK; rw [beq_eq_false_iff_ne]; grind
theorem isK_not2 {k : Int} (h : ¬(21 ≤ k ∧ k ≤ 32) ∨ k = 29) : (isK k == 2) = false := by
  unfold isK; rw [beq_eq_false_iff_ne]; grind

/-- what Check says -/
def checkN (t : Nd) : Int := if 12 < highN t then 13 else if rightN t 3 then 0 else 2

end Go.Proofs.YteoghacpdfnijaaDoor
