/- Whether a tree has few nodes, not too high, with short texts. A node as it is written, as a plain function. -/
import Derived.Test.YtlnllpehifkjhaaDoorJoint2
import Derived.Test.YtlnllpehifkjhaaDoorJoint3
namespace Go.Proofs.YtlnllpehifkjhaaDoor
open Go.RowKit

def longB (ns : List ByteArray) : Bool := ns.any fun x => decide (100 < x.size)
mutual
/-- how many nodes may come yet -/
def leftN : Nd → Int → Nat → Int
  | .mk _ _ _ s ns ks _, m, h => if h = 0 ∨ 600 < s.size ∨ 60 < ns.length then -1 else if longB ns then -1 else leftL ks (m - 1) (h - 1)
def leftL : List Nd → Int → Nat → Int
  | [], m, _ => m
  | x :: r, m, h => if m < 0 then m else leftL r (leftN x m h) h
end
mutual
/-- texts are short all along -/
def smallN : Nd → Bool
  | .mk _ _ _ s ns ks _ => decide (s.size ≤ 600) && (decide (ns.length ≤ 60) && (!longB ns && smallL ks))
def smallL : List Nd → Bool
  | [] => true
  | x :: r => smallN x && smallL r
end

theorem leftL_neg : ∀ (l : List Nd) (m : Int) (h : Nat), m < 0 → leftL l m h = m
  | [], m, h, _ => by rw [leftL]
  | x :: r, m, h, hm => by rw [leftL, if_pos hm]

mutual
theorem leftN_bounds : ∀ (t : Nd) (m : Int) (h : Nat), 0 ≤ m → -1 ≤ leftN t m h ∧ leftN t m h ≤ m - 1
  | .mk _ _ _ s ns ks _, m, h, hm => by
    rw [leftN]
    split
    · omega
    · split
      · omega
      · have := leftL_bounds ks (m - 1) (h - 1) (by omega)
        omega
theorem leftL_bounds : ∀ (l : List Nd) (m : Int) (h : Nat), -1 ≤ m → -1 ≤ leftL l m h ∧ leftL l m h ≤ m
  | [], m, h, hm => by rw [leftL]; omega
  | x :: r, m, h, hm => by
    rw [leftL]
    split
    · omega
    · have h1 := leftN_bounds x m h (by omega)
      have h2 := leftL_bounds r (leftN x m h) h h1.1
      omega
end

mutual
theorem leftN_count : ∀ (t : Nd) (m : Int) (h : Nat), 0 ≤ leftN t m h → leftN t m h = m - countN t ∧ highN t ≤ h ∧ smallN t = true
  | .mk _ _ _ s ns ks _, m, h, hm => by
    rw [leftN] at hm ⊢
    split at hm
    · omega
    · rename_i h1
      rw [if_neg h1]
      simp only [not_or] at h1
      split at hm
      · omega
      · rename_i h2
        rw [if_neg h2]
        obtain ⟨e1, e2, e3⟩ := leftL_count ks (m - 1) (h - 1) hm
        have h2' : longB ns = false := by simpa using h2
        refine ⟨by rw [countN]; omega, by rw [highN]; omega, ?_⟩
        rw [smallN, e3, h2', decide_eq_true (by omega), decide_eq_true (by omega)]; rfl
theorem leftL_count : ∀ (l : List Nd) (m : Int) (h : Nat), 0 ≤ leftL l m h → leftL l m h = m - countL l ∧ highL l ≤ h ∧ smallL l = true
  | [], m, h, hm => by rw [leftL] at hm ⊢; exact ⟨by rw [countL]; omega, by rw [highL]; omega, by rw [smallL]⟩
  | x :: r, m, h, hm => by
    rw [leftL] at hm ⊢
    split at hm
    · omega
    · rename_i h1
      rw [if_neg h1]
      obtain ⟨e1, e2, e3⟩ := leftL_count r (leftN x m h) h hm
      have h0 : 0 ≤ leftN x m h := by omega
      obtain ⟨f1, f2, f3⟩ := leftN_count x m h h0
      exact ⟨by rw [e1, f1, countL]; omega, by rw [highL]; omega, by rw [smallL, e3, f3]; rfl⟩
end

/-- few -/
def fewB (t : Nd) : Bool := decide (0 ≤ leftN t 300 40)
theorem few_count {t : Nd} (h : fewB t = true) : countN t ≤ 300 ∧ highN t ≤ 40 ∧ smallN t = true := by
  have h0 : 0 ≤ leftN t 300 40 := of_decide_eq_true h
  obtain ⟨e1, e2, e3⟩ := leftN_count t 300 40 h0
  exact ⟨by omega, e2, e3⟩

theorem long_yes {ns : List ByteArray} {j : Nat} (hj : j < ns.length) (h : 100 < ns[j].size) : longB ns = true := by
  unfold longB; rw [List.any_eq_true]; exact ⟨_, List.getElem_mem hj, by simpa using h⟩
theorem long_no {ns : List ByteArray} (h : ∀ (j : Nat) (hj : j < ns.length), ns[j].size ≤ 100) : longB ns = false := by
  unfold longB; rw [List.any_eq_false]
  intro x hx
  obtain ⟨j, hj, rfl⟩ := List.getElem_of_mem hx
  have := h j hj
  simp; omega

theorem small_mk {k o n : Int} {s : ByteArray} {ns : List ByteArray} {ks : List Nd} {p : Int} (h : smallN (.mk k o n s ns ks p) = true) : s.size ≤ 600 ∧ ns.length ≤ 60 ∧ (∀ x ∈ ns, x.size ≤ 100) ∧ ∀ x ∈ ks, smallN x = true := by
  rw [smallN] at h
  simp only [Bool.and_eq_true, decide_eq_true_eq, Bool.not_eq_true'] at h
  obtain ⟨h1, h2, h3, h4⟩ := h
  refine ⟨h1, h2, ?_, ?_⟩
  · intro x hx
    unfold longB at h3
    rw [List.any_eq_false] at h3
    have := h3 x hx
    simp at this; omega
  · clear h1 h2 h3
    induction ks with
    | nil => intro x hx; cases hx
    | cons y r ih =>
      rw [smallL, Bool.and_eq_true] at h4
      intro x hx
      rcases List.mem_cons.1 hx with e | hx
      · rw [e]; exact h4.1
      · exact ih h4.2 x hx

end Go.Proofs.YtlnllpehifkjhaaDoor

namespace Go.Proofs.YtlnllpehifkjhaaDoor
open Go.RowKit

/-- an expression that is one word -/
def wordT (k n : Int) (s : ByteArray) : List UInt8 :=
  if k = 1 then [110, 117, 108, 108] else if k = 6 then [116, 104, 105, 115] else if k = 2 then (if n = 0 then [102, 97, 108, 115, 101] else [116, 114, 117, 101])
  else if k = 3 then digs n else if k = 4 then quoted s.data.toList else s.data.toList

/-- what is known of a kid: its kind and rank; it as an expression, as a statement, its kids as a block; whether it has kids -/
structure Tx where
  kind : Int
  rank : Int
  e : List UInt8
  s : List UInt8
  b : List UInt8
  has : Bool
def Tx.none : Tx := ⟨0, 0, [], [], [], false⟩

def tightT (x : Tx) (least : Int) : List UInt8 := if least ≤ x.rank then x.e else 40 :: (x.e ++ [41])
/-- the rest of a list, each with a comma ahead -/
def commasT (l : List Tx) : List UInt8 := l.flatMap fun x => 44 :: 32 :: x.e
def listT : List Tx → List UInt8
  | [] => []
  | x :: r => x.e ++ commasT r
def argsT (l : List Tx) : List UInt8 := 40 :: (listT l ++ [41])
def fieldT (s : ByteArray) (x : Tx) : List UInt8 := s.data.toList ++ (58 :: 32 :: x.e)
def fieldsT : List ByteArray → List Tx → List UInt8
  | s :: ns, x :: r => 44 :: 32 :: (fieldT s x ++ fieldsT ns r)
  | _, _ => []
def objT : List ByteArray → List Tx → List UInt8
  | s :: ns, x :: r => 123 :: (fieldT s x ++ fieldsT ns r ++ [125])
  | _, _ => [123, 125]
def joinT : List ByteArray → List UInt8
  | [] => []
  | s :: r => s.data.toList ++ r.flatMap fun x => 44 :: 32 :: x.data.toList
/-- statements, each with a blank ahead -/
def blanksT (l : List Tx) : List UInt8 := l.flatMap fun x => 32 :: x.s
def blockT (l : List Tx) : List UInt8 := 123 :: (blanksT l ++ (if l.isEmpty then [125] else [32, 125]))
def programT : List Tx → List UInt8
  | [] => []
  | x :: r => x.s ++ blanksT r
def getT (x : Tx) (s : ByteArray) : List UInt8 := tightT x 8 ++ (46 :: s.data.toList)
def indexT (x y : Tx) : List UInt8 := tightT x 8 ++ (91 :: (y.e ++ [93]))
def becomesT (x : Tx) : List UInt8 := 32 :: 61 :: 32 :: x.e
def betweenT (r : Int) (sg : List UInt8) (x y : Tx) : List UInt8 := tightT x r ++ (32 :: (sg ++ (32 :: tightT y (r + 1))))
def at0 (l : List Tx) : Tx := l.getD 0 Tx.none
def at1 (l : List Tx) : Tx := l.getD 1 Tx.none
def at2 (l : List Tx) : Tx := l.getD 2 Tx.none

def exprT (k o n : Int) (s : ByteArray) (ns : List ByteArray) (l : List Tx) : List UInt8 :=
  if k = 7 then objT ns l
  else if k = 8 then [102, 110, 40] ++ (joinT ns ++ ([41, 32] ++ blockT l))
  else if k = 9 then (if o = 1 then 45 else 33) :: tightT (at0 l) 7
  else if k = 10 then betweenT (rankT 10 o) (signT o) (at0 l) (at1 l)
  else if k = 11 then betweenT 2 [38, 38] (at0 l) (at1 l)
  else if k = 12 then betweenT 1 [124, 124] (at0 l) (at1 l)
  else if k = 13 then getT (at0 l) s
  else if k = 14 then indexT (at0 l) (at1 l)
  else if k = 15 then tightT (at0 l) (if (at0 l).kind = 13 then 9 else 8) ++ argsT l.tail
  else if k = 16 then getT (at0 l) s ++ argsT l.tail
  else if k = 17 then (builtT o).1 ++ argsT l
  else wordT k n s
def shortT (k : Int) (s : ByteArray) (l : List Tx) : List UInt8 :=
  if k = 21 then [108, 101, 116, 32] ++ (s.data.toList ++ becomesT (at0 l))
  else if k = 22 then s.data.toList ++ becomesT (at0 l)
  else if k = 23 then getT (at0 l) s ++ becomesT (at1 l)
  else if k = 24 then indexT (at0 l) (at1 l) ++ becomesT (at2 l)
  else if k = 25 then [100, 101, 108, 101, 116, 101, 32] ++ getT (at0 l) s
  else if k = 26 then [100, 101, 108, 101, 116, 101, 32] ++ indexT (at0 l) (at1 l)
  else if k = 27 then [112, 114, 105, 110, 116, 32] ++ (at0 l).e
  else if k = 31 then [114, 101, 116, 117, 114, 110, 32] ++ (at0 l).e
  else if k = 32 then (at0 l).e else []
def branchT (key : List UInt8) (x y : Tx) : List UInt8 := key ++ ([32, 40] ++ (x.e ++ ([41, 32] ++ y.b)))
def stmtT (k : Int) (s : ByteArray) (l : List Tx) : List UInt8 :=
  if k = 28 then branchT [105, 102] (at0 l) (at1 l) ++ (if (at2 l).has then [32, 101, 108, 115, 101, 32] ++ (at2 l).b else [])
  else if k = 30 then branchT [119, 104, 105, 108, 101] (at0 l) (at1 l)
  else shortT k s l ++ [59]

mutual
def textN : Nd → Tx
  | .mk k o n s ns ks _ => ⟨k, rankT k o, exprT k o n s ns (textL ks), stmtT k s (textL ks), blockT (textL ks), !ks.isEmpty⟩
def textL : List Nd → List Tx
  | [] => []
  | x :: r => textN x :: textL r
end
theorem textL_map : ∀ l : List Nd, textL l = l.map textN
  | [] => by rw [textL]; rfl
  | x :: r => by rw [textL, textL_map r]; rfl
theorem textN_mk (k o n : Int) (s : ByteArray) (ns : List ByteArray) (ks : List Nd) (p : Int) :
    textN (.mk k o n s ns ks p) = ⟨k, rankT k o, exprT k o n s ns (ks.map textN), stmtT k s (ks.map textN), blockT (ks.map textN), !ks.isEmpty⟩ := by
  rw [textN, textL_map]

/-- a program as it is written -/
def printT (t : Nd) : List UInt8 := programT (t.kids.map textN)
/-- what Print answers -/
def printN (t : Nd) : List UInt8 × Int := if checkN t ≠ 0 then ([], checkN t) else if 2000 < (printT t).length then ([], 3) else (printT t, 0)

/-- what comes of writing: all of it, as long as there is room; else more than there is room for -/
def Wrote (l t l' : List UInt8) : Prop := l'.length ≤ l.length + t.length ∧ ((l.length + t.length ≤ 2000 ∧ l' = l ++ t) ∨ (2000 < l.length + t.length ∧ 2000 < l'.length))
theorem Wrote.all (l t : List UInt8) : Wrote l t (l ++ t) := by
  refine ⟨by simp, ?_⟩
  rcases Nat.lt_or_ge 2000 (l.length + t.length) with h | h
  · exact .inr ⟨h, by simpa using h⟩
  · exact .inl ⟨h, rfl⟩
theorem Wrote.none {l : List UInt8} (h : 2000 < l.length) (t : List UInt8) : Wrote l t l := ⟨by omega, .inr ⟨by omega, h⟩⟩
theorem Wrote.nil (l : List UInt8) : Wrote l [] l := by simpa using Wrote.all l []
theorem Wrote.trans {l t l' u l'' : List UInt8} (h : Wrote l t l') (k : Wrote l' u l'') : Wrote l (t ++ u) l'' := by
  obtain ⟨h1, h2⟩ := h
  obtain ⟨k1, k2⟩ := k
  refine ⟨by simp; omega, ?_⟩
  rcases h2 with ⟨h2, e⟩ | ⟨h2, h3⟩
  · subst e
    rcases k2 with ⟨k2, e⟩ | ⟨k2, k3⟩
    · exact .inl ⟨by simp at k2 ⊢; omega, by rw [e]; simp⟩
    · exact .inr ⟨by simp at k2 ⊢; omega, k3⟩
  · rcases k2 with ⟨k2, e⟩ | ⟨k2, k3⟩
    · omega
    · exact .inr ⟨by simp; omega, k3⟩
theorem Wrote.of {l t l' u : List UInt8} (h : Wrote l t l') (e : t = u) : Wrote l u l' := e ▸ h

end Go.Proofs.YtlnllpehifkjhaaDoor
