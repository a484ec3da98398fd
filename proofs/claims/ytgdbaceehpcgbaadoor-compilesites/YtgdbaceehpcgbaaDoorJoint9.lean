/- Texts that have numbers, as a plain list. What comes of nodes: instructions, plainly; as many steps as there are nodes. One element more at the end of a row of one's own: append(row, x). -/
import Derived.Test.YtgdbaceehpcgbaaDoorMapG
import Derived.Test.YtgdbaceehpcgbaaDoorJoint2
import Derived.Test.YtgdbaceehpcgbaaDoorCdPlain
namespace Go.Proofs.YtgdbaceehpcgbaaDoor
open Go.RowKit

/-- where a text stands -/
def atT : List ByteArray → ByteArray → Option Nat
  | [], _ => none
  | x :: r, s => if x = s then some 0 else (atT r s).map (· + 1)
/-- the map's answer -/
def numF (L : List ByteArray) (s : ByteArray) : Option Int := (atT L s).map (fun i => ((i + 1 : Nat) : Int))
/-- the list behind Of -/
def ofT (L : List ByteArray) (s : ByteArray) : List ByteArray := if (atT L s).isSome then L else L ++ [s]
def numT (L : List ByteArray) (s : ByteArray) : Nat := match atT L s with | some i => i + 1 | none => L.length + 1
def findT (L : List ByteArray) (s : ByteArray) : Nat := match atT L s with | some i => i + 1 | none => 0
theorem atT_at : ∀ {L : List ByteArray} {s : ByteArray} {i : Nat}, atT L s = some i → L[i]? = some s
  | [], _, _, h => by cases h
  | x :: r, s, i, h => by
    unfold atT at h
    by_cases hx : x = s
    · rw [if_pos hx] at h; cases h; simp [hx]
    · rw [if_neg hx] at h
      obtain ⟨j, hj, rfl⟩ := Option.map_eq_some_iff.1 h
      simpa using atT_at hj
theorem atT_lt {L : List ByteArray} {s : ByteArray} {i : Nat} (h : atT L s = some i) : i < L.length := (List.getElem?_eq_some_iff.1 (atT_at h)).1
theorem atT_none : ∀ {L : List ByteArray} {s : ByteArray}, (∀ x ∈ L, x ≠ s) → atT L s = none
  | [], _, _ => rfl
  | x :: r, s, h => by
    unfold atT
    rw [if_neg (h x (by simp)), atT_none (fun y hy => h y (by simp [hy]))]; rfl
theorem atT_no : ∀ {L : List ByteArray} {s : ByteArray}, atT L s = none → ∀ x ∈ L, x ≠ s
  | [], _, _, x, hx => by cases hx
  | y :: r, s, h, x, hx => by
    unfold atT at h
    by_cases hy : y = s
    · rw [if_pos hy] at h; cases h
    · rw [if_neg hy] at h
      rcases List.mem_cons.1 hx with rfl | hx
      · exact hy
      · exact atT_no (Option.map_eq_none_iff.1 h) x hx
theorem atT_first : ∀ {L : List ByteArray} {s : ByteArray} {j : Nat}, (∀ i x, i < j → L[i]? = some x → x ≠ s) → L[j]? = some s → atT L s = some j
  | [], s, j, _, h => by simp at h
  | x :: r, s, 0, _, h => by
    have : x = s := by simpa using h
    simp [atT, this]
  | x :: r, s, j + 1, h1, h2 => by
    have hx : x ≠ s := h1 0 x (by omega) rfl
    have ih := atT_first (L := r) (s := s) (j := j) (fun i e hi he => h1 (i + 1) e (by omega) (by simpa using he)) (by simpa using h2)
    simp [atT, hx, ih]
theorem atT_snoc : ∀ (L : List ByteArray) (s x : ByteArray), atT (L ++ [s]) x = if (atT L x).isSome then atT L x else if s = x then some L.length else none
  | [], s, x => by simp [atT]
  | y :: r, s, x => by
    simp only [List.cons_append, atT, atT_snoc r s x]
    by_cases he : y = x
    · simp [he]
    · simp only [if_neg he]
      rcases Option.eq_none_or_eq_some (atT r x) with h1 | ⟨j, h1⟩ <;> by_cases h : s = x <;> simp [h, h1]
theorem numF_some (L : List ByteArray) (s : ByteArray) : (numF L s).isSome = (atT L s).isSome := by unfold numF; cases atT L s <;> rfl
theorem numF_snoc {L : List ByteArray} {s : ByteArray} (h : atT L s = none) (y : ByteArray) : putF (numF L) s ((L.length + 1 : Nat) : Int) y = numF (L ++ [s]) y := by
  unfold putF numF
  rw [atT_snoc]
  by_cases hy : y = s
  · subst hy
    rw [if_pos rfl, h]
    simp
  · rw [if_neg hy]
    rcases Option.eq_none_or_eq_some (atT L y) with h1 | ⟨j, h1⟩
    · rw [h1]; simp [show ¬ s = y from fun e => hy e.symm]
    · rw [h1]; simp
theorem ofT_at (L : List ByteArray) (s : ByteArray) : atT (ofT L s) s = some (numT L s - 1) ∧ 1 ≤ numT L s ∧ numT L s ≤ (ofT L s).length := by
  unfold ofT numT
  cases h : atT L s with
  | none => simp [atT_snoc, h]
  | some i => have := atT_lt h; simp [h]; omega
theorem ofT_stay {L : List ByteArray} {s y : ByteArray} {i : Nat} (h : atT L s = some i) : atT (ofT L y) s = some i := by
  unfold ofT
  split
  · exact h
  · rw [atT_snoc, h]; rfl
theorem ofT_get {L : List ByteArray} {s y : ByteArray} {i : Nat} (h : L[i]? = some s) : (ofT L y)[i]? = some s := by
  have hl : i < L.length := (List.getElem?_eq_some_iff.1 h).1
  unfold ofT
  split
  · exact h
  · rw [List.getElem?_append_left hl]; exact h
theorem ofT_len (L : List ByteArray) (s : ByteArray) : (ofT L s).length ≤ L.length + 1 ∧ L.length ≤ (ofT L s).length := by
  unfold ofT; split <;> simp
/-- each text once -/
theorem ofT_once {L : List ByteArray} {s : ByteArray} (h : L.Nodup) : (ofT L s).Nodup := by
  unfold ofT
  split
  · exact h
  · rename_i hn
    have hn' : atT L s = none := by simpa using hn
    rw [List.nodup_append]
    refine ⟨h, by simp, fun a ha b hb => ?_⟩
    simp at hb
    subst hb
    exact atT_no hn' a ha

end Go.Proofs.YtgdbaceehpcgbaaDoor

namespace Go.Proofs.YtgdbaceehpcgbaaDoor
open Go.RowKit

/-- the strings that have numbers so far, and how many sites there are -/
abbrev Cs := List ByteArray × Int
/-- an instruction that begins at another place -/
def moveI (by_ : Int) (x : In) : In := if goB x.1 = true then (x.1, x.2.1 + by_, x.2.2) else x
def joinC (a b : List In) : List In := a ++ b.map (moveI a.length)
def poolN (L : List ByteArray) (s : ByteArray) : Int := (numT L s : Int) - 1
/-- an instruction with a name and a site -/
def siteC (op : Int) (s : ByteArray) (c : Cs) : In × Cs := ((op, poolN c.1 s, c.2), (ofT c.1 s, c.2 + 1))
/-- an instruction with a string -/
def textC (op : Int) (s : ByteArray) (c : Cs) : In × Cs := ((op, poolN c.1 s, 0), (ofT c.1 s, c.2))
/-- what a node does with what all its parts come to -/
def endC (k o n : Int) (s : ByteArray) (m : Nat) (c : Cs) : List In × Cs :=
  if k = 1 then ([(2, 0, 0)], c) else if k = 2 then ([(3, n, 0)], c) else if k = 3 then ([(4, n, 0)], c)
  else if k = 4 then ([(textC 5 s c).1], (textC 5 s c).2) else if k = 6 then ([(6, 0, 0)], c)
  else if k = 9 then ([(20, o, 0)], c) else if k = 10 then ([(21, o, 0)], c)
  else if k = 13 then ([(siteC 14 s c).1], (siteC 14 s c).2) else if k = 14 then ([(16, 0, 0)], c)
  else if k = 15 then ([(26, (m : Int) - 1, 0)], c) else if k = 16 then ([(28, (m : Int) - 1, 0)], c) else if k = 17 then ([(29, o, 0)], c)
  else if k = 18 then ([(8, n, 0)], c) else if k = 19 then ([(10, n, 0)], c) else if k = 20 then ([(7, n, 0)], c)
  else if k = 23 then ([(siteC 15 s c).1], (siteC 15 s c).2) else if k = 24 then ([(17, 0, 0)], c)
  else if k = 25 then ([(textC 18 s c).1], (textC 18 s c).2) else if k = 26 then ([(19, 0, 0)], c) else if k = 27 then ([(30, 0, 0)], c)
  else if k = 31 then ([(32, 0, 0)], c) else if k = 32 then ([(31, 0, 0)], c) else if k = 33 then ([(9, n, 0)], c) else if k = 34 then ([(11, n, 0)], c)
  else ([], c)
/-- what stands right behind a part -/
def hookC (k : Int) (s : ByteArray) (ns : List ByteArray) (i : Nat) (c : Cs) : List In × Cs :=
  if k = 7 then ([(siteC 13 (ns.headD ⟨#[]⟩) c).1], (siteC 13 (ns.headD ⟨#[]⟩) c).2)
  else if k = 16 ∧ i = 0 then ([(siteC 27 s c).1], (siteC 27 s c).2) else ([], c)
/-- one behind the other -/
def allC : List (List In) → List In
  | [] => []
  | x :: r => joinC x (allC r)
/-- what parts and an end come to -/
def asmC (k : Int) (ps : List (List In)) (e : List In) : List In :=
  match ps with
  | [x, y] =>
    if k = 11 ∨ k = 12 then joinC x (joinC [(k + 13, 1 + (y.length : Int), 0)] y)
    else if k = 30 then joinC x (joinC [(23, 2 + (y.length : Int), 0)] (joinC y [(22, -((x.length : Int) + 1 + (y.length : Int)), 0)]))
    else joinC (if k = 7 then [(12, 0, 0)] else []) (joinC (allC ps) e)
  | [x, y, z] =>
    if k = 28 then joinC x (joinC [(23, 2 + (y.length : Int), 0)] (joinC y (joinC [(22, 1 + (z.length : Int), 0)] z)))
    else joinC (if k = 7 then [(12, 0, 0)] else []) (joinC (allC ps) e)
  | _ => joinC (if k = 7 then [(12, 0, 0)] else []) (joinC (allC ps) e)
mutual
/-- what comes of a node -/
def cN : Nd → Cs → List In × Cs
  | .mk k o n s ns ks _, c => (joinC [(1, 1, 0)] (asmC k (cK k s ns ks 0 c).1 (endC k o n s ks.length (cK k s ns ks 0 c).2).1), (endC k o n s ks.length (cK k s ns ks 0 c).2).2)
/-- what comes of its parts -/
def cK (k : Int) (s : ByteArray) : List ByteArray → List Nd → Nat → Cs → List (List In) × Cs
  | _, [], _, c => ([], c)
  | ns, x :: r, i, c =>
    (joinC (cN x c).1 (hookC k s ns i (cN x c).2).1 :: (cK k s ns.tail r (i + 1) (hookC k s ns i (cN x c).2).2).1, (cK k s ns.tail r (i + 1) (hookC k s ns i (cN x c).2).2).2)
end
/-- a function's instructions -/
def bodyC (l : List Nd) (L : List ByteArray) : List In × Cs := (allC (cK 29 ⟨#[]⟩ [] l 0 (L, 0)).1 ++ [(2, 0, 0), (32, 0, 0)], (cK 29 ⟨#[]⟩ [] l 0 (L, 0)).2)
/-- how many values there are behind the first so many, gone through one by one -/
def linC : List In → Nat → Int
  | _, 0 => 0
  | [], _ + 1 => 0
  | x :: r, k + 1 => (effI x.1 x.2.1).2 - (effI x.1 x.2.1).1 + linC r k
/-- the most of them from a number on -/
def deepG : List In → Int → Int → Int
  | [], _, m => m
  | x :: r, d, m => deepG r (d - (effI x.1 x.2.1).1 + (effI x.1 x.2.1).2) (max m (d - (effI x.1 x.2.1).1 + (effI x.1 x.2.1).2))
def deepC (is : List In) : Int := deepG is 0 0
/-- what comes of functions: their codes and the strings, or an error -/
inductive Cz where
  | ok (cs : List Cd) (L : List ByteArray)
  | bad (e : Int)
def codeC (f : Int × Int × List Nd) (L : List ByteArray) : Cd := ⟨f.1, f.2.1, (bodyC f.2.2 L).2.2, deepC (bodyC f.2.2 L).1, (bodyC f.2.2 L).1⟩
def fnsC : List (Int × Int × List Nd) → List ByteArray → Cz
  | [], L => .ok [] L
  | f :: r, L =>
    if 4000 < (bodyC f.2.2 L).1.length then .bad 5 else if 64 < deepC (bodyC f.2.2 L).1 then .bad 13
    else match fnsC r (bodyC f.2.2 L).2.1 with
      | .bad e => .bad e
      | .ok cs M => .ok (codeC f L :: cs) M
/-- the steps -/
def tickI (x : In) : Int := if x.1 = 1 then x.2.1 else 0
def tickS (is : List In) : Int := (is.map tickI).sum

theorem move_op (d : Int) (x : In) : (moveI d x).1 = x.1 := by unfold moveI; split <;> rfl
theorem move_arg {d : Int} {x : In} (h : goB x.1 = false) : moveI d x = x := by unfold moveI; rw [h]; rfl
theorem move_zero (x : In) : moveI 0 x = x := by unfold moveI; split <;> simp
theorem move_move (a b : Int) (x : In) : moveI a (moveI b x) = moveI (b + a) x := by
  unfold moveI
  by_cases h : goB x.1 = true
  · simp only [h, if_pos]; rw [Int.add_assoc]
  · simp only [h]; simp [h]
theorem join_nil (a : List In) : joinC a [] = a := by simp [joinC]
theorem nil_join (a : List In) : joinC [] a = a := by
  unfold joinC
  rw [List.nil_append]
  exact (List.map_congr_left (fun x _ => move_zero x)).trans (List.map_id a)
theorem join_len (a b : List In) : (joinC a b).length = a.length + b.length := by simp [joinC]
theorem join_assoc (a b c : List In) : joinC (joinC a b) c = joinC a (joinC b c) := by
  unfold joinC
  rw [List.map_append, List.append_assoc, List.map_map]
  congr 2
  refine List.map_congr_left fun x _ => ?_
  simp only [Function.comp, move_move]
  congr 1
  simp
  omega
theorem tick_move (d : Int) (x : In) : tickI (moveI d x) = tickI x := by
  unfold moveI
  split
  · rename_i h
    unfold tickI
    have : x.1 ≠ 1 := by intro e; rw [e] at h; exact absurd h (by decide)
    simp [this]
  · rfl
theorem tick_app (a b : List In) : tickS (a ++ b) = tickS a + tickS b := by unfold tickS; rw [List.map_append, List.sum_append]
theorem tick_join (a b : List In) : tickS (joinC a b) = tickS a + tickS b := by
  unfold joinC
  rw [tick_app]
  unfold tickS
  rw [List.map_map]
  congr 2
  exact List.map_congr_left fun x _ => tick_move _ x
theorem tick_nil : tickS [] = 0 := rfl
theorem tick_one {x : In} (h : x.1 ≠ 1) : tickS [x] = 0 := by simp [tickS, tickI, h]
theorem tick_end (k o n : Int) (s : ByteArray) (m : Nat) (c : Cs) : tickS (endC k o n s m c).1 = 0 := by
  have key : ∀ (p : Prop) [Decidable p] (a b : List In × Cs), tickS a.1 = 0 → tickS b.1 = 0 → tickS (if p then a else b).1 = 0 := by
    intro p _ a b h1 h2
    split <;> assumption
  unfold endC
  repeat (refine key _ _ _ (by first | exact tick_one (show ((_ : Int), (_ : Int), (_ : Int)).1 ≠ 1 by simp) | (refine tick_one ?_; simp [siteC, textC])) ?_)
  rfl
theorem tick_hook (k : Int) (s : ByteArray) (ns : List ByteArray) (i : Nat) (c : Cs) : tickS (hookC k s ns i c).1 = 0 := by
  unfold hookC
  repeat' split
  all_goals first | rfl | (refine tick_one ?_; simp [siteC])
/-- the steps of parts -/
def tickP (ps : List (List In)) : Int := (ps.map tickS).sum
theorem tick_all : ∀ ps : List (List In), tickS (allC ps) = tickP ps
  | [] => rfl
  | x :: r => by rw [allC, tick_join, tick_all r]; simp [tickP]
theorem tick_head (k : Int) (ps : List (List In)) (e : List In) : tickS (joinC (if k = 7 then [(12, 0, 0)] else []) (joinC (allC ps) e)) = tickP ps + tickS e := by
  rw [tick_join, tick_join, tick_all]
  have : tickS (if k = 7 then [((12 : Int), (0 : Int), (0 : Int))] else []) = 0 := by split <;> rfl
  rw [this]; omega
theorem tick_asm {k o n : Int} {s : ByteArray} {m : Nat} {c : Cs} (ps : List (List In)) : tickS (asmC k ps (endC k o n s m c).1) = tickP ps := by
  have he := tick_end k o n s m c
  generalize (endC k o n s m c).1 = e at *
  unfold asmC
  split
  · rename_i x y
    split
    · rename_i h
      rw [tick_join, tick_join, tick_one (by simp only; omega)]; simp [tickP]
    · split
      · rw [tick_join, tick_join, tick_join, tick_one (by simp), tick_one (by simp)]; simp [tickP]
      · rw [tick_head, he]; omega
  · rename_i x y z
    split
    · rw [tick_join, tick_join, tick_join, tick_join, tick_one (by simp), tick_one (by simp)]; simp [tickP]
    · rw [tick_head, he]; omega
  · rw [tick_head, he]; omega
mutual
theorem tick_cN : ∀ (t : Nd) (c : Cs), tickS (cN t c).1 = (countN t : Int)
  | .mk k o n s ns ks p, c => by
    rw [cN, tick_join, tick_asm, tick_cK k s ns ks 0 c, countN]
    have : tickS [((1 : Int), (1 : Int), (0 : Int))] = 1 := rfl
    rw [this]; omega
theorem tick_cK (k : Int) (s : ByteArray) : ∀ (ns : List ByteArray) (ks : List Nd) (i : Nat) (c : Cs), tickP (cK k s ns ks i c).1 = (countL ks : Int)
  | ns, [], i, c => by rw [cK, countL]; rfl
  | ns, x :: r, i, c => by
    have h1 := tick_cN x c
    have h2 := tick_cK k s ns.tail r (i + 1) (hookC k s ns i (cN x c).2).2
    rw [cK, countL]
    unfold tickP at *
    rw [List.map_cons, List.sum_cons, tick_join, tick_hook, h1, h2]
    omega
end
theorem tick_body (l : List Nd) (L : List ByteArray) : tickS (bodyC l L).1 = (countL l : Int) := by
  unfold bodyC
  rw [tick_app, tick_all, tick_cK]
  show (countL l : Int) + 0 = _
  omega

end Go.Proofs.YtgdbaceehpcgbaaDoor

namespace Go.Proofs.YtgdbaceehpcgbaaDoor
open Go.RowKit

/-- what a row's element type is: cells, bytes -/
def Elem (sT eT : TypeId) (z bytes : Nat) : Prop := Tryd.prog.underlying sT = some (.slice eT) ∧ ∃ i z0, Tryd.prog.info? eT = some i ∧ i.zero = some z0 ∧ z0.cells.size = z ∧ i.size = z ∧ i.bytes = bytes
theorem elem_of {sT eT : TypeId} {z bytes : Nat} {z0 : Value} (h1 : Tryd.prog.underlying sT = some (.slice eT)) (h2 : (Tryd.prog.info? eT).map (fun i => (i.zero, i.size, i.bytes)) = some (some z0, z, bytes)) (h3 : z0.cells.size = z) : Elem sT eT z bytes := by
  obtain ⟨i0, a, b, c, d⟩ := info_parts h2
  exact ⟨h1, i0, z0, a, b, h3, c, d⟩
theorem row_app_wp {sT eT : TypeId} {z bytes : Nat} (hE : Elem sT eT z bytes) (hz : 0 < z) (hby : bytes ≤ 1000) {o : Oper} {a : Act} {K : Act → World → Prop} {Q : Exit → Act → World → Prop} {w W : World} (s x : Operand)
    (ho : o.op = .call { callee := .builtin .append, args := #[s, x], argTypes := #[sT, sT] }) (n : Nat) (xs news : List Value) (hnl : news.length = z) (one : ∀ u ∈ news, u.oneCell' = true) (v : Value) (hs : a.eval s = v) (hown : w.ownsRow 0 eT z v n xs)
    (nb : Nat) (hx : a.eval x = .slice (some ⟨nb, 0, none⟩) 1 1) (hnb : nb = w.heap.size) (hlen : n ≤ 1000000) (hW : W = w.alloc (.cells news.toArray eT) ∨ W = (w.alloc (.cells news.toArray eT)).drew ∨ W = w.drew.alloc (.cells news.toArray eT))
    (h : ∀ g cap w', w'.ownsRow 0 eT z (.slice (some ⟨g, 0, none⟩) (n + 1) cap) (n + 1) (xs ++ news) → w.grownBy w' v.ownBlock → (v.ownBlock = some g ∨ w.heap.size ≤ g) → K (a.put o.dst (.slice (some ⟨g, 0, none⟩) (n + 1) cap)) w') : o.wp Tryd.prog a W K Q := by
  subst hnb
  obtain ⟨hu, i0, z0, hi, hz0, hzc, hz1, hz2⟩ := hE
  have A : Below w.heap.size w W := by
    rcases hW with rfl | rfl | rfl
    · exact (Below.refl w.heap.size w).alloc (Nat.le_refl _) _
    · exact ((Below.refl w.heap.size w).alloc (Nat.le_refl _) _).drew
    · exact (Below.refl w.heap.size w).drew.alloc (Nat.le_refl _) _
  have hsz : W.heap.size = w.heap.size + 1 := by rcases hW with rfl | rfl | rfl <;> simp
  have hnew : W.heap[w.heap.size]? = some (.cells news.toArray eT (0, 0)) := by
    rcases hW with rfl | rfl | rfl
    · exact heap_alloc_new w _
    · exact heap_alloc_new w _
    · exact heap_alloc_new w.drew _
  have hb : (n + 1) * bytes ≤ 140737488355328 := by
    have h1 : (n + 1) * bytes ≤ 1000001 * 1000 := Nat.mul_le_mul (by omega) hby
    omega
  refine wp_append_lies _ s x sT ho 0 eT i0 z0 z bytes hu hi hz0 hz1 hz2 hzc hz v n xs hs (row_keep hown (fun g hg => by
    obtain ⟨cur, hc⟩ := row_lt hown hg
    exact A.block g (blk_lt hc))) ⟨w.heap.size, 0, none⟩ 1 1 news hx (by omega) (World.news_of_block hnew) one (by decide) (by unfold maxLen; omega) hb (Nat.zero_le _) (w.heap.size + 1) hsz ?_
  intro g cap w' hown' hgrow hat hlt
  refine h g cap w' hown' ?_ ?_
  · refine ⟨hgrow.os.trans A.os, hgrow.tape.trans A.tape, hgrow.output.trans A.output, Nat.le_trans A.size hgrow.size, fun k hk hne => ?_⟩
    rw [hgrow.block k (by omega) hne, A.block k hk]
  · rcases hat with h1 | h1
    · exact .inl h1
    · exact .inr (by omega)
/-- in a plain region -/
theorem row_app {sT eT : TypeId} {z bytes : Nat} (hE : Elem sT eT z bytes) (hz : 0 < z) (hby : bytes ≤ 1000) {ops : Array Oper} {rest : List Oper} {o : Oper} {a : Act} {Q : Exit → Act → World → Prop} {w : World} (hgd : o.guard = none) (s x : Operand)
    (ho : o.op = .call { callee := .builtin .append, args := #[s, x], argTypes := #[sT, sT] }) (n : Nat) (xs news : List Value) (hnl : news.length = z) (one : ∀ u ∈ news, u.oneCell' = true) (v : Value) (hs : a.eval s = v) (hown : w.ownsRow 0 eT z v n xs)
    (nb : Nat) (hx : a.eval x = .slice (some ⟨nb, 0, none⟩) 1 1) (hnb : nb = w.heap.size) (hlen : n ≤ 1000000)
    (h : ∀ g cap w', w'.ownsRow 0 eT z (.slice (some ⟨g, 0, none⟩) (n + 1) cap) (n + 1) (xs ++ news) → w.grownBy w' v.ownBlock → (v.ownBlock = some g ∨ w.heap.size ≤ g) → wpList Tryd.prog ops Q rest (a.put o.dst (.slice (some ⟨g, 0, none⟩) (n + 1) cap)) w') :
    wpList Tryd.prog ops Q (o :: rest) a (w.alloc (.cells news.toArray eT)) :=
  wpList_plain hgd fun _ hK' => row_app_wp hE hz hby s x ho n xs news hnl one v hs hown nb hx hnb hlen (.inl rfl) fun g cap w' h1 h2 h3 => hK' _ _ (h g cap w' h1 h2 h3)
/-- as a step of a region that draws -/
theorem row_app_step {sT eT : TypeId} {z bytes : Nat} (hE : Elem sT eT z bytes) (hz : 0 < z) (hby : bytes ≤ 1000) {ops : Array Oper} {o : Oper} {a : Act} {K : Act → World → Prop} {Q : Exit → Act → World → Prop} {E : Prop} {w W : World} (hgd : o.guard = none) (s x : Operand)
    (ho : o.op = .call { callee := .builtin .append, args := #[s, x], argTypes := #[sT, sT] }) (n : Nat) (xs news : List Value) (hnl : news.length = z) (one : ∀ u ∈ news, u.oneCell' = true) (v : Value) (hs : a.eval s = v) (hown : w.ownsRow 0 eT z v n xs)
    (nb : Nat) (hx : a.eval x = .slice (some ⟨nb, 0, none⟩) 1 1) (hnb : nb = w.heap.size) (hlen : n ≤ 1000000) (hW : W = w.alloc (.cells news.toArray eT) ∨ W = (w.alloc (.cells news.toArray eT)).drew ∨ W = w.drew.alloc (.cells news.toArray eT))
    (h : ∀ g cap w', w'.ownsRow 0 eT z (.slice (some ⟨g, 0, none⟩) (n + 1) cap) (n + 1) (xs ++ news) → w.grownBy w' v.ownBlock → (v.ownBlock = some g ∨ w.heap.size ≤ g) → K (a.put o.dst (.slice (some ⟨g, 0, none⟩) (n + 1) cap)) w') :
    if Region.wanted o (yielded ops a.tmps) = true then Oper.wp Tryd.prog o a W K Q else E := by
  rw [if_pos (by simp [Region.wanted, hgd])]
  exact row_app_wp hE hz hby s x ho n xs news hnl one v hs hown nb hx hnb hlen hW h

end Go.Proofs.YtgdbaceehpcgbaaDoor
