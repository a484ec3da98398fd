/- What the program lays, step by step, is what comes of nodes. -/
import Derived.Test.YtgdbaceehpcgbaaDoorJoint14
import Derived.Test.YtgdbaceehpcgbaaDoorCpMem
namespace Go.Proofs.YtgdbaceehpcgbaaDoor
set_option linter.unusedSimpArgs false
open Go.RowKit

/-- what comes of some nodes, one behind the other -/
def kN (ks : List Nd) (c : Cs) : List In × Cs := (allC (cK 29 ⟨#[]⟩ [] ks 0 c).1, (cK 29 ⟨#[]⟩ [] ks 0 c).2)
theorem cK_same {k k' : Int} (h7 : k ≠ 7) (h7' : k' ≠ 7) (s s' : ByteArray) : ∀ (ks : List Nd) (ns ns' : List ByteArray) (i i' : Nat) (c : Cs), (k = 16 → i ≠ 0) → (k' = 16 → i' ≠ 0) → cK k s ns ks i c = cK k' s' ns' ks i' c
  | [], _, _, _, _, _, _, _ => by rw [cK, cK]
  | x :: r, ns, ns', i, i', c, h, h' => by
    have e : ∀ c, hookC k s ns i c = ([], c) := fun c => by unfold hookC; rw [if_neg h7, if_neg (fun q => h q.1 q.2)]
    have e' : ∀ c, hookC k' s' ns' i' c = ([], c) := fun c => by unfold hookC; rw [if_neg h7', if_neg (fun q => h' q.1 q.2)]
    rw [cK, cK, e, e']
    simp only
    rw [cK_same h7 h7' s s' r ns.tail ns'.tail (i + 1) (i' + 1) (cN x c).2 (fun _ => by omega) (fun _ => by omega)]
theorem kN_of {k : Int} (h7 : k ≠ 7) (s : ByteArray) (ks : List Nd) (ns : List ByteArray) (i : Nat) (c : Cs) (h : k = 16 → i ≠ 0) : allC (cK k s ns ks i c).1 = (kN ks c).1 ∧ (cK k s ns ks i c).2 = (kN ks c).2 := by
  unfold kN
  rw [cK_same h7 (show (29 : Int) ≠ 7 by decide) s ⟨#[]⟩ ks ns [] i 0 c h (by decide)]
  exact ⟨rfl, rfl⟩
theorem kN_nil (c : Cs) : kN [] c = ([], c) := by unfold kN; rw [cK]; rfl
theorem kN_cons (x : Nd) (r : List Nd) (c : Cs) : kN (x :: r) c = (joinC (cN x c).1 (kN r (cN x c).2).1, (kN r (cN x c).2).2) := by
  have h := kN_of (k := 29) (by decide) ⟨#[]⟩ r [] 1 (cN x c).2 (by decide)
  unfold kN at h ⊢
  have e : ∀ c, hookC 29 ⟨#[]⟩ [] 0 c = ([], c) := fun c => rfl
  rw [cK, e]
  simp only [allC, join_nil, List.tail_nil, Nat.zero_add]
  rw [h.1, h.2]
theorem join_one {A : List In} {x : In} (h : goB x.1 = false) : joinC A [x] = A ++ [x] := by
  unfold joinC
  rw [List.map_singleton, move_arg h]
theorem body_kN (l : List Nd) (L : List ByteArray) : bodyC l L = ((kN l (L, 0)).1 ++ [(2, 0, 0), (32, 0, 0)], (kN l (L, 0)).2) := rfl

/-- what is laid behind a node's Tick -/
def backC (k o n : Int) (s : ByteArray) (ks : List Nd) (c : Cs) : List In × Cs := (joinC (kN ks c).1 (endC k o n s ks.length (kN ks c).2).1, (endC k o n s ks.length (kN ks c).2).2)
theorem cN_plain {k : Int} (h : k ≠ 7 ∧ k ≠ 11 ∧ k ≠ 12 ∧ k ≠ 16 ∧ k ≠ 28 ∧ k ≠ 30) (o n : Int) (s : ByteArray) (ns : List ByteArray) (ks : List Nd) (p : Int) (c : Cs) :
    cN (.mk k o n s ns ks p) c = (joinC [(1, 1, 0)] (backC k o n s ks c).1, (backC k o n s ks c).2) := by
  obtain ⟨h7, h11, h12, h16, h28, h30⟩ := h
  have e := kN_of h7 s ks ns 0 c (fun q => absurd q h16)
  rw [cN, asm_gen ⟨h11, h12, h30, h28⟩, if_neg h7, nil_join, e.1, e.2]
  rfl
theorem cN_obj (o n : Int) (s : ByteArray) (ns : List ByteArray) (ks : List Nd) (p : Int) (c : Cs) :
    cN (.mk 7 o n s ns ks p) c = (joinC [(1, 1, 0)] (joinC [(12, 0, 0)] (allC (cK 7 s ns ks 0 c).1)), (cK 7 s ns ks 0 c).2) := by
  have e : ∀ m c, endC 7 o n s m c = ([], c) := fun m c => rfl
  rw [cN, asm_gen (by decide), if_pos rfl, e]
  simp only [join_nil]
theorem cK_obj (s : ByteArray) (m : ByteArray) (ns : List ByteArray) (x : Nd) (r : List Nd) (i : Nat) (c : Cs) :
    cK 7 s (m :: ns) (x :: r) i c = (joinC (cN x c).1 [(siteC 13 m (cN x c).2).1] :: (cK 7 s ns r (i + 1) (siteC 13 m (cN x c).2).2).1, (cK 7 s ns r (i + 1) (siteC 13 m (cN x c).2).2).2) := by
  have e : ∀ c, hookC 7 s (m :: ns) i c = ([(siteC 13 m c).1], (siteC 13 m c).2) := fun c => rfl
  rw [cK, e]
  rfl
theorem cN_meth (o n : Int) (s : ByteArray) (ns : List ByteArray) (x : Nd) (r : List Nd) (p : Int) (c : Cs) :
    cN (.mk 16 o n s ns (x :: r) p) c = (joinC [(1, 1, 0)] (joinC (cN x c).1 (joinC [(siteC 27 s (cN x c).2).1] (joinC (kN r (siteC 27 s (cN x c).2).2).1 [(28, ((x :: r).length : Int) - 1, 0)]))), (kN r (siteC 27 s (cN x c).2).2).2) := by
  have e : ∀ c, hookC 16 s ns 0 c = ([(siteC 27 s c).1], (siteC 27 s c).2) := fun c => rfl
  have e2 : ∀ m c, endC 16 o n s m c = ([(28, (m : Int) - 1, 0)], c) := fun m c => rfl
  have e3 := kN_of (k := 16) (by decide) s r ns.tail 1 (siteC 27 s (cN x c).2).2 (by decide)
  rw [cN, asm_gen (by decide), if_neg (by decide), nil_join, cK, e, e2]
  simp only [allC, Nat.zero_add]
  rw [e3.1, e3.2]
  simp only [join_assoc]
theorem cN_either {k : Int} (h : k = 11 ∨ k = 12) (o n : Int) (s : ByteArray) (ns : List ByteArray) (x y : Nd) (p : Int) (c : Cs) :
    cN (.mk k o n s ns [x, y] p) c = (joinC [(1, 1, 0)] (joinC (cN x c).1 (joinC [(k + 13, 1 + ((cN y (cN x c).2).1.length : Int), 0)] (cN y (cN x c).2).1)), (cN y (cN x c).2).2) := by
  have h7 : k ≠ 7 := by omega
  have h16 : k ≠ 16 := by omega
  have e2 : ∀ m c, endC k o n s m c = ([], c) := fun m c => end_special (by omega)
  rw [cN, e2, cK_plain h7 h16, cK_plain h7 h16, cK]
  simp only
  rw [asm_two h]
theorem cN_if (o n : Int) (s : ByteArray) (ns : List ByteArray) (x y z : Nd) (p : Int) (c : Cs) :
    cN (.mk 28 o n s ns [x, y, z] p) c = (joinC [(1, 1, 0)] (joinC (cN x c).1 (joinC [(23, 2 + ((cN y (cN x c).2).1.length : Int), 0)] (joinC (cN y (cN x c).2).1 (joinC [(22, 1 + ((cN z (cN y (cN x c).2).2).1.length : Int), 0)] (cN z (cN y (cN x c).2).2).1)))), (cN z (cN y (cN x c).2).2).2) := by
  have e2 : ∀ m c, endC 28 o n s m c = ([], c) := fun m c => end_special (by omega)
  rw [cN, e2, cK_plain (by decide) (by decide), cK_plain (by decide) (by decide), cK_plain (by decide) (by decide), cK]
  rfl
theorem cN_while (o n : Int) (s : ByteArray) (ns : List ByteArray) (x y : Nd) (p : Int) (c : Cs) :
    cN (.mk 30 o n s ns [x, y] p) c = (joinC [(1, 1, 0)] (joinC (cN x c).1 (joinC [(23, 2 + ((cN y (cN x c).2).1.length : Int), 0)] (joinC (cN y (cN x c).2).1 [(22, -(((cN x c).1.length : Int) + 1 + ((cN y (cN x c).2).1.length : Int)), 0)]))), (cN y (cN x c).2).2) := by
  have e2 : ∀ m c, endC 30 o n s m c = ([], c) := fun m c => end_special (by omega)
  rw [cN, e2, cK_plain (by decide) (by decide), cK_plain (by decide) (by decide), cK]
  rfl

/-! places that are filled in behind -/
theorem move_go {op a d : Int} (ho : goB op = true) : moveI d (op, a, 0) = (op, a + d, 0) := by unfold moveI; rw [if_pos ho]
theorem map_map2 (a b : Int) (l : List In) : (l.map (moveI b)).map (moveI a) = l.map (moveI (b + a)) := by
  rw [List.map_map]
  exact List.map_congr_left fun x _ => by simp only [Function.comp, move_move]
theorem go_22 : goB 22 = true := by decide
theorem go_23 : goB 23 = true := by decide
theorem same_go {op a b : Int} (h : a = b) : ((op, a, (0 : Int)) : In) = (op, b, 0) := by rw [h]
theorem same_map {a b : Int} (h : a = b) (l : List In) : l.map (moveI a) = l.map (moveI b) := by rw [h]
theorem app_eq {a b c d : List In} (h : a = c) (k : b = d) : a ++ b = c ++ d := by rw [h, k]
theorem cons_eq {x y : In} {a b : List In} (h : x = y) (k : a = b) : x :: a = y :: b := by rw [h, k]
theorem fill_either {op : Int} (ho : goB op = true) (A Y : List In) {i : Nat} {t : Int} (hi : i = A.length) (ht : t = (joinC (A ++ [(op, 0, 0)]) Y).length) :
    putA (joinC (A ++ [(op, 0, 0)]) Y) i t = joinC A (joinC [(op, 1 + (Y.length : Int), 0)] Y) := by
  subst ht
  unfold joinC
  rw [List.append_assoc, List.singleton_append, putA_at _ _ _ _ hi]
  simp only [List.map_cons, List.map_append, List.map_nil, map_map2, move_go ho, List.cons_append, List.nil_append, List.length_append, List.length_cons, List.length_nil, List.length_map]
  exact app_eq rfl (cons_eq (same_go (by push_cast; omega)) (same_map (by push_cast; omega) _))
theorem fill_if (A Y Z : List In) {i j : Nat} {t u : Int} (hi : i = A.length) (hj : j = A.length + 1 + Y.length) (ht : t = (A.length + 1 + Y.length + 1 : Nat)) (hu : u = (A.length + 1 + Y.length + 1 + Z.length : Nat)) :
    putA (joinC (putA (joinC (A ++ [(23, 0, 0)]) Y ++ [(22, 0, 0)]) i t) Z) j u = joinC A (joinC [(23, 2 + (Y.length : Int), 0)] (joinC Y (joinC [(22, 1 + (Z.length : Int), 0)] Z))) := by
  subst ht hu
  unfold joinC
  rw [List.append_assoc, List.append_assoc, List.singleton_append, putA_at _ _ _ _ hi]
  rw [show A ++ ((23 : Int), ((A.length + 1 + Y.length + 1 : Nat) : Int), (0 : Int)) :: (Y.map (moveI ((A ++ [((23 : Int), (0 : Int), (0 : Int))]).length : Int)) ++ [(22, 0, 0)]) = (A ++ (23, ((A.length + 1 + Y.length + 1 : Nat) : Int), 0) :: Y.map (moveI ((A ++ [((23 : Int), (0 : Int), (0 : Int))]).length : Int))) ++ [(22, 0, 0)] from by simp]
  rw [List.append_assoc (_ ++ _), List.singleton_append, putA_at _ _ _ _ (by simp [hj]; omega)]
  simp only [List.map_cons, List.map_append, List.map_nil, map_map2, move_go go_22, move_go go_23, List.cons_append, List.nil_append, List.append_assoc, List.length_append, List.length_cons, List.length_nil, List.length_map]
  exact app_eq rfl (cons_eq (same_go (by push_cast; omega)) (app_eq (same_map (by push_cast; omega) _) (cons_eq (same_go (by push_cast; omega)) (same_map (by push_cast; omega) _))))
theorem fill_while (A X Y : List In) {i : Nat} {t g : Int} (hi : i = A.length + X.length) (hg : g = (A.length : Int)) (ht : t = (A.length + X.length + 1 + Y.length + 1 : Nat)) :
    putA (joinC (joinC A X ++ [(23, 0, 0)]) Y ++ [(22, g, 0)]) i t = joinC A (joinC X (joinC [(23, 2 + (Y.length : Int), 0)] (joinC Y [(22, -((X.length : Int) + 1 + (Y.length : Int)), 0)]))) := by
  subst ht hg
  rw [← join_assoc]
  have hl : (joinC A X).length = A.length + X.length := join_len _ _
  generalize joinC A X = B at *
  unfold joinC
  rw [List.append_assoc, List.append_assoc, List.singleton_append, putA_at _ _ _ _ (by omega)]
  simp only [List.map_cons, List.map_append, List.map_nil, map_map2, move_go go_22, move_go go_23, List.cons_append, List.nil_append, List.append_assoc, List.length_append, List.length_cons, List.length_nil, List.length_map]
  exact app_eq rfl (cons_eq (same_go (by push_cast; omega)) (app_eq (same_map (by push_cast; omega) _) (cons_eq (same_go (by push_cast; omega)) rfl)))

/-! how many there are -/
theorem ofT_le (L : List ByteArray) (s : ByteArray) : (ofT L s).length ≤ L.length + 1 := (ofT_len L s).1
theorem end_len (k o n : Int) (s : ByteArray) (m : Nat) (c : Cs) : (endC k o n s m c).1.length ≤ 1 ∧ (endC k o n s m c).2.1.length ≤ c.1.length + 1 ∧ c.2 ≤ (endC k o n s m c).2.2 ∧ (endC k o n s m c).2.2 ≤ c.2 + 1 := by
  have key : ∀ (p : Prop) [Decidable p] (a b : List In × Cs), (a.1.length ≤ 1 ∧ a.2.1.length ≤ c.1.length + 1 ∧ c.2 ≤ a.2.2 ∧ a.2.2 ≤ c.2 + 1) → (b.1.length ≤ 1 ∧ b.2.1.length ≤ c.1.length + 1 ∧ c.2 ≤ b.2.2 ∧ b.2.2 ≤ c.2 + 1) → ((if p then a else b).1.length ≤ 1 ∧ (if p then a else b).2.1.length ≤ c.1.length + 1 ∧ c.2 ≤ (if p then a else b).2.2 ∧ (if p then a else b).2.2 ≤ c.2 + 1) := by
    intro p _ a b h1 h2
    split <;> assumption
  have hs : ∀ op, ([(siteC op s c).1].length ≤ 1 ∧ (siteC op s c).2.1.length ≤ c.1.length + 1 ∧ c.2 ≤ (siteC op s c).2.2 ∧ (siteC op s c).2.2 ≤ c.2 + 1) := fun op => ⟨by simp, ofT_le _ _, by simp [siteC]; omega, by simp [siteC]⟩
  have ht : ∀ op, ([(textC op s c).1].length ≤ 1 ∧ (textC op s c).2.1.length ≤ c.1.length + 1 ∧ c.2 ≤ (textC op s c).2.2 ∧ (textC op s c).2.2 ≤ c.2 + 1) := fun op => ⟨by simp, ofT_le _ _, by simp [textC], by simp [textC]; omega⟩
  have ho : ∀ x : In, ([x].length ≤ 1 ∧ c.1.length ≤ c.1.length + 1 ∧ c.2 ≤ c.2 ∧ c.2 ≤ c.2 + 1) := fun x => ⟨by simp, by omega, by omega, by omega⟩
  unfold endC
  repeat (refine key _ _ _ (by first | exact ho _ | exact hs _ | exact ht _) ?_)
  exact ⟨by simp, by simp, Int.le_refl _, show c.2 ≤ c.2 + 1 by omega⟩
theorem hook_len (k : Int) (s : ByteArray) (ns : List ByteArray) (i : Nat) (c : Cs) : (hookC k s ns i c).1.length ≤ 1 ∧ (hookC k s ns i c).2.1.length ≤ c.1.length + 1 ∧ c.2 ≤ (hookC k s ns i c).2.2 ∧ (hookC k s ns i c).2.2 ≤ c.2 + 1 := by
  unfold hookC
  repeat' split
  · exact ⟨by simp, ofT_le _ _, by simp [siteC]; omega, by simp [siteC]⟩
  · exact ⟨by simp, ofT_le _ _, by simp [siteC]; omega, by simp [siteC]⟩
  · exact ⟨by simp, by simp, Int.le_refl _, show c.2 ≤ c.2 + 1 by omega⟩
/-- so many of parts -/
def lenP (ps : List (List In)) : Nat := (ps.map List.length).sum
theorem all_len : ∀ ps : List (List In), (allC ps).length = lenP ps
  | [] => rfl
  | x :: r => by rw [allC, join_len, all_len r]; simp [lenP]
theorem asm_len (k : Int) (ps : List (List In)) (e : List In) (he : e.length ≤ 1) : (asmC k ps e).length ≤ lenP ps + 2 := by
  have h1 : (joinC (if k = 7 then [((12 : Int), (0 : Int), (0 : Int))] else []) (joinC (allC ps) e)).length ≤ lenP ps + 2 := by
    rw [join_len, join_len, all_len]
    split <;> simp <;> omega
  unfold asmC
  split
  · rename_i x y
    split
    · simp [join_len, lenP]; omega
    · split
      · simp [join_len, lenP]; omega
      · exact h1
  · rename_i x y z
    split
    · simp [join_len, lenP]; omega
    · exact h1
  · exact h1
mutual
theorem cN_len : ∀ (t : Nd) (c : Cs), (cN t c).1.length + 1 ≤ 4 * countN t ∧ (cN t c).2.1.length + 1 ≤ c.1.length + 2 * countN t ∧ c.2 ≤ (cN t c).2.2 ∧ (cN t c).2.2 + 1 ≤ c.2 + 2 * (countN t : Int)
  | .mk k o n s ns ks p, c => by
    have h1 := cK_lens k s ks ns 0 c
    have h2 := end_len k o n s ks.length (cK k s ns ks 0 c).2
    have h3 := asm_len k (cK k s ns ks 0 c).1 (endC k o n s ks.length (cK k s ns ks 0 c).2).1 h2.1
    rw [cN, countN, join_len]
    simp only [List.length_cons, List.length_nil]
    refine ⟨by omega, by omega, by omega, by push_cast; omega⟩
theorem cK_lens (k : Int) (s : ByteArray) : ∀ (ks : List Nd) (ns : List ByteArray) (i : Nat) (c : Cs), lenP (cK k s ns ks i c).1 ≤ 4 * countL ks ∧ (cK k s ns ks i c).2.1.length ≤ c.1.length + 2 * countL ks ∧ c.2 ≤ (cK k s ns ks i c).2.2 ∧ (cK k s ns ks i c).2.2 ≤ c.2 + 2 * (countL ks : Int)
  | [], ns, i, c => by rw [cK, countL]; exact ⟨by simp [lenP], by simp, by simp, by simp⟩
  | x :: r, ns, i, c => by
    have h1 := cN_len x c
    have h2 := hook_len k s ns i (cN x c).2
    have h3 := cK_lens k s r ns.tail (i + 1) (hookC k s ns i (cN x c).2).2
    rw [cK, countL]
    unfold lenP at *
    dsimp only
    rw [List.map_cons, List.sum_cons, join_len]
    refine ⟨by omega, by omega, by omega, by push_cast; omega⟩
end
theorem kN_len (ks : List Nd) (c : Cs) : (kN ks c).1.length ≤ 4 * countL ks ∧ (kN ks c).2.1.length ≤ c.1.length + 2 * countL ks ∧ c.2 ≤ (kN ks c).2.2 ∧ (kN ks c).2.2 ≤ c.2 + 2 * (countL ks : Int) := by
  unfold kN
  rw [all_len]
  exact cK_lens 29 ⟨#[]⟩ ks [] 0 c
/-- there is room for so many nodes more -/
structure RoomC (I : List In) (c : Cs) (n : Nat) : Prop where
  ins : I.length + 4 * n ≤ 900000
  txt : c.1.length + 2 * n ≤ 900000
  lo : 0 ≤ c.2
  hi : c.2 + 2 * n ≤ 900000
theorem RoomC.less {I : List In} {c : Cs} {n m : Nat} (h : RoomC I c n) (hm : m ≤ n) : RoomC I c m := ⟨by have := h.ins; omega, by have := h.txt; omega, h.lo, by have := h.hi; omega⟩
theorem RoomC.node {I : List In} {c : Cs} {n m : Nat} {t : Nd} (h : RoomC I c n) (hm : countN t + m ≤ n) : RoomC (joinC I (cN t c).1) (cN t c).2 m := by
  have h1 := cN_len t c
  obtain ⟨a, b, d, e⟩ := h
  exact ⟨by rw [join_len]; omega, by omega, by omega, by omega⟩
theorem RoomC.more {I : List In} {c : Cs} {n m : Nat} {x : In} (h : RoomC I c n) (hm : m + 1 ≤ n) : RoomC (I ++ [x]) c m := by
  obtain ⟨a, b, d, e⟩ := h
  exact ⟨by simp; omega, by omega, by omega, by omega⟩

end Go.Proofs.YtgdbaceehpcgbaaDoor
