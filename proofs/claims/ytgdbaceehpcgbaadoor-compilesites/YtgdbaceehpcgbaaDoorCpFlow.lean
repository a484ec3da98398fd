/- What comes of nodes flows: no stack is empty where something is taken. -/
import Derived.Test.YtgdbaceehpcgbaaDoorJoint9
import Derived.Test.YtgdbaceehpcgbaaDoorJoint10
namespace Go.Proofs.YtgdbaceehpcgbaaDoor
open Go.RowKit

theorem eff_move (d : Int) (x : In) : effI (moveI d x).1 (moveI d x).2.1 = effI x.1 x.2.1 := by
  unfold moveI
  split
  · rename_i h
    have : x.1 = 22 ∨ x.1 = 23 ∨ x.1 = 24 ∨ x.1 = 25 := by simpa [goB] using h
    unfold effI
    rcases this with e | e | e | e <;> rw [e] <;> rfl
  · rfl
theorem lin_zero (is : List In) : linC is 0 = 0 := by cases is <;> rfl
theorem lin_app : ∀ (a b : List In) (j : Nat), j ≤ a.length → linC (a ++ b) j = linC a j
  | a, b, 0, _ => by rw [lin_zero, lin_zero]
  | [], b, j + 1, h => by simp at h
  | x :: r, b, j + 1, h => by
    rw [List.cons_append, linC, linC, lin_app r b j (by simpa using h)]
theorem lin_past : ∀ (a b : List In) (j : Nat), linC (a ++ b) (a.length + j) = linC a a.length + linC b j
  | [], b, j => by simp [lin_zero]
  | x :: r, b, j => by
    have h := lin_past r b j
    rw [List.length_cons, show r.length + 1 + j = (r.length + j) + 1 by omega, List.cons_append, linC, linC, h]
    omega
theorem lin_move (d : Int) : ∀ (b : List In) (j : Nat), linC (b.map (moveI d)) j = linC b j
  | b, 0 => by rw [lin_zero, lin_zero]
  | [], j + 1 => rfl
  | x :: r, j + 1 => by rw [List.map_cons, linC, linC, eff_move, lin_move d r j]
theorem lin_joinL {a b : List In} {j : Nat} (h : j ≤ a.length) : linC (joinC a b) j = linC a j := lin_app _ _ _ h
theorem lin_joinR (a b : List In) (j : Nat) : linC (joinC a b) (a.length + j) = linC a a.length + linC b j := by unfold joinC; rw [lin_past, lin_move]
theorem lin_step : ∀ {is : List In} {k : Nat} {x : In}, is[k]? = some x → linC is (k + 1) = linC is k + (effI x.1 x.2.1).2 - (effI x.1 x.2.1).1
  | [], k, x, h => by simp at h
  | y :: r, 0, x, h => by
    simp at h; subst h
    show (effI y.1 y.2.1).2 - (effI y.1 y.2.1).1 + linC r 0 = linC (y :: r) 0 + _ - _
    rw [lin_zero, lin_zero]; omega
  | y :: r, k + 1, x, h => by
    have := lin_step (is := r) (k := k) (x := x) (by simpa using h)
    rw [linC, this, linC]; omega
theorem nx_move {L s : Int} {x : In} {k : Nat} {d t e : Int} {K : Nat} (hK : (K : Int) = L + k) (h : (t, e) ∈ nxI (moveI L x).1 (moveI L x).2.1 K (s + d)) : (t - L, e - s) ∈ nxI x.1 x.2.1 k d := by
  unfold nxI at h ⊢
  rw [eff_move, move_op] at h
  generalize effI x.1 x.2.1 = E at *
  by_cases h32 : x.1 = 32
  · rw [if_pos h32] at h; cases h
  rw [if_neg h32] at h ⊢
  by_cases h22 : x.1 = 22
  · rw [if_pos h22] at h ⊢
    have hm : (moveI L x).2.1 = x.2.1 + L := by unfold moveI; rw [if_pos (by simp [goB, h22])]
    rw [hm] at h
    simp at h ⊢
    omega
  rw [if_neg h22] at h ⊢
  by_cases hg : goB x.1 = true
  · rw [if_pos hg] at h ⊢
    have hm : (moveI L x).2.1 = x.2.1 + L := by unfold moveI; rw [if_pos hg]
    rw [hm] at h
    simp at h ⊢
    rcases h with h | h
    · left; omega
    · right; omega
  · rw [if_neg hg] at h ⊢
    simp at h ⊢
    omega
/-- a Tick stands there -/
def TickAt (is : List In) (j : Nat) : Prop := ∃ q, is[j]? = some q ∧ q.1 = 1
theorem tickAt_joinL {a b : List In} {j : Nat} (h : TickAt a j) : TickAt (joinC a b) j := by
  obtain ⟨q, h1, h2⟩ := h
  exact ⟨q, by unfold joinC; rw [List.getElem?_append_left (List.getElem?_eq_some_iff.1 h1).1]; exact h1, h2⟩
theorem tickAt_joinR {a b : List In} {j : Nat} (h : TickAt b j) : TickAt (joinC a b) (a.length + j) := by
  obtain ⟨q, h1, h2⟩ := h
  exact ⟨moveI a.length q, by unfold joinC; rw [List.getElem?_append_right (by omega), Nat.add_sub_cancel_left, List.getElem?_map, h1]; rfl, by rw [move_op]; exact h2⟩
/-- from a number of values on they flow, and come to so many more; X: the places outside -/
def GE (X : Int → Int → Prop) (b : Int) (is : List In) (δ : Int) : Prop :=
  linC is is.length = δ ∧ ∀ (k : Nat) x, is[k]? = some x → (effI x.1 x.2.1).1 ≤ b + linC is k ∧ ∀ t e, (t, e) ∈ nxI x.1 x.2.1 k (linC is k) → (∃ j : Nat, t = j ∧ j ≤ is.length ∧ e = linC is j ∧ (j ≤ k → TickAt is j)) ∨ X t e
abbrev NoX : Int → Int → Prop := fun _ _ => False
theorem ge_base {X : Int → Int → Prop} {b c δ : Int} {is : List In} (h : GE X b is δ) (hb : b ≤ c) : GE X c is δ := ⟨h.1, fun k x hx => ⟨by have := (h.2 k x hx).1; omega, (h.2 k x hx).2⟩⟩
theorem ge_join {X Y Z : Int → Int → Prop} {b a c : Int} {x y : List In} (h1 : GE X b x a) (h2 : GE Y (b + a) y c)
    (hX : ∀ t e, X t e → Z t e ∨ ∃ j : Nat, t = (x.length : Int) + j ∧ j ≤ y.length ∧ e = a + linC y j)
    (hY : ∀ t e, Y t e → Z (t + x.length) (e + a) ∨ ∃ j : Nat, t + (x.length : Int) = j ∧ j ≤ x.length ∧ e + a = linC (joinC x y) j ∧ TickAt (joinC x y) j) : GE Z b (joinC x y) (a + c) := by
  refine ⟨by rw [join_len, lin_joinR, h1.1, h2.1], fun k q hq => ?_⟩
  rcases Nat.lt_or_ge k x.length with hk | hk
  · have hq' : x[k]? = some q := by unfold joinC at hq; rwa [List.getElem?_append_left hk] at hq
    obtain ⟨g1, g2⟩ := h1.2 k q hq'
    rw [lin_joinL (Nat.le_of_lt hk)]
    refine ⟨g1, fun t e hm => ?_⟩
    rcases g2 t e hm with ⟨j, hj, hj2, he, ht⟩ | hx
    · exact .inl ⟨j, hj, by rw [join_len]; omega, by rw [lin_joinL hj2]; exact he, fun hjk => tickAt_joinL (ht hjk)⟩
    · rcases hX t e hx with hz | ⟨j, hj, hj2, he⟩
      · exact .inr hz
      · exact .inl ⟨x.length + j, by omega, by rw [join_len]; omega, by rw [lin_joinR, h1.1]; exact he, fun hjk => absurd hjk (by omega)⟩
  · obtain ⟨k', rfl⟩ : ∃ k', k = x.length + k' := ⟨k - x.length, by omega⟩
    have hq' : ∃ q', y[k']? = some q' ∧ q = moveI x.length q' := by
      unfold joinC at hq
      rw [List.getElem?_append_right (by omega), Nat.add_sub_cancel_left, List.getElem?_map] at hq
      obtain ⟨q', e1, e2⟩ := Option.map_eq_some_iff.1 hq
      exact ⟨q', e1, e2.symm⟩
    obtain ⟨q', hy, rfl⟩ := hq'
    obtain ⟨g1, g2⟩ := h2.2 k' q' hy
    rw [lin_joinR, h1.1, eff_move]
    refine ⟨by omega, fun t e hm => ?_⟩
    have hm' := nx_move (L := (x.length : Int)) (s := a) (K := x.length + k') (k := k') (by simp) hm
    rcases g2 _ _ hm' with ⟨j, hj, hj2, he, ht⟩ | hx
    · exact .inl ⟨x.length + j, by omega, by rw [join_len]; omega, by rw [lin_joinR, h1.1]; omega, fun hjk => tickAt_joinR (ht (by omega))⟩
    · rcases hY _ _ hx with hz | ⟨j, hj, hj2, he, ht⟩
      · refine .inr ?_
        have e1 : t - (x.length : Int) + x.length = t := by omega
        have e2 : e - a + a = e := by omega
        rwa [e1, e2] at hz
      · exact .inl ⟨j, by omega, by rw [join_len]; omega, by omega, fun _ => ht⟩
theorem ge_join0 {b a c : Int} {x y : List In} (h1 : GE NoX b x a) (h2 : GE NoX (b + a) y c) : GE NoX b (joinC x y) (a + c) := ge_join h1 h2 (fun _ _ h => h.elim) (fun _ _ h => h.elim)
theorem ge_nil (b : Int) : GE NoX b [] 0 := ⟨rfl, fun k x h => by simp at h⟩
/-- one instruction that goes nowhere -/
theorem ge_one {b δ : Int} {x : In} (hg : goB x.1 = false) (hp : (effI x.1 x.2.1).1 ≤ b) (hd : (effI x.1 x.2.1).2 - (effI x.1 x.2.1).1 = δ) : GE NoX b [x] δ := by
  have hl : linC [x] 1 = δ := by rw [linC, lin_zero]; omega
  refine ⟨hl, fun k q hq => ?_⟩
  obtain rfl : k = 0 := by
    cases k with
    | zero => rfl
    | succ k => simp at hq
  simp at hq; subst hq
  rw [lin_zero]
  refine ⟨by omega, fun t e hm => .inl ⟨1, ?_, by simp, ?_, fun h => absurd h (by omega)⟩⟩
  · unfold nxI at hm
    split at hm
    · cases hm
    · split at hm
      · rename_i h; rw [h] at hg; exact absurd hg (by decide)
      · rw [if_neg (by simp [hg])] at hm
        simp at hm; exact hm.1
  · unfold nxI at hm
    split at hm
    · cases hm
    · split at hm
      · rename_i h; rw [h] at hg; exact absurd hg (by decide)
      · rw [if_neg (by simp [hg])] at hm
        simp at hm; rw [hl]; omega
/-- one that goes somewhere -/
theorem ge_go {b δ : Int} {o a : Int} (h : (o = 22 ∧ δ = 0 ∧ 0 ≤ b) ∨ ((o = 23 ∨ o = 24 ∨ o = 25) ∧ δ = -1 ∧ 1 ≤ b)) : GE (fun t e => t = a ∧ e = if o = 24 ∨ o = 25 then 0 else δ) b [(o, a, 0)] δ := by
  have hl : linC [(o, a, 0)] 1 = δ := by
    rw [linC, lin_zero]
    rcases h with ⟨rfl, rfl, _⟩ | ⟨rfl | rfl | rfl, rfl, _⟩ <;> rfl
  refine ⟨hl, fun k q hq => ?_⟩
  obtain rfl : k = 0 := by
    cases k with
    | zero => rfl
    | succ k => simp at hq
  simp at hq; subst hq
  rw [lin_zero]
  rcases h with ⟨rfl, rfl, hb⟩ | ⟨ho, rfl, hb⟩
  · refine ⟨by simp [effI, effP]; exact hb, fun t e hm => .inr ?_⟩
    simp [nxI, effI, effP] at hm
    simp [hm]
  · refine ⟨by rcases ho with rfl | rfl | rfl <;> simp [effI, effP] <;> omega, fun t e hm => ?_⟩
    rcases ho with rfl | rfl | rfl
    all_goals
      simp [nxI, effI, effP, goB, keepB] at hm
      rcases hm with ⟨rfl, rfl⟩ | ⟨rfl, rfl⟩
      · exact .inl ⟨1, rfl, by simp, by rw [hl], fun h => absurd h (by omega)⟩
      · exact .inr (by simp)

/-- parts that flow, one behind the other -/
def GL : Int → List (List In) → List Int → Prop
  | _, [], [] => True
  | b, x :: r, d :: ds => GE NoX b x d ∧ GL (b + d) r ds
  | _, _, _ => False
theorem ge_all : ∀ {ps : List (List In)} {ds : List Int} {b : Int}, GL b ps ds → GE NoX b (allC ps) ds.sum
  | [], [], b, _ => ge_nil b
  | x :: r, d :: ds, b, h => by
    rw [allC, List.sum_cons]
    exact ge_join0 h.1 (ge_all h.2)
  | [], _ :: _, _, h => h.elim
  | _ :: _, [], _, h => h.elim
/-- by how much a part changes -/
def dH (k : Int) (i : Nat) : Int := (if wantD k i = 1 then 1 else 0) + (if k = 7 then -1 else if k = 16 ∧ i = 0 then 1 else 0)
def dK (k : Int) : List Nd → Nat → List Int
  | [], _ => []
  | _ :: r, i => dH k i :: dK k r (i + 1)
theorem dH_nonneg (k : Int) (i : Nat) : 0 ≤ dH k i := by
  unfold dH
  by_cases h : k = 7
  · subst h; simp [wantD]
  · rw [if_neg h]
    repeat' split
    all_goals decide
theorem ge_hook {k : Int} {s : ByteArray} {ns : List ByteArray} {i : Nat} {c : Cs} {b : Int} (h1 : k = 7 → 1 ≤ b) (hb : 0 ≤ b) : GE NoX (b + (if wantD k i = 1 then 1 else 0)) (hookC k s ns i c).1 (if k = 7 then -1 else if k = 16 ∧ i = 0 then 1 else 0) := by
  unfold hookC
  by_cases h7 : k = 7
  · subst h7
    rw [if_pos rfl, if_pos rfl]
    have := h1 rfl
    refine ge_one rfl ?_ ?_
    · simp [siteC, effI, effP, wantD]; omega
    · simp [siteC, effI, effP]
  · rw [if_neg h7, if_neg h7]
    by_cases h16 : k = 16 ∧ i = 0
    · rw [if_pos h16, if_pos h16]
      obtain ⟨rfl, rfl⟩ := h16
      refine ge_one rfl ?_ ?_
      · simp [siteC, effI, effP, wantD]; omega
      · simp [siteC, effI, effP]
    · rw [if_neg h16, if_neg h16]; exact ge_nil _
theorem ge_cK {bb : Bds} {k : Int} {s : ByteArray} : ∀ (ks : List Nd) (ns : List ByteArray) (i : Nat) (c : Cs) (b : Int), rightDL bb ks k i = true →
    (∀ x ∈ ks, ∀ a, rightD bb x a = true → ∀ c, GE NoX 0 (cN x c).1 (if a = 1 then 1 else 0)) → (k = 7 → 1 ≤ b) → 0 ≤ b → GL b (cK k s ns ks i c).1 (dK k ks i)
  | [], ns, i, c, b, _, _, _, _ => by rw [cK, dK]; trivial
  | x :: r, ns, i, c, b, hr, ih, h7, hb => by
    rw [rightDL, Bool.and_eq_true] at hr
    rw [cK, dK]
    have hd := dH_nonneg k i
    refine ⟨?_, ge_cK r ns.tail (i + 1) _ (b + dH k i) hr.2 (fun y hy => ih y (by simp [hy])) (fun h => by have := h7 h; omega) (by omega)⟩
    have g := ih x (by simp) (wantD k i) hr.1 c
    exact ge_join0 (ge_base g hb) (ge_hook h7 hb)
theorem dK_sum (k : Int) (h7 : k ≠ 7) (h29 : k ≠ 29) (h28 : k ≠ 28) (h30 : k ≠ 30) : ∀ (ks : List Nd) (i : Nat), (dK k ks i).sum = (ks.length : Int) + if k = 16 ∧ i = 0 ∧ ks ≠ [] then 1 else 0
  | [], i => by simp [dK]
  | x :: r, i => by
    have hw : wantD k i = 1 := by unfold wantD; rw [if_neg (by omega), if_neg h29]
    rw [dK, List.sum_cons, dK_sum k h7 h29 h28 h30 r (i + 1)]
    unfold dH
    rw [hw, if_pos rfl, if_neg h7, if_neg (show ¬ (k = 16 ∧ i + 1 = 0 ∧ r ≠ []) by omega)]
    by_cases hc : k = 16 ∧ i = 0
    · rw [if_pos hc, if_pos ⟨hc.1, hc.2, by simp⟩]; simp; omega
    · rw [if_neg hc, if_neg (fun h => hc ⟨h.1, h.2.1⟩)]; simp; omega
theorem dK_zero (k : Int) (h : k = 7 ∨ k = 29) : ∀ (ks : List Nd) (i : Nat), (dK k ks i).sum = 0
  | [], i => rfl
  | x :: r, i => by
    rw [dK, List.sum_cons, dK_zero k h r (i + 1)]
    unfold dH wantD
    rcases h with rfl | rfl <;> simp
theorem asm_gen {k : Int} (h : k ≠ 11 ∧ k ≠ 12 ∧ k ≠ 30 ∧ k ≠ 28) (ps : List (List In)) (e : List In) : asmC k ps e = joinC (if k = 7 then [(12, 0, 0)] else []) (joinC (allC ps) e) := by
  unfold asmC
  split
  · rw [if_neg (by omega), if_neg h.2.2.1]
  · rw [if_neg h.2.2.2]
  · rfl
theorem cK_len {k : Int} {s : ByteArray} : ∀ (ks : List Nd) (ns : List ByteArray) (i : Nat) (c : Cs), (cK k s ns ks i c).1.length = ks.length
  | [], ns, i, c => by rw [cK]; rfl
  | x :: r, ns, i, c => by rw [cK]; simp [cK_len r]
theorem ge_and {x y : List In} {o : Int} (ho : o = 24 ∨ o = 25) (hx : GE NoX 0 x 1) (hy : GE NoX 0 y 1) : GE NoX 0 (joinC x (joinC [(o, 1 + (y.length : Int), 0)] y)) 1 := by
  have hg := ge_go (b := 1) (δ := -1) (o := o) (a := 1 + (y.length : Int)) (.inr ⟨by omega, rfl, by omega⟩)
  have h2 : GE NoX (0 + 1) (joinC [(o, 1 + (y.length : Int), 0)] y) (-1 + 1) := ge_join hg (ge_base hy (by omega)) (fun t e h => .inr ⟨y.length, by rw [h.1]; simp, Nat.le_refl _, by rw [h.2, if_pos ho, hy.1]; rfl⟩) (fun _ _ h => h.elim)
  exact ge_join0 hx h2
theorem ge_if {x y z : List In} (hx : GE NoX 0 x 1) (hy : GE NoX 0 y 0) (hz : GE NoX 0 z 0) : GE NoX 0 (joinC x (joinC [(23, 2 + (y.length : Int), 0)] (joinC y (joinC [(22, 1 + (z.length : Int), 0)] z)))) 0 := by
  have hj := ge_go (b := 0) (δ := 0) (o := 22) (a := 1 + (z.length : Int)) (.inl ⟨rfl, rfl, by omega⟩)
  have h1 : GE NoX 0 (joinC [(22, 1 + (z.length : Int), 0)] z) (0 + 0) := ge_join hj hz (fun t e h => .inr ⟨z.length, by rw [h.1]; simp, Nat.le_refl _, by rw [h.2, hz.1]; rfl⟩) (fun _ _ h => h.elim)
  have h2 : GE NoX 0 (joinC y (joinC [(22, 1 + (z.length : Int), 0)] z)) (0 + 0) := ge_join0 hy h1
  have hn := ge_go (b := 1) (δ := -1) (o := 23) (a := 2 + (y.length : Int)) (.inr ⟨by omega, rfl, by omega⟩)
  have h3 : GE NoX (0 + 1) (joinC [(23, 2 + (y.length : Int), 0)] (joinC y (joinC [(22, 1 + (z.length : Int), 0)] z))) (-1 + 0) := ge_join hn h2 (fun t e h => .inr ⟨y.length + 1, by rw [h.1]; simp; omega, by rw [join_len, join_len]; simp, by
    rw [h.2, lin_joinR, hy.1, lin_joinL (by simp), linC, lin_zero]; rfl⟩) (fun _ _ h => h.elim)
  exact ge_join0 hx h3
theorem ge_while {x y : List In} (hx : GE NoX 0 x 1) (hy : GE NoX 0 y 0) (ht : TickAt x 0) : GE NoX 0 (joinC x (joinC [(23, 2 + (y.length : Int), 0)] (joinC y [(22, -((x.length : Int) + 1 + (y.length : Int)), 0)]))) 0 := by
  have hj := ge_go (b := 0) (δ := 0) (o := 22) (a := -((x.length : Int) + 1 + (y.length : Int))) (.inl ⟨rfl, rfl, by omega⟩)
  have h1 : GE (fun t e => t = -((x.length : Int) + 1) ∧ e = 0) 0 (joinC y [(22, -((x.length : Int) + 1 + (y.length : Int)), 0)]) (0 + 0) := ge_join hy hj (fun _ _ h => h.elim) (fun t e h => .inl ⟨by rw [h.1]; omega, by rw [h.2]; rfl⟩)
  have hn := ge_go (b := 1) (δ := -1) (o := 23) (a := 2 + (y.length : Int)) (.inr ⟨by omega, rfl, by omega⟩)
  have h2 : GE (fun t e => t = -(x.length : Int) ∧ e = -1) (0 + 1) (joinC [(23, 2 + (y.length : Int), 0)] (joinC y [(22, -((x.length : Int) + 1 + (y.length : Int)), 0)])) (-1 + 0) :=
    ge_join hn h1 (fun t e h => .inr ⟨y.length + 1, by rw [h.1]; simp; omega, by rw [join_len]; simp, by
      rw [h.2, lin_joinR, hy.1, linC, lin_zero]; rfl⟩) (fun t e h => .inl ⟨by rw [h.1]; simp; omega, by rw [h.2]; rfl⟩)
  exact ge_join hx h2 (fun _ _ h => h.elim) (fun t e h => .inr ⟨0, by rw [h.1]; omega, Nat.zero_le _, by rw [h.2, lin_zero]; rfl, tickAt_joinL ht⟩)
theorem tick_first (t : Nd) (c : Cs) : TickAt (cN t c).1 0 := by
  obtain ⟨k, o, n, s, ns, ks, p⟩ := t
  rw [cN]
  exact ⟨(1, 1, 0), rfl, rfl⟩

end Go.Proofs.YtgdbaceehpcgbaaDoor
