/- What comes of right nodes: each instruction may be. What comes of nodes: sites in their order, each string once, and each used. -/
import Derived.Test.YtgdbaceehpcgbaaDoorJoint11
import Derived.Test.YtgdbaceehpcgbaaDoorJoint12
namespace Go.Proofs.YtgdbaceehpcgbaaDoor
open Go.RowKit

/-- an instruction may be, wherever it goes: among so many strings and sites -/
def AI (G P C l S : Int) (x : In) : Prop := (1 ≤ x.1 ∧ x.1 ≤ 32) ∧ (goB x.1 = false → (spanP G P C l 0 x.1).1 ≤ x.2.1 ∧ x.2.1 ≤ (spanP G P C l 0 x.1).2) ∧ (if siteB x.1 = true then 0 ≤ x.2.2 ∧ x.2.2 ≤ S - 1 else x.2.2 = 0)
def AIs (G C l : Int) (c : Cs) (is : List In) : Prop := ∀ x ∈ is, AI G c.1.length C l c.2 x
/-- more strings and sites -/
def LeC (c d : Cs) : Prop := c.1.length ≤ d.1.length ∧ c.2 ≤ d.2
theorem LeC.refl (c : Cs) : LeC c c := ⟨Nat.le_refl _, Int.le_refl _⟩
theorem LeC.trans {a b c : Cs} (h : LeC a b) (k : LeC b c) : LeC a c := ⟨Nat.le_trans h.1 k.1, Int.le_trans h.2 k.2⟩
theorem span_mono {G P Q C l o : Int} (h : P ≤ Q) : (spanP G Q C l 0 o).1 = (spanP G P C l 0 o).1 ∧ (spanP G P C l 0 o).2 ≤ (spanP G Q C l 0 o).2 := by
  have key : ∀ (p : Prop) [Decidable p] (a b a' b' : Int × Int), (a'.1 = a.1 ∧ a.2 ≤ a'.2) → (b'.1 = b.1 ∧ b.2 ≤ b'.2) → ((if p then a' else b').1 = (if p then a else b).1 ∧ (if p then a else b).2 ≤ (if p then a' else b').2) := by
    intro p _ a b a' b' h1 h2
    split <;> assumption
  unfold spanP
  repeat (refine key _ _ _ _ _ ⟨rfl, by simp; try omega⟩ ?_)
  exact ⟨rfl, by simp⟩
theorem ai_mono {G C l : Int} {c d : Cs} (h : LeC c d) {x : In} (hx : AI G c.1.length C l c.2 x) : AI G d.1.length C l d.2 x := by
  refine ⟨hx.1, fun hg => ?_, ?_⟩
  · have h1 := hx.2.1 hg
    have h2 := span_mono (G := G) (C := C) (l := l) (o := x.1) (show (c.1.length : Int) ≤ d.1.length by have := h.1; omega)
    omega
  · have h1 := hx.2.2
    split
    · rename_i hs
      rw [if_pos hs] at h1
      have := h.2
      omega
    · rename_i hs
      rwa [if_neg hs] at h1
theorem ai_move {G P C l S d : Int} {x : In} (h : AI G P C l S x) : AI G P C l S (moveI d x) := by
  by_cases hg : goB x.1 = true
  · have h3 : (moveI d x).2.2 = x.2.2 := by unfold moveI; split <;> rfl
    unfold AI
    rw [move_op, h3]
    exact ⟨h.1, (fun h' => by rw [hg] at h'; cases h'), h.2.2⟩
  · rw [move_arg (by simpa using hg)]; exact h
theorem ais_mono {G C l : Int} {c d : Cs} (h : LeC c d) {is : List In} (hx : AIs G C l c is) : AIs G C l d is := fun x hm => ai_mono h (hx x hm)
theorem ais_join {G C l : Int} {c : Cs} {a b : List In} (ha : AIs G C l c a) (hb : AIs G C l c b) : AIs G C l c (joinC a b) := by
  intro x hx
  unfold joinC at hx
  rcases List.mem_append.1 hx with h | h
  · exact ha x h
  · obtain ⟨y, hy, rfl⟩ := List.mem_map.1 h
    exact ai_move (hb y hy)
theorem ais_nil {G C l : Int} {c : Cs} : AIs G C l c [] := fun x hx => by cases hx
theorem ais_one {G C l : Int} {c : Cs} {x : In} (h : AI G c.1.length C l c.2 x) : AIs G C l c [x] := fun y hy => by rw [List.mem_singleton.1 hy]; exact h
theorem ais_all {G C l : Int} {c : Cs} : ∀ {ps : List (List In)}, (∀ p ∈ ps, AIs G C l c p) → AIs G C l c (allC ps)
  | [], _ => ais_nil
  | x :: r, h => ais_join (h x (by simp)) (ais_all fun p hp => h p (by simp [hp]))
theorem ai_goes {G P C l S o a : Int} (h : o = 22 ∨ o = 23 ∨ o = 24 ∨ o = 25) : AI G P C l S (o, a, 0) := by
  rcases h with rfl | rfl | rfl | rfl <;> exact ⟨by simp, fun h => absurd h (by simp [goB]), rfl⟩
theorem ais_asm {G C l : Int} {c : Cs} {k : Int} {ps : List (List In)} {e : List In} (h : ∀ p ∈ ps, AIs G C l c p) (he : AIs G C l c e) : AIs G C l c (asmC k ps e) := by
  have hn : AIs G C l c (joinC (if k = 7 then [(12, 0, 0)] else []) (joinC (allC ps) e)) := by
    refine ais_join ?_ (ais_join (ais_all h) he)
    split
    · exact ais_one ⟨by simp, fun _ => by simp [spanP], rfl⟩
    · exact ais_nil
  unfold asmC
  split
  · rename_i x y
    split
    · exact ais_join (h x (by simp)) (ais_join (ais_one (ai_goes (by omega))) (h y (by simp)))
    · split
      · exact ais_join (h x (by simp)) (ais_join (ais_one (ai_goes (by omega))) (ais_join (h y (by simp)) (ais_one (ai_goes (by omega)))))
      · exact hn
  · rename_i x y z
    split
    · exact ais_join (h x (by simp)) (ais_join (ais_one (ai_goes (by omega))) (ais_join (h y (by simp)) (ais_join (ais_one (ai_goes (by omega))) (h z (by simp)))))
    · exact hn
  · exact hn
theorem pool_lt (L : List ByteArray) (s : ByteArray) : 0 ≤ poolN L s ∧ poolN L s ≤ ((ofT L s).length : Int) - 1 ∧ L.length ≤ (ofT L s).length := by
  unfold poolN numT ofT
  cases h : atT L s with
  | none => simp
  | some i =>
    have := atT_lt h
    simp
    omega
theorem ai_site {G C l : Int} {o : Int} (ho : o = 13 ∨ o = 14 ∨ o = 15 ∨ o = 27) (s : ByteArray) {c : Cs} (hc : 0 ≤ c.2) : LeC c (siteC o s c).2 ∧ AI G (siteC o s c).2.1.length C l (siteC o s c).2.2 (siteC o s c).1 := by
  have h := pool_lt c.1 s
  refine ⟨⟨h.2.2, by simp [siteC]; omega⟩, ?_⟩
  rcases ho with rfl | rfl | rfl | rfl
  all_goals exact ⟨by simp [siteC], fun _ => by simp only [siteC]; simp [spanP]; omega, by show 0 ≤ c.2 ∧ c.2 ≤ c.2 + 1 - 1; omega⟩
theorem ai_text {G C l : Int} {o : Int} (ho : o = 5 ∨ o = 18) (s : ByteArray) {c : Cs} : LeC c (textC o s c).2 ∧ AI G (textC o s c).2.1.length C l (textC o s c).2.2 (textC o s c).1 := by
  have h := pool_lt c.1 s
  refine ⟨⟨h.2.2, Int.le_refl _⟩, ?_⟩
  rcases ho with rfl | rfl
  all_goals exact ⟨by simp [textC], fun _ => by simp only [textC]; simp [spanP]; omega, rfl⟩
theorem ai_hook {G C l k : Int} {s : ByteArray} {ns : List ByteArray} {i : Nat} {c : Cs} (hc : 0 ≤ c.2) : LeC c (hookC k s ns i c).2 ∧ AIs G C l (hookC k s ns i c).2 (hookC k s ns i c).1 := by
  unfold hookC
  split
  · have h := ai_site (G := G) (C := C) (l := l) (o := 13) (by omega) (ns.headD ⟨#[]⟩) hc
    exact ⟨h.1, ais_one h.2⟩
  · split
    · have h := ai_site (G := G) (C := C) (l := l) (o := 27) (by omega) s hc
      exact ⟨h.1, ais_one h.2⟩
    · exact ⟨LeC.refl c, ais_nil⟩
theorem ai_end {G C l k o n : Int} {s : ByteArray} {ml m : Nat} {c : Cs} (hc : 0 ≤ c.2) (hm : manyD k o ml m = true) (ho : opD k o = true) (hn : withB n 0 (mostD (l, G, C) k) = true) :
    LeC c (endC k o n s m c).2 ∧ AIs G C l (endC k o n s m c).2 (endC k o n s m c).1 := by
  have one : ∀ {x : In}, AI G c.1.length C l c.2 x → LeC c c ∧ AIs G C l c [x] := fun h => ⟨LeC.refl c, ais_one h⟩
  have hs : ∀ o', (o' = 13 ∨ o' = 14 ∨ o' = 15 ∨ o' = 27) → LeC c (siteC o' s c).2 ∧ AIs G C l (siteC o' s c).2 [(siteC o' s c).1] := fun o' h => ⟨(ai_site (G := G) (C := C) (l := l) h s hc).1, ais_one (ai_site h s hc).2⟩
  have ht : ∀ o', (o' = 5 ∨ o' = 18) → LeC c (textC o' s c).2 ∧ AIs G C l (textC o' s c).2 [(textC o' s c).1] := fun o' h => ⟨(ai_text (G := G) (C := C) (l := l) h s).1, ais_one (ai_text h s).2⟩
  have none : LeC c c ∧ AIs G C l c [] := ⟨LeC.refl c, ais_nil⟩
  simp [withB] at hn
  rcases kinds_of hm with rfl | rfl | rfl | rfl | rfl | rfl | rfl | rfl | rfl | rfl | rfl | rfl | rfl | rfl | rfl | rfl | rfl | rfl | rfl | rfl | rfl | rfl | rfl | rfl | rfl | rfl | rfl | rfl | rfl | rfl
  all_goals simp [manyD] at hm
  all_goals simp [opD] at ho
  all_goals simp [mostD] at hn
  all_goals simp only [endC]
  all_goals simp (config := { decide := true }) only [if_false, if_true]
  all_goals first
    | exact none
    | exact hs _ (by omega)
    | exact ht _ (by omega)
    | (refine one ⟨by simp, fun _ => by simp [spanP]; try omega, rfl⟩)
mutual
theorem ai_cN {G C l : Int} : ∀ (t : Nd) (a : Nat), rightD (l, G, C) t a = true → ∀ c : Cs, 0 ≤ c.2 → LeC c (cN t c).2 ∧ AIs G C l (cN t c).2 (cN t c).1
  | .mk k o n s ns ks p, a, hr, c, hc => by
    rw [rightD, Bool.and_eq_true, Bool.and_eq_true, Bool.and_eq_true] at hr
    obtain ⟨ha, hm, hf, hk⟩ := hr
    unfold fldD at hf
    rw [Bool.and_eq_true, Bool.and_eq_true] at hf
    have g := ai_cK (G := G) (C := C) (l := l) k s ks ns 0 hk c hc
    have hc2 : 0 ≤ (cK k s ns ks 0 c).2.2 := Int.le_trans hc g.1.2
    have e := ai_end (s := s) hc2 hm hf.2.1 hf.1
    rw [cN]
    refine ⟨g.1.trans e.1, ais_join (ais_one ⟨by simp, fun _ => by simp [spanP], rfl⟩) (ais_asm (fun q hq => ais_mono e.1 (g.2 q hq)) e.2)⟩
theorem ai_cK {G C l : Int} (k : Int) (s : ByteArray) : ∀ (ks : List Nd) (ns : List ByteArray) (i : Nat), rightDL (l, G, C) ks k i = true → ∀ c : Cs, 0 ≤ c.2 → LeC c (cK k s ns ks i c).2 ∧ ∀ q ∈ (cK k s ns ks i c).1, AIs G C l (cK k s ns ks i c).2 q
  | [], ns, i, _, c, hc => by rw [cK]; exact ⟨LeC.refl c, fun q hq => by cases hq⟩
  | x :: r, ns, i, hr, c, hc => by
    rw [rightDL, Bool.and_eq_true] at hr
    have h1 := ai_cN x _ hr.1 c hc
    have hc1 : 0 ≤ (cN x c).2.2 := Int.le_trans hc h1.1.2
    have h2 := ai_hook (G := G) (C := C) (l := l) (k := k) (s := s) (ns := ns) (i := i) hc1
    have hc2 : 0 ≤ (hookC k s ns i (cN x c).2).2.2 := Int.le_trans hc1 h2.1.2
    have h3 := ai_cK k s r ns.tail (i + 1) hr.2 _ hc2
    rw [cK]
    refine ⟨(h1.1.trans h2.1).trans h3.1, fun q hq => ?_⟩
    rcases List.mem_cons.1 hq with rfl | hq
    · exact ais_join (ais_mono (h2.1.trans h3.1) h1.2) (ais_mono h3.1 h2.2)
    · exact h3.2 q hq
end

end Go.Proofs.YtgdbaceehpcgbaaDoor

namespace Go.Proofs.YtgdbaceehpcgbaaDoor
open Go.RowKit

/-- the sites, gone through from a number on -/
def sitG : List In → Int → Option Int
  | [], σ => some σ
  | x :: r, σ => if siteB x.1 = true then (if x.2.2 = σ then sitG r (σ + 1) else none) else sitG r σ
theorem sit_app : ∀ (a b : List In) (σ : Int), sitG (a ++ b) σ = (sitG a σ).bind (sitG b)
  | [], b, σ => rfl
  | x :: r, b, σ => by
    rw [List.cons_append, sitG, sitG, sit_app r b (σ + 1), sit_app r b σ]
    repeat' split
    all_goals rfl
theorem sit_map (d : Int) : ∀ (b : List In) (σ : Int), sitG (b.map (moveI d)) σ = sitG b σ
  | [], σ => rfl
  | x :: r, σ => by
    have h3 : (moveI d x).2.2 = x.2.2 := by unfold moveI; split <;> rfl
    rw [List.map_cons, sitG, sitG, move_op, h3, sit_map d r (σ + 1), sit_map d r σ]
theorem sit_join (a b : List In) (σ : Int) : sitG (joinC a b) σ = (sitG a σ).bind (sitG b) := by
  unfold joinC
  rw [sit_app]
  congr 1
  funext τ
  exact sit_map _ _ _
theorem sit_none {x : In} (h : siteB x.1 = false) (σ : Int) : sitG [x] σ = some σ := by rw [sitG, if_neg (by simp [h])]; rfl
def sitP : List (List In) → Int → Option Int
  | [], σ => some σ
  | x :: r, σ => (sitG x σ).bind (sitP r)
theorem sit_all : ∀ (ps : List (List In)) (σ : Int), sitG (allC ps) σ = sitP ps σ
  | [], σ => rfl
  | x :: r, σ => by rw [allC, sit_join, sitP]; congr 1; funext τ; exact sit_all r τ
theorem bind_some' (x : Option Int) : x.bind some = x := by cases x <;> rfl
theorem sit_asm {k : Int} {e : List In} (he : (k = 11 ∨ k = 12 ∨ k = 30 ∨ k = 28) → e = []) (ps : List (List In)) (σ : Int) : sitG (asmC k ps e) σ = (sitP ps σ).bind (sitG e) := by
  have hn : sitG (joinC (if k = 7 then [(12, 0, 0)] else []) (joinC (allC ps) e)) σ = (sitP ps σ).bind (sitG e) := by
    have h0 : sitG (if k = 7 then [((12 : Int), (0 : Int), (0 : Int))] else []) σ = some σ := by split <;> rfl
    rw [sit_join, h0]
    show sitG (joinC (allC ps) e) σ = _
    rw [sit_join, sit_all]
  unfold asmC
  split
  · rename_i x y
    split
    · rename_i h
      obtain rfl := he (by omega)
      rw [sit_join]
      simp only [sitP]
      rw [show (sitG ([] : List In)) = some from rfl, bind_some']
      congr 1
      funext τ
      rw [sit_join, sit_none (by rcases h with rfl | rfl <;> rfl)]
      exact (bind_some' _).symm
    · split
      · rename_i h
        obtain rfl := he (by omega)
        rw [sit_join]
        simp only [sitP]
        rw [show (sitG ([] : List In)) = some from rfl, bind_some']
        congr 1
        funext τ
        rw [sit_join, sit_none (by rfl)]
        show sitG (joinC y _) τ = _
        rw [sit_join]
        congr 1
      · exact hn
  · rename_i x y z
    split
    · rename_i h
      obtain rfl := he (by omega)
      rw [sit_join]
      simp only [sitP]
      rw [show (sitG ([] : List In)) = some from rfl, bind_some']
      congr 1
      funext τ
      rw [sit_join, sit_none (by rfl)]
      show sitG (joinC y _) τ = _
      rw [sit_join]
      congr 1
      funext τ
      rw [sit_join, sit_none (by rfl)]
      exact (bind_some' _).symm
    · exact hn
  · exact hn
theorem end_special {k o n : Int} {s : ByteArray} {m : Nat} {c : Cs} (h : k = 11 ∨ k = 12 ∨ k = 30 ∨ k = 28) : endC k o n s m c = ([], c) := by rcases h with rfl | rfl | rfl | rfl <;> rfl
theorem sit_site (o : Int) (ho : siteB o = true) (s : ByteArray) (c : Cs) : sitG [(siteC o s c).1] c.2 = some (siteC o s c).2.2 := by
  show (if siteB o = true then (if c.2 = c.2 then sitG [] (c.2 + 1) else none) else _) = _
  rw [if_pos ho, if_pos rfl]; rfl
theorem sit_end (k o n : Int) (s : ByteArray) (m : Nat) (c : Cs) : sitG (endC k o n s m c).1 c.2 = some (endC k o n s m c).2.2 := by
  have key : ∀ (p : Prop) [Decidable p] (a b : List In × Cs), sitG a.1 c.2 = some a.2.2 → sitG b.1 c.2 = some b.2.2 → sitG (if p then a else b).1 c.2 = some (if p then a else b).2.2 := by
    intro p _ a b h1 h2
    split <;> assumption
  unfold endC
  repeat (refine key _ _ _ (by first | rfl | exact sit_site _ rfl _ _) ?_)
  rfl
theorem sit_hook (k : Int) (s : ByteArray) (ns : List ByteArray) (i : Nat) (c : Cs) : sitG (hookC k s ns i c).1 c.2 = some (hookC k s ns i c).2.2 := by
  unfold hookC
  split
  · exact sit_site _ rfl _ _
  · split
    · exact sit_site _ rfl _ _
    · rfl
mutual
theorem sit_cN : ∀ (t : Nd) (c : Cs), sitG (cN t c).1 c.2 = some (cN t c).2.2
  | .mk k o n s ns ks p, c => by
    rw [cN, sit_join, sit_none (by rfl)]
    show sitG (asmC k _ _) c.2 = _
    rw [sit_asm (fun h => by rw [end_special h]), sit_cK k s ks ns 0 c]
    exact sit_end k o n s ks.length _
theorem sit_cK (k : Int) (s : ByteArray) : ∀ (ks : List Nd) (ns : List ByteArray) (i : Nat) (c : Cs), sitP (cK k s ns ks i c).1 c.2 = some (cK k s ns ks i c).2.2
  | [], ns, i, c => by rw [cK]; rfl
  | x :: r, ns, i, c => by
    have h1 := sit_cN x c
    have h2 := sit_hook k s ns i (cN x c).2
    have h3 := sit_cK k s r ns.tail (i + 1) (hookC k s ns i (cN x c).2).2
    rw [cK]
    show (sitG (joinC _ _) c.2).bind (sitP _) = _
    rw [sit_join, h1]
    show (sitG _ (cN x c).2.2).bind _ = _
    rw [h2]
    exact h3
end
theorem sit_body (l : List Nd) (L : List ByteArray) : sitG (bodyC l L).1 0 = some (bodyC l L).2.2 := by
  unfold bodyC
  rw [sit_app, sit_all, sit_cK 29 ⟨#[]⟩ l [] 0 (L, 0)]
  rfl
theorem sit_len : ∀ (is : List In) (σ τ : Int), sitG is σ = some τ → σ ≤ τ ∧ τ ≤ σ + is.length
  | [], σ, τ, h => by cases h; simp
  | x :: r, σ, τ, h => by
    rw [sitG] at h
    split at h
    · split at h
      · have := sit_len r _ _ h; simp; omega
      · cases h
    · have := sit_len r _ _ h; simp; omega

/-- does it name a string? -/
def useB (o : Int) : Bool := siteB o || ((o == 5) || (o == 18))
def Us (is : List In) (i : Int) : Prop := ∃ x ∈ is, useB x.1 = true ∧ x.2.1 = i
theorem use_go {o : Int} (h : useB o = true) : goB o = false := by
  have : o = 13 ∨ o = 14 ∨ o = 15 ∨ o = 27 ∨ o = 5 ∨ o = 18 := by simp [useB, siteB] at h; omega
  rcases this with rfl | rfl | rfl | rfl | rfl | rfl <;> rfl
theorem us_joinL {a b : List In} {i : Int} (h : Us a i) : Us (joinC a b) i := by
  obtain ⟨x, h1, h2⟩ := h
  exact ⟨x, List.mem_append_left _ h1, h2⟩
theorem us_joinR {a b : List In} {i : Int} (h : Us b i) : Us (joinC a b) i := by
  obtain ⟨x, h1, h2, h3⟩ := h
  exact ⟨x, List.mem_append_right _ (List.mem_map.2 ⟨x, h1, move_arg (use_go h2)⟩), h2, h3⟩
theorem us_all : ∀ {ps : List (List In)} {i : Int}, (∃ p ∈ ps, Us p i) → Us (allC ps) i
  | [], i, h => by obtain ⟨p, hp, _⟩ := h; cases hp
  | x :: r, i, h => by
    obtain ⟨p, hp, hu⟩ := h
    rcases List.mem_cons.1 hp with rfl | hp
    · exact us_joinL hu
    · exact us_joinR (us_all ⟨p, hp, hu⟩)
theorem us_asm {k : Int} {e : List In} (he : (k = 11 ∨ k = 12 ∨ k = 30 ∨ k = 28) → e = []) {ps : List (List In)} {i : Int} (h : (∃ p ∈ ps, Us p i) ∨ Us e i) : Us (asmC k ps e) i := by
  have hn : Us (joinC (if k = 7 then [(12, 0, 0)] else []) (joinC (allC ps) e)) i := us_joinR (h.elim (fun h => us_joinL (us_all h)) us_joinR)
  unfold asmC
  split
  · rename_i x y
    split
    · rename_i hk
      obtain rfl := he (by omega)
      rcases h with ⟨p, hp, hu⟩ | ⟨_, hx, _⟩
      · simp at hp
        rcases hp with rfl | rfl
        · exact us_joinL hu
        · exact us_joinR (us_joinR hu)
      · cases hx
    · split
      · rename_i hk
        obtain rfl := he (by omega)
        rcases h with ⟨p, hp, hu⟩ | ⟨_, hx, _⟩
        · simp at hp
          rcases hp with rfl | rfl
          · exact us_joinL hu
          · exact us_joinR (us_joinR (us_joinL hu))
        · cases hx
      · exact hn
  · rename_i x y z
    split
    · rename_i hk
      obtain rfl := he (by omega)
      rcases h with ⟨p, hp, hu⟩ | ⟨_, hx, _⟩
      · simp at hp
        rcases hp with rfl | rfl | rfl
        · exact us_joinL hu
        · exact us_joinR (us_joinR (us_joinL hu))
        · exact us_joinR (us_joinR (us_joinR (us_joinR hu)))
      · cases hx
    · exact hn
  · exact hn
/-- new strings are used, none comes twice -/
def NewC (c d : Cs) (U : Int → Prop) : Prop := (c.1.Nodup → d.1.Nodup) ∧ c.1.length ≤ d.1.length ∧ ∀ i : Nat, c.1.length ≤ i → i < d.1.length → U i
theorem new_refl (c : Cs) (U : Int → Prop) : NewC c c U := ⟨id, Nat.le_refl _, fun i h1 h2 => by omega⟩
theorem new_trans {a b c : Cs} {U V W : Int → Prop} (h : NewC a b U) (k : NewC b c V) (hU : ∀ i, U i → W i) (hV : ∀ i, V i → W i) : NewC a c W :=
  ⟨k.1 ∘ h.1, Nat.le_trans h.2.1 k.2.1, fun i h1 h2 => by
    rcases Nat.lt_or_ge i b.1.length with hi | hi
    · exact hU _ (h.2.2 i h1 hi)
    · exact hV _ (k.2.2 i hi h2)⟩
theorem new_mono {a b : Cs} {U W : Int → Prop} (h : NewC a b U) (hU : ∀ i, U i → W i) : NewC a b W := ⟨h.1, h.2.1, fun i h1 h2 => hU _ (h.2.2 i h1 h2)⟩
theorem new_of (L : List ByteArray) (s : ByteArray) : (L.Nodup → (ofT L s).Nodup) ∧ L.length ≤ (ofT L s).length ∧ ∀ i : Nat, L.length ≤ i → i < (ofT L s).length → poolN L s = i := by
  unfold ofT poolN numT
  cases h : atT L s with
  | some j => exact ⟨id, Nat.le_refl _, fun i h1 h2 => by simp at h2; omega⟩
  | none =>
    refine ⟨fun hn => ?_, by simp, fun i h1 h2 => by simp at h2 ⊢; omega⟩
    show (L ++ [s]).Nodup
    rw [List.nodup_append]
    refine ⟨hn, by simp, fun a ha b hb => ?_⟩
    rw [List.mem_singleton.1 hb]
    exact atT_no h a ha
theorem new_site {o : Int} (ho : siteB o = true) (s : ByteArray) (c : Cs) : NewC c (siteC o s c).2 (Us [(siteC o s c).1]) := by
  have h := new_of c.1 s
  exact ⟨h.1, h.2.1, fun i h1 h2 => ⟨_, List.mem_singleton.2 rfl, by simp [siteC, useB, ho], h.2.2 i h1 h2⟩⟩
theorem new_text {o : Int} (ho : o = 5 ∨ o = 18) (s : ByteArray) (c : Cs) : NewC c (textC o s c).2 (Us [(textC o s c).1]) := by
  have h := new_of c.1 s
  exact ⟨h.1, h.2.1, fun i h1 h2 => ⟨_, List.mem_singleton.2 rfl, by simp [textC, useB]; omega, h.2.2 i h1 h2⟩⟩
theorem new_end (k o n : Int) (s : ByteArray) (m : Nat) (c : Cs) : NewC c (endC k o n s m c).2 (Us (endC k o n s m c).1) := by
  have key : ∀ (p : Prop) [Decidable p] (a b : List In × Cs), NewC c a.2 (Us a.1) → NewC c b.2 (Us b.1) → NewC c (if p then a else b).2 (Us (if p then a else b).1) := by
    intro p _ a b h1 h2
    split <;> assumption
  unfold endC
  repeat (refine key _ _ _ (by first | exact new_site rfl _ _ | exact new_text (by omega) _ _ | exact new_refl _ _) ?_)
  exact new_refl _ _
theorem new_hook (k : Int) (s : ByteArray) (ns : List ByteArray) (i : Nat) (c : Cs) : NewC c (hookC k s ns i c).2 (Us (hookC k s ns i c).1) := by
  unfold hookC
  split
  · exact new_site rfl _ _
  · split
    · exact new_site rfl _ _
    · exact new_refl _ _
mutual
theorem new_cN : ∀ (t : Nd) (c : Cs), NewC c (cN t c).2 (Us (cN t c).1)
  | .mk k o n s ns ks p, c => by
    have h1 := new_cK k s ks ns 0 c
    have h2 := new_end k o n s ks.length (cK k s ns ks 0 c).2
    rw [cN]
    exact new_trans h1 h2 (fun i h => us_joinR (us_asm (fun h => by rw [end_special h]) (.inl h))) (fun i h => us_joinR (us_asm (fun h => by rw [end_special h]) (.inr h)))
theorem new_cK (k : Int) (s : ByteArray) : ∀ (ks : List Nd) (ns : List ByteArray) (i : Nat) (c : Cs), NewC c (cK k s ns ks i c).2 (fun j => ∃ q ∈ (cK k s ns ks i c).1, Us q j)
  | [], ns, i, c => by rw [cK]; exact new_refl _ _
  | x :: r, ns, i, c => by
    have h1 := new_cN x c
    have h2 := new_hook k s ns i (cN x c).2
    have h3 := new_cK k s r ns.tail (i + 1) (hookC k s ns i (cN x c).2).2
    rw [cK]
    exact new_trans (new_trans h1 h2 (fun _ h => us_joinL h) (fun _ h => us_joinR h) (W := Us (joinC (cN x c).1 (hookC k s ns i (cN x c).2).1))) h3 (fun j h => ⟨_, List.mem_cons_self, h⟩) (fun j h => by obtain ⟨q, hq, hu⟩ := h; exact ⟨q, List.mem_cons_of_mem _ hq, hu⟩)
end
theorem new_body (l : List Nd) (L : List ByteArray) : NewC (L, 0) (bodyC l L).2 (Us (bodyC l L).1) := by
  have h := new_cK 29 ⟨#[]⟩ l [] 0 (L, 0)
  unfold bodyC
  refine new_mono h fun i hi => ?_
  obtain ⟨x, hx, h2⟩ := us_all hi
  exact ⟨x, List.mem_append_left _ hx, h2⟩

end Go.Proofs.YtgdbaceehpcgbaaDoor
