/- Shapes do not show: two heaps whose objects are alike but for shapes. -/
import Derived.Test.YtoajmflbmfnieaaHpText
namespace Go.Proofs.Ytoajmflbmfnieaa
set_option linter.unusedSimpArgs false
open Go.RowKit

def core (x : Ob) : Nat × List Ent × Nat := (x.pr, x.l, x.ep)
structure Alike (H G : He) : Prop where
  most : H.most = G.most
  props : H.props = G.props
  os : H.os.map core = G.os.map core
theorem Alike.len {H G : He} (h : Alike H G) : H.os.length = G.os.length := by
  have := congrArg List.length h.os
  simpa using this
theorem Alike.get {H G : He} (h : Alike H G) (o : Int) : (getO H o).map core = (getO G o).map core := by
  unfold getO
  split
  · rw [← List.getElem?_map, ← List.getElem?_map, h.os]
  · rfl
theorem Alike.cases {H G : He} (h : Alike H G) (o : Int) : (getO H o = none ∧ getO G o = none) ∨ ∃ x y, getO H o = some x ∧ getO G o = some y ∧ x.pr = y.pr ∧ x.l = y.l ∧ x.ep = y.ep := by
  have e := h.get o
  cases hx : getO H o with
  | none =>
    rw [hx] at e
    cases hy : getO G o with
    | none => exact .inl ⟨rfl, rfl⟩
    | some y => rw [hy] at e; cases e
  | some x =>
    rw [hx] at e
    cases hy : getO G o with
    | none => rw [hy] at e; cases e
    | some y =>
      rw [hy] at e
      have e2 : core x = core y := by simpa using e
      unfold core at e2
      injection e2 with a b
      injection b with b c
      exact .inr ⟨x, y, rfl, rfl, a, b, c⟩
theorem Alike.proto {H G : He} (h : Alike H G) (o : Int) : protoH H o = protoH G o := by
  unfold protoH
  rcases h.cases o with ⟨a, b⟩ | ⟨x, y, a, b, c, _⟩
  · rw [a, b]
  · rw [a, b]; exact c
theorem Alike.own {H G : He} (h : Alike H G) (o : Int) (s : ByteArray) : ownH H o s = ownH G o s := by
  unfold ownH
  rcases h.cases o with ⟨a, b⟩ | ⟨x, y, a, b, _, c, _⟩
  · rw [a, b]
  · rw [a, b]; dsimp only; rw [c]
theorem Alike.epoch {H G : He} (h : Alike H G) (o : Int) : epochH H o = epochH G o := by
  unfold epochH
  rcases h.cases o with ⟨a, b⟩ | ⟨x, y, a, b, _, _, c⟩
  · rw [a, b]
  · rw [a, b]; exact c
theorem Alike.getF' {H G : He} (h : Alike H G) (s : ByteArray) : ∀ (n : Nat) (o : Int), getF H s n o = getF G s n o
  | 0, _ => rfl
  | n + 1, o => by
    show (match ownH H o s with | some v => v | none => getF H s n (protoH H o)) = (match ownH G o s with | some v => v | none => getF G s n (protoH G o))
    rw [h.own o s, h.proto o, h.getF' s n]
theorem Alike.got {H G : He} (h : Alike H G) (o : Int) (s : ByteArray) : gotH H o s = gotH G o s := by
  unfold gotH
  rw [h.len]
  exact h.getF' s _ o
theorem Alike.onC' {H G : He} (h : Alike H G) (q : Int) : ∀ (n : Nat) (o : Int), onC H q n o = onC G q n o
  | 0, _ => rfl
  | n + 1, o => by
    show (if o < 1 then false else if o = q then true else onC H q n (protoH H o)) = (if o < 1 then false else if o = q then true else onC G q n (protoH G o))
    rw [h.proto o, h.onC' q n]
theorem Alike.none {H G : He} (h : Alike H G) (o : Int) : (getO H o = none) = (getO G o = none) := by
  rcases h.cases o with ⟨a, b⟩ | ⟨x, y, a, b, _⟩
  · rw [a, b]
  · rw [a, b]; simp
theorem alike_put {H G : He} (h : Alike H G) (i : Nat) {x y : Ob} (hc : core x = core y) : Alike (putI H i x) (putI G i y) :=
  ⟨h.most, h.props, by unfold putI; simp only [List.map_set, hc, h.os]⟩
theorem alike_next {H G : He} (h : Alike H G) (a b : Int) (s : ByteArray) : Alike (nextH H a s) (nextH G b s) := by
  have e1 : (nextH H a s).most = H.most ∧ (nextH H a s).props = H.props ∧ (nextH H a s).os = H.os := by unfold nextH; split <;> exact ⟨rfl, rfl, rfl⟩
  have e2 : (nextH G b s).most = G.most ∧ (nextH G b s).props = G.props ∧ (nextH G b s).os = G.os := by unfold nextH; split <;> exact ⟨rfl, rfl, rfl⟩
  exact ⟨by rw [e1.1, e2.1]; exact h.most, by rw [e1.2.1, e2.2.1]; exact h.props, by rw [e1.2.2, e2.2.2]; exact h.os⟩
theorem alike_new (a b j k : Int) : Alike (newH a b j) (newH a b k) := ⟨rfl, rfl, rfl⟩
theorem alike_make {H G : He} (h : Alike H G) : makeN H = makeN G ∧ makeE H = makeE G ∧ Alike (makeH H) (makeH G) := by
  unfold makeN makeE makeH
  rw [h.most, h.len]
  refine ⟨rfl, rfl, ?_⟩
  split
  · exact h
  · exact ⟨rfl, h.props, by simp only [List.map_append, h.os]; rfl⟩
theorem alike_set {H G : He} (h : Alike H G) (o : Int) (s : ByteArray) (v : Vl) : setE H o s = setE G o s ∧ Alike (setH H o s v) (setH G o s v) := by
  unfold setE setH
  rcases h.cases o with ⟨a, b⟩ | ⟨x, y, a, b, c1, c2, c3⟩
  · rw [a, b]; exact ⟨rfl, h⟩
  · obtain ⟨i, rfl, _⟩ := getO_some a
    rw [a, b]
    dsimp only
    rw [c2, h.props, putO_succ, putO_succ, putO_succ, putO_succ]
    refine ⟨rfl, ?_⟩
    split
    · exact alike_put h i (by unfold core; dsimp only; rw [c1, c3])
    · split
      · exact h
      · exact alike_put (alike_next h _ _ s) i (by unfold core; dsimp only; rw [c1, c3])
theorem alike_del {H G : He} (h : Alike H G) (o : Int) (s : ByteArray) : Alike (delH H o s) (delH G o s) := by
  unfold delH
  rcases h.cases o with ⟨a, b⟩ | ⟨x, y, a, b, c1, c2, c3⟩
  · rw [a, b]; exact h
  · obtain ⟨i, rfl, _⟩ := getO_some a
    rw [a, b]
    dsimp only
    rw [c2, putO_succ, putO_succ]
    split
    · exact alike_put h i (by unfold core; dsimp only; rw [c1, c3])
    · exact h
theorem alike_proto {H G : He} (h : Alike H G) (o p : Int) : protoE H o p = protoE G o p ∧ Alike (protoS H o p) (protoS G o p) := by
  unfold protoE protoS
  have hon : onC H o (H.os.length + 1) p = onC G o (G.os.length + 1) p := by rw [h.len]; exact h.onC' o _ p
  rcases h.cases o with ⟨a, b⟩ | ⟨x, y, a, b, c1, c2, c3⟩
  · rw [a, b]; exact ⟨rfl, h⟩
  · obtain ⟨i, rfl, _⟩ := getO_some a
    rw [a, b]
    dsimp only
    rw [hon]
    simp only [h.none p]
    refine ⟨trivial, ?_⟩
    rw [putO_succ, putO_succ, putO_succ, putO_succ]
    split
    · exact h
    · split
      · exact h
      · split
        · split
          · exact alike_put h i (by unfold core; dsimp only; rw [c2, c3])
          · exact ⟨h.most, h.props, (alike_put (x := { x with pr := p.toNat, ep := x.ep + 1 }) (y := { y with pr := p.toNat, ep := y.ep + 1, sh := (moveP G.M G.L y.sh p).1 }) h i (by unfold core; dsimp only; rw [c2, c3])).os⟩
        · split
          · exact ⟨h.most, h.props, (alike_put (x := { x with pr := p.toNat, ep := x.ep + 1, sh := (moveP H.M H.L x.sh p).1 }) (y := { y with pr := p.toNat, ep := y.ep + 1 }) h i (by unfold core; dsimp only; rw [c2, c3])).os⟩
          · exact ⟨h.most, h.props, (alike_put (x := { x with pr := p.toNat, ep := x.ep + 1, sh := (moveP H.M H.L x.sh p).1 }) (y := { y with pr := p.toNat, ep := y.ep + 1, sh := (moveP G.M G.L y.sh p).1 }) h i (by unfold core; dsimp only; rw [c2, c3])).os⟩
theorem dump_core : ∀ (l m : List Ob) (k : Nat), l.map core = m.map core → dumpL k l = dumpL k m
  | [], [], _, _ => rfl
  | [], _ :: _, _, h => by simp at h
  | _ :: _, [], _, h => by simp at h
  | x :: l, y :: m, k, h => by
    simp only [List.map_cons, List.cons.injEq] at h
    have e := h.1
    unfold core at e
    injection e with a b
    injection b with b c
    rw [dumpL, dumpL, dump_core l m (k + 1) h.2]
    unfold obT
    rw [a, b]
theorem Alike.dump {H G : He} (h : Alike H G) : dumpT H = dumpT G := dump_core _ _ _ h.os

end Go.Proofs.Ytoajmflbmfnieaa
