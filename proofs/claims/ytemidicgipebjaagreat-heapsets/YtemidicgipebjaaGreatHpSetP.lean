/- What Set leaves of a heap's properties (plain). -/
import Derived.Test.YtemidicgipebjaaGreatHpWf3
namespace Go.Proofs.YtemidicgipebjaaGreat
set_option linter.unusedSimpArgs false

theorem getO_putO {H : He} {o : Int} {y : Ob} (h : getO H o = some y) (x : Ob) (o' : Int) : getO (putO H o x) o' = if o' = o then some x else getO H o' := by
  obtain ⟨i, rfl, hi⟩ := getO_some h
  have hl : i < H.os.length := by
    rcases Nat.lt_or_ge i H.os.length with h1 | h1
    · exact h1
    · rw [List.getElem?_eq_none h1] at hi; cases hi
  unfold getO putO
  by_cases h1 : 1 ≤ o'
  · rw [if_pos h1, if_pos h1]
    have e : (((i + 1 : Nat) : Int) - 1).toNat = i := by omega
    dsimp only
    rw [e, List.getElem?_set]
    by_cases h2 : o' = ((i + 1 : Nat) : Int)
    · rw [if_pos h2, if_pos (by omega), if_pos hl]
    · rw [if_neg h2, if_neg (by omega)]
  · rw [if_neg h1, if_neg h1, if_neg (by omega)]
theorem nextH_os (H : He) (id : Int) (s : ByteArray) : (nextH H id s).os = H.os := by
  unfold nextH
  split <;> rfl
theorem getO_next (H : He) (id : Int) (s : ByteArray) (o : Int) : getO (nextH H id s) o = getO H o := by
  unfold getO
  rw [nextH_os]
theorem look_setL_ne {l : List Ent} {s s' : ByteArray} (v : Vl) (h : s' ≠ s) : look (setL l s v) s' = look l s' := by
  induction l with
  | nil => simp [setL, look, Ne.symm h]
  | cons e r ih =>
    unfold setL
    split
    · rename_i he
      simp only [look, if_neg (Ne.symm h)]
      rw [if_neg (fun x => h (x.symm.trans he))]
    · simp only [look]
      rw [ih]
theorem keyL_setL {l : List Ent} {s : ByteArray} (v : Vl) (i : Nat) (hi : i < l.length) : keyL (setL l s v) (i : Int) = keyL l (i : Int) := by
  unfold keyL
  rw [if_pos (by omega), if_pos (by omega)]
  rw [← List.getElem?_map, ← List.getElem?_map]
  cases hh : hasL l s with
  | true => rw [setL_names v hh]
  | false =>
    rw [setL_new v hh, List.map_append, List.getElem?_append_left (by simpa using hi)]

theorem set_facts (H : He) (o : Int) (s : ByteArray) (v : Vl) :
    (∀ o' s', ¬ (o' = o ∧ s' = s) → ownH (setH H o s v) o' s' = ownH H o' s') ∧ (∀ i : Nat, i < countH H o → keyH (setH H o s v) o (i : Int) = keyH H o (i : Int)) ∧
    (setE H o s ≠ 0 → ownH (setH H o s v) o s = ownH H o s ∧ countH (setH H o s v) o = countH H o) ∧
    (setE H o s = 0 → ownH (setH H o s v) o s = some v ∧ countH (setH H o s v) o = if (ownH H o s).isSome then countH H o else countH H o + 1) := by
  cases hg : getO H o with
  | none =>
    have e : setH H o s v = H := by unfold setH; rw [hg]
    have e2 : setE H o s = 4 := by unfold setE; rw [hg]
    rw [e, e2]
    exact ⟨fun _ _ _ => rfl, fun _ _ => rfl, fun _ => ⟨rfl, rfl⟩, fun h => by cases h⟩
  | some x =>
    have own : ownH H o s = look x.l s := by unfold ownH; rw [hg]
    have cnt : countH H o = x.l.length := by unfold countH; rw [hg]
    have key : ∀ i : Int, keyH H o i = keyL x.l i := fun i => by unfold keyH; rw [hg]
    cases hh : hasL x.l s with
    | true =>
      have e : setH H o s v = putO H o { x with l := setL x.l s v } := by unfold setH; rw [hg]; dsimp only; rw [hh]; rfl
      have e2 : setE H o s = 0 := by unfold setE; rw [hg]; dsimp only; rw [hh]; rfl
      have G : ∀ o', getO (setH H o s v) o' = if o' = o then some { x with l := setL x.l s v } else getO H o' := fun o' => by rw [e]; exact getO_putO hg _ o'
      rw [e2]
      refine ⟨fun o' s' hne => ?_, fun i hi => ?_, fun h => absurd rfl h, fun _ => ⟨?_, ?_⟩⟩
      · unfold ownH
        rw [G]
        by_cases ho : o' = o
        · subst ho
          rw [if_pos rfl, hg]
          exact look_setL_ne v (fun hs => hne ⟨rfl, hs⟩)
        · rw [if_neg ho]
      · rw [cnt] at hi
        rw [key]
        unfold keyH
        rw [G, if_pos rfl]
        exact keyL_setL v i hi
      · unfold ownH
        rw [G, if_pos rfl]
        exact look_setL v
      · rw [own, show (look x.l s).isSome = true from hh, if_pos rfl, cnt]
        unfold countH
        rw [G, if_pos rfl]
        dsimp only
        rw [setL_len, hh, if_pos rfl]
    | false =>
      by_cases hp : H.props ≤ x.l.length
      · have e : setH H o s v = H := by unfold setH; rw [hg]; dsimp only; rw [hh, if_pos hp]; rfl
        have e2 : setE H o s = 42 := by unfold setE; rw [hg]; dsimp only; rw [hh, if_pos hp]; rfl
        rw [e, e2]
        exact ⟨fun _ _ _ => rfl, fun _ _ => rfl, fun _ => ⟨rfl, rfl⟩, fun h => by cases h⟩
      · have e : setH H o s v = putO (nextH H x.sh s) o { x with l := x.l ++ [(s, v)], ep := x.ep + 1, sh := nextN H x.sh s } := by unfold setH; rw [hg]; dsimp only; rw [hh, if_neg hp]; rfl
        have e2 : setE H o s = 0 := by unfold setE; rw [hg]; dsimp only; rw [hh, if_neg hp]; rfl
        have G : ∀ o', getO (setH H o s v) o' = if o' = o then some { x with l := x.l ++ [(s, v)], ep := x.ep + 1, sh := nextN H x.sh s } else getO H o' := fun o' => by
          rw [e, getO_putO (y := x) (by rw [getO_next]; exact hg), getO_next]
        rw [e2]
        have ne : setL x.l s v = x.l ++ [(s, v)] := setL_new v hh
        refine ⟨fun o' s' hne => ?_, fun i hi => ?_, fun h => absurd rfl h, fun _ => ⟨?_, ?_⟩⟩
        · unfold ownH
          rw [G]
          by_cases ho : o' = o
          · subst ho
            rw [if_pos rfl, hg]
            dsimp only
            rw [← ne]
            exact look_setL_ne v (fun hs => hne ⟨rfl, hs⟩)
          · rw [if_neg ho]
        · rw [cnt] at hi
          rw [key]
          unfold keyH
          rw [G, if_pos rfl]
          dsimp only
          rw [← ne]
          exact keyL_setL v i hi
        · unfold ownH
          rw [G, if_pos rfl]
          dsimp only
          rw [← ne]
          exact look_setL v
        · rw [own, show (look x.l s).isSome = false from hh, if_neg (by decide), cnt]
          unfold countH
          rw [G, if_pos rfl]
          simp

end Go.Proofs.YtemidicgipebjaaGreat
