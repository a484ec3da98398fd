/- Objects of one shape (plain). -/
import Derived.Test.YtemidicgipebjaaGreatHpWf3
import Derived.Test.YtemidicgipebjaaGreatHpObj
namespace Go.Proofs.YtemidicgipebjaaGreat
set_option linter.unusedSimpArgs false

theorem shape_facts {K : Nat} {H : He} (W : WfH K H) {o : Int} (h0 : shapeH H o ≠ 0) {i : Nat} (hi : i < countH H o) :
    ∃ nm v, keyH H o (i : Int) = some nm ∧ slotH H o (i : Int) = some v ∧ ownH H o nm = some v ∧ slotofH H (shapeH H o : Int) nm = (i : Int) ∧ nm.size ≤ 1000000 := by
  cases hg : getO H o with
  | none => exact absurd (show shapeH H o = 0 by unfold shapeH; rw [hg]) h0
  | some x =>
    have wo := W.at' hg
    have es : shapeH H o = x.sh := by unfold shapeH; rw [hg]
    have ec : countH H o = x.l.length := by unfold countH; rw [hg]
    rw [ec] at hi
    rw [es] at h0
    obtain ⟨⟨s, v⟩, hl⟩ : ∃ e, x.l[i]? = some e := ⟨x.l[i], List.getElem?_eq_getElem hi⟩
    refine ⟨s, v, ?_, ?_, ?_, ?_, (wo.ok.2 _ (List.mem_of_getElem? hl))⟩
    · unfold keyH; rw [hg]; exact keyL_at hl
    · unfold slotH; rw [hg]; dsimp only; rw [if_neg h0]
      unfold slotL
      rw [if_pos (by omega)]
      simp [hl]
    · unfold ownH; rw [hg]; exact look_at wo.ok.1 hl
    · rw [es]
      unfold slotofH
      rcases slot_of W.wfs W.nd W.nums wo h0 s with ⟨k, u, h1, h2, _⟩ | ⟨_, h2⟩
      · rw [h1]
        have : k = i := by
          have hk : k < x.l.length := by
            rcases Nat.lt_or_ge k x.l.length with h | h
            · exact h
            · rw [List.getElem?_eq_none h] at h2; cases h2
          have e0 : (x.l.map (·.1))[k]? = (x.l.map (·.1))[i]? := by
            rw [List.getElem?_map, List.getElem?_map, h2, hl]
            rfl
          exact (List.getElem?_inj (by simpa using hk) wo.ok.1).1 e0
        rw [this]
      · rw [look_at wo.ok.1 hl] at h2
        cases h2
theorem shape_two {K : Nat} {H : He} (W : WfH K H) {a b : Int} (h : shapeH H a = shapeH H b) (h0 : shapeH H a ≠ 0) :
    countH H a = countH H b ∧ protoH H a = protoH H b ∧ ∀ i, keyH H a i = keyH H b i := by
  cases ha : getO H a with
  | none => exact absurd (show shapeH H a = 0 by unfold shapeH; rw [ha]) h0
  | some x =>
    cases hb : getO H b with
    | none => exact absurd (show shapeH H a = 0 by rw [h]; unfold shapeH; rw [hb]) h0
    | some y =>
      have ex : shapeH H a = x.sh := by unfold shapeH; rw [ha]
      have ey : shapeH H b = y.sh := by unfold shapeH; rw [hb]
      have e : x.sh = y.sh := by rw [← ex, ← ey, h]
      rw [ex] at h0
      obtain ⟨n1, g1, l1⟩ := (W.at' ha).sh h0
      obtain ⟨n2, g2, l2⟩ := (W.at' hb).sh (e ▸ h0)
      rw [e, g2] at g1
      injection g1 with g1
      injection g1 with g3 g4
      have el : x.l.map (·.1) = y.l.map (·.1) := by rw [l1, l2, g4]
      have eln : x.l.length = y.l.length := by simpa using congrArg List.length el
      refine ⟨?_, ?_, fun i => ?_⟩
      · unfold countH; rw [ha, hb]; exact eln
      · unfold protoH; rw [ha, hb]; show x.pr = y.pr; omega
      · unfold keyH; rw [ha, hb]
        show keyL x.l i = keyL y.l i
        unfold keyL
        split
        · rw [← List.getElem?_map, ← List.getElem?_map, el]
        · rfl

end Go.Proofs.YtemidicgipebjaaGreat
