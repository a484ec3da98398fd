/- Acts that came in, in memory. -/
import Derived.Test.YtemidicgipebjaaGreatHpLaw
namespace Go.Proofs.YtemidicgipebjaaGreat
set_option linter.unusedSimpArgs false
set_option maxRecDepth 100000
open Go.RowKit

def acI (a : AcH) : Prop := a.2.2.2.1.size ≤ maxLen ∧ a.2.2.2.2.2.2.size ≤ maxLen ∧ I64 a.2.2.2.2.2.1
theorem acts_of {l : List (List Value)} (h : ∀ r ∈ l, r.length = 7 ∧ FitsF [.i, .i, .i, .s, .i, .i, .s] r) : ∃ xs : List AcH, l = xs.map acHC ∧ ∀ x ∈ xs, acI x := by
  apply rows_map
  intro r hr
  obtain ⟨hl, hf0⟩ := h r hr
  obtain ⟨_, c0, rfl, ⟨y0, rfl, q0⟩, hf1⟩ := fits_cons hf0
  obtain ⟨_, c1, rfl, ⟨y1, rfl, q1⟩, hf2⟩ := fits_cons hf1
  obtain ⟨_, c2, rfl, ⟨y2, rfl, q2⟩, hf3⟩ := fits_cons hf2
  obtain ⟨_, c3, rfl, ⟨y3, rfl, q3⟩, hf4⟩ := fits_cons hf3
  obtain ⟨_, c4, rfl, ⟨y4, rfl, q4⟩, hf5⟩ := fits_cons hf4
  obtain ⟨_, c5, rfl, ⟨y5, rfl, q5⟩, hf6⟩ := fits_cons hf5
  obtain ⟨_, c6, rfl, ⟨y6, rfl, q6⟩, hf7⟩ := fits_cons hf6
  have e : c6 = [] := List.length_eq_zero_iff.1 (by simpa using hl)
  subst e
  exact ⟨(y0, y1, y2, y3, y4, y5, y6), rfl, q3, q6, q5⟩
theorem acts_shape {v : Value} {xs : List AcH} {w : World} (h : RowsArg 7 v (xs.map acHC) w) : ∃ ao cap, v = .slice ao xs.length cap := by
  rcases h with ⟨ao, cap, rfl, h⟩ | ⟨b, off, cap, rfl, _⟩
  · have : xs = [] := by simpa using h
    subst this
    exact ⟨ao, cap, rfl⟩
  · exact ⟨_, cap, by rw [List.length_map]⟩
theorem act_at {ao : Option Addr} {cap j : Nat} {xs : List AcH} {w : World} (h : RowsArg 7 (.slice ao xs.length cap) (xs.map acHC) w) {a : AcH} (hj : xs[j]? = some a) :
    ∃ b off, ao = some ⟨b, off, none⟩ ∧ b < w.heap.size ∧ w.cell? ⟨b, off + j * 7, none⟩ = some (.int .i64 a.1) ∧ w.cell? ⟨b, off + j * 7 + 1, none⟩ = some (.int .i64 a.2.1) ∧ w.cell? ⟨b, off + j * 7 + 2, none⟩ = some (.int .i64 a.2.2.1) ∧ w.cell? ⟨b, off + j * 7 + 3, none⟩ = some (.string a.2.2.2.1) ∧
      w.cell? ⟨b, off + j * 7 + 4, none⟩ = some (.int .i64 a.2.2.2.2.1) ∧ w.cell? ⟨b, off + j * 7 + 5, none⟩ = some (.int .i64 a.2.2.2.2.2.1) ∧ w.cell? ⟨b, off + j * 7 + 6, none⟩ = some (.string a.2.2.2.2.2.2) := by
  rcases h with ⟨ao', cap', he, h⟩ | ⟨b, off, cap', he, hb, hr⟩
  · have : xs = [] := by simpa using h
    subst this
    simp at hj
  · injection he with he1
    subst he1
    have hm : (xs.map acHC)[j]? = some (acHC a) := by simp [hj]
    exact ⟨b, off, rfl, hb, hr j _ hm 0 _ rfl, hr j _ hm 1 _ rfl, hr j _ hm 2 _ rfl, hr j _ hm 3 _ rfl, hr j _ hm 4 _ rfl, hr j _ hm 5 _ rfl, hr j _ hm 6 _ rfl⟩
theorem not_longH {a : AcH} (h : longH a = false) : a.2.2.2.1.size ≤ 300 ∧ a.2.2.2.2.2.2.size ≤ 300 := by
  unfold longH at h
  rw [Bool.or_eq_false_iff, decide_eq_false_iff_not, decide_eq_false_iff_not] at h
  omega

end Go.Proofs.YtemidicgipebjaaGreat
