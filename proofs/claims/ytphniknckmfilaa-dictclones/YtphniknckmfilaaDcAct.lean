/- Acts that came in. -/
import Derived.Test.YtphniknckmfilaaDcLong
import Derived.Test.YtphniknckmfilaaOpenFlat
import Derived.Deep.Draws
import Derived.Lib.Strings
namespace Go.Proofs.Ytphniknckmfilaa
set_option linter.unusedSimpArgs false
open Go.RowKit

/-- an act's texts are texts -/
def AcOk (a : Ac) : Prop := a.2.1.size ≤ maxLen ∧ a.2.2.2.2.size ≤ maxLen
theorem acts_of {l : List (List Value)} (h : ∀ r ∈ l, r.length = 5 ∧ Fits [.i, .s, .i, .i, .s] r) : ∃ acts : List Ac, l = acts.map acC ∧ ∀ a ∈ acts, AcOk a := by
  apply rows_map
  intro r hr
  obtain ⟨hl, hf0⟩ := h r hr
  obtain ⟨_, c0, rfl, ⟨y0, rfl, q0⟩, hf1⟩ := fits_cons hf0
  obtain ⟨_, c1, rfl, ⟨y1, rfl, q1⟩, hf2⟩ := fits_cons hf1
  obtain ⟨_, c2, rfl, ⟨y2, rfl, q2⟩, hf3⟩ := fits_cons hf2
  obtain ⟨_, c3, rfl, ⟨y3, rfl, q3⟩, hf4⟩ := fits_cons hf3
  obtain ⟨_, c4, rfl, ⟨y4, rfl, q4⟩, hf5⟩ := fits_cons hf4
  have e : c4 = [] := List.length_eq_zero_iff.1 (by simpa using hl)
  subst e
  exact ⟨(y0, y1, y2, y3, y4), rfl, q1, q4⟩
theorem acts_shape {v : Value} {acts : List Ac} {w : World} (h : RowsArg 5 v (acts.map acC) w) : ∃ ao cap, v = .slice ao acts.length cap := by
  rcases h with ⟨ao, cap, rfl, h⟩ | ⟨b, off, cap, rfl, _⟩
  · have : acts = [] := by simpa using h
    subst this
    exact ⟨ao, cap, rfl⟩
  · exact ⟨_, cap, by rw [List.length_map]⟩
theorem acts_at {ao : Option Addr} {cap j : Nat} {acts : List Ac} {w : World} (h : RowsArg 5 (.slice ao acts.length cap) (acts.map acC) w) {a : Ac} (hj : acts[j]? = some a) :
    ∃ b off, ao = some ⟨b, off, none⟩ ∧ b < w.heap.size ∧ w.cell? ⟨b, off + j * 5, none⟩ = some (.int .i64 a.1) ∧ w.cell? ⟨b, off + j * 5 + 1, none⟩ = some (.string a.2.1) ∧ w.cell? ⟨b, off + j * 5 + 2, none⟩ = some (.int .i64 a.2.2.1) ∧
      w.cell? ⟨b, off + j * 5 + 3, none⟩ = some (.int .i64 a.2.2.2.1) ∧ w.cell? ⟨b, off + j * 5 + 4, none⟩ = some (.string a.2.2.2.2) := by
  rcases h with ⟨ao', cap', he, h⟩ | ⟨b, off, cap', he, hb, hr⟩
  · have : acts = [] := by simpa using h
    subst this
    simp at hj
  · injection he with he1
    subst he1
    have hm : (acts.map acC)[j]? = some (acC a) := by simp [hj]
    exact ⟨b, off, rfl, hb, hr j _ hm 0 _ rfl, hr j _ hm 1 _ rfl, hr j _ hm 2 _ rfl, hr j _ hm 3 _ rfl, hr j _ hm 4 _ rfl⟩
theorem below_drewN {B : Nat} {a w : World} (h : Below B a w) (n : Nat) : Below B a (w.drewN n) := ⟨h.os, h.tape, h.output, h.size, h.block⟩
/-- a text of a row of texts -/
theorem strs_at {lo g cap j : Nat} {l : List ByteArray} {s : ByteArray} {w : World} (h : StrsOwn lo (.slice (some ⟨g, 0, none⟩) l.length cap) l w) (hj : l[j]? = some s) : w.cell? ⟨g, j, none⟩ = some (.string s) :=
  row_cell h.1 (by simp [hj])
theorem strs_form {lo : Nat} {v : Value} {l : List ByteArray} {w : World} (h : StrsOwn lo v l w) (hn : 0 < l.length) : ∃ g cap, v = .slice (some ⟨g, 0, none⟩) l.length cap ∧ g < w.heap.size := by
  obtain ⟨g, cap, e, _, hg⟩ := h.1.form hn
  exact ⟨g, cap, e, hg⟩
theorem toList_ne {s t : ByteArray} (h : s ≠ t) : (s.toList == t.toList) = false := by
  rw [beq_eq_false_iff_ne, Lib.toList_data, Lib.toList_data]
  intro e
  apply h
  cases s; cases t
  simp at e
  rw [e]
/-- an act's cells -/
def ActAt (b i : Nat) (a : Ac) (w : World) : Prop := w.cell? ⟨b, i, none⟩ = some (.int .i64 a.1) ∧ w.cell? ⟨b, i + 1, none⟩ = some (.string a.2.1) ∧ w.cell? ⟨b, i + 2, none⟩ = some (.int .i64 a.2.2.1) ∧
  w.cell? ⟨b, i + 3, none⟩ = some (.int .i64 a.2.2.2.1) ∧ w.cell? ⟨b, i + 4, none⟩ = some (.string a.2.2.2.2)
theorem act_on {B b i : Nat} {a : Ac} {w w' : World} (h : ActAt b i a w) (hb : b < B) (k : Below B w w') : ActAt b i a w' :=
  ⟨(k.cell (p := ⟨b, i, none⟩) hb).trans h.1, (k.cell (p := ⟨b, i + 1, none⟩) hb).trans h.2.1, (k.cell (p := ⟨b, i + 2, none⟩) hb).trans h.2.2.1, (k.cell (p := ⟨b, i + 3, none⟩) hb).trans h.2.2.2.1, (k.cell (p := ⟨b, i + 4, none⟩) hb).trans h.2.2.2.2⟩
theorem not_long {a : Ac} (h : longA a = false) : a.2.1.size ≤ 1000000 ∧ a.2.2.2.2.size ≤ 1000000 := by
  unfold longA at h
  rw [Bool.or_eq_false_iff, decide_eq_false_iff_not, decide_eq_false_iff_not] at h
  omega

end Go.Proofs.Ytphniknckmfilaa
