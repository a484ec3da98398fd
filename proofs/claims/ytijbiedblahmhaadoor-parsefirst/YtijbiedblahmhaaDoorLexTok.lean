/- One token, as the program reads it. -/
import Derived.Test.YtijbiedblahmhaaDoorJoint15
import Derived.Test.YtijbiedblahmhaaDoorTxtTaken
namespace Go.Proofs.YtijbiedblahmhaaDoor
open Go.RowKit

theorem cell_stays {a b : World} (k : Below a.heap.size a b) {p : Addr} (h : p.block < a.heap.size) {v : Value} (c : a.cell? p = some v) : b.cell? p = some v := (k.cell h).trans c
theorem texts_on {g : Nat} {L : List (List UInt8)} {a b : World} (h : Texts g L a) (hg : g < a.heap.size) (k : Below a.heap.size a b) : Texts g L b := fun i hi => cell_stays k hg (h i hi)

theorem ret_t {fn : Func} {t u v : Tmp} (h : fn.results = #[.cell t 41, .tmp u, .tmp v]) {tmps : Array Value} {g : Nat} {w : World} {x y z q : Value} (ht : tmps.getD t undef = .pointer (some ⟨g, 0, none⟩))
    (c : w.cell? ⟨g, 0, none⟩ = some x ∧ w.cell? ⟨g, 1, none⟩ = some y ∧ w.cell? ⟨g, 2, none⟩ = some z ∧ w.cell? ⟨g, 3, none⟩ = some q) :
    (results fn tmps).run Tryd.prog w = .ok (.tuple #[.agg #[x, y, z, q], tmps.getD u undef, tmps.getD v undef]) w := by
  rw [Array.getD_eq_getD_getElem?] at ht
  simp [results, h, ht, go_sem, asAddr, c.1, c.2.1, c.2.2.1, c.2.2.2]
/-- a token's block of the call's own, which may be written -/
def Slot4 (g : Nat) (w : World) : Prop :=
  g < w.heap.size ∧ w.cell? ⟨g, 0, none⟩ = some (.int .i64 0) ∧ w.cell? ⟨g, 1, none⟩ = some (.string ⟨#[]⟩) ∧ w.cell? ⟨g, 2, none⟩ = some (.int .i64 0) ∧ w.cell? ⟨g, 3, none⟩ = some (.int .i64 0) ∧
    w.frozen? ⟨g, 0, none⟩ = false ∧ w.frozen? ⟨g, 1, none⟩ = false ∧ w.frozen? ⟨g, 2, none⟩ = false ∧ w.frozen? ⟨g, 3, none⟩ = false

theorem slot4_on {g : Nat} {a b : World} (h : Slot4 g a) (k : Below a.heap.size a b) : Slot4 g b := by
  obtain ⟨h0, h1, h2, h3, h4, f0, f1, f2, f3⟩ := h
  exact ⟨Nat.lt_of_lt_of_le h0 k.size, cell_stays k h0 h1, cell_stays k h0 h2, cell_stays k h0 h3, cell_stays k h0 h4, (k.frozen (p := ⟨g, 0, none⟩) h0).trans f0, (k.frozen (p := ⟨g, 1, none⟩) h0).trans f1,
    (k.frozen (p := ⟨g, 2, none⟩) h0).trans f2, (k.frozen (p := ⟨g, 3, none⟩) h0).trans f3⟩
theorem slot4_new (w : World) {g : Nat} (hg : g = w.heap.size) (t : TypeId) : Slot4 g (w.alloc (Obj.cells #[.int .i64 0, .string ⟨#[]⟩, .int .i64 0, .int .i64 0] t)) := by
  subst hg
  refine ⟨by simp, by simp, by simp, by simp, by simp, by simp, by simp, by simp, by simp⟩

theorem put4 {B g : Nat} {w w1 : World} (h : Below B w w1) (hg : B ≤ g) (x y z q : Value) :
    Below B w ((((w1.setCell ⟨g, 0, none⟩ x).setCell ⟨g, 1, none⟩ y).setCell ⟨g, 2, none⟩ z).setCell ⟨g, 3, none⟩ q) :=
  (((h.setCell hg _).setCell hg _).setCell hg _).setCell hg _
theorem put4_cells {g : Nat} {w1 : World} (h : Slot4 g w1) (x y z q : Value) :
    ((((w1.setCell ⟨g, 0, none⟩ x).setCell ⟨g, 1, none⟩ y).setCell ⟨g, 2, none⟩ z).setCell ⟨g, 3, none⟩ q).cell? ⟨g, 0, none⟩ = some x ∧
    ((((w1.setCell ⟨g, 0, none⟩ x).setCell ⟨g, 1, none⟩ y).setCell ⟨g, 2, none⟩ z).setCell ⟨g, 3, none⟩ q).cell? ⟨g, 1, none⟩ = some y ∧
    ((((w1.setCell ⟨g, 0, none⟩ x).setCell ⟨g, 1, none⟩ y).setCell ⟨g, 2, none⟩ z).setCell ⟨g, 3, none⟩ q).cell? ⟨g, 2, none⟩ = some z ∧
    ((((w1.setCell ⟨g, 0, none⟩ x).setCell ⟨g, 1, none⟩ y).setCell ⟨g, 2, none⟩ z).setCell ⟨g, 3, none⟩ q).cell? ⟨g, 3, none⟩ = some q := by
  obtain ⟨h0, h1, h2, h3, h4, f0, f1, f2, f3⟩ := h
  refine ⟨?_, ?_, ?_, ?_⟩ <;> simp [go_sem, h1, h2, h3, h4]

theorem cut_bytes (s : ByteArray) (k n : Nat) : s.extract k (k + n) = ⟨((s.data.toList.drop k).take n).toArray⟩ := by
  have h := cut_list s k (k + n)
  rw [Nat.add_sub_cancel_left] at h
  rw [← h]

/-- what a function that reads one token hands back -/
def TokOut.ending (o : TokOut) : Ending := .returned (.tuple #[o.1.val, .int .i64 o.2.1, .int .i64 o.2.2])

set_option maxRecDepth 100000 in
theorem lsign_calls (s : ByteArray) (hs : s.size ≤ 1000000) (k : Nat) (hk : k < s.size) (w : World) (h0 : 0 < w.heap.size) (SG : Hid (Texts 0 sgnL w)) :
    Calls Tryd.prog 28 #[.string s, .int .i64 k] w fun e w' => e = TokOut.ending (sgnOut (s.data.toList.drop k) k) ∧ Below w.heap.size w w' := by
  have b0 := hid ((Below.refl w.heap.size w).alloc (Nat.le_refl _) (.cells #[.int .i64 0, .string ⟨#[]⟩, .int .i64 0, .int .i64 0] 41))
  have SG1 := hid (texts_on SG.out h0 b0.out)
  have S4 := hid (slot4_new w rfl 41)
  clear SG
  have hl : (signL (s.data.toList.drop k)).length ≤ 2 := by
    have : ∀ L : List (List UInt8), (∀ x ∈ L, x.length ≤ 2) → ∀ l, (firstOf L l).length ≤ 2 := by
      intro L
      induction L with
      | nil => intro _ l; simp [firstOf]
      | cons x L ih =>
        intro hx l
        unfold firstOf
        split
        · exact hx x (by simp)
        · exact ih (fun y hy => hx y (by simp [hy])) l
    exact this sgnL (by decide) _
  by_cases hz : signL (s.data.toList.drop k) = []
  · have H := hid (show sgnOut (s.data.toList.drop k) k = (Tok.zero, k, 11) by unfold sgnOut; rw [if_pos hz])
    have Hz := hid hz
    clear hz
    go_enter Tryd.func28, Tryd.ntmps28
    go_wp2_with fail
    refine (longest_calls _ _ SG1).mono ?_
    rintro e w1 ⟨rfl, hw⟩
    rw [hw] at b0 S4
    have ⟨g0, c0, c1, c2, c3, f0, f1, f2, f3⟩ := S4.out
    clear hw SG1
    rw [rest_list, Hz.out]
    go_wp2
    rw [H.out]
    exact bodyPost_ret (ret_t rfl rfl (put4_cells S4.out _ _ _ _)) rfl ⟨rfl, put4 b0.out (Nat.le_refl _) _ _ _ _⟩
  · have H := hid (show sgnOut (s.data.toList.drop k) k = (⟨5, ⟨(signL (s.data.toList.drop k)).toArray⟩, 0, k⟩, k + (signL (s.data.toList.drop k)).length, 0) by unfold sgnOut; rw [if_neg hz])
    have Hz : (signL (s.data.toList.drop k)).isEmpty = false := by
      cases hq : signL (s.data.toList.drop k) with
      | nil => exact absurd hq hz
      | cons => rfl
    clear hz
    go_enter Tryd.func28, Tryd.ntmps28
    go_wp2_with fail
    refine (longest_calls _ _ SG1).mono ?_
    rintro e w1 ⟨rfl, hw⟩
    rw [hw] at b0 S4
    have ⟨g0, c0, c1, c2, c3, f0, f1, f2, f3⟩ := S4.out
    clear hw SG1
    rw [rest_list]
    generalize signL (s.data.toList.drop k) = x at *
    go_wp2
    rw [H.out]
    exact bodyPost_ret (ret_t rfl rfl (put4_cells S4.out _ _ _ _)) rfl ⟨rfl, put4 b0.out (Nat.le_refl _) _ _ _ _⟩

end Go.Proofs.YtijbiedblahmhaaDoor
