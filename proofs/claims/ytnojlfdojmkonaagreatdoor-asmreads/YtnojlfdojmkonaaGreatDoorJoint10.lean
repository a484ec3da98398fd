/- A program that may be can be written, and comes back. Are two programs one: the program's word. -/
import Derived.Test.YtnojlfdojmkonaaGreatDoorAsRead
import Derived.Test.YtnojlfdojmkonaaGreatDoorJoint2
import Derived.Test.YtnojlfdojmkonaaGreatDoorJoint7
import Derived.Lib.Strings
namespace Go.Proofs.YtnojlfdojmkonaaGreatDoor
set_option linter.unusedVariables false
open Go.RowKit

theorem prt_site {o : Int} (h : 1 ≤ o ∧ o ≤ 32) : (siteB o = true ↔ prtN o = 2) := by
  have : ∀ i : Fin 33, siteB (i.val : Int) = true ↔ prtN (i.val : Int) = 2 := by decide
  have := this ⟨o.toNat, by omega⟩
  rwa [show ((⟨o.toNat, by omega⟩ : Fin 33).val : Int) = o by simp; omega] at this
theorem span_prt {G P C l n o : Int} (h : 1 ≤ o ∧ o ≤ 32) (hp : prtN o = 0) : spanP G P C l n o = (0, 0) := by
  have ho : o = 2 ∨ o = 6 ∨ o = 12 ∨ o = 16 ∨ o = 17 ∨ o = 19 ∨ o = 30 ∨ o = 31 ∨ o = 32 := by
    unfold prtN at hp
    split at hp
    · assumption
    · split at hp <;> cases hp
  rcases ho with rfl | rfl | rfl | rfl | rfl | rfl | rfl | rfl | rfl <;> simp [spanP]
theorem span_rng {G P C l n o : Int} (hG : G ≤ 24) (hP : P ≤ 120) (hC : C ≤ 32) (hl : l ≤ 24) (hn : n ≤ 4000) : -4611686018427387904 ≤ (spanP G P C l n o).1 ∧ (spanP G P C l n o).2 ≤ 4611686018427387903 := by
  have key : ∀ (p : Prop) [Decidable p] (a b : Int × Int), (-4611686018427387904 ≤ a.1 ∧ a.2 ≤ 4611686018427387903) → (-4611686018427387904 ≤ b.1 ∧ b.2 ≤ 4611686018427387903) → (-4611686018427387904 ≤ (if p then a else b).1 ∧ (if p then a else b).2 ≤ 4611686018427387903) := by
    intro p _ a b h1 h2
    split <;> assumption
  unfold spanP
  repeat (refine key _ _ _ ⟨by simp, by simp; try omega⟩ ?_)
  exact ⟨by simp, by simp⟩
theorem okX_of {G P C l s n : Int} {x : In} (hG : G ≤ 24) (hP : P ≤ 120) (hC : C ≤ 32) (hl : l ≤ 24) (hs : s ≤ 4000) (hn : n ≤ 4000) (h : rightI G P C l s n x.1 x.2.1 x.2.2 = true) : okX x := by
  unfold rightI at h
  rw [Bool.and_eq_true, Bool.and_eq_true] at h
  obtain ⟨h1, h2, h3⟩ := h
  have h1 := inZ_iff.1 h1
  have h2 := inZ_iff.1 h2
  have hr := span_rng (o := x.1) hG hP hC hl hn
  have ha : rngP x.2.1 := ⟨by omega, by omega⟩
  have h0 : prtN x.1 ≠ 2 → x.2.2 = 0 := fun hp => by
    rw [if_neg (fun hh => hp ((prt_site h1).1 hh))] at h3
    exact beq_iff_eq.1 h3
  refine ⟨h1, fun hp => ?_, fun hp => ⟨h0 (by omega), ha⟩, fun hp => ⟨ha, ?_⟩⟩
  · rw [span_prt h1 hp] at h2
    simp only at h2
    exact ⟨by omega, h0 (by omega)⟩
  · rw [if_pos ((prt_site h1).2 hp)] at h3
    have := inZ_iff.1 h3
    exact ⟨by omega, by omega⟩
theorem okAll_mem {G P C : Int} {c : Cd} : ∀ {r : List In} {k : Nat}, okAll G P C c k r = true → ∀ x ∈ r, rightI G P C c.l c.s c.ins.length x.1 x.2.1 x.2.2 = true
  | [], _, _, x, hx => by cases hx
  | y :: r, k, h, x, hx => by
    unfold okAll at h
    rw [Bool.and_eq_true] at h
    rcases List.mem_cons.1 hx with rfl | hx
    · unfold okI at h
      rw [Bool.and_eq_true] at h
      exact h.1.1
    · exact okAll_mem h.2 x hx
theorem okCd_of {G P C : Int} {c : Cd} (hG : G ≤ 24) (hP : P ≤ 120) (hC : C ≤ 32) (h : rightC G P C c = true) : okCd c := by
  unfold rightC at h
  simp only [Bool.and_eq_true] at h
  obtain ⟨h1, h2, h3, h4, h5, h6⟩ := h
  have h1 := inZ_iff.1 h1
  have h2 := inZ_iff.1 h2
  have h3 := inZ_iff.1 h3
  have h4 := inZ_iff.1 h4
  have h5 := inZ_iff.1 h5
  exact ⟨⟨by omega, by omega⟩, ⟨by omega, by omega⟩, ⟨by omega, by omega⟩, ⟨by omega, by omega⟩, fun x hx => okX_of hG hP hC h2.2 h3.2 h5.2 (okAll_mem h6 x hx)⟩
/-- a program that may be comes back from its text -/
theorem read_right {P : Pg} (hs : sizesB P = true) (hc : ∀ c ∈ P.codes, rightC P.g P.pool.length P.codes.length c = true) : readL (txL (pgLP P)) = .got P := by
  unfold sizesB at hs
  simp only [Bool.and_eq_true, decide_eq_true_eq] at hs
  obtain ⟨h1, h2, h3, h4, h5⟩ := hs
  have h1 := inZ_iff.1 h1
  have h2 := inZ_iff.1 h2
  refine read_back ⟨⟨by omega, by omega⟩, fun c hm => okCd_of h1.2 (by omega) (by omega) (hc c hm)⟩ ?_
  intro e
  rw [e] at h2
  simp at h2

end Go.Proofs.YtnojlfdojmkonaaGreatDoor

namespace Go.Proofs.YtnojlfdojmkonaaGreatDoor
set_option linter.unusedSimpArgs false
set_option linter.unusedVariables false
set_option maxRecDepth 100000
open Go.RowKit

def SameOut (Q : Prop) (e : Ending) : Prop := ∃ r, e = .returned (.bool r) ∧ (r = true ↔ Q)
theorem rows_no {α : Type} {xs ys : List α} {i : Nat} {x y : α} (hx : xs[i]? = some x) (hy : ys[i]? = some y) (h : x ≠ y) : xs ≠ ys := fun e => by
  rw [e, hy] at hx
  exact h (Option.some.inj hx).symm
theorem rows_is {α : Type} {xs ys : List α} (hl : xs.length = ys.length) (h : ∀ (k : Nat) x y, k < xs.length → xs[k]? = some x → ys[k]? = some y → x = y) : xs = ys := List.ext_getElem hl fun k h1 h2 => h k _ _ h1 (List.getElem?_eq_getElem h1) (List.getElem?_eq_getElem h2)
theorem bytes_ne {x y : ByteArray} (h : x ≠ y) : (x.toList != y.toList) = true := by
  rw [bne_iff_ne, Lib.toList_data, Lib.toList_data]
  intro e
  exact h (ByteArray.ext (Array.ext' e))
theorem two_box (w : World) (T U : TypeId) (cs ds : Array Value) : Blk w.heap.size T cs ((w.alloc (.cells cs T)).alloc (.cells ds U)) ∧ Blk (w.heap.size + 1) U ds ((w.alloc (.cells cs T)).alloc (.cells ds U)) ∧ Below w.heap.size w ((w.alloc (.cells cs T)).alloc (.cells ds U)) := by
  have x := blk_new (w.alloc (.cells cs T)) U ds
  rw [World.size_alloc] at x
  exact ⟨blk_on (blk_new w T cs) ((Below.refl _ _).alloc (Nat.le_refl _) _), x, ((Below.refl w.heap.size w).alloc (Nat.le_refl _) _).alloc (by simp) _⟩
theorem cd_eq {p l s d p' l' s' d' : Int} {is js : List In} : ((⟨p, l, s, d, is⟩ : Cd) = ⟨p', l', s', d', js⟩) ↔ (p == p') = true ∧ (l == l') = true ∧ (s == s') = true ∧ (d == d') = true ∧ is = js := by
  simp
theorem pg_eq {G G' : Int} {ss ss' : List ByteArray} {cs cs' : List Cd} : ((⟨G, ss, cs⟩ : Pg) = ⟨G', ss', cs'⟩) ↔ (G == G') = true ∧ ss = ss' ∧ cs = cs' := by
  simp
/-- what Same needs to know of a program -/
structure PgS (B : Nat) (w : World) (P : Pg) (pv cv : Value) : Prop where
  pool : PlIn B w pv P.pool
  codes : CdsIn B w cv P.codes
  few : P.pool.length ≤ 1000000 ∧ P.codes.length ≤ 1000000
  ins : ∀ c ∈ P.codes, c.ins.length ≤ 1000000
end Go.Proofs.YtnojlfdojmkonaaGreatDoor
