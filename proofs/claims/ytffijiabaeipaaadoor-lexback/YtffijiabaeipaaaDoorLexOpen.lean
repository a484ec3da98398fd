/- An argument that is a slice of tokens, opened. -/
import Derived.Test.YtffijiabaeipaaaDoorLexArg
import Derived.ProofKit
import Derived.OpenShut
import Derived.Deep.Slices
import Derived.Carry
import Derived.KernelRfl
namespace Go.Proofs.YtffijiabaeipaaaDoor
open Go.ChangeShapes Go.WideShapes Go.ChangeAt Go.RowKit Go.Deep

theorem laidOutP : laidOutB Tryd.prog = true := by kernel_rfl

theorem open_toks {H : Type} {enc : TypeId × Value → H} {W : World} {b0 : Nat} {r : Reach} {v : Value} {d : DataW H} {p : List MemPlace}
    (hv : Value.okWide Tryd.prog W r b0 23 v) (h : DataW.Trod enc Tryd.prog W 0 (fun _ => true) true 23 v d p) :
    ∃ l : List Tok, TokArg v l W ∧ Hid (∀ t ∈ l, -9223372036854775808 ≤ t.num ∧ t.num ≤ 9223372036854775807) := by
  obtain ⟨a0, len, cap, rfl⟩ := okWide_slice Tryd.underlying23 hv
  obtain ⟨fuel, hf⟩ := h
  have ce : Tryd.prog.cellsOf 36 = 4 := by kernel_rfl
  rcases open_slice Tryd.underlying23 hf with ⟨hcs, _⟩ | ⟨a, len', cap', m, n, D, Pl, hcs, _, hl, hm, hmm, _, hx⟩
  · simp [Value.cells] at hcs
    obtain ⟨rfl, rfl, rfl⟩ := hcs
    exact ⟨[], .inl ⟨none, 0, rfl, rfl⟩, fun t h => by cases h⟩
  · simp [Value.cells] at hcs
    obtain ⟨rfl, rfl, rfl⟩ := hcs
    simp only [if_true] at hmm
    have each : ∀ i, i < len → ∃ t : Tok, (W.cell? (a.add (i * 4)) = some (.int .i64 t.kind) ∧ W.cell? (a.add (i * 4 + 1)) = some (.string t.text) ∧ W.cell? (a.add (i * 4 + 2)) = some (.int .i64 t.num) ∧ W.cell? (a.add (i * 4 + 3)) = some (.int .i64 t.pl)) ∧
        -9223372036854775808 ≤ t.num ∧ t.num ≤ 9223372036854775807 := by
      intro i hi
      obtain ⟨cs', h1, h2⟩ := hx i (by omega)
      rw [ce] at h1
      obtain ⟨_, hlen, hcell⟩ := World.cells?_some h1
      obtain ⟨xs, k, hk, hxy, _, hxl, hf⟩ := DataW.trod_struct Tryd.underlying36 h2
      match cs', hlen with
      | [v0, v1, v2, v3], _ =>
        have e0 := hcell 0 (by omega)
        have e1 := hcell 1 (by omega)
        have e2 := hcell 2 (by omega)
        have e3 := hcell 3 (by omega)
        rw [add_add] at e0 e1 e2 e3
        have ci : Tryd.prog.cellsOf 3 = 1 := by kernel_rfl
        have cst : Tryd.prog.cellsOf 9 = 1 := by kernel_rfl
        have g0 := hf 0 _ rfl
        have g1 := hf 1 _ rfl
        have g2 := hf 2 _ rfl
        have g3 := hf 3 _ rfl
        simp [ci, cst] at g0 g1 g2 g3
        match xs, hxl with
        | [y0, y1, y2, y3], _ =>
          simp at g0 g1 g2 g3
          obtain ⟨q0, r0, _, wf0⟩ := DataW.trod_int Tryd.underlying3 g0
          obtain ⟨q1, r1, _, wf1⟩ := DataW.trod_string Tryd.underlying9 g1
          obtain ⟨q2, r2, _, wf2⟩ := DataW.trod_int Tryd.underlying3 g2
          obtain ⟨q3, r3, _, wf3⟩ := DataW.trod_int Tryd.underlying3 g3
          simp at r0 r1 r2 r3
          subst r0 r1 r2 r3
          have bd := bounds_i64 wf2
          exact ⟨⟨q0, q1, q2, q3⟩, ⟨by simpa using e0, by simpa using e1, by simpa using e2, by simpa using e3⟩, bd.1, bd.2⟩
    obtain ⟨f, hf'⟩ := @choose_lt Tok ⟨Tok.zero⟩ _ _ each
    refine ⟨(List.range len).map f, ?_, ?_⟩
    · by_cases h0 : len = 0
      · subst h0
        exact .inl ⟨_, _, rfl, rfl⟩
      · obtain ⟨b, off, spot⟩ := a
        have hc0 := (hf' 0 (by omega)).1.1
        have hspot : spot = none := by simpa [Addr.add] using World.cell?_spot hc0
        subst hspot
        have ap : ∀ j, (⟨b, off, none⟩ : Addr).add j = ⟨b, off + j, none⟩ := fun j => by unfold Addr.add; split <;> simp_all
        refine .inr ⟨b, off, cap, by simp, ?_, ?_⟩
        · rw [ap] at hc0
          rcases Nat.lt_or_ge b W.heap.size with h | h
          · exact h
          · simp [World.cell?, Array.getElem?_eq_none h] at hc0
        · intro i hi
          have hi' : i < len := by simpa using hi
          have hc := (hf' i hi').1
          simp only [ap] at hc
          simpa [Nat.add_assoc] using hc
    · intro t ht
      obtain ⟨i, hi, rfl⟩ := List.mem_map.1 ht
      exact (hf' i (List.mem_range.1 hi)).2

end Go.Proofs.YtffijiabaeipaaaDoor
