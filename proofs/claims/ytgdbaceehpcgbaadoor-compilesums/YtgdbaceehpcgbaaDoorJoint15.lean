/- What the listed variable, the table of signs, gives the walks; and that the start lays it so. Arguments that are codes and programs, opened. -/
import Derived.Test.YtgdbaceehpcgbaaDoorJoint14
import Derived.Test.YtgdbaceehpcgbaaDoorRows
import Derived.ProofKit
import Derived.LaidMore
import Derived.OpenShut
import Derived.Stop.Joined
import Derived.KernelRfl
import Derived.Test.YtgdbaceehpcgbaaDoorJoint5
import Derived.Deep.Slices
import Derived.Deep.Strs
import Derived.Carry
namespace Go.Proofs.YtgdbaceehpcgbaaDoor
open Go.ChangeShapes Go.WideShapes Go.ChangeAt Go.RowKit

def laidS : List (String × DataW Unit) := [("proteus/tree.signs", Rows.laid_proteus_tree_signs)]
theorem gSigns : Tryd.prog.globalNamed "proteus/tree.signs" = some 0 := by kernel_rfl
theorem tSigns : (Tryd.prog.globals[0]?).map (·.type) = some 129 := by kernel_rfl

set_option maxRecDepth 100000 in
theorem door_met (os : Os) (args : Array Value) : laidMetH Tryd.prog laidS ((World.doorLaid Tryd.prog 14 os).forCall (fun _ _ => 0) ⟨#[], args, []⟩).memory :=
  laidMetH_of_parts3 (fuel := 8) (laidMet_of_run' 8 (by kernel_rfl) (by kernel_rfl)) (by kernel_rfl) (by kernel_rfl)

set_option maxRecDepth 100000 in
theorem of_laid {W : World} (h : laidMetH Tryd.prog laidS W) : 0 < W.heap.size ∧ Texts 0 tsgnL W := by
  rw [MakeChecks.laidMetH_plain _ _ _ (by kernel_rfl)] at h
  obtain ⟨ps, ⟨g0, t0, cs0, f0, p0, q0, hg0, ht0, hv0, hd0, _, _⟩, _, _⟩ := h
  obtain rfl := Option.some.inj (gSigns.symm.trans hg0)
  obtain rfl := Option.some.inj (tSigns.symm.trans ht0)
  obtain ⟨xs, m1, rfl, hx1, hlen, hn3, hel⟩ := DataW.trod_array Tryd.underlying129 hd0
  have c9 : Tryd.prog.cellsOf 9 = 1 := by kernel_rfl
  have hmap : xs.map (·.1) = tsgnL.map fun l => .lit (.string l) := by
    simp only [Prod.mk.injEq] at hx1
    have h1 : (DataW.agg (tsgnL.map fun l => .lit (.string l)) : DataW Unit) = .agg (xs.map (·.1)) := hx1.1
    injection h1 with h2
    exact h2.symm
  have h12 : tsgnL.length = 12 := rfl
  have hT : Texts 0 tsgnL W := by
    intro i hi
    have h1 := hel i (by omega)
    have hxl : i < xs.length := by omega
    rw [List.getElem?_eq_getElem hxl, c9, Nat.mul_one] at h1
    obtain ⟨s, e1, e2, _⟩ := DataW.trod_string Tryd.underlying9 h1
    have h2 : (xs.map (·.1))[i]? = (tsgnL.map fun l => (DataW.lit (.string l) : DataW Unit))[i]? := by rw [hmap]
    rw [List.getElem?_map, List.getElem?_map, List.getElem?_eq_getElem hxl, List.getElem?_eq_getElem hi, Option.map_some, Option.map_some, e2] at h2
    have h3 : s.data.toList = tsgnL[i] := by simpa using h2
    rw [World.var?_cell hg0 hv0 i, ← h3]
    have h4 : cs0.toList[i]? = some (.string s) := by
      have := congrArg (fun l => l[0]?) e1
      simpa [List.getElem?_take, List.getElem?_drop] using this
    simpa using h4
  refine ⟨?_, hT⟩
  rcases Nat.eq_zero_or_pos W.heap.size with h | h
  · have := hT 0 (by omega)
    simp [World.cell?, Array.getElem?_eq_none (show W.heap.size ≤ 0 by omega)] at this
  · exact h

end Go.Proofs.YtgdbaceehpcgbaaDoor

namespace Go.Proofs.YtgdbaceehpcgbaaDoor
open Go.ChangeShapes Go.WideShapes Go.ChangeAt Go.RowKit Go.Deep
set_option maxRecDepth 100000
set_option linter.unusedVariables false

theorem laidOutC : laidOutB Tryd.prog = true := by kernel_rfl
theorem ccell_lt {w : World} {b o : Nat} {v : Value} (h : w.cell? ⟨b, o, none⟩ = some v) : b < w.heap.size := by
  rcases Nat.lt_or_ge b w.heap.size with h' | h'
  · exact h'
  · simp [World.cell?, Array.getElem?_eq_none h'] at h
/-- a slice that came in, element by element -/
theorem open_row {H : Type} {enc : TypeId × Value → H} {W : World} {fuel : Nat} {v : Value} {y : DataW H × List MemPlace} {α : Type} (a0 : α) {sT eT : TypeId} {z : Nat} (hu : Tryd.prog.underlying sT = some (.slice eT)) (hz : Tryd.prog.cellsOf eT = z) (hz0 : 0 < z) (R : α → List Value → Prop)
    (hR : ∀ a cs, R a cs → cs.length = z) (each : ∀ fuel cs x, DataW.trod enc Tryd.prog W 0 (fun _ => true) true fuel eT cs = some x → ∃ a, R a cs) (h : DataW.trod enc Tryd.prog W 0 (fun _ => true) true fuel sT [v] = some y) :
    ∃ xs : List α, (∃ ao cap, v = .slice ao 0 cap ∧ xs = []) ∨ ∃ b off cap, v = .slice (some ⟨b, off, none⟩) xs.length cap ∧ b < W.heap.size ∧ ∀ (i : Nat) a, xs[i]? = some a → ∃ cs, R a cs ∧ ∀ j, j < z → W.cell? ⟨b, off + i * z + j, none⟩ = cs[j]? := by
  rcases DataW.trod_slice hu h with ⟨hcs, _⟩ | ⟨a, len, cap, elems, rest, n, hn, hcs, _, _, hl, _, hel, hall, _, _⟩
  · simp at hcs
    exact ⟨[], .inl ⟨none, 0, hcs, rfl⟩⟩
  · simp at hcs
    have each' : ∀ i, i < len → ∃ x : α, ∃ cs, R x cs ∧ ∀ j, j < z → W.cell? (a.add (i * z + j)) = cs[j]? := by
      intro i hi
      have h1 := hall i hi
      rw [List.getElem?_eq_getElem (by omega)] at h1
      obtain ⟨cs', h2, h3⟩ := Option.bind_eq_some_iff.1 h1
      rw [hz] at h2
      obtain ⟨_, _, hcell⟩ := World.cells?_some h2
      obtain ⟨x, hx⟩ := each _ _ _ h3
      refine ⟨x, cs', hx, fun j hj => ?_⟩
      have := hcell j (by have := hR x cs' hx; omega)
      rw [add_add] at this
      rw [this]
      try simp
    obtain ⟨f, hf'⟩ := @choose_lt α ⟨a0⟩ _ _ each'
    refine ⟨(List.range len).map f, ?_⟩
    by_cases h0 : len = 0
    · subst h0
      exact .inl ⟨some a, cap, hcs, rfl⟩
    · obtain ⟨b, off, spot⟩ := a
      obtain ⟨cs, hc, hc0⟩ := hf' 0 (by omega)
      have h00 := hc0 0 hz0
      rw [List.getElem?_eq_getElem (by have := hR _ _ hc; omega)] at h00
      have hspot : spot = none := by simpa [Addr.add] using World.cell?_spot h00
      subst hspot
      have ap : ∀ j, (⟨b, off, none⟩ : Addr).add j = ⟨b, off + j, none⟩ := fun j => by unfold Addr.add; split <;> simp_all
      rw [ap] at h00
      refine .inr ⟨b, off, cap, by simpa using hcs, ccell_lt h00, fun i g hi => ?_⟩
      obtain ⟨hi', rfl⟩ : i < len ∧ f i = g := by
        rw [List.getElem?_map] at hi
        by_cases hlt : i < len
        · rw [List.getElem?_range hlt] at hi
          exact ⟨hlt, by simpa using hi⟩
        · rw [List.getElem?_eq_none (by simpa using hlt)] at hi
          cases hi
      obtain ⟨cs, k0, k1⟩ := hf' i hi'
      refine ⟨cs, k0, fun j hj => ?_⟩
      have := k1 j hj
      rw [ap] at this
      rw [← this, Nat.add_assoc]
theorem open_instr {H : Type} {enc : TypeId × Value → H} {W : World} {fuel : Nat} {cs : List Value} {x : DataW H × List MemPlace}
    (h : DataW.trod enc Tryd.prog W 0 (fun _ => true) true fuel 51 cs = some x) : ∃ y : In, cs = [.int .i64 y.1, .int .i64 y.2.1, .int .i64 y.2.2] := by
  obtain ⟨xs, k, hk, _, hlen, hxl, hf⟩ := DataW.trod_struct Tryd.underlying51 h
  rw [show Tryd.prog.cellsOf 51 = 3 by kernel_rfl] at hlen
  match cs, hlen with
  | [v0, v1, v2], _ =>
    have ci : Tryd.prog.cellsOf 3 = 1 := by kernel_rfl
    have g0 := hf 0 _ rfl
    have g1 := hf 1 _ rfl
    have g2 := hf 2 _ rfl
    simp [ci] at g0 g1 g2
    match xs, hxl with
    | [y0, y1, y2], _ =>
      simp at g0 g1 g2
      obtain ⟨i0, r0, _, _⟩ := DataW.trod_int Tryd.underlying3 g0
      obtain ⟨i1, r1, _, _⟩ := DataW.trod_int Tryd.underlying3 g1
      obtain ⟨i2, r2, _, _⟩ := DataW.trod_int Tryd.underlying3 g2
      simp at r0 r1 r2
      subst r0 r1 r2
      exact ⟨(i0, i1, i2), rfl⟩
theorem open_instrs {H : Type} {enc : TypeId × Value → H} {W : World} {fuel : Nat} {v : Value} {y : DataW H × List MemPlace}
    (h : DataW.trod enc Tryd.prog W 0 (fun _ => true) true fuel 39 [v] = some y) : ∃ is : List In, InsIn W.heap.size W v is := by
  obtain ⟨is, hs⟩ := open_row (α := In) (0, 0, 0) Tryd.underlying39 (show Tryd.prog.cellsOf 51 = 3 by kernel_rfl) (by decide) (fun y cs => cs = [.int .i64 y.1, .int .i64 y.2.1, .int .i64 y.2.2]) (fun a cs h => by rw [h]; rfl) (fun fuel cs x h => open_instr h) h
  refine ⟨is, ?_⟩
  rcases hs with h1 | ⟨b, off, cap, h1, h2, h3⟩
  · exact .inl h1
  · refine .inr ⟨b, off, cap, h1, h2, fun i x hi => ?_⟩
    obtain ⟨cs, rfl, hc⟩ := h3 i x hi
    exact ⟨hc 0 (by decide), hc 1 (by decide), hc 2 (by decide)⟩
theorem open_ccells {H : Type} {enc : TypeId × Value → H} {W : World} {fuel : Nat} {cs : List Value} {x : DataW H × List MemPlace}
    (h : DataW.trod enc Tryd.prog W 0 (fun _ => true) true fuel 41 cs = some x) : ∃ (c : Cd) (iv : Value), cs = [.int .i64 c.p, .int .i64 c.l, .int .i64 c.s, .int .i64 c.d, iv] ∧ InsIn W.heap.size W iv c.ins := by
  obtain ⟨xs, k, hk, _, hlen, hxl, hf⟩ := DataW.trod_struct Tryd.underlying41 h
  rw [show Tryd.prog.cellsOf 41 = 5 by kernel_rfl] at hlen
  match cs, hlen with
  | [v0, v1, v2, v3, v4], _ =>
    have ci : Tryd.prog.cellsOf 3 = 1 := by kernel_rfl
    have csk : Tryd.prog.cellsOf 39 = 1 := by kernel_rfl
    have g0 := hf 0 _ rfl
    have g1 := hf 1 _ rfl
    have g2 := hf 2 _ rfl
    have g3 := hf 3 _ rfl
    have g4 := hf 4 _ rfl
    simp [ci, csk] at g0 g1 g2 g3 g4
    match xs, hxl with
    | [y0, y1, y2, y3, y4], _ =>
      simp at g0 g1 g2 g3 g4
      obtain ⟨i0, r0, _, _⟩ := DataW.trod_int Tryd.underlying3 g0
      obtain ⟨i1, r1, _, _⟩ := DataW.trod_int Tryd.underlying3 g1
      obtain ⟨i2, r2, _, _⟩ := DataW.trod_int Tryd.underlying3 g2
      obtain ⟨i3, r3, _, _⟩ := DataW.trod_int Tryd.underlying3 g3
      simp at r0 r1 r2 r3
      subst r0 r1 r2 r3
      obtain ⟨is, his⟩ := open_instrs g4
      exact ⟨⟨i0, i1, i2, i3, is⟩, v4, rfl, his⟩
theorem open_codes {H : Type} {enc : TypeId × Value → H} {W : World} {fuel : Nat} {v : Value} {y : DataW H × List MemPlace}
    (h : DataW.trod enc Tryd.prog W 0 (fun _ => true) true fuel 28 [v] = some y) : ∃ cs : List Cd, CdsIn W.heap.size W v cs := by
  obtain ⟨is, hs⟩ := open_row (α := Cd) ⟨0, 0, 0, 0, []⟩ Tryd.underlying28 (show Tryd.prog.cellsOf 41 = 5 by kernel_rfl) (by decide) (fun c cs => ∃ iv, cs = [.int .i64 c.p, .int .i64 c.l, .int .i64 c.s, .int .i64 c.d, iv] ∧ InsIn W.heap.size W iv c.ins) (fun a cs ⟨iv, h, _⟩ => by rw [h]; rfl) (fun fuel cs x h => by
    obtain ⟨c, iv, h1, h2⟩ := open_ccells h
    exact ⟨c, iv, h1, h2⟩) h
  refine ⟨is, ?_⟩
  rcases hs with h1 | ⟨b, off, cap, h1, h2, h3⟩
  · exact .inl h1
  · refine .inr ⟨b, off, cap, h1, h2, fun i x hi => ?_⟩
    obtain ⟨cs, ⟨iv, rfl, hin⟩, hc⟩ := h3 i x hi
    exact ⟨iv, hc 0 (by decide), hc 1 (by decide), hc 2 (by decide), hc 3 (by decide), hc 4 (by decide), hin⟩
theorem open_pool {H : Type} {enc : TypeId × Value → H} {W : World} {fuel : Nat} {v : Value} {y : DataW H × List MemPlace}
    (h : DataW.trod enc Tryd.prog W 0 (fun _ => true) true fuel 27 [v] = some y) : ∃ ss : List ByteArray, PlIn W.heap.size W v ss ∧ ∀ s ∈ ss, s.size ≤ maxLen := by
  obtain ⟨is, hs⟩ := open_row (α := ByteArray) ⟨#[]⟩ Tryd.underlying27 (show Tryd.prog.cellsOf 9 = 1 by kernel_rfl) (by decide) (fun s cs => cs = [.string s] ∧ s.size ≤ maxLen) (fun a cs h => by rw [h.1]; rfl) (fun fuel cs x h => by
    obtain ⟨s, h1, _, h2⟩ := DataW.trod_string Tryd.underlying9 h
    exact ⟨s, h1, h2⟩) h
  rcases hs with h1 | ⟨b, off, cap, h1, h2, h3⟩
  · refine ⟨is, .inl h1, ?_⟩
    obtain ⟨_, _, _, rfl⟩ := h1
    exact fun s hs => by simp at hs
  · refine ⟨is, .inr ⟨b, off, cap, h1, h2, fun i x hi => ?_⟩, fun s hs => ?_⟩
    · obtain ⟨cs, ⟨rfl, hin⟩, hc⟩ := h3 i x hi
      have := hc 0 (by decide)
      simpa using this
    · obtain ⟨i, hi⟩ := List.getElem?_of_mem hs
      obtain ⟨cs, ⟨_, h⟩, _⟩ := h3 i s hi
      exact h
theorem open_pcells {H : Type} {enc : TypeId × Value → H} {W : World} {fuel : Nat} {cs : List Value} {x : DataW H × List MemPlace}
    (h : DataW.trod enc Tryd.prog W 0 (fun _ => true) true fuel 30 cs = some x) : ∃ (G : Int) (pv cv : Value) (ss : List ByteArray) (ks : List Cd), cs = [.int .i64 G, pv, cv] ∧ (PlIn W.heap.size W pv ss ∧ ∀ s ∈ ss, s.size ≤ maxLen) ∧ CdsIn W.heap.size W cv ks := by
  obtain ⟨xs, k, hk, _, hlen, hxl, hf⟩ := DataW.trod_struct Tryd.underlying30 h
  rw [show Tryd.prog.cellsOf 30 = 3 by kernel_rfl] at hlen
  match cs, hlen with
  | [v0, v1, v2], _ =>
    have ci : Tryd.prog.cellsOf 3 = 1 := by kernel_rfl
    have cp : Tryd.prog.cellsOf 27 = 1 := by kernel_rfl
    have cc : Tryd.prog.cellsOf 28 = 1 := by kernel_rfl
    have g0 := hf 0 _ rfl
    have g1 := hf 1 _ rfl
    have g2 := hf 2 _ rfl
    simp [ci, cp, cc] at g0 g1 g2
    match xs, hxl with
    | [y0, y1, y2], _ =>
      simp at g0 g1 g2
      obtain ⟨i0, r0, _, _⟩ := DataW.trod_int Tryd.underlying3 g0
      simp at r0
      subst r0
      obtain ⟨ss, hss⟩ := open_pool g1
      obtain ⟨ks, hks⟩ := open_codes g2
      exact ⟨i0, v1, v2, ss, ks, rfl, hss, hks⟩
theorem open_code {H : Type} {enc : TypeId × Value → H} {W : World} {b0 : Nat} {r : Reach} {v : Value} {d : DataW H} {p : List MemPlace}
    (hv : Value.okWide Tryd.prog W r b0 41 v) (h : DataW.Trod enc Tryd.prog W 0 (fun _ => true) true 41 v d p) :
    ∃ (c : Cd) (iv : Value), v = .agg #[.int .i64 c.p, .int .i64 c.l, .int .i64 c.s, .int .i64 c.d, iv] ∧ Hid (InsIn W.heap.size W iv c.ins) := by
  obtain ⟨cs, rfl, _⟩ := okWide_struct Tryd.underlying41 hv
  obtain ⟨fuel, hf⟩ := h
  obtain ⟨c, iv, e, hin⟩ := open_ccells hf
  refine ⟨c, iv, ?_, hin⟩
  have : cs.toList = [.int .i64 c.p, .int .i64 c.l, .int .i64 c.s, .int .i64 c.d, iv] := by simpa [Value.cells] using e
  have h2 : cs = (cs.toList).toArray := by simp
  rw [h2, this]
theorem open_prog {H : Type} {enc : TypeId × Value → H} {W : World} {b0 : Nat} {r : Reach} {v : Value} {d : DataW H} {p : List MemPlace}
    (hv : Value.okWide Tryd.prog W r b0 30 v) (h : DataW.Trod enc Tryd.prog W 0 (fun _ => true) true 30 v d p) :
    ∃ (G : Int) (pv cv : Value) (ss : List ByteArray) (ks : List Cd), v = .agg #[.int .i64 G, pv, cv] ∧ Hid ((PlIn W.heap.size W pv ss ∧ ∀ s ∈ ss, s.size ≤ maxLen) ∧ CdsIn W.heap.size W cv ks) := by
  obtain ⟨cs, rfl, _⟩ := okWide_struct Tryd.underlying30 hv
  obtain ⟨fuel, hf⟩ := h
  obtain ⟨G, pv, cv, ss, ks, e, hin⟩ := open_pcells hf
  refine ⟨G, pv, cv, ss, ks, ?_, hin⟩
  have : cs.toList = [.int .i64 G, pv, cv] := by simpa [Value.cells] using e
  have h2 : cs = (cs.toList).toArray := by simp
  rw [h2, this]

end Go.Proofs.YtgdbaceehpcgbaaDoor
