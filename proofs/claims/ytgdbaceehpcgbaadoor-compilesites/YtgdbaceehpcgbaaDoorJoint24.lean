/- What the listed variable, the table of signs, gives the walks; and that the start lays it so. An argument that is a node, opened. An argument that is a unit, opened. What the statements of stage 15 know of a unit's program. -/
import Derived.Test.YtgdbaceehpcgbaaDoorJoint4
import Derived.Test.YtgdbaceehpcgbaaDoorRows
import Derived.ProofKit
import Derived.LaidMore
import Derived.OpenShut
import Derived.Stop.Joined
import Derived.KernelRfl
import Derived.Test.YtgdbaceehpcgbaaDoorJoint3
import Derived.Deep.Slices
import Derived.Deep.Strs
import Derived.Carry
import Derived.Test.YtgdbaceehpcgbaaDoorJoint8
import Derived.Test.YtgdbaceehpcgbaaDoorCpWork
import Derived.Test.YtgdbaceehpcgbaaDoorJoint5
namespace Go.Proofs.YtgdbaceehpcgbaaDoor
open Go.ChangeShapes Go.WideShapes Go.ChangeAt Go.RowKit

def laidS : List (String × DataW Unit) := [("proteus/tree.signs", Rows.laid_proteus_tree_signs)]
theorem gSigns : Tryd.prog.globalNamed "proteus/tree.signs" = some 0 := by kernel_rfl
theorem tSigns : (Tryd.prog.globals[0]?).map (·.type) = some 129 := by kernel_rfl

set_option maxRecDepth 100000 in
theorem door_met (os : Os) (args : Array Value) : laidMetH Tryd.prog laidS ((World.doorLaid Tryd.prog 14 os).forCall (fun _ _ => 0) ⟨#[], args, []⟩).memory :=
  laidMetH_of_parts3 (fuel := 8) (laidMet_of_run' 8 (by kernel_rfl) (by kernel_rfl)) (by kernel_rfl) (by kernel_rfl)

set_option maxRecDepth 100000 in
theorem of_laid {W : World} (h : laidMetH Tryd.prog laidS W) : 0 < W.heap.size ∧ Texts 0 tsgnL W := by
  rw [MakeChecks.laidMetH_plain _ _ _ (by kernel_rfl)] at h
  obtain ⟨ps, ⟨g0, t0, cs0, f0, p0, q0, hg0, ht0, hv0, hd0, _, _⟩, _, _⟩ := h
  obtain rfl := Option.some.inj (gSigns.symm.trans hg0)
  obtain rfl := Option.some.inj (tSigns.symm.trans ht0)
  obtain ⟨xs, m1, rfl, hx1, hlen, hn3, hel⟩ := DataW.trod_array Tryd.underlying129 hd0
  have c9 : Tryd.prog.cellsOf 9 = 1 := by kernel_rfl
  have hmap : xs.map (·.1) = tsgnL.map fun l => .lit (.string l) := by
    simp only [Prod.mk.injEq] at hx1
    have h1 : (DataW.agg (tsgnL.map fun l => .lit (.string l)) : DataW Unit) = .agg (xs.map (·.1)) := hx1.1
    injection h1 with h2
    exact h2.symm
  have h12 : tsgnL.length = 12 := rfl
  have hT : Texts 0 tsgnL W := by
    intro i hi
    have h1 := hel i (by omega)
    have hxl : i < xs.length := by omega
    rw [List.getElem?_eq_getElem hxl, c9, Nat.mul_one] at h1
    obtain ⟨s, e1, e2, _⟩ := DataW.trod_string Tryd.underlying9 h1
    have h2 : (xs.map (·.1))[i]? = (tsgnL.map fun l => (DataW.lit (.string l) : DataW Unit))[i]? := by rw [hmap]
    rw [List.getElem?_map, List.getElem?_map, List.getElem?_eq_getElem hxl, List.getElem?_eq_getElem hi, Option.map_some, Option.map_some, e2] at h2
    have h3 : s.data.toList = tsgnL[i] := by simpa using h2
    rw [World.var?_cell hg0 hv0 i, ← h3]
    have h4 : cs0.toList[i]? = some (.string s) := by
      have := congrArg (fun l => l[0]?) e1
      simpa [List.getElem?_take, List.getElem?_drop] using this
    simpa using h4
  refine ⟨?_, hT⟩
  rcases Nat.eq_zero_or_pos W.heap.size with h | h
  · have := hT 0 (by omega)
    simp [World.cell?, Array.getElem?_eq_none (show W.heap.size ≤ 0 by omega)] at this
  · exact h

end Go.Proofs.YtgdbaceehpcgbaaDoor

namespace Go.Proofs.YtgdbaceehpcgbaaDoor
open Go.ChangeShapes Go.WideShapes Go.ChangeAt Go.RowKit Go.Deep
set_option maxRecDepth 100000

theorem laidOutP : laidOutB Tryd.prog = true := by kernel_rfl
theorem nodeCells : Tryd.prog.cellsOf 47 = 7 := by kernel_rfl

theorem ndsAt_of {B : Nat} {w : World} {b : Nat} : ∀ (ks : List Nd) (off : Nat), (∀ (i : Nat) (h : i < ks.length), ∃ nv kv, NodeAt b (off + i * 7) ks[i].kind ks[i].op ks[i].num ks[i].str nv kv ks[i].pl w ∧ NdIn B w ks[i] nv kv) → NdsAt B w b ks off
  | [], _, _ => by rw [NdsAt]; trivial
  | .mk k op n s ns ks p :: r, off, h => by
    rw [NdsAt]
    obtain ⟨nv, kv, h1, h2⟩ := h 0 (by simp)
    refine ⟨⟨nv, kv, by simpa [Nd.kind, Nd.op, Nd.num, Nd.str, Nd.pl] using h1, h2⟩, ndsAt_of r (off + 7) (fun i hi => ?_)⟩
    obtain ⟨nv, kv, h1, h2⟩ := h (i + 1) (by simpa using hi)
    refine ⟨nv, kv, ?_, by simpa using h2⟩
    have e : off + (i + 1) * 7 = off + 7 + i * 7 := by omega
    rw [e] at h1
    simpa using h1

theorem cell_lt {w : World} {b o : Nat} {v : Value} (h : w.cell? ⟨b, o, none⟩ = some v) : b < w.heap.size := by
  rcases Nat.lt_or_ge b w.heap.size with h' | h'
  · exact h'
  · simp [World.cell?, Array.getElem?_eq_none h'] at h

theorem open_names {H : Type} {enc : TypeId × Value → H} {W : World} {fuel : Nat} {v : Value} {x : DataW H × List MemPlace}
    (h : DataW.trod enc Tryd.prog W 0 (fun _ => true) true fuel 27 [v] = some x) : ∃ ns : List ByteArray, StrsIn W.heap.size v ns W := by
  rcases open_strs Tryd.underlying27 Tryd.underlying9 (by kernel_rfl) h with ⟨hcs, _⟩ | ⟨a, len, cap, m, Sx, hcs, _, hl, _, hmm, _, hx⟩
  · simp at hcs
    exact ⟨[], .inl ⟨none, 0, hcs, rfl⟩⟩
  · simp at hcs
    simp only [if_true] at hmm
    subst hmm
    refine ⟨(List.range len).map Sx, ?_⟩
    by_cases h0 : len = 0
    · subst h0
      exact .inl ⟨some a, m, hcs, rfl⟩
    · obtain ⟨b, off, spot⟩ := a
      have hc0 := (hx 0 (by omega)).1
      have hspot : spot = none := by simpa [Addr.add] using World.cell?_spot hc0
      subst hspot
      have ap : ∀ j, (⟨b, off, none⟩ : Addr).add j = ⟨b, off + j, none⟩ := fun j => by unfold Addr.add; split <;> simp_all
      rw [ap] at hc0
      refine .inr ⟨b, off, m, by simpa using hcs, cell_lt hc0, ?_, by simpa using hl⟩
      intro i hi
      have hi' : i < len := by simpa using hi
      have := (hx i (by omega)).1
      rw [ap] at this
      simpa using this

theorem open_cells {H : Type} {enc : TypeId × Value → H} {W : World} : ∀ (fuel : Nat) (cs : List Value) (x : DataW H × List MemPlace),
    DataW.trod enc Tryd.prog W 0 (fun _ => true) true fuel 47 cs = some x →
    ∃ (t : Nd) (nv kv : Value), cs = [.int .i64 t.kind, .int .i64 t.op, .int .i64 t.num, .string t.str, nv, kv, .int .i64 t.pl] ∧ NdIn W.heap.size W t nv kv := by
  intro fuel
  induction fuel using Nat.strongRecOn with
  | _ fuel ih =>
  intro cs x h
  obtain ⟨xs, k, hk, _, hlen, hxl, hf⟩ := DataW.trod_struct Tryd.underlying47 h
  rw [nodeCells] at hlen
  match cs, hlen with
  | [v0, v1, v2, v3, v4, v5, v6], _ =>
    have ci : Tryd.prog.cellsOf 3 = 1 := by kernel_rfl
    have cst : Tryd.prog.cellsOf 9 = 1 := by kernel_rfl
    have csn : Tryd.prog.cellsOf 27 = 1 := by kernel_rfl
    have csk : Tryd.prog.cellsOf 42 = 1 := by kernel_rfl
    have g0 := hf 0 _ rfl
    have g1 := hf 1 _ rfl
    have g2 := hf 2 _ rfl
    have g3 := hf 3 _ rfl
    have g4 := hf 4 _ rfl
    have g5 := hf 5 _ rfl
    have g6 := hf 6 _ rfl
    simp [ci, cst, csn, csk] at g0 g1 g2 g3 g4 g5 g6
    match xs, hxl with
    | [y0, y1, y2, y3, y4, y5, y6], _ =>
      simp at g0 g1 g2 g3 g4 g5 g6
      obtain ⟨i0, r0, _, _⟩ := DataW.trod_int Tryd.underlying3 g0
      obtain ⟨i1, r1, _, _⟩ := DataW.trod_int Tryd.underlying3 g1
      obtain ⟨i2, r2, _, _⟩ := DataW.trod_int Tryd.underlying3 g2
      obtain ⟨i3, r3, _, _⟩ := DataW.trod_string Tryd.underlying9 g3
      obtain ⟨i6, r6, _, _⟩ := DataW.trod_int Tryd.underlying3 g6
      simp at r0 r1 r2 r3 r6
      subst r0 r1 r2 r3 r6
      obtain ⟨ns, hns⟩ := open_names g4
      have hks : ∃ ks : List Nd, KidsIn W.heap.size W v5 ks := by
        rcases DataW.trod_slice Tryd.underlying42 g5 with ⟨hcs, _⟩ | ⟨a, len, cap, elems, rest, n, hn, hcs, _, _, hl, _, hel, hall, _, _⟩
        · simp at hcs
          exact ⟨[], .inl ⟨none, 0, hcs, rfl⟩⟩
        · simp at hcs
          have each : ∀ i, i < len → ∃ t : Nd, ∃ nv kv, (W.cell? (a.add (i * 7)) = some (.int .i64 t.kind) ∧ W.cell? (a.add (i * 7 + 1)) = some (.int .i64 t.op) ∧ W.cell? (a.add (i * 7 + 2)) = some (.int .i64 t.num) ∧ W.cell? (a.add (i * 7 + 3)) = some (.string t.str) ∧
              W.cell? (a.add (i * 7 + 4)) = some nv ∧ W.cell? (a.add (i * 7 + 5)) = some kv ∧ W.cell? (a.add (i * 7 + 6)) = some (.int .i64 t.pl)) ∧ NdIn W.heap.size W t nv kv := by
            intro i hi
            have h1 := hall i hi
            rw [List.getElem?_eq_getElem (by omega)] at h1
            obtain ⟨cs', h2, h3⟩ := Option.bind_eq_some_iff.1 h1
            rw [nodeCells] at h2
            obtain ⟨_, _, hcell⟩ := World.cells?_some h2
            obtain ⟨t, nv, kv, rfl, hin⟩ := ih n (by omega) cs' _ h3
            refine ⟨t, nv, kv, ⟨?_, ?_, ?_, ?_, ?_, ?_, ?_⟩, hin⟩
            · have := hcell 0 (by omega); rw [add_add] at this; simpa using this
            · have := hcell 1 (by omega); rw [add_add] at this; simpa using this
            · have := hcell 2 (by omega); rw [add_add] at this; simpa using this
            · have := hcell 3 (by omega); rw [add_add] at this; simpa using this
            · have := hcell 4 (by omega); rw [add_add] at this; simpa using this
            · have := hcell 5 (by omega); rw [add_add] at this; simpa using this
            · have := hcell 6 (by omega); rw [add_add] at this; simpa using this
          obtain ⟨f, hf'⟩ := @choose_lt Nd ⟨.mk 0 0 0 ⟨#[]⟩ [] [] 0⟩ _ _ each
          refine ⟨(List.range len).map f, ?_⟩
          by_cases h0 : len = 0
          · subst h0
            exact .inl ⟨some a, cap, hcs, rfl⟩
          · obtain ⟨b, off, spot⟩ := a
            obtain ⟨_, _, ⟨hc0, _⟩, _⟩ := hf' 0 (by omega)
            have hspot : spot = none := by simpa [Addr.add] using World.cell?_spot hc0
            subst hspot
            have ap : ∀ j, (⟨b, off, none⟩ : Addr).add j = ⟨b, off + j, none⟩ := fun j => by unfold Addr.add; split <;> simp_all
            rw [ap] at hc0
            refine .inr ⟨b, off, cap, by simpa using hcs, cell_lt hc0, ?_, by simpa using hl⟩
            refine ndsAt_of _ _ (fun i hi => ?_)
            have hi' : i < len := by simpa using hi
            obtain ⟨nv, kv, hc, hin⟩ := hf' i hi'
            simp only [ap] at hc
            refine ⟨nv, kv, ?_, by simpa using hin⟩
            unfold NodeAt
            simpa [Nat.add_assoc] using hc
      obtain ⟨ks, hks⟩ := hks
      exact ⟨.mk i0 i1 i2 i3 ns ks i6, v4, v5, rfl, ndIn_mk.2 ⟨hns, hks⟩⟩

theorem open_node {H : Type} {enc : TypeId × Value → H} {W : World} {b0 : Nat} {r : Reach} {v : Value} {d : DataW H} {p : List MemPlace}
    (hv : Value.okWide Tryd.prog W r b0 47 v) (h : DataW.Trod enc Tryd.prog W 0 (fun _ => true) true 47 v d p) :
    ∃ (t : Nd) (nv kv : Value), v = .agg #[.int .i64 t.kind, .int .i64 t.op, .int .i64 t.num, .string t.str, nv, kv, .int .i64 t.pl] ∧ Hid (NdIn W.heap.size W t nv kv) := by
  obtain ⟨cs, rfl, _⟩ := okWide_struct Tryd.underlying47 hv
  obtain ⟨fuel, hf⟩ := h
  obtain ⟨t, nv, kv, e, hin⟩ := open_cells fuel _ _ hf
  refine ⟨t, nv, kv, ?_, hin⟩
  have : cs.toList = [.int .i64 t.kind, .int .i64 t.op, .int .i64 t.num, .string t.str, nv, kv, .int .i64 t.pl] := by simpa [Value.cells] using e
  have h2 : cs = (cs.toList).toArray := by simp
  rw [h2, this]

end Go.Proofs.YtgdbaceehpcgbaaDoor

namespace Go.Proofs.YtgdbaceehpcgbaaDoor
open Go.ChangeShapes Go.WideShapes Go.ChangeAt Go.RowKit Go.Deep
set_option maxRecDepth 100000

theorem fnCells : Tryd.prog.cellsOf 44 = 3 := by kernel_rfl
theorem open_kids {H : Type} {enc : TypeId × Value → H} {W : World} {fuel : Nat} {v5 : Value} {y : DataW H × List MemPlace}
    (g5 : DataW.trod enc Tryd.prog W 0 (fun _ => true) true fuel 42 [v5] = some y) : ∃ ks : List Nd, KidsIn W.heap.size W v5 ks := by
  rcases DataW.trod_slice Tryd.underlying42 g5 with ⟨hcs, _⟩ | ⟨a, len, cap, elems, rest, n, hn, hcs, _, _, hl, _, hel, hall, _, _⟩
  · simp at hcs
    exact ⟨[], .inl ⟨none, 0, hcs, rfl⟩⟩
  · simp at hcs
    have each : ∀ i, i < len → ∃ t : Nd, ∃ nv kv, (W.cell? (a.add (i * 7)) = some (.int .i64 t.kind) ∧ W.cell? (a.add (i * 7 + 1)) = some (.int .i64 t.op) ∧ W.cell? (a.add (i * 7 + 2)) = some (.int .i64 t.num) ∧ W.cell? (a.add (i * 7 + 3)) = some (.string t.str) ∧
        W.cell? (a.add (i * 7 + 4)) = some nv ∧ W.cell? (a.add (i * 7 + 5)) = some kv ∧ W.cell? (a.add (i * 7 + 6)) = some (.int .i64 t.pl)) ∧ NdIn W.heap.size W t nv kv := by
      intro i hi
      have h1 := hall i hi
      rw [List.getElem?_eq_getElem (by omega)] at h1
      obtain ⟨cs', h2, h3⟩ := Option.bind_eq_some_iff.1 h1
      rw [nodeCells] at h2
      obtain ⟨_, _, hcell⟩ := World.cells?_some h2
      obtain ⟨t, nv, kv, rfl, hin⟩ := open_cells n cs' _ h3
      refine ⟨t, nv, kv, ⟨?_, ?_, ?_, ?_, ?_, ?_, ?_⟩, hin⟩
      · have := hcell 0 (by omega); rw [add_add] at this; simpa using this
      · have := hcell 1 (by omega); rw [add_add] at this; simpa using this
      · have := hcell 2 (by omega); rw [add_add] at this; simpa using this
      · have := hcell 3 (by omega); rw [add_add] at this; simpa using this
      · have := hcell 4 (by omega); rw [add_add] at this; simpa using this
      · have := hcell 5 (by omega); rw [add_add] at this; simpa using this
      · have := hcell 6 (by omega); rw [add_add] at this; simpa using this
    obtain ⟨f, hf'⟩ := @choose_lt Nd ⟨.mk 0 0 0 ⟨#[]⟩ [] [] 0⟩ _ _ each
    refine ⟨(List.range len).map f, ?_⟩
    by_cases h0 : len = 0
    · subst h0
      exact .inl ⟨some a, cap, hcs, rfl⟩
    · obtain ⟨b, off, spot⟩ := a
      obtain ⟨_, _, ⟨hc0, _⟩, _⟩ := hf' 0 (by omega)
      have hspot : spot = none := by simpa [Addr.add] using World.cell?_spot hc0
      subst hspot
      have ap : ∀ j, (⟨b, off, none⟩ : Addr).add j = ⟨b, off + j, none⟩ := fun j => by unfold Addr.add; split <;> simp_all
      rw [ap] at hc0
      refine .inr ⟨b, off, cap, by simpa using hcs, cell_lt hc0, ?_, by simpa using hl⟩
      refine ndsAt_of _ _ (fun i hi => ?_)
      have hi' : i < len := by simpa using hi
      obtain ⟨nv, kv, hc, hin⟩ := hf' i hi'
      simp only [ap] at hc
      refine ⟨nv, kv, ?_, by simpa using hin⟩
      unfold NodeAt
      simpa [Nat.add_assoc] using hc
theorem open_fn {H : Type} {enc : TypeId × Value → H} {W : World} {fuel : Nat} {cs : List Value} {x : DataW H × List MemPlace}
    (h : DataW.trod enc Tryd.prog W 0 (fun _ => true) true fuel 44 cs = some x) : ∃ (p l : Int) (kv : Value) (ks : List Nd), cs = [.int .i64 p, .int .i64 l, kv] ∧ KidsIn W.heap.size W kv ks := by
  obtain ⟨xs, k, hk, _, hlen, hxl, hf⟩ := DataW.trod_struct Tryd.underlying44 h
  rw [fnCells] at hlen
  match cs, hlen with
  | [v0, v1, v2], _ =>
    have ci : Tryd.prog.cellsOf 3 = 1 := by kernel_rfl
    have csk : Tryd.prog.cellsOf 42 = 1 := by kernel_rfl
    have g0 := hf 0 _ rfl
    have g1 := hf 1 _ rfl
    have g2 := hf 2 _ rfl
    simp [ci, csk] at g0 g1 g2
    match xs, hxl with
    | [y0, y1, y2], _ =>
      simp at g0 g1 g2
      obtain ⟨i0, r0, _, _⟩ := DataW.trod_int Tryd.underlying3 g0
      obtain ⟨i1, r1, _, _⟩ := DataW.trod_int Tryd.underlying3 g1
      simp at r0 r1
      subst r0 r1
      obtain ⟨ks, hks⟩ := open_kids g2
      exact ⟨i0, i1, v2, ks, rfl, hks⟩
theorem open_fns {H : Type} {enc : TypeId × Value → H} {W : World} {fuel : Nat} {v : Value} {y : DataW H × List MemPlace}
    (h : DataW.trod enc Tryd.prog W 0 (fun _ => true) true fuel 22 [v] = some y) : ∃ fs : List Fq, FnsIn W.heap.size W v fs := by
  rcases DataW.trod_slice Tryd.underlying22 h with ⟨hcs, _⟩ | ⟨a, len, cap, elems, rest, n, hn, hcs, _, _, hl, _, hel, hall, _, _⟩
  · simp at hcs
    exact ⟨[], .inl ⟨none, 0, hcs, rfl⟩⟩
  · simp at hcs
    have each : ∀ i, i < len → ∃ f : Fq, ∃ kv, W.cell? (a.add (i * 3)) = some (.int .i64 f.1) ∧ W.cell? (a.add (i * 3 + 1)) = some (.int .i64 f.2.1) ∧ W.cell? (a.add (i * 3 + 2)) = some kv ∧ KidsIn W.heap.size W kv f.2.2 := by
      intro i hi
      have h1 := hall i hi
      rw [List.getElem?_eq_getElem (by omega)] at h1
      obtain ⟨cs', h2, h3⟩ := Option.bind_eq_some_iff.1 h1
      rw [fnCells] at h2
      obtain ⟨_, _, hcell⟩ := World.cells?_some h2
      obtain ⟨p, l, kv, ks, rfl, hin⟩ := open_fn h3
      refine ⟨(p, l, ks), kv, ?_, ?_, ?_, hin⟩
      · have := hcell 0 (by omega); rw [add_add] at this; simpa using this
      · have := hcell 1 (by omega); rw [add_add] at this; simpa using this
      · have := hcell 2 (by omega); rw [add_add] at this; simpa using this
    obtain ⟨f, hf'⟩ := @choose_lt Fq ⟨(0, 0, [])⟩ _ _ each
    refine ⟨(List.range len).map f, ?_⟩
    by_cases h0 : len = 0
    · subst h0
      exact .inl ⟨some a, cap, hcs, rfl⟩
    · obtain ⟨b, off, spot⟩ := a
      obtain ⟨_, hc0, _⟩ := hf' 0 (by omega)
      have hspot : spot = none := by simpa [Addr.add] using World.cell?_spot hc0
      subst hspot
      have ap : ∀ j, (⟨b, off, none⟩ : Addr).add j = ⟨b, off + j, none⟩ := fun j => by unfold Addr.add; split <;> simp_all
      rw [ap] at hc0
      refine .inr ⟨b, off, cap, by simpa using hcs, cell_lt hc0, fun i g hi => ?_, by simpa using hl⟩
      obtain ⟨hi', rfl⟩ : i < len ∧ f i = g := by
        rw [List.getElem?_map] at hi
        by_cases hlt : i < len
        · rw [List.getElem?_range hlt] at hi
          exact ⟨hlt, by simpa using hi⟩
        · rw [List.getElem?_eq_none (by simpa using hlt)] at hi
          cases hi
      obtain ⟨kv, k0, k1, k2, k3⟩ := hf' i hi'
      simp only [ap] at k0 k1 k2
      exact ⟨kv, k0, by rw [Nat.add_assoc]; exact k1, by rw [Nat.add_assoc]; exact k2, k3⟩
theorem open_ucells {H : Type} {enc : TypeId × Value → H} {W : World} {fuel : Nat} {cs : List Value} {x : DataW H × List MemPlace}
    (h : DataW.trod enc Tryd.prog W 0 (fun _ => true) true fuel 24 cs = some x) : ∃ (G : Int) (fv : Value) (fs : List Fq), cs = [.int .i64 G, fv] ∧ FnsIn W.heap.size W fv fs := by
  obtain ⟨xs, k, hk, _, hlen, hxl, hf⟩ := DataW.trod_struct Tryd.underlying24 h
  rw [show Tryd.prog.cellsOf 24 = 2 by kernel_rfl] at hlen
  match cs, hlen with
  | [v0, v1], _ =>
    have ci : Tryd.prog.cellsOf 3 = 1 := by kernel_rfl
    have csk : Tryd.prog.cellsOf 22 = 1 := by kernel_rfl
    have g0 := hf 0 _ rfl
    have g1 := hf 1 _ rfl
    simp [ci, csk] at g0 g1
    match xs, hxl with
    | [y0, y1], _ =>
      simp at g0 g1
      obtain ⟨i0, r0, _, _⟩ := DataW.trod_int Tryd.underlying3 g0
      simp at r0
      subst r0
      obtain ⟨fs, hfs⟩ := open_fns g1
      exact ⟨i0, v1, fs, rfl, hfs⟩
theorem open_unit {H : Type} {enc : TypeId × Value → H} {W : World} {b0 : Nat} {r : Reach} {v : Value} {d : DataW H} {p : List MemPlace}
    (hv : Value.okWide Tryd.prog W r b0 24 v) (h : DataW.Trod enc Tryd.prog W 0 (fun _ => true) true 24 v d p) :
    ∃ (G : Int) (fv : Value) (fs : List Fq), v = .agg #[.int .i64 G, fv] ∧ Hid (FnsIn W.heap.size W fv fs) := by
  obtain ⟨cs, rfl, _⟩ := okWide_struct Tryd.underlying24 hv
  obtain ⟨fuel, hf⟩ := h
  obtain ⟨G, fv, fs, e, hin⟩ := open_ucells hf
  refine ⟨G, fv, fs, ?_, hin⟩
  have : cs.toList = [.int .i64 G, fv] := by simpa [Value.cells] using e
  have h2 : cs = (cs.toList).toArray := by simp
  rw [h2, this]

end Go.Proofs.YtgdbaceehpcgbaaDoor

namespace Go.Proofs.YtgdbaceehpcgbaaDoor
set_option linter.unusedSimpArgs false
open Go.RowKit

theorem cfew_parts {N : Nat} : ∀ {l : List Nd}, (∀ x ∈ l, smallN x = true ∧ countN x ≤ N) → smallL l = true ∧ countL l ≤ N * l.length
  | [], _ => ⟨by rw [smallL], by rw [countL]; omega⟩
  | x :: r, h => by
    obtain ⟨h1, h2⟩ := cfew_parts (l := r) (fun y hy => h y (by simp [hy]))
    obtain ⟨h3, h4⟩ := h x (by simp)
    refine ⟨by rw [smallL, h3, h1]; rfl, ?_⟩
    rw [countL, List.length_cons, Nat.mul_add, Nat.mul_one]
    omega
theorem fewU_ofV {fs : List Fq} (h : FewV fs) : FewU fs := by
  have hl := h.1
  refine ⟨by omega, fun f hf => ?_⟩
  obtain ⟨h1, h2⟩ := h.2 f hf
  obtain ⟨h3, h4⟩ := cfew_parts h2
  have : 300 * f.2.2.length ≤ 300 * 60 := Nat.mul_le_mul_left _ h1
  exact ⟨h3, by omega⟩
theorem cfnsIn_up {B C : Nat} {v : Value} {fs : List Fq} {w : World} (hB : B ≤ C) (h : FnsIn B w v fs) : FnsIn C w v fs := by
  rcases h with h | ⟨b, off, cap, h1, h2, h3, h4⟩
  · exact .inl h
  · refine .inr ⟨b, off, cap, h1, by omega, fun i f hi => ?_, h4⟩
    obtain ⟨kv, g1, g2, g3, g4⟩ := h3 i f hi
    exact ⟨kv, g1, g2, g3, kidsIn_up hB g4⟩
theorem fns_bad : ∀ {fs : List (Int × Int × List Nd)} {L : List ByteArray} {x : Int}, fnsC fs L = .bad x → x ≠ 0
  | [], L, x, h => by rw [fnsC] at h; cases h
  | f :: r, L, x, h => by
    rw [fnsC] at h
    split at h
    · cases h; decide
    · split at h
      · cases h; decide
      · cases hr : fnsC r (bodyC f.2.2 L).2.1 with
        | bad e => rw [hr] at h; cases h; exact fns_bad hr
        | ok cs M => rw [hr] at h; cases h
theorem unit_bad {G : Int} {fs : List (Int × Int × List Nd)} {x : Int} (h : unitC G fs = .bad x) : x ≠ 0 := by
  unfold unitC at h
  split at h
  · rename_i hc
    cases h
    exact hc
  · cases hf : fnsC fs [] with
    | bad e => rw [hf] at h; cases h; exact fns_bad hf
    | ok cs L =>
      rw [hf] at h
      simp only at h
      split at h
      · cases h; decide
      · cases h
/-- what comes of a unit, in memory -/
def UnitAny (G : Int) (fs : List Fq) (w' : World) (g : Int) (pa : Option Addr) (pn pc : Nat) (ca : Option Addr) (cn cc : Nat) (x : Int) : Prop :=
  (x ≠ 0 ∧ cn = 0 ∧ g = 0 ∧ pn = 0) ∨ (x = 0 ∧ g = G ∧ ∃ cs L, unitC G fs = .ok cs L ∧ pn = L.length ∧ cn = cs.length ∧ PgIn w'.heap.size w' ⟨G, L, cs⟩ (.slice pa pn pc) (.slice ca cn cc))
theorem unit_any {G : Int} {fs : List Fq} {e : Ending} {w' : World} (h : UnitOut G fs e w') : ∃ g pa pn pc ca cn cc x, e = .returned (.tuple #[.agg #[.int .i64 g, .slice pa pn pc, .slice ca cn cc], .int .i64 x]) ∧ UnitAny G fs w' g pa pn pc ca cn cc x := by
  unfold UnitOut at h
  cases hu : unitC G fs with
  | bad x =>
    rw [hu] at h
    exact ⟨_, _, _, _, _, _, _, _, h, .inl ⟨unit_bad hu, rfl, rfl, rfl⟩⟩
  | ok cs L =>
    rw [hu] at h
    obtain ⟨pv, cv, he, hP⟩ := h
    obtain ⟨pa, pc, rfl⟩ := plIn_shape hP.pool
    obtain ⟨ca, cc, rfl⟩ := cdsIn_shape hP.codes
    exact ⟨_, _, _, _, _, _, _, _, he, .inr ⟨rfl, rfl, cs, L, hu, rfl, rfl, hP⟩⟩
theorem unit_tick {G : Int} {fs : List Fq} {cs : List Cd} {L : List ByteArray} (h : unitC G fs = .ok cs L) : tickQ cs = (cntU fs : Int) := by
  obtain ⟨u1, _⟩ := unit_ok h
  exact built_ticks u1
theorem pgIn_tick {B : Nat} {w : World} {G : Int} {L : List ByteArray} {cs : List Cd} {pa : Option Addr} {pc : Nat} {cv : Value} (h : PgIn B w ⟨G, L, cs⟩ (.slice pa L.length pc) cv) : PgS' B w ⟨G, L, cs⟩ (.slice pa L.length pc) cv :=
  ⟨⟨pa, (L.length, pc), rfl⟩, h.codes, h.few.2, h.ins⟩
end Go.Proofs.YtgdbaceehpcgbaaDoor
