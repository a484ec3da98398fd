/- An argument that is a unit, opened. -/
import Derived.Test.YtmihckhflbepjaaDoorJoint14
import Derived.Test.YtmihckhflbepjaaDoorUnSame
namespace Go.Proofs.YtmihckhflbepjaaDoor
open Go.ChangeShapes Go.WideShapes Go.ChangeAt Go.RowKit Go.Deep
set_option maxRecDepth 100000

theorem fnCells : Tryd.prog.cellsOf 45 = 3 := by kernel_rfl
theorem open_kids {H : Type} {enc : TypeId × Value → H} {W : World} {fuel : Nat} {v5 : Value} {y : DataW H × List MemPlace}
    (g5 : DataW.trod enc Tryd.prog W 0 (fun _ => true) true fuel 23 [v5] = some y) : ∃ ks : List Nd, KidsIn W.heap.size W v5 ks := by
  rcases DataW.trod_slice Tryd.underlying23 g5 with ⟨hcs, _⟩ | ⟨a, len, cap, elems, rest, n, hn, hcs, _, _, hl, _, hel, hall, _, _⟩
  · simp at hcs
    exact ⟨[], .inl ⟨none, 0, hcs, rfl⟩⟩
  · simp at hcs
    have each : ∀ i, i < len → ∃ t : Nd, ∃ nv kv, (W.cell? (a.add (i * 7)) = some (.int .i64 t.kind) ∧ W.cell? (a.add (i * 7 + 1)) = some (.int .i64 t.op) ∧ W.cell? (a.add (i * 7 + 2)) = some (.int .i64 t.num) ∧ W.cell? (a.add (i * 7 + 3)) = some (.string t.str) ∧
        W.cell? (a.add (i * 7 + 4)) = some nv ∧ W.cell? (a.add (i * 7 + 5)) = some kv ∧ W.cell? (a.add (i * 7 + 6)) = some (.int .i64 t.pl)) ∧ NdIn W.heap.size W t nv kv := by
      intro i hi
      have h1 := hall i hi
      rw [List.getElem?_eq_getElem (by omega)] at h1
      obtain ⟨cs', h2, h3⟩ := Option.bind_eq_some_iff.1 h1
      rw [nodeCells] at h2
      obtain ⟨_, _, hcell⟩ := World.cells?_some h2
      obtain ⟨t, nv, kv, rfl, hin⟩ := open_cells n cs' _ h3
      refine ⟨t, nv, kv, ⟨?_, ?_, ?_, ?_, ?_, ?_, ?_⟩, hin⟩
      · have := hcell 0 (by omega); rw [add_add] at this; simpa using this
      · have := hcell 1 (by omega); rw [add_add] at this; simpa using this
      · have := hcell 2 (by omega); rw [add_add] at this; simpa using this
      · have := hcell 3 (by omega); rw [add_add] at this; simpa using this
      · have := hcell 4 (by omega); rw [add_add] at this; simpa using this
      · have := hcell 5 (by omega); rw [add_add] at this; simpa using this
      · have := hcell 6 (by omega); rw [add_add] at this; simpa using this
    obtain ⟨f, hf'⟩ := @choose_lt Nd ⟨.mk 0 0 0 ⟨#[]⟩ [] [] 0⟩ _ _ each
    refine ⟨(List.range len).map f, ?_⟩
    by_cases h0 : len = 0
    · subst h0
      exact .inl ⟨some a, cap, hcs, rfl⟩
    · obtain ⟨b, off, spot⟩ := a
      obtain ⟨_, _, ⟨hc0, _⟩, _⟩ := hf' 0 (by omega)
      have hspot : spot = none := by simpa [Addr.add] using World.cell?_spot hc0
      subst hspot
      have ap : ∀ j, (⟨b, off, none⟩ : Addr).add j = ⟨b, off + j, none⟩ := fun j => by unfold Addr.add; split <;> simp_all
      rw [ap] at hc0
      refine .inr ⟨b, off, cap, by simpa using hcs, cell_lt hc0, ?_, by simpa using hl⟩
      refine ndsAt_of _ _ (fun i hi => ?_)
      have hi' : i < len := by simpa using hi
      obtain ⟨nv, kv, hc, hin⟩ := hf' i hi'
      simp only [ap] at hc
      refine ⟨nv, kv, ?_, by simpa using hin⟩
      unfold NodeAt
      simpa [Nat.add_assoc] using hc
theorem open_fn {H : Type} {enc : TypeId × Value → H} {W : World} {fuel : Nat} {cs : List Value} {x : DataW H × List MemPlace}
    (h : DataW.trod enc Tryd.prog W 0 (fun _ => true) true fuel 45 cs = some x) : ∃ (p l : Int) (kv : Value) (ks : List Nd), cs = [.int .i64 p, .int .i64 l, kv] ∧ KidsIn W.heap.size W kv ks := by
  obtain ⟨xs, k, hk, _, hlen, hxl, hf⟩ := DataW.trod_struct Tryd.underlying45 h
  rw [fnCells] at hlen
  match cs, hlen with
  | [v0, v1, v2], _ =>
    have ci : Tryd.prog.cellsOf 3 = 1 := by kernel_rfl
    have csk : Tryd.prog.cellsOf 23 = 1 := by kernel_rfl
    have g0 := hf 0 _ rfl
    have g1 := hf 1 _ rfl
    have g2 := hf 2 _ rfl
    simp [ci, csk] at g0 g1 g2
    match xs, hxl with
    | [y0, y1, y2], _ =>
      simp at g0 g1 g2
      obtain ⟨i0, r0, _, _⟩ := DataW.trod_int Tryd.underlying3 g0
      obtain ⟨i1, r1, _, _⟩ := DataW.trod_int Tryd.underlying3 g1
      simp at r0 r1
      subst r0 r1
      obtain ⟨ks, hks⟩ := open_kids g2
      exact ⟨i0, i1, v2, ks, rfl, hks⟩
theorem open_fns {H : Type} {enc : TypeId × Value → H} {W : World} {fuel : Nat} {v : Value} {y : DataW H × List MemPlace}
    (h : DataW.trod enc Tryd.prog W 0 (fun _ => true) true fuel 28 [v] = some y) : ∃ fs : List Fq, FnsIn W.heap.size W v fs := by
  rcases DataW.trod_slice Tryd.underlying28 h with ⟨hcs, _⟩ | ⟨a, len, cap, elems, rest, n, hn, hcs, _, _, hl, _, hel, hall, _, _⟩
  · simp at hcs
    exact ⟨[], .inl ⟨none, 0, hcs, rfl⟩⟩
  · simp at hcs
    have each : ∀ i, i < len → ∃ f : Fq, ∃ kv, W.cell? (a.add (i * 3)) = some (.int .i64 f.1) ∧ W.cell? (a.add (i * 3 + 1)) = some (.int .i64 f.2.1) ∧ W.cell? (a.add (i * 3 + 2)) = some kv ∧ KidsIn W.heap.size W kv f.2.2 := by
      intro i hi
      have h1 := hall i hi
      rw [List.getElem?_eq_getElem (by omega)] at h1
      obtain ⟨cs', h2, h3⟩ := Option.bind_eq_some_iff.1 h1
      rw [fnCells] at h2
      obtain ⟨_, _, hcell⟩ := World.cells?_some h2
      obtain ⟨p, l, kv, ks, rfl, hin⟩ := open_fn h3
      refine ⟨(p, l, ks), kv, ?_, ?_, ?_, hin⟩
      · have := hcell 0 (by omega); rw [add_add] at this; simpa using this
      · have := hcell 1 (by omega); rw [add_add] at this; simpa using this
      · have := hcell 2 (by omega); rw [add_add] at this; simpa using this
    obtain ⟨f, hf'⟩ := @choose_lt Fq ⟨(0, 0, [])⟩ _ _ each
    refine ⟨(List.range len).map f, ?_⟩
    by_cases h0 : len = 0
    · subst h0
      exact .inl ⟨some a, cap, hcs, rfl⟩
    · obtain ⟨b, off, spot⟩ := a
      obtain ⟨_, hc0, _⟩ := hf' 0 (by omega)
      have hspot : spot = none := by simpa [Addr.add] using World.cell?_spot hc0
      subst hspot
      have ap : ∀ j, (⟨b, off, none⟩ : Addr).add j = ⟨b, off + j, none⟩ := fun j => by unfold Addr.add; split <;> simp_all
      rw [ap] at hc0
      refine .inr ⟨b, off, cap, by simpa using hcs, cell_lt hc0, fun i g hi => ?_, by simpa using hl⟩
      obtain ⟨hi', rfl⟩ : i < len ∧ f i = g := by
        rw [List.getElem?_map] at hi
        by_cases hlt : i < len
        · rw [List.getElem?_range hlt] at hi
          exact ⟨hlt, by simpa using hi⟩
        · rw [List.getElem?_eq_none (by simpa using hlt)] at hi
          cases hi
      obtain ⟨kv, k0, k1, k2, k3⟩ := hf' i hi'
      simp only [ap] at k0 k1 k2
      exact ⟨kv, k0, by rw [Nat.add_assoc]; exact k1, by rw [Nat.add_assoc]; exact k2, k3⟩
theorem open_ucells {H : Type} {enc : TypeId × Value → H} {W : World} {fuel : Nat} {cs : List Value} {x : DataW H × List MemPlace}
    (h : DataW.trod enc Tryd.prog W 0 (fun _ => true) true fuel 30 cs = some x) : ∃ (G : Int) (fv : Value) (fs : List Fq), cs = [.int .i64 G, fv] ∧ FnsIn W.heap.size W fv fs := by
  obtain ⟨xs, k, hk, _, hlen, hxl, hf⟩ := DataW.trod_struct Tryd.underlying30 h
  rw [show Tryd.prog.cellsOf 30 = 2 by kernel_rfl] at hlen
  match cs, hlen with
  | [v0, v1], _ =>
    have ci : Tryd.prog.cellsOf 3 = 1 := by kernel_rfl
    have csk : Tryd.prog.cellsOf 28 = 1 := by kernel_rfl
    have g0 := hf 0 _ rfl
    have g1 := hf 1 _ rfl
    simp [ci, csk] at g0 g1
    match xs, hxl with
    | [y0, y1], _ =>
      simp at g0 g1
      obtain ⟨i0, r0, _, _⟩ := DataW.trod_int Tryd.underlying3 g0
      simp at r0
      subst r0
      obtain ⟨fs, hfs⟩ := open_fns g1
      exact ⟨i0, v1, fs, rfl, hfs⟩
theorem open_unit {H : Type} {enc : TypeId × Value → H} {W : World} {b0 : Nat} {r : Reach} {v : Value} {d : DataW H} {p : List MemPlace}
    (hv : Value.okWide Tryd.prog W r b0 30 v) (h : DataW.Trod enc Tryd.prog W 0 (fun _ => true) true 30 v d p) :
    ∃ (G : Int) (fv : Value) (fs : List Fq), v = .agg #[.int .i64 G, fv] ∧ Hid (FnsIn W.heap.size W fv fs) := by
  obtain ⟨cs, rfl, _⟩ := okWide_struct Tryd.underlying30 hv
  obtain ⟨fuel, hf⟩ := h
  obtain ⟨G, fv, fs, e, hin⟩ := open_ucells hf
  refine ⟨G, fv, fs, ?_, hin⟩
  have : cs.toList = [.int .i64 G, fv] := by simpa [Value.cells] using e
  have h2 : cs = (cs.toList).toArray := by simp
  rw [h2, this]

end Go.Proofs.YtmihckhflbepjaaDoor
