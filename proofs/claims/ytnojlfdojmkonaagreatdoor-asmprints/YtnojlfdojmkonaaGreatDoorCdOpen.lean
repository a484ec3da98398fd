/- Arguments that are codes and programs, opened. -/
import Derived.Test.YtnojlfdojmkonaaGreatDoorCdMem
import Derived.ProofKit
import Derived.OpenShut
import Derived.Deep.Slices
import Derived.Deep.Strs
import Derived.Carry
import Derived.KernelRfl
namespace Go.Proofs.YtnojlfdojmkonaaGreatDoor
open Go.ChangeShapes Go.WideShapes Go.ChangeAt Go.RowKit Go.Deep
set_option maxRecDepth 100000
set_option linter.unusedVariables false

theorem laidOutC : laidOutB Tryz.prog = true := by kernel_rfl
theorem ccell_lt {w : World} {b o : Nat} {v : Value} (h : w.cell? ⟨b, o, none⟩ = some v) : b < w.heap.size := by
  rcases Nat.lt_or_ge b w.heap.size with h' | h'
  · exact h'
  · simp [World.cell?, Array.getElem?_eq_none h'] at h
/-- a slice that came in, element by element -/
theorem open_row {H : Type} {enc : TypeId × Value → H} {W : World} {fuel : Nat} {v : Value} {y : DataW H × List MemPlace} {α : Type} (a0 : α) {sT eT : TypeId} {z : Nat} (hu : Tryz.prog.underlying sT = some (.slice eT)) (hz : Tryz.prog.cellsOf eT = z) (hz0 : 0 < z) (R : α → List Value → Prop)
    (hR : ∀ a cs, R a cs → cs.length = z) (each : ∀ fuel cs x, DataW.trod enc Tryz.prog W 0 (fun _ => true) true fuel eT cs = some x → ∃ a, R a cs) (h : DataW.trod enc Tryz.prog W 0 (fun _ => true) true fuel sT [v] = some y) :
    ∃ xs : List α, (∃ ao cap, v = .slice ao 0 cap ∧ xs = []) ∨ ∃ b off cap, v = .slice (some ⟨b, off, none⟩) xs.length cap ∧ b < W.heap.size ∧ ∀ (i : Nat) a, xs[i]? = some a → ∃ cs, R a cs ∧ ∀ j, j < z → W.cell? ⟨b, off + i * z + j, none⟩ = cs[j]? := by
  rcases DataW.trod_slice hu h with ⟨hcs, _⟩ | ⟨a, len, cap, elems, rest, n, hn, hcs, _, _, hl, _, hel, hall, _, _⟩
  · simp at hcs
    exact ⟨[], .inl ⟨none, 0, hcs, rfl⟩⟩
  · simp at hcs
    have each' : ∀ i, i < len → ∃ x : α, ∃ cs, R x cs ∧ ∀ j, j < z → W.cell? (a.add (i * z + j)) = cs[j]? := by
      intro i hi
      have h1 := hall i hi
      rw [List.getElem?_eq_getElem (by omega)] at h1
      obtain ⟨cs', h2, h3⟩ := Option.bind_eq_some_iff.1 h1
      rw [hz] at h2
      obtain ⟨_, _, hcell⟩ := World.cells?_some h2
      obtain ⟨x, hx⟩ := each _ _ _ h3
      refine ⟨x, cs', hx, fun j hj => ?_⟩
      have := hcell j (by have := hR x cs' hx; omega)
      rw [add_add] at this
      rw [this]
      try simp
    obtain ⟨f, hf'⟩ := @choose_lt α ⟨a0⟩ _ _ each'
    refine ⟨(List.range len).map f, ?_⟩
    by_cases h0 : len = 0
    · subst h0
      exact .inl ⟨some a, cap, hcs, rfl⟩
    · obtain ⟨b, off, spot⟩ := a
      obtain ⟨cs, hc, hc0⟩ := hf' 0 (by omega)
      have h00 := hc0 0 hz0
      rw [List.getElem?_eq_getElem (by have := hR _ _ hc; omega)] at h00
      have hspot : spot = none := by simpa [Addr.add] using World.cell?_spot h00
      subst hspot
      have ap : ∀ j, (⟨b, off, none⟩ : Addr).add j = ⟨b, off + j, none⟩ := fun j => by unfold Addr.add; split <;> simp_all
      rw [ap] at h00
      refine .inr ⟨b, off, cap, by simpa using hcs, ccell_lt h00, fun i g hi => ?_⟩
      obtain ⟨hi', rfl⟩ : i < len ∧ f i = g := by
        rw [List.getElem?_map] at hi
        by_cases hlt : i < len
        · rw [List.getElem?_range hlt] at hi
          exact ⟨hlt, by simpa using hi⟩
        · rw [List.getElem?_eq_none (by simpa using hlt)] at hi
          cases hi
      obtain ⟨cs, k0, k1⟩ := hf' i hi'
      refine ⟨cs, k0, fun j hj => ?_⟩
      have := k1 j hj
      rw [ap] at this
      rw [← this, Nat.add_assoc]
theorem open_instr {H : Type} {enc : TypeId × Value → H} {W : World} {fuel : Nat} {cs : List Value} {x : DataW H × List MemPlace}
    (h : DataW.trod enc Tryz.prog W 0 (fun _ => true) true fuel 67 cs = some x) : ∃ y : In, cs = [.int .i64 y.1, .int .i64 y.2.1, .int .i64 y.2.2] := by
  obtain ⟨xs, k, hk, _, hlen, hxl, hf⟩ := DataW.trod_struct Tryz.underlying67 h
  rw [show Tryz.prog.cellsOf 67 = 3 by kernel_rfl] at hlen
  match cs, hlen with
  | [v0, v1, v2], _ =>
    have ci : Tryz.prog.cellsOf 3 = 1 := by kernel_rfl
    have g0 := hf 0 _ rfl
    have g1 := hf 1 _ rfl
    have g2 := hf 2 _ rfl
    simp [ci] at g0 g1 g2
    match xs, hxl with
    | [y0, y1, y2], _ =>
      simp at g0 g1 g2
      obtain ⟨i0, r0, _, _⟩ := DataW.trod_int Tryz.underlying3 g0
      obtain ⟨i1, r1, _, _⟩ := DataW.trod_int Tryz.underlying3 g1
      obtain ⟨i2, r2, _, _⟩ := DataW.trod_int Tryz.underlying3 g2
      simp at r0 r1 r2
      subst r0 r1 r2
      exact ⟨(i0, i1, i2), rfl⟩
theorem open_instrs {H : Type} {enc : TypeId × Value → H} {W : World} {fuel : Nat} {v : Value} {y : DataW H × List MemPlace}
    (h : DataW.trod enc Tryz.prog W 0 (fun _ => true) true fuel 43 [v] = some y) : ∃ is : List In, InsIn W.heap.size W v is := by
  obtain ⟨is, hs⟩ := open_row (α := In) (0, 0, 0) Tryz.underlying43 (show Tryz.prog.cellsOf 67 = 3 by kernel_rfl) (by decide) (fun y cs => cs = [.int .i64 y.1, .int .i64 y.2.1, .int .i64 y.2.2]) (fun a cs h => by rw [h]; rfl) (fun fuel cs x h => open_instr h) h
  refine ⟨is, ?_⟩
  rcases hs with h1 | ⟨b, off, cap, h1, h2, h3⟩
  · exact .inl h1
  · refine .inr ⟨b, off, cap, h1, h2, fun i x hi => ?_⟩
    obtain ⟨cs, rfl, hc⟩ := h3 i x hi
    exact ⟨hc 0 (by decide), hc 1 (by decide), hc 2 (by decide)⟩
theorem open_ccells {H : Type} {enc : TypeId × Value → H} {W : World} {fuel : Nat} {cs : List Value} {x : DataW H × List MemPlace}
    (h : DataW.trod enc Tryz.prog W 0 (fun _ => true) true fuel 45 cs = some x) : ∃ (c : Cd) (iv : Value), cs = [.int .i64 c.p, .int .i64 c.l, .int .i64 c.s, .int .i64 c.d, iv] ∧ InsIn W.heap.size W iv c.ins := by
  obtain ⟨xs, k, hk, _, hlen, hxl, hf⟩ := DataW.trod_struct Tryz.underlying45 h
  rw [show Tryz.prog.cellsOf 45 = 5 by kernel_rfl] at hlen
  match cs, hlen with
  | [v0, v1, v2, v3, v4], _ =>
    have ci : Tryz.prog.cellsOf 3 = 1 := by kernel_rfl
    have csk : Tryz.prog.cellsOf 43 = 1 := by kernel_rfl
    have g0 := hf 0 _ rfl
    have g1 := hf 1 _ rfl
    have g2 := hf 2 _ rfl
    have g3 := hf 3 _ rfl
    have g4 := hf 4 _ rfl
    simp [ci, csk] at g0 g1 g2 g3 g4
    match xs, hxl with
    | [y0, y1, y2, y3, y4], _ =>
      simp at g0 g1 g2 g3 g4
      obtain ⟨i0, r0, _, _⟩ := DataW.trod_int Tryz.underlying3 g0
      obtain ⟨i1, r1, _, _⟩ := DataW.trod_int Tryz.underlying3 g1
      obtain ⟨i2, r2, _, _⟩ := DataW.trod_int Tryz.underlying3 g2
      obtain ⟨i3, r3, _, _⟩ := DataW.trod_int Tryz.underlying3 g3
      simp at r0 r1 r2 r3
      subst r0 r1 r2 r3
      obtain ⟨is, his⟩ := open_instrs g4
      exact ⟨⟨i0, i1, i2, i3, is⟩, v4, rfl, his⟩
theorem open_codes {H : Type} {enc : TypeId × Value → H} {W : World} {fuel : Nat} {v : Value} {y : DataW H × List MemPlace}
    (h : DataW.trod enc Tryz.prog W 0 (fun _ => true) true fuel 23 [v] = some y) : ∃ cs : List Cd, CdsIn W.heap.size W v cs := by
  obtain ⟨is, hs⟩ := open_row (α := Cd) ⟨0, 0, 0, 0, []⟩ Tryz.underlying23 (show Tryz.prog.cellsOf 45 = 5 by kernel_rfl) (by decide) (fun c cs => ∃ iv, cs = [.int .i64 c.p, .int .i64 c.l, .int .i64 c.s, .int .i64 c.d, iv] ∧ InsIn W.heap.size W iv c.ins) (fun a cs ⟨iv, h, _⟩ => by rw [h]; rfl) (fun fuel cs x h => by
    obtain ⟨c, iv, h1, h2⟩ := open_ccells h
    exact ⟨c, iv, h1, h2⟩) h
  refine ⟨is, ?_⟩
  rcases hs with h1 | ⟨b, off, cap, h1, h2, h3⟩
  · exact .inl h1
  · refine .inr ⟨b, off, cap, h1, h2, fun i x hi => ?_⟩
    obtain ⟨cs, ⟨iv, rfl, hin⟩, hc⟩ := h3 i x hi
    exact ⟨iv, hc 0 (by decide), hc 1 (by decide), hc 2 (by decide), hc 3 (by decide), hc 4 (by decide), hin⟩
theorem open_pool {H : Type} {enc : TypeId × Value → H} {W : World} {fuel : Nat} {v : Value} {y : DataW H × List MemPlace}
    (h : DataW.trod enc Tryz.prog W 0 (fun _ => true) true fuel 22 [v] = some y) : ∃ ss : List ByteArray, PlIn W.heap.size W v ss ∧ ∀ s ∈ ss, s.size ≤ maxLen := by
  obtain ⟨is, hs⟩ := open_row (α := ByteArray) ⟨#[]⟩ Tryz.underlying22 (show Tryz.prog.cellsOf 9 = 1 by kernel_rfl) (by decide) (fun s cs => cs = [.string s] ∧ s.size ≤ maxLen) (fun a cs h => by rw [h.1]; rfl) (fun fuel cs x h => by
    obtain ⟨s, h1, _, h2⟩ := DataW.trod_string Tryz.underlying9 h
    exact ⟨s, h1, h2⟩) h
  rcases hs with h1 | ⟨b, off, cap, h1, h2, h3⟩
  · refine ⟨is, .inl h1, ?_⟩
    obtain ⟨_, _, _, rfl⟩ := h1
    exact fun s hs => by simp at hs
  · refine ⟨is, .inr ⟨b, off, cap, h1, h2, fun i x hi => ?_⟩, fun s hs => ?_⟩
    · obtain ⟨cs, ⟨rfl, hin⟩, hc⟩ := h3 i x hi
      have := hc 0 (by decide)
      simpa using this
    · obtain ⟨i, hi⟩ := List.getElem?_of_mem hs
      obtain ⟨cs, ⟨_, h⟩, _⟩ := h3 i s hi
      exact h
theorem open_pcells {H : Type} {enc : TypeId × Value → H} {W : World} {fuel : Nat} {cs : List Value} {x : DataW H × List MemPlace}
    (h : DataW.trod enc Tryz.prog W 0 (fun _ => true) true fuel 25 cs = some x) : ∃ (G : Int) (pv cv : Value) (ss : List ByteArray) (ks : List Cd), cs = [.int .i64 G, pv, cv] ∧ (PlIn W.heap.size W pv ss ∧ ∀ s ∈ ss, s.size ≤ maxLen) ∧ CdsIn W.heap.size W cv ks := by
  obtain ⟨xs, k, hk, _, hlen, hxl, hf⟩ := DataW.trod_struct Tryz.underlying25 h
  rw [show Tryz.prog.cellsOf 25 = 3 by kernel_rfl] at hlen
  match cs, hlen with
  | [v0, v1, v2], _ =>
    have ci : Tryz.prog.cellsOf 3 = 1 := by kernel_rfl
    have cp : Tryz.prog.cellsOf 22 = 1 := by kernel_rfl
    have cc : Tryz.prog.cellsOf 23 = 1 := by kernel_rfl
    have g0 := hf 0 _ rfl
    have g1 := hf 1 _ rfl
    have g2 := hf 2 _ rfl
    simp [ci, cp, cc] at g0 g1 g2
    match xs, hxl with
    | [y0, y1, y2], _ =>
      simp at g0 g1 g2
      obtain ⟨i0, r0, _, _⟩ := DataW.trod_int Tryz.underlying3 g0
      simp at r0
      subst r0
      obtain ⟨ss, hss⟩ := open_pool g1
      obtain ⟨ks, hks⟩ := open_codes g2
      exact ⟨i0, v1, v2, ss, ks, rfl, hss, hks⟩
theorem open_code {H : Type} {enc : TypeId × Value → H} {W : World} {b0 : Nat} {r : Reach} {v : Value} {d : DataW H} {p : List MemPlace}
    (hv : Value.okWide Tryz.prog W r b0 45 v) (h : DataW.Trod enc Tryz.prog W 0 (fun _ => true) true 45 v d p) :
    ∃ (c : Cd) (iv : Value), v = .agg #[.int .i64 c.p, .int .i64 c.l, .int .i64 c.s, .int .i64 c.d, iv] ∧ Hid (InsIn W.heap.size W iv c.ins) := by
  obtain ⟨cs, rfl, _⟩ := okWide_struct Tryz.underlying45 hv
  obtain ⟨fuel, hf⟩ := h
  obtain ⟨c, iv, e, hin⟩ := open_ccells hf
  refine ⟨c, iv, ?_, hin⟩
  have : cs.toList = [.int .i64 c.p, .int .i64 c.l, .int .i64 c.s, .int .i64 c.d, iv] := by simpa [Value.cells] using e
  have h2 : cs = (cs.toList).toArray := by simp
  rw [h2, this]
theorem open_prog {H : Type} {enc : TypeId × Value → H} {W : World} {b0 : Nat} {r : Reach} {v : Value} {d : DataW H} {p : List MemPlace}
    (hv : Value.okWide Tryz.prog W r b0 25 v) (h : DataW.Trod enc Tryz.prog W 0 (fun _ => true) true 25 v d p) :
    ∃ (G : Int) (pv cv : Value) (ss : List ByteArray) (ks : List Cd), v = .agg #[.int .i64 G, pv, cv] ∧ Hid ((PlIn W.heap.size W pv ss ∧ ∀ s ∈ ss, s.size ≤ maxLen) ∧ CdsIn W.heap.size W cv ks) := by
  obtain ⟨cs, rfl, _⟩ := okWide_struct Tryz.underlying25 hv
  obtain ⟨fuel, hf⟩ := h
  obtain ⟨G, pv, cv, ss, ks, e, hin⟩ := open_pcells hf
  refine ⟨G, pv, cv, ss, ks, ?_, hin⟩
  have : cs.toList = [.int .i64 G, pv, cv] := by simpa [Value.cells] using e
  have h2 : cs = (cs.toList).toArray := by simp
  rw [h2, this]

end Go.Proofs.YtnojlfdojmkonaaGreatDoor
