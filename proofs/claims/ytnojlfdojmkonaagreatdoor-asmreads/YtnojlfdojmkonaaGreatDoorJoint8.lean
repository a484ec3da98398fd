/- What the library's listed variables give the walks; a start that lays them; the wrap that keeps the world's shape. Arguments that are codes and programs, opened. -/
import Derived.Test.YtnojlfdojmkonaaGreatDoorAsGo
import Derived.Test.YtnojlfdojmkonaaGreatDoorRows
import Derived.ProofKit
import Derived.LaidMore
import Derived.OpenShut
import Derived.Stop.Joined
import Derived.Stop.LaidErr
import Derived.KernelRfl
import Derived.Lay
import Derived.Shelf.Vars
import Derived.Handed
import Derived.Test.YtnojlfdojmkonaaGreatDoorCdMem
import Derived.Deep.Slices
import Derived.Deep.Strs
import Derived.Carry
namespace Go.Proofs.YtnojlfdojmkonaaGreatDoor
open Go.ChangeShapes Go.WideShapes Go.ChangeAt Go.RowKit

def laidS : List (String × DataW Unit) := [("math/bits.deBruijn32tab", Rows.laid_math_bits_deBruijn32tab), ("math/bits.deBruijn64tab", Rows.laid_math_bits_deBruijn64tab), ("internal/strconv.uint64pow10", Rows.laid_internal_strconv_uint64pow10), ("unicode/utf8.acceptRanges", Rows.laid_unicode_utf8_acceptRanges), ("strconv.ErrRange", Rows.laid_strconv_ErrRange), ("strconv.ErrSyntax", Rows.laid_strconv_ErrSyntax), ("unicode/utf8.first", Rows.laid_unicode_utf8_first)]
theorem gES : Tryz.prog.globalNamed "strconv.ErrSyntax" = some 1 := by kernel_rfl
theorem gEST : (Tryz.prog.globals[1]?).map (·.type) = some 90 := by kernel_rfl
theorem gER : Tryz.prog.globalNamed "strconv.ErrRange" = some 2 := by kernel_rfl
theorem gERT : (Tryz.prog.globals[2]?).map (·.type) = some 90 := by kernel_rfl
theorem cellsE : Tryz.prog.cellsOf 156 = 1 := by kernel_rfl
theorem cellsS : Tryz.prog.cellsOf 9 = 1 := by kernel_rfl
theorem starE : "*" ++ "errors.errorString" = "*errors.errorString" := by decide
theorem rowE (u : TypeId) (h : Tryz.prog.typeName? 3 u = some "*errors.errorString") : u = 154 :=
  typeName_ptr_named (nm := "errors.errorString") (by rw [starE]; kernel_rfl) (by kernel_rfl) (by decide) u (by rw [starE]; exact h)
theorem of_laid {W : World} (h : laidMetH Tryz.prog laidS W) (hs : W.ShapedOpen Tryz.prog) : LibW W.heap.size W := by
  rw [MakeChecks.laidMetH_plain _ _ _ (by kernel_rfl)] at h
  have h4 := h.tail.tail.tail.tail
  obtain ⟨a1, s1, hv1, -, -, -⟩ := laid_sentinel h4 gER gERT Tryz.underlying90 rowE Tryz.underlying154 Tryz.underlying156 rfl rfl Tryz.underlying9 cellsE cellsS
  obtain ⟨a0, s0, hv0, -, -, -⟩ := laid_sentinel h4.tail gES gEST Tryz.underlying90 rowE Tryz.underlying154 Tryz.underlying156 rfl rfl Tryz.underlying9 cellsE cellsS
  obtain ⟨m, hm⟩ := cell_of_shapedOpen_int (zero := #[.int .i64 0]) (t := 3) (g := 0) hs (of_decide_eq_true (by kernel_rfl)) (by kernel_rfl) rfl (by kernel_rfl) (by kernel_rfl) Tryz.underlying3
  have hrow : ∃ z t, ((begin Tryz.prog (fun _ _ => 0) default).world.heap[7]?).bind Obj.row? = some (z, t) := by
    have : (((begin Tryz.prog (fun _ _ => 0) default).world.heap[7]?).bind Obj.row?).isSome = true := by kernel_rfl
    obtain ⟨⟨z, t⟩, hz⟩ := Option.isSome_iff_exists.1 this
    exact ⟨z, t, hz⟩
  obtain ⟨z, t, hz⟩ := hrow
  obtain ⟨cs, hcs, _⟩ := hs.1 7 z t (of_decide_eq_true (by kernel_rfl)) hz
  have h7 : 7 < W.heap.size := by
    rcases Nat.lt_or_ge 7 W.heap.size with h | h
    · exact h
    · simp [Array.getElem?_eq_none h] at hcs
  exact ⟨Nat.le_refl _, by omega, ⟨m, hm⟩, ⟨_, _, by have h0 := World.var?_cell gES hv0 0; simpa using h0⟩, ⟨_, _, by have h0 := World.var?_cell gER hv1 0; simpa using h0⟩⟩
section
variable {H : Type} {enc : TypeId × Value → H}
/-- the wrap, with the world's shape for the contract -/
theorem returns_shaped {a : Assume} {C : Checked} {os : Os} {f : FuncId} {fn : Func} {s : ChangeSpec} {conds : List PathCond} {apart fresh handsOn again : Bool} {X : World → Array Value → Prop}
    (hX : ∀ (w w' : World) (args : Array Value), w.heap = w'.heap → X w args → X w' args)
    (own : ownKnob C.prog.godebug = none) (started : os.Started) (noInit : C.prog.inits.idxOf? f = none) (hfn : C.prog.funcs[f]? = some fn)
    (witness : ∃ (w : World) (tape : Tape) (i : Input), w.os = os ∧ (w.forCall tape i).Shaped C.prog ∧ i.vars = [] ∧ Input.okWide C.prog (w.forCall tape i) .any w.heap.size f i ∧
      ((s.pre enc C.prog fn conds apart (w.forCall tape i).memory i.args ∧ X (w.forCall tape i).memory i.args) ∧ sizedMet enc C.prog fn (OpenSpec.ofChange s) apart (w.forCall tape i).memory i.args) ∧ a.holds C.prog (lone (Frame.enter C.prog f i.args .normal) [] (w.forCall tape i)))
    (contract : ∀ (W : World) (base : Nat) (args : Array Value) (ds gs : List (DataW H)) (before : List MemPlace),
      (∀ (j : Nat) t v, fn.params[j]? = some t → args[j]? = some v → Value.okWide C.prog W .any base t v) →
      DataW.Whole enc C.prog fn.params.toList s.vars apart W args.toList ds gs before → X W args → W.ShapedOpen C.prog →
      Calls C.prog f args W fun e W' => ∃ v, e = .returned v ∧ s.post enc C.prog fn apart fresh handsOn again W args v W') :
    ReturnsInHanded a C os f .any (fun w args => (s.pre enc C.prog fn conds apart w args ∧ X w args) ∧ sizedMet enc C.prog fn (OpenSpec.ofChange s) apart w args) (s.post enc C.prog fn apart fresh handsOn again) := by
  refine returnsInHanded_of_calls own started noInit witness ?_
  intro w tape i _ hsh _ hok hpre _
  obtain ⟨_, _, _, fn', hfn', _, _, _, _, hval⟩ := hok
  have e : fn' = fn := Option.some.inj (hfn'.symm.trans hfn)
  subst e
  obtain ⟨⟨⟨ds, gs, before, hw, _⟩, hx⟩, _⟩ := hpre
  have hw' := DataW.Whole.of_heap (w' := w.forCall tape i) (by rfl) hw
  refine (contract (w.forCall tape i) w.heap.size i.args ds gs before hval hw' (hX _ _ _ (by rfl) hx) hsh).mono fun e W' ⟨v, he, hp⟩ => ?_
  subst he
  exact ChangeSpec.post_blind hp
end
set_option maxRecDepth 100000 in
theorem start_shaped (os : Os) (args : Array Value) : ((World.laidAll Tryz.prog os laidS).forCall (fun _ _ => 0) ⟨#[], args, []⟩).Shaped Tryz.prog := World.shaped_of_ZipB (by kernel_rfl) (by kernel_rfl)
set_option maxRecDepth 100000 in
theorem start_met (os : Os) (args : Array Value) : laidMetH Tryz.prog laidS ((World.laidAll Tryz.prog os laidS).forCall (fun _ _ => 0) ⟨#[], args, []⟩).memory := by
  rw [MakeChecks.laidMetH_plain _ _ _ (by kernel_rfl)]
  exact laidMet_laidAll _ (by kernel_rfl) (by kernel_rfl)

end Go.Proofs.YtnojlfdojmkonaaGreatDoor

namespace Go.Proofs.YtnojlfdojmkonaaGreatDoor
open Go.ChangeShapes Go.WideShapes Go.ChangeAt Go.RowKit Go.Deep
set_option maxRecDepth 100000
set_option linter.unusedVariables false

theorem laidOutC : laidOutB Tryz.prog = true := by kernel_rfl
theorem ccell_lt {w : World} {b o : Nat} {v : Value} (h : w.cell? ⟨b, o, none⟩ = some v) : b < w.heap.size := by
  rcases Nat.lt_or_ge b w.heap.size with h' | h'
  · exact h'
  · simp [World.cell?, Array.getElem?_eq_none h'] at h
/-- a slice that came in, element by element -/
theorem open_row {H : Type} {enc : TypeId × Value → H} {W : World} {fuel : Nat} {v : Value} {y : DataW H × List MemPlace} {α : Type} (a0 : α) {sT eT : TypeId} {z : Nat} (hu : Tryz.prog.underlying sT = some (.slice eT)) (hz : Tryz.prog.cellsOf eT = z) (hz0 : 0 < z) (R : α → List Value → Prop)
    (hR : ∀ a cs, R a cs → cs.length = z) (each : ∀ fuel cs x, DataW.trod enc Tryz.prog W 0 (fun _ => true) true fuel eT cs = some x → ∃ a, R a cs) (h : DataW.trod enc Tryz.prog W 0 (fun _ => true) true fuel sT [v] = some y) :
    ∃ xs : List α, (∃ ao cap, v = .slice ao 0 cap ∧ xs = []) ∨ ∃ b off cap, v = .slice (some ⟨b, off, none⟩) xs.length cap ∧ b < W.heap.size ∧ ∀ (i : Nat) a, xs[i]? = some a → ∃ cs, R a cs ∧ ∀ j, j < z → W.cell? ⟨b, off + i * z + j, none⟩ = cs[j]? := by
  rcases DataW.trod_slice hu h with ⟨hcs, _⟩ | ⟨a, len, cap, elems, rest, n, hn, hcs, _, _, hl, _, hel, hall, _, _⟩
  · simp at hcs
    exact ⟨[], .inl ⟨none, 0, hcs, rfl⟩⟩
  · simp at hcs
    have each' : ∀ i, i < len → ∃ x : α, ∃ cs, R x cs ∧ ∀ j, j < z → W.cell? (a.add (i * z + j)) = cs[j]? := by
      intro i hi
      have h1 := hall i hi
      rw [List.getElem?_eq_getElem (by omega)] at h1
      obtain ⟨cs', h2, h3⟩ := Option.bind_eq_some_iff.1 h1
      rw [hz] at h2
      obtain ⟨_, _, hcell⟩ := World.cells?_some h2
      obtain ⟨x, hx⟩ := each _ _ _ h3
      refine ⟨x, cs', hx, fun j hj => ?_⟩
      have := hcell j (by have := hR x cs' hx; omega)
      rw [add_add] at this
      rw [this]
      try simp
    obtain ⟨f, hf'⟩ := @choose_lt α ⟨a0⟩ _ _ each'
    refine ⟨(List.range len).map f, ?_⟩
    by_cases h0 : len = 0
    · subst h0
      exact .inl ⟨some a, cap, hcs, rfl⟩
    · obtain ⟨b, off, spot⟩ := a
      obtain ⟨cs, hc, hc0⟩ := hf' 0 (by omega)
      have h00 := hc0 0 hz0
      rw [List.getElem?_eq_getElem (by have := hR _ _ hc; omega)] at h00
      have hspot : spot = none := by simpa [Addr.add] using World.cell?_spot h00
      subst hspot
      have ap : ∀ j, (⟨b, off, none⟩ : Addr).add j = ⟨b, off + j, none⟩ := fun j => by unfold Addr.add; split <;> simp_all
      rw [ap] at h00
      refine .inr ⟨b, off, cap, by simpa using hcs, ccell_lt h00, fun i g hi => ?_⟩
      obtain ⟨hi', rfl⟩ : i < len ∧ f i = g := by
        rw [List.getElem?_map] at hi
        by_cases hlt : i < len
        · rw [List.getElem?_range hlt] at hi
          exact ⟨hlt, by simpa using hi⟩
        · rw [List.getElem?_eq_none (by simpa using hlt)] at hi
          cases hi
      obtain ⟨cs, k0, k1⟩ := hf' i hi'
      refine ⟨cs, k0, fun j hj => ?_⟩
      have := k1 j hj
      rw [ap] at this
      rw [← this, Nat.add_assoc]
theorem open_instr {H : Type} {enc : TypeId × Value → H} {W : World} {fuel : Nat} {cs : List Value} {x : DataW H × List MemPlace}
    (h : DataW.trod enc Tryz.prog W 0 (fun _ => true) true fuel 67 cs = some x) : ∃ y : In, cs = [.int .i64 y.1, .int .i64 y.2.1, .int .i64 y.2.2] := by
  obtain ⟨xs, k, hk, _, hlen, hxl, hf⟩ := DataW.trod_struct Tryz.underlying67 h
  rw [show Tryz.prog.cellsOf 67 = 3 by kernel_rfl] at hlen
  match cs, hlen with
  | [v0, v1, v2], _ =>
    have ci : Tryz.prog.cellsOf 3 = 1 := by kernel_rfl
    have g0 := hf 0 _ rfl
    have g1 := hf 1 _ rfl
    have g2 := hf 2 _ rfl
    simp [ci] at g0 g1 g2
    match xs, hxl with
    | [y0, y1, y2], _ =>
      simp at g0 g1 g2
      obtain ⟨i0, r0, _, _⟩ := DataW.trod_int Tryz.underlying3 g0
      obtain ⟨i1, r1, _, _⟩ := DataW.trod_int Tryz.underlying3 g1
      obtain ⟨i2, r2, _, _⟩ := DataW.trod_int Tryz.underlying3 g2
      simp at r0 r1 r2
      subst r0 r1 r2
      exact ⟨(i0, i1, i2), rfl⟩
theorem open_instrs {H : Type} {enc : TypeId × Value → H} {W : World} {fuel : Nat} {v : Value} {y : DataW H × List MemPlace}
    (h : DataW.trod enc Tryz.prog W 0 (fun _ => true) true fuel 43 [v] = some y) : ∃ is : List In, InsIn W.heap.size W v is := by
  obtain ⟨is, hs⟩ := open_row (α := In) (0, 0, 0) Tryz.underlying43 (show Tryz.prog.cellsOf 67 = 3 by kernel_rfl) (by decide) (fun y cs => cs = [.int .i64 y.1, .int .i64 y.2.1, .int .i64 y.2.2]) (fun a cs h => by rw [h]; rfl) (fun fuel cs x h => open_instr h) h
  refine ⟨is, ?_⟩
  rcases hs with h1 | ⟨b, off, cap, h1, h2, h3⟩
  · exact .inl h1
  · refine .inr ⟨b, off, cap, h1, h2, fun i x hi => ?_⟩
    obtain ⟨cs, rfl, hc⟩ := h3 i x hi
    exact ⟨hc 0 (by decide), hc 1 (by decide), hc 2 (by decide)⟩
theorem open_ccells {H : Type} {enc : TypeId × Value → H} {W : World} {fuel : Nat} {cs : List Value} {x : DataW H × List MemPlace}
    (h : DataW.trod enc Tryz.prog W 0 (fun _ => true) true fuel 45 cs = some x) : ∃ (c : Cd) (iv : Value), cs = [.int .i64 c.p, .int .i64 c.l, .int .i64 c.s, .int .i64 c.d, iv] ∧ InsIn W.heap.size W iv c.ins := by
  obtain ⟨xs, k, hk, _, hlen, hxl, hf⟩ := DataW.trod_struct Tryz.underlying45 h
  rw [show Tryz.prog.cellsOf 45 = 5 by kernel_rfl] at hlen
  match cs, hlen with
  | [v0, v1, v2, v3, v4], _ =>
    have ci : Tryz.prog.cellsOf 3 = 1 := by kernel_rfl
    have csk : Tryz.prog.cellsOf 43 = 1 := by kernel_rfl
    have g0 := hf 0 _ rfl
    have g1 := hf 1 _ rfl
    have g2 := hf 2 _ rfl
    have g3 := hf 3 _ rfl
    have g4 := hf 4 _ rfl
    simp [ci, csk] at g0 g1 g2 g3 g4
    match xs, hxl with
    | [y0, y1, y2, y3, y4], _ =>
      simp at g0 g1 g2 g3 g4
      obtain ⟨i0, r0, _, _⟩ := DataW.trod_int Tryz.underlying3 g0
      obtain ⟨i1, r1, _, _⟩ := DataW.trod_int Tryz.underlying3 g1
      obtain ⟨i2, r2, _, _⟩ := DataW.trod_int Tryz.underlying3 g2
      obtain ⟨i3, r3, _, _⟩ := DataW.trod_int Tryz.underlying3 g3
      simp at r0 r1 r2 r3
      subst r0 r1 r2 r3
      obtain ⟨is, his⟩ := open_instrs g4
      exact ⟨⟨i0, i1, i2, i3, is⟩, v4, rfl, his⟩
theorem open_codes {H : Type} {enc : TypeId × Value → H} {W : World} {fuel : Nat} {v : Value} {y : DataW H × List MemPlace}
    (h : DataW.trod enc Tryz.prog W 0 (fun _ => true) true fuel 23 [v] = some y) : ∃ cs : List Cd, CdsIn W.heap.size W v cs := by
  obtain ⟨is, hs⟩ := open_row (α := Cd) ⟨0, 0, 0, 0, []⟩ Tryz.underlying23 (show Tryz.prog.cellsOf 45 = 5 by kernel_rfl) (by decide) (fun c cs => ∃ iv, cs = [.int .i64 c.p, .int .i64 c.l, .int .i64 c.s, .int .i64 c.d, iv] ∧ InsIn W.heap.size W iv c.ins) (fun a cs ⟨iv, h, _⟩ => by rw [h]; rfl) (fun fuel cs x h => by
    obtain ⟨c, iv, h1, h2⟩ := open_ccells h
    exact ⟨c, iv, h1, h2⟩) h
  refine ⟨is, ?_⟩
  rcases hs with h1 | ⟨b, off, cap, h1, h2, h3⟩
  · exact .inl h1
  · refine .inr ⟨b, off, cap, h1, h2, fun i x hi => ?_⟩
    obtain ⟨cs, ⟨iv, rfl, hin⟩, hc⟩ := h3 i x hi
    exact ⟨iv, hc 0 (by decide), hc 1 (by decide), hc 2 (by decide), hc 3 (by decide), hc 4 (by decide), hin⟩
theorem open_pool {H : Type} {enc : TypeId × Value → H} {W : World} {fuel : Nat} {v : Value} {y : DataW H × List MemPlace}
    (h : DataW.trod enc Tryz.prog W 0 (fun _ => true) true fuel 22 [v] = some y) : ∃ ss : List ByteArray, PlIn W.heap.size W v ss ∧ ∀ s ∈ ss, s.size ≤ maxLen := by
  obtain ⟨is, hs⟩ := open_row (α := ByteArray) ⟨#[]⟩ Tryz.underlying22 (show Tryz.prog.cellsOf 9 = 1 by kernel_rfl) (by decide) (fun s cs => cs = [.string s] ∧ s.size ≤ maxLen) (fun a cs h => by rw [h.1]; rfl) (fun fuel cs x h => by
    obtain ⟨s, h1, _, h2⟩ := DataW.trod_string Tryz.underlying9 h
    exact ⟨s, h1, h2⟩) h
  rcases hs with h1 | ⟨b, off, cap, h1, h2, h3⟩
  · refine ⟨is, .inl h1, ?_⟩
    obtain ⟨_, _, _, rfl⟩ := h1
    exact fun s hs => by simp at hs
  · refine ⟨is, .inr ⟨b, off, cap, h1, h2, fun i x hi => ?_⟩, fun s hs => ?_⟩
    · obtain ⟨cs, ⟨rfl, hin⟩, hc⟩ := h3 i x hi
      have := hc 0 (by decide)
      simpa using this
    · obtain ⟨i, hi⟩ := List.getElem?_of_mem hs
      obtain ⟨cs, ⟨_, h⟩, _⟩ := h3 i s hi
      exact h
theorem open_pcells {H : Type} {enc : TypeId × Value → H} {W : World} {fuel : Nat} {cs : List Value} {x : DataW H × List MemPlace}
    (h : DataW.trod enc Tryz.prog W 0 (fun _ => true) true fuel 25 cs = some x) : ∃ (G : Int) (pv cv : Value) (ss : List ByteArray) (ks : List Cd), cs = [.int .i64 G, pv, cv] ∧ (PlIn W.heap.size W pv ss ∧ ∀ s ∈ ss, s.size ≤ maxLen) ∧ CdsIn W.heap.size W cv ks := by
  obtain ⟨xs, k, hk, _, hlen, hxl, hf⟩ := DataW.trod_struct Tryz.underlying25 h
  rw [show Tryz.prog.cellsOf 25 = 3 by kernel_rfl] at hlen
  match cs, hlen with
  | [v0, v1, v2], _ =>
    have ci : Tryz.prog.cellsOf 3 = 1 := by kernel_rfl
    have cp : Tryz.prog.cellsOf 22 = 1 := by kernel_rfl
    have cc : Tryz.prog.cellsOf 23 = 1 := by kernel_rfl
    have g0 := hf 0 _ rfl
    have g1 := hf 1 _ rfl
    have g2 := hf 2 _ rfl
    simp [ci, cp, cc] at g0 g1 g2
    match xs, hxl with
    | [y0, y1, y2], _ =>
      simp at g0 g1 g2
      obtain ⟨i0, r0, _, _⟩ := DataW.trod_int Tryz.underlying3 g0
      simp at r0
      subst r0
      obtain ⟨ss, hss⟩ := open_pool g1
      obtain ⟨ks, hks⟩ := open_codes g2
      exact ⟨i0, v1, v2, ss, ks, rfl, hss, hks⟩
theorem open_code {H : Type} {enc : TypeId × Value → H} {W : World} {b0 : Nat} {r : Reach} {v : Value} {d : DataW H} {p : List MemPlace}
    (hv : Value.okWide Tryz.prog W r b0 45 v) (h : DataW.Trod enc Tryz.prog W 0 (fun _ => true) true 45 v d p) :
    ∃ (c : Cd) (iv : Value), v = .agg #[.int .i64 c.p, .int .i64 c.l, .int .i64 c.s, .int .i64 c.d, iv] ∧ Hid (InsIn W.heap.size W iv c.ins) := by
  obtain ⟨cs, rfl, _⟩ := okWide_struct Tryz.underlying45 hv
  obtain ⟨fuel, hf⟩ := h
  obtain ⟨c, iv, e, hin⟩ := open_ccells hf
  refine ⟨c, iv, ?_, hin⟩
  have : cs.toList = [.int .i64 c.p, .int .i64 c.l, .int .i64 c.s, .int .i64 c.d, iv] := by simpa [Value.cells] using e
  have h2 : cs = (cs.toList).toArray := by simp
  rw [h2, this]
theorem open_prog {H : Type} {enc : TypeId × Value → H} {W : World} {b0 : Nat} {r : Reach} {v : Value} {d : DataW H} {p : List MemPlace}
    (hv : Value.okWide Tryz.prog W r b0 25 v) (h : DataW.Trod enc Tryz.prog W 0 (fun _ => true) true 25 v d p) :
    ∃ (G : Int) (pv cv : Value) (ss : List ByteArray) (ks : List Cd), v = .agg #[.int .i64 G, pv, cv] ∧ Hid ((PlIn W.heap.size W pv ss ∧ ∀ s ∈ ss, s.size ≤ maxLen) ∧ CdsIn W.heap.size W cv ks) := by
  obtain ⟨cs, rfl, _⟩ := okWide_struct Tryz.underlying25 hv
  obtain ⟨fuel, hf⟩ := h
  obtain ⟨G, pv, cv, ss, ks, e, hin⟩ := open_pcells hf
  refine ⟨G, pv, cv, ss, ks, ?_, hin⟩
  have : cs.toList = [.int .i64 G, pv, cv] := by simpa [Value.cells] using e
  have h2 : cs = (cs.toList).toArray := by simp
  rw [h2, this]

end Go.Proofs.YtnojlfdojmkonaaGreatDoor
