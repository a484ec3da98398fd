/- A function's code. -/
import Derived.Test.YtgdbaceehpcgbaaDoorJoint10
import Derived.Test.YtgdbaceehpcgbaaDoorCpNode2
import Derived.Test.YtgdbaceehpcgbaaDoorCdEff
namespace Go.Proofs.YtgdbaceehpcgbaaDoor
set_option linter.unusedSimpArgs false
open Go.RowKit

theorem eff_few (o a : Int) : 0 ≤ (effI o a).1 ∧ (effI o a).1 ≤ 8 ∧ 0 ≤ (effI o a).2 ∧ (effI o a).2 ≤ 8 := by
  have key : ∀ (p : Prop) [Decidable p] (x y : Int × Int), (0 ≤ x.1 ∧ x.1 ≤ 8 ∧ 0 ≤ x.2 ∧ x.2 ≤ 8) → (0 ≤ y.1 ∧ y.1 ≤ 8 ∧ 0 ≤ y.2 ∧ y.2 ≤ 8) → (0 ≤ (if p then x else y).1 ∧ (if p then x else y).1 ≤ 8 ∧ 0 ≤ (if p then x else y).2 ∧ (if p then x else y).2 ≤ 8) := by
    intro p _ x y h1 h2
    split <;> assumption
  have hp : 0 ≤ (effP o).1 ∧ (effP o).1 ≤ 8 ∧ 0 ≤ (effP o).2 ∧ (effP o).2 ≤ 8 := by
    unfold effP
    repeat (refine key _ _ _ (by decide) ?_)
    decide
  have hb : 1 ≤ a ∧ a ≤ 7 → 0 ≤ bltN a ∧ bltN a ≤ 8 := by
    intro h
    obtain ⟨h1, h2⟩ := built_many h
    omega
  unfold effI
  refine key _ _ _ ?_ (key _ _ _ ?_ (key _ _ _ ?_ hp))
  · split
    · simp only; omega
    · decide
  · split
    · simp only; omega
    · decide
  · split
    · rename_i h
      have := hb h
      simp only; omega
    · decide
theorem deepG_take : ∀ (l : List In) (j : Nat) (x : In) (d m : Int), l[j]? = some x → deepG (l.drop j) d m = deepG (l.drop (j + 1)) (d - (effI x.1 x.2.1).1 + (effI x.1 x.2.1).2) (max m (d - (effI x.1 x.2.1).1 + (effI x.1 x.2.1).2)) := by
  intro l j x d m h
  obtain ⟨hj, rfl⟩ := List.getElem?_eq_some_iff.1 h
  rw [List.drop_eq_getElem_cons hj, deepG]
set_option maxHeartbeats 1600000 in
theorem deepest_calls (is : List In) (B : Nat) (w : World) (v : Value) (hB : B ≤ w.heap.size) (hI : Hid (InsIn B w v is)) (hl : is.length ≤ 1000000) :
    Calls Tryd.prog 33 #[v] w fun e w' => e = .returned (.int .i64 (deepC is)) ∧ Below w.heap.size w w' := by
  obtain ⟨ao, cap, rfl⟩ := insIn_shape hI.out
  generalize hF : deepC is = F
  have HF := hid hF
  clear hF
  go_enter Tryd.func33, Tryd.ntmps33
  go_wp2_with fail
  go_loopw [3, 4, 11] (fun dv mv i wr => ∃ (j : Nat) (d m : Int), j ≤ is.length ∧ i = .int .i64 j ∧ dv = .int .i64 d ∧ mv = .int .i64 m ∧ (-8 * (j : Int) ≤ d ∧ d ≤ 8 * (j : Int)) ∧ deepG (is.drop j) d m = F ∧ Hid (Below w.heap.size w wr)) (fun _ _ i _ => is.length - (intOf i).toNat)
  case atStart => exact ⟨0, 0, 0, Nat.zero_le _, rfl, rfl, rfl, by omega, HF.out, hid (Below.refl _ _)⟩
  case round =>
    obtain ⟨j, d, m, hj, rfl, rfl, rfl, hd, hE, BB⟩ := hrel
    by_cases hjl : j < is.length
    · have hx : is[j]? = some is[j] := List.getElem?_eq_getElem hjl
      obtain ⟨b, off, rfl, hbB, c0, c1, c2⟩ := insIn_at (insIn_on hI.out (BB.out.mono hB)) hx
      rw [deepG_take is j _ d m hx] at hE
      have hef := eff_few is[j].1 is[j].2.1
      generalize is[j] = x at *
      obtain ⟨o, a, z⟩ := x
      dsimp only at *
      have HE := hid hE
      have hsz := BB.out.size
      have hbw : b < wr.heap.size := by omega
      clear hE hx
      have AR := hid ((Below.refl wr.heap.size wr).alloc (Nat.le_refl _) (.cells #[.int .i64 o, .int .i64 a, .int .i64 z] 51))
      go_wp2_with fail
      refine (effect_calls o a z _).mono ?_
      rintro e w1 ⟨rfl, b1⟩
      have B1 := hid (below_on (below_on BB.out AR.out) b1)
      clear b1
      generalize effI o a = ef at *
      obtain ⟨pp, pq⟩ := ef
      dsimp only at *
      have w1' : IntKind.i64.wrap (pq - pp) = pq - pp := by rw [IntKind.wrap_i64]; omega
      have w2' : IntKind.i64.wrap (d + (pq - pp)) = d - pp + pq := by rw [IntKind.wrap_i64]; omega
      go_wp2_with fail
      go_roundw
      case rel => exact ⟨j + 1, _, _, by omega, by go_num, rfl, congrArg (Value.int .i64) (show (if m < d - pp + pq then d - pp + pq else m) = max m (d - pp + pq) by split <;> omega), by push_cast; omega, HE.out, B1⟩
      case measure => simp [intOf]; omega
    · have e : is.drop j = [] := List.drop_eq_nil_iff.2 (by omega)
      rw [e, deepG] at hE
      have HE := hid hE
      clear hE e
      go_wp2_with fail
      go_ret
      have := HE.out
      subst this
      exact ⟨rfl, BB.out⟩

/-- instructions in a block that is not of T -/
def InsK (T : Nat → Prop) (w : World) (v : Value) (is : List In) : Prop := ∃ b cap cs, v = .slice (some ⟨b, 0, none⟩) is.length cap ∧ ¬ T b ∧ Blk b 51 cs w ∧ ∀ (i : Nat) x, is[i]? = some x → InAt b (0 + i * 3) x w
theorem InsK.ins {T : Nat → Prop} {w : World} {v : Value} {is : List In} (h : InsK T w v is) : InsIn w.heap.size w v is := by
  obtain ⟨b, cap, cs, rfl, _, h1, h2⟩ := h
  exact .inr ⟨b, 0, cap, rfl, blk_lt h1, h2⟩
/-- blocks of U have another type, or are not this one -/
theorem InsK.keep {S T U : Nat → Prop} {a c : World} {v : Value} {is : List In} (h : InsK S a v is) (k : Keep U a c) (hU : ∀ b cs, Blk b 51 cs a → ¬ S b → ¬ U b) (hT : ∀ b, b < a.heap.size → T b → S b) : InsK T c v is := by
  obtain ⟨b, cap, cs, e, h0, h1, h2⟩ := h
  have hn := hU b cs h1 h0
  refine ⟨b, cap, cs, e, fun q => h0 (hT b (blk_lt h1) q), blk_keep h1 k hn, fun i x hi => ?_⟩
  have hc : ∀ j, c.cell? ⟨b, j, none⟩ = a.cell? ⟨b, j, none⟩ := fun j => by simp [World.cell?, k.block b (blk_lt h1) hn]
  obtain ⟨g0, g1, g2⟩ := h2 i x hi
  exact ⟨(hc _).trans g0, (hc _).trans g1, (hc _).trans g2⟩
theorem insK_row {T : Nat → Prop} {w : World} {v : Value} {is : List In} (h : w.ownsRow 0 51 3 v is.length (insC is)) (h0 : 0 < is.length) (hT : ∀ b, v.ownBlock = some b → ¬ T b) : InsK T w v is := by
  obtain ⟨g, cap, rfl, _, hg⟩ := h.form h0
  obtain ⟨cur, hc⟩ := row_lt h (g := g) rfl
  refine ⟨g, cap, cur, rfl, hT g rfl, hc, fun i x hi => ?_⟩
  obtain ⟨h1, h2, h3⟩ := insC_at hi
  rw [Nat.zero_add, Nat.mul_comm]
  exact ⟨row_cell h h1, row_cell h h2, row_cell h h3⟩
theorem pl_far {S : Nat → Prop} {p g : Nat} {L : List ByteArray} {T : TypeId} {cs : Array Value} {w w' : World} (h : PlS S p L w) (hg : Blk g T cs w) (h1 : T ≠ 59) (h2 : T ≠ 9) (k : Keep (fun b => b = g) w w') : PlS S p L w' := by
  obtain ⟨m, tv, h3, h4⟩ := h
  have hf := h3.far hg h1 h2
  exact ⟨m, tv, h3.keep fun b hb => k.block b (h3.lt hb) (fun e => hf (by subst e; exact hb)), h4⟩
theorem ret_code {fn : Func} {t : Tmp} (h : fn.results = #[.cell t 41]) {tmps : Array Value} {g : Nat} {w : World} {v0 v1 v2 v3 v4 : Value} (ht : tmps.getD t undef = .pointer (some ⟨g, 0, none⟩)) (hb : Blk g 41 #[v0, v1, v2, v3, v4] w) :
    (results fn tmps).run Tryd.prog w = .ok (.agg #[v0, v1, v2, v3, v4]) w := by
  rw [Array.getD_eq_getD_getElem?] at ht
  have c0 := blk_cell hb 0
  have c1 := blk_cell hb 1
  have c2 := blk_cell hb 2
  have c3 := blk_cell hb 3
  have c4 := blk_cell hb 4
  simp at c0 c1 c2 c3 c4
  simp [results, h, ht, go_sem, asAddr, c0, c1, c2, c3, c4]
set_option maxHeartbeats 3200000 in
set_option maxRecDepth 100000 in
theorem function_calls {bb : Bds} (f : Int × Int × List Nd) (hr : Hid ((f.2.2.all fun x => rightD bb x 2) = true)) (F : Nat → Prop) (p B : Nat) (L : List ByteArray) (w : World) (kv : Value) (hB : Hid (B ≤ w.heap.size)) (hS : Hid (∀ b, F b → B ≤ b)) (hP : Hid (PlS F p L w)) (hN : Hid (KidsIn B w kv f.2.2)) (hc : countL f.2.2 ≤ 20000) (hL : L.length ≤ 10000) :
    Calls Tryd.prog 19 #[.agg #[.int .i64 f.1, .int .i64 f.2.1, kv], .pointer (some ⟨p, 0, none⟩)] w fun e w' => ∃ iv T, e = .returned (.agg #[.int .i64 f.1, .int .i64 f.2.1, .int .i64 (bodyC f.2.2 L).2.2, .int .i64 (deepC (bodyC f.2.2 L).1), iv]) ∧
      PlS T p (bodyC f.2.2 L).2.1 w' ∧ (∀ b, T b → Up F w b) ∧ Keep F w w' ∧ InsK T w' iv (bodyC f.2.2 L).1 := by
  obtain ⟨pn, ln, body⟩ := f
  dsimp only at *
  obtain ⟨ka, kc, rfl, _⟩ := kidsIn_cases hN.out
  have hF0 := hP.out.mono (T := fun b => F b ∧ b < w.heap.size) (fun b hb q => ⟨q, hb⟩)
  have A1 := (Below.refl w.heap.size w).alloc (Nat.le_refl _) (.cells #[.int .i64 pn, .int .i64 ln, .slice ka body.length kc] 44)
  have A2 := A1.alloc (by simp) (.cells #[.int .i64 0, .int .i64 0, .int .i64 0, .int .i64 0, .slice none 0 0] 41)
  have A3 := A2.alloc (by simp; omega) (.cells #[.pointer (some ⟨p, 0, none⟩), .slice none 0 0, .int .i64 0] 80)
  have B1 := blk_on (blk_on (blk_new w 44 #[.int .i64 pn, .int .i64 ln, .slice ka body.length kc]) ((Below.refl _ _).alloc (Nat.le_refl _) (.cells #[.int .i64 0, .int .i64 0, .int .i64 0, .int .i64 0, .slice none 0 0] 41))) ((Below.refl _ _).alloc (Nat.le_refl _) (.cells #[.pointer (some ⟨p, 0, none⟩), .slice none 0 0, .int .i64 0] 80))
  have B2 := blk_on (blk_new (w.alloc (.cells #[.int .i64 pn, .int .i64 ln, .slice ka body.length kc] 44)) 41 #[.int .i64 0, .int .i64 0, .int .i64 0, .int .i64 0, .slice none 0 0]) ((Below.refl _ _).alloc (Nat.le_refl _) (.cells #[.pointer (some ⟨p, 0, none⟩), .slice none 0 0, .int .i64 0] 80))
  have B3 := blk_new ((w.alloc (.cells #[.int .i64 pn, .int .i64 ln, .slice ka body.length kc] 44)).alloc (.cells #[.int .i64 0, .int .i64 0, .int .i64 0, .int .i64 0, .slice none 0 0] 41)) 80 #[.pointer (some ⟨p, 0, none⟩), .slice none 0 0, .int .i64 0]
  simp only [World.size_alloc] at B2 B3
  generalize hW : ((w.alloc (.cells #[.int .i64 pn, .int .i64 ln, .slice ka body.length kc] 44)).alloc (.cells #[.int .i64 0, .int .i64 0, .int .i64 0, .int .i64 0, .slice none 0 0] 41)).alloc (.cells #[.pointer (some ⟨p, 0, none⟩), .slice none 0 0, .int .i64 0] 80) = w0 at *
  have z0 : w0.heap.size = w.heap.size + 1 + 1 + 1 := by rw [← hW]; simp
  have O0 := hid (On.start (S0 := fun b => (F b ∧ b < w.heap.size) ∨ b = w.heap.size + 1 + 1) (l := w.heap.size + 1 + 1) (p := p) (I := []) (c := (L, 0)) (W0 := w0) ⟨.slice none 0 0, ⟨(hF0.on A3).mono (fun b _ q => .inl q), B3, ⟨rfl, .inl ⟨rfl, rfl⟩⟩, .inr rfl, fun b hb => by cases hb⟩⟩)
  have hS0 : Hid (∀ b, ((F b ∧ b < w.heap.size) ∨ b = w.heap.size + 1 + 1) → B ≤ b) := hid (fun b q => q.elim (fun q => hS.out b q.1) (fun q => by have := hB.out; omega))
  have hB0 : Hid (B ≤ w0.heap.size) := hid (by have := hB.out; omega)
  have AB := hid A3
  have BX := hid B1
  have BC := hid B2
  have HK := hid (fun x hx => lays x 2 (List.all_eq_true.1 hr.out x hx))
  have R0 : Hid (Rm [] (L, 0) (countL body) 3) := hid ⟨by simp; omega, by simp only; omega, Int.le_refl _, by simp only; omega⟩
  have q2 : w0.cell? ⟨w.heap.size, 2, none⟩ = some (.slice ka body.length kc) := blk_cellZ B1 2 rfl
  have ZZ := hid z0
  clear A1 A2 A3 B1 B2 B3 hF0 z0
  go_enter Tryd.func19, Tryd.ntmps19
  go_wp2_with fail
  refine (nodes_of body HK _ _ p _ _ B w0 _ hB0 hS0 (hid O0.out.ly) (hid (kidsIn_on (AB.out.mono hB.out) hN.out)) (hid (R0.out.to (by omega) (by omega)))).mono ?_
  rintro e w1 ⟨rfl, g⟩
  have O1 := hid (O0.out.step g)
  have R1 := hid (Rm.many (ks := body) (m := 0) (d := 3) (R0.out.to (by omega) (by omega)))
  clear g q2
  go_wp2_with fail
  refine (lay_calls w1 O1.out.ly (by have := R1.out.ins; omega) 2 0).mono ?_
  rintro e w2 ⟨rfl, g⟩
  have O2 := hid (O1.out.step g)
  have R2 := hid (Rm.one (n := 0) (d := 2) (2, 0, 0) (R1.out.to (by omega) (by omega)))
  clear g
  go_wp2_with fail
  refine (lay_calls w2 O2.out.ly (by have := R2.out.ins; omega) 32 0).mono ?_
  rintro e w3 ⟨rfl, g⟩
  have O3 := hid (O2.out.step g)
  have R3 := hid (Rm.one (n := 0) (d := 1) (32, 0, 0) (R2.out.to (by omega) (by omega)))
  clear g
  have hJ : joinC [] (kN body (L, 0)).1 ++ [(2, 0, 0)] ++ [(32, 0, 0)] = (bodyC body L).1 := by rw [nil_join, body_kN, List.append_assoc]; rfl
  rw [hJ] at O3 R3
  rw [show (kN body (L, 0)).2 = (bodyC body L).2 from rfl] at O3 R3
  have hpos : 0 < (bodyC body L).1.length := by simp [bodyC]
  have hlen := R3.out.ins
  generalize hJe : (bodyC body L).1 = J at *
  generalize hDe : (bodyC body L).2 = d at *
  have HJ := hid hJe
  have HD := hid hDe
  clear hJe hDe
  obtain ⟨M, st⟩ := d
  obtain ⟨v, hly⟩ := O3.out.ly
  obtain ⟨ga, gc, rfl⟩ := row_shape hly.row
  obtain ⟨T, hT1, hT2, _, hT4, hT5⟩ := ly_tight hly
  have l1 : w3.cell? ⟨w.heap.size + 1 + 1, 1, none⟩ = some (.slice ga J.length gc) := blk_cellZ hly.blk 1 rfl
  have l2 : w3.cell? ⟨w.heap.size + 1 + 1, 2, none⟩ = some (.int .i64 st) := blk_cellZ hly.blk 2 rfl
  have KX := hid (blk_keep BX.out O3.out.keep (fun q => q.elim (fun q => by have := q.2; omega) (fun q => by omega)))
  have KC := hid (blk_keep BC.out O3.out.keep (fun q => q.elim (fun q => by have := q.2; omega) (fun q => by omega)))
  have f0 : w3.cell? ⟨w.heap.size, 0, none⟩ = some (.int .i64 pn) := blk_cellZ KX.out 0 rfl
  have f1 : w3.cell? ⟨w.heap.size, 1, none⟩ = some (.int .i64 ln) := blk_cellZ KX.out 1 rfl
  have IK := hid (insK_row (T := fun b => T b ∨ b = w.heap.size + 1) hly.row hpos (fun b hb q => q.elim (hT4 b hb) (fun e => by
    obtain ⟨cur, hcu⟩ := row_lt hly.row hb
    exact blk_apart hcu KC.out (by decide) e)))
  have PK := hid hT1
  have hTU : Hid (∀ b, T b → Up F w b) := hid (fun b q => (O3.out.sub b (hT2 b q)).elim (fun q => q.elim (fun q => .inl q.1) (fun q => .inr (by omega))) (fun q => .inr (by have := ZZ.out; omega)))
  have KK := hid ((Keep.of (S := F) AB.out).trans O3.out.keep (fun b hb q => q.elim (fun q => q.1) (fun q => by omega)))
  have hz3 : w.heap.size + 1 + 1 + 1 ≤ w3.heap.size := by have h1 := O3.out.keep.size; have h2 := ZZ.out; omega
  clear hly hT1 hT2 hT4 hT5 O0 O1 O2 R0 R1 R2 R3 HK hJ hW
  have g1 : w.heap.size < w3.heap.size := by omega
  have g2 : w.heap.size + 1 < w3.heap.size := by omega
  have g3 : w.heap.size + 1 + 1 < w3.heap.size := by omega
  have n1 : w.heap.size ≠ w.heap.size + 1 := by omega
  have n2 : w.heap.size + 1 + 1 ≠ w.heap.size + 1 := by omega
  have n3 := hid (show w.heap.size ≤ w.heap.size + 1 by omega)
  clear O3 hS0 ZZ hz3
  generalize w.heap.size + 1 + 1 = lb at *
  generalize w.heap.size + 1 = cb at *
  go_wp2_with fail
  refine wp_region_held_drew (S := fun aZ => aZ.cell? ⟨w.heap.size, 0, none⟩ = some (.int .i64 pn) ∧ aZ.cell? ⟨w.heap.size, 1, none⟩ = some (.int .i64 ln) ∧ aZ.cell? ⟨lb, 1, none⟩ = some (.slice ga J.length gc) ∧ aZ.cell? ⟨lb, 2, none⟩ = some (.int .i64 st)) (by kernel_rfl) ?_ (fun hHeld => ?_)
  · (refine ⟨?_, ?_, ?_, ?_⟩ <;> go_simp)
  refine tkk 0 ?_
  refine tkk 1 ?_
  refine tkk 2 ?_
  refine tkk 3 ?_
  refine tkk 4 ?_
  refine tkk 5 ?_
  refine tkk 6 ?_
  refine tkk 7 ?_
  refine tkk 8 ?_
  refine tkk 9 ?_
  refine tkk 10 ?_
  refine tkk 11 ?_
  refine tkk 13 ?_
  refine tkk 14 ?_
  refine tkk 15 ?_
  refine tkk 16 ?_
  refine rdy 12 (fun K hK => ?_)
  go_simp
  refine (deepest_calls J w3.heap.size w3.drew _ (Nat.le_refl _) (hid (insIn_on IK.out.ins (Below.refl _ _).drew)) (by omega)).mono ?_
  rintro e w4 ⟨rfl, b4⟩
  have D4 : Below w3.heap.size w3 w4 := (Below.refl _ _).drew.trans b4
  have x0 : w4.cell? ⟨w.heap.size, 0, none⟩ = some (.int .i64 pn) := (D4.cell (p := ⟨w.heap.size, 0, none⟩) (by show w.heap.size < _; omega)).trans f0
  have x1 : w4.cell? ⟨w.heap.size, 1, none⟩ = some (.int .i64 ln) := (D4.cell (p := ⟨w.heap.size, 1, none⟩) (by show w.heap.size < _; omega)).trans f1
  have y1 : w4.cell? ⟨lb, 1, none⟩ = some (.slice ga J.length gc) := (D4.cell (p := ⟨lb, 1, none⟩) (by show lb < _; omega)).trans l1
  have y2 : w4.cell? ⟨lb, 2, none⟩ = some (.int .i64 st) := (D4.cell (p := ⟨lb, 2, none⟩) (by show lb < _; omega)).trans l2
  have C4 := blk_on KC.out D4
  have d0 : w4.cell? ⟨cb, 0, none⟩ = some (.int .i64 0) := blk_cellZ C4 0 rfl
  have d1 : w4.cell? ⟨cb, 1, none⟩ = some (.int .i64 0) := blk_cellZ C4 1 rfl
  have d2 : w4.cell? ⟨cb, 2, none⟩ = some (.int .i64 0) := blk_cellZ C4 2 rfl
  have d3 : w4.cell? ⟨cb, 3, none⟩ = some (.int .i64 0) := blk_cellZ C4 3 rfl
  have d4 : w4.cell? ⟨cb, 4, none⟩ = some (.slice none 0 0) := blk_cellZ C4 4 rfl
  have e0 := blk_free C4 0
  have e1 := blk_free C4 1
  have e2 := blk_free C4 2
  have e3 := blk_free C4 3
  have e4 := blk_free C4 4
  have H4 := hid D4
  have HC4 := hid C4
  clear D4 C4 b4
  go_simp
  refine hK.out _ _ ?_ (fun _ => ?_)
  · (refine ⟨?_, ?_, ?_, ?_⟩ <;> (first | assumption | go_simp))
  clear hK K
  refine tkk 17 ?_
  refine rdy 18 (fun K hK => ?_)
  go_simp
  refine hK.out _ _ ?_ (fun _ => ?_)
  · (refine ⟨?_, ?_, ?_, ?_⟩ <;> go_simp)
  clear hK K
  refine wpAnyH_done (by kernel_rfl) ?_ _
  go_wp2_with fail
  have K5 := hid ((((((Keep.set (S := fun b => b = cb) rfl w4 0 (.int .i64 pn)).trans (Keep.set (S := fun b => b = cb) rfl _ 1 (.int .i64 ln)) (fun _ _ q => q)).trans (Keep.set (S := fun b => b = cb) rfl _ 2 (.int .i64 st)) (fun _ _ q => q)).trans (Keep.set (S := fun b => b = cb) rfl _ 3 (.int .i64 (deepC J))) (fun _ _ q => q)).trans (Keep.set (S := fun b => b = cb) rfl _ 4 (.slice ga J.length gc)) (fun _ _ q => q)))
  have HB5 := hid (blk_set (blk_set (blk_set (blk_set (blk_set HC4.out 0 (.int .i64 pn)) 1 (.int .i64 ln)) 2 (.int .i64 st)) 3 (.int .i64 (deepC J))) 4 (.slice ga J.length gc))
  generalize hW6 : ((((w4.setCell ⟨cb, 0, none⟩ (.int .i64 pn)).setCell ⟨cb, 1, none⟩ (.int .i64 ln)).setCell ⟨cb, 2, none⟩ (.int .i64 st)).setCell ⟨cb, 3, none⟩ (.int .i64 (deepC J))).setCell ⟨cb, 4, none⟩ (.slice ga J.length gc) = w6 at *
  refine bodyPost_ret (ret_code rfl rfl (show Blk cb 41 #[.int .i64 pn, .int .i64 ln, .int .i64 st, .int .i64 (deepC J), .slice ga J.length gc] w6 by simpa using HB5.out)) rfl ?_
  rw [HJ.out, HD.out]
  refine ⟨_, T, rfl, pl_far (PK.out.on H4.out) HC4.out (by decide) (by decide) K5.out, hTU.out, (KK.out.trans (Keep.of (S := F) H4.out) (fun _ _ q => q)).trans K5.out (fun b hb q => by subst q; have := n3.out; omega), ?_⟩
  exact IK.out.keep (U := fun b => b = cb) ((Keep.of (S := fun b => b = cb) H4.out).trans K5.out (fun _ _ q => q)) (fun b _ _ h q => h (.inr q)) (fun b _ q => .inl q)
end Go.Proofs.YtgdbaceehpcgbaaDoor
