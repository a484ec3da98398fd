/- How many names a shape has, which slot a name has. -/
import Derived.Test.YtjnljbhgbkbmlaaShUp
namespace Go.Proofs.Ytjnljbhgbkbmlaa
set_option linter.unusedSimpArgs false
open Go.RowKit Go.Shelf

theorem keepX_t {X : Nat → Prop} {A B C : World} (h : Keep X A B) (k : Keep X B C) : Keep X A C := h.trans k (fun _ _ e => e)
theorem keepX_b {X : Nat → Prop} {n : Nat} (hn : ∀ b, n ≤ b → X b) (W : World) (l : Nat) (o o' : Obj) (hl : n ≤ l) (_ : W.heap[l]? = some o) (_ : o.isCells = false) (_ : o.isWalk = false) : Keep X W (W.putObj l o') :=
  Keep.grown (grownBy_putObj' W l o') (fun k e => by cases e; exact hn _ hl)
theorem Below.keepX {X : Nat → Prop} {n : Nat} {A B : World} (h : Below n A B) (hX : ∀ b, n ≤ b → X b) : Keep X A B := ⟨h.os, h.tape, h.output, h.size, fun k _ hn => h.block k (by
  rcases Nat.lt_or_ge k n with h1 | h1
  · exact h1
  · exact absurd (hX k h1) hn)⟩
set_option maxRecDepth 100000 in
set_option maxHeartbeats 1000000 in
theorem size_calls {M : Nat} {L : List Sh} {t m i : Nat} {v : Value} {g : Nat → Nat} {nm : Nat → Option Nat} {s : Sh} (w : World) (h : TrAt M L t m v g nm w) (hi : L[i]? = some s) :
    Calls Try.prog 40 #[.pointer (some ⟨t, 0, none⟩), .int .i64 ((i + 1 : Nat) : Int)] w fun e w' => e = .returned (.int .i64 (s.2.length : Int)) ∧ Below w.heap.size w w' := by
  have H := hid h
  have HI := hid hi
  have hlt := hid (fun b hb => h.lt (b := b) hb)
  have b0 : Below w.heap.size w (w.alloc (.cells #[.int .i64 0] 3)) := (Below.refl _ w).alloc (Nat.le_refl _) _
  clear h hi
  generalize hid0 : ((i + 1 : Nat) : Int) = id
  have HE := hid hid0
  clear hid0
  refine (callsIn_wide (n := 6)).1 ?_
  refine callsIn_of_wp_marks Try.func40 rfl trivial ?_ rfl
  simp only [Try.ntmps40, List.size_toArray, List.length_cons, List.length_nil, Nat.reduceAdd, Nat.reduceSub, Array.replicate_succ, Array.replicate_zero, List.push_toArray, List.append_toArray, List.nil_append, List.cons_append]
  gi_wp2
  refine ⟨trivial, ?_⟩
  refine (callsIn_wide.2 (up_calls _ _ _)).mono ?_
  rintro e w' ⟨rfl, rfl⟩
  gi_wp2
  have bO := Boxed.new w 3 (.int .i64 0)
  have bT := Boxed.new (w.alloc (.cells #[.int .i64 0] 3)) 45 (.pointer (some ⟨t, 0, none⟩))
  have bI := Boxed.new ((w.alloc (.cells #[.int .i64 0] 3)).alloc (.cells #[.pointer (some ⟨t, 0, none⟩)] 45)) 3 (.int .i64 id)
  simp only [World.size_alloc] at bT bI
  have hB0 : Below w.heap.size w (((w.alloc (.cells #[.int .i64 0] 3)).alloc (.cells #[.pointer (some ⟨t, 0, none⟩)] 45)).alloc (.cells #[.int .i64 id] 3)) := (b0.alloc (by simp) _).alloc (by simp; omega) _
  refine wpIn_rangeFunc_ownG rfl (by omega) (gf := 47) (lb := #[.pointer (some ⟨w.heap.size + 1 + 1, 0, none⟩), .pointer (some ⟨w.heap.size + 1, 0, none⟩)]) rfl trivial (enters_of Try.func47 (by kernel_rfl) rfl)
    (up_stops 5 (w.heap.size + 1 + 1) (w.heap.size + 1) (fun b => b = w.heap.size ∨ w.heap.size + 1 + 1 + 1 ≤ b) HI.out _ (fun b hb => by have := hlt.out b hb; omega) (by omega) (by rw [HE.out]; exact bI) (bT.alloc _) (H.out.on hB0))
    keepX_t (keepX_b (fun b hb => .inr (by simpa using hb))) (Below.refl _ _) (fun _ => rfl)
    (fun pre W => Boxed W w.heap.size 3 (.int .i64 (pre.length : Int)) ∧ Below w.heap.size w W)
    (fun _ _ _ => False)
    (OwnFrom.and (Own.from (boxed_own _ _ (fun pre : List (Tld L s) => Value.int .i64 (pre.length : Int))) _) (ownFrom_below (Nat.le_refl _) (by simp; omega)))
    (fun _ _ _ _ _ hs _ _ => hs)
    ⟨(bO.alloc _).alloc _, hB0⟩
    (fun x => { tmps := #[.pointer (some ⟨t, 0, none⟩), .int .i64 id, undef, undef, .int .i64 0, .pointer (some ⟨w.heap.size, 0, none⟩), .pointer (some ⟨t, 0, none⟩), .int .i64 id, .func (.func 47) #[] #[.pointer (some ⟨w.heap.size + 1 + 1, 0, none⟩), .pointer (some ⟨w.heap.size + 1, 0, none⟩)], .int .i64 x.1.1, .int .i64 x.1.2, undef, undef, undef], defers := [] }) ?assign ?body ?done ?stop
  case assign =>
    intro l x W K hK
    gi_wp2
    simp [encU]
    exact hK
  case body =>
    rintro l pre x W ⟨hc, hB⟩ hlen
    have hc1 := hc.cell
    have hf1 := hc.frozen
    have hl := H.out.wf.few _ _ HI.out
    rw [upS_length] at hlen
    gi_wp2_with (rw [Oper.semAt_eq _ _ _ (fun c h => by cases h)]; go_simp; try go_bits)
    refine ⟨(KeepsOthers.setCell _ _ _).from _, Keep.set (S := fun b => b = w.heap.size ∨ w.heap.size + 1 + 1 + 1 ≤ b) (.inl rfl) W 0 _, ?_, hB.setCell (p := ⟨w.heap.size, 0, none⟩) (Nat.le_refl _) _⟩
    have := hc.set (.int .i64 ((pre.length : Int) + 1))
    simpa using this
  case done =>
    rintro D ys W hD rfl ⟨hc, hB⟩ hK
    have hc1 := hc.cell
    gi_wp2
    refine ⟨by simp, .inl ⟨_, _, rfl, run_takeDeferred hK, ?_⟩⟩
    exact ⟨_, results_tmp rfl _ _ _, by simp [upS_length], hB.trans (belowK_b (w := w) (Nat.le_refl _) W D _ _ (by simp at hD; omega) hK rfl rfl)⟩
  case stop =>
    rintro D c pre W _ _ h _
    exact h.elim

theorem keepsFrom_below {B : Nat} {W W' : World} (h : Below W.heap.size W W') : KeepsFrom B W W' := ⟨h.size, fun k _ _ hk _ => (h.block k (Array.getElem?_eq_some_iff.1 hk).1).trans hk⟩
theorem boxed_on {W W' : World} {B : Nat} {T : TypeId} {v : Value} (h : Boxed W B T v) (k : Below W.heap.size W W') : Boxed W' B T v := (k.block B h.lt).trans h
set_option maxRecDepth 100000 in
set_option maxHeartbeats 1000000 in
theorem slot_calls {M : Nat} {L : List Sh} {t m i : Nat} {v : Value} {g : Nat → Nat} {nm : Nat → Option Nat} {s : Sh} (w : World) (h : TrAt M L t m v g nm w) (hi : L[i]? = some s) (x : Int) :
    Calls Try.prog 37 #[.pointer (some ⟨t, 0, none⟩), .int .i64 ((i + 1 : Nat) : Int), .int .i64 x] w fun e w' => e = .returned (.int .i64 (slotS s.2 x)) ∧ Below w.heap.size w w' := by
  have H := hid h
  have HI := hid hi
  have hlt := hid (fun b hb => h.lt (b := b) hb)
  clear h hi
  generalize hid0 : ((i + 1 : Nat) : Int) = id
  have HE := hid hid0
  clear hid0
  refine (callsIn_wide (n := 6)).1 ?_
  refine callsIn_of_wp_marks Try.func37 rfl trivial ?_ rfl
  simp only [Try.ntmps37, List.size_toArray, List.length_cons, List.length_nil, Nat.reduceAdd, Nat.reduceSub, Array.replicate_succ, Array.replicate_zero, List.push_toArray, List.append_toArray, List.nil_append, List.cons_append]
  gi_wp2
  refine ⟨trivial, ?_⟩
  refine (callsIn_wide.2 (up_calls _ _ _)).mono ?_
  rintro e w' ⟨rfl, rfl⟩
  gi_wp2
  have b1 := Boxed.new w 45 (.pointer (some ⟨t, 0, none⟩))
  have b2 := Boxed.new (w.alloc (.cells #[.pointer (some ⟨t, 0, none⟩)] 45)) 3 (.int .i64 x)
  have b3 := Boxed.new ((w.alloc (.cells #[.pointer (some ⟨t, 0, none⟩)] 45)).alloc (.cells #[.int .i64 x] 3)) 3 (.int .i64 0)
  have b4 := Boxed.new (((w.alloc (.cells #[.pointer (some ⟨t, 0, none⟩)] 45)).alloc (.cells #[.int .i64 x] 3)).alloc (.cells #[.int .i64 0] 3)) 45 (.pointer (some ⟨t, 0, none⟩))
  have b5 := Boxed.new ((((w.alloc (.cells #[.pointer (some ⟨t, 0, none⟩)] 45)).alloc (.cells #[.int .i64 x] 3)).alloc (.cells #[.int .i64 0] 3)).alloc (.cells #[.pointer (some ⟨t, 0, none⟩)] 45)) 3 (.int .i64 id)
  simp only [World.size_alloc] at b2 b3 b4 b5
  have hB0 : Below w.heap.size w (((((w.alloc (.cells #[.pointer (some ⟨t, 0, none⟩)] 45)).alloc (.cells #[.int .i64 x] 3)).alloc (.cells #[.int .i64 0] 3)).alloc (.cells #[.pointer (some ⟨t, 0, none⟩)] 45)).alloc (.cells #[.int .i64 id] 3)) := (((((Below.refl _ w).alloc (Nat.le_refl _) _).alloc (by simp) _).alloc (by simp; omega) _).alloc (by simp; omega) _).alloc (by simp; omega) _
  refine wpIn_rangeFunc_ownG rfl (by omega) (gf := 47) (lb := #[.pointer (some ⟨w.heap.size + 1 + 1 + 1 + 1, 0, none⟩), .pointer (some ⟨w.heap.size + 1 + 1 + 1, 0, none⟩)]) rfl trivial (enters_of Try.func47 (by kernel_rfl) rfl)
    (up_stops 5 (w.heap.size + 1 + 1 + 1 + 1) (w.heap.size + 1 + 1 + 1) (fun b => b = w.heap.size + 1 + 1 ∨ w.heap.size + 1 + 1 + 1 + 1 + 1 ≤ b) HI.out _ (fun b hb => by have := hlt.out b hb; omega) (by omega) (by rw [HE.out]; exact b5) (b4.alloc _) (H.out.on hB0))
    keepX_t (keepX_b (fun b hb => .inr (by simpa using hb))) (Below.refl _ _) (fun _ => rfl)
    (fun pre W => ((((∀ y ∈ pre, y.1.2 ≠ x) ∧ Boxed W w.heap.size 45 (.pointer (some ⟨t, 0, none⟩))) ∧ Boxed W (w.heap.size + 1) 3 (.int .i64 x)) ∧ Boxed W (w.heap.size + 1 + 1) 3 (.int .i64 0)) ∧ Below w.heap.size w W)
    (fun c _ W => ((c = .ret) ∧ Boxed W (w.heap.size + 1 + 1) 3 (.int .i64 (slotS s.2 x))) ∧ Below w.heap.size w W)
    (OwnFrom.and (OwnFrom.and (OwnFrom.and (OwnFrom.and (ownFrom_pure _ (fun pre : List (Tld L s) => ∀ y ∈ pre, y.1.2 ≠ x)) (Own.from (boxed_own _ _ (fun _ : List (Tld L s) => Value.pointer (some ⟨t, 0, none⟩))) _)) (Own.from (boxed_own _ _ (fun _ : List (Tld L s) => Value.int .i64 x)) _)) (Own.from (boxed_own _ _ (fun _ : List (Tld L s) => Value.int .i64 0)) _)) (ownFrom_below (Nat.le_refl _) (by simp; omega)))
    (fun c => OwnFrom.and (OwnFrom.and (ownFrom_pure _ (fun _ : List (Tld L s) => c = Code.ret)) (Own.from (boxed_own _ _ (fun _ : List (Tld L s) => Value.int .i64 (slotS s.2 x))) _)) (ownFrom_below (Nat.le_refl _) (by simp; omega)))
    ⟨⟨⟨⟨by simp, (((b1.alloc _).alloc _).alloc _).alloc _⟩, ((b2.alloc _).alloc _).alloc _⟩, (b3.alloc _).alloc _⟩, hB0⟩
    (fun y => { tmps := #[.pointer (some ⟨t, 0, none⟩), .int .i64 id, .int .i64 x, .pointer (some ⟨w.heap.size, 0, none⟩), undef, .pointer (some ⟨w.heap.size + 1, 0, none⟩), .pointer (some ⟨w.heap.size + 1 + 1, 0, none⟩), .int .i64 y.1.1, .int .i64 y.1.2, .pointer (some ⟨t, 0, none⟩), .int .i64 id, .func (.func 47) #[] #[.pointer (some ⟨w.heap.size + 1 + 1 + 1 + 1, 0, none⟩), .pointer (some ⟨w.heap.size + 1 + 1 + 1, 0, none⟩)], .int .i64 y.1.1, .int .i64 y.1.2, undef, undef, undef, undef, undef, undef, undef], defers := [] }) ?assign ?body ?done ?stop
  case assign =>
    intro l x W K hK
    simp only [encU]
    gi_wp2_with (rw [Oper.semAt_eq _ _ _ (fun c h => by cases h)]; go_simp; try go_bits)
    exact hK
  case body =>
    rintro l pre y W ⟨⟨⟨⟨hp, ht⟩, hx⟩, hr⟩, hB⟩ hlen
    have c1 := ht.cell
    have c2 := hx.cell
    have c3 := hr.cell
    have c4 := hr.frozen
    obtain ⟨⟨y1, y2⟩, hym⟩ := y
    dsimp only
    by_cases hy : y2 = x
    · obtain ⟨k, j, h1, h2, h3⟩ := H.out.wf.told _ _ _ rfl HI.out _ hym
      have HS := hid (size_calls W (H.out.on hB) h3)
      dsimp only at h2
      rw [← h2] at HS
      have hk := lt_of_get h1
      have hf := H.out.wf.few _ _ HI.out
      dsimp only at h1 h2 h3
      have hsl := slotS_at (k := k) (x := x) (H.out.wf.names _ _ HI.out) (by rw [← hy]; exact h1)
      rw [show ((s.2.take (k + 1)).length : Int) = (k : Int) + 1 by rw [List.length_take]; omega] at HS
      have HSl := hid hsl
      clear hsl h1 h2 h3
      gi_wp2_with (rw [Oper.semAt_eq _ _ _ (fun c h => by cases h)]; go_simp; try go_bits)
      refine ⟨trivial, ?_⟩
      refine (CallsIn.inRound l (callsIn_wide.2 HS.out)).mono ?_
      rintro e1 w1 ⟨rfl, k1⟩
      have hr1 := boxed_on hr k1
      have c5 := hr1.cell
      have c6 := hr1.frozen
      have KB := hid k1
      clear k1
      gi_wp2_with (rw [Oper.semAt_eq _ _ _ (fun c h => by cases h)]; go_simp; try go_bits)
      refine ⟨(keepsFrom_below KB.out).trans ((KeepsOthers.setCell _ _ _).from _), ⟨rfl, ?_⟩, (below_in hB (Nat.le_refl _) KB.out).setCell (p := ⟨w.heap.size + 1 + 1, 0, none⟩) (by simp; omega) _⟩
      rw [HSl.out]
      exact hr1.set _
    · have hyb : (y2 == x) = false := by simpa using hy
      gi_wp2_with (rw [Oper.semAt_eq _ _ _ (fun c h => by cases h)]; go_simp; try go_bits)
      refine ⟨KeepsFrom.refl _ _, Keep.refl _ _, ⟨⟨⟨fun z hz => ?_, ht⟩, hx⟩, hr⟩, hB⟩
      rcases List.mem_append.1 hz with hz | hz
      · exact hp z hz
      · simp at hz
        subst hz
        exact hy
  case done =>
    rintro D ys W hD rfl ⟨⟨⟨⟨hp, ht⟩, hx⟩, hr⟩, hB⟩ hK
    have c3 := hr.cell
    have c4 := hr.frozen
    gi_wp2
    have hK' := (KeepsOthers.setCell W ⟨w.heap.size + 1 + 1, 0, none⟩ (.int .i64 (-1))).same D _ hK rfl
    have hB' := hB.setCell (p := ⟨w.heap.size + 1 + 1, 0, none⟩) (by simp; omega) (.int .i64 (-1))
    refine ⟨by simp, .inl ⟨_, _, rfl, run_takeDeferred hK', ?_⟩⟩
    have hc5 := cell_kept (hr.set (.int .i64 (-1))).cell (grownBy_putObj' _ D (.deferred none)) (fun r e => by cases e; exact ⟨_, hK', rfl⟩)
    refine ⟨.int .i64 (-1), ?_, ?_, hB'.trans (belowK_b (w := w) (Nat.le_refl _) _ D _ _ (by simp at hD; omega) hK' rfl rfl)⟩
    · simp [results, Try.f37, go_sem, hc5]
    · rw [slotS_none]
      intro hm
      have : x ∈ (upS L s).map (·.2) := by rw [upS_names]; simpa using hm
      obtain ⟨z, hz, hzx⟩ := List.mem_map.1 this
      exact hp ⟨z, hz⟩ (by simp) hzx
  case stop =>
    rintro D c pre W hD _ ⟨⟨rfl, hr⟩, hB⟩ hK
    gi_wp2
    refine ⟨by simp, .inl ⟨_, _, rfl, run_takeDeferred hK, ?_⟩⟩
    have hc5 := cell_kept hr.cell (grownBy_putObj' _ D (.deferred none)) (fun r e => by cases e; exact ⟨_, hK, rfl⟩)
    refine ⟨.int .i64 (slotS s.2 x), ?_, rfl, hB.trans (belowK_b (w := w) (Nat.le_refl _) _ D _ _ (by simp at hD; omega) hK rfl rfl)⟩
    simp [results, Try.f37, go_sem, hc5]

end Go.Proofs.Ytjnljbhgbkbmlaa
