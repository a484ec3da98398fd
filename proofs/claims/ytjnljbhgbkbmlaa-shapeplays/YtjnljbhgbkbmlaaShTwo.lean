/- A forest beside the document's. -/
import Derived.Test.YtjnljbhgbkbmlaaShRmove
namespace Go.Proofs.Ytjnljbhgbkbmlaa
set_option linter.unusedSimpArgs false
open Go.RowKit

/-- a forest at f and the document's at r, apart from one another, from block B on -/
def PairS (B f r M : Nat) (L : List Sh) (w : World) : Prop :=
  B ≤ w.heap.size ∧ ∃ S T : Nat → Prop, FoS S f M L w ∧ RfS T r M L w ∧ (∀ b, S b → B ≤ b ∧ b < w.heap.size ∧ ¬ T b) ∧ ∀ b, T b → B ≤ b ∧ b < w.heap.size
theorem PairS.on {B f r M : Nat} {L : List Sh} {a c : World} (h : PairS B f r M L a) (k : Below a.heap.size a c) : PairS B f r M L c := by
  obtain ⟨h0, S, T, h1, h2, h3, h4⟩ := h
  have := k.size
  exact ⟨by omega, S, T, h1.on k, h2.on k, fun b hb => ⟨(h3 b hb).1, by have := (h3 b hb).2.1; omega, (h3 b hb).2.2⟩, fun b hb => ⟨(h4 b hb).1, by have := (h4 b hb).2; omega⟩⟩
theorem pair_new {B f M : Nat} {w : World} (h : FoS (fun b => B ≤ b) f M [] w) (hB : B ≤ w.heap.size) : PairS B f w.heap.size M [] (w.alloc (.cells #[.slice none 0 0, .int .i64 (M : Int)] 53)) := by
  have A := (Below.refl w.heap.size w).alloc (Nat.le_refl _) (.cells #[.slice none 0 0, .int .i64 (M : Int)] 53)
  refine ⟨by simp; omega, fun b => B ≤ b ∧ b < w.heap.size, fun b => b = w.heap.size, (h.mono (fun b h1 h2 => ⟨h2, h1⟩)).on A, (rf_new w M).mono (fun b h1 h2 => by simp at h1; omega), fun b hb => ?_, fun b hb => ?_⟩
  · simp; omega
  · simp; omega
/-- behind both -/
theorem pair_both {B f r M z : Nat} {L' : List Sh} {S T : Nat → Prop} {w3 w4 w5 : World} (hz : z ≤ w3.heap.size) (h0 : B ≤ z) (h3 : ∀ b, S b → B ≤ b ∧ b < z ∧ ¬ T b) (h4 : ∀ b, T b → B ≤ b ∧ b < z) (f4 : FoS (Up S w3) f M L' w4) (k4 : Keep S w3 w4) (r5 : RfS (Up T w4) r M L' w5) (k5 : Keep T w4 w5) : PairS B f r M L' w5 ∧ Below B w3 w5 := by
  have z4 := k4.size
  have z5 := k5.size
  refine ⟨⟨by omega, fun b => Up S w3 b ∧ b < w4.heap.size, fun b => Up T w4 b ∧ b < w5.heap.size, (f4.mono (fun b hb h => ⟨h, hb⟩)).keep k5 (fun b _ hb ht => ?_), r5.mono (fun b hb h => ⟨h, hb⟩), fun b hb => ?_, fun b hb => ?_⟩, (k4.below (by omega) (fun b hb => (h3 b hb).1)).trans (k5.below (by omega) (fun b hb => (h4 b hb).1))⟩
  · rcases hb.1 with h | h
    · exact (h3 b h).2.2 ht
    · have := (h4 b ht).2; omega
  · obtain ⟨hb1, hb2⟩ := hb
    refine ⟨?_, by omega, fun ht => ?_⟩
    · rcases hb1 with h | h
      · exact (h3 b h).1
      · omega
    · rcases ht.1 with h | h
      · rcases hb1 with h' | h'
        · exact (h3 b h').2.2 h
        · have := (h4 b h).2; omega
      · omega
  · obtain ⟨hb1, hb2⟩ := hb
    refine ⟨?_, hb2⟩
    rcases hb1 with h | h
    · exact (h4 b h).1
    · omega

set_option maxHeartbeats 4000000 in
theorem done_calls {B f r M : Nat} {L : List Sh} {d a b : Int} {o : Bool} (w : World) (h : PairS B f r M L w) (ha : acI (d, a, b, o)) :
    Calls Try.prog 10 #[.pointer (some ⟨f, 0, none⟩), .pointer (some ⟨r, 0, none⟩), .agg #[.int .i64 d, .int .i64 a, .int .i64 b, .bool o]] w fun e w' => e = .returned (.bool true) ∧ PairS B f r M (actL M L (d, a, b, o)) w' ∧ Below B w w' := by
  obtain ⟨h0, S, T, h1, h2, h3, h4⟩ := h
  have b0 := (Below.refl _ w).alloc (Nat.le_refl _) (.cells #[.int .i64 d, .int .i64 a, .int .i64 b, .bool o] 29)
  have bk := blk_new w 29 #[.int .i64 d, .int .i64 a, .int .i64 b, .bool o]
  have HB0 := hid b0
  have HF := hid h1
  have HR := hid h2
  have HW := hid h1.wf
  have H3 := hid h3
  have H4 := hid h4
  have hn : L.length ≤ 150 := by have q1 := h1.wf.len; have q2 := h1.wf.most; omega
  have HX := hid (argS_I64 ha (n := L.length) (by omega))
  have HBb := hid ha.2.2
  have HArg := hid (fun w' => arg_calls (d := d) (a := a) (b := b) (o := o) w' L.length (by omega) ha)
  generalize hx : argS (d, a, b, o) L.length = x at *
  have HL : actL M L (d, a, b, o) = if d = 0 then rootL M L x else if d = 1 then addL M L x b else (moveP M L x b).2 := by unfold actL; rw [hx]
  rw [HL]
  generalize hLL : (if d = 0 then rootL M L x else if d = 1 then addL M L x b else (moveP M L x b).2) = LL
  have HLL := hid hLL
  clear h1 h2 h3 h4 hx HL ha hLL
  generalize hw1 : w.alloc (.cells #[.int .i64 d, .int .i64 a, .int .i64 b, .bool o] 29) = w1 at *
  obtain ⟨ao, cap, g0, _⟩ := (HR.out.on b0).cells
  have hrl := (HR.out.on b0).lt
  have c0 : w1.cell? ⟨w.heap.size, 0, none⟩ = some (.int .i64 d) := by rw [blk_cell bk]; rfl
  have c1 : w1.cell? ⟨w.heap.size, 1, none⟩ = some (.int .i64 a) := by rw [blk_cell bk]; rfl
  have c2 : w1.cell? ⟨w.heap.size, 2, none⟩ = some (.int .i64 b) := by rw [blk_cell bk]; rfl
  have c3 : w1.cell? ⟨w.heap.size, 3, none⟩ = some (.bool o) := by rw [blk_cell bk]; rfl
  have hlt := blk_lt bk
  have BK := hid bk
  clear bk b0
  go_enter Try.func10, Try.ntmps10
  go_wp2_with fail
  refine wp_region_held_drew (S := fun q => (q.cell? ⟨w.heap.size, 0, none⟩ = some (.int .i64 d) ∧ q.cell? ⟨w.heap.size, 1, none⟩ = some (.int .i64 a) ∧ q.cell? ⟨w.heap.size, 2, none⟩ = some (.int .i64 b) ∧ q.cell? ⟨w.heap.size, 3, none⟩ = some (.bool o)) ∧ q.cell? ⟨r, 0, none⟩ = some (.slice ao L.length cap)) (by kernel_rfl) ⟨⟨c0, c1, c2, c3⟩, g0⟩ (fun hHeld => ?_)
  refine wpAnyH_take (i := 0) (v := ?v1) rfl (by kernel_rfl) (by kernel_rfl) (by kernel_rfl) (fun _ _ _ h => h) (Or.inl ⟨by rfl, ?hy1⟩) (by assumption) ?_
  case hy1 => (intro w hSw; go_simp <;> (try with_reducible rfl))
  simp only [Act.put, List.setIfInBounds_toArray, List.set_cons_zero, List.set_cons_succ, List.getElem_toArray, List.getElem_cons_succ, List.getElem_cons_zero]
  refine wpAnyH_take (i := 1) (v := ?v2) rfl (by kernel_rfl) (by kernel_rfl) (by kernel_rfl) (fun _ _ _ h => h) (Or.inl ⟨by rfl, ?hy2⟩) (by assumption) ?_
  case hy2 => (intro w hSw; go_simp <;> (try with_reducible rfl))
  simp only [Act.put, List.setIfInBounds_toArray, List.set_cons_zero, List.set_cons_succ, List.getElem_toArray, List.getElem_cons_succ, List.getElem_cons_zero]
  refine wpAnyH_take (i := 2) (v := ?v3) rfl (by kernel_rfl) (by kernel_rfl) (by kernel_rfl) (fun _ _ _ h => h) (Or.inl ⟨by rfl, ?hy3⟩) (by assumption) ?_
  case hy3 => (intro w hSw; go_simp <;> (try with_reducible rfl))
  simp only [Act.put, List.setIfInBounds_toArray, List.set_cons_zero, List.set_cons_succ, List.getElem_toArray, List.getElem_cons_succ, List.getElem_cons_zero]
  refine wpAnyH_take (i := 3) (v := ?v4) rfl (by kernel_rfl) (by kernel_rfl) (by kernel_rfl) (fun _ _ _ h => h) (Or.inl ⟨by rfl, ?hy4⟩) (by assumption) ?_
  case hy4 => (intro w hSw; go_simp <;> (try with_reducible rfl))
  simp only [Act.put, List.setIfInBounds_toArray, List.set_cons_zero, List.set_cons_succ, List.getElem_toArray, List.getElem_cons_succ, List.getElem_cons_zero]
  refine wpAnyH_take (i := 4) (v := ?v5) rfl (by kernel_rfl) (by kernel_rfl) (by kernel_rfl) (fun _ _ _ h => h) (Or.inl ⟨by rfl, ?hy5⟩) (by assumption) ?_
  case hy5 => (intro w hSw; go_simp <;> (try with_reducible rfl))
  simp only [Act.put, List.setIfInBounds_toArray, List.set_cons_zero, List.set_cons_succ, List.getElem_toArray, List.getElem_cons_succ, List.getElem_cons_zero]
  refine wpAnyH_take (i := 5) (v := ?v6) rfl (by kernel_rfl) (by kernel_rfl) (by kernel_rfl) (fun _ _ _ h => h) (Or.inl ⟨by rfl, ?hy6⟩) (by assumption) ?_
  case hy6 => (intro w hSw; go_simp <;> (try with_reducible rfl))
  simp only [Act.put, List.setIfInBounds_toArray, List.set_cons_zero, List.set_cons_succ, List.getElem_toArray, List.getElem_cons_succ, List.getElem_cons_zero]
  refine wpAnyH_ready (rs := [6]) (by kernel_rfl) (by simp) ?_
  refine AllReadyH.cons rfl (fun K hK => ?_) AllReadyH.nil
  go_simp
  refine (HArg.out _).mono ?_
  rintro e3 w3 ⟨rfl, b3⟩
  have K13 := (Below.refl _ w1).drew.trans b3
  have bk3 := blk_on BK.out K13
  have r0 : w3.cell? ⟨w.heap.size, 0, none⟩ = some (.int .i64 d) := by rw [blk_cell bk3]; rfl
  have r1 : w3.cell? ⟨w.heap.size, 1, none⟩ = some (.int .i64 a) := by rw [blk_cell bk3]; rfl
  have r2 : w3.cell? ⟨w.heap.size, 2, none⟩ = some (.int .i64 b) := by rw [blk_cell bk3]; rfl
  have r3 : w3.cell? ⟨w.heap.size, 3, none⟩ = some (.bool o) := by rw [blk_cell bk3]; rfl
  have g3 : w3.cell? ⟨r, 0, none⟩ = some (.slice ao L.length cap) := (K13.cell (p := ⟨r, 0, none⟩) hrl).trans g0
  have B3 := hid (below_on HB0.out K13)
  have F3 := hid (HF.out.on B3.out)
  have R3 := hid (HR.out.on B3.out)
  have BK3 := hid bk3
  have hlt3 : w.heap.size < w3.heap.size := blk_lt bk3
  go_simp
  refine hK.out _ _ ⟨⟨r0, r1, r2, r3⟩, g3⟩ (fun _ => ?_)
  clear hK K b3 bk3 hHeld c0 c1 c2 c3 K13 g0 hrl
  refine wpAnyH_take (i := 7) (v := ?v8) rfl (by kernel_rfl) (by kernel_rfl) (by kernel_rfl) (fun _ _ _ h => h) (Or.inl ⟨by rfl, ?hy8⟩) (by assumption) ?_
  case hy8 => (intro w hSw; go_simp <;> (try with_reducible rfl))
  simp only [Act.put, List.setIfInBounds_toArray, List.set_cons_zero, List.set_cons_succ, List.getElem_toArray, List.getElem_cons_succ, List.getElem_cons_zero]
  refine wpAnyH_done (by kernel_rfl) ?_ _
  have HE := hid (show ∀ w4 w5 L', FoS (Up S w3) f M L' w4 → Keep S w3 w4 → RfS (Up T w4) r M L' w5 → Keep T w4 w5 → PairS B f r M L' w5 ∧ Below B w w5 from fun w4 w5 L' q1 q2 q3 q4 => by
    have := pair_both (B := B) (z := w.heap.size) B3.out.size h0 H3.out H4.out q1 q2 q3 q4
    exact ⟨this.1, (B3.out.mono h0).trans this.2⟩)
  have HK4 := hid (show ∀ w4, Keep S w3 w4 → RfS T r M L w4 ∧ Blk w.heap.size 29 #[.int .i64 d, .int .i64 a, .int .i64 b, .bool o] w4 from fun w4 q => ⟨R3.out.keep q (fun b' _ ht hs => (H3.out b' hs).2.2 ht), blk_keep BK3.out q (fun hs => by have := (H3.out _ hs).2.1; omega)⟩)
  have HK5 := hid (show ∀ w4 w5, Blk w.heap.size 29 #[.int .i64 d, .int .i64 a, .int .i64 b, .bool o] w4 → Keep T w4 w5 → Blk w.heap.size 29 #[.int .i64 d, .int .i64 a, .int .i64 b, .bool o] w5 from fun w4 w5 q1 q2 => blk_keep q1 q2 (fun hs => by have := (H4.out _ hs).2; omega))
  by_cases hd0 : d = 0
  · subst hd0
    have hv : LL = rootL M L x := by rw [← HLL.out, if_pos rfl]
    have HV := hid hv
    clear hv
    go_wp2_with fail
    refine (froot_calls _ F3.out x HX.out).mono ?_
    rintro e4 w4 ⟨rfl, f4, k4⟩
    have F4 := hid f4
    have K4 := hid k4
    have R4 := hid (HK4.out w4 k4).1
    clear f4 k4
    generalize hN : ((rootN M L x : Nat) : Int) = N at *
    have HN := hid hN
    clear hN
    go_wp2_with fail
    refine (rroot_calls _ R4.out HW.out x).mono ?_
    rintro e5 w5 ⟨rfl, r5, k5, _⟩
    have E5 := hid (HE.out w4 w5 _ F4.out K4.out r5 k5)
    rw [HN.out]
    clear r5 k5
    go_wp2_with fail
    go_ret
    refine ⟨rfl, ?_, E5.out.2⟩
    rw [HV.out]
    exact E5.out.1
  · have d0 : (d == 0) = false := by simpa using hd0
    by_cases hd1 : d = 1
    · subst hd1
      have hv : LL = addL M L x b := by rw [← HLL.out, if_neg hd0, if_pos rfl]
      have HV := hid hv
      clear hv
      go_wp2_with fail
      refine wp_region_held_drew (S := fun q => q.cell? ⟨w.heap.size, 2, none⟩ = some (.int .i64 b)) (by kernel_rfl) r2 (fun hHeld => ?_)
      refine wpAnyH_take (i := 0) (v := ?v9) rfl (by kernel_rfl) (by kernel_rfl) (by kernel_rfl) (fun _ _ _ h => h) (Or.inl ⟨by rfl, ?hy9⟩) (by assumption) ?_
      case hy9 => (intro w hSw; go_simp <;> (try with_reducible rfl))
      simp only [Act.put, List.setIfInBounds_toArray, List.set_cons_zero, List.set_cons_succ, List.getElem_toArray, List.getElem_cons_succ, List.getElem_cons_zero]
      refine wpAnyH_take (i := 1) (v := ?v10) rfl (by kernel_rfl) (by kernel_rfl) (by kernel_rfl) (fun _ _ _ h => h) (Or.inl ⟨by rfl, ?hy10⟩) (by assumption) ?_
      case hy10 => (intro w hSw; go_simp <;> (try with_reducible rfl))
      simp only [Act.put, List.setIfInBounds_toArray, List.set_cons_zero, List.set_cons_succ, List.getElem_toArray, List.getElem_cons_succ, List.getElem_cons_zero]
      refine wpAnyH_take (i := 2) (v := ?v11) rfl (by kernel_rfl) (by kernel_rfl) (by kernel_rfl) (fun _ _ _ h => h) (Or.inl ⟨by rfl, ?hy11⟩) (by assumption) ?_
      case hy11 => (intro w hSw; go_simp <;> (try with_reducible rfl))
      simp only [Act.put, List.setIfInBounds_toArray, List.set_cons_zero, List.set_cons_succ, List.getElem_toArray, List.getElem_cons_succ, List.getElem_cons_zero]
      refine wpAnyH_take (i := 3) (v := ?v12) rfl (by kernel_rfl) (by kernel_rfl) (by kernel_rfl) (fun _ _ _ h => h) (Or.inl ⟨by rfl, ?hy12⟩) (by assumption) ?_
      case hy12 => (intro w hSw; go_simp <;> (try with_reducible rfl))
      simp only [Act.put, List.setIfInBounds_toArray, List.set_cons_zero, List.set_cons_succ, List.getElem_toArray, List.getElem_cons_succ, List.getElem_cons_zero]
      refine wpAnyH_take (i := 5) (v := ?v13) rfl (by kernel_rfl) (by kernel_rfl) (by kernel_rfl) (fun _ _ _ h => h) (Or.inl ⟨by rfl, ?hy13⟩) (by assumption) ?_
      case hy13 => (intro w hSw; go_simp <;> (try with_reducible rfl))
      simp only [Act.put, List.setIfInBounds_toArray, List.set_cons_zero, List.set_cons_succ, List.getElem_toArray, List.getElem_cons_succ, List.getElem_cons_zero]
      refine wpAnyH_take (i := 6) (v := ?v14) rfl (by kernel_rfl) (by kernel_rfl) (by kernel_rfl) (fun _ _ _ h => h) (Or.inl ⟨by rfl, ?hy14⟩) (by assumption) ?_
      case hy14 => (intro w hSw; go_simp <;> (try with_reducible rfl))
      simp only [Act.put, List.setIfInBounds_toArray, List.set_cons_zero, List.set_cons_succ, List.getElem_toArray, List.getElem_cons_succ, List.getElem_cons_zero]
      refine wpAnyH_take (i := 7) (v := ?v15) rfl (by kernel_rfl) (by kernel_rfl) (by kernel_rfl) (fun _ _ _ h => h) (Or.inl ⟨by rfl, ?hy15⟩) (by assumption) ?_
      case hy15 => (intro w hSw; go_simp <;> (try with_reducible rfl))
      simp only [Act.put, List.setIfInBounds_toArray, List.set_cons_zero, List.set_cons_succ, List.getElem_toArray, List.getElem_cons_succ, List.getElem_cons_zero]
      refine wpAnyH_take (i := 8) (v := ?v16) rfl (by kernel_rfl) (by kernel_rfl) (by kernel_rfl) (fun _ _ _ h => h) (Or.inl ⟨by rfl, ?hy16⟩) (by assumption) ?_
      case hy16 => (intro w hSw; go_simp <;> (try with_reducible rfl))
      simp only [Act.put, List.setIfInBounds_toArray, List.set_cons_zero, List.set_cons_succ, List.getElem_toArray, List.getElem_cons_succ, List.getElem_cons_zero]
      refine wpAnyH_ready (rs := [4]) (by kernel_rfl) (by simp) ?_
      refine AllReadyH.cons rfl (fun K hK => ?_) AllReadyH.nil
      go_simp
      have F3d := hid (F3.out.on (Below.refl _ w3).drew)
      have HN4 := hid (fadd_calls w3.drew F3d.out x b HBb.out)
      refine HN4.out.mono ?_
      rintro e4 w4 ⟨rfl, f4, k4⟩
      have k4' : Keep S w3 w4 := (Keep.drew S w3).trans k4 (fun _ _ e => e)
      have F4 := hid (show FoS (Up S w3) f M _ w4 from f4)
      have K4 := hid k4'
      have R4 := hid (HK4.out w4 k4').1
      have bk4 := (HK4.out w4 k4').2
      have BK4 := hid bk4
      have s2 : w4.cell? ⟨w.heap.size, 2, none⟩ = some (.int .i64 b) := by rw [blk_cell bk4]; rfl
      go_simp
      refine hK.out _ _ s2 (fun _ => ?_)
      clear hK K f4 k4 k4' bk4 F3d HN4
      refine wpAnyH_ready (rs := [9]) (by kernel_rfl) (by simp) ?_
      refine AllReadyH.cons rfl (fun K hK => ?_) AllReadyH.nil
      go_simp
      refine (radd_calls w4 R4.out HW.out x b).mono ?_
      rintro e5 w5 ⟨rfl, r5, k5, _⟩
      have E5 := hid (HE.out w4 w5 _ F4.out K4.out r5 k5)
      have bk5 := HK5.out w4 w5 BK4.out k5
      have s3 : w5.cell? ⟨w.heap.size, 2, none⟩ = some (.int .i64 b) := by rw [blk_cell bk5]; rfl
      go_simp
      refine hK.out _ _ s3 (fun _ => ?_)
      clear hK K r5 k5 bk5 hHeld
      generalize ((addN M L x b : Nat) : Int) = N at *
      refine wpAnyH_take (i := 10) (v := ?v19) rfl (by kernel_rfl) (by kernel_rfl) (by kernel_rfl) (fun _ _ _ h => h) (Or.inl ⟨by rfl, ?hy19⟩) (by assumption) ?_
      case hy19 => (intro w hSw; go_simp <;> (try with_reducible rfl))
      simp only [Act.put, List.setIfInBounds_toArray, List.set_cons_zero, List.set_cons_succ, List.getElem_toArray, List.getElem_cons_succ, List.getElem_cons_zero]
      refine wpAnyH_take (i := 11) (v := ?v20) rfl (by kernel_rfl) (by kernel_rfl) (by kernel_rfl) (fun _ _ _ h => h) (Or.inl ⟨by rfl, ?hy20⟩) (by assumption) ?_
      case hy20 => (intro w hSw; go_simp <;> (try with_reducible rfl))
      simp only [Act.put, List.setIfInBounds_toArray, List.set_cons_zero, List.set_cons_succ, List.getElem_toArray, List.getElem_cons_succ, List.getElem_cons_zero]
      refine wpAnyH_done (by kernel_rfl) ?_ _
      go_wp2_with fail
      go_ret
      refine ⟨by simp, ?_, E5.out.2⟩
      rw [HV.out]
      exact E5.out.1
    · have d1 : (d == 1) = false := by simpa using hd1
      have hv : LL = (moveP M L x b).2 := by rw [← HLL.out, if_neg hd0, if_neg hd1]
      have HV := hid hv
      clear hv
      go_wp2_with fail
      refine wp_region_held_drew (S := fun q => q.cell? ⟨w.heap.size, 2, none⟩ = some (.int .i64 b)) (by kernel_rfl) r2 (fun hHeld => ?_)
      refine wpAnyH_take (i := 0) (v := ?v21) rfl (by kernel_rfl) (by kernel_rfl) (by kernel_rfl) (fun _ _ _ h => h) (Or.inl ⟨by rfl, ?hy21⟩) (by assumption) ?_
      case hy21 => (intro w hSw; go_simp <;> (try with_reducible rfl))
      simp only [Act.put, List.setIfInBounds_toArray, List.set_cons_zero, List.set_cons_succ, List.getElem_toArray, List.getElem_cons_succ, List.getElem_cons_zero]
      refine wpAnyH_take (i := 1) (v := ?v22) rfl (by kernel_rfl) (by kernel_rfl) (by kernel_rfl) (fun _ _ _ h => h) (Or.inl ⟨by rfl, ?hy22⟩) (by assumption) ?_
      case hy22 => (intro w hSw; go_simp <;> (try with_reducible rfl))
      simp only [Act.put, List.setIfInBounds_toArray, List.set_cons_zero, List.set_cons_succ, List.getElem_toArray, List.getElem_cons_succ, List.getElem_cons_zero]
      refine wpAnyH_take (i := 2) (v := ?v23) rfl (by kernel_rfl) (by kernel_rfl) (by kernel_rfl) (fun _ _ _ h => h) (Or.inl ⟨by rfl, ?hy23⟩) (by assumption) ?_
      case hy23 => (intro w hSw; go_simp <;> (try with_reducible rfl))
      simp only [Act.put, List.setIfInBounds_toArray, List.set_cons_zero, List.set_cons_succ, List.getElem_toArray, List.getElem_cons_succ, List.getElem_cons_zero]
      refine wpAnyH_take (i := 3) (v := ?v24) rfl (by kernel_rfl) (by kernel_rfl) (by kernel_rfl) (fun _ _ _ h => h) (Or.inl ⟨by rfl, ?hy24⟩) (by assumption) ?_
      case hy24 => (intro w hSw; go_simp <;> (try with_reducible rfl))
      simp only [Act.put, List.setIfInBounds_toArray, List.set_cons_zero, List.set_cons_succ, List.getElem_toArray, List.getElem_cons_succ, List.getElem_cons_zero]
      refine wpAnyH_take (i := 5) (v := ?v25) rfl (by kernel_rfl) (by kernel_rfl) (by kernel_rfl) (fun _ _ _ h => h) (Or.inl ⟨by rfl, ?hy25⟩) (by assumption) ?_
      case hy25 => (intro w hSw; go_simp <;> (try with_reducible rfl))
      simp only [Act.put, List.setIfInBounds_toArray, List.set_cons_zero, List.set_cons_succ, List.getElem_toArray, List.getElem_cons_succ, List.getElem_cons_zero]
      refine wpAnyH_take (i := 6) (v := ?v26) rfl (by kernel_rfl) (by kernel_rfl) (by kernel_rfl) (fun _ _ _ h => h) (Or.inl ⟨by rfl, ?hy26⟩) (by assumption) ?_
      case hy26 => (intro w hSw; go_simp <;> (try with_reducible rfl))
      simp only [Act.put, List.setIfInBounds_toArray, List.set_cons_zero, List.set_cons_succ, List.getElem_toArray, List.getElem_cons_succ, List.getElem_cons_zero]
      refine wpAnyH_take (i := 7) (v := ?v27) rfl (by kernel_rfl) (by kernel_rfl) (by kernel_rfl) (fun _ _ _ h => h) (Or.inl ⟨by rfl, ?hy27⟩) (by assumption) ?_
      case hy27 => (intro w hSw; go_simp <;> (try with_reducible rfl))
      simp only [Act.put, List.setIfInBounds_toArray, List.set_cons_zero, List.set_cons_succ, List.getElem_toArray, List.getElem_cons_succ, List.getElem_cons_zero]
      refine wpAnyH_take (i := 8) (v := ?v28) rfl (by kernel_rfl) (by kernel_rfl) (by kernel_rfl) (fun _ _ _ h => h) (Or.inl ⟨by rfl, ?hy28⟩) (by assumption) ?_
      case hy28 => (intro w hSw; go_simp <;> (try with_reducible rfl))
      simp only [Act.put, List.setIfInBounds_toArray, List.set_cons_zero, List.set_cons_succ, List.getElem_toArray, List.getElem_cons_succ, List.getElem_cons_zero]
      refine wpAnyH_ready (rs := [4]) (by kernel_rfl) (by simp) ?_
      refine AllReadyH.cons rfl (fun K hK => ?_) AllReadyH.nil
      go_simp
      have F3d := hid (F3.out.on (Below.refl _ w3).drew)
      have HN4 := hid (fmove_calls w3.drew F3d.out x b HBb.out)
      refine HN4.out.mono ?_
      rintro e4 w4 ⟨rfl, f4, k4⟩
      have k4' : Keep S w3 w4 := (Keep.drew S w3).trans k4 (fun _ _ e => e)
      have F4 := hid (show FoS (Up S w3) f M _ w4 from f4)
      have K4 := hid k4'
      have R4 := hid (HK4.out w4 k4').1
      have bk4 := (HK4.out w4 k4').2
      have BK4 := hid bk4
      have s2 : w4.cell? ⟨w.heap.size, 2, none⟩ = some (.int .i64 b) := by rw [blk_cell bk4]; rfl
      go_simp
      refine hK.out _ _ s2 (fun _ => ?_)
      clear hK K f4 k4 k4' bk4 F3d HN4
      refine wpAnyH_ready (rs := [9]) (by kernel_rfl) (by simp) ?_
      refine AllReadyH.cons rfl (fun K hK => ?_) AllReadyH.nil
      go_simp
      refine (rmove_calls w4 R4.out HW.out x b HBb.out).mono ?_
      rintro e5 w5 ⟨rfl, r5, k5⟩
      have E5 := hid (HE.out w4 w5 _ F4.out K4.out r5 k5)
      have bk5 := HK5.out w4 w5 BK4.out k5
      have s3 : w5.cell? ⟨w.heap.size, 2, none⟩ = some (.int .i64 b) := by rw [blk_cell bk5]; rfl
      go_simp
      refine hK.out _ _ s3 (fun _ => ?_)
      clear hK K r5 k5 bk5 hHeld
      generalize (((moveP M L x b).1 : Nat) : Int) = N at *
      refine wpAnyH_take (i := 10) (v := ?v31) rfl (by kernel_rfl) (by kernel_rfl) (by kernel_rfl) (fun _ _ _ h => h) (Or.inl ⟨by rfl, ?hy31⟩) (by assumption) ?_
      case hy31 => (intro w hSw; go_simp <;> (try with_reducible rfl))
      simp only [Act.put, List.setIfInBounds_toArray, List.set_cons_zero, List.set_cons_succ, List.getElem_toArray, List.getElem_cons_succ, List.getElem_cons_zero]
      refine wpAnyH_take (i := 11) (v := ?v32) rfl (by kernel_rfl) (by kernel_rfl) (by kernel_rfl) (fun _ _ _ h => h) (Or.inl ⟨by rfl, ?hy32⟩) (by assumption) ?_
      case hy32 => (intro w hSw; go_simp <;> (try with_reducible rfl))
      simp only [Act.put, List.setIfInBounds_toArray, List.set_cons_zero, List.set_cons_succ, List.getElem_toArray, List.getElem_cons_succ, List.getElem_cons_zero]
      refine wpAnyH_done (by kernel_rfl) ?_ _
      go_wp2_with fail
      go_ret
      refine ⟨by simp, ?_, E5.out.2⟩
      rw [HV.out]
      exact E5.out.1

set_option maxRecDepth 100000 in
set_option maxHeartbeats 4000000 in
theorem like_calls {B f r M : Nat} {L : List Sh} (w : World) (h : PairS B f r M L w) (x : Int) :
    Calls Try.prog 11 #[.pointer (some ⟨f, 0, none⟩), .pointer (some ⟨r, 0, none⟩), .int .i64 x] w fun e w' => e = .returned (.bool true) ∧ Below w.heap.size w w' := by
  obtain ⟨h0, S, T, h1, h2, h3, h4⟩ := h
  have HF := hid h1
  have HR := hid h2
  have HW := hid h1.wf
  have hn : L.length ≤ 150 := by have q1 := h1.wf.len; have q2 := h1.wf.most; omega
  clear h1 h2 h3 h4 h0
  go_enter Try.func11, Try.ntmps11
  go_wp2_with fail
  go_loopw [7] (fun a wr => ∃ k : Int, -1 ≤ k ∧ k ≤ L.length + 2 ∧ a = .int .i64 k ∧ Hid (Below w.heap.size w wr)) (fun a _ => ((L.length : Int) + 2 - intOf a).toNat)
  case atStart => exact ⟨-1, by omega, by omega, rfl, hid (Below.refl _ _)⟩
  case round =>
    obtain ⟨k, hk1, hk2, rfl, hB⟩ := hrel
    have F := hid (HF.out.on hB.out)
    have R := hid (HR.out.on hB.out)
    obtain ⟨ao, cap, g0, _⟩ := R.out.cells
    have hrl := R.out.lt
    by_cases hkl : k ≤ (L.length : Int) + 1
    · have d1 : decide (k ≤ (L.length : Int) + 1) = true := decide_eq_true hkl
      have HP := hid (fproto_calls _ F.out k)
      have HH := hid (rhas_calls _ R.out k)
      have HN := hid (fnames_calls _ F.out k)
      unfold NamesR at HN
      have RN := hid (fun w' (kk : Below wr.heap.size wr w') => rnames_calls w' (R.out.on kk) hn k)
      have FS := hid (fun w' (kk : Below wr.heap.size wr w') => fsize_calls w' (F.out.on kk) k)
      have FP := hid (fun w' (kk : Below wr.heap.size wr w') => fparent_calls w' (F.out.on kk) k)
      have RP := hid (fun w' (kk : Below wr.heap.size wr w') => rparent_calls w' (R.out.on kk) HW.out k)
      have FL := hid (fun w' (kk : Below wr.heap.size wr w') => fslot_calls w' (F.out.on kk) k x)
      have RL := hid (fun w' (kk : Below wr.heap.size wr w') => rslot_calls w' (R.out.on kk) hn HW.out.few k x)
      have hnl : (namesF L k).length ≤ 12 := by
        unfold namesF
        cases hg : getS L k with
        | none => simp
        | some s =>
          obtain ⟨i, _, hi⟩ := getS_some hg
          exact HW.out.few i s hi
      generalize hns : namesF L k = ns at *
      generalize hsl : slotF L k x = sl at *
      generalize hpa : ((parF L k : Nat) : Int) = pa at *
      clear hns hsl hpa
      cases hg : getS L k with
      | some s =>
        obtain ⟨i, hki, hi⟩ := getS_some hg
        obtain ⟨g, cap2, no, nc, c0, hgl, c1, _⟩ := R.out.at' hi
        have hil := lt_of_get hi
        rw [g0] at c0
        injection c0 with c0
        injection c0 with e1 e2 e3
        subst e1 e3
        rw [hg] at HP HH
        rw [show protoF L k = s.1 from by unfold protoF; rw [hg]] at HP
        have hki2 : k = (i : Int) + 1 := by omega
        subst hki2
        generalize s.1 = p at *
        clear hg hi hki
        go_wp2_with fail
        refine HP.out.mono ?_
        rintro e1 w1 ⟨rfl, rfl⟩
        go_wp2_with fail
        refine HH.out.mono ?_
        rintro e1 w1 ⟨rfl, rfl⟩
        go_wp2_with fail
        refine HN.out.mono ?_
        rintro e2 w2 ⟨v2, rfl, q2, b2⟩
        have B2 := hid b2
        have I2 := hid (intsAt_row q2)
        obtain ⟨so, sc, rfl⟩ := row_shape (row_base q2 (Nat.zero_le _))
        clear q2 b2
        go_wp2_with fail
        refine (RN.out _ B2.out).mono ?_
        rintro e3 w3 ⟨⟨no3, nc3, rfl, hn3⟩, rfl⟩
        have HNu := hid (numbers_calls _ I2.out (intsAt_row hn3.1) (by omega))
        rw [decide_eq_true rfl] at HNu
        clear hn3
        go_wp2_with fail
        refine HNu.out.mono ?_
        rintro e4 w4 ⟨rfl, b4⟩
        have B4 := hid (below_on B2.out b4)
        clear b4 HNu
        go_wp2_with fail
        refine (FS.out _ B4.out).mono ?_
        rintro e5 w5 ⟨rfl, b5⟩
        have B5 := hid (below_on B4.out b5)
        clear b5
        go_wp2_with fail
        refine (RN.out _ B5.out).mono ?_
        rintro e6 w6 ⟨⟨no6, nc6, rfl, hn6⟩, rfl⟩
        clear hn6
        go_wp2_with fail
        refine (FP.out _ B5.out).mono ?_
        rintro e7 w7 ⟨rfl, rfl⟩
        go_wp2_with fail
        refine (RP.out _ B5.out).mono ?_
        rintro e8 w8 ⟨rfl, b8⟩
        have B8 := hid (below_on B5.out b8)
        clear b8
        go_wp2_with fail
        refine (FL.out _ B8.out).mono ?_
        rintro e9 w9 ⟨rfl, b9⟩
        have B9 := hid (below_on B8.out b9)
        clear b9
        go_wp2_with fail
        refine (RL.out _ B9.out).mono ?_
        rintro e10 w10 ⟨rfl, rfl⟩
        go_wp2_with fail
        exact ⟨⟨(i : Int) + 1 + 1, by omega, by omega, by simp, hid (below_on hB.out B9.out)⟩, by simp [intOf]; omega⟩
      | none =>
        rw [hg] at HP HH
        rw [show protoF L k = 0 from by unfold protoF; rw [hg]] at HP
        clear hg
        go_wp2_with fail
        refine HP.out.mono ?_
        rintro e1 w1 ⟨rfl, rfl⟩
        go_wp2_with fail
        refine HH.out.mono ?_
        rintro e1 w1 ⟨rfl, rfl⟩
        go_wp2_with fail
        refine HN.out.mono ?_
        rintro e2 w2 ⟨v2, rfl, q2, b2⟩
        have B2 := hid b2
        have I2 := hid (intsAt_row q2)
        obtain ⟨so, sc, rfl⟩ := row_shape (row_base q2 (Nat.zero_le _))
        clear q2 b2
        go_wp2_with fail
        refine (RN.out _ B2.out).mono ?_
        rintro e3 w3 ⟨⟨no3, nc3, rfl, hn3⟩, rfl⟩
        have HNu := hid (numbers_calls _ I2.out (intsAt_row hn3.1) (by omega))
        rw [decide_eq_true rfl] at HNu
        clear hn3
        go_wp2_with fail
        refine HNu.out.mono ?_
        rintro e4 w4 ⟨rfl, b4⟩
        have B4 := hid (below_on B2.out b4)
        clear b4 HNu
        go_wp2_with fail
        refine (FS.out _ B4.out).mono ?_
        rintro e5 w5 ⟨rfl, b5⟩
        have B5 := hid (below_on B4.out b5)
        clear b5
        go_wp2_with fail
        refine (RN.out _ B5.out).mono ?_
        rintro e6 w6 ⟨⟨no6, nc6, rfl, hn6⟩, rfl⟩
        clear hn6
        go_wp2_with fail
        refine (FP.out _ B5.out).mono ?_
        rintro e7 w7 ⟨rfl, rfl⟩
        go_wp2_with fail
        refine (RP.out _ B5.out).mono ?_
        rintro e8 w8 ⟨rfl, b8⟩
        have B8 := hid (below_on B5.out b8)
        clear b8
        go_wp2_with fail
        refine (FL.out _ B8.out).mono ?_
        rintro e9 w9 ⟨rfl, b9⟩
        have B9 := hid (below_on B8.out b9)
        clear b9
        go_wp2_with fail
        refine (RL.out _ B9.out).mono ?_
        rintro e10 w10 ⟨rfl, rfl⟩
        go_wp2_with fail
        exact ⟨⟨k + 1, by omega, by omega, by simp, hid (below_on hB.out B9.out)⟩, by simp [intOf]; omega⟩
    · have hke : k = (L.length : Int) + 2 := by omega
      subst hke
      have d1 : decide ((L.length : Int) + 2 ≤ (L.length : Int) + 1) = false := decide_eq_false (by omega)
      have HLn := hid (flen_calls wr.drew (F.out.on (Below.refl _ _).drew))
      go_wp2_with fail
      refine wp_region_held_drew (S := fun q => q.cell? ⟨r, 0, none⟩ = some (.slice ao L.length cap)) (by kernel_rfl) g0 (fun hHeld => ?_)
      refine wpAnyH_take (i := 0) (v := ?v33) rfl (by kernel_rfl) (by kernel_rfl) (by kernel_rfl) (fun _ _ _ h => h) (Or.inl ⟨by rfl, ?hy33⟩) (by assumption) ?_
      case hy33 => (intro w hSw; go_simp <;> (try with_reducible rfl))
      simp only [Act.put, List.setIfInBounds_toArray, List.set_cons_zero, List.set_cons_succ, List.getElem_toArray, List.getElem_cons_succ, List.getElem_cons_zero]
      refine wpAnyH_take (i := 2) (v := ?v34) rfl (by kernel_rfl) (by kernel_rfl) (by kernel_rfl) (fun _ _ _ h => h) (Or.inl ⟨by rfl, ?hy34⟩) (by assumption) ?_
      case hy34 => (intro w hSw; go_simp <;> (try with_reducible rfl))
      simp only [Act.put, List.setIfInBounds_toArray, List.set_cons_zero, List.set_cons_succ, List.getElem_toArray, List.getElem_cons_succ, List.getElem_cons_zero]
      refine wpAnyH_take (i := 3) (v := ?v35) rfl (by kernel_rfl) (by kernel_rfl) (by kernel_rfl) (fun _ _ _ h => h) (Or.inl ⟨by rfl, ?hy35⟩) (by assumption) ?_
      case hy35 => (intro w hSw; go_simp <;> (try with_reducible rfl))
      simp only [Act.put, List.setIfInBounds_toArray, List.set_cons_zero, List.set_cons_succ, List.getElem_toArray, List.getElem_cons_succ, List.getElem_cons_zero]
      refine wpAnyH_take (i := 4) (v := ?v36) rfl (by kernel_rfl) (by kernel_rfl) (by kernel_rfl) (fun _ _ _ h => h) (Or.inl ⟨by rfl, ?hy36⟩) (by assumption) ?_
      case hy36 => (intro w hSw; go_simp <;> (try with_reducible rfl))
      simp only [Act.put, List.setIfInBounds_toArray, List.set_cons_zero, List.set_cons_succ, List.getElem_toArray, List.getElem_cons_succ, List.getElem_cons_zero]
      refine wpAnyH_take (i := 5) (v := ?v37) rfl (by kernel_rfl) (by kernel_rfl) (by kernel_rfl) (fun _ _ _ h => h) (Or.inl ⟨by rfl, ?hy37⟩) (by assumption) ?_
      case hy37 => (intro w hSw; go_simp <;> (try with_reducible rfl))
      simp only [Act.put, List.setIfInBounds_toArray, List.set_cons_zero, List.set_cons_succ, List.getElem_toArray, List.getElem_cons_succ, List.getElem_cons_zero]
      refine wpAnyH_take (i := 6) (v := ?v38) rfl (by kernel_rfl) (by kernel_rfl) (by kernel_rfl) (fun _ _ _ h => h) (Or.inl ⟨by rfl, ?hy38⟩) (by assumption) ?_
      case hy38 => (intro w hSw; go_simp <;> (try with_reducible rfl))
      simp only [Act.put, List.setIfInBounds_toArray, List.set_cons_zero, List.set_cons_succ, List.getElem_toArray, List.getElem_cons_succ, List.getElem_cons_zero]
      refine wpAnyH_ready (rs := [1]) (by kernel_rfl) (by simp) ?_
      refine AllReadyH.cons rfl (fun K hK => ?_) AllReadyH.nil
      go_simp
      refine HLn.out.mono ?_
      rintro e2 w2 ⟨rfl, rfl⟩
      go_simp
      refine hK.out _ _ g0 (fun _ => ?_)
      clear hK K
      refine wpAnyH_take (i := 7) (v := ?v40) rfl (by kernel_rfl) (by kernel_rfl) (by kernel_rfl) (fun _ _ _ h => h) (Or.inl ⟨by rfl, ?hy40⟩) (by assumption) ?_
      case hy40 => (intro w hSw; go_simp <;> (try with_reducible rfl))
      simp only [Act.put, List.setIfInBounds_toArray, List.set_cons_zero, List.set_cons_succ, List.getElem_toArray, List.getElem_cons_succ, List.getElem_cons_zero]
      refine wpAnyH_take (i := 8) (v := ?v41) rfl (by kernel_rfl) (by kernel_rfl) (by kernel_rfl) (fun _ _ _ h => h) (Or.inl ⟨by rfl, ?hy41⟩) (by assumption) ?_
      case hy41 => (intro w hSw; go_simp <;> (try with_reducible rfl))
      simp only [Act.put, List.setIfInBounds_toArray, List.set_cons_zero, List.set_cons_succ, List.getElem_toArray, List.getElem_cons_succ, List.getElem_cons_zero]
      refine wpAnyH_done (by kernel_rfl) ?_ _
      go_wp2_with fail
      go_ret
      exact ⟨rfl, hB.out.drew⟩

end Go.Proofs.Ytjnljbhgbkbmlaa
