/- An act on a heap, beside a heap of the document's that has no room. -/
import Derived.Test.YtemidicgipebjaaGreatHpLaw
import Derived.Test.YtemidicgipebjaaGreatHpRef0
namespace Go.Proofs.YtemidicgipebjaaGreat
set_option linter.unusedSimpArgs false
set_option linter.unusedVariables false
set_option maxRecDepth 100000
open Go.RowKit

/-- what an act makes of a heap -/
def actH (H : He) (a : AcH) : He :=
  if a.1 = 0 then makeH H else if a.1 = 1 then setH H a.2.1 a.2.2.2.1 a.2.2.2.2 else if a.1 = 2 then delH H a.2.1 a.2.2.2.1 else if a.1 = 3 then protoS H a.2.1 a.2.2.1
  else if a.1 = 4 then putH H a.2.1 a.2.2.1 a.2.2.2.2 else if a.1 = 5 then growH H a.2.1 a.2.2.1 a.2.2.2.2 else if a.1 = 6 then nextH H a.2.2.1 a.2.2.2.1 else H
/-- the act's cells -/
def BoxA (g : Nat) (a : AcH) (w : World) : Prop := g < w.heap.size ∧ w.cell? ⟨g, 1, none⟩ = some (.int .i64 a.2.1) ∧ w.cell? ⟨g, 2, none⟩ = some (.int .i64 a.2.2.1) ∧ w.cell? ⟨g, 3, none⟩ = some (.string a.2.2.2.1) ∧ w.cell? ⟨g, 4, none⟩ = some (.int .i64 a.2.2.2.2.1) ∧ w.cell? ⟨g, 5, none⟩ = some (.int .i64 a.2.2.2.2.2.1) ∧ w.cell? ⟨g, 6, none⟩ = some (.string a.2.2.2.2.2.2)
theorem boxA_on {g : Nat} {a : AcH} {x y : World} (h : BoxA g a x) (k : Below x.heap.size x y) : BoxA g a y := by
  obtain ⟨h0, h1, h2, h3, h4, h5, h6⟩ := h
  exact ⟨Nat.lt_of_lt_of_le h0 k.size, cell_on h1 h0 k, cell_on h2 h0 k, cell_on h3 h0 k, cell_on h4 h0 k, cell_on h5 h0 k, cell_on h6 h0 k⟩
theorem boxA_keep {S : Nat → Prop} {g : Nat} {a : AcH} {x y : World} (h : BoxA g a x) (k : Keep S x y) (hs : ¬ S g) : BoxA g a y := by
  obtain ⟨h0, h1, h2, h3, h4, h5, h6⟩ := h
  exact ⟨Nat.lt_of_lt_of_le h0 k.size, cell_keep h1 h0 k hs, cell_keep h2 h0 k hs, cell_keep h3 h0 k hs, cell_keep h4 h0 k hs, cell_keep h5 h0 k hs, cell_keep h6 h0 k hs⟩
/-- what an act comes to, beside the law's blocks X -/
def Did (B : Nat) (X : Nat → Prop) (K h : Nat) (H : He) (w : World) (e : Ending) (w' : World) : Prop := ∃ b, e = .returned (.bool b) ∧ HpX B X K h H w' ∧ Keep (fun b => B ≤ b ∧ ¬ X b) w w'
set_option maxHeartbeats 4000000 in
theorem done_1 {B J h r f : Nat} {X : Nat → Prop} {H : He} (w : World) (p : HpX B X J h H w) (h40 : 40 ≤ J) (hK2 : J ≤ 900000) (hB : B ≤ w.heap.size) (hX : ∀ b, X b → b < w.heap.size) (r0 : R0 r f w) (hr : X r) (hf : X f) (a : AcH) (hn : a.2.2.2.1.size ≤ 1000000) (hd : a.1 = 1) :
    Calls Tryz.prog 12 #[.pointer (some ⟨h, 0, none⟩), .pointer (some ⟨r, 0, none⟩), acHV a] w fun e w' => Did B X (J + 1) h (setH H a.2.1 a.2.2.2.1 a.2.2.2.2) w e w' := by
  have A := (Below.refl w.heap.size w).alloc (Nat.le_refl _) (acHO a)
  have PX : HpX B (fun b => X b ∨ b = w.heap.size) J h H w := p.mono (fun b hb h => ⟨h.1, by rintro (e | e); exact h.2 e; omega⟩)
  have hXX : ∀ b, (X b ∨ b = w.heap.size) → b < (w.alloc (acHO a)).heap.size := fun b h => by rcases h with h | h; have := hX b h; simp; omega; simp; omega
  have hBB : B ≤ (w.alloc (acHO a)).heap.size := by simp; omega
  have HX := hid hXX
  have HR := hid (r0.on A)
  have PA := hid (PX.on A)
  have HA := hid A
  have KX : BoxA w.heap.size a (w.alloc (acHO a)) := ⟨by simp, by simp, by simp, by simp, by simp, by simp, by simp⟩
  have HK := hid KX
  have HXr := hid hr
  have HXf := hid hf
  have D := A.drew
  have HC := hid (hset_calls _ (PX.on D) h40 hK2 a.2.1 a.2.2.2.1 hn a.2.2.2.2)
  have HRD := hid (r0.on D)
  have KD := hid (boxA_on KX (Below.refl _ _).drew)
  have HD := hid D
  have hXD : ∀ b, (X b ∨ b = w.heap.size) → b < (w.alloc (acHO a)).drew.heap.size := hXX
  have HXD := hid hXD
  obtain ⟨l0, n1, n2, n3, n4, n5, n6⟩ := KX
  obtain ⟨a0, aa, ab, an, av⟩ := a
  dsimp only at *
  subst hd
  unfold vlV at *
  clear p PX A D hX r0 hXX hXD hr hf
  go_enter Tryz.func12, Tryz.ntmps12
  go_wp2_with fail
  refine wp_region_held_drew (S := fun aZ => aZ.cell? ⟨w.heap.size, 1, none⟩ = some (.int .i64 aa) ∧ aZ.cell? ⟨w.heap.size, 2, none⟩ = some (.int .i64 ab) ∧ aZ.cell? ⟨w.heap.size, 3, none⟩ = some (.string an) ∧ aZ.cell? ⟨w.heap.size, 4, none⟩ = some (.int .i64 av.1) ∧ aZ.cell? ⟨w.heap.size, 5, none⟩ = some (.int .i64 av.2.1) ∧ aZ.cell? ⟨w.heap.size, 6, none⟩ = some (.string av.2.2)) (by kernel_rfl) ?_ (fun hHeld => ?_)
  · (refine ⟨?_, ?_, ?_, ?_, ?_, ?_⟩ <;> go_simp)
  refine wpAnyH_take (i := 0) (v := ?v1) rfl (by kernel_rfl) (by kernel_rfl) (by kernel_rfl) (fun _ _ _ h => h) (Or.inl ⟨by rfl, ?hy1⟩) (by assumption) ?_
  case hy1 => (intro w hSw; go_simp <;> (try with_reducible rfl))
  simp only [Act.put, List.setIfInBounds_toArray, List.set_cons_zero, List.set_cons_succ, List.getElem_toArray, List.getElem_cons_succ, List.getElem_cons_zero]
  refine wpAnyH_take (i := 1) (v := ?v2) rfl (by kernel_rfl) (by kernel_rfl) (by kernel_rfl) (fun _ _ _ h => h) (Or.inl ⟨by rfl, ?hy2⟩) (by assumption) ?_
  case hy2 => (intro w hSw; go_simp <;> (try with_reducible rfl))
  simp only [Act.put, List.setIfInBounds_toArray, List.set_cons_zero, List.set_cons_succ, List.getElem_toArray, List.getElem_cons_succ, List.getElem_cons_zero]
  refine wpAnyH_take (i := 2) (v := ?v3) rfl (by kernel_rfl) (by kernel_rfl) (by kernel_rfl) (fun _ _ _ h => h) (Or.inl ⟨by rfl, ?hy3⟩) (by assumption) ?_
  case hy3 => (intro w hSw; go_simp <;> (try with_reducible rfl))
  simp only [Act.put, List.setIfInBounds_toArray, List.set_cons_zero, List.set_cons_succ, List.getElem_toArray, List.getElem_cons_succ, List.getElem_cons_zero]
  refine wpAnyH_take (i := 3) (v := ?v4) rfl (by kernel_rfl) (by kernel_rfl) (by kernel_rfl) (fun _ _ _ h => h) (Or.inl ⟨by rfl, ?hy4⟩) (by assumption) ?_
  case hy4 => (intro w hSw; go_simp <;> (try with_reducible rfl))
  simp only [Act.put, List.setIfInBounds_toArray, List.set_cons_zero, List.set_cons_succ, List.getElem_toArray, List.getElem_cons_succ, List.getElem_cons_zero]
  refine wpAnyH_take (i := 4) (v := ?v5) rfl (by kernel_rfl) (by kernel_rfl) (by kernel_rfl) (fun _ _ _ h => h) (Or.inl ⟨by rfl, ?hy5⟩) (by assumption) ?_
  case hy5 => (intro w hSw; go_simp <;> (try with_reducible rfl))
  simp only [Act.put, List.setIfInBounds_toArray, List.set_cons_zero, List.set_cons_succ, List.getElem_toArray, List.getElem_cons_succ, List.getElem_cons_zero]
  refine wpAnyH_take (i := 5) (v := ?v6) rfl (by kernel_rfl) (by kernel_rfl) (by kernel_rfl) (fun _ _ _ h => h) (Or.inl ⟨by rfl, ?hy6⟩) (by assumption) ?_
  case hy6 => (intro w hSw; go_simp <;> (try with_reducible rfl))
  simp only [Act.put, List.setIfInBounds_toArray, List.set_cons_zero, List.set_cons_succ, List.getElem_toArray, List.getElem_cons_succ, List.getElem_cons_zero]
  refine wpAnyH_take (i := 6) (v := ?v7) rfl (by kernel_rfl) (by kernel_rfl) (by kernel_rfl) (fun _ _ _ h => h) (Or.inl ⟨by rfl, ?hy7⟩) (by assumption) ?_
  case hy7 => (intro w hSw; go_simp <;> (try with_reducible rfl))
  simp only [Act.put, List.setIfInBounds_toArray, List.set_cons_zero, List.set_cons_succ, List.getElem_toArray, List.getElem_cons_succ, List.getElem_cons_zero]
  refine wpAnyH_take (i := 8) (v := ?v8) rfl (by kernel_rfl) (by kernel_rfl) (by kernel_rfl) (fun _ _ _ h => h) (Or.inl ⟨by rfl, ?hy8⟩) (by assumption) ?_
  case hy8 => (intro w hSw; go_simp <;> (try with_reducible rfl))
  simp only [Act.put, List.setIfInBounds_toArray, List.set_cons_zero, List.set_cons_succ, List.getElem_toArray, List.getElem_cons_succ, List.getElem_cons_zero]
  refine wpAnyH_take (i := 9) (v := ?v9) rfl (by kernel_rfl) (by kernel_rfl) (by kernel_rfl) (fun _ _ _ h => h) (Or.inl ⟨by rfl, ?hy9⟩) (by assumption) ?_
  case hy9 => (intro w hSw; go_simp <;> (try with_reducible rfl))
  simp only [Act.put, List.setIfInBounds_toArray, List.set_cons_zero, List.set_cons_succ, List.getElem_toArray, List.getElem_cons_succ, List.getElem_cons_zero]
  refine wpAnyH_take (i := 10) (v := ?v10) rfl (by kernel_rfl) (by kernel_rfl) (by kernel_rfl) (fun _ _ _ h => h) (Or.inl ⟨by rfl, ?hy10⟩) (by assumption) ?_
  case hy10 => (intro w hSw; go_simp <;> (try with_reducible rfl))
  simp only [Act.put, List.setIfInBounds_toArray, List.set_cons_zero, List.set_cons_succ, List.getElem_toArray, List.getElem_cons_succ, List.getElem_cons_zero]
  refine wpAnyH_take (i := 11) (v := ?v11) rfl (by kernel_rfl) (by kernel_rfl) (by kernel_rfl) (fun _ _ _ h => h) (Or.inl ⟨by rfl, ?hy11⟩) (by assumption) ?_
  case hy11 => (intro w hSw; go_simp <;> (try with_reducible rfl))
  simp only [Act.put, List.setIfInBounds_toArray, List.set_cons_zero, List.set_cons_succ, List.getElem_toArray, List.getElem_cons_succ, List.getElem_cons_zero]
  refine wpAnyH_take (i := 12) (v := ?v12) rfl (by kernel_rfl) (by kernel_rfl) (by kernel_rfl) (fun _ _ _ h => h) (Or.inl ⟨by rfl, ?hy12⟩) (by assumption) ?_
  case hy12 => (intro w hSw; go_simp <;> (try with_reducible rfl))
  simp only [Act.put, List.setIfInBounds_toArray, List.set_cons_zero, List.set_cons_succ, List.getElem_toArray, List.getElem_cons_succ, List.getElem_cons_zero]
  refine wpAnyH_take (i := 13) (v := ?v13) rfl (by kernel_rfl) (by kernel_rfl) (by kernel_rfl) (fun _ _ _ h => h) (Or.inl ⟨by rfl, ?hy13⟩) (by assumption) ?_
  case hy13 => (intro w hSw; go_simp <;> (try with_reducible rfl))
  simp only [Act.put, List.setIfInBounds_toArray, List.set_cons_zero, List.set_cons_succ, List.getElem_toArray, List.getElem_cons_succ, List.getElem_cons_zero]
  refine wpAnyH_take (i := 14) (v := ?v14) rfl (by kernel_rfl) (by kernel_rfl) (by kernel_rfl) (fun _ _ _ h => h) (Or.inl ⟨by rfl, ?hy14⟩) (by assumption) ?_
  case hy14 => (intro w hSw; go_simp <;> (try with_reducible rfl))
  simp only [Act.put, List.setIfInBounds_toArray, List.set_cons_zero, List.set_cons_succ, List.getElem_toArray, List.getElem_cons_succ, List.getElem_cons_zero]
  refine wpAnyH_ready (rs := [7]) (by kernel_rfl) (by simp) ?_
  refine AllReadyH.cons rfl (fun K hK => ?_) AllReadyH.nil
  go_simp
  refine HC.out.mono ?_
  rintro e1 w1 ⟨rfl, pk⟩
  obtain ⟨p1, k1, b1⟩ := hp_step (X := fun b => X b ∨ b = w.heap.size) HXD.out hBB pk
  have RR := hid (HRD.out.keep k1 (fun h => h.2 (.inl HXr.out)) (fun h => h.2 (.inl HXf.out)))
  have KK := hid (boxA_keep KD.out k1 (fun h => h.2 (.inr rfl)))
  have P1 := hid (p1)
  have K1 := hid ((Keep.of (S := fun b => B ≤ b ∧ ¬ X b) HD.out).trans k1 (fun b _ h => ⟨h.1, fun e => h.2 (.inl e)⟩))
  clear pk p1 k1 b1 HC
  obtain ⟨m0, m1, m2, m3, m4, m5, m6⟩ := KK.out
  dsimp only at m1 m2 m3 m4 m5 m6
  go_simp
  refine hK.out _ _ ?_ (fun _ => ?_)
  · (refine ⟨?_, ?_, ?_, ?_, ?_, ?_⟩ <;> (first | assumption | go_simp))
  clear hK K
  refine wpAnyH_ready (rs := [15]) (by kernel_rfl) (by simp) ?_
  refine AllReadyH.cons rfl (fun K hK => ?_) AllReadyH.nil
  go_simp
  refine (rset0 w1 RR.out aa an av).mono ?_
  rintro e2 w2 ⟨rfl, b2⟩
  obtain ⟨m0, m1, m2, m3, m4, m5, m6⟩ := boxA_on KK.out b2
  dsimp only at m1 m2 m3 m4 m5 m6
  have R := hid (show HpX B X (J + 1) h (setH H aa an av) w2 ∧ Keep (fun b => B ≤ b ∧ ¬ X b) w w2 from ⟨(P1.out.on b2).mono (fun b _ h => ⟨h.1, fun e => h.2 (.inl e)⟩), K1.out.trans (Keep.of b2) (fun _ _ h => h)⟩)
  clear b2 RR P1 K1
  go_simp
  refine hK.out _ _ ?_ (fun _ => ?_)
  · (refine ⟨?_, ?_, ?_, ?_, ?_, ?_⟩ <;> (first | assumption | go_simp))
  clear hK K
  refine wpAnyH_take (i := 16) (v := ?v17) rfl (by kernel_rfl) (by kernel_rfl) (by kernel_rfl) (fun _ _ _ h => h) (Or.inl ⟨by rfl, ?hy17⟩) (by assumption) ?_
  case hy17 => (intro w hSw; go_simp <;> (try with_reducible rfl))
  simp only [Act.put, List.setIfInBounds_toArray, List.set_cons_zero, List.set_cons_succ, List.getElem_toArray, List.getElem_cons_succ, List.getElem_cons_zero]
  refine wpAnyH_take (i := 17) (v := ?v18) rfl (by kernel_rfl) (by kernel_rfl) (by kernel_rfl) (fun _ _ _ h => h) (Or.inl ⟨by rfl, ?hy18⟩) (by assumption) ?_
  case hy18 => (intro w hSw; go_simp <;> (try with_reducible rfl))
  simp only [Act.put, List.setIfInBounds_toArray, List.set_cons_zero, List.set_cons_succ, List.getElem_toArray, List.getElem_cons_succ, List.getElem_cons_zero]
  refine wpAnyH_done (by kernel_rfl) ?_ _
  go_wp2_with fail
  all_goals
    go_ret
    exact ⟨_, rfl, R.out⟩
set_option maxHeartbeats 4000000 in
theorem done_2 {B J h r f : Nat} {X : Nat → Prop} {H : He} (w : World) (p : HpX B X J h H w) (h40 : 40 ≤ J) (hK2 : J ≤ 900000) (hB : B ≤ w.heap.size) (hX : ∀ b, X b → b < w.heap.size) (r0 : R0 r f w) (hr : X r) (hf : X f) (a : AcH) (hn : a.2.2.2.1.size ≤ 1000000) (hd : a.1 = 2) :
    Calls Tryz.prog 12 #[.pointer (some ⟨h, 0, none⟩), .pointer (some ⟨r, 0, none⟩), acHV a] w fun e w' => Did B X (J + 1) h (delH H a.2.1 a.2.2.2.1) w e w' := by
  have A := (Below.refl w.heap.size w).alloc (Nat.le_refl _) (acHO a)
  have PX : HpX B (fun b => X b ∨ b = w.heap.size) J h H w := p.mono (fun b hb h => ⟨h.1, by rintro (e | e); exact h.2 e; omega⟩)
  have hXX : ∀ b, (X b ∨ b = w.heap.size) → b < (w.alloc (acHO a)).heap.size := fun b h => by rcases h with h | h; have := hX b h; simp; omega; simp; omega
  have hBB : B ≤ (w.alloc (acHO a)).heap.size := by simp; omega
  have HX := hid hXX
  have HR := hid (r0.on A)
  have PA := hid (PX.on A)
  have HA := hid A
  have KX : BoxA w.heap.size a (w.alloc (acHO a)) := ⟨by simp, by simp, by simp, by simp, by simp, by simp, by simp⟩
  have HK := hid KX
  have HXr := hid hr
  have HXf := hid hf
  have D := A.drew
  have HC := hid (hdel_calls _ (PX.on D) h40 hK2 a.2.1 a.2.2.2.1 hn)
  have HRD := hid (r0.on D)
  have KD := hid (boxA_on KX (Below.refl _ _).drew)
  have HD := hid D
  have hXD : ∀ b, (X b ∨ b = w.heap.size) → b < (w.alloc (acHO a)).drew.heap.size := hXX
  have HXD := hid hXD
  obtain ⟨l0, n1, n2, n3, n4, n5, n6⟩ := KX
  obtain ⟨a0, aa, ab, an, av⟩ := a
  dsimp only at *
  subst hd
  unfold vlV at *
  clear p PX A D hX r0 hXX hXD hr hf
  go_enter Tryz.func12, Tryz.ntmps12
  go_wp2_with fail
  refine wp_region_held_drew (S := fun aZ => aZ.cell? ⟨w.heap.size, 1, none⟩ = some (.int .i64 aa) ∧ aZ.cell? ⟨w.heap.size, 2, none⟩ = some (.int .i64 ab) ∧ aZ.cell? ⟨w.heap.size, 3, none⟩ = some (.string an) ∧ aZ.cell? ⟨w.heap.size, 4, none⟩ = some (.int .i64 av.1) ∧ aZ.cell? ⟨w.heap.size, 5, none⟩ = some (.int .i64 av.2.1) ∧ aZ.cell? ⟨w.heap.size, 6, none⟩ = some (.string av.2.2)) (by kernel_rfl) ?_ (fun hHeld => ?_)
  · (refine ⟨?_, ?_, ?_, ?_, ?_, ?_⟩ <;> go_simp)
  refine wpAnyH_take (i := 0) (v := ?v19) rfl (by kernel_rfl) (by kernel_rfl) (by kernel_rfl) (fun _ _ _ h => h) (Or.inl ⟨by rfl, ?hy19⟩) (by assumption) ?_
  case hy19 => (intro w hSw; go_simp <;> (try with_reducible rfl))
  simp only [Act.put, List.setIfInBounds_toArray, List.set_cons_zero, List.set_cons_succ, List.getElem_toArray, List.getElem_cons_succ, List.getElem_cons_zero]
  refine wpAnyH_take (i := 1) (v := ?v20) rfl (by kernel_rfl) (by kernel_rfl) (by kernel_rfl) (fun _ _ _ h => h) (Or.inl ⟨by rfl, ?hy20⟩) (by assumption) ?_
  case hy20 => (intro w hSw; go_simp <;> (try with_reducible rfl))
  simp only [Act.put, List.setIfInBounds_toArray, List.set_cons_zero, List.set_cons_succ, List.getElem_toArray, List.getElem_cons_succ, List.getElem_cons_zero]
  refine wpAnyH_take (i := 2) (v := ?v21) rfl (by kernel_rfl) (by kernel_rfl) (by kernel_rfl) (fun _ _ _ h => h) (Or.inl ⟨by rfl, ?hy21⟩) (by assumption) ?_
  case hy21 => (intro w hSw; go_simp <;> (try with_reducible rfl))
  simp only [Act.put, List.setIfInBounds_toArray, List.set_cons_zero, List.set_cons_succ, List.getElem_toArray, List.getElem_cons_succ, List.getElem_cons_zero]
  refine wpAnyH_take (i := 3) (v := ?v22) rfl (by kernel_rfl) (by kernel_rfl) (by kernel_rfl) (fun _ _ _ h => h) (Or.inl ⟨by rfl, ?hy22⟩) (by assumption) ?_
  case hy22 => (intro w hSw; go_simp <;> (try with_reducible rfl))
  simp only [Act.put, List.setIfInBounds_toArray, List.set_cons_zero, List.set_cons_succ, List.getElem_toArray, List.getElem_cons_succ, List.getElem_cons_zero]
  refine wpAnyH_take (i := 4) (v := ?v23) rfl (by kernel_rfl) (by kernel_rfl) (by kernel_rfl) (fun _ _ _ h => h) (Or.inl ⟨by rfl, ?hy23⟩) (by assumption) ?_
  case hy23 => (intro w hSw; go_simp <;> (try with_reducible rfl))
  simp only [Act.put, List.setIfInBounds_toArray, List.set_cons_zero, List.set_cons_succ, List.getElem_toArray, List.getElem_cons_succ, List.getElem_cons_zero]
  refine wpAnyH_take (i := 6) (v := ?v24) rfl (by kernel_rfl) (by kernel_rfl) (by kernel_rfl) (fun _ _ _ h => h) (Or.inl ⟨by rfl, ?hy24⟩) (by assumption) ?_
  case hy24 => (intro w hSw; go_simp <;> (try with_reducible rfl))
  simp only [Act.put, List.setIfInBounds_toArray, List.set_cons_zero, List.set_cons_succ, List.getElem_toArray, List.getElem_cons_succ, List.getElem_cons_zero]
  refine wpAnyH_take (i := 7) (v := ?v25) rfl (by kernel_rfl) (by kernel_rfl) (by kernel_rfl) (fun _ _ _ h => h) (Or.inl ⟨by rfl, ?hy25⟩) (by assumption) ?_
  case hy25 => (intro w hSw; go_simp <;> (try with_reducible rfl))
  simp only [Act.put, List.setIfInBounds_toArray, List.set_cons_zero, List.set_cons_succ, List.getElem_toArray, List.getElem_cons_succ, List.getElem_cons_zero]
  refine wpAnyH_take (i := 8) (v := ?v26) rfl (by kernel_rfl) (by kernel_rfl) (by kernel_rfl) (fun _ _ _ h => h) (Or.inl ⟨by rfl, ?hy26⟩) (by assumption) ?_
  case hy26 => (intro w hSw; go_simp <;> (try with_reducible rfl))
  simp only [Act.put, List.setIfInBounds_toArray, List.set_cons_zero, List.set_cons_succ, List.getElem_toArray, List.getElem_cons_succ, List.getElem_cons_zero]
  refine wpAnyH_take (i := 9) (v := ?v27) rfl (by kernel_rfl) (by kernel_rfl) (by kernel_rfl) (fun _ _ _ h => h) (Or.inl ⟨by rfl, ?hy27⟩) (by assumption) ?_
  case hy27 => (intro w hSw; go_simp <;> (try with_reducible rfl))
  simp only [Act.put, List.setIfInBounds_toArray, List.set_cons_zero, List.set_cons_succ, List.getElem_toArray, List.getElem_cons_succ, List.getElem_cons_zero]
  refine wpAnyH_take (i := 10) (v := ?v28) rfl (by kernel_rfl) (by kernel_rfl) (by kernel_rfl) (fun _ _ _ h => h) (Or.inl ⟨by rfl, ?hy28⟩) (by assumption) ?_
  case hy28 => (intro w hSw; go_simp <;> (try with_reducible rfl))
  simp only [Act.put, List.setIfInBounds_toArray, List.set_cons_zero, List.set_cons_succ, List.getElem_toArray, List.getElem_cons_succ, List.getElem_cons_zero]
  refine wpAnyH_ready (rs := [5]) (by kernel_rfl) (by simp) ?_
  refine AllReadyH.cons rfl (fun K hK => ?_) AllReadyH.nil
  go_simp
  refine HC.out.mono ?_
  rintro e1 w1 ⟨rfl, pk⟩
  obtain ⟨p1, k1, b1⟩ := hp_step (X := fun b => X b ∨ b = w.heap.size) HXD.out hBB pk
  have RR := hid (HRD.out.keep k1 (fun h => h.2 (.inl HXr.out)) (fun h => h.2 (.inl HXf.out)))
  have KK := hid (boxA_keep KD.out k1 (fun h => h.2 (.inr rfl)))
  have P1 := hid (p1)
  have K1 := hid ((Keep.of (S := fun b => B ≤ b ∧ ¬ X b) HD.out).trans k1 (fun b _ h => ⟨h.1, fun e => h.2 (.inl e)⟩))
  clear pk p1 k1 b1 HC
  obtain ⟨m0, m1, m2, m3, m4, m5, m6⟩ := KK.out
  dsimp only at m1 m2 m3 m4 m5 m6
  go_simp
  refine hK.out _ _ ?_ (fun _ => ?_)
  · (refine ⟨?_, ?_, ?_, ?_, ?_, ?_⟩ <;> (first | assumption | go_simp))
  clear hK K
  refine wpAnyH_ready (rs := [11]) (by kernel_rfl) (by simp) ?_
  refine AllReadyH.cons rfl (fun K hK => ?_) AllReadyH.nil
  go_simp
  refine (rdel0 w1 RR.out aa an).mono ?_
  rintro e2 w2 ⟨rfl, b2⟩
  obtain ⟨m0, m1, m2, m3, m4, m5, m6⟩ := boxA_on KK.out b2
  dsimp only at m1 m2 m3 m4 m5 m6
  have R := hid (show HpX B X (J + 1) h (delH H aa an) w2 ∧ Keep (fun b => B ≤ b ∧ ¬ X b) w w2 from ⟨(P1.out.on b2).mono (fun b _ h => ⟨h.1, fun e => h.2 (.inl e)⟩), K1.out.trans (Keep.of b2) (fun _ _ h => h)⟩)
  clear b2 RR P1 K1
  go_simp
  refine hK.out _ _ ?_ (fun _ => ?_)
  · (refine ⟨?_, ?_, ?_, ?_, ?_, ?_⟩ <;> (first | assumption | go_simp))
  clear hK K
  refine wpAnyH_take (i := 12) (v := ?v31) rfl (by kernel_rfl) (by kernel_rfl) (by kernel_rfl) (fun _ _ _ h => h) (Or.inl ⟨by rfl, ?hy31⟩) (by assumption) ?_
  case hy31 => (intro w hSw; go_simp <;> (try with_reducible rfl))
  simp only [Act.put, List.setIfInBounds_toArray, List.set_cons_zero, List.set_cons_succ, List.getElem_toArray, List.getElem_cons_succ, List.getElem_cons_zero]
  refine wpAnyH_take (i := 13) (v := ?v32) rfl (by kernel_rfl) (by kernel_rfl) (by kernel_rfl) (fun _ _ _ h => h) (Or.inl ⟨by rfl, ?hy32⟩) (by assumption) ?_
  case hy32 => (intro w hSw; go_simp <;> (try with_reducible rfl))
  simp only [Act.put, List.setIfInBounds_toArray, List.set_cons_zero, List.set_cons_succ, List.getElem_toArray, List.getElem_cons_succ, List.getElem_cons_zero]
  refine wpAnyH_done (by kernel_rfl) ?_ _
  go_wp2_with fail
  all_goals
    go_ret
    exact ⟨_, rfl, R.out⟩
set_option maxHeartbeats 4000000 in
theorem done_3 {B J h r f : Nat} {X : Nat → Prop} {H : He} (w : World) (p : HpX B X J h H w) (h40 : 40 ≤ J) (hK2 : J ≤ 900000) (hB : B ≤ w.heap.size) (hX : ∀ b, X b → b < w.heap.size) (r0 : R0 r f w) (hr : X r) (hf : X f) (a : AcH) (hn : a.2.2.2.1.size ≤ 1000000) (hd : a.1 = 3) :
    Calls Tryz.prog 12 #[.pointer (some ⟨h, 0, none⟩), .pointer (some ⟨r, 0, none⟩), acHV a] w fun e w' => Did B X (J + 1) h (protoS H a.2.1 a.2.2.1) w e w' := by
  have A := (Below.refl w.heap.size w).alloc (Nat.le_refl _) (acHO a)
  have PX : HpX B (fun b => X b ∨ b = w.heap.size) J h H w := p.mono (fun b hb h => ⟨h.1, by rintro (e | e); exact h.2 e; omega⟩)
  have hXX : ∀ b, (X b ∨ b = w.heap.size) → b < (w.alloc (acHO a)).heap.size := fun b h => by rcases h with h | h; have := hX b h; simp; omega; simp; omega
  have hBB : B ≤ (w.alloc (acHO a)).heap.size := by simp; omega
  have HX := hid hXX
  have HR := hid (r0.on A)
  have PA := hid (PX.on A)
  have HA := hid A
  have KX : BoxA w.heap.size a (w.alloc (acHO a)) := ⟨by simp, by simp, by simp, by simp, by simp, by simp, by simp⟩
  have HK := hid KX
  have HXr := hid hr
  have HXf := hid hf
  have D := A.drew
  have HC := hid (hsetproto_calls _ (PX.on D) h40 hK2 a.2.1 a.2.2.1)
  have HRD := hid (r0.on D)
  have KD := hid (boxA_on KX (Below.refl _ _).drew)
  have HD := hid D
  have hXD : ∀ b, (X b ∨ b = w.heap.size) → b < (w.alloc (acHO a)).drew.heap.size := hXX
  have HXD := hid hXD
  obtain ⟨l0, n1, n2, n3, n4, n5, n6⟩ := KX
  obtain ⟨a0, aa, ab, an, av⟩ := a
  dsimp only at *
  subst hd
  unfold vlV at *
  clear p PX A D hX r0 hXX hXD hr hf
  go_enter Tryz.func12, Tryz.ntmps12
  go_wp2_with fail
  refine wp_region_held_drew (S := fun aZ => aZ.cell? ⟨w.heap.size, 1, none⟩ = some (.int .i64 aa) ∧ aZ.cell? ⟨w.heap.size, 2, none⟩ = some (.int .i64 ab) ∧ aZ.cell? ⟨w.heap.size, 3, none⟩ = some (.string an) ∧ aZ.cell? ⟨w.heap.size, 4, none⟩ = some (.int .i64 av.1) ∧ aZ.cell? ⟨w.heap.size, 5, none⟩ = some (.int .i64 av.2.1) ∧ aZ.cell? ⟨w.heap.size, 6, none⟩ = some (.string av.2.2)) (by kernel_rfl) ?_ (fun hHeld => ?_)
  · (refine ⟨?_, ?_, ?_, ?_, ?_, ?_⟩ <;> go_simp)
  refine wpAnyH_take (i := 0) (v := ?v33) rfl (by kernel_rfl) (by kernel_rfl) (by kernel_rfl) (fun _ _ _ h => h) (Or.inl ⟨by rfl, ?hy33⟩) (by assumption) ?_
  case hy33 => (intro w hSw; go_simp <;> (try with_reducible rfl))
  simp only [Act.put, List.setIfInBounds_toArray, List.set_cons_zero, List.set_cons_succ, List.getElem_toArray, List.getElem_cons_succ, List.getElem_cons_zero]
  refine wpAnyH_take (i := 1) (v := ?v34) rfl (by kernel_rfl) (by kernel_rfl) (by kernel_rfl) (fun _ _ _ h => h) (Or.inl ⟨by rfl, ?hy34⟩) (by assumption) ?_
  case hy34 => (intro w hSw; go_simp <;> (try with_reducible rfl))
  simp only [Act.put, List.setIfInBounds_toArray, List.set_cons_zero, List.set_cons_succ, List.getElem_toArray, List.getElem_cons_succ, List.getElem_cons_zero]
  refine wpAnyH_take (i := 2) (v := ?v35) rfl (by kernel_rfl) (by kernel_rfl) (by kernel_rfl) (fun _ _ _ h => h) (Or.inl ⟨by rfl, ?hy35⟩) (by assumption) ?_
  case hy35 => (intro w hSw; go_simp <;> (try with_reducible rfl))
  simp only [Act.put, List.setIfInBounds_toArray, List.set_cons_zero, List.set_cons_succ, List.getElem_toArray, List.getElem_cons_succ, List.getElem_cons_zero]
  refine wpAnyH_take (i := 3) (v := ?v36) rfl (by kernel_rfl) (by kernel_rfl) (by kernel_rfl) (fun _ _ _ h => h) (Or.inl ⟨by rfl, ?hy36⟩) (by assumption) ?_
  case hy36 => (intro w hSw; go_simp <;> (try with_reducible rfl))
  simp only [Act.put, List.setIfInBounds_toArray, List.set_cons_zero, List.set_cons_succ, List.getElem_toArray, List.getElem_cons_succ, List.getElem_cons_zero]
  refine wpAnyH_take (i := 4) (v := ?v37) rfl (by kernel_rfl) (by kernel_rfl) (by kernel_rfl) (fun _ _ _ h => h) (Or.inl ⟨by rfl, ?hy37⟩) (by assumption) ?_
  case hy37 => (intro w hSw; go_simp <;> (try with_reducible rfl))
  simp only [Act.put, List.setIfInBounds_toArray, List.set_cons_zero, List.set_cons_succ, List.getElem_toArray, List.getElem_cons_succ, List.getElem_cons_zero]
  refine wpAnyH_take (i := 6) (v := ?v38) rfl (by kernel_rfl) (by kernel_rfl) (by kernel_rfl) (fun _ _ _ h => h) (Or.inl ⟨by rfl, ?hy38⟩) (by assumption) ?_
  case hy38 => (intro w hSw; go_simp <;> (try with_reducible rfl))
  simp only [Act.put, List.setIfInBounds_toArray, List.set_cons_zero, List.set_cons_succ, List.getElem_toArray, List.getElem_cons_succ, List.getElem_cons_zero]
  refine wpAnyH_take (i := 7) (v := ?v39) rfl (by kernel_rfl) (by kernel_rfl) (by kernel_rfl) (fun _ _ _ h => h) (Or.inl ⟨by rfl, ?hy39⟩) (by assumption) ?_
  case hy39 => (intro w hSw; go_simp <;> (try with_reducible rfl))
  simp only [Act.put, List.setIfInBounds_toArray, List.set_cons_zero, List.set_cons_succ, List.getElem_toArray, List.getElem_cons_succ, List.getElem_cons_zero]
  refine wpAnyH_take (i := 8) (v := ?v40) rfl (by kernel_rfl) (by kernel_rfl) (by kernel_rfl) (fun _ _ _ h => h) (Or.inl ⟨by rfl, ?hy40⟩) (by assumption) ?_
  case hy40 => (intro w hSw; go_simp <;> (try with_reducible rfl))
  simp only [Act.put, List.setIfInBounds_toArray, List.set_cons_zero, List.set_cons_succ, List.getElem_toArray, List.getElem_cons_succ, List.getElem_cons_zero]
  refine wpAnyH_take (i := 9) (v := ?v41) rfl (by kernel_rfl) (by kernel_rfl) (by kernel_rfl) (fun _ _ _ h => h) (Or.inl ⟨by rfl, ?hy41⟩) (by assumption) ?_
  case hy41 => (intro w hSw; go_simp <;> (try with_reducible rfl))
  simp only [Act.put, List.setIfInBounds_toArray, List.set_cons_zero, List.set_cons_succ, List.getElem_toArray, List.getElem_cons_succ, List.getElem_cons_zero]
  refine wpAnyH_take (i := 10) (v := ?v42) rfl (by kernel_rfl) (by kernel_rfl) (by kernel_rfl) (fun _ _ _ h => h) (Or.inl ⟨by rfl, ?hy42⟩) (by assumption) ?_
  case hy42 => (intro w hSw; go_simp <;> (try with_reducible rfl))
  simp only [Act.put, List.setIfInBounds_toArray, List.set_cons_zero, List.set_cons_succ, List.getElem_toArray, List.getElem_cons_succ, List.getElem_cons_zero]
  refine wpAnyH_ready (rs := [5]) (by kernel_rfl) (by simp) ?_
  refine AllReadyH.cons rfl (fun K hK => ?_) AllReadyH.nil
  go_simp
  refine HC.out.mono ?_
  rintro e1 w1 ⟨rfl, pk⟩
  obtain ⟨p1, k1, b1⟩ := hp_step (X := fun b => X b ∨ b = w.heap.size) HXD.out hBB pk
  have RR := hid (HRD.out.keep k1 (fun h => h.2 (.inl HXr.out)) (fun h => h.2 (.inl HXf.out)))
  have KK := hid (boxA_keep KD.out k1 (fun h => h.2 (.inr rfl)))
  have P1 := hid (p1)
  have K1 := hid ((Keep.of (S := fun b => B ≤ b ∧ ¬ X b) HD.out).trans k1 (fun b _ h => ⟨h.1, fun e => h.2 (.inl e)⟩))
  clear pk p1 k1 b1 HC
  obtain ⟨m0, m1, m2, m3, m4, m5, m6⟩ := KK.out
  dsimp only at m1 m2 m3 m4 m5 m6
  go_simp
  refine hK.out _ _ ?_ (fun _ => ?_)
  · (refine ⟨?_, ?_, ?_, ?_, ?_, ?_⟩ <;> (first | assumption | go_simp))
  clear hK K
  refine wpAnyH_ready (rs := [11]) (by kernel_rfl) (by simp) ?_
  refine AllReadyH.cons rfl (fun K hK => ?_) AllReadyH.nil
  go_simp
  refine (rproto0 w1 RR.out aa ab).mono ?_
  rintro e2 w2 ⟨rfl, b2⟩
  obtain ⟨m0, m1, m2, m3, m4, m5, m6⟩ := boxA_on KK.out b2
  dsimp only at m1 m2 m3 m4 m5 m6
  have R := hid (show HpX B X (J + 1) h (protoS H aa ab) w2 ∧ Keep (fun b => B ≤ b ∧ ¬ X b) w w2 from ⟨(P1.out.on b2).mono (fun b _ h => ⟨h.1, fun e => h.2 (.inl e)⟩), K1.out.trans (Keep.of b2) (fun _ _ h => h)⟩)
  clear b2 RR P1 K1
  go_simp
  refine hK.out _ _ ?_ (fun _ => ?_)
  · (refine ⟨?_, ?_, ?_, ?_, ?_, ?_⟩ <;> (first | assumption | go_simp))
  clear hK K
  refine wpAnyH_take (i := 12) (v := ?v45) rfl (by kernel_rfl) (by kernel_rfl) (by kernel_rfl) (fun _ _ _ h => h) (Or.inl ⟨by rfl, ?hy45⟩) (by assumption) ?_
  case hy45 => (intro w hSw; go_simp <;> (try with_reducible rfl))
  simp only [Act.put, List.setIfInBounds_toArray, List.set_cons_zero, List.set_cons_succ, List.getElem_toArray, List.getElem_cons_succ, List.getElem_cons_zero]
  refine wpAnyH_take (i := 13) (v := ?v46) rfl (by kernel_rfl) (by kernel_rfl) (by kernel_rfl) (fun _ _ _ h => h) (Or.inl ⟨by rfl, ?hy46⟩) (by assumption) ?_
  case hy46 => (intro w hSw; go_simp <;> (try with_reducible rfl))
  simp only [Act.put, List.setIfInBounds_toArray, List.set_cons_zero, List.set_cons_succ, List.getElem_toArray, List.getElem_cons_succ, List.getElem_cons_zero]
  refine wpAnyH_done (by kernel_rfl) ?_ _
  go_wp2_with fail
  all_goals
    go_ret
    exact ⟨_, rfl, R.out⟩
set_option maxHeartbeats 4000000 in
theorem done_4 {B J h r f : Nat} {X : Nat → Prop} {H : He} (w : World) (p : HpX B X J h H w) (h40 : 40 ≤ J) (hK2 : J ≤ 900000) (hB : B ≤ w.heap.size) (hX : ∀ b, X b → b < w.heap.size) (r0 : R0 r f w) (hr : X r) (hf : X f) (a : AcH) (hn : a.2.2.2.1.size ≤ 1000000) (hd : a.1 = 4) :
    Calls Tryz.prog 12 #[.pointer (some ⟨h, 0, none⟩), .pointer (some ⟨r, 0, none⟩), acHV a] w fun e w' => Did B X (J + 1) h (putH H a.2.1 a.2.2.1 a.2.2.2.2) w e w' := by
  have A := (Below.refl w.heap.size w).alloc (Nat.le_refl _) (acHO a)
  have PX : HpX B (fun b => X b ∨ b = w.heap.size) J h H w := p.mono (fun b hb h => ⟨h.1, by rintro (e | e); exact h.2 e; omega⟩)
  have hXX : ∀ b, (X b ∨ b = w.heap.size) → b < (w.alloc (acHO a)).heap.size := fun b h => by rcases h with h | h; have := hX b h; simp; omega; simp; omega
  have hBB : B ≤ (w.alloc (acHO a)).heap.size := by simp; omega
  have HX := hid hXX
  have HR := hid (r0.on A)
  have PA := hid (PX.on A)
  have HA := hid A
  have KX : BoxA w.heap.size a (w.alloc (acHO a)) := ⟨by simp, by simp, by simp, by simp, by simp, by simp, by simp⟩
  have HK := hid KX
  have HXr := hid hr
  have HXf := hid hf
  have D := A.drew
  have HC := hid (hput_calls _ (PX.on D) a.2.1 a.2.2.1 a.2.2.2.2)
  have HRD := hid (r0.on D)
  have KD := hid (boxA_on KX (Below.refl _ _).drew)
  have HD := hid D
  have hXD : ∀ b, (X b ∨ b = w.heap.size) → b < (w.alloc (acHO a)).drew.heap.size := hXX
  have HXD := hid hXD
  obtain ⟨l0, n1, n2, n3, n4, n5, n6⟩ := KX
  obtain ⟨a0, aa, ab, an, av⟩ := a
  dsimp only at *
  subst hd
  unfold vlV at *
  clear p PX A D hX r0 hXX hXD hr hf
  go_enter Tryz.func12, Tryz.ntmps12
  go_wp2_with fail
  refine wp_region_held_drew (S := fun aZ => aZ.cell? ⟨w.heap.size, 1, none⟩ = some (.int .i64 aa) ∧ aZ.cell? ⟨w.heap.size, 2, none⟩ = some (.int .i64 ab) ∧ aZ.cell? ⟨w.heap.size, 3, none⟩ = some (.string an) ∧ aZ.cell? ⟨w.heap.size, 4, none⟩ = some (.int .i64 av.1) ∧ aZ.cell? ⟨w.heap.size, 5, none⟩ = some (.int .i64 av.2.1) ∧ aZ.cell? ⟨w.heap.size, 6, none⟩ = some (.string av.2.2)) (by kernel_rfl) ?_ (fun hHeld => ?_)
  · (refine ⟨?_, ?_, ?_, ?_, ?_, ?_⟩ <;> go_simp)
  refine wpAnyH_take (i := 0) (v := ?v47) rfl (by kernel_rfl) (by kernel_rfl) (by kernel_rfl) (fun _ _ _ h => h) (Or.inl ⟨by rfl, ?hy47⟩) (by assumption) ?_
  case hy47 => (intro w hSw; go_simp <;> (try with_reducible rfl))
  simp only [Act.put, List.setIfInBounds_toArray, List.set_cons_zero, List.set_cons_succ, List.getElem_toArray, List.getElem_cons_succ, List.getElem_cons_zero]
  refine wpAnyH_take (i := 1) (v := ?v48) rfl (by kernel_rfl) (by kernel_rfl) (by kernel_rfl) (fun _ _ _ h => h) (Or.inl ⟨by rfl, ?hy48⟩) (by assumption) ?_
  case hy48 => (intro w hSw; go_simp <;> (try with_reducible rfl))
  simp only [Act.put, List.setIfInBounds_toArray, List.set_cons_zero, List.set_cons_succ, List.getElem_toArray, List.getElem_cons_succ, List.getElem_cons_zero]
  refine wpAnyH_take (i := 2) (v := ?v49) rfl (by kernel_rfl) (by kernel_rfl) (by kernel_rfl) (fun _ _ _ h => h) (Or.inl ⟨by rfl, ?hy49⟩) (by assumption) ?_
  case hy49 => (intro w hSw; go_simp <;> (try with_reducible rfl))
  simp only [Act.put, List.setIfInBounds_toArray, List.set_cons_zero, List.set_cons_succ, List.getElem_toArray, List.getElem_cons_succ, List.getElem_cons_zero]
  refine wpAnyH_take (i := 3) (v := ?v50) rfl (by kernel_rfl) (by kernel_rfl) (by kernel_rfl) (fun _ _ _ h => h) (Or.inl ⟨by rfl, ?hy50⟩) (by assumption) ?_
  case hy50 => (intro w hSw; go_simp <;> (try with_reducible rfl))
  simp only [Act.put, List.setIfInBounds_toArray, List.set_cons_zero, List.set_cons_succ, List.getElem_toArray, List.getElem_cons_succ, List.getElem_cons_zero]
  refine wpAnyH_take (i := 4) (v := ?v51) rfl (by kernel_rfl) (by kernel_rfl) (by kernel_rfl) (fun _ _ _ h => h) (Or.inl ⟨by rfl, ?hy51⟩) (by assumption) ?_
  case hy51 => (intro w hSw; go_simp <;> (try with_reducible rfl))
  simp only [Act.put, List.setIfInBounds_toArray, List.set_cons_zero, List.set_cons_succ, List.getElem_toArray, List.getElem_cons_succ, List.getElem_cons_zero]
  refine wpAnyH_take (i := 5) (v := ?v52) rfl (by kernel_rfl) (by kernel_rfl) (by kernel_rfl) (fun _ _ _ h => h) (Or.inl ⟨by rfl, ?hy52⟩) (by assumption) ?_
  case hy52 => (intro w hSw; go_simp <;> (try with_reducible rfl))
  simp only [Act.put, List.setIfInBounds_toArray, List.set_cons_zero, List.set_cons_succ, List.getElem_toArray, List.getElem_cons_succ, List.getElem_cons_zero]
  refine wpAnyH_take (i := 6) (v := ?v53) rfl (by kernel_rfl) (by kernel_rfl) (by kernel_rfl) (fun _ _ _ h => h) (Or.inl ⟨by rfl, ?hy53⟩) (by assumption) ?_
  case hy53 => (intro w hSw; go_simp <;> (try with_reducible rfl))
  simp only [Act.put, List.setIfInBounds_toArray, List.set_cons_zero, List.set_cons_succ, List.getElem_toArray, List.getElem_cons_succ, List.getElem_cons_zero]
  refine wpAnyH_take (i := 8) (v := ?v54) rfl (by kernel_rfl) (by kernel_rfl) (by kernel_rfl) (fun _ _ _ h => h) (Or.inl ⟨by rfl, ?hy54⟩) (by assumption) ?_
  case hy54 => (intro w hSw; go_simp <;> (try with_reducible rfl))
  simp only [Act.put, List.setIfInBounds_toArray, List.set_cons_zero, List.set_cons_succ, List.getElem_toArray, List.getElem_cons_succ, List.getElem_cons_zero]
  refine wpAnyH_take (i := 9) (v := ?v55) rfl (by kernel_rfl) (by kernel_rfl) (by kernel_rfl) (fun _ _ _ h => h) (Or.inl ⟨by rfl, ?hy55⟩) (by assumption) ?_
  case hy55 => (intro w hSw; go_simp <;> (try with_reducible rfl))
  simp only [Act.put, List.setIfInBounds_toArray, List.set_cons_zero, List.set_cons_succ, List.getElem_toArray, List.getElem_cons_succ, List.getElem_cons_zero]
  refine wpAnyH_take (i := 10) (v := ?v56) rfl (by kernel_rfl) (by kernel_rfl) (by kernel_rfl) (fun _ _ _ h => h) (Or.inl ⟨by rfl, ?hy56⟩) (by assumption) ?_
  case hy56 => (intro w hSw; go_simp <;> (try with_reducible rfl))
  simp only [Act.put, List.setIfInBounds_toArray, List.set_cons_zero, List.set_cons_succ, List.getElem_toArray, List.getElem_cons_succ, List.getElem_cons_zero]
  refine wpAnyH_take (i := 11) (v := ?v57) rfl (by kernel_rfl) (by kernel_rfl) (by kernel_rfl) (fun _ _ _ h => h) (Or.inl ⟨by rfl, ?hy57⟩) (by assumption) ?_
  case hy57 => (intro w hSw; go_simp <;> (try with_reducible rfl))
  simp only [Act.put, List.setIfInBounds_toArray, List.set_cons_zero, List.set_cons_succ, List.getElem_toArray, List.getElem_cons_succ, List.getElem_cons_zero]
  refine wpAnyH_take (i := 12) (v := ?v58) rfl (by kernel_rfl) (by kernel_rfl) (by kernel_rfl) (fun _ _ _ h => h) (Or.inl ⟨by rfl, ?hy58⟩) (by assumption) ?_
  case hy58 => (intro w hSw; go_simp <;> (try with_reducible rfl))
  simp only [Act.put, List.setIfInBounds_toArray, List.set_cons_zero, List.set_cons_succ, List.getElem_toArray, List.getElem_cons_succ, List.getElem_cons_zero]
  refine wpAnyH_take (i := 13) (v := ?v59) rfl (by kernel_rfl) (by kernel_rfl) (by kernel_rfl) (fun _ _ _ h => h) (Or.inl ⟨by rfl, ?hy59⟩) (by assumption) ?_
  case hy59 => (intro w hSw; go_simp <;> (try with_reducible rfl))
  simp only [Act.put, List.setIfInBounds_toArray, List.set_cons_zero, List.set_cons_succ, List.getElem_toArray, List.getElem_cons_succ, List.getElem_cons_zero]
  refine wpAnyH_take (i := 14) (v := ?v60) rfl (by kernel_rfl) (by kernel_rfl) (by kernel_rfl) (fun _ _ _ h => h) (Or.inl ⟨by rfl, ?hy60⟩) (by assumption) ?_
  case hy60 => (intro w hSw; go_simp <;> (try with_reducible rfl))
  simp only [Act.put, List.setIfInBounds_toArray, List.set_cons_zero, List.set_cons_succ, List.getElem_toArray, List.getElem_cons_succ, List.getElem_cons_zero]
  refine wpAnyH_ready (rs := [7]) (by kernel_rfl) (by simp) ?_
  refine AllReadyH.cons rfl (fun K hK => ?_) AllReadyH.nil
  go_simp
  refine HC.out.mono ?_
  rintro e1 w1 ⟨rfl, pk⟩
  obtain ⟨p1, k1, b1⟩ := hp_step (X := fun b => X b ∨ b = w.heap.size) HXD.out hBB pk
  have RR := hid (HRD.out.keep k1 (fun h => h.2 (.inl HXr.out)) (fun h => h.2 (.inl HXf.out)))
  have KK := hid (boxA_keep KD.out k1 (fun h => h.2 (.inr rfl)))
  have P1 := hid (p1.more (Nat.le_succ _))
  have K1 := hid ((Keep.of (S := fun b => B ≤ b ∧ ¬ X b) HD.out).trans k1 (fun b _ h => ⟨h.1, fun e => h.2 (.inl e)⟩))
  clear pk p1 k1 b1 HC
  obtain ⟨m0, m1, m2, m3, m4, m5, m6⟩ := KK.out
  dsimp only at m1 m2 m3 m4 m5 m6
  go_simp
  refine hK.out _ _ ?_ (fun _ => ?_)
  · (refine ⟨?_, ?_, ?_, ?_, ?_, ?_⟩ <;> (first | assumption | go_simp))
  clear hK K
  refine wpAnyH_ready (rs := [15]) (by kernel_rfl) (by simp) ?_
  refine AllReadyH.cons rfl (fun K hK => ?_) AllReadyH.nil
  go_simp
  refine (rput0 w1 RR.out aa ab av).mono ?_
  rintro e2 w2 ⟨rfl, b2⟩
  obtain ⟨m0, m1, m2, m3, m4, m5, m6⟩ := boxA_on KK.out b2
  dsimp only at m1 m2 m3 m4 m5 m6
  have R := hid (show HpX B X (J + 1) h (putH H aa ab av) w2 ∧ Keep (fun b => B ≤ b ∧ ¬ X b) w w2 from ⟨(P1.out.on b2).mono (fun b _ h => ⟨h.1, fun e => h.2 (.inl e)⟩), K1.out.trans (Keep.of b2) (fun _ _ h => h)⟩)
  clear b2 RR P1 K1
  go_simp
  refine hK.out _ _ ?_ (fun _ => ?_)
  · (refine ⟨?_, ?_, ?_, ?_, ?_, ?_⟩ <;> (first | assumption | go_simp))
  clear hK K
  refine wpAnyH_take (i := 16) (v := ?v63) rfl (by kernel_rfl) (by kernel_rfl) (by kernel_rfl) (fun _ _ _ h => h) (Or.inl ⟨by rfl, ?hy63⟩) (by assumption) ?_
  case hy63 => (intro w hSw; go_simp <;> (try with_reducible rfl))
  simp only [Act.put, List.setIfInBounds_toArray, List.set_cons_zero, List.set_cons_succ, List.getElem_toArray, List.getElem_cons_succ, List.getElem_cons_zero]
  refine wpAnyH_take (i := 17) (v := ?v64) rfl (by kernel_rfl) (by kernel_rfl) (by kernel_rfl) (fun _ _ _ h => h) (Or.inl ⟨by rfl, ?hy64⟩) (by assumption) ?_
  case hy64 => (intro w hSw; go_simp <;> (try with_reducible rfl))
  simp only [Act.put, List.setIfInBounds_toArray, List.set_cons_zero, List.set_cons_succ, List.getElem_toArray, List.getElem_cons_succ, List.getElem_cons_zero]
  refine wpAnyH_done (by kernel_rfl) ?_ _
  go_wp2_with fail
  all_goals
    go_ret
    exact ⟨_, rfl, R.out⟩
set_option maxHeartbeats 4000000 in
theorem done_5 {B J h r f : Nat} {X : Nat → Prop} {H : He} (w : World) (p : HpX B X J h H w) (h40 : 40 ≤ J) (hK2 : J ≤ 900000) (hB : B ≤ w.heap.size) (hX : ∀ b, X b → b < w.heap.size) (r0 : R0 r f w) (hr : X r) (hf : X f) (a : AcH) (hn : a.2.2.2.1.size ≤ 1000000) (hd : a.1 = 5) :
    Calls Tryz.prog 12 #[.pointer (some ⟨h, 0, none⟩), .pointer (some ⟨r, 0, none⟩), acHV a] w fun e w' => Did B X (J + 1) h (growH H a.2.1 a.2.2.1 a.2.2.2.2) w e w' := by
  have A := (Below.refl w.heap.size w).alloc (Nat.le_refl _) (acHO a)
  have PX : HpX B (fun b => X b ∨ b = w.heap.size) J h H w := p.mono (fun b hb h => ⟨h.1, by rintro (e | e); exact h.2 e; omega⟩)
  have hXX : ∀ b, (X b ∨ b = w.heap.size) → b < (w.alloc (acHO a)).heap.size := fun b h => by rcases h with h | h; have := hX b h; simp; omega; simp; omega
  have hBB : B ≤ (w.alloc (acHO a)).heap.size := by simp; omega
  have HX := hid hXX
  have HR := hid (r0.on A)
  have PA := hid (PX.on A)
  have HA := hid A
  have KX : BoxA w.heap.size a (w.alloc (acHO a)) := ⟨by simp, by simp, by simp, by simp, by simp, by simp, by simp⟩
  have HK := hid KX
  have HXr := hid hr
  have HXf := hid hf
  have D := A.drew
  have HC := hid (hgrow_calls _ (PX.on D) hK2 a.2.1 a.2.2.1 a.2.2.2.2)
  have HRD := hid (r0.on D)
  have KD := hid (boxA_on KX (Below.refl _ _).drew)
  have HD := hid D
  have hXD : ∀ b, (X b ∨ b = w.heap.size) → b < (w.alloc (acHO a)).drew.heap.size := hXX
  have HXD := hid hXD
  obtain ⟨l0, n1, n2, n3, n4, n5, n6⟩ := KX
  obtain ⟨a0, aa, ab, an, av⟩ := a
  dsimp only at *
  subst hd
  unfold vlV at *
  clear p PX A D hX r0 hXX hXD hr hf
  go_enter Tryz.func12, Tryz.ntmps12
  go_wp2_with fail
  refine wp_region_held_drew (S := fun aZ => aZ.cell? ⟨w.heap.size, 1, none⟩ = some (.int .i64 aa) ∧ aZ.cell? ⟨w.heap.size, 2, none⟩ = some (.int .i64 ab) ∧ aZ.cell? ⟨w.heap.size, 3, none⟩ = some (.string an) ∧ aZ.cell? ⟨w.heap.size, 4, none⟩ = some (.int .i64 av.1) ∧ aZ.cell? ⟨w.heap.size, 5, none⟩ = some (.int .i64 av.2.1) ∧ aZ.cell? ⟨w.heap.size, 6, none⟩ = some (.string av.2.2)) (by kernel_rfl) ?_ (fun hHeld => ?_)
  · (refine ⟨?_, ?_, ?_, ?_, ?_, ?_⟩ <;> go_simp)
  refine wpAnyH_take (i := 0) (v := ?v65) rfl (by kernel_rfl) (by kernel_rfl) (by kernel_rfl) (fun _ _ _ h => h) (Or.inl ⟨by rfl, ?hy65⟩) (by assumption) ?_
  case hy65 => (intro w hSw; go_simp <;> (try with_reducible rfl))
  simp only [Act.put, List.setIfInBounds_toArray, List.set_cons_zero, List.set_cons_succ, List.getElem_toArray, List.getElem_cons_succ, List.getElem_cons_zero]
  refine wpAnyH_take (i := 1) (v := ?v66) rfl (by kernel_rfl) (by kernel_rfl) (by kernel_rfl) (fun _ _ _ h => h) (Or.inl ⟨by rfl, ?hy66⟩) (by assumption) ?_
  case hy66 => (intro w hSw; go_simp <;> (try with_reducible rfl))
  simp only [Act.put, List.setIfInBounds_toArray, List.set_cons_zero, List.set_cons_succ, List.getElem_toArray, List.getElem_cons_succ, List.getElem_cons_zero]
  refine wpAnyH_take (i := 2) (v := ?v67) rfl (by kernel_rfl) (by kernel_rfl) (by kernel_rfl) (fun _ _ _ h => h) (Or.inl ⟨by rfl, ?hy67⟩) (by assumption) ?_
  case hy67 => (intro w hSw; go_simp <;> (try with_reducible rfl))
  simp only [Act.put, List.setIfInBounds_toArray, List.set_cons_zero, List.set_cons_succ, List.getElem_toArray, List.getElem_cons_succ, List.getElem_cons_zero]
  refine wpAnyH_take (i := 3) (v := ?v68) rfl (by kernel_rfl) (by kernel_rfl) (by kernel_rfl) (fun _ _ _ h => h) (Or.inl ⟨by rfl, ?hy68⟩) (by assumption) ?_
  case hy68 => (intro w hSw; go_simp <;> (try with_reducible rfl))
  simp only [Act.put, List.setIfInBounds_toArray, List.set_cons_zero, List.set_cons_succ, List.getElem_toArray, List.getElem_cons_succ, List.getElem_cons_zero]
  refine wpAnyH_take (i := 4) (v := ?v69) rfl (by kernel_rfl) (by kernel_rfl) (by kernel_rfl) (fun _ _ _ h => h) (Or.inl ⟨by rfl, ?hy69⟩) (by assumption) ?_
  case hy69 => (intro w hSw; go_simp <;> (try with_reducible rfl))
  simp only [Act.put, List.setIfInBounds_toArray, List.set_cons_zero, List.set_cons_succ, List.getElem_toArray, List.getElem_cons_succ, List.getElem_cons_zero]
  refine wpAnyH_take (i := 5) (v := ?v70) rfl (by kernel_rfl) (by kernel_rfl) (by kernel_rfl) (fun _ _ _ h => h) (Or.inl ⟨by rfl, ?hy70⟩) (by assumption) ?_
  case hy70 => (intro w hSw; go_simp <;> (try with_reducible rfl))
  simp only [Act.put, List.setIfInBounds_toArray, List.set_cons_zero, List.set_cons_succ, List.getElem_toArray, List.getElem_cons_succ, List.getElem_cons_zero]
  refine wpAnyH_take (i := 6) (v := ?v71) rfl (by kernel_rfl) (by kernel_rfl) (by kernel_rfl) (fun _ _ _ h => h) (Or.inl ⟨by rfl, ?hy71⟩) (by assumption) ?_
  case hy71 => (intro w hSw; go_simp <;> (try with_reducible rfl))
  simp only [Act.put, List.setIfInBounds_toArray, List.set_cons_zero, List.set_cons_succ, List.getElem_toArray, List.getElem_cons_succ, List.getElem_cons_zero]
  refine wpAnyH_take (i := 8) (v := ?v72) rfl (by kernel_rfl) (by kernel_rfl) (by kernel_rfl) (fun _ _ _ h => h) (Or.inl ⟨by rfl, ?hy72⟩) (by assumption) ?_
  case hy72 => (intro w hSw; go_simp <;> (try with_reducible rfl))
  simp only [Act.put, List.setIfInBounds_toArray, List.set_cons_zero, List.set_cons_succ, List.getElem_toArray, List.getElem_cons_succ, List.getElem_cons_zero]
  refine wpAnyH_take (i := 9) (v := ?v73) rfl (by kernel_rfl) (by kernel_rfl) (by kernel_rfl) (fun _ _ _ h => h) (Or.inl ⟨by rfl, ?hy73⟩) (by assumption) ?_
  case hy73 => (intro w hSw; go_simp <;> (try with_reducible rfl))
  simp only [Act.put, List.setIfInBounds_toArray, List.set_cons_zero, List.set_cons_succ, List.getElem_toArray, List.getElem_cons_succ, List.getElem_cons_zero]
  refine wpAnyH_take (i := 10) (v := ?v74) rfl (by kernel_rfl) (by kernel_rfl) (by kernel_rfl) (fun _ _ _ h => h) (Or.inl ⟨by rfl, ?hy74⟩) (by assumption) ?_
  case hy74 => (intro w hSw; go_simp <;> (try with_reducible rfl))
  simp only [Act.put, List.setIfInBounds_toArray, List.set_cons_zero, List.set_cons_succ, List.getElem_toArray, List.getElem_cons_succ, List.getElem_cons_zero]
  refine wpAnyH_take (i := 11) (v := ?v75) rfl (by kernel_rfl) (by kernel_rfl) (by kernel_rfl) (fun _ _ _ h => h) (Or.inl ⟨by rfl, ?hy75⟩) (by assumption) ?_
  case hy75 => (intro w hSw; go_simp <;> (try with_reducible rfl))
  simp only [Act.put, List.setIfInBounds_toArray, List.set_cons_zero, List.set_cons_succ, List.getElem_toArray, List.getElem_cons_succ, List.getElem_cons_zero]
  refine wpAnyH_take (i := 12) (v := ?v76) rfl (by kernel_rfl) (by kernel_rfl) (by kernel_rfl) (fun _ _ _ h => h) (Or.inl ⟨by rfl, ?hy76⟩) (by assumption) ?_
  case hy76 => (intro w hSw; go_simp <;> (try with_reducible rfl))
  simp only [Act.put, List.setIfInBounds_toArray, List.set_cons_zero, List.set_cons_succ, List.getElem_toArray, List.getElem_cons_succ, List.getElem_cons_zero]
  refine wpAnyH_take (i := 13) (v := ?v77) rfl (by kernel_rfl) (by kernel_rfl) (by kernel_rfl) (fun _ _ _ h => h) (Or.inl ⟨by rfl, ?hy77⟩) (by assumption) ?_
  case hy77 => (intro w hSw; go_simp <;> (try with_reducible rfl))
  simp only [Act.put, List.setIfInBounds_toArray, List.set_cons_zero, List.set_cons_succ, List.getElem_toArray, List.getElem_cons_succ, List.getElem_cons_zero]
  refine wpAnyH_take (i := 14) (v := ?v78) rfl (by kernel_rfl) (by kernel_rfl) (by kernel_rfl) (fun _ _ _ h => h) (Or.inl ⟨by rfl, ?hy78⟩) (by assumption) ?_
  case hy78 => (intro w hSw; go_simp <;> (try with_reducible rfl))
  simp only [Act.put, List.setIfInBounds_toArray, List.set_cons_zero, List.set_cons_succ, List.getElem_toArray, List.getElem_cons_succ, List.getElem_cons_zero]
  refine wpAnyH_ready (rs := [7]) (by kernel_rfl) (by simp) ?_
  refine AllReadyH.cons rfl (fun K hK => ?_) AllReadyH.nil
  go_simp
  refine HC.out.mono ?_
  rintro e1 w1 ⟨rfl, pk⟩
  obtain ⟨p1, k1, b1⟩ := hp_step (X := fun b => X b ∨ b = w.heap.size) HXD.out hBB pk
  have RR := hid (HRD.out.keep k1 (fun h => h.2 (.inl HXr.out)) (fun h => h.2 (.inl HXf.out)))
  have KK := hid (boxA_keep KD.out k1 (fun h => h.2 (.inr rfl)))
  have P1 := hid (p1)
  have K1 := hid ((Keep.of (S := fun b => B ≤ b ∧ ¬ X b) HD.out).trans k1 (fun b _ h => ⟨h.1, fun e => h.2 (.inl e)⟩))
  clear pk p1 k1 b1 HC
  obtain ⟨m0, m1, m2, m3, m4, m5, m6⟩ := KK.out
  dsimp only at m1 m2 m3 m4 m5 m6
  go_simp
  refine hK.out _ _ ?_ (fun _ => ?_)
  · (refine ⟨?_, ?_, ?_, ?_, ?_, ?_⟩ <;> (first | assumption | go_simp))
  clear hK K
  refine wpAnyH_ready (rs := [15]) (by kernel_rfl) (by simp) ?_
  refine AllReadyH.cons rfl (fun K hK => ?_) AllReadyH.nil
  go_simp
  refine (rgrow0 w1 RR.out aa ab av).mono ?_
  rintro e2 w2 ⟨rfl, b2⟩
  obtain ⟨m0, m1, m2, m3, m4, m5, m6⟩ := boxA_on KK.out b2
  dsimp only at m1 m2 m3 m4 m5 m6
  have R := hid (show HpX B X (J + 1) h (growH H aa ab av) w2 ∧ Keep (fun b => B ≤ b ∧ ¬ X b) w w2 from ⟨(P1.out.on b2).mono (fun b _ h => ⟨h.1, fun e => h.2 (.inl e)⟩), K1.out.trans (Keep.of b2) (fun _ _ h => h)⟩)
  clear b2 RR P1 K1
  go_simp
  refine hK.out _ _ ?_ (fun _ => ?_)
  · (refine ⟨?_, ?_, ?_, ?_, ?_, ?_⟩ <;> (first | assumption | go_simp))
  clear hK K
  refine wpAnyH_take (i := 16) (v := ?v81) rfl (by kernel_rfl) (by kernel_rfl) (by kernel_rfl) (fun _ _ _ h => h) (Or.inl ⟨by rfl, ?hy81⟩) (by assumption) ?_
  case hy81 => (intro w hSw; go_simp <;> (try with_reducible rfl))
  simp only [Act.put, List.setIfInBounds_toArray, List.set_cons_zero, List.set_cons_succ, List.getElem_toArray, List.getElem_cons_succ, List.getElem_cons_zero]
  refine wpAnyH_take (i := 17) (v := ?v82) rfl (by kernel_rfl) (by kernel_rfl) (by kernel_rfl) (fun _ _ _ h => h) (Or.inl ⟨by rfl, ?hy82⟩) (by assumption) ?_
  case hy82 => (intro w hSw; go_simp <;> (try with_reducible rfl))
  simp only [Act.put, List.setIfInBounds_toArray, List.set_cons_zero, List.set_cons_succ, List.getElem_toArray, List.getElem_cons_succ, List.getElem_cons_zero]
  refine wpAnyH_done (by kernel_rfl) ?_ _
  go_wp2_with fail
  all_goals
    go_ret
    exact ⟨_, rfl, R.out⟩
set_option maxHeartbeats 4000000 in
theorem done_6 {B J h r f : Nat} {X : Nat → Prop} {H : He} (w : World) (p : HpX B X J h H w) (h40 : 40 ≤ J) (hK2 : J ≤ 900000) (hB : B ≤ w.heap.size) (hX : ∀ b, X b → b < w.heap.size) (r0 : R0 r f w) (hr : X r) (hf : X f) (a : AcH) (hn : a.2.2.2.1.size ≤ 1000000) (hd : a.1 = 6) :
    Calls Tryz.prog 12 #[.pointer (some ⟨h, 0, none⟩), .pointer (some ⟨r, 0, none⟩), acHV a] w fun e w' => Did B X (J + 1) h (nextH H a.2.2.1 a.2.2.2.1) w e w' := by
  have A := (Below.refl w.heap.size w).alloc (Nat.le_refl _) (acHO a)
  have PX : HpX B (fun b => X b ∨ b = w.heap.size) J h H w := p.mono (fun b hb h => ⟨h.1, by rintro (e | e); exact h.2 e; omega⟩)
  have hXX : ∀ b, (X b ∨ b = w.heap.size) → b < (w.alloc (acHO a)).heap.size := fun b h => by rcases h with h | h; have := hX b h; simp; omega; simp; omega
  have hBB : B ≤ (w.alloc (acHO a)).heap.size := by simp; omega
  have HX := hid hXX
  have HR := hid (r0.on A)
  have PA := hid (PX.on A)
  have HA := hid A
  have KX : BoxA w.heap.size a (w.alloc (acHO a)) := ⟨by simp, by simp, by simp, by simp, by simp, by simp, by simp⟩
  have HK := hid KX
  have HXr := hid hr
  have HXf := hid hf
  have D := A.drew
  have HC := hid (hnext_calls _ (PX.on D) hK2 a.2.2.1 a.2.2.2.1 hn)
  have HRD := hid (r0.on D)
  have KD := hid (boxA_on KX (Below.refl _ _).drew)
  have HD := hid D
  have hXD : ∀ b, (X b ∨ b = w.heap.size) → b < (w.alloc (acHO a)).drew.heap.size := hXX
  have HXD := hid hXD
  obtain ⟨l0, n1, n2, n3, n4, n5, n6⟩ := KX
  obtain ⟨a0, aa, ab, an, av⟩ := a
  dsimp only at *
  subst hd
  unfold vlV at *
  clear p PX A D hX r0 hXX hXD hr hf
  go_enter Tryz.func12, Tryz.ntmps12
  go_wp2_with fail
  refine wp_region_held_drew (S := fun aZ => aZ.cell? ⟨w.heap.size, 1, none⟩ = some (.int .i64 aa) ∧ aZ.cell? ⟨w.heap.size, 2, none⟩ = some (.int .i64 ab) ∧ aZ.cell? ⟨w.heap.size, 3, none⟩ = some (.string an) ∧ aZ.cell? ⟨w.heap.size, 4, none⟩ = some (.int .i64 av.1) ∧ aZ.cell? ⟨w.heap.size, 5, none⟩ = some (.int .i64 av.2.1) ∧ aZ.cell? ⟨w.heap.size, 6, none⟩ = some (.string av.2.2)) (by kernel_rfl) ?_ (fun hHeld => ?_)
  · (refine ⟨?_, ?_, ?_, ?_, ?_, ?_⟩ <;> go_simp)
  refine wpAnyH_take (i := 0) (v := ?v83) rfl (by kernel_rfl) (by kernel_rfl) (by kernel_rfl) (fun _ _ _ h => h) (Or.inl ⟨by rfl, ?hy83⟩) (by assumption) ?_
  case hy83 => (intro w hSw; go_simp <;> (try with_reducible rfl))
  simp only [Act.put, List.setIfInBounds_toArray, List.set_cons_zero, List.set_cons_succ, List.getElem_toArray, List.getElem_cons_succ, List.getElem_cons_zero]
  refine wpAnyH_take (i := 1) (v := ?v84) rfl (by kernel_rfl) (by kernel_rfl) (by kernel_rfl) (fun _ _ _ h => h) (Or.inl ⟨by rfl, ?hy84⟩) (by assumption) ?_
  case hy84 => (intro w hSw; go_simp <;> (try with_reducible rfl))
  simp only [Act.put, List.setIfInBounds_toArray, List.set_cons_zero, List.set_cons_succ, List.getElem_toArray, List.getElem_cons_succ, List.getElem_cons_zero]
  refine wpAnyH_take (i := 2) (v := ?v85) rfl (by kernel_rfl) (by kernel_rfl) (by kernel_rfl) (fun _ _ _ h => h) (Or.inl ⟨by rfl, ?hy85⟩) (by assumption) ?_
  case hy85 => (intro w hSw; go_simp <;> (try with_reducible rfl))
  simp only [Act.put, List.setIfInBounds_toArray, List.set_cons_zero, List.set_cons_succ, List.getElem_toArray, List.getElem_cons_succ, List.getElem_cons_zero]
  refine wpAnyH_take (i := 3) (v := ?v86) rfl (by kernel_rfl) (by kernel_rfl) (by kernel_rfl) (fun _ _ _ h => h) (Or.inl ⟨by rfl, ?hy86⟩) (by assumption) ?_
  case hy86 => (intro w hSw; go_simp <;> (try with_reducible rfl))
  simp only [Act.put, List.setIfInBounds_toArray, List.set_cons_zero, List.set_cons_succ, List.getElem_toArray, List.getElem_cons_succ, List.getElem_cons_zero]
  refine wpAnyH_take (i := 4) (v := ?v87) rfl (by kernel_rfl) (by kernel_rfl) (by kernel_rfl) (fun _ _ _ h => h) (Or.inl ⟨by rfl, ?hy87⟩) (by assumption) ?_
  case hy87 => (intro w hSw; go_simp <;> (try with_reducible rfl))
  simp only [Act.put, List.setIfInBounds_toArray, List.set_cons_zero, List.set_cons_succ, List.getElem_toArray, List.getElem_cons_succ, List.getElem_cons_zero]
  refine wpAnyH_take (i := 6) (v := ?v88) rfl (by kernel_rfl) (by kernel_rfl) (by kernel_rfl) (fun _ _ _ h => h) (Or.inl ⟨by rfl, ?hy88⟩) (by assumption) ?_
  case hy88 => (intro w hSw; go_simp <;> (try with_reducible rfl))
  simp only [Act.put, List.setIfInBounds_toArray, List.set_cons_zero, List.set_cons_succ, List.getElem_toArray, List.getElem_cons_succ, List.getElem_cons_zero]
  refine wpAnyH_take (i := 7) (v := ?v89) rfl (by kernel_rfl) (by kernel_rfl) (by kernel_rfl) (fun _ _ _ h => h) (Or.inl ⟨by rfl, ?hy89⟩) (by assumption) ?_
  case hy89 => (intro w hSw; go_simp <;> (try with_reducible rfl))
  simp only [Act.put, List.setIfInBounds_toArray, List.set_cons_zero, List.set_cons_succ, List.getElem_toArray, List.getElem_cons_succ, List.getElem_cons_zero]
  refine wpAnyH_take (i := 8) (v := ?v90) rfl (by kernel_rfl) (by kernel_rfl) (by kernel_rfl) (fun _ _ _ h => h) (Or.inl ⟨by rfl, ?hy90⟩) (by assumption) ?_
  case hy90 => (intro w hSw; go_simp <;> (try with_reducible rfl))
  simp only [Act.put, List.setIfInBounds_toArray, List.set_cons_zero, List.set_cons_succ, List.getElem_toArray, List.getElem_cons_succ, List.getElem_cons_zero]
  refine wpAnyH_take (i := 9) (v := ?v91) rfl (by kernel_rfl) (by kernel_rfl) (by kernel_rfl) (fun _ _ _ h => h) (Or.inl ⟨by rfl, ?hy91⟩) (by assumption) ?_
  case hy91 => (intro w hSw; go_simp <;> (try with_reducible rfl))
  simp only [Act.put, List.setIfInBounds_toArray, List.set_cons_zero, List.set_cons_succ, List.getElem_toArray, List.getElem_cons_succ, List.getElem_cons_zero]
  refine wpAnyH_take (i := 10) (v := ?v92) rfl (by kernel_rfl) (by kernel_rfl) (by kernel_rfl) (fun _ _ _ h => h) (Or.inl ⟨by rfl, ?hy92⟩) (by assumption) ?_
  case hy92 => (intro w hSw; go_simp <;> (try with_reducible rfl))
  simp only [Act.put, List.setIfInBounds_toArray, List.set_cons_zero, List.set_cons_succ, List.getElem_toArray, List.getElem_cons_succ, List.getElem_cons_zero]
  refine wpAnyH_ready (rs := [5]) (by kernel_rfl) (by simp) ?_
  refine AllReadyH.cons rfl (fun K hK => ?_) AllReadyH.nil
  go_simp
  refine HC.out.mono ?_
  rintro e1 w1 ⟨rfl, pk⟩
  obtain ⟨p1, k1, b1⟩ := hp_step (X := fun b => X b ∨ b = w.heap.size) HXD.out hBB pk
  have RR := hid (HRD.out.keep k1 (fun h => h.2 (.inl HXr.out)) (fun h => h.2 (.inl HXf.out)))
  have KK := hid (boxA_keep KD.out k1 (fun h => h.2 (.inr rfl)))
  have P1 := hid (p1)
  have K1 := hid ((Keep.of (S := fun b => B ≤ b ∧ ¬ X b) HD.out).trans k1 (fun b _ h => ⟨h.1, fun e => h.2 (.inl e)⟩))
  clear pk p1 k1 b1 HC
  obtain ⟨m0, m1, m2, m3, m4, m5, m6⟩ := KK.out
  dsimp only at m1 m2 m3 m4 m5 m6
  go_simp
  refine hK.out _ _ ?_ (fun _ => ?_)
  · (refine ⟨?_, ?_, ?_, ?_, ?_, ?_⟩ <;> (first | assumption | go_simp))
  clear hK K
  refine wpAnyH_ready (rs := [11]) (by kernel_rfl) (by simp) ?_
  refine AllReadyH.cons rfl (fun K hK => ?_) AllReadyH.nil
  go_simp
  refine (rnext0 w1 RR.out ab an).mono ?_
  rintro e2 w2 ⟨rfl, b2⟩
  obtain ⟨m0, m1, m2, m3, m4, m5, m6⟩ := boxA_on KK.out b2
  dsimp only at m1 m2 m3 m4 m5 m6
  have R := hid (show HpX B X (J + 1) h (nextH H ab an) w2 ∧ Keep (fun b => B ≤ b ∧ ¬ X b) w w2 from ⟨(P1.out.on b2).mono (fun b _ h => ⟨h.1, fun e => h.2 (.inl e)⟩), K1.out.trans (Keep.of b2) (fun _ _ h => h)⟩)
  clear b2 RR P1 K1
  go_simp
  refine hK.out _ _ ?_ (fun _ => ?_)
  · (refine ⟨?_, ?_, ?_, ?_, ?_, ?_⟩ <;> (first | assumption | go_simp))
  clear hK K
  refine wpAnyH_take (i := 12) (v := ?v95) rfl (by kernel_rfl) (by kernel_rfl) (by kernel_rfl) (fun _ _ _ h => h) (Or.inl ⟨by rfl, ?hy95⟩) (by assumption) ?_
  case hy95 => (intro w hSw; go_simp <;> (try with_reducible rfl))
  simp only [Act.put, List.setIfInBounds_toArray, List.set_cons_zero, List.set_cons_succ, List.getElem_toArray, List.getElem_cons_succ, List.getElem_cons_zero]
  refine wpAnyH_take (i := 13) (v := ?v96) rfl (by kernel_rfl) (by kernel_rfl) (by kernel_rfl) (fun _ _ _ h => h) (Or.inl ⟨by rfl, ?hy96⟩) (by assumption) ?_
  case hy96 => (intro w hSw; go_simp <;> (try with_reducible rfl))
  simp only [Act.put, List.setIfInBounds_toArray, List.set_cons_zero, List.set_cons_succ, List.getElem_toArray, List.getElem_cons_succ, List.getElem_cons_zero]
  refine wpAnyH_done (by kernel_rfl) ?_ _
  go_wp2_with fail
  all_goals
    go_ret
    exact ⟨_, rfl, R.out⟩
set_option maxHeartbeats 4000000 in
theorem done_7 {B J h r f : Nat} {X : Nat → Prop} {H : He} (w : World) (p : HpX B X J h H w) (h40 : 40 ≤ J) (hK2 : J ≤ 900000) (hB : B ≤ w.heap.size) (hX : ∀ b, X b → b < w.heap.size) (r0 : R0 r f w) (hr : X r) (hf : X f) (a : AcH) (hn : a.2.2.2.1.size ≤ 1000000) (hd : a.1 < 0 ∨ 6 < a.1) :
    Calls Tryz.prog 12 #[.pointer (some ⟨h, 0, none⟩), .pointer (some ⟨r, 0, none⟩), acHV a] w fun e w' => Did B X (J + 1) h (H) w e w' := by
  have A := (Below.refl w.heap.size w).alloc (Nat.le_refl _) (acHO a)
  have PX : HpX B (fun b => X b ∨ b = w.heap.size) J h H w := p.mono (fun b hb h => ⟨h.1, by rintro (e | e); exact h.2 e; omega⟩)
  have hXX : ∀ b, (X b ∨ b = w.heap.size) → b < (w.alloc (acHO a)).heap.size := fun b h => by rcases h with h | h; have := hX b h; simp; omega; simp; omega
  have hBB : B ≤ (w.alloc (acHO a)).heap.size := by simp; omega
  have HX := hid hXX
  have HR := hid (r0.on A)
  have PA := hid (PX.on A)
  have HA := hid A
  have KX : BoxA w.heap.size a (w.alloc (acHO a)) := ⟨by simp, by simp, by simp, by simp, by simp, by simp, by simp⟩
  have HK := hid KX
  have HXr := hid hr
  have HXf := hid hf
  have D := A.drew
  have HC := hid (hget_calls _ (PX.on D) hK2 a.2.1 a.2.2.2.1 hn)
  have HRD := hid (r0.on D)
  have KD := hid (boxA_on KX (Below.refl _ _).drew)
  have HD := hid D
  have hXD : ∀ b, (X b ∨ b = w.heap.size) → b < (w.alloc (acHO a)).drew.heap.size := hXX
  have HXD := hid hXD
  obtain ⟨l0, n1, n2, n3, n4, n5, n6⟩ := KX
  obtain ⟨a0, aa, ab, an, av⟩ := a
  dsimp only at *
  have q0 : ¬ a0 = 0 := by omega
  have q1 : ¬ a0 = 1 := by omega
  have q2 : ¬ a0 = 2 := by omega
  have q3 : ¬ a0 = 3 := by omega
  have q4 : ¬ a0 = 4 := by omega
  have q5 : ¬ a0 = 5 := by omega
  have q6 : ¬ a0 = 6 := by omega
  clear hd
  unfold vlV at *
  clear p PX A D hX r0 hXX hXD hr hf
  go_enter Tryz.func12, Tryz.ntmps12
  go_wp2_with fail
  refine wp_region_held_drew (S := fun aZ => aZ.cell? ⟨w.heap.size, 1, none⟩ = some (.int .i64 aa) ∧ aZ.cell? ⟨w.heap.size, 2, none⟩ = some (.int .i64 ab) ∧ aZ.cell? ⟨w.heap.size, 3, none⟩ = some (.string an) ∧ aZ.cell? ⟨w.heap.size, 4, none⟩ = some (.int .i64 av.1) ∧ aZ.cell? ⟨w.heap.size, 5, none⟩ = some (.int .i64 av.2.1) ∧ aZ.cell? ⟨w.heap.size, 6, none⟩ = some (.string av.2.2)) (by kernel_rfl) ?_ (fun hHeld => ?_)
  · (refine ⟨?_, ?_, ?_, ?_, ?_, ?_⟩ <;> go_simp)
  refine wpAnyH_take (i := 0) (v := ?v97) rfl (by kernel_rfl) (by kernel_rfl) (by kernel_rfl) (fun _ _ _ h => h) (Or.inl ⟨by rfl, ?hy97⟩) (by assumption) ?_
  case hy97 => (intro w hSw; go_simp <;> (try with_reducible rfl))
  simp only [Act.put, List.setIfInBounds_toArray, List.set_cons_zero, List.set_cons_succ, List.getElem_toArray, List.getElem_cons_succ, List.getElem_cons_zero]
  refine wpAnyH_take (i := 1) (v := ?v98) rfl (by kernel_rfl) (by kernel_rfl) (by kernel_rfl) (fun _ _ _ h => h) (Or.inl ⟨by rfl, ?hy98⟩) (by assumption) ?_
  case hy98 => (intro w hSw; go_simp <;> (try with_reducible rfl))
  simp only [Act.put, List.setIfInBounds_toArray, List.set_cons_zero, List.set_cons_succ, List.getElem_toArray, List.getElem_cons_succ, List.getElem_cons_zero]
  refine wpAnyH_take (i := 2) (v := ?v99) rfl (by kernel_rfl) (by kernel_rfl) (by kernel_rfl) (fun _ _ _ h => h) (Or.inl ⟨by rfl, ?hy99⟩) (by assumption) ?_
  case hy99 => (intro w hSw; go_simp <;> (try with_reducible rfl))
  simp only [Act.put, List.setIfInBounds_toArray, List.set_cons_zero, List.set_cons_succ, List.getElem_toArray, List.getElem_cons_succ, List.getElem_cons_zero]
  refine wpAnyH_take (i := 3) (v := ?v100) rfl (by kernel_rfl) (by kernel_rfl) (by kernel_rfl) (fun _ _ _ h => h) (Or.inl ⟨by rfl, ?hy100⟩) (by assumption) ?_
  case hy100 => (intro w hSw; go_simp <;> (try with_reducible rfl))
  simp only [Act.put, List.setIfInBounds_toArray, List.set_cons_zero, List.set_cons_succ, List.getElem_toArray, List.getElem_cons_succ, List.getElem_cons_zero]
  refine wpAnyH_take (i := 4) (v := ?v101) rfl (by kernel_rfl) (by kernel_rfl) (by kernel_rfl) (fun _ _ _ h => h) (Or.inl ⟨by rfl, ?hy101⟩) (by assumption) ?_
  case hy101 => (intro w hSw; go_simp <;> (try with_reducible rfl))
  simp only [Act.put, List.setIfInBounds_toArray, List.set_cons_zero, List.set_cons_succ, List.getElem_toArray, List.getElem_cons_succ, List.getElem_cons_zero]
  refine wpAnyH_take (i := 6) (v := ?v102) rfl (by kernel_rfl) (by kernel_rfl) (by kernel_rfl) (fun _ _ _ h => h) (Or.inl ⟨by rfl, ?hy102⟩) (by assumption) ?_
  case hy102 => (intro w hSw; go_simp <;> (try with_reducible rfl))
  simp only [Act.put, List.setIfInBounds_toArray, List.set_cons_zero, List.set_cons_succ, List.getElem_toArray, List.getElem_cons_succ, List.getElem_cons_zero]
  refine wpAnyH_take (i := 7) (v := ?v103) rfl (by kernel_rfl) (by kernel_rfl) (by kernel_rfl) (fun _ _ _ h => h) (Or.inl ⟨by rfl, ?hy103⟩) (by assumption) ?_
  case hy103 => (intro w hSw; go_simp <;> (try with_reducible rfl))
  simp only [Act.put, List.setIfInBounds_toArray, List.set_cons_zero, List.set_cons_succ, List.getElem_toArray, List.getElem_cons_succ, List.getElem_cons_zero]
  refine wpAnyH_take (i := 8) (v := ?v104) rfl (by kernel_rfl) (by kernel_rfl) (by kernel_rfl) (fun _ _ _ h => h) (Or.inl ⟨by rfl, ?hy104⟩) (by assumption) ?_
  case hy104 => (intro w hSw; go_simp <;> (try with_reducible rfl))
  simp only [Act.put, List.setIfInBounds_toArray, List.set_cons_zero, List.set_cons_succ, List.getElem_toArray, List.getElem_cons_succ, List.getElem_cons_zero]
  refine wpAnyH_take (i := 9) (v := ?v105) rfl (by kernel_rfl) (by kernel_rfl) (by kernel_rfl) (fun _ _ _ h => h) (Or.inl ⟨by rfl, ?hy105⟩) (by assumption) ?_
  case hy105 => (intro w hSw; go_simp <;> (try with_reducible rfl))
  simp only [Act.put, List.setIfInBounds_toArray, List.set_cons_zero, List.set_cons_succ, List.getElem_toArray, List.getElem_cons_succ, List.getElem_cons_zero]
  refine wpAnyH_take (i := 10) (v := ?v106) rfl (by kernel_rfl) (by kernel_rfl) (by kernel_rfl) (fun _ _ _ h => h) (Or.inl ⟨by rfl, ?hy106⟩) (by assumption) ?_
  case hy106 => (intro w hSw; go_simp <;> (try with_reducible rfl))
  simp only [Act.put, List.setIfInBounds_toArray, List.set_cons_zero, List.set_cons_succ, List.getElem_toArray, List.getElem_cons_succ, List.getElem_cons_zero]
  refine wpAnyH_ready (rs := [5]) (by kernel_rfl) (by simp) ?_
  refine AllReadyH.cons rfl (fun K hK => ?_) AllReadyH.nil
  go_simp
  refine HC.out.mono ?_
  rintro e1 w1 ⟨rfl, b1⟩
  have RR := hid (HRD.out.on b1)
  have KK := hid (boxA_on KD.out b1)
  have P1 := hid (((PA.out.on (Below.refl _ _).drew).on b1).more (Nat.le_succ _))
  have K1 := hid (Keep.of (S := fun b => B ≤ b ∧ ¬ X b) (below_on HD.out b1))
  clear b1 HC
  obtain ⟨m0, m1, m2, m3, m4, m5, m6⟩ := KK.out
  dsimp only at m1 m2 m3 m4 m5 m6
  go_simp
  refine hK.out _ _ ?_ (fun _ => ?_)
  · (refine ⟨?_, ?_, ?_, ?_, ?_, ?_⟩ <;> (first | assumption | go_simp))
  clear hK K
  refine wpAnyH_ready (rs := [11]) (by kernel_rfl) (by simp) ?_
  refine AllReadyH.cons rfl (fun K hK => ?_) AllReadyH.nil
  go_simp
  refine (rget0 w1 RR.out aa an).mono ?_
  rintro e2 w2 ⟨rfl, b2⟩
  obtain ⟨m0, m1, m2, m3, m4, m5, m6⟩ := boxA_on KK.out b2
  dsimp only at m1 m2 m3 m4 m5 m6
  have R := hid (show HpX B X (J + 1) h (H) w2 ∧ Keep (fun b => B ≤ b ∧ ¬ X b) w w2 from ⟨(P1.out.on b2).mono (fun b _ h => ⟨h.1, fun e => h.2 (.inl e)⟩), K1.out.trans (Keep.of b2) (fun _ _ h => h)⟩)
  clear b2 RR P1 K1
  go_simp
  refine hK.out _ _ ?_ (fun _ => ?_)
  · (refine ⟨?_, ?_, ?_, ?_, ?_, ?_⟩ <;> (first | assumption | go_simp))
  clear hK K
  refine wpAnyH_take (i := 12) (v := .bool (if (gotH H aa an).1 = 0 then if (gotH H aa an).2.1 = 0 then if (gotH H aa an).2.2.toList = [] then true else false else false else false)) rfl (by kernel_rfl) (by kernel_rfl) (by kernel_rfl) (fun _ _ _ h => h) (Or.inl ⟨by rfl, ?_⟩) (by assumption) ?_
  · (intro w hSw; go_simp <;> (by_cases g1 : (gotH H aa an).1 = 0 <;> by_cases g2 : (gotH H aa an).2.1 = 0 <;> by_cases g3 : (gotH H aa an).2.2.toList = [] <;> simp [g1, g2, g3]))
  simp only [Act.put, List.setIfInBounds_toArray, List.set_cons_zero, List.set_cons_succ, List.getElem_toArray, List.getElem_cons_succ, List.getElem_cons_zero]
  refine wpAnyH_take (i := 13) (v := ?v109) rfl (by kernel_rfl) (by kernel_rfl) (by kernel_rfl) (fun _ _ _ h => h) (Or.inl ⟨by rfl, ?hy109⟩) (by assumption) ?_
  case hy109 => (intro w hSw; go_simp <;> (try with_reducible rfl))
  simp only [Act.put, List.setIfInBounds_toArray, List.set_cons_zero, List.set_cons_succ, List.getElem_toArray, List.getElem_cons_succ, List.getElem_cons_zero]
  refine wpAnyH_done (by kernel_rfl) ?_ _
  go_wp2_with fail
  all_goals
    go_ret
    exact ⟨_, rfl, R.out⟩
set_option maxHeartbeats 4000000 in
theorem done_0 {B J h r f : Nat} {X : Nat → Prop} {H : He} (w : World) (p : HpX B X J h H w) (h40 : 40 ≤ J) (hK2 : J ≤ 900000) (hB : B ≤ w.heap.size) (hX : ∀ b, X b → b < w.heap.size) (r0 : R0 r f w) (hr : X r) (hf : X f) (a : AcH) (hn : a.2.2.2.1.size ≤ 1000000) (hd : a.1 = 0) :
    Calls Tryz.prog 12 #[.pointer (some ⟨h, 0, none⟩), .pointer (some ⟨r, 0, none⟩), acHV a] w fun e w' => Did B X (J + 1) h (makeH H) w e w' := by
  have A := (Below.refl w.heap.size w).alloc (Nat.le_refl _) (acHO a)
  have PX : HpX B (fun b => X b ∨ b = w.heap.size) J h H w := p.mono (fun b hb h => ⟨h.1, by rintro (e | e); exact h.2 e; omega⟩)
  have hXX : ∀ b, (X b ∨ b = w.heap.size) → b < (w.alloc (acHO a)).heap.size := fun b h => by rcases h with h | h; have := hX b h; simp; omega; simp; omega
  have hBB : B ≤ (w.alloc (acHO a)).heap.size := by simp; omega
  have HX := hid hXX
  have HR := hid (r0.on A)
  have PA := hid (PX.on A)
  have HA := hid A
  have KX : BoxA w.heap.size a (w.alloc (acHO a)) := ⟨by simp, by simp, by simp, by simp, by simp, by simp, by simp⟩
  have HK := hid KX
  have HXr := hid hr
  have HXf := hid hf
  have HC := hid (hmake_calls _ PA.out)
  obtain ⟨a0, aa, ab, an, av⟩ := a
  dsimp only at *
  subst hd
  clear p PX A hX r0 hXX hr hf KX
  go_enter Tryz.func12, Tryz.ntmps12
  go_wp2_with fail
  refine HC.out.mono ?_
  rintro e1 w1 ⟨rfl, pk⟩
  obtain ⟨p1, k1, b1⟩ := hp_step (X := fun b => X b ∨ b = w.heap.size) HX.out hBB pk
  have RR := hid (HR.out.keep k1 (fun h => h.2 (.inl HXr.out)) (fun h => h.2 (.inl HXf.out)))
  have P1 := hid (p1.more (Nat.le_succ _))
  have K1 := hid ((Keep.of (S := fun b => B ≤ b ∧ ¬ X b) HA.out).trans k1 (fun b _ h => ⟨h.1, fun e => h.2 (.inl e)⟩))
  clear pk p1 k1 b1 HC
  generalize (makeN H : Int) = mn at *
  generalize makeE H = me at *
  go_wp2_with fail
  refine (rmake0 w1 RR.out).mono ?_
  rintro e2 w2 ⟨rfl, b2⟩
  have R := hid (show HpX B X (J + 1) h (makeH H) w2 ∧ Keep (fun b => B ≤ b ∧ ¬ X b) w w2 from ⟨(P1.out.on b2).mono (fun b _ h => ⟨h.1, fun e => h.2 (.inl e)⟩), K1.out.trans (Keep.of b2) (fun _ _ h => h)⟩)
  clear b2 RR P1 K1
  go_wp2_with fail
  all_goals
    go_ret
    exact ⟨_, rfl, R.out⟩
theorem done0_calls {B J h r f : Nat} {X : Nat → Prop} {H : He} (w : World) (p : HpX B X J h H w) (h40 : 40 ≤ J) (hK2 : J ≤ 900000) (hB : B ≤ w.heap.size) (hX : ∀ b, X b → b < w.heap.size) (r0 : R0 r f w) (hr : X r) (hf : X f) (a : AcH) (hn : a.2.2.2.1.size ≤ 1000000) :
    Calls Tryz.prog 12 #[.pointer (some ⟨h, 0, none⟩), .pointer (some ⟨r, 0, none⟩), acHV a] w fun e w' => Did B X (J + 1) h (actH H a) w e w' := by
  unfold actH
  by_cases h0 : a.1 = 0
  · rw [if_pos h0]; exact done_0 w p h40 hK2 hB hX r0 hr hf a hn h0
  · rw [if_neg h0]
    by_cases h1 : a.1 = 1
    · rw [if_pos h1]; exact done_1 w p h40 hK2 hB hX r0 hr hf a hn h1
    · rw [if_neg h1]
      by_cases h2 : a.1 = 2
      · rw [if_pos h2]; exact done_2 w p h40 hK2 hB hX r0 hr hf a hn h2
      · rw [if_neg h2]
        by_cases h3 : a.1 = 3
        · rw [if_pos h3]; exact done_3 w p h40 hK2 hB hX r0 hr hf a hn h3
        · rw [if_neg h3]
          by_cases h4 : a.1 = 4
          · rw [if_pos h4]; exact done_4 w p h40 hK2 hB hX r0 hr hf a hn h4
          · rw [if_neg h4]
            by_cases h5 : a.1 = 5
            · rw [if_pos h5]; exact done_5 w p h40 hK2 hB hX r0 hr hf a hn h5
            · rw [if_neg h5]
              by_cases h6 : a.1 = 6
              · rw [if_pos h6]; exact done_6 w p h40 hK2 hB hX r0 hr hf a hn h6
              · rw [if_neg h6]; exact done_7 w p h40 hK2 hB hX r0 hr hf a hn (by omega)

end Go.Proofs.YtemidicgipebjaaGreat
