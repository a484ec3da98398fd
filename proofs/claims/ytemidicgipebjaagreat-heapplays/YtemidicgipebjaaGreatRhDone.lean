/- An act on a heap, and on the document's. -/
import Derived.Test.YtemidicgipebjaaGreatJoint2
import Derived.Test.YtemidicgipebjaaGreatRhTwo
namespace Go.Proofs.YtemidicgipebjaaGreat
set_option linter.unusedSimpArgs false
set_option linter.unusedVariables false
set_option maxRecDepth 100000
open Go.RowKit

/-- the act's cells -/
def BoxY (g : Nat) (a : AcH) (w : World) : Prop := g < w.heap.size ∧ w.cell? ⟨g, 1, none⟩ = some (.int .i64 a.2.1) ∧ w.cell? ⟨g, 2, none⟩ = some (.int .i64 a.2.2.1) ∧ w.cell? ⟨g, 3, none⟩ = some (.string a.2.2.2.1) ∧ w.cell? ⟨g, 4, none⟩ = some (.int .i64 a.2.2.2.2.1) ∧ w.cell? ⟨g, 5, none⟩ = some (.int .i64 a.2.2.2.2.2.1) ∧ w.cell? ⟨g, 6, none⟩ = some (.string a.2.2.2.2.2.2)
theorem boxY_keep {S : Nat → Prop} {g : Nat} {a : AcH} {x y : World} (h : BoxY g a x) (k : Keep S x y) (hs : ¬ S g) : BoxY g a y := by
  obtain ⟨h0, h1, h2, h3, h4, h5, h6⟩ := h
  exact ⟨Nat.lt_of_lt_of_le h0 k.size, cell_keep h1 h0 k hs, cell_keep h2 h0 k hs, cell_keep h3 h0 k hs, cell_keep h4 h0 k hs, cell_keep h5 h0 k hs, cell_keep h6 h0 k hs⟩
def actY (H : He) (a : AcH) : He :=
  if a.1 = 0 then makeH H else if a.1 = 1 then setH H a.2.1 a.2.2.2.1 a.2.2.2.2 else if a.1 = 2 then delH H a.2.1 a.2.2.2.1 else if a.1 = 3 then protoS H a.2.1 a.2.2.1
  else if a.1 = 4 then putH H a.2.1 a.2.2.1 a.2.2.2.2 else if a.1 = 5 then growH H a.2.1 a.2.2.1 a.2.2.2.2 else if a.1 = 6 then nextH H a.2.2.1 a.2.2.2.1 else H
/-- what an act comes to -/
def DidY (B : Nat) (X : Nat → Prop) (K h r : Nat) (H : He) (w : World) (e : Ending) (w' : World) : Prop := e = .returned (.bool true) ∧ TwY B X K h r H H w' ∧ Keep (fun b => B ≤ b ∧ ¬ X b) w w'
set_option maxHeartbeats 4000000 in
theorem ydone_1 {B J h r : Nat} {X : Nat → Prop} {H : He} (w : World) (t : TwY B X J h r H H w) (h40 : 40 ≤ J) (hK2 : J ≤ 900000) (hB : B ≤ w.heap.size) (hX : ∀ b, X b → b < w.heap.size) (a : AcH) (hn : a.2.2.2.1.size ≤ 1000000) (hd : a.1 = 1) :
    Calls Tryz.prog 12 #[.pointer (some ⟨h, 0, none⟩), .pointer (some ⟨r, 0, none⟩), acHV a] w fun e w' => DidY B X (J + 1) h r (setH H a.2.1 a.2.2.2.1 a.2.2.2.2) w e w' := by
  have W := hid t.wf
  have TX := (t.law (Y := fun b => X b ∨ b = w.heap.size) (fun b hb e => e.resolve_right (by omega)))
  have D : Below w.heap.size w (w.alloc (acHO a)).drew := ((Below.refl w.heap.size w).alloc (Nat.le_refl _) (acHO a)).drew
  have TD := hid (TX.on D)
  have KD : Hid (BoxY w.heap.size a (w.alloc (acHO a)).drew) := hid ⟨by simp, by simp, by simp, by simp, by simp, by simp, by simp⟩
  have hXX : ∀ b, (X b ∨ b = w.heap.size) → b < (w.alloc (acHO a)).drew.heap.size := fun b h => by rcases h with h | h; have := hX b h; simp; omega; simp; omega
  have hBB : B ≤ (w.alloc (acHO a)).drew.heap.size := by simp; omega
  have KW := hid (Keep.of (S := fun b => B ≤ b ∧ ¬ X b) D)
  have HC := hid (twy_prog TD.out hBB hXX (fun S s => hset_calls _ s h40 hK2 a.2.1 a.2.2.2.1 hn a.2.2.2.2))
  have HXX := hid hXX
  have hz : w.heap.size < (w.alloc (acHO a)).drew.heap.size := by simp
  obtain ⟨l0, n1, n2, n3, n4, n5, n6⟩ := KD.out
  generalize hwD : (w.alloc (acHO a)).drew = wD at *
  obtain ⟨a0, aa, ab, an, av⟩ := a
  dsimp only at *
  subst hd
  unfold vlV at *
  clear t TX D hX hXX
  subst hwD
  go_enter Tryz.func12, Tryz.ntmps12
  go_wp2_with fail
  refine wp_region_held_drew (S := fun aZ => aZ.cell? ⟨w.heap.size, 1, none⟩ = some (.int .i64 aa) ∧ aZ.cell? ⟨w.heap.size, 2, none⟩ = some (.int .i64 ab) ∧ aZ.cell? ⟨w.heap.size, 3, none⟩ = some (.string an) ∧ aZ.cell? ⟨w.heap.size, 4, none⟩ = some (.int .i64 av.1) ∧ aZ.cell? ⟨w.heap.size, 5, none⟩ = some (.int .i64 av.2.1) ∧ aZ.cell? ⟨w.heap.size, 6, none⟩ = some (.string av.2.2)) (by kernel_rfl) ?_ (fun hHeld => ?_)
  · (refine ⟨?_, ?_, ?_, ?_, ?_, ?_⟩ <;> go_simp)
  refine tkk 0 ?_
  refine tkk 1 ?_
  refine tkk 2 ?_
  refine tkk 3 ?_
  refine tkk 4 ?_
  refine tkk 5 ?_
  refine tkk 6 ?_
  refine tkk 8 ?_
  refine tkk 9 ?_
  refine tkk 10 ?_
  refine tkk 11 ?_
  refine tkk 12 ?_
  refine tkk 13 ?_
  refine tkk 14 ?_
  refine rdy 7 (fun K hK => ?_)
  go_simp
  refine HC.out.mono ?_
  rintro e1 w1 ⟨rfl, t1, k1⟩
  have KK := hid (boxY_keep KD.out k1 (fun h => h.2 (.inr rfl)))
  have hB1 : B ≤ w1.heap.size := Nat.le_trans hBB k1.size
  have HC2 := hid (twy_doc t1 hB1 (fun b h => Nat.lt_of_lt_of_le (HXX.out b h) k1.size) (fun f v tv q col p => yset_calls w1 p W.out hK2 aa an hn av))
  
  have K1 := hid (KW.out.trans k1 (fun b _ h => ⟨h.1, fun e => h.2 (.inl e)⟩))
  clear k1 HC t1
  obtain ⟨m0, m1, m2, m3, m4, m5, m6⟩ := KK.out
  dsimp only at m1 m2 m3 m4 m5 m6
  go_simp
  refine hK.out _ _ ?_ (fun _ => ?_)
  · (refine ⟨?_, ?_, ?_, ?_, ?_, ?_⟩ <;> (first | assumption | go_simp))
  clear hK K
  refine rdy 15 (fun K hK => ?_)
  go_simp
  refine HC2.out.mono ?_
  rintro e2 w2 ⟨rfl, t2, k2⟩
  obtain ⟨m0, m1, m2, m3, m4, m5, m6⟩ := boxY_keep KK.out k2 (fun h => h.2 (.inr rfl))
  dsimp only at m1 m2 m3 m4 m5 m6
  have R := hid (show TwY B X (J + 1) h r (setH H aa an av) (setH H aa an av) w2 ∧ Keep (fun b => B ≤ b ∧ ¬ X b) w w2 from ⟨t2.law (fun b _ e => .inl e), K1.out.trans k2 (fun b _ h => ⟨h.1, fun e => h.2 (.inl e)⟩)⟩)
  clear t2 k2 K1 HC2
  go_simp
  refine hK.out _ _ ?_ (fun _ => ?_)
  · (refine ⟨?_, ?_, ?_, ?_, ?_, ?_⟩ <;> (first | assumption | go_simp))
  clear hK K
  refine tkk 16 ?_
  refine tkk 17 ?_
  refine wpAnyH_done (by kernel_rfl) ?_ _
  go_wp2_with fail
  go_ret
  exact ⟨rfl, R.out⟩
set_option maxHeartbeats 4000000 in
theorem ydone_2 {B J h r : Nat} {X : Nat → Prop} {H : He} (w : World) (t : TwY B X J h r H H w) (h40 : 40 ≤ J) (hK2 : J ≤ 900000) (hB : B ≤ w.heap.size) (hX : ∀ b, X b → b < w.heap.size) (a : AcH) (hn : a.2.2.2.1.size ≤ 1000000) (hd : a.1 = 2) :
    Calls Tryz.prog 12 #[.pointer (some ⟨h, 0, none⟩), .pointer (some ⟨r, 0, none⟩), acHV a] w fun e w' => DidY B X (J + 1) h r (delH H a.2.1 a.2.2.2.1) w e w' := by
  have W := hid t.wf
  have TX := (t.law (Y := fun b => X b ∨ b = w.heap.size) (fun b hb e => e.resolve_right (by omega)))
  have D : Below w.heap.size w (w.alloc (acHO a)).drew := ((Below.refl w.heap.size w).alloc (Nat.le_refl _) (acHO a)).drew
  have TD := hid (TX.on D)
  have KD : Hid (BoxY w.heap.size a (w.alloc (acHO a)).drew) := hid ⟨by simp, by simp, by simp, by simp, by simp, by simp, by simp⟩
  have hXX : ∀ b, (X b ∨ b = w.heap.size) → b < (w.alloc (acHO a)).drew.heap.size := fun b h => by rcases h with h | h; have := hX b h; simp; omega; simp; omega
  have hBB : B ≤ (w.alloc (acHO a)).drew.heap.size := by simp; omega
  have KW := hid (Keep.of (S := fun b => B ≤ b ∧ ¬ X b) D)
  have HC := hid (twy_prog TD.out hBB hXX (fun S s => hdel_calls _ s h40 hK2 a.2.1 a.2.2.2.1 hn))
  have HXX := hid hXX
  have hz : w.heap.size < (w.alloc (acHO a)).drew.heap.size := by simp
  obtain ⟨l0, n1, n2, n3, n4, n5, n6⟩ := KD.out
  generalize hwD : (w.alloc (acHO a)).drew = wD at *
  obtain ⟨a0, aa, ab, an, av⟩ := a
  dsimp only at *
  subst hd
  unfold vlV at *
  clear t TX D hX hXX
  subst hwD
  go_enter Tryz.func12, Tryz.ntmps12
  go_wp2_with fail
  refine wp_region_held_drew (S := fun aZ => aZ.cell? ⟨w.heap.size, 1, none⟩ = some (.int .i64 aa) ∧ aZ.cell? ⟨w.heap.size, 2, none⟩ = some (.int .i64 ab) ∧ aZ.cell? ⟨w.heap.size, 3, none⟩ = some (.string an) ∧ aZ.cell? ⟨w.heap.size, 4, none⟩ = some (.int .i64 av.1) ∧ aZ.cell? ⟨w.heap.size, 5, none⟩ = some (.int .i64 av.2.1) ∧ aZ.cell? ⟨w.heap.size, 6, none⟩ = some (.string av.2.2)) (by kernel_rfl) ?_ (fun hHeld => ?_)
  · (refine ⟨?_, ?_, ?_, ?_, ?_, ?_⟩ <;> go_simp)
  refine tkk 0 ?_
  refine tkk 1 ?_
  refine tkk 2 ?_
  refine tkk 3 ?_
  refine tkk 4 ?_
  refine tkk 6 ?_
  refine tkk 7 ?_
  refine tkk 8 ?_
  refine tkk 9 ?_
  refine tkk 10 ?_
  refine rdy 5 (fun K hK => ?_)
  go_simp
  refine HC.out.mono ?_
  rintro e1 w1 ⟨rfl, t1, k1⟩
  have KK := hid (boxY_keep KD.out k1 (fun h => h.2 (.inr rfl)))
  have hB1 : B ≤ w1.heap.size := Nat.le_trans hBB k1.size
  have HC2 := hid (twy_doc t1 hB1 (fun b h => Nat.lt_of_lt_of_le (HXX.out b h) k1.size) (fun f v tv q col p => ydel_calls w1 p W.out hK2 aa an))
  
  have K1 := hid (KW.out.trans k1 (fun b _ h => ⟨h.1, fun e => h.2 (.inl e)⟩))
  clear k1 HC t1
  obtain ⟨m0, m1, m2, m3, m4, m5, m6⟩ := KK.out
  dsimp only at m1 m2 m3 m4 m5 m6
  go_simp
  refine hK.out _ _ ?_ (fun _ => ?_)
  · (refine ⟨?_, ?_, ?_, ?_, ?_, ?_⟩ <;> (first | assumption | go_simp))
  clear hK K
  refine rdy 11 (fun K hK => ?_)
  go_simp
  refine HC2.out.mono ?_
  rintro e2 w2 ⟨rfl, t2, k2⟩
  obtain ⟨m0, m1, m2, m3, m4, m5, m6⟩ := boxY_keep KK.out k2 (fun h => h.2 (.inr rfl))
  dsimp only at m1 m2 m3 m4 m5 m6
  have R := hid (show TwY B X (J + 1) h r (delH H aa an) (delH H aa an) w2 ∧ Keep (fun b => B ≤ b ∧ ¬ X b) w w2 from ⟨t2.law (fun b _ e => .inl e), K1.out.trans k2 (fun b _ h => ⟨h.1, fun e => h.2 (.inl e)⟩)⟩)
  clear t2 k2 K1 HC2
  go_simp
  refine hK.out _ _ ?_ (fun _ => ?_)
  · (refine ⟨?_, ?_, ?_, ?_, ?_, ?_⟩ <;> (first | assumption | go_simp))
  clear hK K
  refine tkk 12 ?_
  refine tkk 13 ?_
  refine wpAnyH_done (by kernel_rfl) ?_ _
  go_wp2_with fail
  go_ret
  exact ⟨rfl, R.out⟩
set_option maxHeartbeats 4000000 in
theorem ydone_3 {B J h r : Nat} {X : Nat → Prop} {H : He} (w : World) (t : TwY B X J h r H H w) (h40 : 40 ≤ J) (hK2 : J ≤ 900000) (hB : B ≤ w.heap.size) (hX : ∀ b, X b → b < w.heap.size) (a : AcH) (hn : a.2.2.2.1.size ≤ 1000000) (hd : a.1 = 3) :
    Calls Tryz.prog 12 #[.pointer (some ⟨h, 0, none⟩), .pointer (some ⟨r, 0, none⟩), acHV a] w fun e w' => DidY B X (J + 1) h r (protoS H a.2.1 a.2.2.1) w e w' := by
  have W := hid t.wf
  have TX := (t.law (Y := fun b => X b ∨ b = w.heap.size) (fun b hb e => e.resolve_right (by omega)))
  have D : Below w.heap.size w (w.alloc (acHO a)).drew := ((Below.refl w.heap.size w).alloc (Nat.le_refl _) (acHO a)).drew
  have TD := hid (TX.on D)
  have KD : Hid (BoxY w.heap.size a (w.alloc (acHO a)).drew) := hid ⟨by simp, by simp, by simp, by simp, by simp, by simp, by simp⟩
  have hXX : ∀ b, (X b ∨ b = w.heap.size) → b < (w.alloc (acHO a)).drew.heap.size := fun b h => by rcases h with h | h; have := hX b h; simp; omega; simp; omega
  have hBB : B ≤ (w.alloc (acHO a)).drew.heap.size := by simp; omega
  have KW := hid (Keep.of (S := fun b => B ≤ b ∧ ¬ X b) D)
  have HC := hid (twy_prog TD.out hBB hXX (fun S s => hsetproto_calls _ s h40 hK2 a.2.1 a.2.2.1))
  have HXX := hid hXX
  have hz : w.heap.size < (w.alloc (acHO a)).drew.heap.size := by simp
  obtain ⟨l0, n1, n2, n3, n4, n5, n6⟩ := KD.out
  generalize hwD : (w.alloc (acHO a)).drew = wD at *
  obtain ⟨a0, aa, ab, an, av⟩ := a
  dsimp only at *
  subst hd
  unfold vlV at *
  clear t TX D hX hXX
  subst hwD
  go_enter Tryz.func12, Tryz.ntmps12
  go_wp2_with fail
  refine wp_region_held_drew (S := fun aZ => aZ.cell? ⟨w.heap.size, 1, none⟩ = some (.int .i64 aa) ∧ aZ.cell? ⟨w.heap.size, 2, none⟩ = some (.int .i64 ab) ∧ aZ.cell? ⟨w.heap.size, 3, none⟩ = some (.string an) ∧ aZ.cell? ⟨w.heap.size, 4, none⟩ = some (.int .i64 av.1) ∧ aZ.cell? ⟨w.heap.size, 5, none⟩ = some (.int .i64 av.2.1) ∧ aZ.cell? ⟨w.heap.size, 6, none⟩ = some (.string av.2.2)) (by kernel_rfl) ?_ (fun hHeld => ?_)
  · (refine ⟨?_, ?_, ?_, ?_, ?_, ?_⟩ <;> go_simp)
  refine tkk 0 ?_
  refine tkk 1 ?_
  refine tkk 2 ?_
  refine tkk 3 ?_
  refine tkk 4 ?_
  refine tkk 6 ?_
  refine tkk 7 ?_
  refine tkk 8 ?_
  refine tkk 9 ?_
  refine tkk 10 ?_
  refine rdy 5 (fun K hK => ?_)
  go_simp
  refine HC.out.mono ?_
  rintro e1 w1 ⟨rfl, t1, k1⟩
  have KK := hid (boxY_keep KD.out k1 (fun h => h.2 (.inr rfl)))
  have hB1 : B ≤ w1.heap.size := Nat.le_trans hBB k1.size
  have HC2 := hid (twy_doc t1 hB1 (fun b h => Nat.lt_of_lt_of_le (HXX.out b h) k1.size) (fun f v tv q col p => ysetproto_calls w1 p W.out hK2 aa ab))
  
  have K1 := hid (KW.out.trans k1 (fun b _ h => ⟨h.1, fun e => h.2 (.inl e)⟩))
  clear k1 HC t1
  obtain ⟨m0, m1, m2, m3, m4, m5, m6⟩ := KK.out
  dsimp only at m1 m2 m3 m4 m5 m6
  go_simp
  refine hK.out _ _ ?_ (fun _ => ?_)
  · (refine ⟨?_, ?_, ?_, ?_, ?_, ?_⟩ <;> (first | assumption | go_simp))
  clear hK K
  refine rdy 11 (fun K hK => ?_)
  go_simp
  refine HC2.out.mono ?_
  rintro e2 w2 ⟨rfl, t2, k2⟩
  obtain ⟨m0, m1, m2, m3, m4, m5, m6⟩ := boxY_keep KK.out k2 (fun h => h.2 (.inr rfl))
  dsimp only at m1 m2 m3 m4 m5 m6
  have R := hid (show TwY B X (J + 1) h r (protoS H aa ab) (protoS H aa ab) w2 ∧ Keep (fun b => B ≤ b ∧ ¬ X b) w w2 from ⟨t2.law (fun b _ e => .inl e), K1.out.trans k2 (fun b _ h => ⟨h.1, fun e => h.2 (.inl e)⟩)⟩)
  clear t2 k2 K1 HC2
  go_simp
  refine hK.out _ _ ?_ (fun _ => ?_)
  · (refine ⟨?_, ?_, ?_, ?_, ?_, ?_⟩ <;> (first | assumption | go_simp))
  clear hK K
  refine tkk 12 ?_
  refine tkk 13 ?_
  refine wpAnyH_done (by kernel_rfl) ?_ _
  go_wp2_with fail
  go_ret
  exact ⟨rfl, R.out⟩
set_option maxHeartbeats 4000000 in
theorem ydone_4 {B J h r : Nat} {X : Nat → Prop} {H : He} (w : World) (t : TwY B X J h r H H w) (h40 : 40 ≤ J) (hK2 : J ≤ 900000) (hB : B ≤ w.heap.size) (hX : ∀ b, X b → b < w.heap.size) (a : AcH) (hn : a.2.2.2.1.size ≤ 1000000) (hd : a.1 = 4) :
    Calls Tryz.prog 12 #[.pointer (some ⟨h, 0, none⟩), .pointer (some ⟨r, 0, none⟩), acHV a] w fun e w' => DidY B X (J + 1) h r (putH H a.2.1 a.2.2.1 a.2.2.2.2) w e w' := by
  have W := hid t.wf
  have TX := (t.law (Y := fun b => X b ∨ b = w.heap.size) (fun b hb e => e.resolve_right (by omega)))
  have D : Below w.heap.size w (w.alloc (acHO a)).drew := ((Below.refl w.heap.size w).alloc (Nat.le_refl _) (acHO a)).drew
  have TD := hid (TX.on D)
  have KD : Hid (BoxY w.heap.size a (w.alloc (acHO a)).drew) := hid ⟨by simp, by simp, by simp, by simp, by simp, by simp, by simp⟩
  have hXX : ∀ b, (X b ∨ b = w.heap.size) → b < (w.alloc (acHO a)).drew.heap.size := fun b h => by rcases h with h | h; have := hX b h; simp; omega; simp; omega
  have hBB : B ≤ (w.alloc (acHO a)).drew.heap.size := by simp; omega
  have KW := hid (Keep.of (S := fun b => B ≤ b ∧ ¬ X b) D)
  have HC := hid (twy_prog TD.out hBB hXX (fun S s => ((hput_calls _ s a.2.1 a.2.2.1 a.2.2.2.2).mono (by rintro e w1 ⟨e1, e2, e3⟩; exact ⟨e1, e2.more (Nat.le_succ _), e3⟩))))
  have HXX := hid hXX
  have hz : w.heap.size < (w.alloc (acHO a)).drew.heap.size := by simp
  obtain ⟨l0, n1, n2, n3, n4, n5, n6⟩ := KD.out
  generalize hwD : (w.alloc (acHO a)).drew = wD at *
  obtain ⟨a0, aa, ab, an, av⟩ := a
  dsimp only at *
  subst hd
  unfold vlV at *
  clear t TX D hX hXX
  subst hwD
  go_enter Tryz.func12, Tryz.ntmps12
  go_wp2_with fail
  refine wp_region_held_drew (S := fun aZ => aZ.cell? ⟨w.heap.size, 1, none⟩ = some (.int .i64 aa) ∧ aZ.cell? ⟨w.heap.size, 2, none⟩ = some (.int .i64 ab) ∧ aZ.cell? ⟨w.heap.size, 3, none⟩ = some (.string an) ∧ aZ.cell? ⟨w.heap.size, 4, none⟩ = some (.int .i64 av.1) ∧ aZ.cell? ⟨w.heap.size, 5, none⟩ = some (.int .i64 av.2.1) ∧ aZ.cell? ⟨w.heap.size, 6, none⟩ = some (.string av.2.2)) (by kernel_rfl) ?_ (fun hHeld => ?_)
  · (refine ⟨?_, ?_, ?_, ?_, ?_, ?_⟩ <;> go_simp)
  refine tkk 0 ?_
  refine tkk 1 ?_
  refine tkk 2 ?_
  refine tkk 3 ?_
  refine tkk 4 ?_
  refine tkk 5 ?_
  refine tkk 6 ?_
  refine tkk 8 ?_
  refine tkk 9 ?_
  refine tkk 10 ?_
  refine tkk 11 ?_
  refine tkk 12 ?_
  refine tkk 13 ?_
  refine tkk 14 ?_
  refine rdy 7 (fun K hK => ?_)
  go_simp
  refine HC.out.mono ?_
  rintro e1 w1 ⟨rfl, t1, k1⟩
  have KK := hid (boxY_keep KD.out k1 (fun h => h.2 (.inr rfl)))
  have hB1 : B ≤ w1.heap.size := Nat.le_trans hBB k1.size
  have HC2 := hid (twy_doc t1 hB1 (fun b h => Nat.lt_of_lt_of_le (HXX.out b h) k1.size) (fun f v tv q col p => yput_calls w1 p (by have := W.out.len; have := W.out.most; omega) aa ab av))
  
  have K1 := hid (KW.out.trans k1 (fun b _ h => ⟨h.1, fun e => h.2 (.inl e)⟩))
  clear k1 HC t1
  obtain ⟨m0, m1, m2, m3, m4, m5, m6⟩ := KK.out
  dsimp only at m1 m2 m3 m4 m5 m6
  go_simp
  refine hK.out _ _ ?_ (fun _ => ?_)
  · (refine ⟨?_, ?_, ?_, ?_, ?_, ?_⟩ <;> (first | assumption | go_simp))
  clear hK K
  refine rdy 15 (fun K hK => ?_)
  go_simp
  refine HC2.out.mono ?_
  rintro e2 w2 ⟨rfl, t2, k2⟩
  obtain ⟨m0, m1, m2, m3, m4, m5, m6⟩ := boxY_keep KK.out k2 (fun h => h.2 (.inr rfl))
  dsimp only at m1 m2 m3 m4 m5 m6
  have R := hid (show TwY B X (J + 1) h r (putH H aa ab av) (putH H aa ab av) w2 ∧ Keep (fun b => B ≤ b ∧ ¬ X b) w w2 from ⟨t2.law (fun b _ e => .inl e), K1.out.trans k2 (fun b _ h => ⟨h.1, fun e => h.2 (.inl e)⟩)⟩)
  clear t2 k2 K1 HC2
  go_simp
  refine hK.out _ _ ?_ (fun _ => ?_)
  · (refine ⟨?_, ?_, ?_, ?_, ?_, ?_⟩ <;> (first | assumption | go_simp))
  clear hK K
  refine tkk 16 ?_
  refine tkk 17 ?_
  refine wpAnyH_done (by kernel_rfl) ?_ _
  go_wp2_with fail
  go_ret
  exact ⟨rfl, R.out⟩
set_option maxHeartbeats 4000000 in
theorem ydone_5 {B J h r : Nat} {X : Nat → Prop} {H : He} (w : World) (t : TwY B X J h r H H w) (h40 : 40 ≤ J) (hK2 : J ≤ 900000) (hB : B ≤ w.heap.size) (hX : ∀ b, X b → b < w.heap.size) (a : AcH) (hn : a.2.2.2.1.size ≤ 1000000) (hd : a.1 = 5) :
    Calls Tryz.prog 12 #[.pointer (some ⟨h, 0, none⟩), .pointer (some ⟨r, 0, none⟩), acHV a] w fun e w' => DidY B X (J + 1) h r (growH H a.2.1 a.2.2.1 a.2.2.2.2) w e w' := by
  have W := hid t.wf
  have TX := (t.law (Y := fun b => X b ∨ b = w.heap.size) (fun b hb e => e.resolve_right (by omega)))
  have D : Below w.heap.size w (w.alloc (acHO a)).drew := ((Below.refl w.heap.size w).alloc (Nat.le_refl _) (acHO a)).drew
  have TD := hid (TX.on D)
  have KD : Hid (BoxY w.heap.size a (w.alloc (acHO a)).drew) := hid ⟨by simp, by simp, by simp, by simp, by simp, by simp, by simp⟩
  have hXX : ∀ b, (X b ∨ b = w.heap.size) → b < (w.alloc (acHO a)).drew.heap.size := fun b h => by rcases h with h | h; have := hX b h; simp; omega; simp; omega
  have hBB : B ≤ (w.alloc (acHO a)).drew.heap.size := by simp; omega
  have KW := hid (Keep.of (S := fun b => B ≤ b ∧ ¬ X b) D)
  have HC := hid (twy_prog TD.out hBB hXX (fun S s => hgrow_calls _ s hK2 a.2.1 a.2.2.1 a.2.2.2.2))
  have HXX := hid hXX
  have hz : w.heap.size < (w.alloc (acHO a)).drew.heap.size := by simp
  obtain ⟨l0, n1, n2, n3, n4, n5, n6⟩ := KD.out
  generalize hwD : (w.alloc (acHO a)).drew = wD at *
  obtain ⟨a0, aa, ab, an, av⟩ := a
  dsimp only at *
  subst hd
  unfold vlV at *
  clear t TX D hX hXX
  subst hwD
  go_enter Tryz.func12, Tryz.ntmps12
  go_wp2_with fail
  refine wp_region_held_drew (S := fun aZ => aZ.cell? ⟨w.heap.size, 1, none⟩ = some (.int .i64 aa) ∧ aZ.cell? ⟨w.heap.size, 2, none⟩ = some (.int .i64 ab) ∧ aZ.cell? ⟨w.heap.size, 3, none⟩ = some (.string an) ∧ aZ.cell? ⟨w.heap.size, 4, none⟩ = some (.int .i64 av.1) ∧ aZ.cell? ⟨w.heap.size, 5, none⟩ = some (.int .i64 av.2.1) ∧ aZ.cell? ⟨w.heap.size, 6, none⟩ = some (.string av.2.2)) (by kernel_rfl) ?_ (fun hHeld => ?_)
  · (refine ⟨?_, ?_, ?_, ?_, ?_, ?_⟩ <;> go_simp)
  refine tkk 0 ?_
  refine tkk 1 ?_
  refine tkk 2 ?_
  refine tkk 3 ?_
  refine tkk 4 ?_
  refine tkk 5 ?_
  refine tkk 6 ?_
  refine tkk 8 ?_
  refine tkk 9 ?_
  refine tkk 10 ?_
  refine tkk 11 ?_
  refine tkk 12 ?_
  refine tkk 13 ?_
  refine tkk 14 ?_
  refine rdy 7 (fun K hK => ?_)
  go_simp
  refine HC.out.mono ?_
  rintro e1 w1 ⟨rfl, t1, k1⟩
  have KK := hid (boxY_keep KD.out k1 (fun h => h.2 (.inr rfl)))
  have hB1 : B ≤ w1.heap.size := Nat.le_trans hBB k1.size
  have HC2 := hid (twy_doc t1 hB1 (fun b h => Nat.lt_of_lt_of_le (HXX.out b h) k1.size) (fun f v tv q col p => ygrow_calls w1 p W.out hK2 aa ab av))
  
  have K1 := hid (KW.out.trans k1 (fun b _ h => ⟨h.1, fun e => h.2 (.inl e)⟩))
  clear k1 HC t1
  obtain ⟨m0, m1, m2, m3, m4, m5, m6⟩ := KK.out
  dsimp only at m1 m2 m3 m4 m5 m6
  go_simp
  refine hK.out _ _ ?_ (fun _ => ?_)
  · (refine ⟨?_, ?_, ?_, ?_, ?_, ?_⟩ <;> (first | assumption | go_simp))
  clear hK K
  refine rdy 15 (fun K hK => ?_)
  go_simp
  refine HC2.out.mono ?_
  rintro e2 w2 ⟨rfl, t2, k2⟩
  obtain ⟨m0, m1, m2, m3, m4, m5, m6⟩ := boxY_keep KK.out k2 (fun h => h.2 (.inr rfl))
  dsimp only at m1 m2 m3 m4 m5 m6
  have R := hid (show TwY B X (J + 1) h r (growH H aa ab av) (growH H aa ab av) w2 ∧ Keep (fun b => B ≤ b ∧ ¬ X b) w w2 from ⟨t2.law (fun b _ e => .inl e), K1.out.trans k2 (fun b _ h => ⟨h.1, fun e => h.2 (.inl e)⟩)⟩)
  clear t2 k2 K1 HC2
  go_simp
  refine hK.out _ _ ?_ (fun _ => ?_)
  · (refine ⟨?_, ?_, ?_, ?_, ?_, ?_⟩ <;> (first | assumption | go_simp))
  clear hK K
  refine tkk 16 ?_
  refine tkk 17 ?_
  refine wpAnyH_done (by kernel_rfl) ?_ _
  go_wp2_with fail
  go_ret
  exact ⟨rfl, R.out⟩
set_option maxHeartbeats 4000000 in
theorem ydone_6 {B J h r : Nat} {X : Nat → Prop} {H : He} (w : World) (t : TwY B X J h r H H w) (h40 : 40 ≤ J) (hK2 : J ≤ 900000) (hB : B ≤ w.heap.size) (hX : ∀ b, X b → b < w.heap.size) (a : AcH) (hn : a.2.2.2.1.size ≤ 1000000) (hd : a.1 = 6) :
    Calls Tryz.prog 12 #[.pointer (some ⟨h, 0, none⟩), .pointer (some ⟨r, 0, none⟩), acHV a] w fun e w' => DidY B X (J + 1) h r (nextH H a.2.2.1 a.2.2.2.1) w e w' := by
  have W := hid t.wf
  have TX := (t.law (Y := fun b => X b ∨ b = w.heap.size) (fun b hb e => e.resolve_right (by omega)))
  have D : Below w.heap.size w (w.alloc (acHO a)).drew := ((Below.refl w.heap.size w).alloc (Nat.le_refl _) (acHO a)).drew
  have TD := hid (TX.on D)
  have KD : Hid (BoxY w.heap.size a (w.alloc (acHO a)).drew) := hid ⟨by simp, by simp, by simp, by simp, by simp, by simp, by simp⟩
  have hXX : ∀ b, (X b ∨ b = w.heap.size) → b < (w.alloc (acHO a)).drew.heap.size := fun b h => by rcases h with h | h; have := hX b h; simp; omega; simp; omega
  have hBB : B ≤ (w.alloc (acHO a)).drew.heap.size := by simp; omega
  have KW := hid (Keep.of (S := fun b => B ≤ b ∧ ¬ X b) D)
  have HC := hid (twy_prog TD.out hBB hXX (fun S s => hnext_calls _ s hK2 a.2.2.1 a.2.2.2.1 hn))
  have HXX := hid hXX
  have hz : w.heap.size < (w.alloc (acHO a)).drew.heap.size := by simp
  obtain ⟨l0, n1, n2, n3, n4, n5, n6⟩ := KD.out
  generalize hwD : (w.alloc (acHO a)).drew = wD at *
  obtain ⟨a0, aa, ab, an, av⟩ := a
  dsimp only at *
  subst hd
  unfold vlV at *
  clear t TX D hX hXX
  subst hwD
  go_enter Tryz.func12, Tryz.ntmps12
  go_wp2_with fail
  refine wp_region_held_drew (S := fun aZ => aZ.cell? ⟨w.heap.size, 1, none⟩ = some (.int .i64 aa) ∧ aZ.cell? ⟨w.heap.size, 2, none⟩ = some (.int .i64 ab) ∧ aZ.cell? ⟨w.heap.size, 3, none⟩ = some (.string an) ∧ aZ.cell? ⟨w.heap.size, 4, none⟩ = some (.int .i64 av.1) ∧ aZ.cell? ⟨w.heap.size, 5, none⟩ = some (.int .i64 av.2.1) ∧ aZ.cell? ⟨w.heap.size, 6, none⟩ = some (.string av.2.2)) (by kernel_rfl) ?_ (fun hHeld => ?_)
  · (refine ⟨?_, ?_, ?_, ?_, ?_, ?_⟩ <;> go_simp)
  refine tkk 0 ?_
  refine tkk 1 ?_
  refine tkk 2 ?_
  refine tkk 3 ?_
  refine tkk 4 ?_
  refine tkk 6 ?_
  refine tkk 7 ?_
  refine tkk 8 ?_
  refine tkk 9 ?_
  refine tkk 10 ?_
  refine rdy 5 (fun K hK => ?_)
  go_simp
  refine HC.out.mono ?_
  rintro e1 w1 ⟨rfl, t1, k1⟩
  have KK := hid (boxY_keep KD.out k1 (fun h => h.2 (.inr rfl)))
  have hB1 : B ≤ w1.heap.size := Nat.le_trans hBB k1.size
  have HC2 := hid (twy_doc t1 hB1 (fun b h => Nat.lt_of_lt_of_le (HXX.out b h) k1.size) (fun f v tv q col p => ((ynext_calls w1 p W.out.wfs (by have := W.out.nl; omega) ab an).mono (by rintro e w2 ⟨e1, tv2, col2, p2, g2⟩; exact ⟨e1, chn_of p2 g2 (fun u e => by omega)⟩))))
  
  have K1 := hid (KW.out.trans k1 (fun b _ h => ⟨h.1, fun e => h.2 (.inl e)⟩))
  clear k1 HC t1
  obtain ⟨m0, m1, m2, m3, m4, m5, m6⟩ := KK.out
  dsimp only at m1 m2 m3 m4 m5 m6
  go_simp
  refine hK.out _ _ ?_ (fun _ => ?_)
  · (refine ⟨?_, ?_, ?_, ?_, ?_, ?_⟩ <;> (first | assumption | go_simp))
  clear hK K
  refine rdy 11 (fun K hK => ?_)
  go_simp
  refine HC2.out.mono ?_
  rintro e2 w2 ⟨rfl, t2, k2⟩
  obtain ⟨m0, m1, m2, m3, m4, m5, m6⟩ := boxY_keep KK.out k2 (fun h => h.2 (.inr rfl))
  dsimp only at m1 m2 m3 m4 m5 m6
  have R := hid (show TwY B X (J + 1) h r (nextH H ab an) (nextH H ab an) w2 ∧ Keep (fun b => B ≤ b ∧ ¬ X b) w w2 from ⟨t2.law (fun b _ e => .inl e), K1.out.trans k2 (fun b _ h => ⟨h.1, fun e => h.2 (.inl e)⟩)⟩)
  clear t2 k2 K1 HC2
  go_simp
  refine hK.out _ _ ?_ (fun _ => ?_)
  · (refine ⟨?_, ?_, ?_, ?_, ?_, ?_⟩ <;> (first | assumption | go_simp))
  clear hK K
  refine tkk 12 ?_
  refine tkk 13 ?_
  refine wpAnyH_done (by kernel_rfl) ?_ _
  go_wp2_with fail
  go_ret
  exact ⟨rfl, R.out⟩
set_option maxHeartbeats 4000000 in
theorem ydone_7 {B J h r : Nat} {X : Nat → Prop} {H : He} (w : World) (t : TwY B X J h r H H w) (h40 : 40 ≤ J) (hK2 : J ≤ 900000) (hB : B ≤ w.heap.size) (hX : ∀ b, X b → b < w.heap.size) (a : AcH) (hn : a.2.2.2.1.size ≤ 1000000) (hd : a.1 < 0 ∨ 6 < a.1) :
    Calls Tryz.prog 12 #[.pointer (some ⟨h, 0, none⟩), .pointer (some ⟨r, 0, none⟩), acHV a] w fun e w' => DidY B X (J + 1) h r (H) w e w' := by
  have W := hid t.wf
  have TX := (t.law (Y := fun b => X b ∨ b = w.heap.size) (fun b hb e => e.resolve_right (by omega)))
  have D : Below w.heap.size w (w.alloc (acHO a)).drew := ((Below.refl w.heap.size w).alloc (Nat.le_refl _) (acHO a)).drew
  have TD := hid (TX.on D)
  have KD : Hid (BoxY w.heap.size a (w.alloc (acHO a)).drew) := hid ⟨by simp, by simp, by simp, by simp, by simp, by simp, by simp⟩
  have hXX : ∀ b, (X b ∨ b = w.heap.size) → b < (w.alloc (acHO a)).drew.heap.size := fun b h => by rcases h with h | h; have := hX b h; simp; omega; simp; omega
  have hBB : B ≤ (w.alloc (acHO a)).drew.heap.size := by simp; omega
  have KW := hid (Keep.of (S := fun b => B ≤ b ∧ ¬ X b) D)
  have HC := hid (twy_prog TD.out hBB hXX (fun S s => ((hget_calls _ s hK2 a.2.1 a.2.2.2.1 hn).mono (by rintro e w1 ⟨e1, e2⟩; exact ⟨e1, ((s.on e2).more (Nat.le_succ _)).mono (fun b _ h => .inl h), Keep.of e2⟩))))
  have HXX := hid hXX
  have hz : w.heap.size < (w.alloc (acHO a)).drew.heap.size := by simp
  obtain ⟨l0, n1, n2, n3, n4, n5, n6⟩ := KD.out
  generalize hwD : (w.alloc (acHO a)).drew = wD at *
  obtain ⟨a0, aa, ab, an, av⟩ := a
  dsimp only at *
  have q0 : ¬ a0 = 0 := by omega
  have q1 : ¬ a0 = 1 := by omega
  have q2 : ¬ a0 = 2 := by omega
  have q3 : ¬ a0 = 3 := by omega
  have q4 : ¬ a0 = 4 := by omega
  have q5 : ¬ a0 = 5 := by omega
  have q6 : ¬ a0 = 6 := by omega
  clear hd
  unfold vlV at *
  clear t TX D hX hXX
  subst hwD
  go_enter Tryz.func12, Tryz.ntmps12
  go_wp2_with fail
  refine wp_region_held_drew (S := fun aZ => aZ.cell? ⟨w.heap.size, 1, none⟩ = some (.int .i64 aa) ∧ aZ.cell? ⟨w.heap.size, 2, none⟩ = some (.int .i64 ab) ∧ aZ.cell? ⟨w.heap.size, 3, none⟩ = some (.string an) ∧ aZ.cell? ⟨w.heap.size, 4, none⟩ = some (.int .i64 av.1) ∧ aZ.cell? ⟨w.heap.size, 5, none⟩ = some (.int .i64 av.2.1) ∧ aZ.cell? ⟨w.heap.size, 6, none⟩ = some (.string av.2.2)) (by kernel_rfl) ?_ (fun hHeld => ?_)
  · (refine ⟨?_, ?_, ?_, ?_, ?_, ?_⟩ <;> go_simp)
  refine tkk 0 ?_
  refine tkk 1 ?_
  refine tkk 2 ?_
  refine tkk 3 ?_
  refine tkk 4 ?_
  refine tkk 6 ?_
  refine tkk 7 ?_
  refine tkk 8 ?_
  refine tkk 9 ?_
  refine tkk 10 ?_
  refine rdy 5 (fun K hK => ?_)
  go_simp
  refine HC.out.mono ?_
  rintro e1 w1 ⟨rfl, t1, k1⟩
  have KK := hid (boxY_keep KD.out k1 (fun h => h.2 (.inr rfl)))
  have hB1 : B ≤ w1.heap.size := Nat.le_trans hBB k1.size
  have HC2 := hid (twy_doc t1 hB1 (fun b h => Nat.lt_of_lt_of_le (HXX.out b h) k1.size) (fun f v tv q col p => ((yget_calls w1 p W.out aa an).mono (by rintro e w2 ⟨e1, e2⟩; exact ⟨e1, (fun b => chn_of (P := fun u => u = 1) (p.on b) (Grew.below b p.top) (fun u e => by omega)) e2⟩))))
  unfold vlV at HC2
  have K1 := hid (KW.out.trans k1 (fun b _ h => ⟨h.1, fun e => h.2 (.inl e)⟩))
  clear k1 HC t1
  obtain ⟨m0, m1, m2, m3, m4, m5, m6⟩ := KK.out
  dsimp only at m1 m2 m3 m4 m5 m6
  go_simp
  refine hK.out _ _ ?_ (fun _ => ?_)
  · (refine ⟨?_, ?_, ?_, ?_, ?_, ?_⟩ <;> (first | assumption | go_simp))
  clear hK K
  refine rdy 11 (fun K hK => ?_)
  go_simp
  refine HC2.out.mono ?_
  rintro e2 w2 ⟨rfl, t2, k2⟩
  obtain ⟨m0, m1, m2, m3, m4, m5, m6⟩ := boxY_keep KK.out k2 (fun h => h.2 (.inr rfl))
  dsimp only at m1 m2 m3 m4 m5 m6
  have R := hid (show TwY B X (J + 1) h r (H) (H) w2 ∧ Keep (fun b => B ≤ b ∧ ¬ X b) w w2 from ⟨t2.law (fun b _ e => .inl e), K1.out.trans k2 (fun b _ h => ⟨h.1, fun e => h.2 (.inl e)⟩)⟩)
  clear t2 k2 K1 HC2
  go_simp
  refine hK.out _ _ ?_ (fun _ => ?_)
  · (refine ⟨?_, ?_, ?_, ?_, ?_, ?_⟩ <;> (first | assumption | go_simp))
  clear hK K
  refine tk 12 (v := .bool true) ?_ ?_
  · (intro w hSw; go_simp <;> skip)
  refine tkk 13 ?_
  refine wpAnyH_done (by kernel_rfl) ?_ _
  go_wp2_with fail
  go_ret
  exact ⟨rfl, R.out⟩
set_option maxHeartbeats 4000000 in
theorem ydone_0 {B J h r : Nat} {X : Nat → Prop} {H : He} (w : World) (t : TwY B X J h r H H w) (h40 : 40 ≤ J) (hK2 : J ≤ 900000) (hB : B ≤ w.heap.size) (hX : ∀ b, X b → b < w.heap.size) (a : AcH) (hn : a.2.2.2.1.size ≤ 1000000) (hd : a.1 = 0) :
    Calls Tryz.prog 12 #[.pointer (some ⟨h, 0, none⟩), .pointer (some ⟨r, 0, none⟩), acHV a] w fun e w' => DidY B X (J + 1) h r (makeH H) w e w' := by
  have W := hid t.wf
  have TX := (t.law (Y := fun b => X b ∨ b = w.heap.size) (fun b hb e => e.resolve_right (by omega)))
  have D : Below w.heap.size w (w.alloc (acHO a)) := (Below.refl w.heap.size w).alloc (Nat.le_refl _) (acHO a)
  have TD := hid (TX.on D)
  have KD : Hid (BoxY w.heap.size a (w.alloc (acHO a))) := hid ⟨by simp, by simp, by simp, by simp, by simp, by simp, by simp⟩
  have hXX : ∀ b, (X b ∨ b = w.heap.size) → b < (w.alloc (acHO a)).heap.size := fun b h => by rcases h with h | h; have := hX b h; simp; omega; simp; omega
  have hBB : B ≤ (w.alloc (acHO a)).heap.size := by simp; omega
  have KW := hid (Keep.of (S := fun b => B ≤ b ∧ ¬ X b) D)
  have HC := hid (twy_prog TD.out hBB hXX (fun S s => hmake_calls _ s))
  have HXX := hid hXX
  obtain ⟨a0, aa, ab, an, av⟩ := a
  dsimp only at *
  subst hd
  clear t TX D hX hXX
  go_enter Tryz.func12, Tryz.ntmps12
  go_wp2_with fail
  refine HC.out.mono ?_
  rintro e1 w1 ⟨rfl, t1, k1⟩
  have HC2 := hid (twy_doc t1 (Nat.le_trans hBB k1.size) (fun b h => Nat.lt_of_lt_of_le (HXX.out b h) k1.size) (fun f v tv q col p => ymake_calls w1 p W.out))
  have K1 := hid (KW.out.trans k1 (fun b _ h => ⟨h.1, fun e => h.2 (.inl e)⟩))
  clear k1 HC t1
  generalize (makeN H : Int) = mn at *
  generalize makeE H = me at *
  go_wp2_with fail
  refine HC2.out.mono ?_
  rintro e2 w2 ⟨rfl, t2, k2⟩
  have R := hid (show TwY B X (J + 1) h r (makeH H) (makeH H) w2 ∧ Keep (fun b => B ≤ b ∧ ¬ X b) w w2 from ⟨(t2.law (fun b _ e => .inl e)).more (Nat.le_succ _), K1.out.trans k2 (fun b _ h => ⟨h.1, fun e => h.2 (.inl e)⟩)⟩)
  clear t2 k2 K1 HC2
  go_wp2_with fail
  go_ret
  exact ⟨rfl, R.out⟩
theorem ydone_calls {B J h r : Nat} {X : Nat → Prop} {H : He} (w : World) (t : TwY B X J h r H H w) (h40 : 40 ≤ J) (hK2 : J ≤ 900000) (hB : B ≤ w.heap.size) (hX : ∀ b, X b → b < w.heap.size) (a : AcH) (hn : a.2.2.2.1.size ≤ 1000000) :
    Calls Tryz.prog 12 #[.pointer (some ⟨h, 0, none⟩), .pointer (some ⟨r, 0, none⟩), acHV a] w fun e w' => DidY B X (J + 1) h r (actY H a) w e w' := by
  unfold actY
  by_cases h0 : a.1 = 0
  · rw [if_pos h0]; exact ydone_0 w t h40 hK2 hB hX a hn h0
  · rw [if_neg h0]
    by_cases h1 : a.1 = 1
    · rw [if_pos h1]; exact ydone_1 w t h40 hK2 hB hX a hn h1
    · rw [if_neg h1]
      by_cases h2 : a.1 = 2
      · rw [if_pos h2]; exact ydone_2 w t h40 hK2 hB hX a hn h2
      · rw [if_neg h2]
        by_cases h3 : a.1 = 3
        · rw [if_pos h3]; exact ydone_3 w t h40 hK2 hB hX a hn h3
        · rw [if_neg h3]
          by_cases h4 : a.1 = 4
          · rw [if_pos h4]; exact ydone_4 w t h40 hK2 hB hX a hn h4
          · rw [if_neg h4]
            by_cases h5 : a.1 = 5
            · rw [if_pos h5]; exact ydone_5 w t h40 hK2 hB hX a hn h5
            · rw [if_neg h5]
              by_cases h6 : a.1 = 6
              · rw [if_pos h6]; exact ydone_6 w t h40 hK2 hB hX a hn h6
              · rw [if_neg h6]; exact ydone_7 w t h40 hK2 hB hX a hn (by omega)

end Go.Proofs.YtemidicgipebjaaGreat
