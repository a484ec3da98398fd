/- The site at which an object is used. -/
import Derived.Test.YtimhgbcanmgajaaGreatJoint2
import Derived.Test.YtimhgbcanmgajaaGreatSiPut
import Derived.Test.YtimhgbcanmgajaaGreatHpRead
import Derived.Lib.Strings
namespace Go.Proofs.YtimhgbcanmgajaaGreat
set_option linter.unusedSimpArgs false
set_option linter.unusedVariables false
set_option maxRecDepth 100000
open Go.RowKit

theorem use_neq (w : World) (a c : ByteArray) (b d : Bool) : (binOp .neq 139 (.agg #[.string a, .bool b]) (.agg #[.string c, .bool d])).run Tryz.prog w = .ok (.bool (!(decide (a = c ∧ b = d)))) w := by
  by_cases h1 : a = c
  · by_cases h2 : b = d
    · subst h1 h2
      simp [go_sem]
    · subst h1
      simp [go_sem, h2]
  · have h2 : ¬ a.toList = c.toList := fun h => h1 (ByteArray.ext (Array.toList_inj.1 (by rw [← Lib.toList_data, ← Lib.toList_data]; exact h)))
    simp [go_sem, h1, h2]
theorem fix0 (a : Int) (nm : ByteArray) : fixS st0 a nm = ⟨a, nm, [], false⟩ := by unfold fixS; rw [if_pos (show st0.as' = 0 from rfl)]; rfl
section
variable {K s : Nat} {T : Tb} {tb n g cap : Nat} {fs : List Fm} {col : Nat → Nat}
def PartOut (K s : Nat) (T : Tb) (tb n g cap : Nat) (col : Nat → Nat) (w : World) (f k : Nat) (a : Int) (nm : ByteArray) (t : St) (e : Ending) (w' : World) : Prop :=
  ∃ fs' col', TbAt (K + 1) s (if t.mega then T else putT T (f : Int) (k : Int) (fixS t a nm)) tb n g cap fs' col' w' ∧ Grew (fun u => u = 1 ∨ inF f u) col col' w w' ∧
    ((playsS t a nm = false ∧ e = .returned (.pointer none)) ∨ (playsS t a nm = true ∧ ∃ x F', fs'[f]? = some F' ∧ F'.mega = false ∧ F'.cel (k : Int) = some x ∧ e = .returned (.pointer (some ⟨x, 0, none⟩))))
theorem ceC_mega {t : St} (h : t.mega = true) (v : Value) : ceC t v = #[.string ⟨#[]⟩, .bool false, .bool false, .bool true, v] := by unfold ceC; rw [if_pos h]
theorem ceC_not {t : St} (h : t.mega = false) (v : Value) : ceC t v = #[.string t.name, .bool (decide (t.as' = 2)), .bool (decide (t.as' ≠ 0)), .bool false, v] := by unfold ceC; rw [if_neg (by rw [h]; decide)]
set_option maxHeartbeats 1000000 in
theorem spart_fn (w : World) (p : TbAt K s T tb n g cap fs col w) (hK : K ≤ 900000) {f k : Nat} {F : Fm} {r : List St} {t : St} (hf : fs[f]? = some F) (hr : T.all[f]? = some r) (ht : r[k]? = some t) (hm : t.mega = true → t.l = []) (hu : t.as' = 0 ∨ t.as' = 1 ∨ t.as' = 2) {a : Int} (ha : a = 1 ∨ a = 2) (nm : ByteArray) :
    Calls Tryz.prog 107 #[.pointer (some ⟨g, f * 3, none⟩), .int .i64 (k : Int), .agg #[.string nm, .bool (decide (a = 2))]] w fun e w' => PartOut K s T tb n g cap col w f k a nm t e w' := by
  have A := (Below.refl w.heap.size w).alloc (Nat.le_refl _) (Obj.cells #[.string nm, .bool (decide (a = 2))] 139)
  have HC := hid (scell_at _ (p.on A) hf hr ht hm)
  have d0 : (w.alloc (Obj.cells #[.string nm, .bool (decide (a = 2))] 139)).cell? ⟨w.heap.size, 0, none⟩ = some (.string nm) := by simp
  have d1 : (w.alloc (Obj.cells #[.string nm, .bool (decide (a = 2))] 139)).cell? ⟨w.heap.size, 1, none⟩ = some (.bool (decide (a = 2))) := by simp
  have hl : w.heap.size < (w.alloc (Obj.cells #[.string nm, .bool (decide (a = 2))] 139)).heap.size := by simp
  have HP := hid p
  have HA := hid A
  clear p A
  generalize hua : decide (a = 2) = ua at *
  have HU := hid hua
  clear hua
  generalize hW : w.alloc (Obj.cells #[.string nm, .bool ua] 139) = w0 at *
  go_enter Tryz.func107, Tryz.ntmps107
  go_wp2_with fail
  refine HC.out.mono ?_
  rintro e1 w1 ⟨b1, ⟨x, hg, hc, rfl, rfl⟩ | ⟨ho, rfl, C, h0, hw1⟩⟩
  · obtain ⟨⟨v, l, C, cx, cv, cd⟩, hfix⟩ := (HP.out.fn f F r hf hr).new hg k t x ht hc
    have Cw := C.on HA.out
    have lx := blk_lt Cw.blk
    cases hmt : t.mega with
    | true =>
      have hb : Blk x 208 #[.string ⟨#[]⟩, .bool false, .bool false, .bool true, v] w1 := by rw [← ceC_mega hmt v]; exact Cw.blk
      have x2 : w1.cell? ⟨x, 2, none⟩ = some (.bool false) := by rw [blk_cell hb]; rfl
      have x3 : w1.cell? ⟨x, 3, none⟩ = some (.bool true) := by rw [blk_cell hb]; rfl
      clear hb C Cw cv cd
      go_wp2_with fail
      refine wp_region_held_drew (S := fun aZ => aZ.cell? ⟨x, 3, none⟩ = some (.bool true)) (by kernel_rfl) ?_ (fun hHeld => ?_)
      · go_simp
      refine tkk 0 ?_
      refine tkk 1 ?_
      refine tkk 2 ?_
      refine tkk 3 ?_
      refine tkk 4 ?_
      refine tks 5 ?_
      refine tks 6 ?_
      refine tks 7 ?_
      refine tks 8 ?_
      refine tks 9 ?_
      refine tks 10 ?_
      refine tkk 11 ?_
      refine wpAnyH_done (by kernel_rfl) ?_ _
      go_wp2_with fail
      go_ret
      refine ⟨fs, col, ?_, Grew.below HA.out.drew HP.out.top, .inl ⟨?_, rfl⟩⟩
      · rw [if_pos hmt]
        exact (HP.out.on HA.out.drew).more (Nat.le_succ _)
      · unfold playsS; rw [hmt]; rfl
    | false =>
      have hfx : t.as' ≠ 0 := by rcases hfix with h | h; exact h; rw [hmt] at h; cases h
      have hb : Blk x 208 #[.string t.name, .bool (decide (t.as' = 2)), .bool true, .bool false, v] w1 := by
        have := Cw.blk
        rw [ceC_not hmt v, show decide (t.as' ≠ 0) = true from decide_eq_true hfx] at this
        exact this
      have x0 : w1.cell? ⟨x, 0, none⟩ = some (.string t.name) := by rw [blk_cell hb]; rfl
      have x1 : w1.cell? ⟨x, 1, none⟩ = some (.bool (decide (t.as' = 2))) := by rw [blk_cell hb]; rfl
      have x2 : w1.cell? ⟨x, 2, none⟩ = some (.bool true) := by rw [blk_cell hb]; rfl
      have x3 : w1.cell? ⟨x, 3, none⟩ = some (.bool false) := by rw [blk_cell hb]; rfl
      have hpl : playsS t a nm = decide (t.name = nm ∧ decide (t.as' = 2) = ua) := by
        unfold playsS fixS
        rw [hmt, if_neg hfx, ← HU.out]
        simp only [Bool.not_false, Bool.true_and]
        rw [decide_eq_decide]
        rcases ha with rfl | rfl <;> rcases hu with h | h | h <;> simp [h] at hfx ⊢
      have HPL := hid hpl
      have hpt : (if t.mega then T else putT T (f : Int) (k : Int) (fixS t a nm)) = T := by
        unfold fixS
        rw [hmt, if_neg hfx]
        exact putT_self hr ht
      have HPT := hid hpt
      clear hb C Cw cv cd hpl hpt hmt
      generalize decide (t.as' = 2) = z at *
      generalize t.name = tn at *
      have qN := use_neq
      by_cases he : tn = nm ∧ z = ua
      · rw [decide_eq_true he] at HPL
        obtain ⟨rfl, rfl⟩ := he
        go_wp2_with fail
        refine wp_region_held_drew (S := fun aZ => aZ.cell? ⟨x, 0, none⟩ = some (.string tn) ∧ aZ.cell? ⟨x, 1, none⟩ = some (.bool z) ∧ aZ.cell? ⟨x, 3, none⟩ = some (.bool false) ∧ aZ.cell? ⟨w.heap.size, 0, none⟩ = some (.string tn) ∧ aZ.cell? ⟨w.heap.size, 1, none⟩ = some (.bool z)) (by kernel_rfl) ?_ (fun hHeld => ?_)
        · (refine ⟨?_, ?_, ?_, ?_, ?_⟩ <;> go_simp)
        refine tkk 0 ?_
        refine tkk 1 ?_
        refine tkk 2 ?_
        refine tkk 3 ?_
        refine tkk 4 ?_
        refine tkk 5 ?_
        refine tkk 6 ?_
        refine tkk 7 ?_
        refine tkk 8 ?_
        refine tkk 9 ?_
        refine tk 10 (v := .bool false) ?_ ?_
        · (intro w hSw; go_simp <;> (first | rfl | simp))
        refine tkk 11 ?_
        refine wpAnyH_done (by kernel_rfl) ?_ _
        go_wp2_with fail
        go_ret
        exact ⟨fs, col, by rw [HPT.out]; exact (HP.out.on HA.out.drew).more (Nat.le_succ _), Grew.below HA.out.drew HP.out.top, .inr ⟨HPL.out, x, F, hf, hg, hc, rfl⟩⟩
      · rw [decide_eq_false he] at HPL
        have HE := hid he
        clear he
        go_wp2_with fail
        refine wp_region_held_drew (S := fun aZ => aZ.cell? ⟨x, 0, none⟩ = some (.string tn) ∧ aZ.cell? ⟨x, 1, none⟩ = some (.bool z) ∧ aZ.cell? ⟨x, 3, none⟩ = some (.bool false) ∧ aZ.cell? ⟨w.heap.size, 0, none⟩ = some (.string nm) ∧ aZ.cell? ⟨w.heap.size, 1, none⟩ = some (.bool ua)) (by kernel_rfl) ?_ (fun hHeld => ?_)
        · (refine ⟨?_, ?_, ?_, ?_, ?_⟩ <;> go_simp)
        refine tkk 0 ?_
        refine tkk 1 ?_
        refine tkk 2 ?_
        refine tkk 3 ?_
        refine tkk 4 ?_
        refine tkk 5 ?_
        refine tkk 6 ?_
        refine tkk 7 ?_
        refine tkk 8 ?_
        refine tkk 9 ?_
        refine tk 10 (v := .bool true) ?_ ?_
        · (intro w hSw; go_simp <;> (first | rfl | exact Classical.byContradiction fun h => HE.out ⟨Classical.byContradiction fun h1 => h (.inl h1), Classical.byContradiction fun h1 => h (.inr h1)⟩))
        refine tkk 11 ?_
        refine wpAnyH_done (by kernel_rfl) ?_ _
        go_wp2_with fail
        go_ret
        exact ⟨fs, col, by rw [HPT.out]; exact (HP.out.on HA.out.drew).more (Nat.le_succ _), Grew.below HA.out.drew HP.out.top, .inl ⟨HPL.out, rfl⟩⟩
  · cases hg : F.mega with
    | true =>
      have hmt : t.mega = true := (HP.out.fn f F r hf hr).meg hg t (List.mem_of_getElem? ht)
      have hb : Blk w0.heap.size 208 #[.string ⟨#[]⟩, .bool false, .bool false, .bool true, .slice none 0 0] w1 := by rw [← ceC_mega hmt]; exact C.blk
      have x2 : w1.cell? ⟨w0.heap.size, 2, none⟩ = some (.bool false) := by rw [blk_cell hb]; rfl
      have x3 : w1.cell? ⟨w0.heap.size, 3, none⟩ = some (.bool true) := by rw [blk_cell hb]; rfl
      have B1 := hid (below_on HA.out b1)
      have hl1 := blk_lt hb
      have HM := hid hmt
      clear hb C h0 hw1 b1 hmt
      go_wp2_with fail
      refine wp_region_held_drew (S := fun aZ => aZ.cell? ⟨w0.heap.size, 3, none⟩ = some (.bool true)) (by kernel_rfl) ?_ (fun hHeld => ?_)
      · go_simp
      refine tkk 0 ?_
      refine tkk 1 ?_
      refine tkk 2 ?_
      refine tkk 3 ?_
      refine tkk 4 ?_
      refine tks 5 ?_
      refine tks 6 ?_
      refine tks 7 ?_
      refine tks 8 ?_
      refine tks 9 ?_
      refine tks 10 ?_
      refine tkk 11 ?_
      refine wpAnyH_done (by kernel_rfl) ?_ _
      go_wp2_with fail
      go_ret
      refine ⟨fs, col, ?_, Grew.below B1.out.drew HP.out.top, .inl ⟨?_, rfl⟩⟩
      · rw [if_pos HM.out]
        exact (HP.out.on B1.out.drew).more (Nat.le_succ _)
      · unfold playsS; rw [HM.out]; rfl
    | false =>
      have h0' := h0 hg
      subst h0'
      have e1 : ceC st0 (.slice none 0 0) = #[.string ⟨#[]⟩, .bool false, .bool false, .bool false, .slice none 0 0] := rfl
      rw [e1] at hw1
      have hk := lt_of_get ht
      obtain ⟨W2, hW2⟩ : ∃ W2, W2 = w0.alloc (Obj.cells #[.string nm, .bool ua, .bool true, .bool false, .slice none 0 0] 208) := ⟨_, rfl⟩
      have hc2 : CeS s f k w0.heap.size (fixS st0 a nm) (ext col w0.heap.size W2.heap.size (cS f k)) W2 := by
        have hl2 : w0.heap.size < W2.heap.size := by rw [hW2]; simp
        refine ⟨.slice none 0 0, [], ⟨?_, World.ownsRow_nil _ _ _ _, rfl, fun p hp => by cases hp⟩, ?_, fun b hb => (by simp [Value.ownBlock] at hb), fun p hp => by cases hp⟩
        · have e2 : ceC (fixS st0 a nm) (.slice none 0 0) = #[.string nm, .bool ua, .bool true, .bool false, .slice none 0 0] := by
            rw [fix0, ceC_not rfl]
            dsimp only
            rw [HU.out, show decide (a ≠ 0) = true from decide_eq_true (by omega)]
          rw [e2, hW2]
          exact blk_new _ _ _
        · unfold ext
          rw [if_neg (by omega), if_pos hl2]
      have B2 : Below w0.heap.size w0 W2 := by rw [hW2]; exact (Below.refl _ _).alloc (Nat.le_refl _) _
      have G2 := grew_new (col := col) B2 (cS f k)
      have HQ := hid (sput_at W2 ((HP.out.on HA.out).same (Nat.le_refl _) G2 (fun _ h => h.elim)) hK hf hr hk hg hc2 (.inl (by rw [fix0]; dsimp only; omega)))
      have hy0 := hcell_on d0 hl B2
      have hy1 := hcell_on d1 hl B2
      have hz : w.heap.size < W2.heap.size := Nat.lt_of_lt_of_le hl B2.size
      have HG2 := hid G2
      have HB2 := hid B2
      clear B2 G2 hc2 C h0 b1
      subst hw1
      go_wp2_with fail
      rw [← hW2]
      refine HQ.out.mono ?_
      rintro e3 w3 ⟨rfl, F', col', p3, hg3, hx3, G3⟩
      have hfl := lt_of_get hf
      have hrl := lt_of_get hr
      have hT : putT T (f : Int) (k : Int) (fixS st0 a nm) = { T with all := T.all.set f (r.set k (fixS st0 a nm)) } := putT_at hr _
      have hC3 := (p3.fn f F' (r.set k (fixS st0 a nm)) (by rw [List.getElem?_set_self hfl]) (by rw [hT]; exact List.getElem?_set_self hrl)).new hg3 k (fixS st0 a nm) w0.heap.size (by rw [List.getElem?_set_self hk]) hx3
      obtain ⟨⟨v3, l3, C3, _⟩, _⟩ := hC3
      have hb : Blk w0.heap.size 208 #[.string nm, .bool ua, .bool true, .bool false, v3] w3 := by
        have := C3.blk
        rw [fix0, ceC_not rfl] at this
        dsimp only at this
        rw [HU.out, show decide (a ≠ 0) = true from decide_eq_true (by omega)] at this
        exact this
      have x0 : w3.cell? ⟨w0.heap.size, 0, none⟩ = some (.string nm) := by rw [blk_cell hb]; rfl
      have x1 : w3.cell? ⟨w0.heap.size, 1, none⟩ = some (.bool ua) := by rw [blk_cell hb]; rfl
      have x3 : w3.cell? ⟨w0.heap.size, 3, none⟩ = some (.bool false) := by rw [blk_cell hb]; rfl
      have hcol0 : ext col w0.heap.size W2.heap.size (cS f k) w.heap.size = 0 := by rw [ext_old hl]; exact HP.out.top _ (Nat.le_refl _)
      have k3 := G3.keep
      have y0 := hcell_keep hy0 hz k3 (fun e => by rcases e with e | e <;> (rw [hcol0] at e; unfold cM at *; omega))
      have y1 := hcell_keep hy1 hz k3 (fun e => by rcases e with e | e <;> (rw [hcol0] at e; unfold cM at *; omega))
      have hlx := blk_lt hb
      have hl3 := Nat.lt_of_lt_of_le hz k3.size
      have P3 := hid p3
      have HG3 := hid G3
      clear C3 hb hT p3 G3 k3 hcol0 hy0 hy1
      go_wp2_with fail
      refine wp_region_held_drew (S := fun aZ => aZ.cell? ⟨w0.heap.size, 0, none⟩ = some (.string nm) ∧ aZ.cell? ⟨w0.heap.size, 1, none⟩ = some (.bool ua) ∧ aZ.cell? ⟨w0.heap.size, 3, none⟩ = some (.bool false) ∧ aZ.cell? ⟨w.heap.size, 0, none⟩ = some (.string nm) ∧ aZ.cell? ⟨w.heap.size, 1, none⟩ = some (.bool ua)) (by kernel_rfl) ?_ (fun hHeld => ?_)
      · (refine ⟨?_, ?_, ?_, ?_, ?_⟩ <;> go_simp)
      refine tkk 0 ?_
      refine tkk 1 ?_
      refine tkk 2 ?_
      refine tkk 3 ?_
      refine tkk 4 ?_
      refine tkk 5 ?_
      refine tkk 6 ?_
      refine tkk 7 ?_
      refine tkk 8 ?_
      refine tkk 9 ?_
      refine tk 10 (v := .bool false) ?_ ?_
      · (intro w hSw; go_simp <;> (first | rfl | simp))
      refine tkk 11 ?_
      refine wpAnyH_done (by kernel_rfl) ?_ _
      go_wp2_with fail
      go_ret
      refine ⟨fs.set f F', col', by rw [if_neg (by decide)]; exact P3.out.on (Below.refl _ _).drew, ?_, .inr ⟨?_, w0.heap.size, F', List.getElem?_set_self hfl, hg3, hx3, rfl⟩⟩
      · have G1 : Grew (fun u => u = 1 ∨ inF f u) col col w w0 := Grew.below HA.out HP.out.top
        have G3' : Grew (fun u => u = 1 ∨ inF f u) (ext col w0.heap.size W2.heap.size (cS f k)) col' W2 w3 := HG3.out.mono (fun u h => by
          rcases h with h | h
          · exact Or.inl h
          · exact Or.inr (by rw [h]; unfold inF cM; omega))
        exact ((G1.trans (HG2.out.mono (fun _ h => h.elim))).trans G3').trans (Grew.below (Below.refl _ _).drew P3.out.top)
      · unfold playsS
        rw [fix0]
        simp [st0]
end
end Go.Proofs.YtimhgbcanmgajaaGreat
