/- A shape more: in the list, in its parent's map. -/
import Derived.Test.YtemidicgipebjaaGreatShMem
import Derived.Test.YtemidicgipebjaaGreatRowApp
import Derived.Deep.RegionHeld3
namespace Go.Proofs.YtemidicgipebjaaGreat
set_option linter.unusedSimpArgs false
open Go.RowKit

theorem elOne : Elem 171 143 1 8 := elem_of (z0 := .pointer none) (by kernel_rfl) (by kernel_rfl) rfl
set_option maxHeartbeats 1000000 in
theorem put_full {t m M n sg : Nat} {v : Value} {xs : List Value} (w : World) (hb : Blk t 173 #[.int .i64 (M : Int), .map (some m), v] w) (hr : w.ownsRow 0 143 1 v n xs) (hn : M ≤ n) :
    Calls Tryz.prog 130 #[.pointer (some ⟨t, 0, none⟩), .pointer (some ⟨sg, 0, none⟩)] w fun e w' => e = .returned (.int .i64 0) ∧ Below w.heap.size w w' := by
  obtain ⟨ao, cap, rfl⟩ := row_shape hr
  have c0 : w.cell? ⟨t, 0, none⟩ = some (.int .i64 (M : Int)) := by rw [blk_cell hb]; rfl
  have c2 : w.cell? ⟨t, 2, none⟩ = some (.slice ao n cap) := by rw [blk_cell hb]; rfl
  have d1 : decide ((M : Int) ≤ (n : Int)) = true := decide_eq_true (by omega)
  clear hb hr
  go_enter Tryz.func130, Tryz.ntmps130
  go_wp2_with fail
  refine wp_region_held_drew (S := fun a => a.cell? ⟨t, 0, none⟩ = some (.int .i64 (M : Int)) ∧ a.cell? ⟨t, 2, none⟩ = some (.slice ao n cap)) (by kernel_rfl) ⟨c0, c2⟩ (fun hHeld => ?_)
  refine wpAnyH_take (i := 0) (v := ?v1) rfl (by kernel_rfl) (by kernel_rfl) (by kernel_rfl) (fun _ _ _ h => h) (Or.inl ⟨by rfl, ?hy1⟩) (by assumption) ?_
  case hy1 => (intro w hSw; go_simp <;> (try with_reducible rfl))
  simp only [Act.put, List.setIfInBounds_toArray, List.set_cons_zero, List.set_cons_succ, List.getElem_toArray, List.getElem_cons_succ, List.getElem_cons_zero]
  refine wpAnyH_take (i := 1) (v := ?v2) rfl (by kernel_rfl) (by kernel_rfl) (by kernel_rfl) (fun _ _ _ h => h) (Or.inl ⟨by rfl, ?hy2⟩) (by assumption) ?_
  case hy2 => (intro w hSw; go_simp <;> (try with_reducible rfl))
  simp only [Act.put, List.setIfInBounds_toArray, List.set_cons_zero, List.set_cons_succ, List.getElem_toArray, List.getElem_cons_succ, List.getElem_cons_zero]
  refine wpAnyH_take (i := 2) (v := ?v3) rfl (by kernel_rfl) (by kernel_rfl) (by kernel_rfl) (fun _ _ _ h => h) (Or.inl ⟨by rfl, ?hy3⟩) (by assumption) ?_
  case hy3 => (intro w hSw; go_simp <;> (try with_reducible rfl))
  simp only [Act.put, List.setIfInBounds_toArray, List.set_cons_zero, List.set_cons_succ, List.getElem_toArray, List.getElem_cons_succ, List.getElem_cons_zero]
  refine wpAnyH_take (i := 3) (v := ?v4) rfl (by kernel_rfl) (by kernel_rfl) (by kernel_rfl) (fun _ _ _ h => h) (Or.inl ⟨by rfl, ?hy4⟩) (by assumption) ?_
  case hy4 => (intro w hSw; go_simp <;> (try with_reducible rfl))
  simp only [Act.put, List.setIfInBounds_toArray, List.set_cons_zero, List.set_cons_succ, List.getElem_toArray, List.getElem_cons_succ, List.getElem_cons_zero]
  refine wpAnyH_take (i := 4) (v := ?v5) rfl (by kernel_rfl) (by kernel_rfl) (by kernel_rfl) (fun _ _ _ h => h) (Or.inl ⟨by rfl, ?hy5⟩) (by assumption) ?_
  case hy5 => (intro w hSw; go_simp <;> (try with_reducible rfl))
  simp only [Act.put, List.setIfInBounds_toArray, List.set_cons_zero, List.set_cons_succ, List.getElem_toArray, List.getElem_cons_succ, List.getElem_cons_zero]
  refine wpAnyH_take (i := 5) (v := ?v6) rfl (by kernel_rfl) (by kernel_rfl) (by kernel_rfl) (fun _ _ _ h => h) (Or.inl ⟨by rfl, ?hy6⟩) (by assumption) ?_
  case hy6 => (intro w hSw; go_simp <;> (try with_reducible rfl))
  simp only [Act.put, List.setIfInBounds_toArray, List.set_cons_zero, List.set_cons_succ, List.getElem_toArray, List.getElem_cons_succ, List.getElem_cons_zero]
  refine wpAnyH_take (i := 6) (v := ?v7) rfl (by kernel_rfl) (by kernel_rfl) (by kernel_rfl) (fun _ _ _ h => h) (Or.inl ⟨by rfl, ?hy7⟩) (by assumption) ?_
  case hy7 => (intro w hSw; go_simp <;> (try with_reducible rfl))
  simp only [Act.put, List.setIfInBounds_toArray, List.set_cons_zero, List.set_cons_succ, List.getElem_toArray, List.getElem_cons_succ, List.getElem_cons_zero]
  refine wpAnyH_take (i := 7) (v := ?v8) rfl (by kernel_rfl) (by kernel_rfl) (by kernel_rfl) (fun _ _ _ h => h) (Or.inl ⟨by rfl, ?hy8⟩) (by assumption) ?_
  case hy8 => (intro w hSw; go_simp <;> (try with_reducible rfl))
  simp only [Act.put, List.setIfInBounds_toArray, List.set_cons_zero, List.set_cons_succ, List.getElem_toArray, List.getElem_cons_succ, List.getElem_cons_zero]
  refine wpAnyH_take (i := 8) (v := ?v9) rfl (by kernel_rfl) (by kernel_rfl) (by kernel_rfl) (fun _ _ _ h => h) (Or.inl ⟨by rfl, ?hy9⟩) (by assumption) ?_
  case hy9 => (intro w hSw; go_simp <;> (try with_reducible rfl))
  simp only [Act.put, List.setIfInBounds_toArray, List.set_cons_zero, List.set_cons_succ, List.getElem_toArray, List.getElem_cons_succ, List.getElem_cons_zero]
  refine wpAnyH_take (i := 9) (v := ?v10) rfl (by kernel_rfl) (by kernel_rfl) (by kernel_rfl) (fun _ _ _ h => h) (Or.inl ⟨by rfl, ?hy10⟩) (by assumption) ?_
  case hy10 => (intro w hSw; go_simp <;> (try with_reducible rfl))
  simp only [Act.put, List.setIfInBounds_toArray, List.set_cons_zero, List.set_cons_succ, List.getElem_toArray, List.getElem_cons_succ, List.getElem_cons_zero]
  refine wpAnyH_done (by kernel_rfl) ?_ _
  go_wp2_with fail
  go_ret
  exact ⟨rfl, (Below.refl _ _).drew⟩
set_option maxHeartbeats 1000000 in
theorem put_new {t m M n sg : Nat} {v : Value} {xs : List Value} (w : World) (hb : Blk t 173 #[.int .i64 (M : Int), .map (some m), v] w) (hr : w.ownsRow 0 143 1 v n xs) (hn : n < M) (hM : M ≤ 150) :
    Calls Tryz.prog 130 #[.pointer (some ⟨t, 0, none⟩), .pointer (some ⟨sg, 0, none⟩)] w fun e w' => e = .returned (.int .i64 ((n : Int) + 1)) ∧ ∃ v', Blk t 173 #[.int .i64 (M : Int), .map (some m), v'] w' ∧ w'.ownsRow 0 143 1 v' (n + 1) (xs ++ [.pointer (some ⟨sg, 0, none⟩)]) ∧
      Keep (fun b => b = t ∨ v.ownBlock = some b) w w' ∧ ∀ g, v'.ownBlock = some g → v.ownBlock = some g ∨ w.heap.size ≤ g := by
  have hrt : ∀ b, v.ownBlock = some b → b ≠ t := fun b hv e => by
    obtain ⟨cur, hc⟩ := row_lt hr hv
    exact absurd (blk_type (e ▸ hc) hb) (by decide)
  obtain ⟨ao, cap, rfl⟩ := row_shape hr
  have c0 : w.cell? ⟨t, 0, none⟩ = some (.int .i64 (M : Int)) := by rw [blk_cell hb]; rfl
  have c2 : w.cell? ⟨t, 2, none⟩ = some (.slice ao n cap) := by rw [blk_cell hb]; rfl
  have htl := blk_lt hb
  have d1 : decide ((M : Int) ≤ (n : Int)) = false := decide_eq_false (by omega)
  have HB := hid hb
  have HR := hid hr
  have HT := hid hrt
  clear hb hr hrt
  go_enter Tryz.func130, Tryz.ntmps130
  go_wp2_with fail
  refine wp_region_held_drew (S := fun a => a.cell? ⟨t, 0, none⟩ = some (.int .i64 (M : Int)) ∧ a.cell? ⟨t, 2, none⟩ = some (.slice ao n cap)) (by kernel_rfl) ⟨c0, c2⟩ (fun hHeld => ?_)
  refine wpAnyH_take (i := 0) (v := ?v11) rfl (by kernel_rfl) (by kernel_rfl) (by kernel_rfl) (fun _ _ _ h => h) (Or.inl ⟨by rfl, ?hy11⟩) (by assumption) ?_
  case hy11 => (intro w hSw; go_simp <;> (try with_reducible rfl))
  simp only [Act.put, List.setIfInBounds_toArray, List.set_cons_zero, List.set_cons_succ, List.getElem_toArray, List.getElem_cons_succ, List.getElem_cons_zero]
  refine wpAnyH_take (i := 1) (v := ?v12) rfl (by kernel_rfl) (by kernel_rfl) (by kernel_rfl) (fun _ _ _ h => h) (Or.inl ⟨by rfl, ?hy12⟩) (by assumption) ?_
  case hy12 => (intro w hSw; go_simp <;> (try with_reducible rfl))
  simp only [Act.put, List.setIfInBounds_toArray, List.set_cons_zero, List.set_cons_succ, List.getElem_toArray, List.getElem_cons_succ, List.getElem_cons_zero]
  refine wpAnyH_take (i := 2) (v := ?v13) rfl (by kernel_rfl) (by kernel_rfl) (by kernel_rfl) (fun _ _ _ h => h) (Or.inl ⟨by rfl, ?hy13⟩) (by assumption) ?_
  case hy13 => (intro w hSw; go_simp <;> (try with_reducible rfl))
  simp only [Act.put, List.setIfInBounds_toArray, List.set_cons_zero, List.set_cons_succ, List.getElem_toArray, List.getElem_cons_succ, List.getElem_cons_zero]
  refine wpAnyH_take (i := 3) (v := ?v14) rfl (by kernel_rfl) (by kernel_rfl) (by kernel_rfl) (fun _ _ _ h => h) (Or.inl ⟨by rfl, ?hy14⟩) (by assumption) ?_
  case hy14 => (intro w hSw; go_simp <;> (try with_reducible rfl))
  simp only [Act.put, List.setIfInBounds_toArray, List.set_cons_zero, List.set_cons_succ, List.getElem_toArray, List.getElem_cons_succ, List.getElem_cons_zero]
  refine wpAnyH_take (i := 4) (v := ?v15) rfl (by kernel_rfl) (by kernel_rfl) (by kernel_rfl) (fun _ _ _ h => h) (Or.inl ⟨by rfl, ?hy15⟩) (by assumption) ?_
  case hy15 => (intro w hSw; go_simp <;> (try with_reducible rfl))
  simp only [Act.put, List.setIfInBounds_toArray, List.set_cons_zero, List.set_cons_succ, List.getElem_toArray, List.getElem_cons_succ, List.getElem_cons_zero]
  refine wpAnyH_take (i := 5) (v := ?v16) rfl (by kernel_rfl) (by kernel_rfl) (by kernel_rfl) (fun _ _ _ h => h) (Or.inl ⟨by rfl, ?hy16⟩) (by assumption) ?_
  case hy16 => (intro w hSw; go_simp <;> (try with_reducible rfl))
  simp only [Act.put, List.setIfInBounds_toArray, List.set_cons_zero, List.set_cons_succ, List.getElem_toArray, List.getElem_cons_succ, List.getElem_cons_zero]
  refine wpAnyH_take (i := 6) (v := ?v17) rfl (by kernel_rfl) (by kernel_rfl) (by kernel_rfl) (fun _ _ _ h => h) (Or.inl ⟨by rfl, ?hy17⟩) (by assumption) ?_
  case hy17 => (intro w hSw; go_simp <;> (try with_reducible rfl))
  simp only [Act.put, List.setIfInBounds_toArray, List.set_cons_zero, List.set_cons_succ, List.getElem_toArray, List.getElem_cons_succ, List.getElem_cons_zero]
  refine wpAnyH_take (i := 7) (v := ?v18) rfl (by kernel_rfl) (by kernel_rfl) (by kernel_rfl) (fun _ _ _ h => h) (Or.inl ⟨by rfl, ?hy18⟩) (by assumption) ?_
  case hy18 => (intro w hSw; go_simp <;> (try with_reducible rfl))
  simp only [Act.put, List.setIfInBounds_toArray, List.set_cons_zero, List.set_cons_succ, List.getElem_toArray, List.getElem_cons_succ, List.getElem_cons_zero]
  refine wpAnyH_take (i := 8) (v := ?v19) rfl (by kernel_rfl) (by kernel_rfl) (by kernel_rfl) (fun _ _ _ h => h) (Or.inl ⟨by rfl, ?hy19⟩) (by assumption) ?_
  case hy19 => (intro w hSw; go_simp <;> (try with_reducible rfl))
  simp only [Act.put, List.setIfInBounds_toArray, List.set_cons_zero, List.set_cons_succ, List.getElem_toArray, List.getElem_cons_succ, List.getElem_cons_zero]
  refine wpAnyH_take (i := 9) (v := ?v20) rfl (by kernel_rfl) (by kernel_rfl) (by kernel_rfl) (fun _ _ _ h => h) (Or.inl ⟨by rfl, ?hy20⟩) (by assumption) ?_
  case hy20 => (intro w hSw; go_simp <;> (try with_reducible rfl))
  simp only [Act.put, List.setIfInBounds_toArray, List.set_cons_zero, List.set_cons_succ, List.getElem_toArray, List.getElem_cons_succ, List.getElem_cons_zero]
  refine wpAnyH_done (by kernel_rfl) ?_ _
  have HB1 := hid (blk_on HB.out (Below.refl _ w).drew)
  have HR1 := hid (row_keep (c := w.drew) HR.out (fun _ _ => rfl))
  have HK1 := hid (Keep.drew (fun b => b = t ∨ (Value.slice ao n cap).ownBlock = some b) w)
  have c21 : w.drew.cell? ⟨t, 2, none⟩ = some (.slice ao n cap) := c2
  have HS1 := hid (show w.drew.heap.size = w.heap.size from rfl)
  have ht1 : t < w.drew.heap.size := htl
  generalize w.drew = w1 at *
  have HAPP := hid (show ∀ g cp w4, w4.ownsRow 0 143 1 (.slice (some ⟨g, 0, none⟩) (n + 1) cp) (n + 1) (xs ++ [.pointer (some ⟨sg, 0, none⟩)]) → w1.grownBy w4 (Value.slice ao n cap).ownBlock → ((Value.slice ao n cap).ownBlock = some g ∨ w1.heap.size ≤ g) →
      Blk t 173 #[.int .i64 (M : Int), .map (some m), .slice ao n cap] w4 ∧ Blk t 173 #[.int .i64 (M : Int), .map (some m), .slice (some ⟨g, 0, none⟩) (n + 1) cp] (w4.setCell ⟨t, 2, none⟩ (.slice (some ⟨g, 0, none⟩) (n + 1) cp)) ∧
      (w4.setCell ⟨t, 2, none⟩ (.slice (some ⟨g, 0, none⟩) (n + 1) cp)).ownsRow 0 143 1 (.slice (some ⟨g, 0, none⟩) (n + 1) cp) (n + 1) (xs ++ [.pointer (some ⟨sg, 0, none⟩)]) ∧ Keep (fun b => b = t ∨ (Value.slice ao n cap).ownBlock = some b) w (w4.setCell ⟨t, 2, none⟩ (.slice (some ⟨g, 0, none⟩) (n + 1) cp)) from by
    intro g cp w4 h1 h2 h3
    have hb4 : Blk t 173 #[.int .i64 (M : Int), .map (some m), .slice ao n cap] w4 := (h2.block t ht1 (fun e => HT.out t e.symm rfl)).trans HB1.out
    refine ⟨hb4, blk_set hb4 2 _, ?_, (HK1.out.trans (Keep.grown h2 (fun k hk => .inr hk)) (fun _ _ e => e)).trans (Keep.set (S := fun b => b = t ∨ (Value.slice ao n cap).ownBlock = some b) (.inl rfl) w4 2 _) (fun _ _ e => e)⟩
    refine row_keep h1 (fun k hk => ?_)
    simp [Value.ownBlock] at hk
    subst hk
    obtain ⟨cur, hc⟩ := row_lt h1 (g := g) rfl
    refine (Keep.set (S := fun b => b = t) rfl w4 2 _).block g (blk_lt hc) (fun e => ?_)
    rcases h3 with h | h
    · exact HT.out g h e
    · omega)
  clear c0 c2 hHeld
  go_wp2_with (first | (at_builtin; refine row_app elOne (by decide) (by decide) rfl _ _ rfl n xs [.pointer (some ⟨sg, 0, none⟩)] rfl (by intro u hu; simp at hu; subst hu; rfl) (.slice ao n cap) (by rfl) HR1.out w1.heap.size (by rfl) rfl (by omega) ?_; intro g cp w4 hown hgrow hat; have R := hid (HAPP.out _ _ _ hown hgrow hat); have HAT := hid hat; have q1 : w4.cell? ⟨t, 2, none⟩ = some (.slice ao n cap) := (by rw [blk_cell R.out.1]; rfl); have q2 : w4.frozen? ⟨t, 2, none⟩ = false := blk_free R.out.1 2; clear hown hgrow hat) | fail)
  go_ret
  refine ⟨by simp, _, R.out.2.1, R.out.2.2.1, R.out.2.2.2, ?_⟩
  intro g' hg'
  simp [Value.ownBlock] at hg'
  subst hg'
  rcases HAT.out with h | h
  · exact .inl h
  · exact .inr (by have := HS1.out; omega)
set_option maxHeartbeats 1000000 in
/-- a number more in a shape's map, which is made if there is none -/
theorem lead_calls {g c : Nat} {a1 a2 a3 : Value} {nm : Option Nat} {f : Int → Option Int} {x y : Int} (w : World) (hb : Blk g 142 #[a1, a2, a3, .map nm] w) (hm : ∀ k, nm = some k → MapI k f c w) (hn : nm = none → (∀ z, f z = none) ∧ c = 0) (hc : c ≤ 1000) (hx : I64 x) (hy : I64 y) (hf : f x = none) :
    Calls Tryz.prog 136 #[.pointer (some ⟨g, 0, none⟩), .int .i64 x, .int .i64 y] w fun e w' => (∃ u, e = .returned u) ∧ ∃ k, Blk g 142 #[a1, a2, a3, .map (some k)] w' ∧ MapI k (putFI f x y) (c + 1) w' ∧ Keep (fun b => b = g ∨ nm = some b) w w' ∧ (nm = some k ∨ (nm = none ∧ w.heap.size ≤ k)) := by
  have hmk : ∀ w, (Instr.makeMap 140 none).run Tryz.prog w = .ok (.map (some w.heap.size)) (w.alloc (.map #[] 0)) := fun w => by simp [Instr.makeMap]
  have hql : ∀ (r : Option Nat) w, (binOp .eql 140 (.map r) (.map none)).run Tryz.prog w = .ok (.bool r.isNone) w := fun r w => run_eql_map_nil w _ _ _ r underMi
  have q0 : w.cell? ⟨g, 3, none⟩ = some (.map nm) := by rw [blk_cell hb]; rfl
  have q1 : w.frozen? ⟨g, 3, none⟩ = false := blk_free hb 3
  have hgl := blk_lt hb
  cases nm with
  | some k =>
    have HM := hid (hm k rfl)
    have HB := hid hb
    have hne : g ≠ k := fun e => blk_map (e ▸ hb) (hm k rfl)
    clear hm hn hb
    go_enter Tryz.func136, Tryz.ntmps136
    go_wp2_with (first | (at_mapUpdate; refine gi_put underMi rfl _ _ _ rfl k _ _ x y rfl HM.out (by unfold maxLen; omega) rfl hx rfl hy.wf ?_; intro w1 hM1 g1; have HM1 := hid hM1; have HG1 := hid g1; clear hM1 g1) | fail)
    go_end0
    have k1 : Keep (fun b => b = g ∨ some k = some b) w w1 := Keep.grown HG1.out (fun j hj => .inr hj)
    have hM1 := HM1.out
    rw [hf] at hM1
    exact ⟨⟨_, rfl⟩, k, (HG1.out.block g hgl (fun e => hne (Option.some.inj e))).trans HB.out, hM1, by simpa using k1, by simp⟩
  | none =>
    obtain ⟨hn1, rfl⟩ := hn rfl
    have HB := hid hb
    have b1 := blk_set hb 3 (.map (some w.heap.size))
    have b2 := blk_on b1 ((Below.refl _ (w.setCell ⟨g, 3, none⟩ (.map (some w.heap.size)))).alloc (Nat.le_refl _) (.map #[] 0))
    have hs0 : (w.setCell ⟨g, 3, none⟩ (.map (some w.heap.size))).heap.size = w.heap.size := by simp [World.setCell]
    have hm0 := mapI_ext (mapI_new (w.setCell ⟨g, 3, none⟩ (.map (some w.heap.size)))) (fun z => (hn1 z).symm)
    rw [hs0] at hm0
    have HM := hid hm0
    have HK := hid ((Keep.set (S := fun b => b = g ∨ none = some b) (.inl rfl) w 3 (.map (some w.heap.size))).trans (Keep.alloc (fun b => b = g ∨ none = some b) _ (.map #[] 0)) (fun _ _ e => e))
    have HB2 := hid b2
    have hgl2 := hid (blk_lt b2)
    have q2 : ((w.setCell ⟨g, 3, none⟩ (.map (some w.heap.size))).alloc (.map #[] 0)).cell? ⟨g, 3, none⟩ = some (.map (some w.heap.size)) := by rw [blk_cell b2]; rfl
    clear hs0 hm0
    clear hm hn hb b1 b2
    go_enter Tryz.func136, Tryz.ntmps136
    go_wp2_with (first | (at_mapUpdate; refine gi_put underMi rfl _ _ _ rfl w.heap.size _ _ x y rfl HM.out (by unfold maxLen; omega) rfl hx rfl hy.wf ?_; intro w1 hM1 g1; have HM1 := hid hM1; have HG1 := hid g1; clear hM1 g1) | fail)
    go_end0
    have k1 : Keep (fun b => b = g ∨ none = some b) w w1 := HK.out.trans (T := fun b => b = w.heap.size) (Keep.grown HG1.out (fun j hj => (Option.some.inj hj).symm)) (fun i hi e => by omega)
    have hM1 := HM1.out
    rw [hf] at hM1
    refine ⟨⟨_, rfl⟩, w.heap.size, (HG1.out.block g hgl2.out (fun e => ?_)).trans HB2.out, hM1, by simpa using k1, by simp⟩
    have := Option.some.inj e
    omega

end Go.Proofs.YtemidicgipebjaaGreat
