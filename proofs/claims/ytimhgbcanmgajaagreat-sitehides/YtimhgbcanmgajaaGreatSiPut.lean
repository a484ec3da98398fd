/- A site more of a function. -/
import Derived.Test.YtimhgbcanmgajaaGreatJoint16
import Derived.Carry
namespace Go.Proofs.YtimhgbcanmgajaaGreat
set_option linter.unusedSimpArgs false
set_option linter.unusedVariables false
set_option maxRecDepth 100000
open Go.RowKit

section
variable {K s : Nat} {T : Tb} {tb n g cap : Nat} {fs : List Fm} {col : Nat → Nat}
theorem nilC (w : World) (r : Option Nat) : (binOp .eql 95 (.map r) (.map none)).run Tryz.prog w = .ok (.bool r.isNone) w := run_eql_map_nil w _ _ _ r undC
theorem putT_at {f k : Nat} {r : List St} (hr : T.all[f]? = some r) (t : St) : putT T (f : Int) (k : Int) t = { T with all := T.all.set f (r.set k t) } := by
  unfold putT
  rw [Int.toNat_natCast, Int.toNat_natCast, modify_set _ hr]
theorem putT_self {f k : Nat} {r : List St} {t : St} (hr : T.all[f]? = some r) (ht : r[k]? = some t) : putT T (f : Int) (k : Int) t = T := by
  rw [putT_at hr]
  have h1 : r.set k t = r := by
    apply List.ext_getElem?
    intro j
    rw [List.getElem?_set]
    by_cases e : k = j
    · subst e; rw [if_pos rfl, if_pos (lt_of_get ht), ht]
    · rw [if_neg e]
  have h2 : T.all.set f r = T.all := by
    apply List.ext_getElem?
    intro j
    rw [List.getElem?_set]
    by_cases e : f = j
    · subst e; rw [if_pos rfl, if_pos (lt_of_get hr), hr]
    · rw [if_neg e]
  rw [h1, h2]
/-- in memory: a site that is new -/
theorem fn_put {P : Nat → Prop} {f k m c x : Nat} {F : Fm} {r : List St} {t : St} {col' : Nat → Nat} {w w' : World} (h : FnAt K s f F r col w) (hg : F.mega = false) (hk : k < r.length) (G : Grew P col col' w w') (hP : ∀ u, P u → u ≠ 2 ∧ ∀ j, j < 4999 → u ≠ cS f j)
    (hm : MapP m (putFP F.cel (k : Int) x) c w') (hc : c ≤ K + 1) (cm : col' m = cM f) (hx : CeS s f k x t col' w') (ht : t.as' ≠ 0 ∨ t.mega = true) : FnAt (K + 1) s f { F with m := some m, cel := putFP F.cel (k : Int) x } (r.set k t) col' w' := by
  have hb := h.big
  have hn := h.cnt
  refine ⟨by rw [List.length_set]; exact h.cnt, h.big, fun m' e => ?_, fun e => (by cases e), fun j y e => ?_, fun e => ?_, fun e => (by rw [show ({ F with m := some m, cel := putFP F.cel (k : Int) x } : Fm).mega = F.mega from rfl, hg] at e; cases e), fun _ j u hj e => ?_, fun _ j u y hj e => ?_⟩
  · injection e with e
    subst e
    exact ⟨⟨c, hm, hc⟩, cm⟩
  · have e' : putFP F.cel (k : Int) x j = some y := e
    unfold putFP at e'
    split at e'
    · show _ ∧ j < F.count
      omega
    · exact h.dom j y e'
  · rw [show ({ F with m := some m, cel := putFP F.cel (k : Int) x } : Fm).mega = F.mega from rfl, hg] at e
    cases e
  · have e' : putFP F.cel (k : Int) x (j : Int) = none := e
    unfold putFP at e'
    split at e'
    · cases e'
    · rename_i hne
      rw [List.getElem?_set_ne (by omega)] at hj
      exact h.old hg j u hj e'
  · have e' : putFP F.cel (k : Int) x (j : Int) = some y := e
    unfold putFP at e'
    split at e'
    · rename_i he
      have : k = j := by omega
      subst this
      rw [List.getElem?_set_self hk] at hj
      injection hj with hj
      injection e' with e'
      subst hj e'
      exact ⟨hx, ht⟩
    · rename_i hne
      rw [List.getElem?_set_ne (by omega)] at hj
      have h1 := h.new hg j u y hj e'
      have hjl := lt_of_get hj
      exact ⟨h1.1.grew G (fun v hv => ⟨(hP v hv).2 j (by omega), (hP v hv).1⟩), h1.2⟩
set_option maxHeartbeats 1000000 in
theorem sput_at (w : World) (p : TbAt K s T tb n g cap fs col w) (hK : K ≤ 900000) {f k x : Nat} {F : Fm} {r : List St} {t : St} (hf : fs[f]? = some F) (hr : T.all[f]? = some r) (hk : k < r.length) (hg : F.mega = false) (hx : CeS s f k x t col w) (ht : t.as' ≠ 0 ∨ t.mega = true) :
    Calls Tryz.prog 140 #[.pointer (some ⟨g, f * 3, none⟩), .int .i64 (k : Int), .pointer (some ⟨x, 0, none⟩)] w fun e w' => e = .returned (.tuple #[]) ∧
      ∃ F' col', TbAt (K + 1) s (putT T (f : Int) (k : Int) t) tb n g cap (fs.set f F') col' w' ∧ F'.mega = false ∧ F'.cel (k : Int) = some x ∧ Grew (fun u => u = 1 ∨ u = cM f) col col' w w' := by
  obtain ⟨z0, z1, z2⟩ := p.fcell hf
  obtain ⟨l0, l1, l2⟩ := p.lt
  have qT := nilC
  have hmk := @run_makeMap Tryz.prog
  have hF := p.fn f F r hf hr
  have hI : I64 (k : Int) := by
    have := hF.cnt
    have := hF.big
    unfold I64
    omega
  have hfl := lt_of_get hf
  rw [putT_at hr]
  have HP := hid p
  have HF := hid hF
  have HX := hid hx
  have nm : ∀ f' u, f' ≠ f → u = cM f → ¬ inF f' u := fun f' u h1 h2 => by unfold inF cM at *; omega
  have n1 : ∀ f', ¬ inF f' 1 := fun f' => by unfold inF; omega
  have ns : ∀ j, j < 4999 → cM f ≠ cS f j := fun j hj => by unfold cM cS; omega
  have ns1 : ∀ j, 1 ≠ cS f j := fun j => by unfold cS; omega
  have nx1 : ∀ j, cS f j ≠ 2 := fun j => by unfold cS; omega
  have nm2 : cM f ≠ 2 := by unfold cM; omega
  cases hmm : F.m with
  | some m =>
    obtain ⟨⟨c, hM, hcK⟩, hcm⟩ := hF.map m hmm
    rw [hmm] at z2
    have hE := hid hmm
    have hlm := mapP_lt hM
    clear p hF hx hmm
    go_enter Tryz.func140, Tryz.ntmps140
    go_wp2_with (first | (at_mapUpdate; refine gp_put undC rfl _ _ _ rfl m c F.cel (k : Int) x rfl hM (by unfold maxLen; omega) rfl hI rfl ?_; intro w' hM' hgr) | fail)
    go_end0
    have k1 : Keep (fun b => col b = cM f) w w' := Keep.grown hgr (fun j e => by injection e with e; subst e; exact hcm)
    have G := grew_ext k1
    have G' : Grew (fun u => u = 1 ∨ u = cM f) col _ w w' := G.mono (fun u e => .inr e)
    have P1 := HP.out
    refine ⟨rfl, { F with m := some m, cel := putFP F.cel (k : Int) x }, _, P1.chg (Nat.le_succ _) hf hr G (fun u e => ⟨by rw [e]; exact nm2, fun f' h => nm f' u h e⟩) (blk_keep P1.bt k1 (by rw [P1.one.1]; unfold cM; omega)) (blk_keep P1.bn k1 (by rw [P1.one.2.1]; unfold cM; omega)) ?_ ?_, hg, by simp [putFP], G'⟩
    · have e1 : (fs.set f { F with m := some m, cel := putFP F.cel (k : Int) x }).map fmC = fs.map fmC := by
        rw [List.map_set]
        apply List.ext_getElem?
        intro j
        rw [List.getElem?_set]
        by_cases e : f = j
        · subst e
          rw [if_pos rfl, if_pos (by simpa using hfl), List.getElem?_map, hf]
          show _ = some (fmC F)
          unfold fmC
          rw [hE.out]
        · rw [if_neg e]
      rw [e1]
      exact row_keep P1.row (fun b hb => by injection hb with hb; subst hb; exact k1.block _ l2 (by rw [P1.one.2.2]; unfold cM; omega))
    · refine fn_put HF.out hg hk G (fun u e => ⟨by rw [e]; exact nm2, fun j hj => by rw [e]; exact ns j hj⟩) hM' (by split <;> omega) (by rw [ext_old hlm]; exact hcm) (HX.out.grew G (fun u e => ?_)) ht
      have := HF.out.cnt
      have := HF.out.big
      rw [e]
      exact ⟨ns k (by omega), nm2⟩
  | none =>
    rw [hmm] at z2
    have hcel := hid (hF.nil hmm)
    have fz := row_free p.row (f * 3 + 2)
    have hE := hid hmm
    obtain ⟨W1, hW1⟩ : ∃ W1, W1 = (w.setCell ⟨g, f * 3 + 2, none⟩ (.map (some w.heap.size))).alloc (Obj.map #[] 0) := ⟨_, rfl⟩
    have hM0 : MapP w.heap.size (fun _ => none) 0 W1 := by
      have := mapP_new (w.setCell ⟨g, f * 3 + 2, none⟩ (.map (some w.heap.size)))
      rw [← hW1] at this
      simpa using this
    have hk0 : Keep (fun b => col b = 1) w W1 := by
      rw [hW1]
      exact (Keep.set (S := fun b => col b = 1) p.one.2.2 w _ _).trans (Keep.alloc _ _ _) (fun _ _ e => e)
    have hrow : W1.ownsRow 0 97 3 (.slice (some ⟨g, 0, none⟩) fs.length cap) fs.length ((fs.set f { F with m := some w.heap.size, cel := putFP F.cel (k : Int) x }).map fmC).flatten := by
      rw [hW1]
      exact row_keep (p.rowset (v := .map (some w.heap.size)) hf (j := 2) (by omega) rfl) (fun b hb => by
        injection hb with hb
        subst hb
        exact ((Below.refl _ _).alloc (Nat.le_refl _) _).block _ (by simpa using l2))
    have hs1 : W1.heap.size = w.heap.size + 1 := by rw [hW1]; simp
    have HK0 := hid hk0
    have HW := hid hW1
    have HR := hid hrow
    have HM0 := hid hM0
    clear p hF hx hmm hk0 hrow hM0
    go_enter Tryz.func140, Tryz.ntmps140
    go_wp2_with (first | (at_mapUpdate; go_loud (rw [← hW1]; refine gp_put undC rfl _ _ _ rfl w.heap.size 0 (fun _ => none) (k : Int) x rfl HM0.out (by decide) rfl hI rfl ?_; intro w' hM' hgr)) | fail)
    go_end0
    have k1 : Keep (fun b => col b = 1) w w' := HK0.out.trans (Keep.grown (S := fun b => w.heap.size ≤ b) hgr (fun j e => by injection e with e; omega)) (fun i hi e => by omega)
    have G := grew_up (P := fun u => u = 1) k1 (cM f)
    have G' : Grew (fun u => u = 1 ∨ u = cM f) col _ w w' := G.mono (fun u e => .inl e)
    have P1 := HP.out
    have hl : w.heap.size < w'.heap.size := by have := hgr.size; omega
    have far : ∀ b, b < w.heap.size → w'.heap[b]? = W1.heap[b]? := fun b hb => hgr.block b (by omega) (fun e => by injection e with e; omega)
    refine ⟨rfl, { F with m := some w.heap.size, cel := putFP F.cel (k : Int) x }, _, P1.chg (Nat.le_succ _) hf hr G (fun u e => ⟨by omega, fun f' h => by rw [e]; exact n1 f'⟩) ?_ ?_ ?_ ?_, hg, by simp [putFP], G'⟩
    · refine (far tb l0).trans ?_
      rw [HW.out]
      refine (((Below.refl _ _).alloc (Nat.le_refl _) _).block _ (by simpa using l0)).trans ?_
      rw [RowKit.Below.heap_setCell _ _ _ _ (fun e => by have h1 := P1.bt; have h2 := P1.bn; have h3 := row_lt P1.row (g := g) rfl; obtain ⟨cur, h3⟩ := h3; have e' : tb = g := e; subst e'; exact absurd (blk_type h1 h3) (by decide))]
      exact P1.bt
    · refine (far n l1).trans ?_
      rw [HW.out]
      refine (((Below.refl _ _).alloc (Nat.le_refl _) _).block _ (by simpa using l1)).trans ?_
      rw [RowKit.Below.heap_setCell _ _ _ _ (fun e => by have h2 := P1.bn; have h3 := row_lt P1.row (g := g) rfl; obtain ⟨cur, h3⟩ := h3; have e' : n = g := e; subst e'; exact absurd (blk_type h2 h3) (by decide))]
      exact P1.bn
    · exact row_keep HR.out (fun b hb => by injection hb with hb; subst hb; exact far _ l2)
    · refine fn_put HF.out hg hk G (fun u e => ⟨by omega, fun j hj => by rw [e]; exact ns1 j⟩) (c := 1) (mapP_ext hM' (fun y _ => by unfold putFP; rw [hcel.out y])) (by omega) (by unfold ext; rw [if_neg (by omega), if_pos hl]) (HX.out.grew G (fun u e => ?_)) ht
      rw [e]
      exact ⟨ns1 k, by omega⟩
end
end Go.Proofs.YtimhgbcanmgajaaGreat
