/- An entry is kept. -/
import Derived.Test.YtimhgbcanmgajaaGreatJoint2
import Derived.Test.YtimhgbcanmgajaaGreatSiSeek
namespace Go.Proofs.YtimhgbcanmgajaaGreat
set_option linter.unusedSimpArgs false
set_option linter.unusedVariables false
set_option maxRecDepth 100000
open Go.RowKit

theorem keep_set {S : Nat → Prop} {g : Nat} {w w1 : World} (h : Keep S w w1) (hg : S g) (i : Nat) (v : Value) : Keep S w (w1.setCell ⟨g, i, none⟩ v) := h.trans (Keep.set hg w1 i v) (fun _ _ e => e)
theorem keep_drew {S : Nat → Prop} {w w1 : World} (h : Keep S w w1) : Keep S w w1.drew := h.trans (Keep.drew S w1) (fun _ _ e => e)
theorem elKe : Elem 206 141 6 64 := elem_of (z0 := .agg #[.int .i64 0, .int .i64 0, .int .i64 0, .int .i64 0, .slice none 0 0, .pointer none]) (by kernel_rfl) (by kernel_rfl) rfl
theorem list6 {r : List Value} (h : r.length = 6) : ∃ a b c d e f, r = [a, b, c, d, e, f] := by
  match r, h with
  | [a, b, c, d, e, f], _ => exact ⟨a, b, c, d, e, f, rfl⟩
theorem flat_put6 {l : List (List Value)} {i : Nat} {r : List Value} (hz : ∀ r ∈ l, r.length = 6) (h : l[i]? = some r) (a b c d e f : Value) :
    (((((l.flatten.set (i * 6) a).set (i * 6 + 1) b).set (i * 6 + 2) c).set (i * 6 + 3) d).set (i * 6 + 4) e).set (i * 6 + 5) f = (l.set i [a, b, c, d, e, f]).flatten := by
  obtain ⟨r0, r1, r2, r3, r4, r5, rfl⟩ := list6 (hz r (List.mem_of_getElem? h))
  have hl := lt_of_get h
  have g : ∀ (r' : List Value), (l.set i r')[i]? = some r' := fun r' => List.getElem?_set_self hl
  have hs : ∀ (r' r'' : List Value), (l.set i r').set i r'' = l.set i r'' := fun r' r'' => List.set_set ..
  have z : ∀ (r' : List Value), r'.length = 6 → ∀ x ∈ l.set i r', x.length = 6 := fun r' hr => rows_set hz hr
  have s0 := flat_set (j := 0) a hz h (by omega)
  rw [Nat.add_zero] at s0
  rw [s0, flat_set (j := 1) b (z _ rfl) (g _) (by omega), hs, flat_set (j := 2) c (z _ rfl) (g _) (by omega), hs, flat_set (j := 3) d (z _ rfl) (g _) (by omega), hs, flat_set (j := 4) e (z _ rfl) (g _) (by omega), hs, flat_set (j := 5) f (z _ rfl) (g _) (by omega), hs]
  rfl
set_option maxHeartbeats 1000000 in
theorem slonger_calls (w : World) (s : Nat) (v : Value) (l : List (En × Value)) (p : En × Value) (R : w.ownsRow 0 141 6 v l.length (l.map (keC s)).flatten) (hp : ∃ ao n cap, p.2 = .slice ao n cap) (hl : l.length ≤ 4) :
    Calls Tryz.prog 112 #[v, keV s p, .int .i64 4] w fun e w' => Keep (fun b => v.ownBlock = some b) w w' ∧
      ((l.length = 4 ∧ e = .returned (.tuple #[.slice none 0 0, .bool false])) ∨ (l.length < 4 ∧ ∃ g cap, e = .returned (.tuple #[.slice (some ⟨g, 0, none⟩) (l.length + 1) cap, .bool true]) ∧ (v.ownBlock = some g ∨ w.heap.size ≤ g) ∧
        w'.ownsRow 0 141 6 (.slice (some ⟨g, 0, none⟩) (l.length + 1) cap) (l.length + 1) ((l ++ [p]).map (keC s)).flatten)) := by
  obtain ⟨⟨sh, ho, sl, to, ds⟩, dv⟩ := p
  obtain ⟨ao, n, dcap, rfl⟩ := hp
  obtain ⟨vo, vcap, rfl⟩ := row_shape R
  have A := (Below.refl w.heap.size w).alloc (Nat.le_refl _) (Obj.cells #[.int .i64 (sh : Int), .int .i64 ho, .int .i64 sl, .int .i64 (to : Int), .slice ao n dcap, .pointer (some ⟨s, 0, none⟩)] 141)
  have R1 := row_keep (c := w.alloc (Obj.cells #[.int .i64 (sh : Int), .int .i64 ho, .int .i64 sl, .int .i64 (to : Int), .slice ao n dcap, .pointer (some ⟨s, 0, none⟩)] 141)) R (fun b hb => by obtain ⟨cur, hc⟩ := row_lt R hb; exact A.block b (blk_lt hc))
  have HR := hid R1
  have HA := hid A
  clear R R1 A
  unfold keV
  dsimp only
  generalize hW : w.alloc (Obj.cells #[.int .i64 (sh : Int), .int .i64 ho, .int .i64 sl, .int .i64 (to : Int), .slice ao n dcap, .pointer (some ⟨s, 0, none⟩)] 141) = w1 at *
  have b0 : Blk w.heap.size 141 #[.int .i64 (sh : Int), .int .i64 ho, .int .i64 sl, .int .i64 (to : Int), .slice ao n dcap, .pointer (some ⟨s, 0, none⟩)] w1 := by rw [← hW]; exact blk_new _ _ _
  obtain ⟨f1, c1, l1⟩ := blk_own b0
  by_cases h4 : l.length = 4
  · have h4' : (4 : Int) ≤ (l.length : Int) := by omega
    have HL := hid h4
    clear h4
    go_enter Tryz.func112, Tryz.ntmps112
    go_wp2_with fail
    go_ret2
    exact ⟨Keep.of HA.out, .inl ⟨HL.out, rfl⟩⟩
  · have h4' : ¬ (4 : Int) ≤ (l.length : Int) := by omega
    have hlt : l.length < 4 := by omega
    have hle : l.length ≤ 1000000 := by omega
    have HLT := hid hlt
    clear h4 hlt
    go_enter Tryz.func112, Tryz.ntmps112
    go_wp2_with (first | (at_builtin; go_loud (refine row_app elKe (by decide) (by decide) rfl _ _ rfl l.length (l.map (keC s)).flatten [.int .i64 (sh : Int), .int .i64 ho, .int .i64 sl, .int .i64 (to : Int), .slice ao n dcap, .pointer (some ⟨s, 0, none⟩)] rfl (by intro u hu; simp at hu; rcases hu with rfl | rfl | rfl | rfl | rfl | rfl <;> rfl) (.slice vo l.length vcap) (by rfl) HR.out w1.heap.size (by rfl) rfl hle ?_; intro g cp w2 hown hgrow hat; have HO := hid hown; have HG := hid hgrow; have HAT := hid hat; clear hown hgrow hat)) | fail)
    go_ret2
    refine ⟨(Keep.of HA.out).trans (Keep.grown (S := fun b => (Value.slice vo l.length vcap).ownBlock = some b) HG.out (fun k e => e)) (fun _ _ e => e), .inr ⟨HLT.out, g, cp, rfl, HAT.out.imp id (fun h => Nat.le_trans HA.out.size h), ?_⟩⟩
    have := HO.out
    first
      | exact this
      | (rw [List.map_append]
         simp only [List.map_cons, List.map_nil, flat_snoc]
         exact this)
theorem ceC_v {t u : St} (v v' : Value) (h1 : t.mega = u.mega) (h2 : t.name = u.name) (h3 : t.as' = u.as') : ceC t v = ceC u v := by unfold ceC; rw [h1, h2, h3]
set_option maxHeartbeats 4000000 in
theorem skeep_calls (w : World) {s f k x : Nat} {t : St} {col : Nat → Nat} (C : CeS s f k x t col w) (hm : t.mega = false) (few : t.l.length ≤ 4) (en : En) (dv : Value) (D : DpV 113 dv en.deps w) (cd : ∀ b, dv.ownBlock = some b → col b = 2) :
    Calls Tryz.prog 61 #[.pointer (some ⟨x, 0, none⟩), keV s (en, dv)] w fun e w' => e = .returned (.tuple #[]) ∧ CeS s f k x (keepS t en) (ext col w.heap.size w'.heap.size (cS f k)) w' ∧ Keep (fun b => col b = cS f k) w w' := by
  obtain ⟨v, l, C, cx, cv, cdl⟩ := C
  obtain ⟨sh, ho, sl, to, ds⟩ := en
  obtain ⟨ao, dcap, rfl⟩ := D.shape
  dsimp only at D
  have A := (Below.refl w.heap.size w).alloc (Nat.le_refl _) (Obj.cells #[.int .i64 (sh : Int), .int .i64 ho, .int .i64 sl, .int .i64 (to : Int), .slice ao ds.length dcap, .pointer (some ⟨s, 0, none⟩)] 141)
  have HF := hid (sfind_calls (w.alloc (Obj.cells #[.int .i64 (sh : Int), .int .i64 ho, .int .i64 sl, .int .i64 (to : Int), .slice ao ds.length dcap, .pointer (some ⟨s, 0, none⟩)] 141)) (C.on A) few sh)
  have HC := hid C
  have HD := hid D
  have HA := hid A
  have hes := C.es
  have hll := C.len
  obtain ⟨x4, lx⟩ := C.cell4
  have y4 := hcell_on x4 lx A
  have lx1 := Nat.lt_of_lt_of_le lx A.size
  unfold keV
  dsimp only
  clear C D A
  generalize hW : w.alloc (Obj.cells #[.int .i64 (sh : Int), .int .i64 ho, .int .i64 sl, .int .i64 (to : Int), .slice ao ds.length dcap, .pointer (some ⟨s, 0, none⟩)] 141) = w1 at *
  have b0 : Blk w.heap.size 141 #[.int .i64 (sh : Int), .int .i64 ho, .int .i64 sl, .int .i64 (to : Int), .slice ao ds.length dcap, .pointer (some ⟨s, 0, none⟩)] w1 := by rw [← hW]; exact blk_new _ _ _
  have HB0 := hid b0
  have HE := hid hes
  have HLL := hid hll
  clear b0 hes hll
  cases hf : findE t.l sh with
  | some i =>
    have hix : idxL l sh = (i : Int) := by unfold idxL; rw [HE.out, hf]
    rw [hix] at HF
    obtain ⟨e0, he0, _⟩ := find_some hf
    have hil : i < l.length := by rw [HLL.out]; exact lt_of_get he0
    obtain ⟨p0, hp0⟩ : ∃ p, l[i]? = some p := ⟨l[i], List.getElem?_eq_getElem hil⟩
    have hi0 : ¬ (i : Int) < 0 := by omega
    have HFF := hid hf
    have HP0 := hid hp0
    clear hf hix he0 hp0
    obtain ⟨f0, c0, l0⟩ := blk_own HB0.out
    go_enter Tryz.func61, Tryz.ntmps61
    go_wp2_with fail
    refine HF.out.mono ?_
    rintro e2 w2 ⟨rfl, b2⟩
    have B2 := hid (below_on HA.out b2)
    have hb0 := blk_on HB0.out b2
    have z4 := hcell_on y4 lx1 b2
    have lx2 := Nat.lt_of_lt_of_le lx1 b2.size
    have Cw := HC.out.on B2.out
    obtain ⟨g, cap, hv, hg, _⟩ := kept_at Cw.row HP0.out
    have fz : ∀ j, w2.frozen? ⟨g, j, none⟩ = false := fun j => by have := Cw.row; rw [hv] at this; exact row_free this j
    have cells : ∀ j, j < 6 → ∃ u, w2.cell? ⟨g, i * 6 + j, none⟩ = some u := fun j hj => by
      have R := Cw.row
      rw [hv] at R
      have hm' : (l.map (keC s))[i]? = some (keC s p0) := by rw [List.getElem?_map, HP0.out]; rfl
      obtain ⟨u, hu⟩ : ∃ u, (keC s p0)[j]? = some u := ⟨(keC s p0)[j]'(by simpa [keC] using hj), List.getElem?_eq_getElem _⟩
      exact ⟨u, row_cell R (by rw [flat_at (keC_len s l) hm' hj]; exact hu)⟩
    obtain ⟨u0, k0⟩ := cells 0 (by omega)
    obtain ⟨u1, k1⟩ := cells 1 (by omega)
    obtain ⟨u2, k2⟩ := cells 2 (by omega)
    obtain ⟨u3, k3⟩ := cells 3 (by omega)
    obtain ⟨u4, k4⟩ := cells 4 (by omega)
    obtain ⟨u5, k5⟩ := cells 5 (by omega)
    rw [Nat.add_zero] at k0
    obtain ⟨f1, c1, l1⟩ := blk_own hb0
    have q0 := c1 0
    have q1 := c1 1
    have q2 := c1 2
    have q3 := c1 3
    have q4 := c1 4
    have q5 := c1 5
    simp only [List.getElem?_toArray, List.getElem?_cons_zero, List.getElem?_cons_succ] at q0 q1 q2 q3 q4 q5
    have HCw := hid Cw
    have HV := hid hv
    subst hv
    obtain ⟨W6, hW6⟩ : ∃ W, W = ((((((w2.setCell ⟨g, i * 6, none⟩ (.int .i64 (sh : Int))).setCell ⟨g, i * 6 + 1, none⟩ (.int .i64 ho)).setCell ⟨g, i * 6 + 2, none⟩ (.int .i64 sl)).setCell ⟨g, i * 6 + 3, none⟩ (.int .i64 (to : Int))).setCell ⟨g, i * 6 + 4, none⟩ (.slice ao ds.length dcap)).setCell ⟨g, i * 6 + 5, none⟩ (.pointer (some ⟨s, 0, none⟩))) := ⟨_, rfl⟩
    have K6 : Keep (fun b => b = g) w2 W6 := by
      rw [hW6]
      exact keep_set (keep_set (keep_set (keep_set (keep_set (keep_set (Keep.refl (fun b => b = g) w2) rfl _ _) rfl _ _) rfl _ _) rfl _ _) rfl _ _) rfl _ _
    have R6 : W6.ownsRow 0 141 6 (.slice (some ⟨g, 0, none⟩) l.length cap) l.length ((l.set i (⟨sh, ho, sl, to, ds⟩, .slice ao ds.length dcap)).map (keC s)).flatten := by
      have hm' : (l.map (keC s))[i]? = some (keC s p0) := by rw [List.getElem?_map, HP0.out]; rfl
      have R0 := Cw.row
      have R := (row_set (row_set (row_set (row_set (row_set (row_set R0 (i * 6) (.int .i64 (sh : Int))) (i * 6 + 1) (.int .i64 ho)) (i * 6 + 2) (.int .i64 sl)) (i * 6 + 3) (.int .i64 (to : Int))) (i * 6 + 4) (.slice ao ds.length dcap)) (i * 6 + 5) (.pointer (some ⟨s, 0, none⟩)))
      rw [flat_put6 (keC_len s l) hm', ← hW6] at R
      rw [List.map_set]
      exact R
    have HW6 := hid hW6
    clear hW6
    have hgw : g < w.heap.size := by
      have R0 := HC.out.row
      obtain ⟨cur, hc⟩ := row_lt R0 (g := g) rfl
      exact blk_lt hc
    have hxg : x ≠ g := fun e => by
      have R0 := Cw.row
      obtain ⟨cur, hc⟩ := row_lt R0 (g := g) rfl
      subst e
      exact absurd (blk_type hc Cw.blk) (by decide)
    have hgx := hxg.symm
    have hgb : g ≠ w.heap.size := by omega
    have hbg := hgb.symm
    have HK6 := hid K6
    have HR6 := hid R6
    clear K6 R6
    clear b2 HF Cw cells f1 c1 hb0 f0 c0 l0
    go_wp2_with fail
    refine wp_region_held_drew (S := fun aZ => aZ.cell? ⟨x, 4, none⟩ = some (.slice (some ⟨g, 0, none⟩) l.length cap) ∧ aZ.cell? ⟨w.heap.size, 0, none⟩ = some (.int .i64 (sh : Int)) ∧ aZ.cell? ⟨w.heap.size, 1, none⟩ = some (.int .i64 ho) ∧ aZ.cell? ⟨w.heap.size, 2, none⟩ = some (.int .i64 sl) ∧ aZ.cell? ⟨w.heap.size, 3, none⟩ = some (.int .i64 (to : Int)) ∧ aZ.cell? ⟨w.heap.size, 4, none⟩ = some (.slice ao ds.length dcap) ∧ aZ.cell? ⟨w.heap.size, 5, none⟩ = some (.pointer (some ⟨s, 0, none⟩))) (by kernel_rfl) ?_ (fun hHeld => ?_)
    · (refine ⟨?_, ?_, ?_, ?_, ?_, ?_, ?_⟩ <;> go_simp)
    refine tkk 0 ?_
    refine tkk 1 ?_
    refine tkk 2 ?_
    refine tkk 3 ?_
    refine tkk 4 ?_
    refine tkk 5 ?_
    refine tkk 6 ?_
    refine rdy 7 (fun K hK => ?_)
    go_simp
    refine hK.out _ _ ?_ (fun _ => ?_)
    · (refine ⟨?_, ?_, ?_, ?_, ?_, ?_, ?_⟩ <;> go_simp)
    clear hK K
    refine wpAnyH_done (by kernel_rfl) ?_ _
    go_wp2_with fail
    refine bodyPost_ret (results_none rfl _ _ _) rfl ?_
    have hkp : keepS t ⟨sh, ho, sl, to, ds⟩ = { t with l := t.l.set i ⟨sh, ho, sl, to, ds⟩ } := by
      unfold keepS
      dsimp only
      rw [HFF.out]
    have hcv : col g = cS f k := cv g rfl
    rw [hkp, ← HW6.out]
    have HK7 : Keep (fun b => b = g) w2 W6.drew := keep_drew HK6.out
    have HR7 : W6.drew.ownsRow 0 141 6 (.slice (some ⟨g, 0, none⟩) l.length cap) l.length ((l.set i (⟨sh, ho, sl, to, ds⟩, .slice ao ds.length dcap)).map (keC s)).flatten := row_keep HR6.out (fun b hb => by
      obtain ⟨cur, hc⟩ := row_lt HR6.out hb
      exact (Below.refl W6.heap.size W6).drew.block b (blk_lt hc))
    clear HW6 HK6 HR6
    generalize W6.drew = W7 at *
    refine ⟨rfl, ⟨.slice (some ⟨g, 0, none⟩) l.length cap, l.set i (⟨sh, ho, sl, to, ds⟩, .slice ao ds.length dcap), ⟨?_, ?_, ?_, fun q hq => ?_⟩, ?_, fun b hb => ?_, fun q hq b hb => ?_⟩, (Keep.of B2.out).trans HK7 (fun b _ e => by have e' : b = g := e; rw [e']; exact hcv)⟩
    · have hce : ceC { t with l := t.l.set i ⟨sh, ho, sl, to, ds⟩ } (.slice (some ⟨g, 0, none⟩) l.length cap) = ceC t (.slice (some ⟨g, 0, none⟩) l.length cap) := by unfold ceC; rfl
      rw [hce]
      exact blk_keep HCw.out.blk HK7 hxg
    · rw [List.length_set]
      exact HR7
    · rw [List.map_set, HE.out]
    · have hcase : q ∈ l ∨ q = (⟨sh, ho, sl, to, ds⟩, .slice ao ds.length dcap) := List.mem_or_eq_of_mem_set hq
      have Dq : DpV 113 q.2 q.1.deps w2 := by
        rcases hcase with h | h
        · exact HCw.out.dps q h
        · rw [h]; exact HD.out.on B2.out
      refine Dq.keep (fun b hb => HK7.block b (Dq.lt hb) (fun e => ?_))
      obtain ⟨cur, hc⟩ := row_lt Dq hb
      have R0 := HCw.out.row
      obtain ⟨cur2, hc2⟩ := row_lt R0 (g := g) rfl
      have e' : b = g := e
      rw [e'] at hc
      exact absurd (blk_type hc hc2) (by decide)
    · rw [ext_old lx]; exact cx
    · injection hb with hb
      subst hb
      rw [ext_old hgw]; exact hcv
    · have hcase : q ∈ l ∨ q = (⟨sh, ho, sl, to, ds⟩, .slice ao ds.length dcap) := List.mem_or_eq_of_mem_set hq
      rcases hcase with h | h
      · rw [ext_old ((HC.out.dps q h).lt hb)]; exact cdl q h b hb
      · rw [h] at hb; rw [ext_old (HD.out.lt hb)]; exact cd b hb
  | none =>
    have hix : idxL l sh = (-1 : Int) := by unfold idxL; rw [HE.out, hf]
    rw [hix] at HF
    have HFF := hid hf
    clear hf hix
    obtain ⟨f0, c0, l0⟩ := blk_own HB0.out
    go_enter Tryz.func61, Tryz.ntmps61
    go_wp2_with fail
    refine HF.out.mono ?_
    rintro e2 w2 ⟨rfl, b2⟩
    have B2 := hid (below_on HA.out b2)
    have hb0 := blk_on HB0.out b2
    have z4 := hcell_on y4 lx1 b2
    have lx2 := Nat.lt_of_lt_of_le lx1 b2.size
    have Cw := HC.out.on B2.out
    have HL := hid (slonger_calls w2.drew s v l (⟨sh, ho, sl, to, ds⟩, .slice ao ds.length dcap) (Cw.on (Below.refl _ _).drew).row ⟨_, _, _, rfl⟩ (by have := HLL.out; omega))
    unfold keV at HL
    dsimp only at HL
    have HBx := hid hb0
    obtain ⟨f1, c1, l1⟩ := blk_own hb0
    have q0 := c1 0
    have q1 := c1 1
    have q2 := c1 2
    have q3 := c1 3
    have q4 := c1 4
    have q5 := c1 5
    simp only [List.getElem?_toArray, List.getElem?_cons_zero, List.getElem?_cons_succ] at q0 q1 q2 q3 q4 q5
    have hvx : ∀ b, v.ownBlock = some b → b < w.heap.size ∧ b ≠ x := fun b hb => by
      obtain ⟨cur, hc⟩ := row_lt HC.out.row hb
      refine ⟨blk_lt hc, fun e => ?_⟩
      rw [e] at hc
      exact absurd (blk_type hc HC.out.blk) (by decide)
    obtain ⟨vo, vcap, hvs⟩ := row_shape Cw.row
    have HCw := hid Cw
    have HVX := hid hvx
    have HVS := hid hvs
    clear b2 HF Cw f1 c1 hb0 f0 c0 l0 hvx
    subst hvs
    go_wp2_with fail
    refine wp_region_held_drew (S := fun aZ => aZ.cell? ⟨x, 4, none⟩ = some (.slice vo l.length vcap) ∧ aZ.cell? ⟨w.heap.size, 0, none⟩ = some (.int .i64 (sh : Int)) ∧ aZ.cell? ⟨w.heap.size, 1, none⟩ = some (.int .i64 ho) ∧ aZ.cell? ⟨w.heap.size, 2, none⟩ = some (.int .i64 sl) ∧ aZ.cell? ⟨w.heap.size, 3, none⟩ = some (.int .i64 (to : Int)) ∧ aZ.cell? ⟨w.heap.size, 4, none⟩ = some (.slice ao ds.length dcap) ∧ aZ.cell? ⟨w.heap.size, 5, none⟩ = some (.pointer (some ⟨s, 0, none⟩))) (by kernel_rfl) ?_ (fun hHeld => ?_)
    · (refine ⟨?_, ?_, ?_, ?_, ?_, ?_, ?_⟩ <;> go_simp)
    refine tkk 0 ?_
    refine tkk 1 ?_
    refine tkk 2 ?_
    refine tkk 3 ?_
    refine tkk 4 ?_
    refine rdy 5 (fun K hK => ?_)
    go_simp
    refine HL.out.mono ?_
    rintro e3 w3 ⟨k3, h3⟩
    have k3' := (Keep.drew (fun b => (Value.slice vo l.length vcap).ownBlock = some b) w2).trans k3 (fun _ _ e => e)
    have nx : ¬ (Value.slice vo l.length vcap).ownBlock = some x := fun e => (HVX.out x e).2 rfl
    have nb : ¬ (Value.slice vo l.length vcap).ownBlock = some w.heap.size := fun e => by have := (HVX.out _ e).1; omega
    have hB3 := hid (blk_keep HCw.out.blk k3' nx)
    have hQ3 := hid (blk_keep HBx.out k3' nb)
    have K3 := hid k3'
    have x4' : w3.cell? ⟨x, 4, none⟩ = some (.slice vo l.length vcap) := hcell_keep z4 lx2 k3' nx
    have p0 := hcell_keep q0 (blk_lt HBx.out) k3' nb
    have p1 := hcell_keep q1 (blk_lt HBx.out) k3' nb
    have p2 := hcell_keep q2 (blk_lt HBx.out) k3' nb
    have p3 := hcell_keep q3 (blk_lt HBx.out) k3' nb
    have p4 := hcell_keep q4 (blk_lt HBx.out) k3' nb
    have p5 := hcell_keep q5 (blk_lt HBx.out) k3' nb
    clear k3 k3' nx nb HL
    rcases h3 with ⟨h4, rfl⟩ | ⟨h4, g, cap, rfl, hat, R3⟩
    · have hB3' := hB3.out
      rw [ceC_not hm] at hB3'
      obtain ⟨f3, c3, l3⟩ := blk_own hB3'
      have H4 := hid h4
      clear h4 hB3'
      go_simp
      refine hK.out _ _ ?_ (fun _ => ?_)
      · (refine ⟨?_, ?_, ?_, ?_, ?_, ?_, ?_⟩ <;> (first | assumption | go_simp))
      clear hK K
      refine tkk 6 ?_
      refine tkk 7 ?_
      refine tkk 8 ?_
      refine tkk 9 ?_
      refine tkk 10 ?_
      refine wpAnyH_done (by kernel_rfl) ?_ _
      go_wp2_with fail
      refine bodyPost_ret (results_none rfl _ _ _) rfl ?_
      have hkp : keepS t ⟨sh, ho, sl, to, ds⟩ = { t with l := [], mega := true } := by
        unfold keepS
        dsimp only
        rw [HFF.out]
        dsimp only
        rw [if_pos (by rw [← HLL.out]; exact H4.out)]
      rw [hkp]
      have hB5 : Blk x 208 #[.string ⟨#[]⟩, .bool false, .bool false, .bool true, .slice none 0 0] (((((w3.setCell ⟨x, 0, none⟩ (.string ⟨#[]⟩)).setCell ⟨x, 1, none⟩ (.bool false)).setCell ⟨x, 2, none⟩ (.bool false)).setCell ⟨x, 3, none⟩ (.bool true)).setCell ⟨x, 4, none⟩ (.slice none 0 0)) := by
        have h := hB3.out
        rw [ceC_not hm] at h
        have h5 := blk_set (blk_set (blk_set (blk_set (blk_set h 0 (.string ⟨#[]⟩)) 1 (.bool false)) 2 (.bool false)) 3 (.bool true)) 4 (.slice none 0 0)
        simp only [List.setIfInBounds_toArray, List.set_cons_zero, List.set_cons_succ] at h5
        exact h5
      have K5 : Keep (fun b => col b = cS f k) w (((((w3.setCell ⟨x, 0, none⟩ (.string ⟨#[]⟩)).setCell ⟨x, 1, none⟩ (.bool false)).setCell ⟨x, 2, none⟩ (.bool false)).setCell ⟨x, 3, none⟩ (.bool true)).setCell ⟨x, 4, none⟩ (.slice none 0 0)) :=
        keep_set (keep_set (keep_set (keep_set (keep_set ((Keep.of B2.out).trans (K3.out.mono (T := fun b => col b = cS f k) (fun b _ e => cv b e)) (fun _ _ e => e)) cx _ _) cx _ _) cx _ _) cx _ _) cx _ _
      refine ⟨rfl, ⟨.slice none 0 0, [], ⟨?_, World.ownsRow_nil _ _ _ _, rfl, fun q hq => by cases hq⟩, ?_, fun b hb => (by simp [Value.ownBlock] at hb), fun q hq => by cases hq⟩, K5⟩
      · rw [ceC_mega rfl]
        exact hB5
      · rw [ext_old lx]; exact cx
    · have hB3' := hB3.out
      rw [ceC_not hm] at hB3'
      obtain ⟨f3, c3, l3⟩ := blk_own hB3'
      have H4 := hid h4
      have R3' := hid R3
      have AT := hid hat
      clear h4 hB3' R3 hat
      go_simp
      refine hK.out _ _ ?_ (fun _ => ?_)
      · (refine ⟨?_, ?_, ?_, ?_, ?_, ?_, ?_⟩ <;> (first | assumption | go_simp))
      clear hK K
      refine tkk 6 ?_
      refine tkk 7 ?_
      refine tkk 8 ?_
      refine tkk 9 ?_
      refine tkk 10 ?_
      refine wpAnyH_done (by kernel_rfl) ?_ _
      go_wp2_with fail
      go_end0
      have hkp : keepS t ⟨sh, ho, sl, to, ds⟩ = { t with l := t.l ++ [⟨sh, ho, sl, to, ds⟩] } := by
        unfold keepS
        dsimp only
        rw [HFF.out]
        dsimp only
        rw [if_neg (by rw [← HLL.out]; have := H4.out; omega)]
      rw [hkp]
      have hce : ceC { t with l := t.l ++ [⟨sh, ho, sl, to, ds⟩] } (.slice (some ⟨g, 0, none⟩) (l.length + 1) cap) = ceC t (.slice (some ⟨g, 0, none⟩) (l.length + 1) cap) := by unfold ceC; rfl
      have hBx : Blk x 208 (ceC t (.slice (some ⟨g, 0, none⟩) (l.length + 1) cap)) (w3.setCell ⟨x, 4, none⟩ (.slice (some ⟨g, 0, none⟩) (l.length + 1) cap)) := by
        have h := hB3.out
        rw [ceC_not hm] at h ⊢
        have h5 := blk_set h 4 (.slice (some ⟨g, 0, none⟩) (l.length + 1) cap)
        simp only [List.setIfInBounds_toArray, List.set_cons_zero, List.set_cons_succ] at h5
        exact h5
      have hgx : g ≠ x := fun e => by
        obtain ⟨cur, hc⟩ := row_lt R3'.out (g := g) rfl
        rw [e] at hc
        exact absurd (blk_type hc hB3.out) (by decide)
      have hR4 : (w3.setCell ⟨x, 4, none⟩ (.slice (some ⟨g, 0, none⟩) (l.length + 1) cap)).ownsRow 0 141 6 (.slice (some ⟨g, 0, none⟩) (l.length + 1) cap) (l.length + 1) ((l ++ [((⟨sh, ho, sl, to, ds⟩ : En), (Value.slice ao ds.length dcap))]).map (keC s)).flatten := row_keep R3'.out (fun b hb => by
        injection hb with hb
        subst hb
        exact RowKit.Below.heap_setCell _ _ _ _ hgx)
      have K4 : Keep (fun b => col b = cS f k) w (w3.setCell ⟨x, 4, none⟩ (.slice (some ⟨g, 0, none⟩) (l.length + 1) cap)) :=
        keep_set ((Keep.of B2.out).trans (K3.out.mono (T := fun b => col b = cS f k) (fun b _ e => cv b e)) (fun _ _ e => e)) cx _ _
      have hsz : (w3.setCell ⟨x, 4, none⟩ (.slice (some ⟨g, 0, none⟩) (l.length + 1) cap)).heap.size = w3.heap.size := by simp
      have hg3 : g < w3.heap.size := by
        obtain ⟨cur, hc⟩ := row_lt R3'.out (g := g) rfl
        exact blk_lt hc
      refine ⟨rfl, ⟨.slice (some ⟨g, 0, none⟩) (l.length + 1) cap, l ++ [(⟨sh, ho, sl, to, ds⟩, .slice ao ds.length dcap)], ⟨?_, ?_, ?_, fun q hq => ?_⟩, ?_, fun b hb => ?_, fun q hq b hb => ?_⟩, K4⟩
      · rw [hce]; exact hBx
      · rw [List.length_append]; exact hR4
      · rw [List.map_append, HE.out]; rfl
      · have Dq : DpV 113 q.2 q.1.deps w2 := by
          rcases List.mem_append.1 hq with h | h
          · exact HCw.out.dps q h
          · rw [List.mem_singleton.1 h]; exact HD.out.on B2.out
        have Dq3 : DpV 113 q.2 q.1.deps w3 := Dq.keep (fun b hb => K3.out.block b (Dq.lt hb) (fun e => by
          obtain ⟨cur, hc⟩ := row_lt Dq hb
          obtain ⟨cur2, hc2⟩ := row_lt HCw.out.row e
          exact absurd (blk_type hc hc2) (by decide)))
        exact dp_set Dq3 (fun b hb e => by
          obtain ⟨cur, hc⟩ := row_lt Dq3 hb
          rw [e] at hc
          exact absurd (blk_type hc hB3.out) (by decide))
      · rw [ext_old lx]; exact cx
      · injection hb with hb
        subst hb
        by_cases hgw : g < w.heap.size
        · rw [ext_old hgw]
          rcases AT.out with h | h
          · exact cv g h
          · have h' : w2.heap.size ≤ g := h
            have := B2.out.size
            omega
        · unfold ext
          rw [if_neg hgw, if_pos (by rw [hsz]; exact hg3)]
      · rcases List.mem_append.1 hq with h | h
        · rw [ext_old ((HC.out.dps q h).lt hb)]; exact cdl q h b hb
        · rw [List.mem_singleton.1 h] at hb; rw [ext_old (HD.out.lt hb)]; exact cd b hb
end Go.Proofs.YtimhgbcanmgajaaGreat
