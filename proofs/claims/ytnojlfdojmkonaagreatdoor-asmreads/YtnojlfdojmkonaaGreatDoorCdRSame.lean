/- Are two programs one: the document's word. -/
import Derived.Test.YtnojlfdojmkonaaGreatDoorJoint2
import Derived.Test.YtnojlfdojmkonaaGreatDoorJoint10
import Derived.Deep.Cut
import Derived.Deep.CutRange
import Derived.Deep.DeepCutAuto
import Derived.Deep.CutBlock
namespace Go.Proofs.YtnojlfdojmkonaaGreatDoor
set_option linter.unusedSimpArgs false
set_option linter.unusedVariables false
set_option maxRecDepth 100000
open Go.RowKit

theorem bool_ex (Q : Prop) : ∃ r : Bool, (r = true ↔ Q) := by
  by_cases h : Q
  · exact ⟨true, by simp [h]⟩
  · exact ⟨false, by simp [h]⟩
theorem two_drew (w : World) (T U : TypeId) (cs ds : Array Value) : Blk w.heap.size T cs ((w.alloc (.cells cs T)).alloc (.cells ds U)).drew ∧ Blk (w.heap.size + 1) U ds ((w.alloc (.cells cs T)).alloc (.cells ds U)).drew ∧ Below w.heap.size w ((w.alloc (.cells cs T)).alloc (.cells ds U)).drew := by
  have h := two_box w T U cs ds
  exact ⟨h.1, h.2.1, h.2.2.drew⟩
set_option maxHeartbeats 12800000 in
theorem dsame_calls (B : Nat) (P P' : Pg) (pv cv pv' cv' : Value) (w : World) (hB : B ≤ w.heap.size) (ha : PgS B w P pv cv) (hb : PgS B w P' pv' cv') :
    Calls Tryz.prog 15 #[pgV P pv cv, pgV P' pv' cv'] w fun e w' => SameOut (P = P') e ∧ Below w.heap.size w w' := by
  obtain ⟨G, ss, cs⟩ := P
  obtain ⟨G', ss', cs'⟩ := P'
  simp only [pgV] at *
  obtain ⟨pa, pc, rfl⟩ := plIn_shape ha.pool
  obtain ⟨ca, cc, rfl⟩ := cdsIn_shape ha.codes
  obtain ⟨pa', pc', rfl⟩ := plIn_shape hb.pool
  obtain ⟨ca', cc', rfl⟩ := cdsIn_shape hb.codes
  have QF := hid (pg_eq (G := G) (ss := ss) (cs := cs) (G' := G') (ss' := ss') (cs' := cs'))
  generalize ((⟨G, ss, cs⟩ : Pg) = ⟨G', ss', cs'⟩) = Q at *
  have T := two_box w 25 25 #[.int .i64 G, .slice pa ss.length pc, .slice ca cs.length cc] #[.int .i64 G', .slice pa' ss'.length pc', .slice ca' cs'.length cc']
  have HT := hid T.2.2
  have T1 := hid T.1
  have T2 := hid T.2.1
  have hszT : ((w.alloc (.cells #[.int .i64 G, .slice pa ss.length pc, .slice ca cs.length cc] 25)).alloc (.cells #[.int .i64 G', .slice pa' ss'.length pc', .slice ca' cs'.length cc'] 25)).heap.size = w.heap.size + 2 := by simp
  have PA := hid (plIn_on ha.pool (T.2.2.mono hB))
  have PB := hid (plIn_on hb.pool (T.2.2.mono hB))
  have CA := hid (cdsIn_on ha.codes (T.2.2.mono hB))
  have CB := hid (cdsIn_on hb.codes (T.2.2.mono hB))
  have fa := ha.few
  have fb := hb.few
  have IA := hid ha.ins
  have IB := hid hb.ins
  simp only at fa fb IA IB PA PB CA CB
  clear T ha hb
  go_enter Tryz.func15, Tryz.ntmps15
  go_upto_region 1 with fail
  generalize hW : (w.alloc (.cells #[.int .i64 G, .slice pa ss.length pc, .slice ca cs.length cc] 25)).alloc (.cells #[.int .i64 G', .slice pa' ss'.length pc', .slice ca' cs'.length cc'] 25) = w2 at *
  have CEL := hid (fun (W : World) (q : Below w2.heap.size w2 W) => (show (W.cell? ⟨w.heap.size, 0, none⟩ = some (.int .i64 G) ∧ W.cell? ⟨w.heap.size, 1, none⟩ = some (.slice pa ss.length pc) ∧ W.cell? ⟨w.heap.size, 2, none⟩ = some (.slice ca cs.length cc)) ∧ W.cell? ⟨w.heap.size + 1, 0, none⟩ = some (.int .i64 G') ∧ W.cell? ⟨w.heap.size + 1, 1, none⟩ = some (.slice pa' ss'.length pc') ∧ W.cell? ⟨w.heap.size + 1, 2, none⟩ = some (.slice ca' cs'.length cc') from
    have h := blk_on T1.out q
    have k := blk_on T2.out q
    ⟨⟨blk_cellZ h 0 rfl, blk_cellZ h 1 rfl, blk_cellZ h 2 rfl⟩, blk_cellZ k 0 rfl, blk_cellZ k 1 rfl, blk_cellZ k 2 rfl⟩))
  have LOW := hid (fun (W : World) (q : Below w2.heap.size w2 W) => HT.out.trans (q.mono (by omega)))
  obtain ⟨⟨p0, p1, p2⟩, q0, q1, q2⟩ := CEL.out w2 (Below.refl _ _)
  clear T1 T2
  obtain ⟨hd, hhd⟩ := bool_ex (G = G' ∧ ss.length = ss'.length ∧ cs.length = cs'.length)
  have HD := hid hhd
  clear hhd
  go_cut [32] (fun v wx => v = .bool (!hd) ∧ wx = w2)
  case first =>
    by_cases h1 : G = G'
    rotate_left 1
    · have hf : hd = false := Bool.eq_false_iff.2 fun h => h1 (HD.out.1 h).1
      have hne : (G != G') = true := by simpa using h1
      subst hf
      clear h1
      as_aux_lemma =>
        go_wp2_with fail
        go_meet
        exact ⟨rfl, rfl⟩
    have hne : (G != G') = false := by rw [h1]; simp
    by_cases h2 : ss.length = ss'.length
    rotate_left 1
    · have hf : hd = false := Bool.eq_false_iff.2 fun h => h2 (HD.out.1 h).2.1
      have hne2 : ((ss.length : Int) != (ss'.length : Int)) = true := by simpa using (show (ss.length : Int) ≠ (ss'.length : Int) by omega)
      subst hf
      clear h1 h2
      as_aux_lemma =>
        go_wp2_with fail
        go_meet
        exact ⟨rfl, rfl⟩
    have hne2 : ((ss.length : Int) != (ss'.length : Int)) = false := by rw [h2]; simp
    by_cases h3 : cs.length = cs'.length
    rotate_left 1
    · have hf : hd = false := Bool.eq_false_iff.2 fun h => h3 (HD.out.1 h).2.2
      have hne3 : ((cs.length : Int) != (cs'.length : Int)) = true := by simpa using (show (cs.length : Int) ≠ (cs'.length : Int) by omega)
      subst hf
      clear h1 h2 h3
      as_aux_lemma =>
        go_wp2_with fail
        go_meet
        exact ⟨rfl, rfl⟩
    have hne3 : ((cs.length : Int) != (cs'.length : Int)) = false := by rw [h3]; simp
    have ht : hd = true := HD.out.2 ⟨h1, h2, h3⟩
    subst ht
    clear h1 h2 h3
    as_aux_lemma =>
      go_wp2_with fail
      go_meet
      exact ⟨rfl, rfl⟩
  case rest =>
    obtain ⟨rfl, rfl⟩ := hcut
    rename World => w2
    clear p0 p1 p2 q0 q1 q2
    cases hd with
    | false =>
      have H := hid (show ¬ Q from fun h => by
        obtain ⟨h1, h2, h3⟩ := QF.out.1 h
        have := HD.out.2 ⟨beq_iff_eq.1 h1, by rw [h2], by rw [h3]⟩
        cases this)
      as_aux_lemma =>
        go_wp2_with fail
        go_ret
        exact ⟨⟨false, rfl, by simp [H.out]⟩, HT.out⟩
    | true =>
    obtain ⟨hG, hsl, hcl⟩ := HD.out.1 rfl
    replace QF := hid (show Q ↔ ss = ss' ∧ cs = cs' from QF.out.trans ⟨fun h => h.2, fun h => ⟨by rw [hG]; simp, h⟩⟩)
    have HSL := hid hsl
    have HCL := hid hcl
    clear HD hsl hcl hG
    go_wp2_with fail
    go_loopw [5] (fun iV wr => ∃ i : Nat, i ≤ ss.length ∧ iV = .int .i64 i ∧ Hid (∀ (k : Nat) x y, k < i → ss[k]? = some x → ss'[k]? = some y → x = y) ∧ Hid (Below w2.heap.size w2 wr)) (fun iV _ => ss.length - (intOf iV).toNat)
    case atStart => exact ⟨0, by omega, rfl, hid (fun k x y hk => absurd hk (Nat.not_lt_zero _)), hid (Below.refl _ _)⟩
    case round =>
      obtain ⟨i, hi, rfl, hA, hL⟩ := hrel
      rename World => wq
      obtain ⟨⟨p0, p1, p2⟩, q0, q1, q2⟩ := CEL.out wq hL.out
      by_cases hil : i < ss.length
      · obtain ⟨x, hx⟩ : ∃ x, ss[i]? = some x := ⟨_, List.getElem?_eq_getElem hil⟩
        have hil2 : i < ss'.length := by have := HSL.out; omega
        obtain ⟨y, hy⟩ : ∃ y, ss'[i]? = some y := ⟨_, List.getElem?_eq_getElem hil2⟩
        obtain ⟨gb, go, h1, h2, h3⟩ := plIn_at (plIn_on PA.out (hL.out.mono (by omega))) hx
        obtain ⟨qb, qo, k1, k2, k3⟩ := plIn_at (plIn_on PB.out (hL.out.mono (by omega))) hy
        subst h1
        subst k1
        have hil' : (i : Int) < (ss.length : Int) := by omega
        have hil2' : (i : Int) < (ss'.length : Int) := by omega
        by_cases hxy : x = y
        · have A2 := hid (show ∀ (k : Nat) x y, k < i + 1 → ss[k]? = some x → ss'[k]? = some y → x = y from fun k u v hk hu hv => by
            by_cases hki : k = i
            · subst hki
              rw [hx] at hu
              rw [hy] at hv
              exact (Option.some.inj hu).symm.trans (hxy.trans (Option.some.inj hv))
            · exact hA.out k u v (by omega) hu hv)
          clear hx hy
          subst hxy
          as_aux_lemma =>
            go_upto_region 6 with fail
            refine wp_region_held_drew (S := fun aZ => aZ.cell? ⟨w.heap.size, 1, none⟩ = some (.slice (some ⟨gb, go, none⟩) ss.length pc) ∧ aZ.cell? ⟨w.heap.size + 1, 1, none⟩ = some (.slice (some ⟨qb, qo, none⟩) ss'.length pc') ∧ aZ.cell? ⟨gb, go + i, none⟩ = some (.string x) ∧ aZ.cell? ⟨qb, qo + i, none⟩ = some (.string x)) (by kernel_rfl) ?_ (fun hHeld => ?_)
            · (refine ⟨?_, ?_, ?_, ?_⟩ <;> go_simp)
            refine tkk 0 ?_
            refine tkk 1 ?_
            refine tkk 2 ?_
            refine tkk 3 ?_
            refine tkk 4 ?_
            refine tkk 5 ?_
            refine tkk 6 ?_
            refine tkk 7 ?_
            refine tkk 8 ?_
            refine tkk 9 ?_
            refine tk 10 (v := .bool false) ?_ ?_
            · (intro w hSw; go_simp <;> (first | with_reducible rfl | simp))
            refine wpAnyH_done (by kernel_rfl) ?_ _
            go_wp2_with fail
            exact ⟨⟨i + 1, by omega, by simp, A2, hid (by first | exact hL.out | exact hL.out.drew)⟩, by simp [intOf]; omega⟩
        · have H := hid (show ¬ Q from fun h => rows_no hx hy hxy (QF.out.1 h).1)
          have hne := bytes_ne hxy
          have LX := hid (LOW.out _ hL.out)
          clear hxy hx hy
          as_aux_lemma =>
            go_upto_region 6 with fail
            refine wp_region_held_drew (S := fun aZ => aZ.cell? ⟨w.heap.size, 1, none⟩ = some (.slice (some ⟨gb, go, none⟩) ss.length pc) ∧ aZ.cell? ⟨w.heap.size + 1, 1, none⟩ = some (.slice (some ⟨qb, qo, none⟩) ss'.length pc') ∧ aZ.cell? ⟨gb, go + i, none⟩ = some (.string x) ∧ aZ.cell? ⟨qb, qo + i, none⟩ = some (.string y)) (by kernel_rfl) ?_ (fun hHeld => ?_)
            · (refine ⟨?_, ?_, ?_, ?_⟩ <;> go_simp)
            refine tkk 0 ?_
            refine tkk 1 ?_
            refine tkk 2 ?_
            refine tkk 3 ?_
            refine tkk 4 ?_
            refine tkk 5 ?_
            refine tkk 6 ?_
            refine tkk 7 ?_
            refine tkk 8 ?_
            refine tkk 9 ?_
            refine tk 10 (v := .bool true) ?_ ?_
            · (intro w hSw; go_simp <;> (first | with_reducible rfl | exact hne | simpa using hne | simp [hne]))
            refine wpAnyH_done (by kernel_rfl) ?_ _
            go_wp2_with fail
            go_ret
            exact ⟨⟨false, rfl, by simp [H.out]⟩, by first | exact LX.out | exact LX.out.drew⟩
      have hie : i = ss.length := by omega
      subst hie
      replace QF := hid (show Q ↔ cs = cs' from QF.out.trans ⟨fun h => h.2, fun h => ⟨rows_is HSL.out (fun k x y hk => hA.out k x y hk), h⟩⟩)
      clear hA hi hil
      go_wp2_with fail
      clear p0 p1 p2 q0 q1 q2
      go_loopw [6] (fun iV wr => ∃ i : Nat, i ≤ cs.length ∧ iV = .int .i64 i ∧ Hid (∀ (k : Nat) x y, k < i → cs[k]? = some x → cs'[k]? = some y → x = y) ∧ Hid (Below w2.heap.size w2 wr)) (fun iV _ => cs.length - (intOf iV).toNat)
      case atStart => exact ⟨0, by omega, rfl, hid (fun k x y hk => absurd hk (Nat.not_lt_zero _)), hL⟩
      case round =>
        clear hL
        obtain ⟨i, hi, rfl, hA, hL⟩ := hrel
        rename World => wr
        obtain ⟨⟨p0, p1, p2⟩, q0, q1, q2⟩ := CEL.out wr hL.out
        by_cases hil : i < cs.length
        rotate_left 1
        · have hie : i = cs.length := by omega
          subst hie
          have H := hid (show Q from QF.out.2 (rows_is HCL.out (fun k x y hk => hA.out k x y hk)))
          have LX := hid (LOW.out _ hL.out)
          as_aux_lemma =>
            go_wp2_with fail
            go_ret
            exact ⟨⟨true, rfl, by simp [H.out]⟩, LX.out⟩
        obtain ⟨x, hx⟩ : ∃ x, cs[i]? = some x := ⟨_, List.getElem?_eq_getElem hil⟩
        have hil2 : i < cs'.length := by have := HCL.out; omega
        obtain ⟨y, hy⟩ : ∃ y, cs'[i]? = some y := ⟨_, List.getElem?_eq_getElem hil2⟩
        obtain ⟨gb, go, h1, h2, iv, u0, u1, u2, u3, u4, hI⟩ := cdsIn_at (cdsIn_on CA.out (hL.out.mono (by omega))) hx
        obtain ⟨qb, qo, k1, k2, jv, v0, v1, v2, v3, v4, hJ⟩ := cdsIn_at (cdsIn_on CB.out (hL.out.mono (by omega))) hy
        subst h1
        subst k1
        have hil' : (i : Int) < (cs.length : Int) := by omega
        have hil2' : (i : Int) < (cs'.length : Int) := by omega
        have hsz := hL.out.size
        have HIx := hid hI
        have HJx := hid hJ
        obtain ⟨ia, ic, rfl⟩ := insIn_shape hI
        obtain ⟨ja, jc, rfl⟩ := insIn_shape hJ
        clear hI hJ
        have hxl := IA.out x (List.mem_of_getElem? hx)
        have hyl := IB.out y (List.mem_of_getElem? hy)
        have NO := hid (show ¬ (x = y) → ¬ Q from fun hn h => rows_no hx hy hn (QF.out.1 h))
        have A2 := hid (show x = y → ∀ (k : Nat) x y, k < i + 1 → cs[k]? = some x → cs'[k]? = some y → x = y from fun hxy k u v hk hu hv => by
          by_cases hki : k = i
          · subst hki
            rw [hx] at hu
            rw [hy] at hv
            exact (Option.some.inj hu).symm.trans (hxy.trans (Option.some.inj hv))
          · exact hA.out k u v (by omega) hu hv)
        clear hx hy
        obtain ⟨p, l, s, d, is⟩ := x
        obtain ⟨p', l', s', d', js⟩ := y
        simp only at u0 u1 u2 u3 u4 v0 v1 v2 v3 v4 hxl hyl HIx HJx
        have XE := hid (cd_eq (p := p) (l := l) (s := s) (d := d) (p' := p') (l' := l') (s' := s') (d' := d') (is := is) (js := js))
        generalize ((⟨p, l, s, d, is⟩ : Cd) = ⟨p', l', s', d', js⟩) = XY at *
        have hw0 : w.heap.size < wr.heap.size := by omega
        have hw1 : w.heap.size + 1 < wr.heap.size := by omega
        have hgb : gb < wr.heap.size := by omega
        have hqb : qb < wr.heap.size := by omega
        go_upto_region 11 with fail
        go_cut [7, 8] (fun a b wx => ∃ gx gy : Nat, a = .pointer (some ⟨gx, 0, none⟩) ∧ b = .pointer (some ⟨gy, 0, none⟩) ∧ Hid (Blk gx 45 #[.int .i64 p, .int .i64 l, .int .i64 s, .int .i64 d, .slice ia is.length ic] wx ∧ Blk gy 45 #[.int .i64 p', .int .i64 l', .int .i64 s', .int .i64 d', .slice ja js.length jc] wx ∧ Below wr.heap.size wr wx))
        case first =>
          as_aux_lemma =>
            refine wp_region_held_drew (S := fun aZ => aZ.cell? ⟨w.heap.size, 2, none⟩ = some (.slice (some ⟨gb, go, none⟩) cs.length cc) ∧ aZ.cell? ⟨w.heap.size + 1, 2, none⟩ = some (.slice (some ⟨qb, qo, none⟩) cs'.length cc') ∧ aZ.cell? ⟨gb, go + i * 5, none⟩ = some (.int .i64 p) ∧ aZ.cell? ⟨gb, go + i * 5 + 1, none⟩ = some (.int .i64 l) ∧ aZ.cell? ⟨gb, go + i * 5 + 2, none⟩ = some (.int .i64 s) ∧ aZ.cell? ⟨gb, go + i * 5 + 3, none⟩ = some (.int .i64 d) ∧ aZ.cell? ⟨gb, go + i * 5 + 4, none⟩ = some (.slice ia is.length ic) ∧ aZ.cell? ⟨qb, qo + i * 5, none⟩ = some (.int .i64 p') ∧ aZ.cell? ⟨qb, qo + i * 5 + 1, none⟩ = some (.int .i64 l') ∧ aZ.cell? ⟨qb, qo + i * 5 + 2, none⟩ = some (.int .i64 s') ∧ aZ.cell? ⟨qb, qo + i * 5 + 3, none⟩ = some (.int .i64 d') ∧ aZ.cell? ⟨qb, qo + i * 5 + 4, none⟩ = some (.slice ja js.length jc)) (by kernel_rfl) ?_ (fun hHeld => ?_)
            · (refine ⟨?_, ?_, ?_, ?_, ?_, ?_, ?_, ?_, ?_, ?_, ?_, ?_⟩ <;> go_simp)
            refine tkk 0 ?_
            refine tkk 1 ?_
            refine tkk 2 ?_
            refine tkk 3 ?_
            refine tkk 4 ?_
            refine tkk 5 ?_
            refine tkk 6 ?_
            refine tkk 7 ?_
            refine tkk 8 ?_
            refine tkk 9 ?_
            refine wpAnyH_ready (rs := [10, 11]) (by kernel_rfl) (by simp) ?_
            refine AllReadyH.cons rfl (fun K hK => ?_) (AllReadyH.cons rfl (fun K hK => ?_) AllReadyH.nil)
            · go_simp
              refine hK.out _ _ (by refine ⟨?_, ?_, ?_, ?_, ?_, ?_, ?_, ?_, ?_, ?_, ?_, ?_⟩ <;> go_simp) (fun _ => ?_)
              clear hK K
              refine rdy 11 (fun K hK => ?_)
              go_simp
              refine hK.out _ _ (by refine ⟨?_, ?_, ?_, ?_, ?_, ?_, ?_, ?_, ?_, ?_, ?_, ?_⟩ <;> go_simp) (fun _ => ?_)
              clear hK K
              refine rdy 12 (fun K hK => ?_)
              go_simp
              refine hK.out _ _ (by refine ⟨?_, ?_, ?_, ?_, ?_, ?_, ?_, ?_, ?_, ?_, ?_, ?_⟩ <;> go_simp) (fun _ => ?_)
              clear hK K
              refine rdy 13 (fun K hK => ?_)
              go_simp
              refine hK.out _ _ (by refine ⟨?_, ?_, ?_, ?_, ?_, ?_, ?_, ?_, ?_, ?_, ?_, ?_⟩ <;> go_simp) (fun _ => ?_)
              clear hK K
              refine wpAnyH_done (by kernel_rfl) ?_ _
              have TW := hid (two_drew wr 45 45 #[.int .i64 p, .int .i64 l, .int .i64 s, .int .i64 d, .slice ia is.length ic] #[.int .i64 p', .int .i64 l', .int .i64 s', .int .i64 d', .slice ja js.length jc])
              go_wp2_with fail
              go_meet
              exact ⟨_, _, rfl, rfl, TW.out.1, TW.out.2.1, TW.out.2.2⟩
            · go_simp
              refine hK.out _ _ (by refine ⟨?_, ?_, ?_, ?_, ?_, ?_, ?_, ?_, ?_, ?_, ?_, ?_⟩ <;> go_simp) (fun _ => ?_)
              clear hK K
              refine rdy 10 (fun K hK => ?_)
              go_simp
              refine hK.out _ _ (by refine ⟨?_, ?_, ?_, ?_, ?_, ?_, ?_, ?_, ?_, ?_, ?_, ?_⟩ <;> go_simp) (fun _ => ?_)
              clear hK K
              refine rdy 12 (fun K hK => ?_)
              go_simp
              refine hK.out _ _ (by refine ⟨?_, ?_, ?_, ?_, ?_, ?_, ?_, ?_, ?_, ?_, ?_, ?_⟩ <;> go_simp) (fun _ => ?_)
              clear hK K
              refine rdy 13 (fun K hK => ?_)
              go_simp
              refine hK.out _ _ (by refine ⟨?_, ?_, ?_, ?_, ?_, ?_, ?_, ?_, ?_, ?_, ?_, ?_⟩ <;> go_simp) (fun _ => ?_)
              clear hK K
              refine wpAnyH_done (by kernel_rfl) ?_ _
              have TW := hid (two_drew wr 45 45 #[.int .i64 p', .int .i64 l', .int .i64 s', .int .i64 d', .slice ja js.length jc] #[.int .i64 p, .int .i64 l, .int .i64 s, .int .i64 d, .slice ia is.length ic])
              go_wp2_with fail
              go_meet
              exact ⟨_, _, rfl, rfl, TW.out.2.1, TW.out.1, TW.out.2.2⟩
        case rest =>
          obtain ⟨gx, gy, rfl, rfl, hB3⟩ := hcut
          rename World => w3
          clear p0 p1 p2 q0 q1 q2 u0 u1 u2 u3 u4 v0 v1 v2 v3 v4
          have L3 := hid (hL.out.trans (hB3.out.2.2.mono hsz))
          have I3 := hid (insIn_on HIx.out (hB3.out.2.2.mono (by omega)))
          have J3 := hid (insIn_on HJx.out (hB3.out.2.2.mono (by omega)))
          have CX := hid (fun (W : World) (q : Below w3.heap.size w3 W) => (show (W.cell? ⟨gx, 0, none⟩ = some (.int .i64 p) ∧ W.cell? ⟨gx, 1, none⟩ = some (.int .i64 l) ∧ W.cell? ⟨gx, 2, none⟩ = some (.int .i64 s) ∧ W.cell? ⟨gx, 3, none⟩ = some (.int .i64 d) ∧ W.cell? ⟨gx, 4, none⟩ = some (.slice ia is.length ic)) ∧ W.cell? ⟨gy, 0, none⟩ = some (.int .i64 p') ∧ W.cell? ⟨gy, 1, none⟩ = some (.int .i64 l') ∧ W.cell? ⟨gy, 2, none⟩ = some (.int .i64 s') ∧ W.cell? ⟨gy, 3, none⟩ = some (.int .i64 d') ∧ W.cell? ⟨gy, 4, none⟩ = some (.slice ja js.length jc) from
            have h := blk_on hB3.out.1 q
            have k := blk_on hB3.out.2.1 q
            ⟨⟨blk_cellZ h 0 rfl, blk_cellZ h 1 rfl, blk_cellZ h 2 rfl, blk_cellZ h 3 rfl, blk_cellZ h 4 rfl⟩, blk_cellZ k 0 rfl, blk_cellZ k 1 rfl, blk_cellZ k 2 rfl, blk_cellZ k 3 rfl, blk_cellZ k 4 rfl⟩))
          have hB3s : B ≤ w3.heap.size := by have := L3.out.size; omega
          clear hB3 HIx HJx
          obtain ⟨⟨a0, a1, a2, a3, a4⟩, b0, b1, b2, b3, b4⟩ := CX.out w3 (Below.refl _ _)
          obtain ⟨hd, hhd⟩ := bool_ex (p = p' ∧ l = l' ∧ s = s' ∧ d = d' ∧ is.length = js.length)
          have HD := hid hhd
          clear hhd
          go_upto_region 12 with fail
          go_cut [102] (fun v wx => v = .bool (!hd) ∧ wx = w3)
          case first =>
            by_cases hp : p = p'
            rotate_left 1
            · have hf : hd = false := Bool.eq_false_iff.2 fun h => hp (HD.out.1 h).1
              have hnep : (p != p') = true := by simpa using hp
              subst hf
              clear hp
              as_aux_lemma =>
                go_wp2_with fail
                go_meet
                exact ⟨rfl, rfl⟩
            have hnep : (p != p') = false := by rw [hp]; simp
            by_cases hl : l = l'
            rotate_left 1
            · have hf : hd = false := Bool.eq_false_iff.2 fun h => hl (HD.out.1 h).2.1
              have hnel : (l != l') = true := by simpa using hl
              subst hf
              clear hp hl
              as_aux_lemma =>
                go_wp2_with fail
                go_meet
                exact ⟨rfl, rfl⟩
            have hnel : (l != l') = false := by rw [hl]; simp
            by_cases hs : s = s'
            rotate_left 1
            · have hf : hd = false := Bool.eq_false_iff.2 fun h => hs (HD.out.1 h).2.2.1
              have hnes : (s != s') = true := by simpa using hs
              subst hf
              clear hp hl hs
              as_aux_lemma =>
                go_wp2_with fail
                go_meet
                exact ⟨rfl, rfl⟩
            have hnes : (s != s') = false := by rw [hs]; simp
            by_cases hd' : d = d'
            rotate_left 1
            · have hf : hd = false := Bool.eq_false_iff.2 fun h => hd' (HD.out.1 h).2.2.2.1
              have hned : (d != d') = true := by simpa using hd'
              subst hf
              clear hp hl hs hd'
              as_aux_lemma =>
                go_wp2_with fail
                go_meet
                exact ⟨rfl, rfl⟩
            have hned : (d != d') = false := by rw [hd']; simp
            by_cases hn : is.length = js.length
            rotate_left 1
            · have hf : hd = false := Bool.eq_false_iff.2 fun h => hn (HD.out.1 h).2.2.2.2
              have hne5 : ((is.length : Int) != (js.length : Int)) = true := by simpa using (show (is.length : Int) ≠ (js.length : Int) by omega)
              subst hf
              clear hp hl hs hd' hn
              as_aux_lemma =>
                go_wp2_with fail
                go_meet
                exact ⟨rfl, rfl⟩
            have hne5 : ((is.length : Int) != (js.length : Int)) = false := by rw [hn]; simp
            have ht : hd = true := HD.out.2 ⟨hp, hl, hs, hd', hn⟩
            subst ht
            clear hp hl hs hd' hn
            as_aux_lemma =>
              go_wp2_with fail
              go_meet
              exact ⟨rfl, rfl⟩
          case rest =>
            obtain ⟨rfl, rfl⟩ := hcut
            rename World => w3
            clear a0 a1 a2 a3 a4 b0 b1 b2 b3 b4
            cases hd with
            | false =>
              have H := hid (NO.out fun h => by
                obtain ⟨h1, h2, h3, h4, h5⟩ := XE.out.1 h
                have := HD.out.2 ⟨beq_iff_eq.1 h1, beq_iff_eq.1 h2, beq_iff_eq.1 h3, beq_iff_eq.1 h4, by rw [h5]⟩
                cases this)
              have LX := hid (LOW.out _ L3.out)
              as_aux_lemma =>
                go_wp2_with fail
                go_ret
                exact ⟨⟨false, rfl, by simp [H.out]⟩, LX.out⟩
            | true =>
            obtain ⟨e1, e2, e3, e4, e5⟩ := HD.out.1 rfl
            have EQI := hid (show XY ↔ is = js from XE.out.trans ⟨fun h => h.2.2.2.2, fun h => ⟨by rw [e1]; simp, by rw [e2]; simp, by rw [e3]; simp, by rw [e4]; simp, h⟩⟩)
            have HIL := hid e5
            clear e1 e2 e3 e4 e5 HD XE
            go_wp2_with fail
            go_loopw [9] (fun jV wr => ∃ j : Nat, j ≤ is.length ∧ jV = .int .i64 j ∧ Hid (∀ (k : Nat) x y, k < j → is[k]? = some x → js[k]? = some y → x = y) ∧ Hid (Below w3.heap.size w3 wr)) (fun jV _ => is.length - (intOf jV).toNat)
            case atStart => exact ⟨0, by omega, rfl, hid (fun k x y hk => absurd hk (Nat.not_lt_zero _)), hid (Below.refl _ _)⟩
            case round =>
              obtain ⟨j, hj, rfl, hE, hM⟩ := hrel
              rename World => wz
              obtain ⟨⟨a0, a1, a2, a3, a4⟩, b0, b1, b2, b3, b4⟩ := CX.out wz hM.out
              have LZ := hid (below_in L3.out (Nat.le_refl _) hM.out)
              by_cases hjl : j < is.length
              rotate_left 1
              · have hje : j = is.length := by omega
                subst hje
                have H := hid (A2.out (EQI.out.2 (rows_is HIL.out (fun k x y hk => hE.out k x y hk))))
                as_aux_lemma =>
                  go_wp2_with fail
                  exact ⟨⟨i + 1, by omega, by simp, H, LZ⟩, by simp [intOf]; omega⟩
              obtain ⟨x, hx⟩ : ∃ x, is[j]? = some x := ⟨_, List.getElem?_eq_getElem hjl⟩
              have hjl2 : j < js.length := by have := HIL.out; omega
              obtain ⟨y, hy⟩ : ∃ y, js[j]? = some y := ⟨_, List.getElem?_eq_getElem hjl2⟩
              obtain ⟨xb, xo, h1, h2, h3⟩ := insIn_at (insIn_on I3.out (hM.out.mono hB3s)) hx
              obtain ⟨yb, yo, k1, k2, k3⟩ := insIn_at (insIn_on J3.out (hM.out.mono hB3s)) hy
              subst h1
              subst k1
              obtain ⟨m0, m1, m2⟩ := h3
              obtain ⟨n0, n1, n2⟩ := k3
              have hjl' : (j : Int) < (is.length : Int) := by omega
              have hjl2' : (j : Int) < (js.length : Int) := by omega
              obtain ⟨o, a, b⟩ := x
              obtain ⟨o', a', b'⟩ := y
              simp only at m0 m1 m2 n0 n1 n2
              by_cases hxy : ((o, a, b) : In) = (o', a', b')
              · have E2 := hid (show ∀ (k : Nat) x y, k < j + 1 → is[k]? = some x → js[k]? = some y → x = y from fun k u v hk hu hv => by
                  by_cases hki : k = j
                  · subst hki
                    rw [hx] at hu
                    rw [hy] at hv
                    exact (Option.some.inj hu).symm.trans (hxy.trans (Option.some.inj hv))
                  · exact hE.out k u v (by omega) hu hv)
                clear hx hy
                injection hxy with e1 e2
                injection e2 with e2 e3
                subst e1 e2 e3
                as_aux_lemma =>
                  go_upto_region 17 with fail
                  refine wp_region_held_drew (S := fun aZ => aZ.cell? ⟨gx, 4, none⟩ = some (.slice (some ⟨xb, xo, none⟩) is.length ic) ∧ aZ.cell? ⟨gy, 4, none⟩ = some (.slice (some ⟨yb, yo, none⟩) js.length jc) ∧ aZ.cell? ⟨xb, xo + j * 3, none⟩ = some (.int .i64 o) ∧ aZ.cell? ⟨xb, xo + j * 3 + 1, none⟩ = some (.int .i64 a) ∧ aZ.cell? ⟨xb, xo + j * 3 + 2, none⟩ = some (.int .i64 b) ∧ aZ.cell? ⟨yb, yo + j * 3, none⟩ = some (.int .i64 o) ∧ aZ.cell? ⟨yb, yo + j * 3 + 1, none⟩ = some (.int .i64 a) ∧ aZ.cell? ⟨yb, yo + j * 3 + 2, none⟩ = some (.int .i64 b)) (by kernel_rfl) ?_ (fun hHeld => ?_)
                  · (refine ⟨?_, ?_, ?_, ?_, ?_, ?_, ?_, ?_⟩ <;> go_simp)
                  refine tkk 0 ?_
                  refine tkk 1 ?_
                  refine tkk 2 ?_
                  refine tkk 3 ?_
                  refine tkk 4 ?_
                  refine tkk 5 ?_
                  refine tkk 6 ?_
                  refine tkk 7 ?_
                  refine tkk 8 ?_
                  refine tkk 9 ?_
                  refine tk 10 (v := .bool false) ?_ ?_
                  · (intro w hSw; go_simp <;> (first | with_reducible rfl | simp))
                  refine wpAnyH_done (by kernel_rfl) ?_ _
                  go_wp2_with fail
                  exact ⟨⟨j + 1, by omega, by simp, E2, hid (by first | exact hM.out | exact hM.out.drew)⟩, by simp [intOf]; omega⟩
              · have H := hid (NO.out fun h => rows_no hx hy hxy (EQI.out.1 h))
                have hne : ¬ (o = o' ∧ a = a' ∧ b = b') := fun h => hxy (by rw [h.1, h.2.1, h.2.2])
                have LX := hid (LOW.out _ LZ.out)
                clear hxy hx hy
                as_aux_lemma =>
                  go_upto_region 17 with fail
                  refine wp_region_held_drew (S := fun aZ => aZ.cell? ⟨gx, 4, none⟩ = some (.slice (some ⟨xb, xo, none⟩) is.length ic) ∧ aZ.cell? ⟨gy, 4, none⟩ = some (.slice (some ⟨yb, yo, none⟩) js.length jc) ∧ aZ.cell? ⟨xb, xo + j * 3, none⟩ = some (.int .i64 o) ∧ aZ.cell? ⟨xb, xo + j * 3 + 1, none⟩ = some (.int .i64 a) ∧ aZ.cell? ⟨xb, xo + j * 3 + 2, none⟩ = some (.int .i64 b) ∧ aZ.cell? ⟨yb, yo + j * 3, none⟩ = some (.int .i64 o') ∧ aZ.cell? ⟨yb, yo + j * 3 + 1, none⟩ = some (.int .i64 a') ∧ aZ.cell? ⟨yb, yo + j * 3 + 2, none⟩ = some (.int .i64 b')) (by kernel_rfl) ?_ (fun hHeld => ?_)
                  · (refine ⟨?_, ?_, ?_, ?_, ?_, ?_, ?_, ?_⟩ <;> go_simp)
                  refine tkk 0 ?_
                  refine tkk 1 ?_
                  refine tkk 2 ?_
                  refine tkk 3 ?_
                  refine tkk 4 ?_
                  refine tkk 5 ?_
                  refine tkk 6 ?_
                  refine tkk 7 ?_
                  refine tkk 8 ?_
                  refine tkk 9 ?_
                  refine tk 10 (v := .bool true) ?_ ?_
                  · (intro w hSw; go_simp <;> (first | with_reducible rfl | exact hne | simpa using hne | simp [hne]))
                  refine wpAnyH_done (by kernel_rfl) ?_ _
                  go_wp2_with fail
                  go_ret
                  exact ⟨⟨false, rfl, by simp [H.out]⟩, by first | exact LX.out | exact LX.out.drew⟩

end Go.Proofs.YtnojlfdojmkonaaGreatDoor
