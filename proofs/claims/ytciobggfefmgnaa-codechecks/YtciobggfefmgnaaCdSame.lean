/- Are two programs one: the program's word. -/
import Derived.Test.YtciobggfefmgnaaTk
import Derived.Test.YtciobggfefmgnaaCdSz
import Derived.Lib.Strings
namespace Go.Proofs.Ytciobggfefmgnaa
set_option linter.unusedSimpArgs false
set_option linter.unusedVariables false
set_option maxRecDepth 100000
open Go.RowKit

def SameOut (Q : Prop) (e : Ending) : Prop := ∃ r, e = .returned (.bool r) ∧ (r = true ↔ Q)
theorem rows_no {α : Type} {xs ys : List α} {i : Nat} {x y : α} (hx : xs[i]? = some x) (hy : ys[i]? = some y) (h : x ≠ y) : xs ≠ ys := fun e => by
  rw [e, hy] at hx
  exact h (Option.some.inj hx).symm
theorem rows_is {α : Type} {xs ys : List α} (hl : xs.length = ys.length) (h : ∀ (k : Nat) x y, k < xs.length → xs[k]? = some x → ys[k]? = some y → x = y) : xs = ys := List.ext_getElem hl fun k h1 h2 => h k _ _ h1 (List.getElem?_eq_getElem h1) (List.getElem?_eq_getElem h2)
theorem bytes_ne {x y : ByteArray} (h : x ≠ y) : (x.toList != y.toList) = true := by
  rw [bne_iff_ne, Lib.toList_data, Lib.toList_data]
  intro e
  exact h (ByteArray.ext (Array.ext' e))
theorem two_box (w : World) (T U : TypeId) (cs ds : Array Value) : Blk w.heap.size T cs ((w.alloc (.cells cs T)).alloc (.cells ds U)) ∧ Blk (w.heap.size + 1) U ds ((w.alloc (.cells cs T)).alloc (.cells ds U)) ∧ Below w.heap.size w ((w.alloc (.cells cs T)).alloc (.cells ds U)) := by
  have x := blk_new (w.alloc (.cells cs T)) U ds
  rw [World.size_alloc] at x
  exact ⟨blk_on (blk_new w T cs) ((Below.refl _ _).alloc (Nat.le_refl _) _), x, ((Below.refl w.heap.size w).alloc (Nat.le_refl _) _).alloc (by simp) _⟩
set_option maxHeartbeats 3200000 in
theorem sequal_calls (B : Nat) (xs ys : List ByteArray) (va vb : Value) (w : World) (hB : B ≤ w.heap.size) (ha : PlIn B w va xs) (hb : PlIn B w vb ys) (hl : xs.length ≤ 1000000) (hm : ys.length ≤ 1000000) :
    Calls Try.prog 24 #[va, vb] w fun e w' => SameOut (xs = ys) e ∧ Below w.heap.size w w' := by
  obtain ⟨aa, ac, rfl⟩ := plIn_shape ha
  obtain ⟨ba, bc, rfl⟩ := plIn_shape hb
  have HA := hid ha
  have HB := hid hb
  clear ha hb
  have SQ := hid (show (xs = ys) ↔ (xs = ys) from Iff.rfl)
  generalize hQ : (xs = ys) = Q at *
  have QF := hid (show Q ↔ xs = ys by rw [hQ])
  clear hQ SQ
  by_cases hlen : xs.length = ys.length
  rotate_left 1
  · have H := hid (show ¬ Q from fun h => hlen (by rw [QF.out.1 h]))
    have hne : ((xs.length : Int) != (ys.length : Int)) = true := by simpa using (show (xs.length : Int) ≠ (ys.length : Int) by omega)
    clear hlen
    go_enter Try.func24, Try.ntmps24
    go_wp2_with fail
    go_ret
    exact ⟨⟨false, rfl, by simp [H.out]⟩, Below.refl _ _⟩
  have HL := hid hlen
  rw [← hlen] at HB
  rw [← hlen]
  clear hlen hm
  obtain ⟨n, hn⟩ : ∃ n, xs.length = n := ⟨_, rfl⟩
  have HN := hid hn
  rw [hn] at HA HB hl ⊢
  clear hn
  go_enter Try.func24, Try.ntmps24
  go_wp2_with fail
  go_loopw [13] (fun iV wr => ∃ i : Nat, i ≤ n ∧ iV = .int .i64 i ∧ Hid (∀ (k : Nat) x y, k < i → xs[k]? = some x → ys[k]? = some y → x = y) ∧ Hid (Below w.heap.size w wr)) (fun iV _ => n - (intOf iV).toNat)
  case atStart => exact ⟨0, by omega, rfl, hid (fun k x y hk => absurd hk (Nat.not_lt_zero _)), hid (Below.refl _ _)⟩
  case round =>
    obtain ⟨i, hi, rfl, hA, hL⟩ := hrel
    rename World => wq
    by_cases hil : i < n
    · obtain ⟨x, hx⟩ : ∃ x, xs[i]? = some x := ⟨_, List.getElem?_eq_getElem (by rw [HN.out]; exact hil)⟩
      obtain ⟨y, hy⟩ : ∃ y, ys[i]? = some y := ⟨_, List.getElem?_eq_getElem (by rw [← HL.out, HN.out]; exact hil)⟩
      obtain ⟨gb, go, h1, h2, h3⟩ := plIn_at (by rw [HN.out]; exact HA.out) hx
      obtain ⟨qb, qo, k1, k2, k3⟩ := plIn_at (by rw [← HL.out, HN.out]; exact HB.out) hy
      subst h1
      subst k1
      have hil' : (i : Int) < (n : Int) := by omega
      have hgb : gb < w.heap.size := by omega
      have hqb : qb < w.heap.size := by omega
      replace h3 := cellB hL.out hgb h3
      replace k3 := cellB hL.out hqb k3
      by_cases hxy : x = y
      · have A2 := hid (show ∀ (k : Nat) x y, k < i + 1 → xs[k]? = some x → ys[k]? = some y → x = y from fun k u v hk hu hv => by
          by_cases hki : k = i
          · subst hki
            rw [hx] at hu
            rw [hy] at hv
            exact (Option.some.inj hu).symm.trans (hxy.trans (Option.some.inj hv))
          · exact hA.out k u v (by omega) hu hv)
        clear hx hy
        subst hxy
        as_aux_lemma =>
          go_upto_region 6 with fail
          refine wp_region_held_drew (S := fun aZ => aZ.cell? ⟨gb, go + i, none⟩ = some (.string x) ∧ aZ.cell? ⟨qb, qo + i, none⟩ = some (.string x)) (by kernel_rfl) ?_ (fun hHeld => ?_)
          · (refine ⟨?_, ?_⟩ <;> go_simp)
          refine tkk 0 ?_
          refine tkk 1 ?_
          refine tkk 2 ?_
          refine tkk 3 ?_
          refine tkk 4 ?_
          refine tkk 5 ?_
          refine tkk 6 ?_
          refine tkk 7 ?_
          refine tk 8 (v := .bool false) ?_ ?_
          · (intro w hSw; go_simp <;> (first | with_reducible rfl | simp))
          refine wpAnyH_done (by kernel_rfl) ?_ _
          go_wp2_with fail
          exact ⟨⟨i + 1, by omega, by simp, A2, hid (by first | exact hL.out | exact hL.out.drew)⟩, by simp [intOf]; omega⟩
      · have H := hid (show ¬ Q from fun h => rows_no hx hy hxy (QF.out.1 h))
        have hne := bytes_ne hxy
        clear hxy hx hy
        as_aux_lemma =>
          go_upto_region 6 with fail
          refine wp_region_held_drew (S := fun aZ => aZ.cell? ⟨gb, go + i, none⟩ = some (.string x) ∧ aZ.cell? ⟨qb, qo + i, none⟩ = some (.string y)) (by kernel_rfl) ?_ (fun hHeld => ?_)
          · (refine ⟨?_, ?_⟩ <;> go_simp)
          refine tkk 0 ?_
          refine tkk 1 ?_
          refine tkk 2 ?_
          refine tkk 3 ?_
          refine tkk 4 ?_
          refine tkk 5 ?_
          refine tkk 6 ?_
          refine tkk 7 ?_
          refine tk 8 (v := .bool true) ?_ ?_
          · (intro w hSw; go_simp <;> (first | with_reducible rfl | exact hne | simpa using hne | simp [hne]))
          refine wpAnyH_done (by kernel_rfl) ?_ _
          go_wp2_with fail
          go_ret
          exact ⟨⟨false, rfl, by simp [H.out]⟩, by first | exact hL.out | exact hL.out.drew⟩
    · have hie : i = n := by omega
      subst hie
      have H := hid (show Q from QF.out.2 (rows_is HL.out (fun k x y hk => hA.out k x y (by rw [← HN.out]; exact hk))))
      go_wp2_with fail
      go_ret
      exact ⟨⟨true, rfl, by simp [H.out]⟩, hL.out⟩
set_option maxHeartbeats 3200000 in
theorem iequal_calls (B : Nat) (xs ys : List In) (va vb : Value) (w : World) (hB : B ≤ w.heap.size) (ha : InsIn B w va xs) (hb : InsIn B w vb ys) (hl : xs.length ≤ 1000000) (hm : ys.length ≤ 1000000) :
    Calls Try.prog 37 #[va, vb] w fun e w' => SameOut (xs = ys) e ∧ Below w.heap.size w w' := by
  obtain ⟨aa, ac, rfl⟩ := insIn_shape ha
  obtain ⟨ba, bc, rfl⟩ := insIn_shape hb
  have HA := hid ha
  have HB := hid hb
  clear ha hb
  have SQ := hid (show (xs = ys) ↔ (xs = ys) from Iff.rfl)
  generalize hQ : (xs = ys) = Q at *
  have QF := hid (show Q ↔ xs = ys by rw [hQ])
  clear hQ SQ
  by_cases hlen : xs.length = ys.length
  rotate_left 1
  · have H := hid (show ¬ Q from fun h => hlen (by rw [QF.out.1 h]))
    have hne : ((xs.length : Int) != (ys.length : Int)) = true := by simpa using (show (xs.length : Int) ≠ (ys.length : Int) by omega)
    clear hlen
    go_enter Try.func37, Try.ntmps37
    go_wp2_with fail
    go_ret
    exact ⟨⟨false, rfl, by simp [H.out]⟩, Below.refl _ _⟩
  have HL := hid hlen
  rw [← hlen] at HB
  rw [← hlen]
  clear hlen hm
  obtain ⟨n, hn⟩ : ∃ n, xs.length = n := ⟨_, rfl⟩
  have HN := hid hn
  rw [hn] at HA HB hl ⊢
  clear hn
  go_enter Try.func37, Try.ntmps37
  go_wp2_with fail
  go_loopw [13] (fun iV wr => ∃ i : Nat, i ≤ n ∧ iV = .int .i64 i ∧ Hid (∀ (k : Nat) x y, k < i → xs[k]? = some x → ys[k]? = some y → x = y) ∧ Hid (Below w.heap.size w wr)) (fun iV _ => n - (intOf iV).toNat)
  case atStart => exact ⟨0, by omega, rfl, hid (fun k x y hk => absurd hk (Nat.not_lt_zero _)), hid (Below.refl _ _)⟩
  case round =>
    obtain ⟨i, hi, rfl, hA, hL⟩ := hrel
    rename World => wq
    by_cases hil : i < n
    · obtain ⟨x, hx⟩ : ∃ x, xs[i]? = some x := ⟨_, List.getElem?_eq_getElem (by rw [HN.out]; exact hil)⟩
      obtain ⟨y, hy⟩ : ∃ y, ys[i]? = some y := ⟨_, List.getElem?_eq_getElem (by rw [← HL.out, HN.out]; exact hil)⟩
      obtain ⟨gb, go, h1, h2, h3⟩ := insIn_at (by rw [HN.out]; exact HA.out) hx
      obtain ⟨qb, qo, k1, k2, k3⟩ := insIn_at (by rw [← HL.out, HN.out]; exact HB.out) hy
      subst h1
      subst k1
      have hil' : (i : Int) < (n : Int) := by omega
      have hgb : gb < w.heap.size := by omega
      have hqb : qb < w.heap.size := by omega
      obtain ⟨u0, u1, u2⟩ := h3
      obtain ⟨v0, v1, v2⟩ := k3
      replace u0 := cellB hL.out hgb u0
      replace u1 := cellB hL.out hgb u1
      replace u2 := cellB hL.out hgb u2
      replace v0 := cellB hL.out hqb v0
      replace v1 := cellB hL.out hqb v1
      replace v2 := cellB hL.out hqb v2
      obtain ⟨o, a, b⟩ := x
      obtain ⟨o', a', b'⟩ := y
      simp only at u0 u1 u2 v0 v1 v2
      by_cases hxy : ((o, a, b) : In) = ((o', a', b') : In)
      · have A2 := hid (show ∀ (k : Nat) x y, k < i + 1 → xs[k]? = some x → ys[k]? = some y → x = y from fun k u v hk hu hv => by
          by_cases hki : k = i
          · subst hki
            rw [hx] at hu
            rw [hy] at hv
            exact (Option.some.inj hu).symm.trans (hxy.trans (Option.some.inj hv))
          · exact hA.out k u v (by omega) hu hv)
        clear hx hy
        injection hxy with e1 e2
        injection e2 with e2 e3
        subst e1 e2 e3
        as_aux_lemma =>
          go_upto_region 6 with fail
          refine wp_region_held_drew (S := fun aZ => aZ.cell? ⟨gb, go + i * 3, none⟩ = some (.int .i64 o) ∧ aZ.cell? ⟨gb, go + i * 3 + 1, none⟩ = some (.int .i64 a) ∧ aZ.cell? ⟨gb, go + i * 3 + 2, none⟩ = some (.int .i64 b) ∧ aZ.cell? ⟨qb, qo + i * 3, none⟩ = some (.int .i64 o) ∧ aZ.cell? ⟨qb, qo + i * 3 + 1, none⟩ = some (.int .i64 a) ∧ aZ.cell? ⟨qb, qo + i * 3 + 2, none⟩ = some (.int .i64 b)) (by kernel_rfl) ?_ (fun hHeld => ?_)
          · (refine ⟨?_, ?_, ?_, ?_, ?_, ?_⟩ <;> go_simp)
          refine tkk 0 ?_
          refine tkk 1 ?_
          refine tkk 2 ?_
          refine tkk 3 ?_
          refine tkk 4 ?_
          refine tkk 5 ?_
          refine tkk 6 ?_
          refine tkk 7 ?_
          refine tk 8 (v := .bool false) ?_ ?_
          · (intro w hSw; go_simp <;> (first | with_reducible rfl | simp))
          refine wpAnyH_done (by kernel_rfl) ?_ _
          go_wp2_with fail
          exact ⟨⟨i + 1, by omega, by simp, A2, hid (by first | exact hL.out | exact hL.out.drew)⟩, by simp [intOf]; omega⟩
      · have H := hid (show ¬ Q from fun h => rows_no hx hy hxy (QF.out.1 h))
        have hne : ¬ (o = o' ∧ a = a' ∧ b = b') := fun h => hxy (by rw [h.1, h.2.1, h.2.2])
        clear hxy hx hy
        as_aux_lemma =>
          go_upto_region 6 with fail
          refine wp_region_held_drew (S := fun aZ => aZ.cell? ⟨gb, go + i * 3, none⟩ = some (.int .i64 o) ∧ aZ.cell? ⟨gb, go + i * 3 + 1, none⟩ = some (.int .i64 a) ∧ aZ.cell? ⟨gb, go + i * 3 + 2, none⟩ = some (.int .i64 b) ∧ aZ.cell? ⟨qb, qo + i * 3, none⟩ = some (.int .i64 o') ∧ aZ.cell? ⟨qb, qo + i * 3 + 1, none⟩ = some (.int .i64 a') ∧ aZ.cell? ⟨qb, qo + i * 3 + 2, none⟩ = some (.int .i64 b')) (by kernel_rfl) ?_ (fun hHeld => ?_)
          · (refine ⟨?_, ?_, ?_, ?_, ?_, ?_⟩ <;> go_simp)
          refine tkk 0 ?_
          refine tkk 1 ?_
          refine tkk 2 ?_
          refine tkk 3 ?_
          refine tkk 4 ?_
          refine tkk 5 ?_
          refine tkk 6 ?_
          refine tkk 7 ?_
          refine tk 8 (v := .bool true) ?_ ?_
          · (intro w hSw; go_simp <;> (first | with_reducible rfl | exact hne | simpa using hne | simp [hne]))
          refine wpAnyH_done (by kernel_rfl) ?_ _
          go_wp2_with fail
          go_ret
          exact ⟨⟨false, rfl, by simp [H.out]⟩, by first | exact hL.out | exact hL.out.drew⟩
    · have hie : i = n := by omega
      subst hie
      have H := hid (show Q from QF.out.2 (rows_is HL.out (fun k x y hk => hA.out k x y (by rw [← HN.out]; exact hk))))
      go_wp2_with fail
      go_ret
      exact ⟨⟨true, rfl, by simp [H.out]⟩, hL.out⟩
theorem cd_eq {p l s d p' l' s' d' : Int} {is js : List In} : ((⟨p, l, s, d, is⟩ : Cd) = ⟨p', l', s', d', js⟩) ↔ (p == p') = true ∧ (l == l') = true ∧ (s == s') = true ∧ (d == d') = true ∧ is = js := by
  simp
set_option maxHeartbeats 3200000 in
theorem samecode_calls (B : Nat) (c c' : Cd) (iv iv' : Value) (w : World) (hB : B ≤ w.heap.size) (ha : InsIn B w iv c.ins) (hb : InsIn B w iv' c'.ins) (hl : c.ins.length ≤ 1000000) (hm : c'.ins.length ≤ 1000000) :
    Calls Try.prog 26 #[cdV c iv, cdV c' iv'] w fun e w' => SameOut (c = c') e ∧ Below w.heap.size w w' := by
  obtain ⟨p, l, s, d, is⟩ := c
  obtain ⟨p', l', s', d', js⟩ := c'
  simp only [cdV] at *
  obtain ⟨ia, ic, rfl⟩ := insIn_shape ha
  obtain ⟨ja, jc, rfl⟩ := insIn_shape hb
  have QF := hid (cd_eq (p := p) (l := l) (s := s) (d := d) (p' := p') (l' := l') (s' := s') (d' := d') (is := is) (js := js))
  generalize ((⟨p, l, s, d, is⟩ : Cd) = ⟨p', l', s', d', js⟩) = Q at *
  have T := two_box w 37 37 #[.int .i64 p, .int .i64 l, .int .i64 s, .int .i64 d, .slice ia is.length ic] #[.int .i64 p', .int .i64 l', .int .i64 s', .int .i64 d', .slice ja js.length jc]
  have HT := hid T.2.2
  have IE := hid (iequal_calls B is js (.slice ia is.length ic) (.slice ja js.length jc) _ (Nat.le_trans hB T.2.2.size) (insIn_on ha (T.2.2.mono hB)) (insIn_on hb (T.2.2.mono hB)) hl hm)
  clear T ha hb
  cases ep : (p == p')
  · have H := hid (show ¬ Q from fun h => by have := QF.out.1 h; rw [ep] at this; simp at this)
    go_enter Try.func26, Try.ntmps26
    go_wp2_with fail
    go_ret
    exact ⟨⟨false, rfl, by simp [H.out]⟩, HT.out⟩
  cases el : (l == l')
  · have H := hid (show ¬ Q from fun h => by have := QF.out.1 h; rw [el] at this; simp at this)
    go_enter Try.func26, Try.ntmps26
    go_wp2_with fail
    go_ret
    exact ⟨⟨false, rfl, by simp [H.out]⟩, HT.out⟩
  cases es : (s == s')
  · have H := hid (show ¬ Q from fun h => by have := QF.out.1 h; rw [es] at this; simp at this)
    go_enter Try.func26, Try.ntmps26
    go_wp2_with fail
    go_ret
    exact ⟨⟨false, rfl, by simp [H.out]⟩, HT.out⟩
  cases ed : (d == d')
  · have H := hid (show ¬ Q from fun h => by have := QF.out.1 h; rw [ed] at this; simp at this)
    go_enter Try.func26, Try.ntmps26
    go_wp2_with fail
    go_ret
    exact ⟨⟨false, rfl, by simp [H.out]⟩, HT.out⟩
  replace QF := hid (show Q ↔ is = js from QF.out.trans ⟨fun h => h.2.2.2.2, fun h => ⟨ep, el, es, ed, h⟩⟩)
  go_enter Try.func26, Try.ntmps26
  go_wp2_with fail
  refine IE.out.mono ?_
  rintro e w1 ⟨⟨r, rfl, hr⟩, b1⟩
  have B1 := hid (below_on HT.out b1)
  have H := hid (hr.trans QF.out.symm)
  clear b1 IE hr
  go_wp2_with fail
  go_ret
  exact ⟨⟨r, rfl, H.out⟩, B1.out⟩
set_option maxHeartbeats 6400000 in
theorem cequal_calls (B : Nat) (xs ys : List Cd) (va vb : Value) (w : World) (hB : B ≤ w.heap.size) (ha : CdsIn B w va xs) (hb : CdsIn B w vb ys) (hl : xs.length ≤ 1000000) (hm : ys.length ≤ 1000000) (hlx : ∀ c ∈ xs, c.ins.length ≤ 1000000) (hly : ∀ c ∈ ys, c.ins.length ≤ 1000000) :
    Calls Try.prog 25 #[va, vb, .func (.func 26) #[] #[]] w fun e w' => SameOut (xs = ys) e ∧ Below w.heap.size w w' := by
  obtain ⟨aa, ac, rfl⟩ := cdsIn_shape ha
  obtain ⟨ba, bc, rfl⟩ := cdsIn_shape hb
  have HA := hid ha
  have HB := hid hb
  have SC := hid (samecode_calls B)
  have HX := hid hlx
  have HY := hid hly
  clear ha hb hlx hly
  have SQ := hid (show (xs = ys) ↔ (xs = ys) from Iff.rfl)
  generalize hQ : (xs = ys) = Q at *
  have QF := hid (show Q ↔ xs = ys by rw [hQ])
  clear hQ SQ
  by_cases hlen : xs.length = ys.length
  rotate_left 1
  · have H := hid (show ¬ Q from fun h => hlen (by rw [QF.out.1 h]))
    have hne : ((xs.length : Int) != (ys.length : Int)) = true := by simpa using (show (xs.length : Int) ≠ (ys.length : Int) by omega)
    clear hlen
    go_enter Try.func25, Try.ntmps25
    go_wp2_with fail
    go_ret
    exact ⟨⟨false, rfl, by simp [H.out]⟩, Below.refl _ _⟩
  have HL := hid hlen
  rw [← hlen] at HB
  rw [← hlen]
  clear hlen hm
  obtain ⟨n, hn⟩ : ∃ n, xs.length = n := ⟨_, rfl⟩
  have HN := hid hn
  rw [hn] at HA HB hl ⊢
  clear hn
  go_enter Try.func25, Try.ntmps25
  go_wp2_with fail
  go_loopw [17] (fun iV wr => ∃ i : Nat, i ≤ n ∧ iV = .int .i64 i ∧ Hid (∀ (k : Nat) x y, k < i → xs[k]? = some x → ys[k]? = some y → x = y) ∧ Hid (Below w.heap.size w wr)) (fun iV _ => n - (intOf iV).toNat)
  case atStart => exact ⟨0, by omega, rfl, hid (fun k x y hk => absurd hk (Nat.not_lt_zero _)), hid (Below.refl _ _)⟩
  case round =>
    obtain ⟨i, hi, rfl, hA, hL⟩ := hrel
    rename World => wq
    by_cases hil : i < n
    · obtain ⟨x, hx⟩ : ∃ x, xs[i]? = some x := ⟨_, List.getElem?_eq_getElem (by rw [HN.out]; exact hil)⟩
      obtain ⟨y, hy⟩ : ∃ y, ys[i]? = some y := ⟨_, List.getElem?_eq_getElem (by rw [← HL.out, HN.out]; exact hil)⟩
      obtain ⟨gb, go, h1, h2, iv, u0, u1, u2, u3, u4, hI⟩ := cdsIn_at (by rw [HN.out]; exact cdsIn_on HA.out (hL.out.mono hB)) hx
      obtain ⟨qb, qo, k1, k2, jv, v0, v1, v2, v3, v4, hJ⟩ := cdsIn_at (by rw [← HL.out, HN.out]; exact cdsIn_on HB.out (hL.out.mono hB)) hy
      subst h1
      subst k1
      have hil' : (i : Int) < (n : Int) := by omega
      have hsz := hL.out.size
      have hgb : gb < wq.heap.size := by omega
      have hqb : qb < wq.heap.size := by omega
      have HIx := hid hI
      have HJx := hid hJ
      obtain ⟨ia, ic, rfl⟩ := insIn_shape hI
      obtain ⟨ja, jc, rfl⟩ := insIn_shape hJ
      clear hI hJ
      have hxl := HX.out x (List.mem_of_getElem? hx)
      have hyl := HY.out y (List.mem_of_getElem? hy)
      have NO := hid (show ¬ (x = y) → ¬ Q from fun hn h => rows_no hx hy hn (QF.out.1 h))
      have A2 := hid (show x = y → ∀ (k : Nat) x y, k < i + 1 → xs[k]? = some x → ys[k]? = some y → x = y from fun hxy k u v hk hu hv => by
        by_cases hki : k = i
        · subst hki
          rw [hx] at hu
          rw [hy] at hv
          exact (Option.some.inj hu).symm.trans (hxy.trans (Option.some.inj hv))
        · exact hA.out k u v (by omega) hu hv)
      clear hx hy
      have SX := hid (fun W hW h1 h2 => SC.out x y (.slice ia x.ins.length ic) (.slice ja y.ins.length jc) W hW h1 h2 hxl hyl)
      generalize (x = y) = XY at *
      obtain ⟨p, l, s, d, is⟩ := x
      obtain ⟨p', l', s', d', js⟩ := y
      simp only [cdV] at u0 u1 u2 u3 u4 v0 v1 v2 v3 v4 hxl hyl SX HIx HJx
      have T := two_box wq 37 37 #[.int .i64 p, .int .i64 l, .int .i64 s, .int .i64 d, .slice ia is.length ic] #[.int .i64 p', .int .i64 l', .int .i64 s', .int .i64 d', .slice ja js.length jc]
      have HT := hid T.2.2
      have T1 := hid T.1
      have T2 := hid T.2.1
      have SY := hid (SX.out ((wq.alloc (.cells #[.int .i64 p, .int .i64 l, .int .i64 s, .int .i64 d, .slice ia is.length ic] 37)).alloc (.cells #[.int .i64 p', .int .i64 l', .int .i64 s', .int .i64 d', .slice ja js.length jc] 37)) (by have := T.2.2.size; omega) (insIn_on HIx.out (T.2.2.mono (by omega))) (insIn_on HJx.out (T.2.2.mono (by omega))))
      clear T SX
      go_wp2_with fail
      refine SY.out.mono ?_
      rintro e w1 ⟨⟨r, rfl, hr⟩, b1⟩
      have B1 := hid (below_on hL.out (below_on HT.out b1))
      clear b1 SY
      cases r with
      | false =>
        have H := hid (NO.out fun h => by have := hr.2 h; cases this)
        clear hr
        go_wp2_with fail
        go_ret
        exact ⟨⟨false, rfl, by simp [H.out]⟩, B1.out⟩
      | true =>
        have H := hid (A2.out (hr.1 rfl))
        clear hr
        go_wp2_with fail
        exact ⟨⟨i + 1, by omega, by simp, H, B1⟩, by simp [intOf]; omega⟩
    · have hie : i = n := by omega
      subst hie
      have H := hid (show Q from QF.out.2 (rows_is HL.out (fun k x y hk => hA.out k x y (by rw [← HN.out]; exact hk))))
      go_wp2_with fail
      go_ret
      exact ⟨⟨true, rfl, by simp [H.out]⟩, hL.out⟩
theorem pg_eq {G G' : Int} {ss ss' : List ByteArray} {cs cs' : List Cd} : ((⟨G, ss, cs⟩ : Pg) = ⟨G', ss', cs'⟩) ↔ (G == G') = true ∧ ss = ss' ∧ cs = cs' := by
  simp
/-- what Same needs to know of a program -/
structure PgS (B : Nat) (w : World) (P : Pg) (pv cv : Value) : Prop where
  pool : PlIn B w pv P.pool
  codes : CdsIn B w cv P.codes
  few : P.pool.length ≤ 1000000 ∧ P.codes.length ≤ 1000000
  ins : ∀ c ∈ P.codes, c.ins.length ≤ 1000000
set_option maxHeartbeats 3200000 in
theorem csame_calls (B : Nat) (P P' : Pg) (pv cv pv' cv' : Value) (w : World) (hB : B ≤ w.heap.size) (ha : PgS B w P pv cv) (hb : PgS B w P' pv' cv') :
    Calls Try.prog 11 #[pgV P pv cv, pgV P' pv' cv'] w fun e w' => SameOut (P = P') e ∧ Below w.heap.size w w' := by
  obtain ⟨G, ss, cs⟩ := P
  obtain ⟨G', ss', cs'⟩ := P'
  simp only [pgV] at *
  obtain ⟨pa, pc, rfl⟩ := plIn_shape ha.pool
  obtain ⟨ca, cc, rfl⟩ := cdsIn_shape ha.codes
  obtain ⟨pa', pc', rfl⟩ := plIn_shape hb.pool
  obtain ⟨ca', cc', rfl⟩ := cdsIn_shape hb.codes
  have QF := hid (pg_eq (G := G) (ss := ss) (cs := cs) (G' := G') (ss' := ss') (cs' := cs'))
  generalize ((⟨G, ss, cs⟩ : Pg) = ⟨G', ss', cs'⟩) = Q at *
  have T := two_box w 25 25 #[.int .i64 G, .slice pa ss.length pc, .slice ca cs.length cc] #[.int .i64 G', .slice pa' ss'.length pc', .slice ca' cs'.length cc']
  have HT := hid T.2.2
  have T1 := hid T.1
  have T2 := hid T.2.1
  have SE := hid (fun W (q : Below w.heap.size w W) => sequal_calls B ss ss' (.slice pa ss.length pc) (.slice pa' ss'.length pc') W (Nat.le_trans hB q.size) (plIn_on ha.pool (q.mono hB)) (plIn_on hb.pool (q.mono hB)) ha.few.1 hb.few.1)
  have CE := hid (fun W (q : Below w.heap.size w W) => cequal_calls B cs cs' (.slice ca cs.length cc) (.slice ca' cs'.length cc') W (Nat.le_trans hB q.size) (cdsIn_on ha.codes (q.mono hB)) (cdsIn_on hb.codes (q.mono hB)) ha.few.2 hb.few.2 ha.ins hb.ins)
  clear T ha hb
  cases eG : (G == G')
  · have H := hid (show ¬ Q from fun h => by have := QF.out.1 h; rw [eG] at this; simp at this)
    go_enter Try.func11, Try.ntmps11
    go_wp2_with fail
    go_ret
    exact ⟨⟨false, rfl, by simp [H.out]⟩, HT.out⟩
  replace QF := hid (show Q ↔ ss = ss' ∧ cs = cs' from QF.out.trans ⟨fun h => h.2, fun h => ⟨eG, h⟩⟩)
  go_enter Try.func11, Try.ntmps11
  go_upto_region 1 with fail
  generalize hW : (w.alloc (.cells #[.int .i64 G, .slice pa ss.length pc, .slice ca cs.length cc] 25)).alloc (.cells #[.int .i64 G', .slice pa' ss'.length pc', .slice ca' cs'.length cc'] 25) = w2 at *
  have p0 : w2.cell? ⟨w.heap.size, 0, none⟩ = some (.int .i64 G) := blk_cellZ T1.out 0 rfl
  have p1 : w2.cell? ⟨w.heap.size, 1, none⟩ = some (.slice pa ss.length pc) := blk_cellZ T1.out 1 rfl
  have q0 : w2.cell? ⟨w.heap.size + 1, 0, none⟩ = some (.int .i64 G') := blk_cellZ T2.out 0 rfl
  have q1 : w2.cell? ⟨w.heap.size + 1, 1, none⟩ = some (.slice pa' ss'.length pc') := blk_cellZ T2.out 1 rfl
  go_wp2_with fail
  refine (SE.out _ HT.out).mono ?_
  rintro e w3 ⟨⟨r, rfl, hr⟩, b3⟩
  have B3 := hid (below_on HT.out b3)
  have T13 := hid (blk_on T1.out b3)
  have T23 := hid (blk_on T2.out b3)
  clear b3 p0 p1 q0 q1
  cases r with
  | false =>
    have H := hid (show ¬ Q from fun h => by have := hr.2 (QF.out.1 h).1; cases this)
    clear hr
    go_wp2_with fail
    go_ret
    exact ⟨⟨false, rfl, by simp [H.out]⟩, B3.out⟩
  | true =>
    replace QF := hid (show Q ↔ cs = cs' from QF.out.trans ⟨fun h => h.2, fun h => ⟨hr.1 rfl, h⟩⟩)
    clear hr
    have p2 : w3.cell? ⟨w.heap.size, 2, none⟩ = some (.slice ca cs.length cc) := blk_cellZ T13.out 2 rfl
    have q2 : w3.cell? ⟨w.heap.size + 1, 2, none⟩ = some (.slice ca' cs'.length cc') := blk_cellZ T23.out 2 rfl
    go_wp2_with fail
    refine (CE.out _ B3.out).mono ?_
    rintro e w4 ⟨⟨r, rfl, hr⟩, b4⟩
    have B4 := hid (below_on B3.out b4)
    have H := hid (hr.trans QF.out.symm)
    clear b4 hr
    go_wp2_with fail
    go_ret
    exact ⟨⟨r, rfl, H.out⟩, B4.out⟩

end Go.Proofs.Ytciobggfefmgnaa
