/- Are two lists of numbers one: the law's own word. -/
import Derived.Test.YtciobggfefmgnaaTk
import Derived.Test.YtciobggfefmgnaaCdTgt
namespace Go.Proofs.Ytciobggfefmgnaa
set_option linter.unusedSimpArgs false
set_option linter.unusedVariables false
set_option maxRecDepth 100000
open Go.RowKit

theorem lists_no {xs ys : List Int} {i : Nat} {x y : Int} (hx : xs[i]? = some x) (hy : ys[i]? = some y) (h : x ≠ y) : (decide (xs = ys)) = false := decide_eq_false fun e => by
  rw [e, hy] at hx
  exact h (Option.some.inj hx).symm
theorem lists_is {xs ys : List Int} (hl : xs.length = ys.length) (h : ∀ (k : Nat) x y, k < xs.length → xs[k]? = some x → ys[k]? = some y → x = y) : decide (xs = ys) = true := decide_eq_true (List.ext_getElem hl fun k h1 h2 => h k _ _ h1 (List.getElem?_eq_getElem h1) (List.getElem?_eq_getElem h2))
set_option maxHeartbeats 3200000 in
theorem nums_calls (B : Nat) (xs ys : List Int) (va vb : Value) (w : World) (hB : B ≤ w.heap.size) (ha : NsIn B w va xs) (hb : NsIn B w vb ys) (hl : xs.length ≤ 1000000) (hm : ys.length ≤ 1000000) :
    Calls Try.prog 13 #[va, vb] w fun e w' => e = .returned (.bool (decide (xs = ys))) ∧ Below w.heap.size w w' := by
  obtain ⟨aa, ac, rfl⟩ := nsIn_shape ha
  obtain ⟨ba, bc, rfl⟩ := nsIn_shape hb
  have HA := hid ha
  have HB := hid hb
  clear ha hb
  by_cases hlen : xs.length = ys.length
  rotate_left 1
  · have H := hid (show decide (xs = ys) = false from decide_eq_false fun e => hlen (by rw [e]))
    have hne : ((xs.length : Int) != (ys.length : Int)) = true := by simpa using (show (xs.length : Int) ≠ (ys.length : Int) by omega)
    clear hlen
    go_enter Try.func13, Try.ntmps13
    go_wp2_with fail
    go_ret
    exact ⟨by rw [H.out]; rfl, Below.refl _ _⟩
  have HL := hid hlen
  rw [← hlen] at HB
  have hm' := hm
  rw [← hlen]
  clear hlen hm hm'
  obtain ⟨n, hn⟩ : ∃ n, xs.length = n := ⟨_, rfl⟩
  have HN := hid hn
  rw [hn] at HA HB hl ⊢
  clear hn
  go_enter Try.func13, Try.ntmps13
  go_wp2_with fail
  go_loopw [5] (fun iV wr => ∃ i : Nat, i ≤ n ∧ iV = .int .i64 i ∧ Hid (∀ (k : Nat) x y, k < i → xs[k]? = some x → ys[k]? = some y → x = y) ∧ Hid (Below w.heap.size w wr)) (fun iV _ => n - (intOf iV).toNat)
  case atStart => exact ⟨0, by omega, rfl, hid (fun k x y hk => absurd hk (Nat.not_lt_zero _)), hid (Below.refl _ _)⟩
  case round =>
    obtain ⟨i, hi, rfl, hA, hL⟩ := hrel
    by_cases hil : i < n
    · obtain ⟨x, hx⟩ : ∃ x, xs[i]? = some x := ⟨_, List.getElem?_eq_getElem (by rw [HN.out]; exact hil)⟩
      obtain ⟨y, hy⟩ : ∃ y, ys[i]? = some y := ⟨_, List.getElem?_eq_getElem (by rw [← HL.out, HN.out]; exact hil)⟩
      obtain ⟨gb, go, h1, h2, h3⟩ := nsIn_at (by rw [HN.out]; exact HA.out) hx
      obtain ⟨qb, qo, k1, k2, k3⟩ := nsIn_at (by rw [← HL.out, HN.out]; exact HB.out) hy
      subst h1
      subst k1
      have hil' : (i : Int) < (n : Int) := by omega
      replace h3 := cellB hL.out (by simp only; omega) h3
      replace k3 := cellB hL.out (by simp only; omega) k3
      by_cases hxy : x = y
      · subst hxy
        have A2 := hid (show ∀ (k : Nat) x y, k < i + 1 → xs[k]? = some x → ys[k]? = some y → x = y from fun k u v hk hu hv => by
          by_cases hki : k = i
          · subst hki
            rw [hx] at hu
            rw [hy] at hv
            exact (Option.some.inj hu).symm.trans (Option.some.inj hv)
          · exact hA.out k u v (by omega) hu hv)
        go_upto_region 6 with fail
        refine wp_region_held_drew (S := fun aZ => aZ.cell? ⟨gb, go + i, none⟩ = some (.int .i64 x) ∧ aZ.cell? ⟨qb, qo + i, none⟩ = some (.int .i64 x)) (by kernel_rfl) ?_ (fun hHeld => ?_)
        · (refine ⟨?_, ?_⟩ <;> go_simp)
        refine tkk 0 ?_
        refine tkk 1 ?_
        refine tkk 2 ?_
        refine tkk 3 ?_
        refine tkk 4 ?_
        refine tkk 5 ?_
        refine tkk 6 ?_
        refine tkk 7 ?_
        refine tkk 8 ?_
        refine wpAnyH_done (by kernel_rfl) ?_ _
        go_wp2_with fail
        exact ⟨⟨i + 1, by omega, by simp, A2, hid hL.out.drew⟩, by simp [intOf]; omega⟩
      · have H := hid (lists_no hx hy hxy)
        have hne : (x != y) = true := by simpa using hxy
        clear hxy
        go_upto_region 6 with fail
        refine wp_region_held_drew (S := fun aZ => aZ.cell? ⟨gb, go + i, none⟩ = some (.int .i64 x) ∧ aZ.cell? ⟨qb, qo + i, none⟩ = some (.int .i64 y)) (by kernel_rfl) ?_ (fun hHeld => ?_)
        · (refine ⟨?_, ?_⟩ <;> go_simp)
        refine tkk 0 ?_
        refine tkk 1 ?_
        refine tkk 2 ?_
        refine tkk 3 ?_
        refine tkk 4 ?_
        refine tkk 5 ?_
        refine tkk 6 ?_
        refine tkk 7 ?_
        refine tkk 8 ?_
        refine wpAnyH_done (by kernel_rfl) ?_ _
        go_wp2_with fail
        go_ret
        exact ⟨by rw [H.out]; rfl, hL.out.drew⟩
    · have hie : i = n := by omega
      subst hie
      have H := hid (lists_is HL.out (fun k x y hk => hA.out k x y (by rw [← HN.out]; exact hk)))
      go_wp2_with fail
      go_ret
      exact ⟨by rw [H.out]; rfl, hL.out⟩

end Go.Proofs.Ytciobggfefmgnaa
