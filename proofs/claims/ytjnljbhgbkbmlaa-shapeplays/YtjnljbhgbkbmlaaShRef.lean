/- The document's forest. -/
import Derived.Test.YtjnljbhgbkbmlaaShLaw
namespace Go.Proofs.Ytjnljbhgbkbmlaa
set_option linter.unusedSimpArgs false
open Go.RowKit

set_option maxRecDepth 100000 in
set_option maxHeartbeats 1000000 in
theorem rsame_calls {a b : Value} {xs ys : List Int} (w : World) (ha : IntsAt a xs w) (hb : IntsAt b ys w) (hx : xs.length ≤ 1000000) :
    Calls Try.prog 42 #[a, b] w fun e w' => e = .returned (.bool (decide (xs = ys))) ∧ Below w.heap.size w w' := by
  obtain ⟨ao, ca, rfl⟩ := intsAt_shape ha
  obtain ⟨bo, cb, rfl⟩ := intsAt_shape hb
  have HA := hid ha
  have HB := hid hb
  clear ha hb
  by_cases hl : xs.length = ys.length
  · have dl : ((xs.length : Int) != (ys.length : Int)) = false := by simp [hl]
    have HL := hid hl
    clear hl
    go_enter Try.func42, Try.ntmps42
    go_wp2_with fail
    go_loopw [5] (fun i wr => ∃ k : Nat, k ≤ xs.length ∧ i = .int .i64 k ∧ Hid (∀ j : Nat, j < k → xs[j]? = ys[j]?) ∧ Hid (Below w.heap.size w wr)) (fun i _ => xs.length - (intOf i).toNat)
    case atStart => exact ⟨0, Nat.zero_le _, rfl, hid (fun j hj => absurd hj (Nat.not_lt_zero _)), hid (Below.refl _ _)⟩
    case round =>
      obtain ⟨k, hk, rfl, hE, hB⟩ := hrel
      by_cases hkl : k < xs.length
      · obtain ⟨x, hxk⟩ : ∃ x, xs[k]? = some x := ⟨xs[k], List.getElem?_eq_getElem hkl⟩
        obtain ⟨y, hyk⟩ : ∃ y, ys[k]? = some y := ⟨ys[k]'(by have := HL.out; omega), List.getElem?_eq_getElem (by have := HL.out; omega)⟩
        obtain ⟨b1, o1, rfl, hb1, c1⟩ := intsAt_at (intsAt_on HA.out hB.out) hxk
        obtain ⟨b2, o2, rfl, hb2, c2⟩ := intsAt_at (intsAt_on HB.out hB.out) hyk
        have hky : k < ys.length := by have := HL.out; omega
        have HX := hid hxk
        have HY := hid hyk
        clear hxk hyk
        by_cases hxy : x = y
        · subst hxy
          have HE := hid (show ∀ j : Nat, j < k + 1 → xs[j]? = ys[j]? from fun j hj => by
            rcases Nat.lt_or_ge j k with h1 | h1
            · exact hE.out j h1
            · have : j = k := by omega
              subst this
              rw [HX.out, HY.out])
          clear hE
          go_wp2_with fail
          refine wp_region_held_drew (S := fun a => a.cell? ⟨b1, o1 + k, none⟩ = some (.int .i64 x) ∧ a.cell? ⟨b2, o2 + k, none⟩ = some (.int .i64 x)) (by kernel_rfl) ⟨c1, c2⟩ (fun hHeld => ?_)
          refine wpAnyH_take (i := 0) (v := ?v1) rfl (by kernel_rfl) (by kernel_rfl) (by kernel_rfl) (fun _ _ _ h => h) (Or.inl ⟨by rfl, ?hy1⟩) (by assumption) ?_
          case hy1 => (intro w hSw; go_simp <;> (try with_reducible rfl))
          simp only [Act.put, List.setIfInBounds_toArray, List.set_cons_zero, List.set_cons_succ, List.getElem_toArray, List.getElem_cons_succ, List.getElem_cons_zero]
          refine wpAnyH_take (i := 1) (v := ?v2) rfl (by kernel_rfl) (by kernel_rfl) (by kernel_rfl) (fun _ _ _ h => h) (Or.inl ⟨by rfl, ?hy2⟩) (by assumption) ?_
          case hy2 => (intro w hSw; go_simp <;> (try with_reducible rfl))
          simp only [Act.put, List.setIfInBounds_toArray, List.set_cons_zero, List.set_cons_succ, List.getElem_toArray, List.getElem_cons_succ, List.getElem_cons_zero]
          refine wpAnyH_take (i := 2) (v := ?v3) rfl (by kernel_rfl) (by kernel_rfl) (by kernel_rfl) (fun _ _ _ h => h) (Or.inl ⟨by rfl, ?hy3⟩) (by assumption) ?_
          case hy3 => (intro w hSw; go_simp <;> (try with_reducible rfl))
          simp only [Act.put, List.setIfInBounds_toArray, List.set_cons_zero, List.set_cons_succ, List.getElem_toArray, List.getElem_cons_succ, List.getElem_cons_zero]
          refine wpAnyH_take (i := 3) (v := ?v4) rfl (by kernel_rfl) (by kernel_rfl) (by kernel_rfl) (fun _ _ _ h => h) (Or.inl ⟨by rfl, ?hy4⟩) (by assumption) ?_
          case hy4 => (intro w hSw; go_simp <;> (try with_reducible rfl))
          simp only [Act.put, List.setIfInBounds_toArray, List.set_cons_zero, List.set_cons_succ, List.getElem_toArray, List.getElem_cons_succ, List.getElem_cons_zero]
          refine wpAnyH_take (i := 4) (v := ?v5) rfl (by kernel_rfl) (by kernel_rfl) (by kernel_rfl) (fun _ _ _ h => h) (Or.inl ⟨by rfl, ?hy5⟩) (by assumption) ?_
          case hy5 => (intro w hSw; go_simp <;> (try with_reducible rfl))
          simp only [Act.put, List.setIfInBounds_toArray, List.set_cons_zero, List.set_cons_succ, List.getElem_toArray, List.getElem_cons_succ, List.getElem_cons_zero]
          refine wpAnyH_take (i := 5) (v := ?v6) rfl (by kernel_rfl) (by kernel_rfl) (by kernel_rfl) (fun _ _ _ h => h) (Or.inl ⟨by rfl, ?hy6⟩) (by assumption) ?_
          case hy6 => (intro w hSw; go_simp <;> (try with_reducible rfl))
          simp only [Act.put, List.setIfInBounds_toArray, List.set_cons_zero, List.set_cons_succ, List.getElem_toArray, List.getElem_cons_succ, List.getElem_cons_zero]
          refine wpAnyH_take (i := 6) (v := ?v7) rfl (by kernel_rfl) (by kernel_rfl) (by kernel_rfl) (fun _ _ _ h => h) (Or.inl ⟨by rfl, ?hy7⟩) (by assumption) ?_
          case hy7 => (intro w hSw; go_simp <;> (try with_reducible rfl))
          simp only [Act.put, List.setIfInBounds_toArray, List.set_cons_zero, List.set_cons_succ, List.getElem_toArray, List.getElem_cons_succ, List.getElem_cons_zero]
          refine wpAnyH_take (i := 7) (v := ?v8) rfl (by kernel_rfl) (by kernel_rfl) (by kernel_rfl) (fun _ _ _ h => h) (Or.inl ⟨by rfl, ?hy8⟩) (by assumption) ?_
          case hy8 => (intro w hSw; go_simp <;> (try with_reducible rfl))
          simp only [Act.put, List.setIfInBounds_toArray, List.set_cons_zero, List.set_cons_succ, List.getElem_toArray, List.getElem_cons_succ, List.getElem_cons_zero]
          refine wpAnyH_take (i := 8) (v := ?v9) rfl (by kernel_rfl) (by kernel_rfl) (by kernel_rfl) (fun _ _ _ h => h) (Or.inl ⟨by rfl, ?hy9⟩) (by assumption) ?_
          case hy9 => (intro w hSw; go_simp <;> (try with_reducible rfl))
          simp only [Act.put, List.setIfInBounds_toArray, List.set_cons_zero, List.set_cons_succ, List.getElem_toArray, List.getElem_cons_succ, List.getElem_cons_zero]
          refine wpAnyH_done (by kernel_rfl) ?_ _
          go_wp2_with fail
          exact ⟨⟨k + 1, by omega, by simp, HE, hid (hB.out.drew)⟩, by simp [intOf]; omega⟩
        · have dxy : (x != y) = true := by simpa using hxy
          have HN := hid (show decide (xs = ys) = false from decide_eq_false (fun e => by
            have h1 := HX.out
            rw [e, HY.out] at h1
            exact hxy (Option.some.inj h1).symm))
          clear hE hxy
          go_wp2_with fail
          refine wp_region_held_drew (S := fun a => a.cell? ⟨b1, o1 + k, none⟩ = some (.int .i64 x) ∧ a.cell? ⟨b2, o2 + k, none⟩ = some (.int .i64 y)) (by kernel_rfl) ⟨c1, c2⟩ (fun hHeld => ?_)
          refine wpAnyH_take (i := 0) (v := ?v10) rfl (by kernel_rfl) (by kernel_rfl) (by kernel_rfl) (fun _ _ _ h => h) (Or.inl ⟨by rfl, ?hy10⟩) (by assumption) ?_
          case hy10 => (intro w hSw; go_simp <;> (try with_reducible rfl))
          simp only [Act.put, List.setIfInBounds_toArray, List.set_cons_zero, List.set_cons_succ, List.getElem_toArray, List.getElem_cons_succ, List.getElem_cons_zero]
          refine wpAnyH_take (i := 1) (v := ?v11) rfl (by kernel_rfl) (by kernel_rfl) (by kernel_rfl) (fun _ _ _ h => h) (Or.inl ⟨by rfl, ?hy11⟩) (by assumption) ?_
          case hy11 => (intro w hSw; go_simp <;> (try with_reducible rfl))
          simp only [Act.put, List.setIfInBounds_toArray, List.set_cons_zero, List.set_cons_succ, List.getElem_toArray, List.getElem_cons_succ, List.getElem_cons_zero]
          refine wpAnyH_take (i := 2) (v := ?v12) rfl (by kernel_rfl) (by kernel_rfl) (by kernel_rfl) (fun _ _ _ h => h) (Or.inl ⟨by rfl, ?hy12⟩) (by assumption) ?_
          case hy12 => (intro w hSw; go_simp <;> (try with_reducible rfl))
          simp only [Act.put, List.setIfInBounds_toArray, List.set_cons_zero, List.set_cons_succ, List.getElem_toArray, List.getElem_cons_succ, List.getElem_cons_zero]
          refine wpAnyH_take (i := 3) (v := ?v13) rfl (by kernel_rfl) (by kernel_rfl) (by kernel_rfl) (fun _ _ _ h => h) (Or.inl ⟨by rfl, ?hy13⟩) (by assumption) ?_
          case hy13 => (intro w hSw; go_simp <;> (try with_reducible rfl))
          simp only [Act.put, List.setIfInBounds_toArray, List.set_cons_zero, List.set_cons_succ, List.getElem_toArray, List.getElem_cons_succ, List.getElem_cons_zero]
          refine wpAnyH_take (i := 4) (v := ?v14) rfl (by kernel_rfl) (by kernel_rfl) (by kernel_rfl) (fun _ _ _ h => h) (Or.inl ⟨by rfl, ?hy14⟩) (by assumption) ?_
          case hy14 => (intro w hSw; go_simp <;> (try with_reducible rfl))
          simp only [Act.put, List.setIfInBounds_toArray, List.set_cons_zero, List.set_cons_succ, List.getElem_toArray, List.getElem_cons_succ, List.getElem_cons_zero]
          refine wpAnyH_take (i := 5) (v := ?v15) rfl (by kernel_rfl) (by kernel_rfl) (by kernel_rfl) (fun _ _ _ h => h) (Or.inl ⟨by rfl, ?hy15⟩) (by assumption) ?_
          case hy15 => (intro w hSw; go_simp <;> (try with_reducible rfl))
          simp only [Act.put, List.setIfInBounds_toArray, List.set_cons_zero, List.set_cons_succ, List.getElem_toArray, List.getElem_cons_succ, List.getElem_cons_zero]
          refine wpAnyH_take (i := 6) (v := ?v16) rfl (by kernel_rfl) (by kernel_rfl) (by kernel_rfl) (fun _ _ _ h => h) (Or.inl ⟨by rfl, ?hy16⟩) (by assumption) ?_
          case hy16 => (intro w hSw; go_simp <;> (try with_reducible rfl))
          simp only [Act.put, List.setIfInBounds_toArray, List.set_cons_zero, List.set_cons_succ, List.getElem_toArray, List.getElem_cons_succ, List.getElem_cons_zero]
          refine wpAnyH_take (i := 7) (v := ?v17) rfl (by kernel_rfl) (by kernel_rfl) (by kernel_rfl) (fun _ _ _ h => h) (Or.inl ⟨by rfl, ?hy17⟩) (by assumption) ?_
          case hy17 => (intro w hSw; go_simp <;> (try with_reducible rfl))
          simp only [Act.put, List.setIfInBounds_toArray, List.set_cons_zero, List.set_cons_succ, List.getElem_toArray, List.getElem_cons_succ, List.getElem_cons_zero]
          refine wpAnyH_take (i := 8) (v := ?v18) rfl (by kernel_rfl) (by kernel_rfl) (by kernel_rfl) (fun _ _ _ h => h) (Or.inl ⟨by rfl, ?hy18⟩) (by assumption) ?_
          case hy18 => (intro w hSw; go_simp <;> (try with_reducible rfl))
          simp only [Act.put, List.setIfInBounds_toArray, List.set_cons_zero, List.set_cons_succ, List.getElem_toArray, List.getElem_cons_succ, List.getElem_cons_zero]
          refine wpAnyH_done (by kernel_rfl) ?_ _
          go_wp2_with fail
          go_ret
          exact ⟨by rw [HN.out]; rfl, hB.out.drew⟩
      · have hke : k = xs.length := by omega
        subst hke
        go_wp2_with fail
        go_ret
        have he : xs = ys := by
          apply List.ext_getElem?
          intro j
          rcases Nat.lt_or_ge j xs.length with h1 | h1
          · exact hE.out j h1
          · rw [List.getElem?_eq_none h1, List.getElem?_eq_none (by have := HL.out; omega)]
        exact ⟨by rw [decide_eq_true he]; rfl, hB.out⟩
  · have dl : ((xs.length : Int) != (ys.length : Int)) = true := by simp; omega
    have HN := hid (show decide (xs = ys) = false from decide_eq_false (fun e => hl (by rw [e])))
    clear hl
    go_enter Try.func42, Try.ntmps42
    go_wp2_with fail
    go_ret
    exact ⟨by rw [HN.out]; rfl, Below.refl _ _⟩

/-- the cells of the document's list -/
def rowC : List (Sh × Value) → List Value
  | [] => []
  | q :: r => .int .i64 q.1.1 :: q.2 :: rowC r
theorem rowC_len : ∀ ps : List (Sh × Value), (rowC ps).length = ps.length * 2
  | [] => rfl
  | q :: r => by simp [rowC, rowC_len r]; omega
theorem rowC_snoc : ∀ (ps : List (Sh × Value)) (q : Sh × Value), rowC (ps ++ [q]) = rowC ps ++ [.int .i64 q.1.1, q.2]
  | [], _ => rfl
  | p :: r, q => by simp [rowC, rowC_snoc r q]
theorem rowC_at : ∀ {ps : List (Sh × Value)} {i : Nat} {q : Sh × Value}, ps[i]? = some q → (rowC ps)[i * 2]? = some (.int .i64 q.1.1) ∧ (rowC ps)[i * 2 + 1]? = some q.2
  | [], _, _, h => by simp at h
  | p :: r, 0, q, h => by
    have : p = q := by simpa using h
    subst this
    exact ⟨rfl, rfl⟩
  | p :: r, i + 1, q, h => by
    have := rowC_at (ps := r) (i := i) (q := q) (by simpa using h)
    rw [show (i + 1) * 2 = i * 2 + 1 + 1 by omega, show (i * 2 + 1 + 1) + 1 = (i * 2 + 1) + 1 + 1 by omega]
    exact this
abbrev namesOf (v : Value) (ns : List Int) (w : World) : Prop := w.ownsRow 0 3 1 v ns.length (ns.map (Value.int .i64)) ∧ (ns = [] → v = .slice none 0 0)
/-- the document's forest at r -/
def RfS (S : Nat → Prop) (r M : Nat) (L : List Sh) (w : World) : Prop :=
  ∃ v ps, Blk r 53 #[v, .int .i64 (M : Int)] w ∧ w.ownsRow 0 57 2 v L.length (rowC ps) ∧ ps.map (·.1) = L ∧ (∀ q ∈ ps, namesOf q.2 q.1.2 w) ∧ S r ∧ (∀ g, v.ownBlock = some g → S g) ∧ ∀ q ∈ ps, ∀ g, q.2.ownBlock = some g → S g
theorem RfS.mono {S T : Nat → Prop} {r M : Nat} {L : List Sh} {w : World} (h : RfS S r M L w) (hS : ∀ b, b < w.heap.size → S b → T b) : RfS T r M L w := by
  obtain ⟨v, ps, h1, h2, h3, h4, h5, h6, h7⟩ := h
  exact ⟨v, ps, h1, h2, h3, h4, hS r (blk_lt h1) h5, fun g hg => hS g (row_new h2 hg).2 (h6 g hg), fun q hq g hg => hS g (row_new (h4 q hq).1 hg).2 (h7 q hq g hg)⟩
theorem RfS.keep {S T : Nat → Prop} {r M : Nat} {L : List Sh} {a c : World} (h : RfS S r M L a) (k : Keep T a c) (hT : ∀ b, b < a.heap.size → S b → ¬ T b) : RfS S r M L c := by
  obtain ⟨v, ps, h1, h2, h3, h4, h5, h6, h7⟩ := h
  exact ⟨v, ps, blk_keep h1 k (hT r (blk_lt h1) h5), row_keep h2 (fun g hg => k.block g (row_new h2 hg).2 (hT g (row_new h2 hg).2 (h6 g hg))), h3,
    fun q hq => ⟨row_keep (h4 q hq).1 (fun g hg => k.block g (row_new (h4 q hq).1 hg).2 (hT g (row_new (h4 q hq).1 hg).2 (h7 q hq g hg))), (h4 q hq).2⟩, h5, h6, h7⟩
theorem RfS.on {S : Nat → Prop} {r M : Nat} {L : List Sh} {a c : World} (h : RfS S r M L a) (k : Below a.heap.size a c) : RfS S r M L c :=
  h.keep (T := fun _ => False) (Keep.of k) (fun _ _ _ h => h)
theorem RfS.lt {S : Nat → Prop} {r M : Nat} {L : List Sh} {w : World} (h : RfS S r M L w) : r < w.heap.size := by
  obtain ⟨v, ps, h1, _⟩ := h
  exact blk_lt h1
/-- its two cells -/
theorem RfS.cells {S : Nat → Prop} {r M : Nat} {L : List Sh} {w : World} (h : RfS S r M L w) : ∃ ao cap, w.cell? ⟨r, 0, none⟩ = some (.slice ao L.length cap) ∧ w.cell? ⟨r, 1, none⟩ = some (.int .i64 (M : Int)) := by
  obtain ⟨v, ps, h1, h2, _⟩ := h
  obtain ⟨ao, cap, rfl⟩ := row_shape h2
  exact ⟨ao, cap, by rw [blk_cell h1]; rfl, by rw [blk_cell h1]; rfl⟩
/-- a shape of it -/
theorem RfS.at' {S : Nat → Prop} {r M i : Nat} {L : List Sh} {s : Sh} {w : World} (h : RfS S r M L w) (hi : L[i]? = some s) :
    ∃ g cap no nc, w.cell? ⟨r, 0, none⟩ = some (.slice (some ⟨g, 0, none⟩) L.length cap) ∧ g < w.heap.size ∧ w.cell? ⟨g, i * 2, none⟩ = some (.int .i64 s.1) ∧ w.cell? ⟨g, i * 2 + 1, none⟩ = some (.slice no s.2.length nc) ∧ namesOf (.slice no s.2.length nc) s.2 w ∧ ∀ b, (Value.slice no s.2.length nc).ownBlock = some b → S b := by
  obtain ⟨v, ps, h1, h2, h3, h4, h5, h6, h7⟩ := h
  have hl := lt_of_get hi
  obtain ⟨g, cap, rfl, _, hlt⟩ := h2.form (by omega)
  have hp : ∃ q, ps[i]? = some q ∧ q.1 = s := by
    rw [← h3, List.getElem?_map] at hi
    obtain ⟨q, hq, e⟩ := Option.map_eq_some_iff.1 hi
    exact ⟨q, hq, e⟩
  obtain ⟨q, hq, rfl⟩ := hp
  have hm := List.mem_of_getElem? hq
  obtain ⟨no, nc, hv⟩ := row_shape (h4 q hm).1
  obtain ⟨r1, r2⟩ := rowC_at hq
  refine ⟨g, cap, no, nc, by rw [blk_cell h1]; rfl, hlt, row_cell h2 r1, by rw [← hv]; exact row_cell h2 r2, by rw [← hv]; exact h4 q hm, by rw [← hv]; exact h7 q hm⟩

theorem rnew_calls (w : World) (k : Int) :
    Calls Try.prog 9 #[.int .i64 k] w fun e w' => e = .returned (.pointer (some ⟨w.heap.size, 0, none⟩)) ∧ w' = w.alloc (.cells #[.slice none 0 0, .int .i64 (mostS k : Int)] 53) := by
  rcases Int.lt_or_le k 0 with h1 | h1
  · have hM : mostS k = 0 := by unfold mostS; rw [if_pos h1]
    rw [hM]
    go_enter Try.func9, Try.ntmps9
    go_wp2_with fail
    go_ret
    exact ⟨rfl, rfl⟩
  · rcases Int.lt_or_le 150 k with h2 | h2
    · have hM : mostS k = 150 := by unfold mostS; rw [if_neg (by omega), if_pos h2]
      rw [hM]
      go_enter Try.func9, Try.ntmps9
      go_wp2_with fail
      go_ret
      exact ⟨rfl, rfl⟩
    · obtain ⟨n, rfl⟩ : ∃ n : Nat, k = (n : Int) := ⟨k.toNat, by omega⟩
      have hM : mostS (n : Int) = n := by unfold mostS; rw [if_neg (by omega), if_neg (by omega)]; omega
      rw [hM]
      clear h1
      go_enter Try.func9, Try.ntmps9
      go_wp2_with fail
      go_ret
      exact ⟨rfl, rfl⟩
theorem rf_new (w : World) (M : Nat) : RfS (fun b => w.heap.size ≤ b) w.heap.size M [] (w.alloc (.cells #[.slice none 0 0, .int .i64 (M : Int)] 53)) :=
  ⟨.slice none 0 0, [], blk_new _ _ _, ⟨rfl, .inl ⟨rfl, rfl⟩⟩, rfl, (fun q hq => by cases hq), Nat.le_refl _, (fun g hg => by simp [Value.ownBlock] at hg), (fun q hq => by cases hq)⟩
theorem rhas_calls {S : Nat → Prop} {r M : Nat} {L : List Sh} (w : World) (h : RfS S r M L w) (id : Int) :
    Calls Try.prog 29 #[.pointer (some ⟨r, 0, none⟩), .int .i64 id] w fun e w' => e = .returned (.bool (getS L id).isSome) ∧ w' = w := by
  obtain ⟨ao, cap, c0, c1⟩ := h.cells
  clear h
  cases hs : getS L id with
  | some s =>
    obtain ⟨i, rfl, hi⟩ := getS_some hs
    have hl := lt_of_get hi
    have d1 : decide (1 ≤ ((i + 1 : Nat) : Int)) = true := decide_eq_true (by omega)
    have d2 : decide (((i + 1 : Nat) : Int) ≤ (L.length : Int)) = true := decide_eq_true (by omega)
    generalize ((i + 1 : Nat) : Int) = j at *
    clear hs hi
    go_enter Try.func29, Try.ntmps29
    go_wp2_with fail
    go_ret
    exact ⟨rfl, rfl⟩
  | none =>
    have hn := getS_none hs
    clear hs
    by_cases h1 : 1 ≤ id
    · have d1 : decide (1 ≤ id) = true := decide_eq_true h1
      have d2 : decide (id ≤ (L.length : Int)) = false := decide_eq_false (by omega)
      clear hn
      go_enter Try.func29, Try.ntmps29
      go_wp2_with fail
      go_ret
      exact ⟨rfl, rfl⟩
    · have d1 : decide (1 ≤ id) = false := decide_eq_false h1
      clear hn
      go_enter Try.func29, Try.ntmps29
      go_wp2_with fail
      go_ret
      exact ⟨rfl, rfl⟩
theorem rnames_calls {S : Nat → Prop} {r M : Nat} {L : List Sh} (w : World) (h : RfS S r M L w) (hl : L.length ≤ 150) (id : Int) :
    Calls Try.prog 30 #[.pointer (some ⟨r, 0, none⟩), .int .i64 id] w fun e w' => (∃ no nc, e = .returned (.slice no (namesF L id).length nc) ∧ namesOf (.slice no (namesF L id).length nc) (namesF L id) w) ∧ w' = w := by
  have HH := hid (rhas_calls w h id)
  cases hg : getS L id with
  | none =>
    have hnf : namesF L id = [] := by unfold namesF; rw [hg]
    rw [hg] at HH
    rw [hnf]
    clear h
    go_enter Try.func30, Try.ntmps30
    go_wp2_with fail
    refine HH.out.mono ?_
    rintro e1 w1 ⟨rfl, rfl⟩
    go_wp2_with fail
    go_ret
    exact ⟨⟨_, _, rfl, World.ownsRow_nil _ _ _ _, fun _ => rfl⟩, rfl⟩
  | some s =>
    rw [hg] at HH
    obtain ⟨i, rfl, hi⟩ := getS_some hg
    have hnf : namesF L ((i + 1 : Nat) : Int) = s.2 := by unfold namesF; rw [hg]
    rw [hnf]
    obtain ⟨g, cap, no, nc, c0, hgl, c1, c2, c3, _⟩ := h.at' hi
    have hil := lt_of_get hi
    have C3 := hid c3
    clear h hg hi hnf c3
    go_enter Try.func30, Try.ntmps30
    go_wp2_with fail
    refine HH.out.mono ?_
    rintro e1 w1 ⟨rfl, rfl⟩
    go_wp2_with fail
    go_ret
    exact ⟨⟨_, _, rfl, C3.out⟩, rfl⟩
theorem slotO_first : ∀ {ns : List Int} {x : Int} {k : Nat}, (∀ (i : Nat) (y : Int), i < k → ns[i]? = some y → y ≠ x) → ns[k]? = some x → slotO ns x = some k
  | [], _, _, _, h => by simp at h
  | y :: r, x, 0, _, h => by
    have : y = x := by simpa using h
    simp [slotO, this]
  | y :: r, x, k + 1, h1, h => by
    have hne : y ≠ x := h1 0 y (by omega) rfl
    rw [slotO, if_neg hne, slotO_first (k := k) (fun i z hi hz => h1 (i + 1) z (by omega) (by simpa using hz)) (by simpa using h)]
    rfl
set_option maxHeartbeats 1000000 in
theorem rslot_calls {S : Nat → Prop} {r M : Nat} {L : List Sh} (w : World) (h : RfS S r M L w) (hl : L.length ≤ 150) (hf : ∀ (i : Nat) (s : Sh), L[i]? = some s → s.2.length ≤ 12) (id x : Int) :
    Calls Try.prog 32 #[.pointer (some ⟨r, 0, none⟩), .int .i64 id, .int .i64 x] w fun e w' => e = .returned (.int .i64 (slotF L id x)) ∧ w' = w := by
  have HH := hid (rhas_calls w h id)
  cases hg : getS L id with
  | none =>
    rw [show slotF L id x = -1 from by unfold slotF; rw [hg]]
    rw [hg] at HH
    clear h
    go_enter Try.func32, Try.ntmps32
    go_wp2_with fail
    refine HH.out.mono ?_
    rintro e1 w1 ⟨rfl, rfl⟩
    go_wp2_with fail
    go_ret
    exact ⟨rfl, rfl⟩
  | some s =>
    rw [hg] at HH
    obtain ⟨i, rfl, hi⟩ := getS_some hg
    rw [show slotF L ((i + 1 : Nat) : Int) x = slotS s.2 x from by unfold slotF; rw [hg]]
    obtain ⟨g, cap, no, nc, c0, hgl, c1, c2, c3, _⟩ := h.at' hi
    have hil := lt_of_get hi
    have C3 := hid (intsAt_row c3.1)
    have hfew := hf i s hi
    clear h hg hi c3 hf
    go_enter Try.func32, Try.ntmps32
    go_wp2_with fail
    refine HH.out.mono ?_
    rintro e1 w1 ⟨rfl, rfl⟩
    go_wp2_with fail
    go_loopw [8] (fun q wr => ∃ k : Nat, k ≤ s.2.length ∧ q = .int .i64 k ∧ Hid (∀ (i : Nat) (y : Int), i < k → s.2[i]? = some y → y ≠ x) ∧ wr = w1) (fun q _ => s.2.length - (intOf q).toNat)
    case atStart => exact ⟨0, Nat.zero_le _, rfl, hid (fun i y hi => absurd hi (Nat.not_lt_zero _)), rfl⟩
    case round =>
      obtain ⟨k, hk, rfl, hA, rfl⟩ := hrel
      by_cases hkl : k < s.2.length
      · obtain ⟨y, hy⟩ : ∃ y, s.2[k]? = some y := ⟨s.2[k], List.getElem?_eq_getElem hkl⟩
        obtain ⟨b, off, rfl, hb, q0⟩ := intsAt_at C3.out hy
        by_cases hyx : y = x
        · subst hyx
          have HV := hid (show slotS s.2 y = (k : Int) by unfold slotS; rw [slotO_first hA.out hy])
          clear hy
          go_wp2_with fail
          go_ret
          exact ⟨by rw [HV.out]; rfl, rfl⟩
        · have dyx : (y == x) = false := by simpa using hyx
          have HA := hid (show ∀ (i : Nat) (z : Int), i < k + 1 → s.2[i]? = some z → z ≠ x from fun i z hi hz => by
            rcases Nat.lt_or_ge i k with h1 | h1
            · exact hA.out i z h1 hz
            · have : i = k := by omega
              subst this
              rw [hy] at hz
              cases hz
              exact hyx)
          clear hy hA hyx
          go_wp2_with fail
          exact ⟨⟨k + 1, by omega, by simp, HA, trivial⟩, by simp [intOf]; omega⟩
      · have hke : k = s.2.length := by omega
        subst hke
        have HV := hid (show slotS s.2 x = -1 from slotS_none (fun hm => by
          obtain ⟨i, hi⟩ := List.getElem?_of_mem hm
          exact hA.out i x (lt_of_get hi) hi rfl))
        go_wp2_with fail
        go_ret
        exact ⟨by rw [HV.out]; rfl, rfl⟩

end Go.Proofs.Ytjnljbhgbkbmlaa
