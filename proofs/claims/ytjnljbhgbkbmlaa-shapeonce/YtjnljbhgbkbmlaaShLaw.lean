/- What the statements' own functions do with a forest. -/
import Derived.Test.YtjnljbhgbkbmlaaShFace
import Derived.Test.YtjnljbhgbkbmlaaOpenFlat
namespace Go.Proofs.Ytjnljbhgbkbmlaa
set_option linter.unusedSimpArgs false
open Go.RowKit

/-! a forest in blocks from B on -/
abbrev FoB (B f M : Nat) (L : List Sh) (w : World) : Prop := FoS (fun b => B ≤ b) f M L w
theorem fob_of {B f M : Nat} {L : List Sh} {w w' : World} (hB : B ≤ w.heap.size) (h : FoS (Up (fun b => B ≤ b) w) f M L w' ∧ Keep (fun b => B ≤ b) w w') : FoB B f M L w' ∧ Below B w w' :=
  ⟨h.1.mono (fun b _ hb => by rcases hb with hb | hb <;> omega), h.2.below hB (fun _ h => h)⟩
/-- numbers that can be read -/
def IntsAt (v : Value) (xs : List Int) (w : World) : Prop := (xs = [] ∧ ∃ ao cap, v = .slice ao 0 cap) ∨ ∃ b off cap, v = .slice (some ⟨b, off, none⟩) xs.length cap ∧ b < w.heap.size ∧ ∀ (j : Nat) (x : Int), xs[j]? = some x → w.cell? ⟨b, off + j, none⟩ = some (.int .i64 x)
theorem intsAt_row {B : Nat} {v : Value} {xs : List Int} {w : World} (h : w.ownsRow B 3 1 v xs.length (xs.map (Value.int .i64))) : IntsAt v xs w := by
  cases xs with
  | nil =>
    obtain ⟨ao, cap, rfl⟩ := row_shape (row_base h (Nat.zero_le _))
    exact .inl ⟨rfl, ao, cap, rfl⟩
  | cons x xs =>
    obtain ⟨g, cap, rfl, _, hl⟩ := h.form (by simp)
    refine .inr ⟨g, 0, cap, rfl, hl, fun j y hj => ?_⟩
    rw [Nat.zero_add]
    exact row_cell (row_base h (Nat.zero_le _)) (by rw [List.getElem?_map, hj]; rfl)
theorem intsAt_on {v : Value} {xs : List Int} {a c : World} (h : IntsAt v xs a) (k : Below a.heap.size a c) : IntsAt v xs c := by
  rcases h with h | ⟨b, off, cap, h1, h2, h3⟩
  · exact .inl h
  · exact .inr ⟨b, off, cap, h1, Nat.lt_of_lt_of_le h2 k.size, fun j x hj => (k.cell (p := ⟨b, off + j, none⟩) h2).trans (h3 j x hj)⟩
theorem intsAt_shape {v : Value} {xs : List Int} {w : World} (h : IntsAt v xs w) : ∃ ao cap, v = .slice ao xs.length cap := by
  rcases h with ⟨rfl, ao, cap, rfl⟩ | ⟨b, off, cap, h1, _⟩
  · exact ⟨ao, cap, rfl⟩
  · exact ⟨_, cap, h1⟩
theorem intsAt_at {ao : Option Addr} {cap j : Nat} {x : Int} {xs : List Int} {w : World} (h : IntsAt (.slice ao xs.length cap) xs w) (hj : xs[j]? = some x) : ∃ b off, ao = some ⟨b, off, none⟩ ∧ b < w.heap.size ∧ w.cell? ⟨b, off + j, none⟩ = some (.int .i64 x) := by
  rcases h with ⟨rfl, _⟩ | ⟨b, off, cap', h1, h2, h3⟩
  · simp at hj
  · injection h1 with h1
    exact ⟨b, off, h1, h2, h3 j x hj⟩
set_option maxRecDepth 100000 in
set_option maxHeartbeats 1000000 in
theorem numbers_calls {a b : Value} {xs ys : List Int} (w : World) (ha : IntsAt a xs w) (hb : IntsAt b ys w) (hx : xs.length ≤ 1000000) :
    Calls Try.prog 18 #[a, b] w fun e w' => e = .returned (.bool (decide (xs = ys))) ∧ Below w.heap.size w w' := by
  obtain ⟨ao, ca, rfl⟩ := intsAt_shape ha
  obtain ⟨bo, cb, rfl⟩ := intsAt_shape hb
  have HA := hid ha
  have HB := hid hb
  clear ha hb
  by_cases hl : xs.length = ys.length
  · have dl : ((xs.length : Int) != (ys.length : Int)) = false := by simp [hl]
    have HL := hid hl
    clear hl
    go_enter Try.func18, Try.ntmps18
    go_wp2_with fail
    go_loopw [5] (fun i wr => ∃ k : Nat, k ≤ xs.length ∧ i = .int .i64 k ∧ Hid (∀ j : Nat, j < k → xs[j]? = ys[j]?) ∧ Hid (Below w.heap.size w wr)) (fun i _ => xs.length - (intOf i).toNat)
    case atStart => exact ⟨0, Nat.zero_le _, rfl, hid (fun j hj => absurd hj (Nat.not_lt_zero _)), hid (Below.refl _ _)⟩
    case round =>
      obtain ⟨k, hk, rfl, hE, hB⟩ := hrel
      by_cases hkl : k < xs.length
      · obtain ⟨x, hxk⟩ : ∃ x, xs[k]? = some x := ⟨xs[k], List.getElem?_eq_getElem hkl⟩
        obtain ⟨y, hyk⟩ : ∃ y, ys[k]? = some y := ⟨ys[k]'(by have := HL.out; omega), List.getElem?_eq_getElem (by have := HL.out; omega)⟩
        obtain ⟨b1, o1, rfl, hb1, c1⟩ := intsAt_at (intsAt_on HA.out hB.out) hxk
        obtain ⟨b2, o2, rfl, hb2, c2⟩ := intsAt_at (intsAt_on HB.out hB.out) hyk
        have hky : k < ys.length := by have := HL.out; omega
        have HX := hid hxk
        have HY := hid hyk
        clear hxk hyk
        by_cases hxy : x = y
        · subst hxy
          have HE := hid (show ∀ j : Nat, j < k + 1 → xs[j]? = ys[j]? from fun j hj => by
            rcases Nat.lt_or_ge j k with h1 | h1
            · exact hE.out j h1
            · have : j = k := by omega
              subst this
              rw [HX.out, HY.out])
          clear hE
          go_wp2_with fail
          refine wp_region_held_drew (S := fun a => a.cell? ⟨b1, o1 + k, none⟩ = some (.int .i64 x) ∧ a.cell? ⟨b2, o2 + k, none⟩ = some (.int .i64 x)) (by kernel_rfl) ⟨c1, c2⟩ (fun hHeld => ?_)
          refine wpAnyH_take (i := 0) (v := ?v1) rfl (by kernel_rfl) (by kernel_rfl) (by kernel_rfl) (fun _ _ _ h => h) (Or.inl ⟨by rfl, ?hy1⟩) (by assumption) ?_
          case hy1 => (intro w hSw; go_simp <;> (try with_reducible rfl))
          simp only [Act.put, List.setIfInBounds_toArray, List.set_cons_zero, List.set_cons_succ, List.getElem_toArray, List.getElem_cons_succ, List.getElem_cons_zero]
          refine wpAnyH_take (i := 1) (v := ?v2) rfl (by kernel_rfl) (by kernel_rfl) (by kernel_rfl) (fun _ _ _ h => h) (Or.inl ⟨by rfl, ?hy2⟩) (by assumption) ?_
          case hy2 => (intro w hSw; go_simp <;> (try with_reducible rfl))
          simp only [Act.put, List.setIfInBounds_toArray, List.set_cons_zero, List.set_cons_succ, List.getElem_toArray, List.getElem_cons_succ, List.getElem_cons_zero]
          refine wpAnyH_take (i := 2) (v := ?v3) rfl (by kernel_rfl) (by kernel_rfl) (by kernel_rfl) (fun _ _ _ h => h) (Or.inl ⟨by rfl, ?hy3⟩) (by assumption) ?_
          case hy3 => (intro w hSw; go_simp <;> (try with_reducible rfl))
          simp only [Act.put, List.setIfInBounds_toArray, List.set_cons_zero, List.set_cons_succ, List.getElem_toArray, List.getElem_cons_succ, List.getElem_cons_zero]
          refine wpAnyH_take (i := 3) (v := ?v4) rfl (by kernel_rfl) (by kernel_rfl) (by kernel_rfl) (fun _ _ _ h => h) (Or.inl ⟨by rfl, ?hy4⟩) (by assumption) ?_
          case hy4 => (intro w hSw; go_simp <;> (try with_reducible rfl))
          simp only [Act.put, List.setIfInBounds_toArray, List.set_cons_zero, List.set_cons_succ, List.getElem_toArray, List.getElem_cons_succ, List.getElem_cons_zero]
          refine wpAnyH_take (i := 4) (v := ?v5) rfl (by kernel_rfl) (by kernel_rfl) (by kernel_rfl) (fun _ _ _ h => h) (Or.inl ⟨by rfl, ?hy5⟩) (by assumption) ?_
          case hy5 => (intro w hSw; go_simp <;> (try with_reducible rfl))
          simp only [Act.put, List.setIfInBounds_toArray, List.set_cons_zero, List.set_cons_succ, List.getElem_toArray, List.getElem_cons_succ, List.getElem_cons_zero]
          refine wpAnyH_take (i := 5) (v := ?v6) rfl (by kernel_rfl) (by kernel_rfl) (by kernel_rfl) (fun _ _ _ h => h) (Or.inl ⟨by rfl, ?hy6⟩) (by assumption) ?_
          case hy6 => (intro w hSw; go_simp <;> (try with_reducible rfl))
          simp only [Act.put, List.setIfInBounds_toArray, List.set_cons_zero, List.set_cons_succ, List.getElem_toArray, List.getElem_cons_succ, List.getElem_cons_zero]
          refine wpAnyH_take (i := 6) (v := ?v7) rfl (by kernel_rfl) (by kernel_rfl) (by kernel_rfl) (fun _ _ _ h => h) (Or.inl ⟨by rfl, ?hy7⟩) (by assumption) ?_
          case hy7 => (intro w hSw; go_simp <;> (try with_reducible rfl))
          simp only [Act.put, List.setIfInBounds_toArray, List.set_cons_zero, List.set_cons_succ, List.getElem_toArray, List.getElem_cons_succ, List.getElem_cons_zero]
          refine wpAnyH_take (i := 7) (v := ?v8) rfl (by kernel_rfl) (by kernel_rfl) (by kernel_rfl) (fun _ _ _ h => h) (Or.inl ⟨by rfl, ?hy8⟩) (by assumption) ?_
          case hy8 => (intro w hSw; go_simp <;> (try with_reducible rfl))
          simp only [Act.put, List.setIfInBounds_toArray, List.set_cons_zero, List.set_cons_succ, List.getElem_toArray, List.getElem_cons_succ, List.getElem_cons_zero]
          refine wpAnyH_take (i := 8) (v := ?v9) rfl (by kernel_rfl) (by kernel_rfl) (by kernel_rfl) (fun _ _ _ h => h) (Or.inl ⟨by rfl, ?hy9⟩) (by assumption) ?_
          case hy9 => (intro w hSw; go_simp <;> (try with_reducible rfl))
          simp only [Act.put, List.setIfInBounds_toArray, List.set_cons_zero, List.set_cons_succ, List.getElem_toArray, List.getElem_cons_succ, List.getElem_cons_zero]
          refine wpAnyH_done (by kernel_rfl) ?_ _
          go_wp2_with fail
          exact ⟨⟨k + 1, by omega, by simp, HE, hid (hB.out.drew)⟩, by simp [intOf]; omega⟩
        · have dxy : (x != y) = true := by simpa using hxy
          have HN := hid (show decide (xs = ys) = false from decide_eq_false (fun e => by
            have h1 := HX.out
            rw [e, HY.out] at h1
            exact hxy (Option.some.inj h1).symm))
          clear hE hxy
          go_wp2_with fail
          refine wp_region_held_drew (S := fun a => a.cell? ⟨b1, o1 + k, none⟩ = some (.int .i64 x) ∧ a.cell? ⟨b2, o2 + k, none⟩ = some (.int .i64 y)) (by kernel_rfl) ⟨c1, c2⟩ (fun hHeld => ?_)
          refine wpAnyH_take (i := 0) (v := ?v10) rfl (by kernel_rfl) (by kernel_rfl) (by kernel_rfl) (fun _ _ _ h => h) (Or.inl ⟨by rfl, ?hy10⟩) (by assumption) ?_
          case hy10 => (intro w hSw; go_simp <;> (try with_reducible rfl))
          simp only [Act.put, List.setIfInBounds_toArray, List.set_cons_zero, List.set_cons_succ, List.getElem_toArray, List.getElem_cons_succ, List.getElem_cons_zero]
          refine wpAnyH_take (i := 1) (v := ?v11) rfl (by kernel_rfl) (by kernel_rfl) (by kernel_rfl) (fun _ _ _ h => h) (Or.inl ⟨by rfl, ?hy11⟩) (by assumption) ?_
          case hy11 => (intro w hSw; go_simp <;> (try with_reducible rfl))
          simp only [Act.put, List.setIfInBounds_toArray, List.set_cons_zero, List.set_cons_succ, List.getElem_toArray, List.getElem_cons_succ, List.getElem_cons_zero]
          refine wpAnyH_take (i := 2) (v := ?v12) rfl (by kernel_rfl) (by kernel_rfl) (by kernel_rfl) (fun _ _ _ h => h) (Or.inl ⟨by rfl, ?hy12⟩) (by assumption) ?_
          case hy12 => (intro w hSw; go_simp <;> (try with_reducible rfl))
          simp only [Act.put, List.setIfInBounds_toArray, List.set_cons_zero, List.set_cons_succ, List.getElem_toArray, List.getElem_cons_succ, List.getElem_cons_zero]
          refine wpAnyH_take (i := 3) (v := ?v13) rfl (by kernel_rfl) (by kernel_rfl) (by kernel_rfl) (fun _ _ _ h => h) (Or.inl ⟨by rfl, ?hy13⟩) (by assumption) ?_
          case hy13 => (intro w hSw; go_simp <;> (try with_reducible rfl))
          simp only [Act.put, List.setIfInBounds_toArray, List.set_cons_zero, List.set_cons_succ, List.getElem_toArray, List.getElem_cons_succ, List.getElem_cons_zero]
          refine wpAnyH_take (i := 4) (v := ?v14) rfl (by kernel_rfl) (by kernel_rfl) (by kernel_rfl) (fun _ _ _ h => h) (Or.inl ⟨by rfl, ?hy14⟩) (by assumption) ?_
          case hy14 => (intro w hSw; go_simp <;> (try with_reducible rfl))
          simp only [Act.put, List.setIfInBounds_toArray, List.set_cons_zero, List.set_cons_succ, List.getElem_toArray, List.getElem_cons_succ, List.getElem_cons_zero]
          refine wpAnyH_take (i := 5) (v := ?v15) rfl (by kernel_rfl) (by kernel_rfl) (by kernel_rfl) (fun _ _ _ h => h) (Or.inl ⟨by rfl, ?hy15⟩) (by assumption) ?_
          case hy15 => (intro w hSw; go_simp <;> (try with_reducible rfl))
          simp only [Act.put, List.setIfInBounds_toArray, List.set_cons_zero, List.set_cons_succ, List.getElem_toArray, List.getElem_cons_succ, List.getElem_cons_zero]
          refine wpAnyH_take (i := 6) (v := ?v16) rfl (by kernel_rfl) (by kernel_rfl) (by kernel_rfl) (fun _ _ _ h => h) (Or.inl ⟨by rfl, ?hy16⟩) (by assumption) ?_
          case hy16 => (intro w hSw; go_simp <;> (try with_reducible rfl))
          simp only [Act.put, List.setIfInBounds_toArray, List.set_cons_zero, List.set_cons_succ, List.getElem_toArray, List.getElem_cons_succ, List.getElem_cons_zero]
          refine wpAnyH_take (i := 7) (v := ?v17) rfl (by kernel_rfl) (by kernel_rfl) (by kernel_rfl) (fun _ _ _ h => h) (Or.inl ⟨by rfl, ?hy17⟩) (by assumption) ?_
          case hy17 => (intro w hSw; go_simp <;> (try with_reducible rfl))
          simp only [Act.put, List.setIfInBounds_toArray, List.set_cons_zero, List.set_cons_succ, List.getElem_toArray, List.getElem_cons_succ, List.getElem_cons_zero]
          refine wpAnyH_take (i := 8) (v := ?v18) rfl (by kernel_rfl) (by kernel_rfl) (by kernel_rfl) (fun _ _ _ h => h) (Or.inl ⟨by rfl, ?hy18⟩) (by assumption) ?_
          case hy18 => (intro w hSw; go_simp <;> (try with_reducible rfl))
          simp only [Act.put, List.setIfInBounds_toArray, List.set_cons_zero, List.set_cons_succ, List.getElem_toArray, List.getElem_cons_succ, List.getElem_cons_zero]
          refine wpAnyH_done (by kernel_rfl) ?_ _
          go_wp2_with fail
          go_ret
          exact ⟨by rw [HN.out]; rfl, hB.out.drew⟩
      · have hke : k = xs.length := by omega
        subst hke
        go_wp2_with fail
        go_ret
        have he : xs = ys := by
          apply List.ext_getElem?
          intro j
          rcases Nat.lt_or_ge j xs.length with h1 | h1
          · exact hE.out j h1
          · rw [List.getElem?_eq_none h1, List.getElem?_eq_none (by have := HL.out; omega)]
        exact ⟨by rw [decide_eq_true he]; rfl, hB.out⟩
  · have dl : ((xs.length : Int) != (ys.length : Int)) = true := by simp; omega
    have HN := hid (show decide (xs = ys) = false from decide_eq_false (fun e => hl (by rw [e])))
    clear hl
    go_enter Try.func18, Try.ntmps18
    go_wp2_with fail
    go_ret
    exact ⟨by rw [HN.out]; rfl, Below.refl _ _⟩
set_option maxHeartbeats 1000000 in
theorem sworks_calls (w : World) : Calls Try.prog 12 #[] w fun e w' => e = .returned (.bool true) ∧ Below w.heap.size w w' := by
  go_enter Try.func12, Try.ntmps12
  go_wp2_with fail
  refine (fnew_calls _ 9).mono ?_
  rintro e0 w0 ⟨f, rfl, h0, b0⟩
  rw [show mostS 9 = 9 from by decide] at h0
  have H0 := hid h0
  have B0 := hid b0
  have Z0 := hid b0.size
  clear h0 b0
  go_wp2_with fail
  refine (froot_calls _ H0.out 0 (by unfold I64; omega)).mono ?_
  rintro e1 w1 ⟨rfl, h1⟩
  rw [show rootN 9 [] 0 = 1 from by decide]
  rw [show rootL 9 [] 0 = [(0, [])] from by decide] at h1
  obtain ⟨h1, b1⟩ := fob_of Z0.out h1
  have H1 := hid h1
  have B1 := hid (B0.out.trans b1)
  have Z1 := hid B1.out.size
  clear h1 b1 H0 B0 Z0
  go_wp2_with fail
  refine (fadd_calls _ H1.out 1 5 (by unfold I64; omega)).mono ?_
  rintro e2 w2 ⟨rfl, h2⟩
  rw [show addN 9 [(0, [])] 1 5 = 2 from by decide]
  rw [show addL 9 [(0, [])] 1 5 = [(0, []), (0, [5])] from by decide] at h2
  obtain ⟨h2, b2⟩ := fob_of Z1.out h2
  have H2 := hid h2
  have B2 := hid (B1.out.trans b2)
  have Z2 := hid B2.out.size
  clear h2 b2 H1 B1 Z1
  go_wp2_with fail
  refine (fadd_calls _ H2.out 2 6 (by unfold I64; omega)).mono ?_
  rintro e3 w3 ⟨rfl, h3⟩
  rw [show addN 9 [(0, []), (0, [5])] 2 6 = 3 from by decide]
  rw [show addL 9 [(0, []), (0, [5])] 2 6 = [(0, []), (0, [5]), (0, [5, 6])] from by decide] at h3
  obtain ⟨h3, b3⟩ := fob_of Z2.out h3
  have H3 := hid h3
  have B3 := hid (B2.out.trans b3)
  have Z3 := hid B3.out.size
  clear h3 b3 H2 B2 Z2
  go_wp2_with fail
  refine (fadd_calls _ H3.out 1 5 (by unfold I64; omega)).mono ?_
  rintro e4 w4 ⟨rfl, h4⟩
  rw [show addN 9 [(0, []), (0, [5]), (0, [5, 6])] 1 5 = 2 from by decide]
  rw [show addL 9 [(0, []), (0, [5]), (0, [5, 6])] 1 5 = [(0, []), (0, [5]), (0, [5, 6])] from by decide] at h4
  obtain ⟨h4, b4⟩ := fob_of Z3.out h4
  have H4 := hid h4
  have B4 := hid (B3.out.trans b4)
  clear h4 b4 H3 B3 Z3
  go_wp2_with fail
  refine (fslot_calls _ H4.out 3 6).mono ?_
  rintro e5 w5 ⟨rfl, b5⟩
  rw [show slotF [(0, []), (0, [5]), (0, [5, 6])] 3 6 = 1 from by decide]
  have H5 := hid (H4.out.on b5)
  have B5 := hid (below_in B4.out (Nat.le_refl _) b5)
  clear b5 H4 B4
  go_wp2_with fail
  refine (fslot_calls _ H5.out 3 7).mono ?_
  rintro e6 w6 ⟨rfl, b6⟩
  rw [show slotF [(0, []), (0, [5]), (0, [5, 6])] 3 7 = -1 from by decide]
  have H6 := hid (H5.out.on b6)
  have B6 := hid (below_in B5.out (Nat.le_refl _) b6)
  clear b6 H5 B5
  go_wp2_with fail
  refine (flen_calls _ H6.out).mono ?_
  rintro e7 w7 ⟨rfl, rfl⟩
  go_wp2_with fail
  go_ret
  exact ⟨rfl, B6.out⟩

/-! acts -/
abbrev AcT := Int × Int × Int × Bool
def acC (a : AcT) : List Value := [.int .i64 a.1, .int .i64 a.2.1, .int .i64 a.2.2.1, .bool a.2.2.2]
def acI (a : AcT) : Prop := I64 a.1 ∧ I64 a.2.1 ∧ I64 a.2.2.1
/-- what an act is about -/
def argS (a : AcT) (n : Nat) : Int := if a.2.2.2 = false ∨ n = 0 ∨ a.1 = 0 then a.2.1 else 1 + a.2.1.tmod n % n
def actL (M : Nat) (L : List Sh) (a : AcT) : List Sh := if a.1 = 0 then rootL M L (argS a L.length) else if a.1 = 1 then addL M L (argS a L.length) a.2.2.1 else (moveP M L (argS a L.length) a.2.2.1).2
theorem tmod_small (a : Int) {n : Nat} (hn : 0 < n) : -(n : Int) < a.tmod n ∧ a.tmod n < n := by
  have h1 := Int.natAbs_tmod a n
  have h2 : a.natAbs % (n : Int).natAbs < n := by simpa using Nat.mod_lt a.natAbs hn
  omega
theorem argS_I64 {a : AcT} {n : Nat} (ha : acI a) (hn : n ≤ 1000) : I64 (argS a n) := by
  unfold argS
  split
  · exact ha.2.1
  · rename_i h
    have h0 : 0 < n := by omega
    have h1 := Int.emod_nonneg (a.2.1.tmod n) (b := (n : Int)) (by omega)
    have h2 := Int.emod_lt_of_pos (a.2.1.tmod n) (b := (n : Int)) (by omega)
    unfold I64
    omega
set_option maxHeartbeats 1000000 in
theorem arg_calls {d a b : Int} {o : Bool} (w : World) (n : Nat) (hn : n ≤ 1000) (ha : acI (d, a, b, o)) :
    Calls Try.prog 25 #[.agg #[.int .i64 d, .int .i64 a, .int .i64 b, .bool o], .int .i64 (n : Int)] w fun e w' => e = .returned (.int .i64 (argS (d, a, b, o) n)) ∧ Below w.heap.size w w' := by
  have hB := hid ((Below.refl _ w).alloc (Nat.le_refl _) (.cells #[.int .i64 d, .int .i64 a, .int .i64 b, .bool o] 29))
  by_cases ho : o = false
  · subst ho
    rw [show argS (d, a, b, false) n = a from by simp [argS]]
    clear ha
    go_enter Try.func25, Try.ntmps25
    go_wp2_with fail
    go_ret
    exact ⟨rfl, hB.out⟩
  · have ho' : o = true := by simpa using ho
    subst ho'
    clear ho
    by_cases hz : n = 0
    · subst hz
      rw [show argS (d, a, b, true) 0 = a from by simp [argS]]
      clear ha
      go_enter Try.func25, Try.ntmps25
      go_wp2_with fail
      go_ret
      exact ⟨rfl, hB.out⟩
    · have dz : ((n : Int) == 0) = false := by simp; omega
      by_cases hd : d = 0
      · subst hd
        rw [show argS (0, a, b, true) n = a from by simp [argS]]
        clear ha
        go_enter Try.func25, Try.ntmps25
        go_wp2_with fail
        go_ret
        exact ⟨rfl, hB.out⟩
      · have dd : (d == 0) = false := by simpa using hd
        rw [show argS (d, a, b, true) n = 1 + a.tmod n % n from by simp [argS, hz, hd]]
        have m1 := tmod_small a (n := n) (by omega)
        have m2 := Int.emod_nonneg (a.tmod n) (b := (n : Int)) (by omega)
        have m3 := Int.emod_lt_of_pos (a.tmod n) (b := (n : Int)) (by omega)
        have hi := ha.2.1
        unfold I64 at hi
        dsimp only at hi
        clear ha
        go_enter Try.func25, Try.ntmps25
        go_wp2_with fail
        go_ret
        exact ⟨rfl, hB.out⟩
set_option maxHeartbeats 1000000 in
theorem act_calls {S : Nat → Prop} {f M : Nat} {L : List Sh} {d a b : Int} {o : Bool} (w : World) (h : FoS S f M L w) (ha : acI (d, a, b, o)) :
    Calls Try.prog 13 #[.pointer (some ⟨f, 0, none⟩), .agg #[.int .i64 d, .int .i64 a, .int .i64 b, .bool o]] w fun e w' => (∃ u, e = .returned u) ∧ FoS (Up S w) f M (actL M L (d, a, b, o)) w' ∧ Keep S w w' := by
  have b0 := (Below.refl _ w).alloc (Nat.le_refl _) (.cells #[.int .i64 d, .int .i64 a, .int .i64 b, .bool o] 29)
  have bk := blk_new w 29 #[.int .i64 d, .int .i64 a, .int .i64 b, .bool o]
  have HB0 := hid b0
  have H1 := hid (h.on b0)
  have hn : L.length ≤ 150 := by have h1 := h.wf.len; have h2 := h.wf.most; omega
  have HX := hid (argS_I64 ha (n := L.length) (by omega))
  have HBb := hid ha.2.2
  have HA := hid ha
  have HArg := hid (fun w' => arg_calls (d := d) (a := a) (b := b) (o := o) w' L.length (by omega) ha)
  have hfl := h.lt
  generalize hx : argS (d, a, b, o) L.length = x at *
  have HL : actL M L (d, a, b, o) = if d = 0 then rootL M L x else if d = 1 then addL M L x b else (moveP M L x b).2 := by unfold actL; rw [hx]
  rw [HL]
  generalize hLL : (if d = 0 then rootL M L x else if d = 1 then addL M L x b else (moveP M L x b).2) = LL
  have HLL := hid hLL
  clear h hx HL b0 ha hLL
  generalize hw1 : w.alloc (.cells #[.int .i64 d, .int .i64 a, .int .i64 b, .bool o] 29) = w1 at *
  have hlt : w.heap.size < w1.heap.size := by rw [← hw1]; simp
  have c0 : w1.cell? ⟨w.heap.size, 0, none⟩ = some (.int .i64 d) := by rw [blk_cell bk]; rfl
  have c1 : w1.cell? ⟨w.heap.size, 1, none⟩ = some (.int .i64 a) := by rw [blk_cell bk]; rfl
  have c2 : w1.cell? ⟨w.heap.size, 2, none⟩ = some (.int .i64 b) := by rw [blk_cell bk]; rfl
  have c3 : w1.cell? ⟨w.heap.size, 3, none⟩ = some (.bool o) := by rw [blk_cell bk]; rfl
  have BK := hid bk
  clear bk
  have HLen := hid (flen_calls w1.drew (H1.out.on (Below.refl _ _).drew))
  go_enter Try.func13, Try.ntmps13
  go_wp2_with fail
  refine wp_region_held_drew (S := fun q => q.cell? ⟨w.heap.size, 0, none⟩ = some (.int .i64 d) ∧ q.cell? ⟨w.heap.size, 1, none⟩ = some (.int .i64 a) ∧ q.cell? ⟨w.heap.size, 2, none⟩ = some (.int .i64 b) ∧ q.cell? ⟨w.heap.size, 3, none⟩ = some (.bool o)) (by kernel_rfl) ⟨c0, c1, c2, c3⟩ (fun hHeld => ?_)
  refine wpAnyH_take (i := 0) (v := ?v19) rfl (by kernel_rfl) (by kernel_rfl) (by kernel_rfl) (fun _ _ _ h => h) (Or.inl ⟨by rfl, ?hy19⟩) (by assumption) ?_
  case hy19 => (intro w hSw; go_simp <;> (try with_reducible rfl))
  simp only [Act.put, List.setIfInBounds_toArray, List.set_cons_zero, List.set_cons_succ, List.getElem_toArray, List.getElem_cons_succ, List.getElem_cons_zero]
  refine wpAnyH_take (i := 1) (v := ?v20) rfl (by kernel_rfl) (by kernel_rfl) (by kernel_rfl) (fun _ _ _ h => h) (Or.inl ⟨by rfl, ?hy20⟩) (by assumption) ?_
  case hy20 => (intro w hSw; go_simp <;> (try with_reducible rfl))
  simp only [Act.put, List.setIfInBounds_toArray, List.set_cons_zero, List.set_cons_succ, List.getElem_toArray, List.getElem_cons_succ, List.getElem_cons_zero]
  refine wpAnyH_ready (rs := [2]) (by kernel_rfl) (by simp) ?_
  refine AllReadyH.cons rfl (fun K hK => ?_) AllReadyH.nil
  go_simp
  refine HLen.out.mono ?_
  rintro e2 w2 ⟨rfl, rfl⟩
  go_simp
  refine hK.out _ _ ⟨c0, c1, c2, c3⟩ (fun _ => ?_)
  clear hK K
  refine wpAnyH_ready (rs := [3]) (by kernel_rfl) (by simp) ?_
  refine AllReadyH.cons rfl (fun K hK => ?_) AllReadyH.nil
  go_simp
  refine (HArg.out _).mono ?_
  rintro e3 w3 ⟨rfl, b3⟩
  have bk3 := blk_on BK.out ((Below.refl _ w1).drew.trans b3)
  have r0 : w3.cell? ⟨w.heap.size, 0, none⟩ = some (.int .i64 d) := by rw [blk_cell bk3]; rfl
  have r1 : w3.cell? ⟨w.heap.size, 1, none⟩ = some (.int .i64 a) := by rw [blk_cell bk3]; rfl
  have r2 : w3.cell? ⟨w.heap.size, 2, none⟩ = some (.int .i64 b) := by rw [blk_cell bk3]; rfl
  have r3 : w3.cell? ⟨w.heap.size, 3, none⟩ = some (.bool o) := by rw [blk_cell bk3]; rfl
  have hlt3 : w.heap.size < w3.heap.size := blk_lt bk3
  have H3 := hid (H1.out.on ((Below.refl _ w1).drew.trans b3))
  have B3 := hid (below_on HB0.out ((Below.refl _ w1).drew.trans b3))
  have Z3 := hid (show ∀ (LL : List Sh) (w4 : World), FoS (Up S w3) f M LL w4 ∧ Keep S w3 w4 → FoS (Up S w) f M LL w4 ∧ Keep S w w4 from fun _ _ h => ⟨h.1.mono (fun b' _ hb => by rcases hb with hb | hb; exact .inl hb; exact .inr (Nat.le_trans B3.out.size hb)), (Keep.of (S := S) B3.out).trans h.2 (fun _ _ e => e)⟩)
  go_simp
  refine hK.out _ _ ⟨r0, r1, r2, r3⟩ (fun _ => ?_)
  clear hK K b3 bk3 hHeld c0 c1 c2 c3 HLen
  refine wpAnyH_take (i := 4) (v := ?v23) rfl (by kernel_rfl) (by kernel_rfl) (by kernel_rfl) (fun _ _ _ h => h) (Or.inl ⟨by rfl, ?hy23⟩) (by assumption) ?_
  case hy23 => (intro w hSw; go_simp <;> (try with_reducible rfl))
  simp only [Act.put, List.setIfInBounds_toArray, List.set_cons_zero, List.set_cons_succ, List.getElem_toArray, List.getElem_cons_succ, List.getElem_cons_zero]
  refine wpAnyH_done (by kernel_rfl) ?_ _
  by_cases h0 : d = 0
  · subst h0
    go_wp2_with fail
    refine (froot_calls _ H3.out x HX.out).mono ?_
    rintro e4 w4 ⟨rfl, h4⟩
    have R := hid (Z3.out _ _ h4)
    clear h4
    go_wp2_with fail
    go_end0
    refine ⟨⟨_, rfl⟩, ?_, R.out.2⟩
    rw [← HLL.out, if_pos trivial]
    exact R.out.1
  · have d0 : (d == 0) = false := by simpa using h0
    by_cases h1 : d = 1
    · subst h1
      go_wp2_with fail
      refine (fadd_calls _ H3.out x b HBb.out).mono ?_
      rintro e4 w4 ⟨rfl, h4⟩
      have R := hid (Z3.out _ _ h4)
      clear h4
      go_wp2_with fail
      go_end0
      refine ⟨⟨_, rfl⟩, ?_, R.out.2⟩
      rw [← HLL.out, if_neg h0, if_pos trivial]
      exact R.out.1
    · have d1 : (d == 1) = false := by simpa using h1
      go_wp2_with fail
      refine (fmove_calls _ H3.out x b HBb.out).mono ?_
      rintro e4 w4 ⟨rfl, h4⟩
      have R := hid (Z3.out _ _ h4)
      clear h4
      go_wp2_with fail
      go_end0
      refine ⟨⟨_, rfl⟩, ?_, R.out.2⟩
      rw [← HLL.out, if_neg h0, if_neg h1]
      exact R.out.1

/-! acts, one behind the other -/
def runL (M : Nat) (L : List Sh) (l : List AcT) : List Sh := l.foldl (actL M) L
theorem runL_take {M : Nat} {L : List Sh} {l : List AcT} {k : Nat} {a : AcT} (h : l[k]? = some a) : runL M L (l.take (k + 1)) = actL M (runL M L (l.take k)) a := by
  obtain ⟨hk, rfl⟩ := List.getElem?_eq_some_iff.1 h
  unfold runL
  rw [List.take_succ_eq_append_getElem hk, List.foldl_append]
  rfl
theorem actL_stay {M : Nat} {L : List Sh} {a : AcT} {t : Sh} {i : Nat} (h : L[i]? = some t) : (actL M L a)[i]? = some t := by
  unfold actL
  split
  · exact rootL_stay h
  · split
    · exact addL_stay h
    · exact moveP_stay h
theorem runL_stay {M : Nat} {t : Sh} {i : Nat} : ∀ (l : List AcT) (L : List Sh), L[i]? = some t → (runL M L l)[i]? = some t
  | [], _, h => h
  | a :: r, L, h => runL_stay r (actL M L a) (actL_stay h)
theorem parS_stay {M : Nat} {L L' : List Sh} {i : Nat} {s : Sh} (h : WfS M L) (h' : WfS M L') (hs : ∀ (j : Nat) (t : Sh), L[j]? = some t → L'[j]? = some t) (hi : L[i]? = some s) : parS L' s = parS L s := by
  obtain ⟨p, ns⟩ := s
  rcases List.eq_nil_or_concat ns with rfl | ⟨ns', x, rfl⟩
  · rw [parS_root, parS_root]
  · rw [List.concat_eq_append] at *
    obtain ⟨j, _, hg, hp⟩ := h.par hi
    rw [hp]
    unfold parS
    rw [if_neg (by simp)]
    simp only [List.dropLast_concat]
    unfold numS
    rw [h'.at' (hs j _ hg)]

/-! a forest, and something else that was made from a to b -/
def Hole (B a b : Nat) (x : Nat) : Prop := B ≤ x ∧ ¬ (a ≤ x ∧ x < b)
theorem fob_hole {B f M : Nat} {L : List Sh} {w w' : World} (h : FoB B f M L w) (k : Below w.heap.size w w') : FoS (Hole B w.heap.size w'.heap.size) f M L w' :=
  (h.mono (T := Hole B w.heap.size w'.heap.size) (fun b hb h => ⟨h, by omega⟩)).on k
theorem hole_of {B a b f M : Nat} {L : List Sh} {w w' : World} (hz : b ≤ w.heap.size) (hB : B ≤ w.heap.size) (h : FoS (Up (Hole B a b) w) f M L w' ∧ Keep (Hole B a b) w w') : FoS (Hole B a b) f M L w' ∧ Below B w w' ∧ ∀ k, a ≤ k → k < b → w'.heap[k]? = w.heap[k]? :=
  ⟨h.1.mono (fun x _ hx => by
    rcases hx with hx | hx
    · exact hx
    · exact ⟨by omega, by omega⟩), h.2.below hB (fun _ h => h.1), fun k h1 h2 => h.2.block k (by omega) (fun e => e.2 ⟨h1, h2⟩)⟩
theorem row_hole {a b n : Nat} {T : TypeId} {v : Value} {xs : List Value} {w w' : World} (h : w.ownsRow a T 1 v n xs) (hb : ∀ g, v.ownBlock = some g → g < b) (k : ∀ k, a ≤ k → k < b → w'.heap[k]? = w.heap[k]?) : w'.ownsRow a T 1 v n xs :=
  row_lift (row_keep (row_base h (Nat.zero_le _)) (fun g hg => k g (row_new h hg).1 (hb g hg))) (fun _ hg => (row_new h hg).1)

/-! acts that came in -/
theorem acts_of {l : List (List Value)} (h : ∀ r ∈ l, r.length = 4 ∧ FitsF [.i, .i, .i, .b] r) : ∃ xs : List AcT, l = xs.map acC ∧ ∀ x ∈ xs, acI x := by
  apply rows_map
  intro r hr
  obtain ⟨hl, hf0⟩ := h r hr
  obtain ⟨_, c0, rfl, ⟨y0, rfl, q0⟩, hf1⟩ := fits_cons hf0
  obtain ⟨_, c1, rfl, ⟨y1, rfl, q1⟩, hf2⟩ := fits_cons hf1
  obtain ⟨_, c2, rfl, ⟨y2, rfl, q2⟩, hf3⟩ := fits_cons hf2
  obtain ⟨_, c3, rfl, ⟨y3, rfl⟩, hf4⟩ := fits_cons hf3
  have e : c3 = [] := List.length_eq_zero_iff.1 (by simpa using hl)
  subst e
  exact ⟨(y0, y1, y2, y3), rfl, q0, q1, q2⟩
theorem acts_shape {v : Value} {xs : List AcT} {w : World} (h : RowsArg 4 v (xs.map acC) w) : ∃ ao cap, v = .slice ao xs.length cap := by
  rcases h with ⟨ao, cap, rfl, h⟩ | ⟨b, off, cap, rfl, _⟩
  · have : xs = [] := by simpa using h
    subst this
    exact ⟨ao, cap, rfl⟩
  · exact ⟨_, cap, by rw [List.length_map]⟩
theorem act_at {ao : Option Addr} {cap j : Nat} {xs : List AcT} {w : World} (h : RowsArg 4 (.slice ao xs.length cap) (xs.map acC) w) {a : AcT} (hj : xs[j]? = some a) :
    ∃ b off, ao = some ⟨b, off, none⟩ ∧ b < w.heap.size ∧ w.cell? ⟨b, off + j * 4, none⟩ = some (.int .i64 a.1) ∧ w.cell? ⟨b, off + j * 4 + 1, none⟩ = some (.int .i64 a.2.1) ∧ w.cell? ⟨b, off + j * 4 + 2, none⟩ = some (.int .i64 a.2.2.1) ∧ w.cell? ⟨b, off + j * 4 + 3, none⟩ = some (.bool a.2.2.2) := by
  rcases h with ⟨ao', cap', he, h⟩ | ⟨b, off, cap', he, hb, hr⟩
  · have : xs = [] := by simpa using h
    subst this
    simp at hj
  · injection he with he1
    subst he1
    have hm : (xs.map acC)[j]? = some (acC a) := by simp [hj]
    exact ⟨b, off, rfl, hb, hr j _ hm 0 _ rfl, hr j _ hm 1 _ rfl, hr j _ hm 2 _ rfl, hr j _ hm 3 _ rfl⟩

end Go.Proofs.Ytjnljbhgbkbmlaa
