/- Whatever texts are asked for, they have the numbers that the document says, and so it is with what is found, and told (of at most 100 texts each, of at most 300 bytes; otherwise the law's own test alone is asked): NamesPlay is true for every input; no condition. -/
import Derived.Test.YtblejdoceppfjaaNmTwo
import Derived.Test.YtblejdoceppfjaaRows
import Derived.WalkKit
import Derived.ProofKit
import Derived.OpenShut
import Derived.ShutString
import Derived.ChangeOld
import Derived.Below
namespace Go.Proofs.Ytblejdoceppfjaa.namesPlay
open Go.ChangeShapes Go.WideShapes Go.ChangeAt Go.RowKit
open Go.ChangeMaps (open_string shut_string)
set_option linter.unusedVariables false

theorem own : ownKnob Try.prog.godebug = none := by kernel_rfl

set_option linter.unusedSimpArgs false
set_option maxHeartbeats 4000000 in
theorem walk_play (ao bo : Option Addr) (cap cbp : Nat) (xs ys : List ByteArray) (w : World) (HR : Hid (RowsArg 1 (.slice ao xs.length cap) (xs.map txC) w)) (HX : Hid (∀ x ∈ xs, x.size ≤ maxLen))
    (HS : Hid (RowsArg 1 (.slice bo ys.length cbp) (ys.map txC) w)) (HY : Hid (∀ x ∈ ys, x.size ≤ maxLen)) :
    Calls Try.prog 3 #[.slice ao xs.length cap, .slice bo ys.length cbp] w fun e w' => e = .returned (.bool true) ∧ Below w.heap.size w w' := by
  have HL := hid (tlong_calls w HR.out HX.out)
  have HM := hid (tlong_calls w HS.out HY.out)
  cases h1 : longT xs with
  | true =>
    rw [h1] at HL
    go_enter Try.func3, Try.ntmps3
    go_wp2_with fail
    refine HL.out.mono ?_
    rintro e1 w1 ⟨rfl, rfl⟩
    go_wp2_with fail
    refine (tworks_calls _).mono ?_
    rintro e2 w3 ⟨rfl, b2⟩
    have B3 := hid b2
    clear b2
    go_wp2_with fail
    go_ret
    exact ⟨rfl, B3.out⟩
  | false =>
  rw [h1] at HL
  cases h2 : longT ys with
  | true =>
    rw [h2] at HM
    go_enter Try.func3, Try.ntmps3
    go_wp2_with fail
    refine HL.out.mono ?_
    rintro e1 w1 ⟨rfl, rfl⟩
    go_wp2_with fail
    refine HM.out.mono ?_
    rintro e1 w1 ⟨rfl, rfl⟩
    go_wp2_with fail
    refine (tworks_calls _).mono ?_
    rintro e2 w3 ⟨rfl, b2⟩
    have B3 := hid b2
    clear b2
    go_wp2_with fail
    go_ret
    exact ⟨rfl, B3.out⟩
  | false =>
  rw [h2] at HM
  obtain ⟨hlx, _⟩ := not_longT h1
  obtain ⟨hly, _⟩ := not_longT h2
  clear h1 h2
  go_enter Try.func3, Try.ntmps3
  go_wp2_with fail
  refine HL.out.mono ?_
  rintro e1 w1 ⟨rfl, rfl⟩
  go_wp2_with fail
  refine HM.out.mono ?_
  rintro e1 w1 ⟨rfl, rfl⟩
  go_wp2_with fail
  refine (tnew_calls _).mono ?_
  rintro e0 w0 ⟨t, rfl, h0, b0⟩
  have H0 := hid (pair_new h0 b0.size)
  have B0 := hid (b0.alloc b0.size (.cells #[.slice none 0 0] 29))
  clear h0 b0 HL HM
  go_wp2_with fail
  go_loopw [7] (fun k wr => ∃ (j : Nat) (L : List ByteArray), j ≤ xs.length ∧ L.length ≤ j ∧ k = .int .i64 j ∧ Hid (PairN w1.heap.size t w0.heap.size L L wr) ∧ Hid (Below w1.heap.size w1 wr)) (fun k _ => xs.length - (intOf k).toNat)
  case atStart => exact ⟨0, [], by omega, by simp, rfl, H0, B0⟩
  case round =>
    obtain ⟨j, L, hj, hLj, rfl, hN, hB⟩ := hrel
    by_cases hjl : j < xs.length
    · obtain ⟨s, hs⟩ : ∃ e, xs[j]? = some e := ⟨xs[j], List.getElem?_eq_getElem hjl⟩
      obtain ⟨b, off, rfl, hb, c0⟩ := text_at HR.out hs
      have cc := hid (show ∀ W, Below w1.heap.size w1 W → W.cell? ⟨b, off + j, none⟩ = some (.string s) from fun W hW => (hW.cell (p := ⟨b, off + j, none⟩) hb).trans c0)
      have hsz := HX.out s (List.mem_of_getElem? hs)
      have hl2 := (ofT_len L s).1
      have c1 := cc.out _ hB.out
      clear hs c0
      go_wp2_with fail
      refine wp_region_held_drew (S := fun a => a.cell? ⟨b, off + j, none⟩ = some (.string s)) (by kernel_rfl) c1 (fun hHeld => ?_)
      refine wpAnyH_take (i := 0) (v := ?_) rfl (by kernel_rfl) (by kernel_rfl) (by kernel_rfl) (fun _ _ _ h => h) (Or.inl ⟨by rfl, ?_⟩) (by assumption) ?_
      rotate_left 1
      · (intro w hSw; go_simp <;> (try with_reducible rfl))
      simp only [Act.put, List.setIfInBounds_toArray, List.set_cons_zero, List.set_cons_succ, List.getElem_toArray, List.getElem_cons_succ, List.getElem_cons_zero]
      refine wpAnyH_take (i := 1) (v := ?_) rfl (by kernel_rfl) (by kernel_rfl) (by kernel_rfl) (fun _ _ _ h => h) (Or.inl ⟨by rfl, ?_⟩) (by assumption) ?_
      rotate_left 1
      · (intro w hSw; go_simp <;> (try with_reducible rfl))
      simp only [Act.put, List.setIfInBounds_toArray, List.set_cons_zero, List.set_cons_succ, List.getElem_toArray, List.getElem_cons_succ, List.getElem_cons_zero]
      refine wpAnyH_take (i := 2) (v := ?_) rfl (by kernel_rfl) (by kernel_rfl) (by kernel_rfl) (fun _ _ _ h => h) (Or.inl ⟨by rfl, ?_⟩) (by assumption) ?_
      rotate_left 1
      · (intro w hSw; go_simp <;> (try with_reducible rfl))
      simp only [Act.put, List.setIfInBounds_toArray, List.set_cons_zero, List.set_cons_succ, List.getElem_toArray, List.getElem_cons_succ, List.getElem_cons_zero]
      refine wpAnyH_take (i := 3) (v := ?_) rfl (by kernel_rfl) (by kernel_rfl) (by kernel_rfl) (fun _ _ _ h => h) (Or.inl ⟨by rfl, ?_⟩) (by assumption) ?_
      rotate_left 1
      · (intro w hSw; go_simp <;> (try with_reducible rfl))
      simp only [Act.put, List.setIfInBounds_toArray, List.set_cons_zero, List.set_cons_succ, List.getElem_toArray, List.getElem_cons_succ, List.getElem_cons_zero]
      refine wpAnyH_take (i := 4) (v := ?_) rfl (by kernel_rfl) (by kernel_rfl) (by kernel_rfl) (fun _ _ _ h => h) (Or.inl ⟨by rfl, ?_⟩) (by assumption) ?_
      rotate_left 1
      · (intro w hSw; go_simp <;> (try with_reducible rfl))
      simp only [Act.put, List.setIfInBounds_toArray, List.set_cons_zero, List.set_cons_succ, List.getElem_toArray, List.getElem_cons_succ, List.getElem_cons_zero]
      refine wpAnyH_take (i := 6) (v := ?_) rfl (by kernel_rfl) (by kernel_rfl) (by kernel_rfl) (fun _ _ _ h => h) (Or.inl ⟨by rfl, ?_⟩) (by assumption) ?_
      rotate_left 1
      · (intro w hSw; go_simp <;> (try with_reducible rfl))
      simp only [Act.put, List.setIfInBounds_toArray, List.set_cons_zero, List.set_cons_succ, List.getElem_toArray, List.getElem_cons_succ, List.getElem_cons_zero]
      refine wpAnyH_take (i := 7) (v := ?_) rfl (by kernel_rfl) (by kernel_rfl) (by kernel_rfl) (fun _ _ _ h => h) (Or.inl ⟨by rfl, ?_⟩) (by assumption) ?_
      rotate_left 1
      · (intro w hSw; go_simp <;> (try with_reducible rfl))
      simp only [Act.put, List.setIfInBounds_toArray, List.set_cons_zero, List.set_cons_succ, List.getElem_toArray, List.getElem_cons_succ, List.getElem_cons_zero]
      refine wpAnyH_take (i := 8) (v := ?_) rfl (by kernel_rfl) (by kernel_rfl) (by kernel_rfl) (fun _ _ _ h => h) (Or.inl ⟨by rfl, ?_⟩) (by assumption) ?_
      rotate_left 1
      · (intro w hSw; go_simp <;> (try with_reducible rfl))
      simp only [Act.put, List.setIfInBounds_toArray, List.set_cons_zero, List.set_cons_succ, List.getElem_toArray, List.getElem_cons_succ, List.getElem_cons_zero]
      refine wpAnyH_take (i := 9) (v := ?_) rfl (by kernel_rfl) (by kernel_rfl) (by kernel_rfl) (fun _ _ _ h => h) (Or.inl ⟨by rfl, ?_⟩) (by assumption) ?_
      rotate_left 1
      · (intro w hSw; go_simp <;> (try with_reducible rfl))
      simp only [Act.put, List.setIfInBounds_toArray, List.set_cons_zero, List.set_cons_succ, List.getElem_toArray, List.getElem_cons_succ, List.getElem_cons_zero]
      refine wpAnyH_take (i := 10) (v := ?_) rfl (by kernel_rfl) (by kernel_rfl) (by kernel_rfl) (fun _ _ _ h => h) (Or.inl ⟨by rfl, ?_⟩) (by assumption) ?_
      rotate_left 1
      · (intro w hSw; go_simp <;> (try with_reducible rfl))
      simp only [Act.put, List.setIfInBounds_toArray, List.set_cons_zero, List.set_cons_succ, List.getElem_toArray, List.getElem_cons_succ, List.getElem_cons_zero]
      refine wpAnyH_ready (rs := [5]) (by kernel_rfl) (by simp) ?_
      refine AllReadyH.cons rfl (fun K hK => ?_) AllReadyH.nil
      go_simp
      refine (pair_t _ hN.out.drew s hsz (by omega)).mono ?_
      rintro e2 w2 ⟨rfl, h2, b2⟩
      have H2 := hid h2
      have B2 := hid (hB.out.drew.trans b2)
      go_simp
      refine hK.out _ _ (cc.out _ B2.out) (fun _ => ?_)
      clear hK K h2 b2
      try simp only [Act.put, List.setIfInBounds_toArray, List.set_cons_zero, List.set_cons_succ, List.getElem_toArray, List.getElem_cons_succ, List.getElem_cons_zero]
      refine wpAnyH_ready (rs := [11]) (by kernel_rfl) (by simp) ?_
      refine AllReadyH.cons rfl (fun K hK => ?_) AllReadyH.nil
      go_simp
      refine (pair_r _ H2.out s (by omega)).mono ?_
      rintro e3 w3 ⟨rfl, h3, b3⟩
      have H3 := hid h3
      have B3 := hid (B2.out.trans b3)
      have c3 := cc.out _ B3.out
      go_simp
      refine hK.out _ _ c3 (fun _ => ?_)
      obtain ⟨ra, rc, r0⟩ := h3.rcell
      clear hK K h3 b3 H2 B2 hHeld
      try simp only [Act.put, List.setIfInBounds_toArray, List.set_cons_zero, List.set_cons_succ, List.getElem_toArray, List.getElem_cons_succ, List.getElem_cons_zero]
      refine wpAnyH_take (i := 12) (v := ?_) rfl (by kernel_rfl) (by kernel_rfl) (by kernel_rfl) (fun _ _ _ h => h) (Or.inl ⟨by rfl, ?_⟩) (by assumption) ?_
      rotate_left 1
      · (intro w hSw; go_simp <;> (try with_reducible rfl))
      simp only [Act.put, List.setIfInBounds_toArray, List.set_cons_zero, List.set_cons_succ, List.getElem_toArray, List.getElem_cons_succ, List.getElem_cons_zero]
      refine wpAnyH_take (i := 13) (v := ?_) rfl (by kernel_rfl) (by kernel_rfl) (by kernel_rfl) (fun _ _ _ h => h) (Or.inl ⟨by rfl, ?_⟩) (by assumption) ?_
      rotate_left 1
      · (intro w hSw; go_simp <;> (try with_reducible rfl))
      simp only [Act.put, List.setIfInBounds_toArray, List.set_cons_zero, List.set_cons_succ, List.getElem_toArray, List.getElem_cons_succ, List.getElem_cons_zero]
      refine wpAnyH_take (i := 14) (v := ?_) rfl (by kernel_rfl) (by kernel_rfl) (by kernel_rfl) (fun _ _ _ h => h) (Or.inl ⟨by rfl, ?_⟩) (by assumption) ?_
      rotate_left 1
      · (intro w hSw; go_simp <;> (try with_reducible rfl))
      simp only [Act.put, List.setIfInBounds_toArray, List.set_cons_zero, List.set_cons_succ, List.getElem_toArray, List.getElem_cons_succ, List.getElem_cons_zero]
      refine wpAnyH_take (i := 16) (v := ?_) rfl (by kernel_rfl) (by kernel_rfl) (by kernel_rfl) (fun _ _ _ h => h) (Or.inl ⟨by rfl, ?_⟩) (by assumption) ?_
      rotate_left 1
      · (intro w hSw; go_simp <;> (try with_reducible rfl))
      simp only [Act.put, List.setIfInBounds_toArray, List.set_cons_zero, List.set_cons_succ, List.getElem_toArray, List.getElem_cons_succ, List.getElem_cons_zero]
      refine wpAnyH_take (i := 17) (v := ?_) rfl (by kernel_rfl) (by kernel_rfl) (by kernel_rfl) (fun _ _ _ h => h) (Or.inl ⟨by rfl, ?_⟩) (by assumption) ?_
      rotate_left 1
      · (intro w hSw; go_simp <;> (try with_reducible rfl))
      simp only [Act.put, List.setIfInBounds_toArray, List.set_cons_zero, List.set_cons_succ, List.getElem_toArray, List.getElem_cons_succ, List.getElem_cons_zero]
      refine wpAnyH_take (i := 18) (v := ?_) rfl (by kernel_rfl) (by kernel_rfl) (by kernel_rfl) (fun _ _ _ h => h) (Or.inl ⟨by rfl, ?_⟩) (by assumption) ?_
      rotate_left 1
      · (intro w hSw; go_simp <;> (try with_reducible rfl))
      simp only [Act.put, List.setIfInBounds_toArray, List.set_cons_zero, List.set_cons_succ, List.getElem_toArray, List.getElem_cons_succ, List.getElem_cons_zero]
      refine wpAnyH_ready (rs := [15, 19]) (by kernel_rfl) (by simp) ?_
      refine AllReadyH.cons rfl (fun K hK => ?_) (AllReadyH.cons rfl (fun K hK => ?_) AllReadyH.nil)
      go_simp
      refine (pair_len _ H3.out).mono ?_
      rintro e4 w4 ⟨rfl, rfl⟩
      go_simp
      refine hK.out _ _ c3 (fun _ => ?_)
      clear hK K
      try simp only [Act.put, List.setIfInBounds_toArray, List.set_cons_zero, List.set_cons_succ, List.getElem_toArray, List.getElem_cons_succ, List.getElem_cons_zero]
      refine wpAnyH_ready (rs := [19]) (by kernel_rfl) (by simp) ?_
      refine AllReadyH.cons rfl (fun K hK => ?_) AllReadyH.nil
      go_simp
      refine hK.out _ _ c3 (fun _ => ?_)
      clear hK K
      refine wpAnyH_take (i := 20) (v := ?_) rfl (by kernel_rfl) (by kernel_rfl) (by kernel_rfl) (fun _ _ _ h => h) (Or.inl ⟨by rfl, ?_⟩) (by assumption) ?_
      rotate_left 1
      · (intro w hSw; go_simp <;> (try with_reducible rfl))
      simp only [Act.put, List.setIfInBounds_toArray, List.set_cons_zero, List.set_cons_succ, List.getElem_toArray, List.getElem_cons_succ, List.getElem_cons_zero]
      rotate_left 1
      go_simp
      refine hK.out _ _ c3 (fun _ => ?_)
      clear hK K
      refine wpAnyH_take (i := 20) (v := ?_) rfl (by kernel_rfl) (by kernel_rfl) (by kernel_rfl) (fun _ _ _ h => h) (Or.inl ⟨by rfl, ?_⟩) (by assumption) ?_
      rotate_left 1
      · (intro w hSw; go_simp <;> (try with_reducible rfl))
      simp only [Act.put, List.setIfInBounds_toArray, List.set_cons_zero, List.set_cons_succ, List.getElem_toArray, List.getElem_cons_succ, List.getElem_cons_zero]
      refine wpAnyH_ready (rs := [15]) (by kernel_rfl) (by simp) ?_
      refine AllReadyH.cons rfl (fun K hK => ?_) AllReadyH.nil
      go_simp
      refine (pair_len _ H3.out).mono ?_
      rintro e4 w4 ⟨rfl, rfl⟩
      go_simp
      refine hK.out _ _ c3 (fun _ => ?_)
      clear hK K
      rotate_left 1
      all_goals
        try simp only [Act.put, List.setIfInBounds_toArray, List.set_cons_zero, List.set_cons_succ, List.getElem_toArray, List.getElem_cons_succ, List.getElem_cons_zero]
        refine wpAnyH_take (i := 21) (v := ?_) rfl (by kernel_rfl) (by kernel_rfl) (by kernel_rfl) (fun _ _ _ h => h) (Or.inl ⟨by rfl, ?_⟩) (by assumption) ?_
        rotate_left 1
        · (intro w hSw; go_simp <;> (try with_reducible rfl))
        simp only [Act.put, List.setIfInBounds_toArray, List.set_cons_zero, List.set_cons_succ, List.getElem_toArray, List.getElem_cons_succ, List.getElem_cons_zero]
        refine wpAnyH_take (i := 22) (v := ?_) rfl (by kernel_rfl) (by kernel_rfl) (by kernel_rfl) (fun _ _ _ h => h) (Or.inl ⟨by rfl, ?_⟩) (by assumption) ?_
        rotate_left 1
        · (intro w hSw; go_simp <;> (try with_reducible rfl))
        simp only [Act.put, List.setIfInBounds_toArray, List.set_cons_zero, List.set_cons_succ, List.getElem_toArray, List.getElem_cons_succ, List.getElem_cons_zero]
        refine wpAnyH_done (by kernel_rfl) ?_ _
        go_wp2_with fail
        exact ⟨⟨j + 1, _, by omega, by omega, by simp, H3, B3⟩, by simp [intOf]; omega⟩
    · have hje : j = xs.length := by omega
      subst hje
      clear hj hjl H0 B0
      go_wp2_with fail
      go_loopw [8] (fun k w2 => ∃ (j : Nat), j ≤ ys.length ∧ k = .int .i64 j ∧ w2 = wr) (fun k _ => ys.length - (intOf k).toNat)
      case atStart => exact ⟨0, by omega, rfl, rfl⟩
      case round =>
        obtain ⟨j, hj, rfl, rfl⟩ := hrel
        by_cases hjl : j < ys.length
        · obtain ⟨s, hs⟩ : ∃ e, ys[j]? = some e := ⟨ys[j], List.getElem?_eq_getElem hjl⟩
          obtain ⟨b, off, rfl, hb, c0⟩ := text_at (rowsArg_on HS.out hB.out) hs
          have hsz := HY.out s (List.mem_of_getElem? hs)
          have HF := hid (pair_find _ hN.out s hsz)
          have HG := hid (pair_rfind _ hN.out s (by omega))
          clear hs
          generalize ((findT L s : Nat) : Int) = I at *
          generalize (atT L s).isSome = q at *
          go_wp2_with fail
          refine HF.out.mono ?_
          rintro e2 w2 ⟨rfl, rfl⟩
          go_wp2_with fail
          refine HG.out.mono ?_
          rintro e2 w2 ⟨rfl, rfl⟩
          go_wp2_with fail
          exact ⟨⟨j + 1, by omega, by simp, trivial⟩, by simp [intOf]; omega⟩
        · have hje : j = ys.length := by omega
          subst hje
          clear hj hjl
          go_wp2_with fail
          go_loopw [13] (fun k w2 => ∃ (i : Int), -1 ≤ i ∧ i ≤ xs.length + 2 ∧ k = .int .i64 i ∧ w2 = wr) (fun k _ => ((xs.length : Int) + 2 - intOf k).toNat)
          case atStart => exact ⟨-1, by omega, by omega, rfl, rfl⟩
          case round =>
            obtain ⟨i, hi1, hi2, rfl, rfl⟩ := hrel
            by_cases hil : i < xs.length + 2
            · have HT := hid (pair_text _ hN.out i (by omega))
              have HU := hid (pair_rtext _ hN.out i (by omega))
              obtain ⟨⟨T1, T2⟩, hT⟩ : ∃ T, textT L i = T := ⟨_, rfl⟩
              rw [hT] at HT HU
              clear hT
              go_wp2_with fail
              refine HT.out.mono ?_
              rintro e4 w4 ⟨rfl, rfl⟩
              go_wp2_with fail
              refine HU.out.mono ?_
              rintro e4 w5 ⟨rfl, rfl⟩
              go_wp2_with fail
              exact ⟨⟨i + 1, by omega, by omega, by simp, trivial⟩, by simp [intOf]; omega⟩
            · have hie : i = xs.length + 2 := by omega
              subst hie
              go_wp2_with fail
              refine (tworks_calls _).mono ?_
              rintro e2 w7 ⟨rfl, b7⟩
              have B7 := hid (below_on hB.out b7)
              clear b7
              go_wp2_with fail
              go_ret
              exact ⟨rfl, B7.out⟩

theorem walk (a0 : Value) (l0 : List (List Value)) (a1 : Value) (l1 : List (List Value)) (w : World) (w0 : Hid (RowsArg 1 a0 l0 w)) (n0 : Hid (∀ r ∈ l0, r.length = 1 ∧ Fits [.s] r)) (w1 : Hid (RowsArg 1 a1 l1 w)) (n1 : Hid (∀ r ∈ l1, r.length = 1 ∧ Fits [.s] r)) :
    Calls Try.prog 3 #[a0, a1] w fun e w' => e = .returned (.bool true) ∧ Below w.heap.size w w' := by
  obtain ⟨xs, rfl, hok⟩ := texts_of n0.out
  obtain ⟨ao, cap, rfl⟩ := texts_shape w0.out
  obtain ⟨ys, rfl, hok2⟩ := texts_of n1.out
  obtain ⟨bo, cbp, rfl⟩ := texts_shape w1.out
  exact walk_play ao bo cap cbp xs ys w w0 (hid hok) w1 (hid hok2)

set_option maxRecDepth 100000 in
theorem lifted (os : Os) (started : os.Started) (H : Type) (enc : TypeId × Value → H) :
    ReturnsInHanded {} Try.checked os 3 .any (Rows.namesPlaySpec.pre6 enc Try.prog Try.f3 Rows.namesPlayRow.domain false) (Rows.namesPlaySpec.post enc Try.prog Try.f3 false true false false) := by
  refine returnsInHanded_of_change (C := Try.checked) own started (by kernel_rfl) Try.func3
    (ChangeSpec.witness6 (enc := enc) (C := Try.checked) false ⟨#[], #[.slice none 0 0, .slice none 0 0], []⟩ 8 (by kernel_rfl) (by kernel_rfl) (by kernel_rfl) (by kernel_rfl)) ?_
  intro W base args ds gs before hval0 hW hcnd _
  have hval : ∀ (j : Nat) t v, Try.f3.params[j]? = some t → args[j]? = some v → Value.okWide Try.prog W .any base t v := hval0
  have hW' := hW
  obtain ⟨p, q, hA0, hV, rfl, hfz, hnd⟩ := hW
  have hA : DataW.TrodAll enc Try.prog W 0 (fun _ => true) true Try.f3.params.toList args.toList ds p := hA0
  rw [Try.params3] at hA hval
  obtain ⟨v0, vs0, d0, ds0, p0, q0, hargs, rfl, rfl, h0, r0⟩ := trodAll_cons hA
  obtain ⟨v1, vs1, d1, ds1, p1, q1, rfl, rfl, rfl, h1, r1⟩ := trodAll_cons r0
  obtain ⟨rfl, rfl, rfl⟩ := trodAll_nil r1
  obtain rfl : args = #[v0, v1] := by cases args; simp_all
  obtain ⟨rfl, rfl⟩ := trodVars_none hV
  have hk0 := h0
  have hlt0 : ∀ x ∈ p0, x.block < W.heap.size := fun x hx => by simpa using hW'.lt x (by simp [hx])
  obtain ⟨l0, w0, n0⟩ := open_flats Try.underlying22 (show flat Try.prog 5 9 = some [.s] by kernel_rfl) (show Try.prog.cellsOf 9 = 1 by kernel_rfl) (by decide) (hval 0 22 v0 rfl rfl) h0
  have hk1 := h1
  have hlt1 : ∀ x ∈ p1, x.block < W.heap.size := fun x hx => by simpa using hW'.lt x (by simp [hx])
  obtain ⟨l1, w1, n1⟩ := open_flats Try.underlying22 (show flat Try.prog 5 9 = some [.s] by kernel_rfl) (show Try.prog.cellsOf 9 = 1 by kernel_rfl) (by decide) (hval 1 22 v1 rfl rfl) h1
  clear hA0 hval0
  refine (walk v0 l0 v1 l1 W w0 n0 w1 n1).mono fun e W' ⟨he, hg⟩ => ?_
  subst he
  exact ⟨_, rfl, _, _, _, [], _, [], hW', trodAll_mk1 (shut_bool Try.underlying4 _), (trodAll_cons_mk (Below.trod laidOutP (by kernel_rfl) (of_decide_eq_true (by kernel_rfl)) hk0 hg hlt0) (trodAll_cons_mk (Below.trod laidOutP (by kernel_rfl) (of_decide_eq_true (by kernel_rfl)) hk1 hg hlt1) trodAll_mk0)), rfl, hg.frame _, fun h => by cases h⟩

theorem over : Rows.namesPlayRow.holds Try.pinned (OpenSpec.ofChange Rows.namesPlaySpec) :=
  OpenClaim.holds_of_wide 3 Try.f3 rfl rfl rfl rfl rfl rfl rfl ⟨rfl, rfl, rfl, rfl, rfl⟩ rfl rfl rfl rfl rfl (by kernel_rfl) Try.func3 (by kernel_rfl)
    (of_decide_eq_true (by kernel_rfl)) (by unfold Func.isWrapper; first | (rw [if_pos (by decide +kernel)]; kernel_rfl) | (rw [if_neg (by decide +kernel)]; exact ⟨rfl, rfl⟩))
    (fun os started H enc _ => lifted os started H enc)

end Go.Proofs.Ytblejdoceppfjaa.namesPlay
namespace Go.Proofs.Ytblejdoceppfjaa

/-- the statement, as it was given -/
theorem namesPlay_holds : Rows.NamesPlaySaid :=
  namesPlay.over
#print axioms namesPlay_holds
end Go.Proofs.Ytblejdoceppfjaa
