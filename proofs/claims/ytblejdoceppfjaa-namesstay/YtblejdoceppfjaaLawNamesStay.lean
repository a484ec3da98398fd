/- A number's text stays, whatever is asked for behind it (of at most 100 texts each, of at most 300 bytes; otherwise the law's own test alone is asked): NamesStay is true for every input; no condition. -/
import Derived.Test.YtblejdoceppfjaaNmTwo
import Derived.Test.YtblejdoceppfjaaRows
import Derived.WalkKit
import Derived.ProofKit
import Derived.OpenShut
import Derived.ShutString
import Derived.ChangeOld
import Derived.Below
namespace Go.Proofs.Ytblejdoceppfjaa.namesStay
open Go.ChangeShapes Go.WideShapes Go.ChangeAt Go.RowKit
open Go.ChangeMaps (open_string shut_string)
set_option linter.unusedVariables false

theorem own : ownKnob Try.prog.godebug = none := by kernel_rfl

set_option linter.unusedSimpArgs false
set_option maxHeartbeats 4000000 in
theorem walk_stay (ao bo : Option Addr) (cap cbp : Nat) (xs ys : List ByteArray) (w : World) (HR : Hid (RowsArg 1 (.slice ao xs.length cap) (xs.map txC) w)) (HX : Hid (∀ x ∈ xs, x.size ≤ maxLen))
    (HS : Hid (RowsArg 1 (.slice bo ys.length cbp) (ys.map txC) w)) (HY : Hid (∀ x ∈ ys, x.size ≤ maxLen)) :
    Calls Try.prog 5 #[.slice ao xs.length cap, .slice bo ys.length cbp] w fun e w' => e = .returned (.bool true) ∧ Below w.heap.size w w' := by
  have HL := hid (tlong_calls w HR.out HX.out)
  have HM := hid (tlong_calls w HS.out HY.out)
  cases h1 : longT xs with
  | true =>
    rw [h1] at HL
    go_enter Try.func5, Try.ntmps5
    go_wp2_with fail
    refine HL.out.mono ?_
    rintro e1 w1 ⟨rfl, rfl⟩
    go_wp2_with fail
    refine (tworks_calls _).mono ?_
    rintro e2 w3 ⟨rfl, b2⟩
    have B3 := hid b2
    clear b2
    go_wp2_with fail
    go_ret
    exact ⟨rfl, B3.out⟩
  | false =>
  rw [h1] at HL
  cases h2 : longT ys with
  | true =>
    rw [h2] at HM
    go_enter Try.func5, Try.ntmps5
    go_wp2_with fail
    refine HL.out.mono ?_
    rintro e1 w1 ⟨rfl, rfl⟩
    go_wp2_with fail
    refine HM.out.mono ?_
    rintro e1 w1 ⟨rfl, rfl⟩
    go_wp2_with fail
    refine (tworks_calls _).mono ?_
    rintro e2 w3 ⟨rfl, b2⟩
    have B3 := hid b2
    clear b2
    go_wp2_with fail
    go_ret
    exact ⟨rfl, B3.out⟩
  | false =>
  rw [h2] at HM
  obtain ⟨hlx, _⟩ := not_longT h1
  obtain ⟨hly, _⟩ := not_longT h2
  clear h1 h2
  go_enter Try.func5, Try.ntmps5
  go_wp2_with fail
  refine HL.out.mono ?_
  rintro e1 w1 ⟨rfl, rfl⟩
  go_wp2_with fail
  refine HM.out.mono ?_
  rintro e1 w1 ⟨rfl, rfl⟩
  go_wp2_with fail
  refine (tnew_calls _).mono ?_
  rintro e0 w0 ⟨t, rfl, h0, b0⟩
  have H0 := hid (show BesideN w1.heap.size t (.slice none 0 0) [] [] w0 from ⟨b0.size, ⟨rfl, .inl ⟨rfl, rfl⟩⟩, fun g hg => by simp [Value.ownBlock] at hg, _, h0.mono (T := fun b => w1.heap.size ≤ b ∧ b < w0.heap.size) (fun b q1 q2 => ⟨q2, q1⟩), fun b hb => ⟨hb.1, hb.2, by simp [Value.ownBlock]⟩⟩)
  have B0 := hid b0
  clear h0 b0 HL HM
  go_wp2_with fail
  go_loopw [6, 7] (fun v k wr => ∃ (j : Nat) (L : List ByteArray) (D : List Nat), j ≤ xs.length ∧ L.length ≤ j ∧ (∃ a c, v = .slice a D.length c) ∧ k = .int .i64 j ∧ Hid (BesideN w1.heap.size t v L D wr) ∧ Hid (IdsN xs j L D) ∧ Hid (Below w1.heap.size w1 wr)) (fun _ k _ => xs.length - (intOf k).toNat)
  case atStart => exact ⟨0, [], [], by omega, by simp, ⟨none, 0, rfl⟩, rfl, H0, hid ⟨rfl, fun i s hi => absurd hi (Nat.not_lt_zero _)⟩, B0⟩
  case round =>
    obtain ⟨j, L, D, hj, hLj, ⟨va, vc, rfl⟩, rfl, hN, hI, hB⟩ := hrel
    have HDl := hid hI.out.1
    have hDb : D.length ≤ 1000000 := by have := hI.out.1; omega
    by_cases hjl : j < xs.length
    · obtain ⟨s, hs⟩ : ∃ e, xs[j]? = some e := ⟨xs[j], List.getElem?_eq_getElem hjl⟩
      obtain ⟨b, off, rfl, hb, c0⟩ := text_at (rowsArg_on HR.out hB.out) hs
      have hsz := HX.out s (List.mem_of_getElem? hs)
      have hl2 := (ofT_len L s).1
      have HI2 := hid (ids_more hI.out hs)
      generalize hN0 : numT L s = N0 at *
      generalize hL0 : ofT L s = L0 at *
      have HOf := hid (beside_of _ hN.out s hsz (by omega))
      rw [hN0, hL0] at HOf
      clear hN0 hL0 hs
      go_wp2_with fail
      refine HOf.out.mono ?_
      rintro e2 w2 ⟨rfl, h2, b2⟩
      have H2 := hid h2
      have B2 := hid (hB.out.trans b2)
      have H2r := hid h2.2.1
      clear h2 b2 hN hB HOf
      go_wp2_with (first | (at_builtin; refine row_app elIn (by decide) (by decide) rfl _ _ rfl D.length (intC D) [.int .i64 (N0 : Int)] rfl (by intro u hu; simp at hu; subst hu; rfl) (.slice va D.length vc) (by rfl) H2r.out w2.heap.size (by rfl) rfl hDb ?_; intro g cp w3 hown hgrow hat; have q := beside_app H2.out hown hgrow hat; have H3 := hid q.1; have B3 := hid (B2.out.trans q.2); clear hown hgrow hat q) | fail)
      exact ⟨⟨j + 1, _, _, by omega, by omega, ⟨_, _, by rw [List.length_append]; rfl⟩, by simp, H3, HI2, B3⟩, by simp [intOf]; omega⟩
    · have hje : j = xs.length := by omega
      subst hje
      clear hj hjl H0 B0
      go_wp2_with fail
      go_loopw [8] (fun k wr => ∃ (j : Nat) (M : List ByteArray), j ≤ ys.length ∧ M.length ≤ xs.length + j ∧ k = .int .i64 j ∧ Hid (BesideN w1.heap.size t (.slice va D.length vc) M D wr) ∧ Hid (IdsN xs xs.length M D) ∧ Hid (Below w1.heap.size w1 wr)) (fun k _ => ys.length - (intOf k).toNat)
      case atStart => exact ⟨0, L, by omega, by omega, rfl, hN, hI, hB⟩
      case round =>
        obtain ⟨j, M, hj, hMj, rfl, hN, hI, hB⟩ := hrel
        by_cases hjl : j < ys.length
        · obtain ⟨s, hs⟩ : ∃ e, ys[j]? = some e := ⟨ys[j], List.getElem?_eq_getElem hjl⟩
          obtain ⟨b, off, rfl, hb, c0⟩ := text_at (rowsArg_on HS.out hB.out) hs
          have hsz := HY.out s (List.mem_of_getElem? hs)
          have hl2 := (ofT_len M s).1
          have HI2 := hid (ids_of hI.out s)
          clear hs
          go_wp2_with fail
          refine (beside_of _ hN.out s hsz (by omega)).mono ?_
          rintro e2 w2 ⟨rfl, h2, b2⟩
          have H2 := hid h2
          have B2 := hid (hB.out.trans b2)
          clear h2 b2 hN hB
          go_wp2_with fail
          exact ⟨⟨j + 1, _, by omega, by omega, by simp, H2, HI2, B2⟩, by simp [intOf]; omega⟩
        · have hje : j = ys.length := by omega
          subst hje
          clear hj hjl
          go_wp2_with fail
          go_loopw [9] (fun k w2 => ∃ (j : Nat), j ≤ xs.length ∧ k = .int .i64 j ∧ w2 = wr) (fun k _ => xs.length - (intOf k).toNat)
          case atStart => exact ⟨0, by omega, rfl, rfl⟩
          case round =>
            obtain ⟨j, hj, rfl, rfl⟩ := hrel
            by_cases hjl : j < xs.length
            · obtain ⟨s, hs⟩ : ∃ e, xs[j]? = some e := ⟨xs[j], List.getElem?_eq_getElem hjl⟩
              obtain ⟨b, off, rfl, hb, c0⟩ := text_at (rowsArg_on HR.out hB.out) hs
              have hsz := HX.out s (List.mem_of_getElem? hs)
              obtain ⟨n, hn, hat⟩ := hI.out.2 j s hjl hs
              obtain ⟨g, cp, he, c1⟩ := hN.out.cell hn
              injection he with he1 he2 he3
              subst he1 he3
              obtain ⟨S, hS⟩ := hN.out.tab
              have hjD : j < D.length := by have := hI.out.1; omega
              have HT := hid (ttext_some _ hS (atT_at hat) (by omega))
              rw [show ((n : Int) + 1) = ((n + 1 : Nat) : Int) from by omega] at HT
              have HF := hid (tfind_calls _ hS s hsz)
              rw [show findT M s = n + 1 from by unfold findT; rw [hat], show (atT M s).isSome = true from by rw [hat]; rfl] at HF
              clear hs hn hat hS
              generalize ((n + 1 : Nat) : Int) = I at *
              go_wp2_with fail
              refine HT.out.mono ?_
              rintro e4 w4 ⟨rfl, rfl⟩
              go_wp2_with fail
              refine HF.out.mono ?_
              rintro e4 w5 ⟨rfl, rfl⟩
              go_wp2_with fail
              exact ⟨⟨j + 1, by omega, by simp, trivial⟩, by simp [intOf]; omega⟩
            · have hje : j = xs.length := by omega
              subst hje
              go_wp2_with fail
              refine (tworks_calls _).mono ?_
              rintro e2 w7 ⟨rfl, b7⟩
              have B7 := hid (below_on hB.out b7)
              clear b7
              go_wp2_with fail
              go_ret
              exact ⟨rfl, B7.out⟩

theorem walk (a0 : Value) (l0 : List (List Value)) (a1 : Value) (l1 : List (List Value)) (w : World) (w0 : Hid (RowsArg 1 a0 l0 w)) (n0 : Hid (∀ r ∈ l0, r.length = 1 ∧ Fits [.s] r)) (w1 : Hid (RowsArg 1 a1 l1 w)) (n1 : Hid (∀ r ∈ l1, r.length = 1 ∧ Fits [.s] r)) :
    Calls Try.prog 5 #[a0, a1] w fun e w' => e = .returned (.bool true) ∧ Below w.heap.size w w' := by
  obtain ⟨xs, rfl, hok⟩ := texts_of n0.out
  obtain ⟨ao, cap, rfl⟩ := texts_shape w0.out
  obtain ⟨ys, rfl, hok2⟩ := texts_of n1.out
  obtain ⟨bo, cbp, rfl⟩ := texts_shape w1.out
  exact walk_stay ao bo cap cbp xs ys w w0 (hid hok) w1 (hid hok2)

set_option maxRecDepth 100000 in
theorem lifted (os : Os) (started : os.Started) (H : Type) (enc : TypeId × Value → H) :
    ReturnsInHanded {} Try.checked os 5 .any (Rows.namesStaySpec.pre6 enc Try.prog Try.f5 Rows.namesStayRow.domain false) (Rows.namesStaySpec.post enc Try.prog Try.f5 false true false false) := by
  refine returnsInHanded_of_change (C := Try.checked) own started (by kernel_rfl) Try.func5
    (ChangeSpec.witness6 (enc := enc) (C := Try.checked) false ⟨#[], #[.slice none 0 0, .slice none 0 0], []⟩ 8 (by kernel_rfl) (by kernel_rfl) (by kernel_rfl) (by kernel_rfl)) ?_
  intro W base args ds gs before hval0 hW hcnd _
  have hval : ∀ (j : Nat) t v, Try.f5.params[j]? = some t → args[j]? = some v → Value.okWide Try.prog W .any base t v := hval0
  have hW' := hW
  obtain ⟨p, q, hA0, hV, rfl, hfz, hnd⟩ := hW
  have hA : DataW.TrodAll enc Try.prog W 0 (fun _ => true) true Try.f5.params.toList args.toList ds p := hA0
  rw [Try.params5] at hA hval
  obtain ⟨v0, vs0, d0, ds0, p0, q0, hargs, rfl, rfl, h0, r0⟩ := trodAll_cons hA
  obtain ⟨v1, vs1, d1, ds1, p1, q1, rfl, rfl, rfl, h1, r1⟩ := trodAll_cons r0
  obtain ⟨rfl, rfl, rfl⟩ := trodAll_nil r1
  obtain rfl : args = #[v0, v1] := by cases args; simp_all
  obtain ⟨rfl, rfl⟩ := trodVars_none hV
  have hk0 := h0
  have hlt0 : ∀ x ∈ p0, x.block < W.heap.size := fun x hx => by simpa using hW'.lt x (by simp [hx])
  obtain ⟨l0, w0, n0⟩ := open_flats Try.underlying22 (show flat Try.prog 5 9 = some [.s] by kernel_rfl) (show Try.prog.cellsOf 9 = 1 by kernel_rfl) (by decide) (hval 0 22 v0 rfl rfl) h0
  have hk1 := h1
  have hlt1 : ∀ x ∈ p1, x.block < W.heap.size := fun x hx => by simpa using hW'.lt x (by simp [hx])
  obtain ⟨l1, w1, n1⟩ := open_flats Try.underlying22 (show flat Try.prog 5 9 = some [.s] by kernel_rfl) (show Try.prog.cellsOf 9 = 1 by kernel_rfl) (by decide) (hval 1 22 v1 rfl rfl) h1
  clear hA0 hval0
  refine (walk v0 l0 v1 l1 W w0 n0 w1 n1).mono fun e W' ⟨he, hg⟩ => ?_
  subst he
  exact ⟨_, rfl, _, _, _, [], _, [], hW', trodAll_mk1 (shut_bool Try.underlying4 _), (trodAll_cons_mk (Below.trod laidOutP (by kernel_rfl) (of_decide_eq_true (by kernel_rfl)) hk0 hg hlt0) (trodAll_cons_mk (Below.trod laidOutP (by kernel_rfl) (of_decide_eq_true (by kernel_rfl)) hk1 hg hlt1) trodAll_mk0)), rfl, hg.frame _, fun h => by cases h⟩

theorem over : Rows.namesStayRow.holds Try.pinned (OpenSpec.ofChange Rows.namesStaySpec) :=
  OpenClaim.holds_of_wide 5 Try.f5 rfl rfl rfl rfl rfl rfl rfl ⟨rfl, rfl, rfl, rfl, rfl⟩ rfl rfl rfl rfl rfl (by kernel_rfl) Try.func5 (by kernel_rfl)
    (of_decide_eq_true (by kernel_rfl)) (by unfold Func.isWrapper; first | (rw [if_pos (by decide +kernel)]; kernel_rfl) | (rw [if_neg (by decide +kernel)]; exact ⟨rfl, rfl⟩))
    (fun os started H enc _ => lifted os started H enc)

end Go.Proofs.Ytblejdoceppfjaa.namesStay
namespace Go.Proofs.Ytblejdoceppfjaa

/-- the statement, as it was given -/
theorem namesStay_holds : Rows.NamesStaySaid :=
  namesStay.over
#print axioms namesStay_holds
end Go.Proofs.Ytblejdoceppfjaa
