/- Two texts have one number just if they are one, whatever was asked for ahead, and the number tells the text (of at most 100 texts, of at most 300 bytes; otherwise the law's own test alone is asked): NamesApart is true for every input; no condition. -/
import Derived.Test.YtblejdoceppfjaaNmArg
import Derived.Test.YtblejdoceppfjaaRows
import Derived.WalkKit
import Derived.ProofKit
import Derived.OpenShut
import Derived.ShutString
import Derived.ChangeOld
import Derived.Below
namespace Go.Proofs.Ytblejdoceppfjaa.namesApart
open Go.ChangeShapes Go.WideShapes Go.ChangeAt Go.RowKit
open Go.ChangeMaps (open_string shut_string)
set_option linter.unusedVariables false

theorem own : ownKnob Try.prog.godebug = none := by kernel_rfl

set_option linter.unusedSimpArgs false
theorem num_same (L : List ByteArray) (a b : ByteArray) : ((numT L a : Int) == (numT (ofT L a) b : Int)) = (a.toList == b.toList) := by
  have h1 := ofT_at L a
  by_cases h : a = b
  · subst h
    have h2 : numT (ofT L a) a = numT L a := by
      unfold numT at h1 ⊢
      rw [h1.1]
      split <;> split at h1 <;> simp_all <;> omega
    rw [h2]
    simp
  · have hne : (a.toList == b.toList) = false := by
      rw [beq_eq_false_iff_ne, Lib.toList_data, Lib.toList_data]
      intro e
      apply h
      cases a; cases b
      simp at e
      rw [e]
    rw [hne, beq_eq_false_iff_ne]
    intro e
    have e' : numT L a = numT (ofT L a) b := by exact_mod_cast e
    have h2 : atT (ofT L a) a = some (numT (ofT L a) b - 1) := by rw [← e']; exact h1.1
    have h3 := atT_at h2
    have hn : numT (ofT L a) b ≤ (ofT L a).length := by rw [← e']; exact h1.2.2
    cases hb : atT (ofT L a) b with
    | none =>
      have : numT (ofT L a) b = (ofT L a).length + 1 := by unfold numT; rw [hb]
      omega
    | some i =>
      have h4 := atT_at hb
      have h5 : numT (ofT L a) b - 1 = i := by unfold numT; rw [hb]; simp
      rw [h5, h4] at h3
      cases h3
      exact h rfl
theorem num_again (L : List ByteArray) (a b : ByteArray) : numT (ofT (ofT L a) b) a = numT L a ∧ findT (ofT (ofT L a) b) a = numT L a ∧ (atT (ofT (ofT L a) b) a).isSome = true ∧ (ofT (ofT L a) b)[numT L a - 1]? = some a := by
  have h1 := ofT_at L a
  have h2 := ofT_stay (y := b) h1.1
  have h3 : numT L a - 1 + 1 = numT L a := by omega
  refine ⟨?_, ?_, by rw [h2]; rfl, atT_at h2⟩
  · conv => lhs; unfold numT
    rw [h2]; exact h3
  · conv => lhs; unfold findT
    rw [h2]; exact h3
set_option maxHeartbeats 2000000 in
theorem walk_apart (ao : Option Addr) (cap : Nat) (xs : List ByteArray) (a b : ByteArray) (w : World) (HR : Hid (RowsArg 1 (.slice ao xs.length cap) (xs.map txC) w)) (HX : Hid (∀ x ∈ xs, x.size ≤ maxLen)) (wa : a.size ≤ maxLen) (wb : b.size ≤ maxLen) :
    Calls Try.prog 4 #[.slice ao xs.length cap, .string a, .string b] w fun e w' => e = .returned (.bool true) ∧ Below w.heap.size w w' := by
  have HL := hid (tlong_calls w HR.out HX.out)
  by_cases hlong : longT xs = true ∨ 300 < a.size ∨ 300 < b.size
  · have fin : ∀ {Q : Prop}, Q → Q := fun h => h
    by_cases h1 : longT xs = true
    · rw [h1] at HL
      clear hlong
      go_enter Try.func4, Try.ntmps4
      go_wp2_with fail
      refine HL.out.mono ?_
      rintro e1 w1 ⟨rfl, rfl⟩
      go_wp2_with fail
      refine (tworks_calls _).mono ?_
      rintro e2 w3 ⟨rfl, b2⟩
      have B3 := hid b2
      clear b2
      go_wp2_with fail
      go_ret
      exact ⟨rfl, B3.out⟩
    · have h1' : longT xs = false := by simpa using h1
      rw [h1'] at HL
      by_cases h2 : 300 < a.size
      · have d2 : decide ((300 : Int) < (a.size : Int)) = true := decide_eq_true (by omega)
        clear hlong h1
        go_enter Try.func4, Try.ntmps4
        go_wp2_with fail
        refine HL.out.mono ?_
        rintro e1 w1 ⟨rfl, rfl⟩
        go_wp2_with fail
        refine (tworks_calls _).mono ?_
        rintro e2 w3 ⟨rfl, b2⟩
        have B3 := hid b2
        clear b2
        go_wp2_with fail
        go_ret
        exact ⟨rfl, B3.out⟩
      · have d2 : decide ((300 : Int) < (a.size : Int)) = false := decide_eq_false (by omega)
        have h3 : 300 < b.size := by rcases hlong with h | h | h; exact absurd h h1; exact absurd h h2; exact h
        have d3 : decide ((300 : Int) < (b.size : Int)) = true := decide_eq_true (by omega)
        clear hlong h1
        go_enter Try.func4, Try.ntmps4
        go_wp2_with fail
        refine HL.out.mono ?_
        rintro e1 w1 ⟨rfl, rfl⟩
        go_wp2_with fail
        refine (tworks_calls _).mono ?_
        rintro e2 w3 ⟨rfl, b2⟩
        have B3 := hid b2
        clear b2
        go_wp2_with fail
        go_ret
        exact ⟨rfl, B3.out⟩
  · have h1 : longT xs = false := by cases h : longT xs with | false => rfl | true => exact absurd (.inl h) hlong
    rw [h1] at HL
    obtain ⟨hlen, _⟩ := not_longT h1
    have d2 : decide ((300 : Int) < (a.size : Int)) = false := decide_eq_false (by omega)
    have d3 : decide ((300 : Int) < (b.size : Int)) = false := decide_eq_false (by omega)
    clear hlong h1
    go_enter Try.func4, Try.ntmps4
    go_wp2_with fail
    refine HL.out.mono ?_
    rintro e1 w1 ⟨rfl, rfl⟩
    go_wp2_with fail
    refine (tnew_calls _).mono ?_
    rintro e0 w0 ⟨t, rfl, h0, b0⟩
    have H0 := hid h0
    have B0 := hid b0
    clear h0 b0
    go_wp2_with fail
    go_loopw [8] (fun k wr => ∃ (j : Nat) (L : List ByteArray), j ≤ xs.length ∧ L.length ≤ j ∧ k = .int .i64 j ∧ Hid (NmS (fun b => w1.heap.size ≤ b) t L wr) ∧ Hid (Below w1.heap.size w1 wr)) (fun k _ => xs.length - (intOf k).toNat)
    case atStart => exact ⟨0, [], by omega, by simp, rfl, H0, B0⟩
    case round =>
      obtain ⟨j, L, hj, hLj, rfl, hN, hB⟩ := hrel
      have hz := hid hB.out.size
      by_cases hjl : j < xs.length
      · obtain ⟨s, hs⟩ : ∃ e, xs[j]? = some e := ⟨xs[j], List.getElem?_eq_getElem hjl⟩
        obtain ⟨b, off, rfl, hb, c0⟩ := text_at (rowsArg_on HR.out hB.out) hs
        have hsz := HX.out s (List.mem_of_getElem? hs)
        go_wp2_with fail
        refine (tof0 _ hN.out hz.out s hsz (by omega)).mono ?_
        rintro e2 w2 ⟨rfl, h2, b2⟩
        have H2 := hid h2
        have B2 := hid (hB.out.trans b2)
        have hl2 := (ofT_len L s).1
        clear h2 b2 hN hB hz
        go_wp2_with fail
        exact ⟨⟨j + 1, _, by omega, by omega, by simp, H2, B2⟩, by simp [intOf]; omega⟩
      · have hje : j = xs.length := by omega
        subst hje
        go_wp2_with fail
        refine (tof0 _ hN.out hz.out a wa (by omega)).mono ?_
        rintro e2 w2 ⟨rfl, h2, b2⟩
        have H2 := hid h2
        have B2 := hid (hB.out.trans b2)
        have hz2 := hid B2.out.size
        have hl2 := (ofT_len L a).1
        clear h2 b2 hN hB hz
        go_wp2_with fail
        refine (tof0 _ H2.out hz2.out b wb (by omega)).mono ?_
        rintro e3 w3 ⟨rfl, h3, b3⟩
        have H3 := hid h3
        have B3 := hid (B2.out.trans b3)
        have hz3 := hid B3.out.size
        have hl3 := (ofT_len (ofT L a) b).1
        clear h3 b3 H2 B2 hz2
        obtain ⟨n1, n2, n3, n4⟩ := num_again L a b
        have ns := num_same L a b
        have hp := (ofT_at L a).2.1
        obtain ⟨i, hi⟩ : ∃ i, numT L a = i + 1 := ⟨numT L a - 1, by omega⟩
        rw [hi] at n1 n2 n4 ns ⊢
        rw [Nat.add_sub_cancel] at n4
        have HT := hid (ttext_some _ H3.out n4 (by omega))
        have HF := hid (tfind_calls _ H3.out a wa)
        rw [n2, n3] at HF
        have HO := hid (tof0 _ H3.out hz3.out a wa (by omega))
        rw [n1] at HO
        rw [show ((i : Int) + 1) = ((i + 1 : Nat) : Int) from by omega] at HT
        clear n1 n2 n3 n4 hi hp
        generalize ((numT (ofT L a) b : Nat) : Int) = N at *
        generalize ((i + 1 : Nat) : Int) = I at *
        generalize hLL : ofT (ofT L a) b = LL at *
        generalize hLM : ofT LL a = LM at *
        clear hLL hLM
        by_cases hab : a = b
        · subst hab
          have hI : I = N := by simpa using ns
          subst hI
          clear ns
          go_wp2_with fail
          refine HT.out.mono ?_
          rintro e4 w4 ⟨rfl, rfl⟩
          go_wp2_with fail
          refine HF.out.mono ?_
          rintro e4 w5 ⟨rfl, rfl⟩
          go_wp2_with fail
          refine HO.out.mono ?_
          rintro e4 w6 ⟨rfl, _, b6⟩
          have B6 := hid (B3.out.trans b6)
          clear b6
          go_wp2_with fail
          refine (tworks_calls _).mono ?_
          rintro e2 w7 ⟨rfl, b7⟩
          have B7 := hid (below_on B6.out b7)
          clear b7
          go_wp2_with fail
          go_ret
          exact ⟨rfl, B7.out⟩
        · have hnb : (a.toList == b.toList) = false := by
            rw [beq_eq_false_iff_ne, Lib.toList_data, Lib.toList_data]
            intro e
            apply hab
            cases a; cases b
            simp at e
            rw [e]
          have dI : decide (I = N) = false := by
            rw [hnb] at ns
            simpa using ns
          have nI : (I == N) = false := by rw [ns, hnb]
          clear ns
          go_wp2_with fail
          refine HT.out.mono ?_
          rintro e4 w4 ⟨rfl, rfl⟩
          go_wp2_with fail
          refine HF.out.mono ?_
          rintro e4 w5 ⟨rfl, rfl⟩
          go_wp2_with fail
          refine HO.out.mono ?_
          rintro e4 w6 ⟨rfl, _, b6⟩
          have B6 := hid (B3.out.trans b6)
          clear b6
          go_wp2_with fail
          refine (tworks_calls _).mono ?_
          rintro e2 w7 ⟨rfl, b7⟩
          have B7 := hid (below_on B6.out b7)
          clear b7
          go_wp2_with fail
          go_ret
          exact ⟨rfl, B7.out⟩

theorem walk (a0 : Value) (l0 : List (List Value)) (a1 : ByteArray) (a2 : ByteArray) (w : World) (w0 : Hid (RowsArg 1 a0 l0 w)) (n0 : Hid (∀ r ∈ l0, r.length = 1 ∧ Fits [.s] r)) (w1 : a1.size ≤ maxLen) (w2 : a2.size ≤ maxLen) :
    Calls Try.prog 4 #[a0, .string a1, .string a2] w fun e w' => e = .returned (.bool true) ∧ Below w.heap.size w w' := by
  obtain ⟨xs, rfl, hok⟩ := texts_of n0.out
  obtain ⟨ao, cap, rfl⟩ := texts_shape w0.out
  exact walk_apart ao cap xs a1 a2 w w0 (hid hok) w1 w2

set_option maxRecDepth 100000 in
theorem lifted (os : Os) (started : os.Started) (H : Type) (enc : TypeId × Value → H) :
    ReturnsInHanded {} Try.checked os 4 .any (Rows.namesApartSpec.pre6 enc Try.prog Try.f4 Rows.namesApartRow.domain false) (Rows.namesApartSpec.post enc Try.prog Try.f4 false true false false) := by
  refine returnsInHanded_of_change (C := Try.checked) own started (by kernel_rfl) Try.func4
    (ChangeSpec.witness6 (enc := enc) (C := Try.checked) false ⟨#[], #[.slice none 0 0, .string ByteArray.empty, .string ByteArray.empty], []⟩ 8 (by kernel_rfl) (by kernel_rfl) (by kernel_rfl) (by kernel_rfl)) ?_
  intro W base args ds gs before hval0 hW hcnd _
  have hval : ∀ (j : Nat) t v, Try.f4.params[j]? = some t → args[j]? = some v → Value.okWide Try.prog W .any base t v := hval0
  have hW' := hW
  obtain ⟨p, q, hA0, hV, rfl, hfz, hnd⟩ := hW
  have hA : DataW.TrodAll enc Try.prog W 0 (fun _ => true) true Try.f4.params.toList args.toList ds p := hA0
  rw [Try.params4] at hA hval
  obtain ⟨v0, vs0, d0, ds0, p0, q0, hargs, rfl, rfl, h0, r0⟩ := trodAll_cons hA
  obtain ⟨v1, vs1, d1, ds1, p1, q1, rfl, rfl, rfl, h1, r1⟩ := trodAll_cons r0
  obtain ⟨v2, vs2, d2, ds2, p2, q2, rfl, rfl, rfl, h2, r2⟩ := trodAll_cons r1
  obtain ⟨rfl, rfl, rfl⟩ := trodAll_nil r2
  obtain rfl : args = #[v0, v1, v2] := by cases args; simp_all
  obtain ⟨rfl, rfl⟩ := trodVars_none hV
  have hk0 := h0
  have hlt0 : ∀ x ∈ p0, x.block < W.heap.size := fun x hx => by simpa using hW'.lt x (by simp [hx])
  obtain ⟨l0, w0, n0⟩ := open_flats Try.underlying22 (show flat Try.prog 5 9 = some [.s] by kernel_rfl) (show Try.prog.cellsOf 9 = 1 by kernel_rfl) (by decide) (hval 0 22 v0 rfl rfl) h0
  obtain ⟨a1, rfl, rfl, rfl, w1⟩ := open_string Try.underlying9 (hval 1 9 v1 rfl rfl) h1
  obtain ⟨a2, rfl, rfl, rfl, w2⟩ := open_string Try.underlying9 (hval 2 9 v2 rfl rfl) h2
  clear hA0 hval0
  refine (walk v0 l0 a1 a2 W w0 n0 w1 w2).mono fun e W' ⟨he, hg⟩ => ?_
  subst he
  exact ⟨_, rfl, _, _, _, [], _, [], hW', trodAll_mk1 (shut_bool Try.underlying4 _), (trodAll_cons_mk (Below.trod laidOutP (by kernel_rfl) (of_decide_eq_true (by kernel_rfl)) hk0 hg hlt0) (trodAll_cons_mk (shut_string Try.underlying9 w1) (trodAll_cons_mk (shut_string Try.underlying9 w2) trodAll_mk0))), rfl, hg.frame _, fun h => by cases h⟩

theorem over : Rows.namesApartRow.holds Try.pinned (OpenSpec.ofChange Rows.namesApartSpec) :=
  OpenClaim.holds_of_wide 4 Try.f4 rfl rfl rfl rfl rfl rfl rfl ⟨rfl, rfl, rfl, rfl, rfl⟩ rfl rfl rfl rfl rfl (by kernel_rfl) Try.func4 (by kernel_rfl)
    (of_decide_eq_true (by kernel_rfl)) (by unfold Func.isWrapper; first | (rw [if_pos (by decide +kernel)]; kernel_rfl) | (rw [if_neg (by decide +kernel)]; exact ⟨rfl, rfl⟩))
    (fun os started H enc _ => lifted os started H enc)

end Go.Proofs.Ytblejdoceppfjaa.namesApart
namespace Go.Proofs.Ytblejdoceppfjaa

/-- the statement, as it was given -/
theorem namesApart_holds : Rows.NamesApartSaid :=
  namesApart.over
#print axioms namesApart_holds
end Go.Proofs.Ytblejdoceppfjaa
