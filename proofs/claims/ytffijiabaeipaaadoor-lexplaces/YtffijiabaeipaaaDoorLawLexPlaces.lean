/- The tokens that are read of any text of at most 1900 bytes may be, each stands at its place, behind the one ahead of it, and a text behind a note is not read (beyond 1900 bytes, or at an error, the law asks its own test alone): LexPlaces is true for every input; the table of signs holds what the program's text lays (the card ties it); no other condition. -/
import Derived.Test.YtffijiabaeipaaaDoorLexLaid
import Derived.Test.YtffijiabaeipaaaDoorLexPlaced
import Derived.Test.YtffijiabaeipaaaDoorLexRight
import Derived.Test.YtffijiabaeipaaaDoorRows
import Derived.WalkKit
import Derived.ProofKit
import Derived.OpenShut
import Derived.ShutString
import Derived.ChangeOld
import Derived.Below
import Derived.Test.YtffijiabaeipaaaDoorTie
import Derived.Test.YtffijiabaeipaaaDoorCards
import Derived.SevenTiedAt
import Derived.Stop.Joined
import Derived.Carry
namespace Go.Proofs.YtffijiabaeipaaaDoor.lexPlaces
open Go.ChangeShapes Go.WideShapes Go.ChangeAt Go.RowKit
open Go.ChangeMaps (open_string shut_string)
set_option linter.unusedVariables false

theorem own : ownKnob Tryd.prog.godebug = none := by kernel_rfl

set_option maxRecDepth 100000 in
set_option maxHeartbeats 1600000 in

theorem walk (a0 : ByteArray) (w : World) (w0 : a0.size ≤ maxLen) (h0 : 0 < w.heap.size) (SG : Hid (Texts 0 sgnL w)) :
    Calls Tryd.prog 6 #[.string a0] w fun e w' => e = .returned (.bool true) ∧ Below w.heap.size w w' := by
  by_cases hl : a0.size ≤ 1900
  · clear w0
    by_cases he : (tokOut a0).2.2 = 0
    · obtain ⟨out, p, ho⟩ : ∃ out p, tokOut a0 = (out, p, 0) := ⟨(tokOut a0).1, (tokOut a0).2.1, by rw [← he]⟩
      have hlen : out.length ≤ 601 := by have := tokOut_len a0; rw [ho] at this; exact this
      obtain ⟨hne, hat, hnx⟩ := placed_at ho
      obtain ⟨out2, ho2, hl2⟩ := out_cat hl ho
      have Ho := hid ho
      have Ho2 := hid ho2
      have AT := hid hat
      have NXT := hid hnx
      clear ho ho2 hat hnx he
      go_enter Tryd.func6, Tryd.ntmps6
      go_wp2_with fail
      refine (tokens_calls a0 (by omega) _ h0 SG).mono ?_
      rintro e w1 ⟨v, rfl, R1, b1⟩
      rw [Ho.out] at R1 ⊢
      rcases row_lies R1 with ⟨_, h⟩ | ⟨g, cap, rfl, hgw, hg1, _⟩
      · exact absurd h hne
      have B1 := hid b1
      have R1' := hid R1
      clear R1 b1
      unfold tokEnding
      go_wp2
      go_loopw [6, 7] (fun a i wr => ∃ (j : Nat) (A : Int), j ≤ out.length ∧ i = .int .i64 j ∧ a = .int .i64 A ∧ (∀ h : j < out.length, A ≤ out[j].pl) ∧ Row 36 w.heap.size (.slice (some ⟨g, 0, none⟩) out.length cap) out wr ∧ Below w.heap.size w wr) (fun _ i _ => out.length - (intOf i).toNat)
      case atStart => exact ⟨0, 0, Nat.zero_le _, rfl, rfl, fun h => (AT.out 0 h).2.1, R1'.out, B1.out⟩
      case round =>
        clear R1' B1 hg1
        obtain ⟨j, A, hj, rfl, rfl, hA, hR, hB⟩ := hrel
        have B := hid hB
        have R := hid hR
        have S := hid (texts_on SG.out h0 hB)
        have z : 0 < wr.heap.size := Nat.lt_of_lt_of_le h0 hB.size
        by_cases hjl : j < out.length
        · rcases row_lies hR with ⟨h, _⟩ | ⟨g', cap', hv, _, hg, hL⟩
          · cases h
          obtain ⟨rfl, rfl⟩ : g = g' ∧ cap = cap' := by simpa using hv
          obtain ⟨c0, c1, c2, c3⟩ := hL j hjl
          obtain ⟨hrt, hp0, hp1, hk6⟩ := AT.out j hjl
          have hnum := right_num hrt
          have hA1 := hA hjl
          have N1 := hid (show j + 2 = out.length → ∀ h : j + 1 < out.length, out[j].pl ≤ out[j + 1].pl from fun h1 h2 => (NXT.out j h2).1 h1)
          have N2 := hid (show j + 2 ≠ out.length → ∀ h : j + 1 < out.length, out[j].pl + 1 ≤ out[j + 1].pl from fun h1 h2 => (NXT.out j h2).2 h1)
          clear hB hR hL hv hA
          generalize out[j] = t at *
          obtain ⟨t0, t1, t2, t3⟩ := t
          simp only at c0 c1 c2 c3 hp0 hp1 hk6 hnum hA1
          have Hrt := hid hrt
          clear hrt
          have dA : decide (t3 < A) = false := decide_eq_false (by omega)
          have dS : decide ((a0.size : Int) < t3) = false := decide_eq_false (by omega)
          rcases (show j + 1 = out.length ∨ j + 2 = out.length ∨ j + 2 < out.length from by omega) with hc | hc | hc
          · have h6 : t0 = 6 := hk6.2 hc
            have e6 : (t0 == 6) = true := beq_iff_eq.2 h6
            have eL : ((j : Int) == (out.length : Int) - 1) = true := beq_iff_eq.2 (by omega)
            have eM : ((j : Int) == (out.length : Int) - 2) = false := beq_eq_false_iff_ne.2 (by omega)
            have NX := hid (show ∀ h : j + 1 < out.length, t3 + 1 ≤ out[j + 1].pl from fun h => by omega)
            clear N1 N2 h6 hk6
            go_wp2_with fail
            refine (right_calls t0 t1 t2 t3 (by omega) (by omega) _ z S).mono ?_
            rintro e w2 ⟨rfl, b2⟩
            rw [Hrt.out]
            have d0 := cell_stays b2 hg c0
            have d3 := cell_stays b2 hg c3
            have B2 := hid (below_in B.out (Nat.le_refl _) b2)
            have R2 := hid (row_on R.out b2)
            clear b2 B S R c0 c1 c2 c3
            go_wp2
            go_roundw
            case rel => exact ⟨j + 1, t3 + 1, by omega, by go_num, by first | rfl | go_num, NX.out, R2.out, B2.out⟩
            case measure => simp [intOf]; omega
          · have h6 : t0 ≠ 6 := fun h => by have := hk6.1 h; omega
            have e6 : (t0 == 6) = false := beq_eq_false_iff_ne.2 h6
            have eL : ((j : Int) == (out.length : Int) - 1) = false := beq_eq_false_iff_ne.2 (by omega)
            have eM : ((j : Int) == (out.length : Int) - 2) = true := beq_iff_eq.2 (by omega)
            have NX := hid (show ∀ h : j + 1 < out.length, t3 ≤ out[j + 1].pl from fun h => N1.out hc h)
            clear N1 N2 h6 hk6
            go_wp2_with fail
            refine (right_calls t0 t1 t2 t3 (by omega) (by omega) _ z S).mono ?_
            rintro e w2 ⟨rfl, b2⟩
            rw [Hrt.out]
            have d0 := cell_stays b2 hg c0
            have d3 := cell_stays b2 hg c3
            have B2 := hid (below_in B.out (Nat.le_refl _) b2)
            have R2 := hid (row_on R.out b2)
            clear b2 B S R c0 c1 c2 c3
            go_wp2
            go_roundw
            case rel => exact ⟨j + 1, t3, by omega, by go_num, by first | rfl | go_num, NX.out, R2.out, B2.out⟩
            case measure => simp [intOf]; omega
          · have h6 : t0 ≠ 6 := fun h => by have := hk6.1 h; omega
            have e6 : (t0 == 6) = false := beq_eq_false_iff_ne.2 h6
            have eL : ((j : Int) == (out.length : Int) - 1) = false := beq_eq_false_iff_ne.2 (by omega)
            have eM : ((j : Int) == (out.length : Int) - 2) = false := beq_eq_false_iff_ne.2 (by omega)
            have NX := hid (show ∀ h : j + 1 < out.length, t3 + 1 ≤ out[j + 1].pl from fun h => N2.out (by omega) h)
            clear N1 N2 h6 hk6
            go_wp2_with fail
            refine (right_calls t0 t1 t2 t3 (by omega) (by omega) _ z S).mono ?_
            rintro e w2 ⟨rfl, b2⟩
            rw [Hrt.out]
            have d0 := cell_stays b2 hg c0
            have d3 := cell_stays b2 hg c3
            have B2 := hid (below_in B.out (Nat.le_refl _) b2)
            have R2 := hid (row_on R.out b2)
            clear b2 B S R c0 c1 c2 c3
            go_wp2
            go_roundw
            case rel => exact ⟨j + 1, t3 + 1, by omega, by go_num, by first | rfl | go_num, NX.out, R2.out, B2.out⟩
            case measure => simp [intOf]; omega
        · clear hB hR hA AT NXT
          have hsz : (a0 ++ noteB).size ≤ 1000000 := by rw [cat_size]; have : noteB.size = 6 := rfl; omega
          go_wp2_with fail
          refine (tokens_calls (a0 ++ noteB) hsz _ z S).mono ?_
          rintro e w2 ⟨v2, rfl, R2, b2⟩
          rw [Ho2.out] at R2 ⊢
          obtain ⟨ao2, cap2, rfl⟩ := row_shape R2
          rw [hl2]
          have B2 := hid (below_in B.out (Nat.le_refl _) b2)
          have S2 := hid (texts_on SG.out h0 B2.out)
          have z2 : 0 < w2.heap.size := Nat.lt_of_lt_of_le h0 B2.out.size
          clear b2 R2 B S R
          unfold tokEnding
          go_wp2_with fail
          refine (works_calls _ z2 S2).mono ?_
          rintro e w3 ⟨rfl, b3⟩
          go_wp2
          go_ret
          exact ⟨rfl, below_in B2.out (Nat.le_refl _) b3⟩
    · have hn := hid (out_none he)
      have en : ((tokOut a0).2.2 != 0) = true := by rw [bne_iff_ne]; exact he
      go_enter Tryd.func6, Tryd.ntmps6
      go_wp2_with fail
      refine (tokens_calls a0 (by omega) _ h0 SG).mono ?_
      rintro e w1 ⟨v, rfl, R1, b1⟩
      rw [hn.out] at R1
      obtain ⟨ao, cap, rfl⟩ := row_shape R1
      have S1 := hid (texts_on SG.out h0 b1)
      have z1 : 0 < w1.heap.size := Nat.lt_of_lt_of_le h0 b1.size
      have B1 := hid b1
      clear R1 b1
      unfold tokEnding
      go_wp2_with fail
      refine (works_calls _ z1 S1).mono ?_
      rintro e w2 ⟨rfl, b2⟩
      go_wp2
      go_ret
      exact ⟨rfl, below_on B1.out b2⟩
  · go_enter Tryd.func6, Tryd.ntmps6
    go_wp2_with fail
    refine (works_calls _ h0 SG).mono ?_
    rintro e w5 ⟨rfl, b5⟩
    go_wp2
    go_ret
    exact ⟨rfl, b5⟩

set_option maxRecDepth 100000 in
theorem lifted (os : Os) (started : os.Started) (H : Type) (enc : TypeId × Value → H) :
    ReturnsInHanded {} Tryd.checked os 6 .any (fun w args => (Rows.lexPlacesSpec.pre enc Tryd.prog Tryd.f6 [] false w args ∧ laidMetH Tryd.prog laidS w) ∧ sizedMet enc Tryd.prog Tryd.f6 (OpenSpec.ofChange Rows.lexPlacesSpec) false w args)
      (Rows.lexPlacesSpec.post enc Tryd.prog Tryd.f6 false true false false) := by
  refine returnsInHanded_of_change_and (C := Tryd.checked) (X := fun w _ => laidMetH Tryd.prog laidS w) (fun _ _ _ hh h => h.of_heap hh) own started (by kernel_rfl) Tryd.func6
    (ChangeSpec.witness_shaped (enc := enc) (C := Tryd.checked) (os := os) (X := fun w _ => laidMetH Tryd.prog laidS w) false (World.doorLaid Tryd.prog 14 os) #[.string ByteArray.empty] 8 rfl (World.shaped_of_RefB (by kernel_rfl) (by kernel_rfl)) (by kernel_rfl) (by kernel_rfl) (by kernel_rfl) (door_met os _)) ?_
  intro W base args ds gs before hval0 hW _ _ hL _
  obtain ⟨hz, hSG⟩ := of_laid hL
  have hval : ∀ (j : Nat) t v, Tryd.f6.params[j]? = some t → args[j]? = some v → Value.okWide Tryd.prog W .any base t v := hval0
  have hW' := hW
  obtain ⟨p, q, hA0, hV, rfl, hfz, hnd⟩ := hW
  have hA : DataW.TrodAll enc Tryd.prog W 0 (fun _ => true) true Tryd.f6.params.toList args.toList ds p := hA0
  rw [Tryd.params6] at hA hval
  obtain ⟨v0, vs0, d0, ds0, p0, q0, hargs, rfl, rfl, h0, r0⟩ := trodAll_cons hA
  obtain ⟨rfl, rfl, rfl⟩ := trodAll_nil r0
  obtain rfl : args = #[v0] := by cases args; simp_all
  obtain ⟨rfl, rfl⟩ := trodVars_none hV
  obtain ⟨a0, rfl, rfl, rfl, w0⟩ := open_string Tryd.underlying9 (hval 0 9 v0 rfl rfl) h0
  clear hA0 hval0
  refine (walk a0 W w0 hz hSG).mono fun e W' ⟨he, hg⟩ => ?_
  subst he
  exact ⟨_, rfl, _, _, _, [], _, [], hW', trodAll_mk1 (shut_bool Tryd.underlying4 _), (trodAll_cons_mk (shut_string Tryd.underlying9 w0) trodAll_mk0), rfl, hg.frame _, fun h => by cases h⟩

theorem over : Rows.lexPlacesRow.holds Tryd.pinned (OpenSpec.ofChange Rows.lexPlacesSpec) :=
  OpenClaim.holds_of_wide 6 Tryd.f6 rfl rfl rfl rfl rfl rfl rfl ⟨rfl, rfl, rfl, rfl, rfl⟩ rfl rfl rfl rfl rfl (by kernel_rfl) Tryd.func6 (by kernel_rfl)
    (of_decide_eq_true (by kernel_rfl)) (by unfold Func.isWrapper; first | (rw [if_pos (by decide +kernel)]; kernel_rfl) | (rw [if_neg (by decide +kernel)]; exact ⟨rfl, rfl⟩))
    (fun os started H enc _ => lifted os started H enc)

end Go.Proofs.YtffijiabaeipaaaDoor.lexPlaces
namespace Go.Proofs.YtffijiabaeipaaaDoor

/-- the statement, as it was given: the tied card -/
theorem lexPlaces_holds : Rows.LexPlacesCardSaid :=
  Claim7.holds_tied_plain_at .later [] [.data] true (true, "a1350a1e906da36a56b928120b43ce57e0ee5c1436d3adffaa5e6a7a1fe648e4") false
    lexPlaces.over (fun _ h => by cases h) (by kernel_rfl) (fun _ h => by cases h) lexPlaces_row_tie rfl ⟨rfl, rfl⟩ (by kernel_rfl) rfl
    (fun f fn hf hfn => by
      obtain rfl : f = 6 := Option.some.inj ((show Tryd.prog.funcNamed "proteus/proteuslaw05.LexPlaces" = some 6 by kernel_rfl).symm.trans hf) |>.symm
      obtain rfl : fn = Tryd.f6 := (Option.some.inj (Tryd.func6.symm.trans hfn)).symm
      exact ⟨by kernel_rfl, fun j t ht => by
        rw [Tryd.params6] at ht
        have hm : t ∈ [9] := by simpa using Array.mem_of_getElem? ht
        have hall : ([9].all fun u => !Tryd.prog.wantsStandIn u) = true := by kernel_rfl
        exact (show Tryd.prog.wantsStandIn t = false by simpa using List.all_eq_true.1 hall t hm)⟩)
    (by kernel_rfl)
#print axioms lexPlaces_holds
end Go.Proofs.YtffijiabaeipaaaDoor
