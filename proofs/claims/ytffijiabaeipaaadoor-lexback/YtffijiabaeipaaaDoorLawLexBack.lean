/- At most 611 tokens of at most 600 bytes each that may be, none an End, come back from their text, where that is not too long and they are not too many (else the error that the document says; for other tokens the law asks its own test alone): LexBack is true for every input; the table of signs holds what the program's text lays (the card ties it); no other condition. -/
import Derived.Test.YtffijiabaeipaaaDoorLexLaid
import Derived.Test.YtffijiabaeipaaaDoorLexOpen
import Derived.Test.YtffijiabaeipaaaDoorLexTwo
import Derived.Test.YtffijiabaeipaaaDoorLexPrint
import Derived.Test.YtffijiabaeipaaaDoorLexEnd
import Derived.Test.YtffijiabaeipaaaDoorRows
import Derived.WalkKit
import Derived.ProofKit
import Derived.OpenShut
import Derived.ShutString
import Derived.ChangeOld
import Derived.Below
import Derived.Test.YtffijiabaeipaaaDoorTie
import Derived.Test.YtffijiabaeipaaaDoorCards
import Derived.SevenTiedAt
import Derived.Stop.Joined
import Derived.Carry
namespace Go.Proofs.YtffijiabaeipaaaDoor.lexBack
open Go.ChangeShapes Go.WideShapes Go.ChangeAt Go.RowKit
open Go.ChangeMaps (open_string shut_string)
set_option linter.unusedVariables false

theorem own : ownKnob Tryd.prog.godebug = none := by kernel_rfl



theorem walk (a0 : Value) (l0 : List Tok) (w : World) (w0 : Hid (TokArg a0 l0 w)) (n0 : Hid (∀ t ∈ l0, -9223372036854775808 ≤ t.num ∧ t.num ≤ 9223372036854775807)) (h0 : 0 < w.heap.size) (SG : Hid (Texts 0 sgnL w)) :
    Calls Tryd.prog 5 #[a0] w fun e w' => e = .returned (.bool true) ∧ Below w.heap.size w w' := by
  generalize ho : othersB l0 = o at *
  have Ho := hid ho
  clear ho
  cases o with
  | false =>
    go_enter Tryd.func5, Tryd.ntmps5
    go_wp2_with fail
    refine (others_calls w0.out).mono ?_
    rintro e w1 ⟨v, rfl, _, b1⟩
    rw [Ho.out]
    have S1 := hid (texts_on SG.out h0 b1)
    have z1 : 0 < w1.heap.size := Nat.lt_of_lt_of_le h0 b1.size
    go_wp2_with fail
    refine (works_calls _ z1 S1).mono ?_
    rintro e w2 ⟨rfl, b2⟩
    go_wp2
    go_ret
    exact ⟨rfl, below_on b1 b2⟩
  | true =>
    rcases tokArg_cases w0.out with ⟨ao, cap, rfl, rfl⟩ | ⟨b, off, cap, rfl, hb, hL, hne⟩
    · have bo := back_out [] ⟨#[]⟩ rfl (fun t h => by cases h)
      obtain ⟨out, e1, e2⟩ := bo.2.2 (by decide) (by decide)
      have E1 := hid e1
      have AL := hid (alike_of (a := out) (b := [] ++ [⟨6, ⟨#[]⟩, 0, 0⟩]) (by rw [e2]; simp [bare]))
      clear bo e1 e2
      go_enter Tryd.func5, Tryd.ntmps5
      go_wp2_with fail
      refine (others_none ao cap _).mono ?_
      rintro e w1 ⟨rfl, rfl⟩
      go_wp2
      go_loop [5] (fun i => i = .int .i64 0) (fun _ => 0)
      case atStart => rfl
      case round =>
        obtain rfl := hrel
        go_wp2_with fail
        refine (print_none ao cap _).mono ?_
        rintro e w2 ⟨rfl, b2⟩
        have B2 := hid b2
        have R2 := hid (row_nil 38 w.heap.size w2)
        have S2 := hid (texts_on SG.out h0 B2.out)
        have z2 : 0 < w2.heap.size := Nat.lt_of_lt_of_le h0 B2.out.size
        clear b2
        have hs0 : (⟨#[]⟩ : ByteArray).size = 0 := rfl
        generalize hse : (⟨#[]⟩ : ByteArray) = s at *
        have Hse := hid hse
        clear hse
        go_wp2_with fail
        refine (tokens_calls s (by omega) _ z2 S2).mono ?_
        rintro e w3 ⟨v3, rfl, R3, b3⟩
        rw [E1.out] at R3 ⊢
        have RT := hid R3
        have B3 := hid (below_in B2.out (Nat.le_refl _) b3)
        have RM := hid (row_on R2.out b3)
        have low2 := hid (row_low R2.out)
        have low3 := hid (row_low RT.out)
        have hsz3 : w.heap.size ≤ w3.heap.size := B3.out.size
        clear R3 b3 B2 S2
        obtain ⟨ao3, cap3, rfl⟩ := row_shape RT.out
        unfold tokEnding
        go_wp2_with (at_builtin; refine wp_rapp_if (by first | rfl | simp [Region.wanted, yielded]) _ _ rfl w.heap.size [] ⟨6, s, 0, 0⟩ _ (by rw [← Hse.out]; rfl) _ (by rfl) RM.out _ (by rfl) (by simp) (by decide) hsz3 ?_)
        intro v4 w4 R4 b4 kp4
        have B4 := hid (B3.out.trans b4)
        have RT4 := hid (row_keep RT.out kp4 (fun g hg he => by have h1 := (low3.out g hg).1; have h2 := (low2.out g he.symm).2; omega))
        have R4' := hid R4
        clear B3 b4 R4 RT RM kp4 low2 low3
        go_wp2_with fail
        refine (same_rows (places := false) RT4.out R4'.out AL.out.1 (by have := AL.out.1; simp at this; omega) AL.out.2).mono ?_
        rintro e w5 ⟨rfl, b5⟩
        have B5 := hid (below_in B4.out (Nat.le_refl _) b5)
        have S5 := hid (texts_on SG.out h0 B5.out)
        have z5 : 0 < w5.heap.size := Nat.lt_of_lt_of_le h0 B5.out.size
        clear b5 B4 RT4 R4'
        go_wp2_with fail
        refine (works_calls _ z5 S5).mono ?_
        rintro e w6 ⟨rfl, b6⟩
        go_wp2
        go_ret
        exact ⟨rfl, below_in B5.out (Nat.le_refl _) b6⟩
    · have LL := hid hL
      clear hL
      have hn := (others_small Ho.out).1
      have hsm := hid (others_small Ho.out).2
      go_enter Tryd.func5, Tryd.ntmps5
      go_wp2_with fail
      refine (others_calls w0.out).mono ?_
      rintro e w1 ⟨v, rfl, R, b1⟩
      rw [Ho.out]
      have R1 := hid (R Ho.out)
      have B1 := hid b1
      clear R b1
      obtain ⟨ao2, cap2, rfl⟩ := row_shape R1.out
      go_wp2
      go_loopw [5] (fun i wr => ∃ j : Nat, j ≤ l0.length ∧ i = .int .i64 j ∧ (∀ (k : Nat) (h : k < l0.length), k < j → rightTok l0[k] = true ∧ l0[k].kind ≠ 6) ∧ Row 38 w.heap.size (.slice ao2 l0.length cap2) l0 wr ∧ Below w.heap.size w wr) (fun i _ => l0.length - (intOf i).toNat)
      case atStart => exact ⟨0, Nat.zero_le _, rfl, fun _ _ h => absurd h (Nat.not_lt_zero _), R1.out, B1.out⟩
      case round =>
        clear R1 B1
        obtain ⟨j, hj, rfl, hgood, hR, hB⟩ := hrel
        have B := hid hB
        have R := hid hR
        have G := hid hgood
        have S := hid (texts_on SG.out h0 hB)
        have z : 0 < wr.heap.size := Nat.lt_of_lt_of_le h0 hB.size
        have bz : b < wr.heap.size := Nat.lt_of_lt_of_le hb hB.size
        by_cases hjl : j < l0.length
        · obtain ⟨q1, q2⟩ := n0.out _ (List.getElem_mem hjl)
          obtain ⟨c0, c1, c2, c3⟩ := liesAt_on LL.out hb hB j hjl
          have NEXT := hid (show rightTok l0[j] = true → l0[j].kind ≠ 6 → ∀ (k : Nat) (h : k < l0.length), k < j + 1 → rightTok l0[k] = true ∧ l0[k].kind ≠ 6 from fun e1 e2 k h hk => by
            rcases Nat.lt_or_ge k j with h1 | h1
            · exact hgood k h h1
            · obtain rfl : k = j := by omega
              exact ⟨e1, e2⟩)
          clear hB hR hgood G
          generalize l0[j] = t at *
          obtain ⟨t0, t1, t2, t3⟩ := t
          simp only at q1 q2 c0 c1 c2 c3
          generalize hrt : rightTok ⟨t0, t1, t2, t3⟩ = rt at *
          have Hrt := hid hrt
          clear hrt
          cases rt with
          | false =>
            clear NEXT
            go_wp2_with fail
            refine (right_calls t0 t1 t2 t3 q1 q2 _ z S).mono ?_
            rintro e w2 ⟨rfl, b2⟩
            rw [Hrt.out]
            have B2 := hid (below_in B.out (Nat.le_refl _) b2)
            have S2 := hid (texts_on SG.out h0 B2.out)
            have z2 : 0 < w2.heap.size := Nat.lt_of_lt_of_le h0 B2.out.size
            clear b2 B S R
            go_wp2_with fail
            refine (works_calls _ z2 S2).mono ?_
            rintro e w3 ⟨rfl, b3⟩
            go_wp2
            go_ret
            exact ⟨rfl, below_in B2.out (Nat.le_refl _) b3⟩
          | true =>
            go_wp2_with fail
            refine (right_calls t0 t1 t2 t3 q1 q2 _ z S).mono ?_
            rintro e w2 ⟨rfl, b2⟩
            rw [Hrt.out]
            have c0' := cell_stays b2 bz c0
            have B2 := hid (below_in B.out (Nat.le_refl _) b2)
            have R2 := hid (row_on R.out b2)
            clear b2 B S R c0 c1 c2 c3
            by_cases h6 : t0 = 6
            · have e6 : (t0 == 6) = true := beq_iff_eq.2 h6
              have S2 := hid (texts_on SG.out h0 B2.out)
              have z2 : 0 < w2.heap.size := Nat.lt_of_lt_of_le h0 B2.out.size
              clear NEXT
              go_wp2_with fail
              refine (works_calls _ z2 S2).mono ?_
              rintro e w3 ⟨rfl, b3⟩
              go_wp2
              go_ret
              exact ⟨rfl, below_in B2.out (Nat.le_refl _) b3⟩
            · have e6 : (t0 == 6) = false := beq_eq_false_iff_ne.2 h6
              go_wp2
              go_roundw
              case rel => exact ⟨j + 1, by omega, by go_num, NEXT.out trivial h6, R2.out, B2.out⟩
              case measure => simp [intOf]; omega
        · have L2 := hid (liesAt_on LL.out hb hB)
          have ALL : Hid (∀ t ∈ l0, rightTok t = true ∧ t.kind ≠ 6) := hid fun t ht => by
            obtain ⟨k, hk, rfl⟩ := List.getElem_of_mem ht
            exact hgood k hk (by omega)
          clear hB hR hgood G LL
          go_wp2_with fail
          refine (print_cells b off cap l0 l0.length rfl hn hsm _ bz L2).mono ?_
          rintro e w2 ⟨rfl, b2⟩
          have B2 := hid (below_in B.out (Nat.le_refl _) b2)
          have R2 := hid (row_on R.out b2)
          have S2 := hid (texts_on SG.out h0 B2.out)
          have z2 : 0 < w2.heap.size := Nat.lt_of_lt_of_le h0 B2.out.size
          have hps : (printL l0).length ≤ 1468233 := by
            have h1 := printL_len l0 hsm.out
            have : l0.length * 2403 ≤ 611 * 2403 := Nat.mul_le_mul_right _ hn
            omega
          have bo := back_out l0 ⟨(printL l0).toArray⟩ rfl ALL.out
          generalize hs : (⟨(printL l0).toArray⟩ : ByteArray) = s at *
          have hss : s.size ≤ 1000000 ∨ 1000000 < s.size := by omega
          clear b2 B S R L2 ALL hss hs
          rcases Nat.lt_or_ge 2000 s.size with hlong | hshort
          · clear bo
            go_wp2_with fail
            refine (tokens_long s hlong _).mono ?_
            rintro e w3 ⟨rfl, rfl⟩
            go_wp2_with fail
            refine (works_calls _ z2 S2).mono ?_
            rintro e w4 ⟨rfl, b4⟩
            go_wp2
            go_ret
            exact ⟨rfl, below_in B2.out (Nat.le_refl _) b4⟩
          · rcases Nat.lt_or_ge 600 l0.length with hmany | hfew
            · obtain ⟨p, hp⟩ := bo.2.1 hshort hmany
              have HP := hid hp
              clear bo hp
              go_wp2_with fail
              refine (tokens_calls s (by omega) _ z2 S2).mono ?_
              rintro e w3 ⟨v3, rfl, R3, b3⟩
              rw [HP.out] at R3 ⊢
              have B3 := hid (below_in B2.out (Nat.le_refl _) b3)
              have S3 := hid (texts_on SG.out h0 B3.out)
              have z3 : 0 < w3.heap.size := Nat.lt_of_lt_of_le h0 B3.out.size
              obtain ⟨ao3, cap3, rfl⟩ := row_shape R3
              clear R3 b3 B2 S2
              unfold tokEnding
              go_wp2_with fail
              refine (works_calls _ z3 S3).mono ?_
              rintro e w4 ⟨rfl, b4⟩
              go_wp2
              go_ret
              exact ⟨rfl, below_in B3.out (Nat.le_refl _) b4⟩
            · obtain ⟨out, e1, e2⟩ := bo.2.2 hshort hfew
              have E1 := hid e1
              have AL := hid (alike_of (a := out) (b := l0 ++ [⟨6, ⟨#[]⟩, 0, 0⟩]) (by rw [e2]; simp [bare]))
              clear bo e1 e2
              go_wp2_with fail
              refine (tokens_calls s (by omega) _ z2 S2).mono ?_
              rintro e w3 ⟨v3, rfl, R3, b3⟩
              rw [E1.out] at R3 ⊢
              have RT := hid R3
              have B3 := hid (below_in B2.out (Nat.le_refl _) b3)
              have RM := hid (row_on R2.out b3)
              have low2 := hid (row_low R2.out)
              have low3 := hid (row_low RT.out)
              have hsz3 : w.heap.size ≤ w3.heap.size := B3.out.size
              clear R3 b3 B2 S2
              obtain ⟨ao3, cap3, rfl⟩ := row_shape RT.out
              unfold tokEnding
              go_wp2_with (at_builtin; refine wp_rapp_if (by first | rfl | simp [Region.wanted, yielded]) _ _ rfl w.heap.size l0 ⟨6, ⟨#[]⟩, 0, 0⟩ _ rfl _ (by rfl) RM.out _ (by rfl) (by simp) (by omega) hsz3 ?_)
              intro v4 w4 R4 b4 kp4
              have B4 := hid (B3.out.trans b4)
              have RT4 := hid (row_keep RT.out kp4 (fun g hg he => by have h1 := (low3.out g hg).1; have h2 := (low2.out g he.symm).2; omega))
              have R4' := hid R4
              clear B3 b4 R4 RT RM kp4 low2 low3
              go_wp2_with fail
              refine (same_rows (places := false) RT4.out R4'.out AL.out.1 (by have := AL.out.1; simp at this; omega) AL.out.2).mono ?_
              rintro e w5 ⟨rfl, b5⟩
              have B5 := hid (below_in B4.out (Nat.le_refl _) b5)
              have S5 := hid (texts_on SG.out h0 B5.out)
              have z5 : 0 < w5.heap.size := Nat.lt_of_lt_of_le h0 B5.out.size
              clear b5 B4 RT4 R4'
              go_wp2_with fail
              refine (works_calls _ z5 S5).mono ?_
              rintro e w6 ⟨rfl, b6⟩
              go_wp2
              go_ret
              exact ⟨rfl, below_in B5.out (Nat.le_refl _) b6⟩

set_option maxRecDepth 100000 in
theorem lifted (os : Os) (started : os.Started) (H : Type) (enc : TypeId × Value → H) :
    ReturnsInHanded {} Tryd.checked os 5 .any (fun w args => (Rows.lexBackSpec.pre enc Tryd.prog Tryd.f5 [] false w args ∧ laidMetH Tryd.prog laidS w) ∧ sizedMet enc Tryd.prog Tryd.f5 (OpenSpec.ofChange Rows.lexBackSpec) false w args)
      (Rows.lexBackSpec.post enc Tryd.prog Tryd.f5 false true false false) := by
  refine returnsInHanded_of_change_and (C := Tryd.checked) (X := fun w _ => laidMetH Tryd.prog laidS w) (fun _ _ _ hh h => h.of_heap hh) own started (by kernel_rfl) Tryd.func5
    (ChangeSpec.witness_shaped (enc := enc) (C := Tryd.checked) (os := os) (X := fun w _ => laidMetH Tryd.prog laidS w) false (World.doorLaid Tryd.prog 14 os) #[.slice none 0 0] 8 rfl (World.shaped_of_RefB (by kernel_rfl) (by kernel_rfl)) (by kernel_rfl) (by kernel_rfl) (by kernel_rfl) (door_met os _)) ?_
  intro W base args ds gs before hval0 hW _ _ hL _
  obtain ⟨hz, hSG⟩ := of_laid hL
  have hval : ∀ (j : Nat) t v, Tryd.f5.params[j]? = some t → args[j]? = some v → Value.okWide Tryd.prog W .any base t v := hval0
  have hW' := hW
  obtain ⟨p, q, hA0, hV, rfl, hfz, hnd⟩ := hW
  have hA : DataW.TrodAll enc Tryd.prog W 0 (fun _ => true) true Tryd.f5.params.toList args.toList ds p := hA0
  rw [Tryd.params5] at hA hval
  obtain ⟨v0, vs0, d0, ds0, p0, q0, hargs, rfl, rfl, h0, r0⟩ := trodAll_cons hA
  obtain ⟨rfl, rfl, rfl⟩ := trodAll_nil r0
  obtain rfl : args = #[v0] := by cases args; simp_all
  obtain ⟨rfl, rfl⟩ := trodVars_none hV
  have hk0 := h0
  have hlt0 : ∀ x ∈ p0, x.block < W.heap.size := fun x hx => by simpa using hW'.lt x (by simp [hx])
  obtain ⟨l0, w0, n0⟩ := open_toks (hval 0 23 v0 rfl rfl) h0
  clear hA0 hval0
  refine (walk v0 l0 W w0 n0 hz hSG).mono fun e W' ⟨he, hg⟩ => ?_
  subst he
  exact ⟨_, rfl, _, _, _, [], _, [], hW', trodAll_mk1 (shut_bool Tryd.underlying4 _), (trodAll_cons_mk (Below.trod laidOutP (by kernel_rfl) (of_decide_eq_true (by kernel_rfl)) hk0 hg hlt0) trodAll_mk0), rfl, hg.frame _, fun h => by cases h⟩

theorem over : Rows.lexBackRow.holds Tryd.pinned (OpenSpec.ofChange Rows.lexBackSpec) :=
  OpenClaim.holds_of_wide 5 Tryd.f5 rfl rfl rfl rfl rfl rfl rfl ⟨rfl, rfl, rfl, rfl, rfl⟩ rfl rfl rfl rfl rfl (by kernel_rfl) Tryd.func5 (by kernel_rfl)
    (of_decide_eq_true (by kernel_rfl)) (by unfold Func.isWrapper; first | (rw [if_pos (by decide +kernel)]; kernel_rfl) | (rw [if_neg (by decide +kernel)]; exact ⟨rfl, rfl⟩))
    (fun os started H enc _ => lifted os started H enc)

end Go.Proofs.YtffijiabaeipaaaDoor.lexBack
namespace Go.Proofs.YtffijiabaeipaaaDoor

/-- the statement, as it was given: the tied card -/
theorem lexBack_holds : Rows.LexBackCardSaid :=
  Claim7.holds_tied_plain_at .later [] [.data] true (true, "a1350a1e906da36a56b928120b43ce57e0ee5c1436d3adffaa5e6a7a1fe648e4") false
    lexBack.over (fun _ h => by cases h) (by kernel_rfl) (fun _ h => by cases h) lexBack_row_tie rfl ⟨rfl, rfl⟩ (by kernel_rfl) rfl
    (fun f fn hf hfn => by
      obtain rfl : f = 5 := Option.some.inj ((show Tryd.prog.funcNamed "proteus/proteuslaw05.LexBack" = some 5 by kernel_rfl).symm.trans hf) |>.symm
      obtain rfl : fn = Tryd.f5 := (Option.some.inj (Tryd.func5.symm.trans hfn)).symm
      exact ⟨by kernel_rfl, fun j t ht => by
        rw [Tryd.params5] at ht
        have hm : t ∈ [23] := by simpa using Array.mem_of_getElem? ht
        have hall : ([23].all fun u => !Tryd.prog.wantsStandIn u) = true := by kernel_rfl
        exact (show Tryd.prog.wantsStandIn t = false by simpa using List.all_eq_true.1 hall t hm)⟩)
    (by kernel_rfl)
#print axioms lexBack_holds
end Go.Proofs.YtffijiabaeipaaaDoor
