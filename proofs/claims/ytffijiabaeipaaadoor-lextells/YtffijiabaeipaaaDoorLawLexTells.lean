/- Of at most 611 tokens of at most 600 bytes each, and a text of at most 600 bytes, whether each token may be, whether the text is a key, and the tokens as text is as the document says (else the law asks its own test alone): LexTells is true for every input; the table of signs holds what the program's text lays (the card ties it); no other condition. -/
import Derived.Test.YtffijiabaeipaaaDoorLexLaid
import Derived.Test.YtffijiabaeipaaaDoorLexOpen
import Derived.Test.YtffijiabaeipaaaDoorLexTwo
import Derived.Test.YtffijiabaeipaaaDoorLexPrint
import Derived.Test.YtffijiabaeipaaaDoorRefPrint
import Derived.Test.YtffijiabaeipaaaDoorRows
import Derived.WalkKit
import Derived.ProofKit
import Derived.OpenShut
import Derived.ShutString
import Derived.ChangeOld
import Derived.Below
import Derived.Test.YtffijiabaeipaaaDoorTie
import Derived.Test.YtffijiabaeipaaaDoorCards
import Derived.SevenTiedAt
import Derived.Stop.Joined
import Derived.Carry
namespace Go.Proofs.YtffijiabaeipaaaDoor.lexTells
open Go.ChangeShapes Go.WideShapes Go.ChangeAt Go.RowKit
open Go.ChangeMaps (open_string shut_string)
set_option linter.unusedVariables false

theorem own : ownKnob Tryd.prog.godebug = none := by kernel_rfl



theorem walk (a0 : Value) (l0 : List Tok) (a1 : ByteArray) (w : World) (w0 : Hid (TokArg a0 l0 w)) (n0 : Hid (∀ t ∈ l0, -9223372036854775808 ≤ t.num ∧ t.num ≤ 9223372036854775807)) (w1 : a1.size ≤ maxLen) (h0 : 0 < w.heap.size) (SG : Hid (Texts 0 sgnL w)) :
    Calls Tryd.prog 4 #[a0, .string a1] w fun e w' => e = .returned (.bool true) ∧ Below w.heap.size w w' := by
  clear w1
  have hoth := others_small (l := l0)
  generalize ho : othersB l0 = o at *
  have Ho := hid ho
  clear ho
  cases o with
  | false =>
    go_enter Tryd.func4, Tryd.ntmps4
    go_wp2_with fail
    refine (others_calls w0.out).mono ?_
    rintro e w1 ⟨v, rfl, _, b1⟩
    rw [Ho.out]
    have S1 := hid (texts_on SG.out h0 b1)
    have z1 : 0 < w1.heap.size := Nat.lt_of_lt_of_le h0 b1.size
    go_wp2_with fail
    refine (works_calls _ z1 S1).mono ?_
    rintro e w2 ⟨rfl, b2⟩
    go_wp2
    go_ret
    exact ⟨rfl, below_on b1 b2⟩
  | true =>
    by_cases hs : a1.size ≤ 600
    · rcases tokArg_cases w0.out with ⟨ao, cap, rfl, rfl⟩ | ⟨b, off, cap, rfl, hb, hL, hne⟩
      · go_enter Tryd.func4, Tryd.ntmps4
        go_wp2_with fail
        refine (others_none ao cap _).mono ?_
        rintro e w1 ⟨rfl, rfl⟩
        go_wp2
        go_loop [7] (fun i => i = .int .i64 0) (fun _ => 0)
        case atStart => rfl
        case round =>
          obtain rfl := hrel
          go_wp2_with fail
          refine (print_none ao cap _).mono ?_
          rintro e w2 ⟨rfl, b3⟩
          have B2 := hid b3
          clear b3
          go_wp2_with fail
          refine (refprint_none none 0 _).mono ?_
          rintro e w3 ⟨rfl, b4⟩
          have B3 := hid (below_in B2.out (Nat.le_refl _) b4)
          clear b4 B2
          go_wp2_with fail
          refine (iskey_calls _ _).mono ?_
          rintro e w4 ⟨rfl, rfl⟩
          go_wp2_with fail
          refine (refiskey_calls _ _).mono ?_
          rintro e w5 ⟨rfl, b5⟩
          have B5 := hid (below_in B3.out (Nat.le_refl _) b5)
          have S5 := hid (texts_on SG.out h0 B5.out)
          have z5 : 0 < w5.heap.size := Nat.lt_of_lt_of_le h0 B5.out.size
          clear b5 B3
          generalize keyB a1.data.toList = kb at *
          go_wp2_with fail
          refine (works_calls _ z5 S5).mono ?_
          rintro e w6 ⟨rfl, b6⟩
          go_wp2
          go_ret
          exact ⟨rfl, below_in B5.out (Nat.le_refl _) b6⟩
      · have LL := hid hL
        clear hL
        go_enter Tryd.func4, Tryd.ntmps4
        go_wp2_with fail
        refine (others_calls w0.out).mono ?_
        rintro e w1 ⟨v, rfl, R, b1⟩
        rw [Ho.out]
        have R1 := R Ho.out
        rcases row_lies R1 with ⟨rfl, rfl⟩ | ⟨g, cap', rfl, hgw, hg, hL2⟩
        · exact absurd rfl hne
        have B1 := hid b1
        have M1 := hid hL2
        clear R R1 b1 hL2
        have hn := (others_small Ho.out).1
        go_wp2
        go_loopw [7] (fun i wr => ∃ j : Nat, j ≤ l0.length ∧ i = .int .i64 j ∧ g < wr.heap.size ∧ Lies g l0 wr ∧ Below w.heap.size w wr) (fun i _ => l0.length - (intOf i).toNat)
        case atStart => exact ⟨0, Nat.zero_le _, rfl, hg, M1.out, B1.out⟩
        case round =>
          clear M1 B1 hg
          obtain ⟨j, hj, rfl, hg, hM, hB⟩ := hrel
          have B := hid hB
          have M := hid hM
          by_cases hjl : j < l0.length
          · have q := n0.out _ (List.getElem_mem hjl)
            have T : Hid (Two b off g j l0 l0[j].kind l0[j].text l0[j].num l0[j].pl w wr) := by
              obtain ⟨c0, c1, c2, c3⟩ := liesAt_on LL.out hb hB j hjl
              obtain ⟨d0, d1, d2, d3⟩ := hM j hjl
              exact ⟨⟨hg, Nat.lt_of_lt_of_le hb hB.size, hB, hM⟩, c0, c1, c2, c3, d0, d1, d2, d3⟩
            generalize l0[j] = t at *
            obtain ⟨t0, t1, t2, t3⟩ := t
            simp only at q T
            obtain ⟨q1, q2⟩ := q
            clear hB hM B M
            have bn : (rightTok ⟨t0, t1, t2, t3⟩ != rightTok ⟨t0, t1, t2, t3⟩) = false := by rw [bne_eq_false_iff_eq]
            generalize hrt : rightTok ⟨t0, t1, t2, t3⟩ = rt at *
            have Hrt := hid hrt
            clear hrt
            go_wp2_with fail
            go_region_held3 (fun a => (g < a.heap.size ∧ b < a.heap.size ∧ Below w.heap.size w a ∧ Lies g l0 a) ∧ a.cell? ⟨b, off + j * 4, none⟩ = some (.int .i64 t0) ∧ a.cell? ⟨b, off + j * 4 + 1, none⟩ = some (.string t1) ∧ a.cell? ⟨b, off + j * 4 + 2, none⟩ = some (.int .i64 t2) ∧ a.cell? ⟨b, off + j * 4 + 3, none⟩ = some (.int .i64 t3) ∧ a.cell? ⟨g, j * 4, none⟩ = some (.int .i64 t0) ∧ a.cell? ⟨g, j * 4 + 1, none⟩ = some (.string t1) ∧ a.cell? ⟨g, j * 4 + 2, none⟩ = some (.int .i64 t2) ∧ a.cell? ⟨g, j * 4 + 3, none⟩ = some (.int .i64 t3))
              (first | exact two_on (by assumption) bb | exact two_on T.out (Below.refl _ _).drew | exact two_on (by assumption) (Below.refl _ _).drew)
              (first
                | (go_at_call 12; refine (right_calls t0 t1 t2 t3 q1 q2 _ (two_pos (by assumption)) (two_texts SG.out h0 (by assumption))).mono ?_; rintro e wx ⟨rfl, bb⟩)
                | (go_at_call 13; refine (refright_calls t0 t1 t2 t3 q1 q2 _).mono ?_; rintro e wx ⟨rfl, bb⟩))
            rename_i hx
            go_wp2
            go_roundw
            case rel => exact ⟨j + 1, by omega, by go_num, hx.1.1, hx.1.2.2.2, hx.1.2.2.1⟩
            case measure => simp [intOf]; omega
          · have L2 := hid (liesAt_on LL.out hb hB)
            have b2 : b < wr.heap.size := Nat.lt_of_lt_of_le hb hB.size
            have hsm := hid (others_small Ho.out).2
            clear hB hM LL
            go_wp2_with fail
            refine (print_cells b off cap l0 l0.length rfl hn hsm _ b2 L2).mono ?_
            rintro e w2 ⟨rfl, b3⟩
            have M2 := hid (lies_on M.out hg b3)
            have g2 : g < w2.heap.size := Nat.lt_of_lt_of_le hg b3.size
            have B2 := hid (below_in B.out (Nat.le_refl _) b3)
            clear b3 B M L2
            go_wp2_with fail
            refine (refprint_cells g cap' l0 l0.length rfl hn hsm _ g2 M2).mono ?_
            rintro e w3 ⟨rfl, b4⟩
            have B3 := hid (below_in B2.out (Nat.le_refl _) b4)
            clear b4 B2 M2
            generalize printL l0 = pr at *
            go_wp2_with fail
            refine (iskey_calls _ _).mono ?_
            rintro e w4 ⟨rfl, rfl⟩
            go_wp2_with fail
            refine (refiskey_calls _ _).mono ?_
            rintro e w5 ⟨rfl, b5⟩
            have B5 := hid (below_in B3.out (Nat.le_refl _) b5)
            have S5 := hid (texts_on SG.out h0 B5.out)
            have z5 : 0 < w5.heap.size := Nat.lt_of_lt_of_le h0 B5.out.size
            clear b5 B3
            generalize keyB a1.data.toList = kb at *
            go_wp2_with fail
            refine (works_calls _ z5 S5).mono ?_
            rintro e w6 ⟨rfl, b6⟩
            go_wp2
            go_ret
            exact ⟨rfl, below_in B5.out (Nat.le_refl _) b6⟩
    · go_enter Tryd.func4, Tryd.ntmps4
      go_wp2_with fail
      refine (others_calls w0.out).mono ?_
      rintro e w1 ⟨v, rfl, _, b1⟩
      rw [Ho.out]
      have S1 := hid (texts_on SG.out h0 b1)
      have z1 : 0 < w1.heap.size := Nat.lt_of_lt_of_le h0 b1.size
      go_wp2_with fail
      refine (works_calls _ z1 S1).mono ?_
      rintro e w2 ⟨rfl, b2⟩
      go_wp2
      go_ret
      exact ⟨rfl, below_on b1 b2⟩

set_option maxRecDepth 100000 in
theorem lifted (os : Os) (started : os.Started) (H : Type) (enc : TypeId × Value → H) :
    ReturnsInHanded {} Tryd.checked os 4 .any (fun w args => (Rows.lexTellsSpec.pre enc Tryd.prog Tryd.f4 [] false w args ∧ laidMetH Tryd.prog laidS w) ∧ sizedMet enc Tryd.prog Tryd.f4 (OpenSpec.ofChange Rows.lexTellsSpec) false w args)
      (Rows.lexTellsSpec.post enc Tryd.prog Tryd.f4 false true false false) := by
  refine returnsInHanded_of_change_and (C := Tryd.checked) (X := fun w _ => laidMetH Tryd.prog laidS w) (fun _ _ _ hh h => h.of_heap hh) own started (by kernel_rfl) Tryd.func4
    (ChangeSpec.witness_shaped (enc := enc) (C := Tryd.checked) (os := os) (X := fun w _ => laidMetH Tryd.prog laidS w) false (World.doorLaid Tryd.prog 14 os) #[.slice none 0 0, .string ByteArray.empty] 8 rfl (World.shaped_of_RefB (by kernel_rfl) (by kernel_rfl)) (by kernel_rfl) (by kernel_rfl) (by kernel_rfl) (door_met os _)) ?_
  intro W base args ds gs before hval0 hW _ _ hL _
  obtain ⟨hz, hSG⟩ := of_laid hL
  have hval : ∀ (j : Nat) t v, Tryd.f4.params[j]? = some t → args[j]? = some v → Value.okWide Tryd.prog W .any base t v := hval0
  have hW' := hW
  obtain ⟨p, q, hA0, hV, rfl, hfz, hnd⟩ := hW
  have hA : DataW.TrodAll enc Tryd.prog W 0 (fun _ => true) true Tryd.f4.params.toList args.toList ds p := hA0
  rw [Tryd.params4] at hA hval
  obtain ⟨v0, vs0, d0, ds0, p0, q0, hargs, rfl, rfl, h0, r0⟩ := trodAll_cons hA
  obtain ⟨v1, vs1, d1, ds1, p1, q1, rfl, rfl, rfl, h1, r1⟩ := trodAll_cons r0
  obtain ⟨rfl, rfl, rfl⟩ := trodAll_nil r1
  obtain rfl : args = #[v0, v1] := by cases args; simp_all
  obtain ⟨rfl, rfl⟩ := trodVars_none hV
  have hk0 := h0
  have hlt0 : ∀ x ∈ p0, x.block < W.heap.size := fun x hx => by simpa using hW'.lt x (by simp [hx])
  obtain ⟨l0, w0, n0⟩ := open_toks (hval 0 23 v0 rfl rfl) h0
  obtain ⟨a1, rfl, rfl, rfl, w1⟩ := open_string Tryd.underlying9 (hval 1 9 v1 rfl rfl) h1
  clear hA0 hval0
  refine (walk v0 l0 a1 W w0 n0 w1 hz hSG).mono fun e W' ⟨he, hg⟩ => ?_
  subst he
  exact ⟨_, rfl, _, _, _, [], _, [], hW', trodAll_mk1 (shut_bool Tryd.underlying4 _), (trodAll_cons_mk (Below.trod laidOutP (by kernel_rfl) (of_decide_eq_true (by kernel_rfl)) hk0 hg hlt0) (trodAll_cons_mk (shut_string Tryd.underlying9 w1) trodAll_mk0)), rfl, hg.frame _, fun h => by cases h⟩

theorem over : Rows.lexTellsRow.holds Tryd.pinned (OpenSpec.ofChange Rows.lexTellsSpec) :=
  OpenClaim.holds_of_wide 4 Tryd.f4 rfl rfl rfl rfl rfl rfl rfl ⟨rfl, rfl, rfl, rfl, rfl⟩ rfl rfl rfl rfl rfl (by kernel_rfl) Tryd.func4 (by kernel_rfl)
    (of_decide_eq_true (by kernel_rfl)) (by unfold Func.isWrapper; first | (rw [if_pos (by decide +kernel)]; kernel_rfl) | (rw [if_neg (by decide +kernel)]; exact ⟨rfl, rfl⟩))
    (fun os started H enc _ => lifted os started H enc)

end Go.Proofs.YtffijiabaeipaaaDoor.lexTells
namespace Go.Proofs.YtffijiabaeipaaaDoor

/-- the statement, as it was given: the tied card -/
theorem lexTells_holds : Rows.LexTellsCardSaid :=
  Claim7.holds_tied_plain_at .later [] [.data] true (true, "a1350a1e906da36a56b928120b43ce57e0ee5c1436d3adffaa5e6a7a1fe648e4") false
    lexTells.over (fun _ h => by cases h) (by kernel_rfl) (fun _ h => by cases h) lexTells_row_tie rfl ⟨rfl, rfl⟩ (by kernel_rfl) rfl
    (fun f fn hf hfn => by
      obtain rfl : f = 4 := Option.some.inj ((show Tryd.prog.funcNamed "proteus/proteuslaw05.LexTells" = some 4 by kernel_rfl).symm.trans hf) |>.symm
      obtain rfl : fn = Tryd.f4 := (Option.some.inj (Tryd.func4.symm.trans hfn)).symm
      exact ⟨by kernel_rfl, fun j t ht => by
        rw [Tryd.params4] at ht
        have hm : t ∈ [23, 9] := by simpa using Array.mem_of_getElem? ht
        have hall : ([23, 9].all fun u => !Tryd.prog.wantsStandIn u) = true := by kernel_rfl
        exact (show Tryd.prog.wantsStandIn t = false by simpa using List.all_eq_true.1 hall t hm)⟩)
    (by kernel_rfl)
#print axioms lexTells_holds
end Go.Proofs.YtffijiabaeipaaaDoor
