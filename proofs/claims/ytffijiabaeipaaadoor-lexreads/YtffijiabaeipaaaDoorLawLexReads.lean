/- Any text of at most 2500 bytes has the tokens that the document says, or the error and its place (beyond that the law asks its own test alone): LexReads is true for every input; the table of signs holds what the program's text lays (the card ties it); no other condition. -/
import Derived.Test.YtffijiabaeipaaaDoorLexLaid
import Derived.Test.YtffijiabaeipaaaDoorRows
import Derived.WalkKit
import Derived.ProofKit
import Derived.OpenShut
import Derived.ShutString
import Derived.ChangeOld
import Derived.Below
import Derived.Test.YtffijiabaeipaaaDoorTie
import Derived.Test.YtffijiabaeipaaaDoorCards
import Derived.SevenTiedAt
import Derived.Stop.Joined
import Derived.Carry
namespace Go.Proofs.YtffijiabaeipaaaDoor.lexReads
open Go.ChangeShapes Go.WideShapes Go.ChangeAt Go.RowKit
open Go.ChangeMaps (open_string shut_string)
set_option linter.unusedVariables false

theorem own : ownKnob Tryd.prog.godebug = none := by kernel_rfl



theorem walk (a0 : ByteArray) (w : World) (w0 : a0.size ≤ maxLen) (h0 : 0 < w.heap.size) (SG : Hid (Texts 0 sgnL w)) :
    Calls Tryd.prog 3 #[.string a0] w fun e w' => e = .returned (.bool true) ∧ Below w.heap.size w w' := by
  by_cases hl : a0.size ≤ 2500
  · clear w0
    go_enter Tryd.func3, Tryd.ntmps3
    go_wp2_with fail
    refine (tokens_calls a0 (by omega) _ h0 SG).mono ?_
    rintro e w1 ⟨v, rfl, R1, b1⟩
    have B1 := hid b1
    have hlen := tokOut_len a0
    generalize ho : tokOut a0 = out at *
    have Ho := hid ho
    have R1 := hid R1
    clear ho b1
    obtain ⟨l, n, er⟩ := out
    unfold tokEnding
    go_wp2_with fail
    refine (reftokens_calls a0 (by omega) _).mono ?_
    rintro e w2 ⟨v2, rfl, R2, b2⟩
    rw [Ho.out] at R2 ⊢
    have R1' := row_on R1.out b2
    have B2 := hid (below_on B1.out b2)
    have R2' := hid R2
    have R3 := hid R1'
    clear R1 R1' R2 B1 b2
    have en : (n : Int) = (n : Int) := rfl
    unfold tokEnding
    go_wp2_with fail
    refine (same_rows (places := true) R3.out R2'.out rfl (by omega) (fun i h h' => ⟨rfl, rfl, rfl, fun _ => rfl⟩)).mono ?_
    rintro e w3 ⟨rfl, b3⟩
    have B3 := hid (below_on B2.out b3)
    have S3 := hid (texts_on SG.out h0 B3.out)
    have z3 : 0 < w3.heap.size := Nat.lt_of_lt_of_le h0 B3.out.size
    clear R3 R2' B2 b3 SG
    go_wp2_with fail
    refine (works_calls _ z3 S3).mono ?_
    rintro e w4 ⟨rfl, b4⟩
    go_wp2
    go_ret
    exact ⟨rfl, below_on B3.out b4⟩
  · go_enter Tryd.func3, Tryd.ntmps3
    go_wp2_with fail
    refine (works_calls _ h0 SG).mono ?_
    rintro e w5 ⟨rfl, b5⟩
    go_wp2
    go_ret
    exact ⟨rfl, b5⟩

set_option maxRecDepth 100000 in
theorem lifted (os : Os) (started : os.Started) (H : Type) (enc : TypeId × Value → H) :
    ReturnsInHanded {} Tryd.checked os 3 .any (fun w args => (Rows.lexReadsSpec.pre enc Tryd.prog Tryd.f3 [] false w args ∧ laidMetH Tryd.prog laidS w) ∧ sizedMet enc Tryd.prog Tryd.f3 (OpenSpec.ofChange Rows.lexReadsSpec) false w args)
      (Rows.lexReadsSpec.post enc Tryd.prog Tryd.f3 false true false false) := by
  refine returnsInHanded_of_change_and (C := Tryd.checked) (X := fun w _ => laidMetH Tryd.prog laidS w) (fun _ _ _ hh h => h.of_heap hh) own started (by kernel_rfl) Tryd.func3
    (ChangeSpec.witness_shaped (enc := enc) (C := Tryd.checked) (os := os) (X := fun w _ => laidMetH Tryd.prog laidS w) false (World.doorLaid Tryd.prog 14 os) #[.string ByteArray.empty] 8 rfl (World.shaped_of_RefB (by kernel_rfl) (by kernel_rfl)) (by kernel_rfl) (by kernel_rfl) (by kernel_rfl) (door_met os _)) ?_
  intro W base args ds gs before hval0 hW _ _ hL _
  obtain ⟨hz, hSG⟩ := of_laid hL
  have hval : ∀ (j : Nat) t v, Tryd.f3.params[j]? = some t → args[j]? = some v → Value.okWide Tryd.prog W .any base t v := hval0
  have hW' := hW
  obtain ⟨p, q, hA0, hV, rfl, hfz, hnd⟩ := hW
  have hA : DataW.TrodAll enc Tryd.prog W 0 (fun _ => true) true Tryd.f3.params.toList args.toList ds p := hA0
  rw [Tryd.params3] at hA hval
  obtain ⟨v0, vs0, d0, ds0, p0, q0, hargs, rfl, rfl, h0, r0⟩ := trodAll_cons hA
  obtain ⟨rfl, rfl, rfl⟩ := trodAll_nil r0
  obtain rfl : args = #[v0] := by cases args; simp_all
  obtain ⟨rfl, rfl⟩ := trodVars_none hV
  obtain ⟨a0, rfl, rfl, rfl, w0⟩ := open_string Tryd.underlying9 (hval 0 9 v0 rfl rfl) h0
  clear hA0 hval0
  refine (walk a0 W w0 hz hSG).mono fun e W' ⟨he, hg⟩ => ?_
  subst he
  exact ⟨_, rfl, _, _, _, [], _, [], hW', trodAll_mk1 (shut_bool Tryd.underlying4 _), (trodAll_cons_mk (shut_string Tryd.underlying9 w0) trodAll_mk0), rfl, hg.frame _, fun h => by cases h⟩

theorem over : Rows.lexReadsRow.holds Tryd.pinned (OpenSpec.ofChange Rows.lexReadsSpec) :=
  OpenClaim.holds_of_wide 3 Tryd.f3 rfl rfl rfl rfl rfl rfl rfl ⟨rfl, rfl, rfl, rfl, rfl⟩ rfl rfl rfl rfl rfl (by kernel_rfl) Tryd.func3 (by kernel_rfl)
    (of_decide_eq_true (by kernel_rfl)) (by unfold Func.isWrapper; first | (rw [if_pos (by decide +kernel)]; kernel_rfl) | (rw [if_neg (by decide +kernel)]; exact ⟨rfl, rfl⟩))
    (fun os started H enc _ => lifted os started H enc)

end Go.Proofs.YtffijiabaeipaaaDoor.lexReads
namespace Go.Proofs.YtffijiabaeipaaaDoor

/-- the statement, as it was given: the tied card -/
theorem lexReads_holds : Rows.LexReadsCardSaid :=
  Claim7.holds_tied_plain_at .later [] [.data] true (true, "a1350a1e906da36a56b928120b43ce57e0ee5c1436d3adffaa5e6a7a1fe648e4") false
    lexReads.over (fun _ h => by cases h) (by kernel_rfl) (fun _ h => by cases h) lexReads_row_tie rfl ⟨rfl, rfl⟩ (by kernel_rfl) rfl
    (fun f fn hf hfn => by
      obtain rfl : f = 3 := Option.some.inj ((show Tryd.prog.funcNamed "proteus/proteuslaw05.LexReads" = some 3 by kernel_rfl).symm.trans hf) |>.symm
      obtain rfl : fn = Tryd.f3 := (Option.some.inj (Tryd.func3.symm.trans hfn)).symm
      exact ⟨by kernel_rfl, fun j t ht => by
        rw [Tryd.params3] at ht
        have hm : t ∈ [9] := by simpa using Array.mem_of_getElem? ht
        have hall : ([9].all fun u => !Tryd.prog.wantsStandIn u) = true := by kernel_rfl
        exact (show Tryd.prog.wantsStandIn t = false by simpa using List.all_eq_true.1 hall t hm)⟩)
    (by kernel_rfl)
#print axioms lexReads_holds
end Go.Proofs.YtffijiabaeipaaaDoor
