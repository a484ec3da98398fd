/- Whatever is set, deleted and got, a dict tells, and has, in order, what the document says (of the first 100 acts; an act whose text has more than 300 bytes asks for the law's own test alone): DictPlays is true for every input; no condition. -/
import Derived.Test.YtphniknckmfilaaDcTwo
import Derived.Test.YtphniknckmfilaaRows
import Derived.WalkKit
import Derived.ProofKit
import Derived.OpenShut
import Derived.ShutString
import Derived.ChangeOld
import Derived.Below
namespace Go.Proofs.Ytphniknckmfilaa.dictPlays
open Go.ChangeShapes Go.WideShapes Go.ChangeAt Go.RowKit
open Go.ChangeMaps (open_string shut_string)
set_option linter.unusedVariables false

theorem own : ownKnob Try.prog.godebug = none := by kernel_rfl

set_option linter.unusedSimpArgs false
set_option maxHeartbeats 4000000 in
set_option maxRecDepth 100000 in
theorem walk_acts (ao : Option Addr) (cap : Nat) (acts : List Ac) (w : World) (HR : Hid (RowsArg 5 (.slice ao acts.length cap) (acts.map acC) w)) (HO : Hid (∀ a ∈ acts, AcOk a)) :
    Calls Try.prog 3 #[.slice ao acts.length cap] w fun e w' => e = .returned (.bool true) ∧ Below w.heap.size w w' := by
  go_enter Try.func3, Try.ntmps3
  go_wp2_with fail
  refine (new_calls _).mono ?_
  rintro e0 w0 ⟨d, rfl, h0, b0⟩
  have H0 := hid (own2_new h0 b0.size)
  have B0 := hid (b0.alloc b0.size (.cells #[.slice none 0 0, .slice none 0 0] 29))
  clear h0 b0
  go_wp2_with fail
  go_loopw [5] (fun k wr => ∃ (j : Nat) (l : List Ent), j ≤ acts.length ∧ j ≤ 100 ∧ k = .int .i64 j ∧ Hid (Own2 w.heap.size d w0.heap.size j l l wr) ∧ Hid (Below w.heap.size w wr)) (fun k _ => 100 - (intOf k).toNat)
  case atStart => exact ⟨0, [], by omega, by omega, rfl, H0, B0⟩
  case round =>
    obtain ⟨j, l, hj, hj8, rfl, hD, hB⟩ := hrel
    by_cases hjn : j < acts.length ∧ j < 100
    · obtain ⟨hjl, hj80⟩ := hjn
      obtain ⟨a, ha⟩ : ∃ a, acts[j]? = some a := ⟨acts[j], List.getElem?_eq_getElem hjl⟩
      have hok := HO.out a (List.mem_of_getElem? ha)
      obtain ⟨b, off, rfl, hb, hcs⟩ := acts_at HR.out ha
      have C := hid (show ActAt b (off + j * 5) a w from hcs)
      have HLg := hid (long_calls a hok.1 hok.2 wr)
      clear hcs
      obtain ⟨o, s, x⟩ := a
      obtain ⟨c0, c1, c2, c3, c4⟩ := act_on C.out hb hB.out
      simp only at c0 c1 c2 c3 c4
      cases hlg : longA (o, s, x) with
      | true =>
        rw [hlg] at HLg
        go_wp2_with fail
        refine HLg.out.mono ?_
        rintro e1 w1 ⟨rfl, b1⟩
        have B1 := hid (below_on hB.out b1)
        clear b1 HLg
        go_wp2_with fail
        refine (works_calls _).mono ?_
        rintro e2 w2 ⟨rfl, b2⟩
        have B2 := hid (below_on B1.out b2)
        clear b2 B1
        go_wp2_with fail
        go_ret
        exact ⟨rfl, B2.out⟩
      | false =>
        obtain ⟨hs, _⟩ := not_long hlg
        rw [hlg] at HLg
        go_wp2_with fail
        refine HLg.out.mono ?_
        rintro e1 w1 ⟨rfl, b1⟩
        have B1 := hid (below_on hB.out b1)
        have D1 := hid (hD.out.on b1)
        have hz1 := hid B1.out.size
        have hl1 := own2_len D1.out
        clear b1 HLg hD hB c0 c1 c2 c3 c4
        obtain ⟨c0, c1, c2, c3, c4⟩ := act_on C.out hb B1.out
        simp only at c0 c1 c2 c3 c4
        go_wp2_with fail
        refine (done0 _ D1.out hz1.out (by omega) (by omega) (o, s, x) hs).mono ?_
        rintro e2 w2 ⟨⟨q, rfl, hq⟩, d2, b2⟩
        have hqt := hq rfl
        subst hqt
        have D2 := hid d2
        have B2 := hid (B1.out.trans b2)
        clear d2 b2 hq D1 B1
        by_cases hm : (j : Int).tmod 5 = 0
        · go_wp2_with fail
          refine (like0 _ D2.out (by omega)).mono ?_
          rintro e3 w3 ⟨rfl, b3⟩
          have D3 := hid (D2.out.on b3)
          have B3 := hid (below_on B2.out b3)
          clear b3 D2 B2
          go_wp2_with fail
          exact ⟨⟨j + 1, _, by omega, by omega, by simp, D3, B3⟩, by simp [intOf]; omega⟩
        · go_wp2_with fail
          exact ⟨⟨j + 1, _, by omega, by omega, by simp, D2, B2⟩, by simp [intOf]; omega⟩
    · have HK := hid (like0 _ hD.out (by omega))
      rcases (show j = acts.length ∨ (j < acts.length ∧ j = 100) by omega) with rfl | ⟨hjl, rfl⟩
      all_goals
        clear hjn
        go_wp2_with fail
        refine HK.out.mono ?_
        rintro e3 w3 ⟨rfl, b3⟩
        have B3 := hid (below_on hB.out b3)
        clear b3 HK
        go_wp2_with fail
        refine (works_calls _).mono ?_
        rintro e6 w6 ⟨rfl, b6⟩
        have B6 := hid (below_on B3.out b6)
        clear b6 B3
        go_wp2_with fail
        go_ret
        exact ⟨rfl, B6.out⟩

theorem walk (a0 : Value) (l0 : List (List Value)) (w : World) (w0 : Hid (RowsArg 5 a0 l0 w)) (n0 : Hid (∀ r ∈ l0, r.length = 5 ∧ Fits [.i, .s, .i, .i, .s] r)) :
    Calls Try.prog 3 #[a0] w fun e w' => e = .returned (.bool true) ∧ Below w.heap.size w w' := by
  obtain ⟨acts, rfl, hok⟩ := acts_of n0.out
  obtain ⟨ao, cap, rfl⟩ := acts_shape w0.out
  exact walk_acts ao cap acts w w0 (hid hok)

set_option maxRecDepth 100000 in
theorem lifted (os : Os) (started : os.Started) (H : Type) (enc : TypeId × Value → H) :
    ReturnsInHanded {} Try.checked os 3 .any (Rows.dictPlaysSpec.pre6 enc Try.prog Try.f3 Rows.dictPlaysRow.domain false) (Rows.dictPlaysSpec.post enc Try.prog Try.f3 false true false false) := by
  refine returnsInHanded_of_change (C := Try.checked) own started (by kernel_rfl) Try.func3
    (ChangeSpec.witness6 (enc := enc) (C := Try.checked) false ⟨#[], #[.slice none 0 0], []⟩ 8 (by kernel_rfl) (by kernel_rfl) (by kernel_rfl) (by kernel_rfl)) ?_
  intro W base args ds gs before hval0 hW hcnd _
  have hval : ∀ (j : Nat) t v, Try.f3.params[j]? = some t → args[j]? = some v → Value.okWide Try.prog W .any base t v := hval0
  have hW' := hW
  obtain ⟨p, q, hA0, hV, rfl, hfz, hnd⟩ := hW
  have hA : DataW.TrodAll enc Try.prog W 0 (fun _ => true) true Try.f3.params.toList args.toList ds p := hA0
  rw [Try.params3] at hA hval
  obtain ⟨v0, vs0, d0, ds0, p0, q0, hargs, rfl, rfl, h0, r0⟩ := trodAll_cons hA
  obtain ⟨rfl, rfl, rfl⟩ := trodAll_nil r0
  obtain rfl : args = #[v0] := by cases args; simp_all
  obtain ⟨rfl, rfl⟩ := trodVars_none hV
  have hk0 := h0
  have hlt0 : ∀ x ∈ p0, x.block < W.heap.size := fun x hx => by simpa using hW'.lt x (by simp [hx])
  obtain ⟨l0, w0, n0⟩ := open_flats Try.underlying22 (show flat Try.prog 5 34 = some [.i, .s, .i, .i, .s] by kernel_rfl) (show Try.prog.cellsOf 34 = 5 by kernel_rfl) (by decide) (hval 0 22 v0 rfl rfl) h0
  clear hA0 hval0
  refine (walk v0 l0 W w0 n0).mono fun e W' ⟨he, hg⟩ => ?_
  subst he
  exact ⟨_, rfl, _, _, _, [], _, [], hW', trodAll_mk1 (shut_bool Try.underlying4 _), (trodAll_cons_mk (Below.trod laidOutP (by kernel_rfl) (of_decide_eq_true (by kernel_rfl)) hk0 hg hlt0) trodAll_mk0), rfl, hg.frame _, fun h => by cases h⟩

theorem over : Rows.dictPlaysRow.holds Try.pinned (OpenSpec.ofChange Rows.dictPlaysSpec) :=
  OpenClaim.holds_of_wide 3 Try.f3 rfl rfl rfl rfl rfl rfl rfl ⟨rfl, rfl, rfl, rfl, rfl⟩ rfl rfl rfl rfl rfl (by kernel_rfl) Try.func3 (by kernel_rfl)
    (of_decide_eq_true (by kernel_rfl)) (by unfold Func.isWrapper; first | (rw [if_pos (by decide +kernel)]; kernel_rfl) | (rw [if_neg (by decide +kernel)]; exact ⟨rfl, rfl⟩))
    (fun os started H enc _ => lifted os started H enc)

end Go.Proofs.Ytphniknckmfilaa.dictPlays
namespace Go.Proofs.Ytphniknckmfilaa

/-- the statement, as it was given -/
theorem dictPlays_holds : Rows.DictPlaysSaid :=
  dictPlays.over
#print axioms dictPlays_holds
end Go.Proofs.Ytphniknckmfilaa
