/- The place of a fault that Parse tells of any text of at most 2000 bytes is the first token that can't stand there: what is ahead of it, cut off there, is read up to its end (a longer text asks the law's own test alone): ParseFirst is true for every input; the two tables of signs hold what the program's text lays (the card ties them); no other condition. -/
import Derived.Test.YtijbiedblahmhaaDoorPsLaid
import Derived.Test.YtijbiedblahmhaaDoorPsWorks
import Derived.Test.YtijbiedblahmhaaDoorRows
import Derived.WalkKit
import Derived.ProofKit
import Derived.OpenShut
import Derived.ShutString
import Derived.ChangeOld
import Derived.Below
import Derived.Test.YtijbiedblahmhaaDoorTie
import Derived.Test.YtijbiedblahmhaaDoorCards
import Derived.SevenTiedAt
import Derived.Stop.Joined
import Derived.Carry
namespace Go.Proofs.YtijbiedblahmhaaDoor.parseFirst
open Go.ChangeShapes Go.WideShapes Go.ChangeAt Go.RowKit
open Go.ChangeMaps (open_string shut_string)
set_option linter.unusedVariables false

theorem own : ownKnob Tryd.prog.godebug = none := by kernel_rfl

theorem cut_is (s : ByteArray) (a : Nat) : s.extract 0 a = cutB s a := by
  have := cut_bytes s 0 a
  simpa [cutB] using this
set_option maxRecDepth 100000 in
set_option maxHeartbeats 3200000 in

theorem walk (a0 : ByteArray) (w : World) (w0 : a0.size ≤ maxLen) (h0 : 0 < w.heap.size) (h1 : 1 < w.heap.size) (SG : Hid (Texts 0 sgnL w)) (ST : Hid (Texts 1 tsgnL w)) :
    Calls Tryd.prog 3 #[.string a0] w fun e w' => e = .returned (.bool true) ∧ Below w.heap.size w w' := by
  by_cases hl : a0.size ≤ 2000
  · clear w0
    have hlen : (tokOut a0).1.length ≤ 601 := tokOut_len a0
    obtain ⟨⟨x, at_, er⟩, ho⟩ : ∃ o, parseO 20000 true a0 = o := ⟨_, rfl⟩
    have HC := hid (parse_calls 20000 a0 (by omega) (by omega) w h0 h1 SG ST)
    have HF := hid (fun h => first_parse (f := 20000) (s := a0) h)
    have HO := hid (fun h => parse_ok (f := 20000) (prog := true) (s := a0) h)
    rw [ho] at HC HF HO
    clear ho hlen
    have hlz : ¬ (2000 : Int) < (a0.size : Int) := by omega
    by_cases h12 : er = 12
    · obtain ⟨a, ha, hle, hcut⟩ := HF.out h12
      replace ha : at_ = (a : Int) := ha
      subst ha h12
      clear HF HO
      obtain ⟨⟨y, tp, er2⟩, ho2⟩ : ∃ o, parseO 20000 true (cutB a0 a) = o := ⟨_, rfl⟩
      rw [ho2] at hcut
      have hcut' : er2 = 0 ∨ er2 = 13 ∨ (er2 = 12 ∧ tp = (a : Int)) := hcut
      have HCUT := hid hcut'
      have HC2 := hid (fun (w' : World) (g0 : 0 < w'.heap.size) (g1 : 1 < w'.heap.size) (S1 : Hid (Texts 0 sgnL w')) (S2 : Hid (Texts 1 tsgnL w')) => parse_calls 20000 (cutB a0 a) (by have := cutB_size hle; omega) (by have := tokOut_len (cutB a0 a); omega) w' g0 g1 S1 S2)
      rw [ho2, ← cut_is] at HC2
      clear ho2 hcut hcut'
      have hle' : ¬ ((a0.size : Int) < (a : Int)) := by omega
      have hge' : ¬ ((a : Int) < 0) := by omega
      go_enter Tryd.func3, Tryd.ntmps3
      go_wp2_with fail
      refine HC.out.mono ?_
      rintro e w1 ⟨nv, kv, rfl, n1, b1⟩
      obtain ⟨a1, q1, a2, q2, rfl, rfl⟩ := ndR_shape n1
      have A1 := (Below.refl _ w1).alloc (Nat.le_refl _) (.cells #[.int .i64 x.kind, .int .i64 x.op, .int .i64 x.num, .string x.str, .slice a1 x.names.length q1, .slice a2 x.kids.length q2, .int .i64 x.pl] 26)
      have B1 := hid (below_on b1 A1)
      clear n1 b1 A1 HC
      unfold ndv
      simp only
      go_wp2_with fail
      refine (HC2.out _ (by have := B1.out.size; omega) (by have := B1.out.size; omega) (hid (texts_on SG.out h0 B1.out)) (hid (texts_on ST.out h1 B1.out))).mono ?_
      rintro e w2 ⟨nv2, kv2, rfl, n2, b2⟩
      obtain ⟨c1, d1, c2, d2, rfl, rfl⟩ := ndR_shape n2
      have A2 := (Below.refl _ w2).alloc (Nat.le_refl _) (.cells #[.int .i64 y.kind, .int .i64 y.op, .int .i64 y.num, .string y.str, .slice c1 y.names.length d1, .slice c2 y.kids.length d2, .int .i64 y.pl] 26)
      have B2 := hid (below_on (below_on B1.out b2) A2)
      clear n2 b2 A2 HC2 B1
      unfold ndv
      simp only
      rcases HCUT.out with h | h | ⟨h, h'⟩
      · subst h
        clear HCUT
        go_wp2_with fail
        refine (works7_calls _ (by have := B2.out.size; omega) (by have := B2.out.size; omega) (hid (texts_on SG.out h0 B2.out)) (hid (texts_on ST.out h1 B2.out))).mono ?_
        rintro e w9 ⟨rfl, b9⟩
        have B9 := hid (below_on B2.out b9)
        clear b9
        go_wp2_with fail
        go_ret
        exact ⟨rfl, B9.out⟩
      · subst h
        clear HCUT
        go_wp2_with fail
        refine (works7_calls _ (by have := B2.out.size; omega) (by have := B2.out.size; omega) (hid (texts_on SG.out h0 B2.out)) (hid (texts_on ST.out h1 B2.out))).mono ?_
        rintro e w9 ⟨rfl, b9⟩
        have B9 := hid (below_on B2.out b9)
        clear b9
        go_wp2_with fail
        go_ret
        exact ⟨rfl, B9.out⟩
      · subst h h'
        clear HCUT
        go_wp2_with fail
        refine (works7_calls _ (by have := B2.out.size; omega) (by have := B2.out.size; omega) (hid (texts_on SG.out h0 B2.out)) (hid (texts_on ST.out h1 B2.out))).mono ?_
        rintro e w9 ⟨rfl, b9⟩
        have B9 := hid (below_on B2.out b9)
        clear b9
        go_wp2_with fail
        go_ret
        exact ⟨rfl, B9.out⟩
    · clear HF
      by_cases her : er = 0
      · have ha : at_ = 0 := HO.out her
        subst ha her
        clear HO h12
        go_enter Tryd.func3, Tryd.ntmps3
        go_wp2_with fail
        refine HC.out.mono ?_
        rintro e w1 ⟨nv, kv, rfl, n1, b1⟩
        obtain ⟨a1, q1, a2, q2, rfl, rfl⟩ := ndR_shape n1
        have A1 := (Below.refl _ w1).alloc (Nat.le_refl _) (.cells #[.int .i64 x.kind, .int .i64 x.op, .int .i64 x.num, .string x.str, .slice a1 x.names.length q1, .slice a2 x.kids.length q2, .int .i64 x.pl] 26)
        have B1 := hid (below_on b1 A1)
        clear n1 b1 A1 HC
        unfold ndv
        simp only
        go_wp2_with fail
        refine (works7_calls _ (by have := B1.out.size; omega) (by have := B1.out.size; omega) (hid (texts_on SG.out h0 B1.out)) (hid (texts_on ST.out h1 B1.out))).mono ?_
        rintro e w9 ⟨rfl, b9⟩
        have B9 := hid (below_on B1.out b9)
        clear b9
        go_wp2_with fail
        go_ret
        exact ⟨rfl, B9.out⟩
      · clear HO
        have e1 : (er == 12) = false := by simpa using h12
        have e2 : (er == 0) = false := by simpa using her
        by_cases ha : at_ = 0
        · subst ha
          go_enter Tryd.func3, Tryd.ntmps3
          go_wp2_with fail
          refine HC.out.mono ?_
          rintro e w1 ⟨nv, kv, rfl, n1, b1⟩
          obtain ⟨a1, q1, a2, q2, rfl, rfl⟩ := ndR_shape n1
          have A1 := (Below.refl _ w1).alloc (Nat.le_refl _) (.cells #[.int .i64 x.kind, .int .i64 x.op, .int .i64 x.num, .string x.str, .slice a1 x.names.length q1, .slice a2 x.kids.length q2, .int .i64 x.pl] 26)
          have B1 := hid (below_on b1 A1)
          clear n1 b1 A1 HC
          unfold ndv
          simp only
          go_wp2_with fail
          refine (works7_calls _ (by have := B1.out.size; omega) (by have := B1.out.size; omega) (hid (texts_on SG.out h0 B1.out)) (hid (texts_on ST.out h1 B1.out))).mono ?_
          rintro e w9 ⟨rfl, b9⟩
          have B9 := hid (below_on B1.out b9)
          clear b9
          go_wp2_with fail
          go_ret
          exact ⟨rfl, B9.out⟩
        · have e3 : (at_ == 0) = false := by simpa using ha
          go_enter Tryd.func3, Tryd.ntmps3
          go_wp2_with fail
          refine HC.out.mono ?_
          rintro e w1 ⟨nv, kv, rfl, n1, b1⟩
          obtain ⟨a1, q1, a2, q2, rfl, rfl⟩ := ndR_shape n1
          have A1 := (Below.refl _ w1).alloc (Nat.le_refl _) (.cells #[.int .i64 x.kind, .int .i64 x.op, .int .i64 x.num, .string x.str, .slice a1 x.names.length q1, .slice a2 x.kids.length q2, .int .i64 x.pl] 26)
          have B1 := hid (below_on b1 A1)
          clear n1 b1 A1 HC
          unfold ndv
          simp only
          go_wp2_with fail
          refine (works7_calls _ (by have := B1.out.size; omega) (by have := B1.out.size; omega) (hid (texts_on SG.out h0 B1.out)) (hid (texts_on ST.out h1 B1.out))).mono ?_
          rintro e w9 ⟨rfl, b9⟩
          have B9 := hid (below_on B1.out b9)
          clear b9
          go_wp2_with fail
          go_ret
          exact ⟨rfl, B9.out⟩
  · have hlz : (2000 : Int) < (a0.size : Int) := by omega
    go_enter Tryd.func3, Tryd.ntmps3
    go_wp2_with fail
    refine (works7_calls _ h0 h1 SG ST).mono ?_
    rintro e w9 ⟨rfl, b9⟩
    have B9 := hid b9
    clear b9
    go_wp2_with fail
    go_ret
    exact ⟨rfl, B9.out⟩

set_option maxRecDepth 100000 in
theorem lifted (os : Os) (started : os.Started) (H : Type) (enc : TypeId × Value → H) :
    ReturnsInHanded {} Tryd.checked os 3 .any (fun w args => (Rows.parseFirstSpec.pre enc Tryd.prog Tryd.f3 [] false w args ∧ laidMetH Tryd.prog laidS w) ∧ sizedMet enc Tryd.prog Tryd.f3 (OpenSpec.ofChange Rows.parseFirstSpec) false w args)
      (Rows.parseFirstSpec.post enc Tryd.prog Tryd.f3 false true false false) := by
  refine returnsInHanded_of_change_and (C := Tryd.checked) (X := fun w _ => laidMetH Tryd.prog laidS w) (fun _ _ _ hh h => h.of_heap hh) own started (by kernel_rfl) Tryd.func3
    (ChangeSpec.witness_shaped (enc := enc) (C := Tryd.checked) (os := os) (X := fun w _ => laidMetH Tryd.prog laidS w) false (World.doorLaid Tryd.prog 14 os) #[.string ByteArray.empty] 8 rfl (World.shaped_of_RefB (by kernel_rfl) (by kernel_rfl)) (by kernel_rfl) (by kernel_rfl) (by kernel_rfl) (door_met os _)) ?_
  intro W base args ds gs before hval0 hW _ _ hL _
  obtain ⟨hz, hz1, hSG, hST⟩ := of_laid hL
  have hval : ∀ (j : Nat) t v, Tryd.f3.params[j]? = some t → args[j]? = some v → Value.okWide Tryd.prog W .any base t v := hval0
  have hW' := hW
  obtain ⟨p, q, hA0, hV, rfl, hfz, hnd⟩ := hW
  have hA : DataW.TrodAll enc Tryd.prog W 0 (fun _ => true) true Tryd.f3.params.toList args.toList ds p := hA0
  rw [Tryd.params3] at hA hval
  obtain ⟨v0, vs0, d0, ds0, p0, q0, hargs, rfl, rfl, h0, r0⟩ := trodAll_cons hA
  obtain ⟨rfl, rfl, rfl⟩ := trodAll_nil r0
  obtain rfl : args = #[v0] := by cases args; simp_all
  obtain ⟨rfl, rfl⟩ := trodVars_none hV
  obtain ⟨a0, rfl, rfl, rfl, w0⟩ := open_string Tryd.underlying9 (hval 0 9 v0 rfl rfl) h0
  clear hA0 hval0
  refine (walk a0 W w0 hz hz1 hSG hST).mono fun e W' ⟨he, hg⟩ => ?_
  subst he
  exact ⟨_, rfl, _, _, _, [], _, [], hW', trodAll_mk1 (shut_bool Tryd.underlying4 _), (trodAll_cons_mk (shut_string Tryd.underlying9 w0) trodAll_mk0), rfl, hg.frame _, fun h => by cases h⟩

theorem over : Rows.parseFirstRow.holds Tryd.pinned (OpenSpec.ofChange Rows.parseFirstSpec) :=
  OpenClaim.holds_of_wide 3 Tryd.f3 rfl rfl rfl rfl rfl rfl rfl ⟨rfl, rfl, rfl, rfl, rfl⟩ rfl rfl rfl rfl rfl (by kernel_rfl) Tryd.func3 (by kernel_rfl)
    (of_decide_eq_true (by kernel_rfl)) (by unfold Func.isWrapper; first | (rw [if_pos (by decide +kernel)]; kernel_rfl) | (rw [if_neg (by decide +kernel)]; exact ⟨rfl, rfl⟩))
    (fun os started H enc _ => lifted os started H enc)

end Go.Proofs.YtijbiedblahmhaaDoor.parseFirst
namespace Go.Proofs.YtijbiedblahmhaaDoor

/-- the statement, as it was given: the tied card -/
theorem parseFirst_holds : Rows.ParseFirstCardSaid :=
  Claim7.holds_tied_plain_at .later [] [.data, .data] true (true, "1061f16cb98f1490b0fe29f1e925a991c9a85e03eefd51ee3770f0b213e406ce") false
    parseFirst.over (fun _ h => by cases h) (by kernel_rfl) (fun _ h => by cases h) parseFirst_row_tie rfl ⟨rfl, rfl⟩ (by kernel_rfl) rfl
    (fun f fn hf hfn => by
      obtain rfl : f = 3 := Option.some.inj ((show Tryd.prog.funcNamed "proteus/proteuslaw07.ParseFirst" = some 3 by kernel_rfl).symm.trans hf) |>.symm
      obtain rfl : fn = Tryd.f3 := (Option.some.inj (Tryd.func3.symm.trans hfn)).symm
      exact ⟨by kernel_rfl, fun j t ht => by
        rw [Tryd.params3] at ht
        have hm : t ∈ [9] := by simpa using Array.mem_of_getElem? ht
        have hall : ([9].all fun u => !Tryd.prog.wantsStandIn u) = true := by kernel_rfl
        exact (show Tryd.prog.wantsStandIn t = false by simpa using List.all_eq_true.1 hall t hm)⟩)
    (by kernel_rfl)
#print axioms parseFirst_holds
end Go.Proofs.YtijbiedblahmhaaDoor
