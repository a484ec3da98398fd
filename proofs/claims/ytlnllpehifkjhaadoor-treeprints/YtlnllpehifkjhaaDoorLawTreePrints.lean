/- Any tree of at most 300 nodes, at most 40 high, with texts of at most 600 bytes and at most 60 names of at most 100 bytes, has the text that the document says, or the error (else the law asks its own test alone): TreePrints is true for every input without a ring; the table of signs holds what the program's text lays (the card ties it); no other condition. -/
import Derived.Test.YtlnllpehifkjhaaDoorJoint4
import Derived.Test.YtlnllpehifkjhaaDoorJoint10
import Derived.Test.YtlnllpehifkjhaaDoorJoint11
import Derived.Test.YtlnllpehifkjhaaDoorRfAll
import Derived.Test.YtlnllpehifkjhaaDoorTreeLaw
import Derived.Test.YtlnllpehifkjhaaDoorRows
import Derived.WalkKit
import Derived.ProofKit
import Derived.OpenShut
import Derived.ShutString
import Derived.ChangeOld
import Derived.Below
import Derived.Test.YtlnllpehifkjhaaDoorTie
import Derived.Test.YtlnllpehifkjhaaDoorCards
import Derived.SevenTiedAt
import Derived.Stop.Joined
import Derived.Carry
namespace Go.Proofs.YtlnllpehifkjhaaDoor.treePrints
open Go.ChangeShapes Go.WideShapes Go.ChangeAt Go.RowKit
open Go.ChangeMaps (open_string shut_string)
set_option linter.unusedVariables false

theorem own : ownKnob Tryd.prog.godebug = none := by kernel_rfl



theorem walk (t0 : Nd) (nv0 kv0 : Value) (w : World) (w0 : Hid (NdIn w.heap.size w t0 nv0 kv0)) (h0 : 0 < w.heap.size) (SG : Hid (Texts 0 tsgnL w)) :
    Calls Tryd.prog 4 #[.agg #[.int .i64 t0.kind, .int .i64 t0.op, .int .i64 t0.num, .string t0.str, nv0, kv0, .int .i64 t0.pl]] w fun e w' => e = .returned (.bool true) ∧ Below w.heap.size w w' := by
  obtain ⟨k0, o0, n0, s0, ns0, ks0, p0⟩ := t0
  obtain ⟨a1, q1, a2, q2, rfl, rfl⟩ := ndIn_shape w0.out
  simp only [Nd.kind, Nd.op, Nd.num, Nd.str, Nd.pl, Nd.names, Nd.kids] at *
  have O0 := hid (show Ok w.heap.size w from ⟨Nat.le_refl _, h0, SG.out⟩)
  have hal := box1_below w (.cells #[.int .i64 k0, .int .i64 o0, .int .i64 n0, .string s0, .slice a1 ns0.length q1, .slice a2 ks0.length q2, .int .i64 p0] 25)
  have C0 := hid (law_1_1_mk hal (ok_on O0.out hal) (box_new w k0 o0 n0 s0 (.slice a1 ns0.length q1) (.slice a2 ks0.length q2) p0) (ndIn_on hal _ _ _ w0.out))
  clear hal w0 O0 SG
  have F0 := hid (fun h => few_count (t := Nd.mk k0 o0 n0 s0 ns0 ks0 p0) h)
  go_enter Tryd.func4, Tryd.ntmps4
  go_wp2_with fail
  refine (few_calls (Nd.mk k0 o0 n0 s0 ns0 ks0 p0) w.heap.size _ _ _ C0.out.1.2.1.1 (hid C0.out.1.2.2.2)).mono ?_
  rintro e w1 ⟨rfl, b1⟩
  have C1 := hid (law_1_1 C0.out b1)
  obtain ⟨x0, x1, x2, x3, x4, x5, x6⟩ := C1.out.2
  clear b1 C0
  generalize fewB (Nd.mk k0 o0 n0 s0 ns0 ks0 p0) = f0 at *
  cases f0
  · clear x0 x1 x2 x3 x4 x5 x6
    go_wp2_with fail
    refine (works_calls w.heap.size _ (hid C1.out.1.2.1)).mono ?_
    rintro e w2 ⟨rfl, b2⟩
    have B2 := hid (below_in C1.out.1.1 (Nat.le_refl _) b2)
    clear b2 C1
    go_wp2_with fail
    go_ret
    exact ⟨rfl, B2.out⟩
  obtain ⟨hc0, hh0, hs0⟩ := F0.out rfl
  have HS0 := hid hs0
  clear F0 hs0
  go_wp2_with fail
  refine (print_calls (Nd.mk k0 o0 n0 s0 ns0 ks0 p0) w.heap.size _ _ _ (hid C1.out.1.2.1) (hid C1.out.1.2.2.2) HS0.out (by omega)).mono ?_
  rintro e w3 ⟨rfl, b3⟩
  have C3 := hid (law_1_1 C1.out b3)
  clear b3 C1 x0 x1 x2 x3 x4 x5 x6
  obtain ⟨x0, x1, x2, x3, x4, x5, x6⟩ := C3.out.2
  obtain ⟨⟨pa, ea⟩, hpa⟩ : ∃ r, printN (Nd.mk k0 o0 n0 s0 ns0 ks0 p0) = r := ⟨_, rfl⟩
  have HPA := hid hpa
  rw [hpa]
  clear hpa
  go_wp2_with fail
  refine (refprint_calls (Nd.mk k0 o0 n0 s0 ns0 ks0 p0) w.heap.size _ _ _ C3.out.1.2.1.1 (hid C3.out.1.2.2.2) HS0.out (by omega)).mono ?_
  rintro e w4 ⟨he, b4⟩
  rw [HPA.out] at he
  subst he
  have C4 := hid (law_1_1 C3.out b4)
  clear b4 C3 x0 x1 x2 x3 x4 x5 x6 HPA
  simp only
  go_wp2_with fail
  refine (works_calls w.heap.size _ (hid C4.out.1.2.1)).mono ?_
  rintro e w5 ⟨rfl, b5⟩
  have B5 := hid (below_in C4.out.1.1 (Nat.le_refl _) b5)
  clear b5 C4
  go_wp2_with fail
  go_ret
  exact ⟨rfl, B5.out⟩

set_option maxRecDepth 100000 in
theorem lifted (os : Os) (started : os.Started) (H : Type) (enc : TypeId × Value → H) :
    ReturnsInHanded {} Tryd.checked os 4 .any (fun w args => (Rows.treePrintsSpec.pre enc Tryd.prog Tryd.f4 [] false w args ∧ laidMetH Tryd.prog laidS w) ∧ sizedMet enc Tryd.prog Tryd.f4 (OpenSpec.ofChange Rows.treePrintsSpec) false w args)
      (Rows.treePrintsSpec.post enc Tryd.prog Tryd.f4 false true false false) := by
  refine returnsInHanded_of_change_and (C := Tryd.checked) (X := fun w _ => laidMetH Tryd.prog laidS w) (fun _ _ _ hh h => h.of_heap hh) own started (by kernel_rfl) Tryd.func4
    (ChangeSpec.witness_shaped (enc := enc) (C := Tryd.checked) (os := os) (X := fun w _ => laidMetH Tryd.prog laidS w) false (World.doorLaid Tryd.prog 14 os) #[.agg #[.int .i64 0, .int .i64 0, .int .i64 0, .string ByteArray.empty, .slice none 0 0, .slice none 0 0, .int .i64 0]] 8 rfl (World.shaped_of_RefB (by kernel_rfl) (by kernel_rfl)) (by kernel_rfl) (by kernel_rfl) (by kernel_rfl) (door_met os _)) ?_
  intro W base args ds gs before hval0 hW _ _ hL _
  obtain ⟨hz, hSG⟩ := of_laid hL
  have hval : ∀ (j : Nat) t v, Tryd.f4.params[j]? = some t → args[j]? = some v → Value.okWide Tryd.prog W .any base t v := hval0
  have hW' := hW
  obtain ⟨p, q, hA0, hV, rfl, hfz, hnd⟩ := hW
  have hA : DataW.TrodAll enc Tryd.prog W 0 (fun _ => true) true Tryd.f4.params.toList args.toList ds p := hA0
  rw [Tryd.params4] at hA hval
  obtain ⟨v0, vs0, d0, ds0, p0, q0, hargs, rfl, rfl, h0, r0⟩ := trodAll_cons hA
  obtain ⟨rfl, rfl, rfl⟩ := trodAll_nil r0
  obtain rfl : args = #[v0] := by cases args; simp_all
  obtain ⟨rfl, rfl⟩ := trodVars_none hV
  have hk0 := h0
  have hlt0 : ∀ x ∈ p0, x.block < W.heap.size := fun x hx => by simpa using hW'.lt x (by simp [hx])
  obtain ⟨t0, nv0, kv0, rfl, w0⟩ := open_node (hval 0 25 v0 rfl rfl) h0
  clear hA0 hval0
  refine (walk t0 nv0 kv0 W w0 hz hSG).mono fun e W' ⟨he, hg⟩ => ?_
  subst he
  exact ⟨_, rfl, _, _, _, [], _, [], hW', trodAll_mk1 (shut_bool Tryd.underlying4 _), (trodAll_cons_mk (Below.trod laidOutP (by kernel_rfl) (of_decide_eq_true (by kernel_rfl)) hk0 hg hlt0) trodAll_mk0), rfl, hg.frame _, fun h => by cases h⟩

theorem over : Rows.treePrintsRow.holds Tryd.pinned (OpenSpec.ofChange Rows.treePrintsSpec) :=
  OpenClaim.holds_of_wide 4 Tryd.f4 rfl rfl rfl rfl rfl rfl rfl ⟨rfl, rfl, rfl, rfl, rfl⟩ rfl rfl rfl rfl rfl (by kernel_rfl) Tryd.func4 (by kernel_rfl)
    (of_decide_eq_true (by kernel_rfl)) (by unfold Func.isWrapper; first | (rw [if_pos (by decide +kernel)]; kernel_rfl) | (rw [if_neg (by decide +kernel)]; exact ⟨rfl, rfl⟩))
    (fun os started H enc _ => lifted os started H enc)

end Go.Proofs.YtlnllpehifkjhaaDoor.treePrints
namespace Go.Proofs.YtlnllpehifkjhaaDoor

/-- the statement, as it was given: the tied card -/
theorem treePrints_holds : Rows.TreePrintsCardSaid :=
  Claim7.holds_tied_plain_at .later [] [.data] true (true, "8828fc13dcd7952064f3c6ddc471c10ae8c43c9d2cd35dbb83b33fb8f9a1f30b") false
    treePrints.over (fun _ h => by cases h) (by kernel_rfl) (fun _ h => by cases h) treePrints_row_tie rfl ⟨rfl, rfl⟩ (by kernel_rfl) rfl
    (fun f fn hf hfn => by
      obtain rfl : f = 4 := Option.some.inj ((show Tryd.prog.funcNamed "proteus/proteuslaw06.TreePrints" = some 4 by kernel_rfl).symm.trans hf) |>.symm
      obtain rfl : fn = Tryd.f4 := (Option.some.inj (Tryd.func4.symm.trans hfn)).symm
      exact ⟨by kernel_rfl, fun j t ht => by
        rw [Tryd.params4] at ht
        have hm : t ∈ [25] := by simpa using Array.mem_of_getElem? ht
        have hall : ([25].all fun u => !Tryd.prog.wantsStandIn u) = true := by kernel_rfl
        exact (show Tryd.prog.wantsStandIn t = false by simpa using List.all_eq_true.1 hall t hm)⟩)
    (by kernel_rfl)
#print axioms treePrints_holds
end Go.Proofs.YtlnllpehifkjhaaDoor
