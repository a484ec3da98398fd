/- Of any two trees of at most 300 nodes each, at most 40 high, with texts of at most 600 bytes and at most 60 names of at most 100 bytes, that both are printed without an error, the texts are one just if the trees are alike (else the law asks its own test alone): TreeApart is true for every input without a ring; the table of signs holds what the program's text lays (the card ties it); no other condition. -/
import Derived.Test.YtlnllpehifkjhaaDoorJoint2
import Derived.Test.YtlnllpehifkjhaaDoorNdOpen
import Derived.Test.YtlnllpehifkjhaaDoorTreeWorks
import Derived.Test.YtlnllpehifkjhaaDoorJoint3
import Derived.Test.YtlnllpehifkjhaaDoorJoint4
import Derived.Test.YtlnllpehifkjhaaDoorPsApart
import Derived.Test.YtlnllpehifkjhaaDoorTreeLaw
import Derived.Test.YtlnllpehifkjhaaDoorRows
import Derived.WalkKit
import Derived.ProofKit
import Derived.OpenShut
import Derived.ShutString
import Derived.ChangeOld
import Derived.Below
import Derived.Test.YtlnllpehifkjhaaDoorTie
import Derived.Test.YtlnllpehifkjhaaDoorCards
import Derived.SevenTiedAt
import Derived.Stop.Joined
import Derived.Carry
namespace Go.Proofs.YtlnllpehifkjhaaDoor.treeApart
open Go.ChangeShapes Go.WideShapes Go.ChangeAt Go.RowKit
open Go.ChangeMaps (open_string shut_string)
set_option linter.unusedVariables false

theorem own : ownKnob Tryd.prog.godebug = none := by kernel_rfl

theorem print_good {t : Nd} {l : List UInt8} (h : printN t = (l, 0)) : rightN t 3 = true ∧ l = printT t := by
  unfold printN at h
  split at h
  · rename_i h1; injection h with _ h2; exact absurd h2 h1
  · rename_i h1
    have h1' : checkN t = 0 := by omega
    refine ⟨?_, ?_⟩
    · unfold checkN at h1'
      split at h1'
      · cases h1'
      · split at h1'
        · assumption
        · cases h1'
    · split at h
      · injection h with _ h2; cases h2
      · injection h with h2 _; exact h2.symm
theorem print_apart {a b : Nd} (ha : (printN a).2 = 0) (hb : (printN b).2 = 0) : ((printN a).1 == (printN b).1) = sameN a b := by
  obtain ⟨r1, e1⟩ := print_good (t := a) (l := (printN a).1) (by rw [← ha])
  obtain ⟨r2, e2⟩ := print_good (t := b) (l := (printN b).1) (by rw [← hb])
  rw [e1, e2, Bool.eq_iff_iff, beq_iff_eq]
  exact apart_print r1 r2


theorem walk (t0 : Nd) (nv0 kv0 : Value) (t1 : Nd) (nv1 kv1 : Value) (w : World) (w0 : Hid (NdIn w.heap.size w t0 nv0 kv0)) (w1 : Hid (NdIn w.heap.size w t1 nv1 kv1)) (h0 : 0 < w.heap.size) (SG : Hid (Texts 0 tsgnL w)) :
    Calls Tryd.prog 6 #[.agg #[.int .i64 t0.kind, .int .i64 t0.op, .int .i64 t0.num, .string t0.str, nv0, kv0, .int .i64 t0.pl], .agg #[.int .i64 t1.kind, .int .i64 t1.op, .int .i64 t1.num, .string t1.str, nv1, kv1, .int .i64 t1.pl]] w fun e w' => e = .returned (.bool true) ∧ Below w.heap.size w w' := by
  obtain ⟨k0, o0, n0, s0, ns0, ks0, p0⟩ := t0
  obtain ⟨k1, o1, n1, s1, ns1, ks1, p1⟩ := t1
  obtain ⟨a1, q1, a2, q2, rfl, rfl⟩ := ndIn_shape w0.out
  obtain ⟨a3, q3, a4, q4, rfl, rfl⟩ := ndIn_shape w1.out
  simp only [Nd.kind, Nd.op, Nd.num, Nd.str, Nd.pl, Nd.names, Nd.kids] at *
  have O0 := hid (show Ok w.heap.size w from ⟨Nat.le_refl _, h0, SG.out⟩)
  have hal := box2_below w (.cells #[.int .i64 k0, .int .i64 o0, .int .i64 n0, .string s0, .slice a1 ns0.length q1, .slice a2 ks0.length q2, .int .i64 p0] 25) (.cells #[.int .i64 k1, .int .i64 o1, .int .i64 n1, .string s1, .slice a3 ns1.length q3, .slice a4 ks1.length q4, .int .i64 p1] 25)
  have hbx := boxes2 w k0 o0 n0 s0 (.slice a1 ns0.length q1) (.slice a2 ks0.length q2) p0 k1 o1 n1 s1 (.slice a3 ns1.length q3) (.slice a4 ks1.length q4) p1
  have C0 := hid (law_2_2_mk hal (ok_on O0.out hal) hbx.1 hbx.2 (ndIn_on hal _ _ _ w0.out) (ndIn_on hal _ _ _ w1.out))
  clear hal hbx w0 w1 O0 SG
  have F0 := hid (fun h => few_count (t := Nd.mk k0 o0 n0 s0 ns0 ks0 p0) h)
  have F1 := hid (fun h => few_count (t := Nd.mk k1 o1 n1 s1 ns1 ks1 p1) h)
  go_enter Tryd.func6, Tryd.ntmps6
  go_wp2_with fail
  refine (few_calls (Nd.mk k0 o0 n0 s0 ns0 ks0 p0) w.heap.size _ _ _ C0.out.1.2.1.1 (hid C0.out.1.2.2.2.2.1)).mono ?_
  rintro e w1 ⟨rfl, b1⟩
  have C1 := hid (law_2_2 C0.out b1)
  obtain ⟨x0, x1, x2, x3, x4, x5, x6, y0, y1, y2, y3, y4, y5, y6⟩ := C1.out.2
  clear b1 C0
  generalize fewB (Nd.mk k0 o0 n0 s0 ns0 ks0 p0) = f0 at *
  cases f0
  · clear x0 x1 x2 x3 x4 x5 x6 y0 y1 y2 y3 y4 y5 y6
    go_wp2_with fail
    refine (works_calls w.heap.size _ (hid C1.out.1.2.1)).mono ?_
    rintro e w2 ⟨rfl, b2⟩
    have B2 := hid (below_in C1.out.1.1 (Nat.le_refl _) b2)
    clear b2 C1
    go_wp2_with fail
    go_ret
    exact ⟨rfl, B2.out⟩
  obtain ⟨hc0, hh0, hs0⟩ := F0.out rfl
  have HS0 := hid hs0
  clear F0 hs0
  go_wp2_with fail
  refine (few_calls (Nd.mk k1 o1 n1 s1 ns1 ks1 p1) w.heap.size _ _ _ C1.out.1.2.1.1 (hid C1.out.1.2.2.2.2.2)).mono ?_
  rintro e w2 ⟨rfl, b2⟩
  have C2 := hid (law_2_2 C1.out b2)
  clear b2 C1 x0 x1 x2 x3 x4 x5 x6 y0 y1 y2 y3 y4 y5 y6
  generalize fewB (Nd.mk k1 o1 n1 s1 ns1 ks1 p1) = f1 at *
  cases f1
  · go_wp2_with fail
    refine (works_calls w.heap.size _ (hid C2.out.1.2.1)).mono ?_
    rintro e w3 ⟨rfl, b3⟩
    have B3 := hid (below_in C2.out.1.1 (Nat.le_refl _) b3)
    clear b3 C2
    go_wp2_with fail
    go_ret
    exact ⟨rfl, B3.out⟩
  obtain ⟨hc1, hh1, hs1⟩ := F1.out rfl
  have HS1 := hid hs1
  clear F1 hs1
  obtain ⟨x0, x1, x2, x3, x4, x5, x6, y0, y1, y2, y3, y4, y5, y6⟩ := C2.out.2
  have HAP := hid (fun h h' => print_apart (a := (Nd.mk k0 o0 n0 s0 ns0 ks0 p0)) (b := (Nd.mk k1 o1 n1 s1 ns1 ks1 p1)) h h')
  go_wp2_with fail
  refine (print_calls (Nd.mk k0 o0 n0 s0 ns0 ks0 p0) w.heap.size _ _ _ (hid C2.out.1.2.1) (hid C2.out.1.2.2.2.2.1) HS0.out (by omega)).mono ?_
  rintro e w3 ⟨rfl, b3⟩
  have C3 := hid (law_2_2 C2.out b3)
  clear b3 C2 x0 x1 x2 x3 x4 x5 x6 y0 y1 y2 y3 y4 y5 y6
  obtain ⟨x0, x1, x2, x3, x4, x5, x6, y0, y1, y2, y3, y4, y5, y6⟩ := C3.out.2
  obtain ⟨⟨pa, ea⟩, hpa⟩ : ∃ r, printN (Nd.mk k0 o0 n0 s0 ns0 ks0 p0) = r := ⟨_, rfl⟩
  rw [hpa] at HAP ⊢
  clear hpa
  go_wp2_with fail
  refine (print_calls (Nd.mk k1 o1 n1 s1 ns1 ks1 p1) w.heap.size _ _ _ (hid C3.out.1.2.1) (hid C3.out.1.2.2.2.2.2) HS1.out (by omega)).mono ?_
  rintro e w4 ⟨rfl, b4⟩
  have C4 := hid (law_2_2 C3.out b4)
  clear b4 C3 x0 x1 x2 x3 x4 x5 x6 y0 y1 y2 y3 y4 y5 y6
  obtain ⟨x0, x1, x2, x3, x4, x5, x6, y0, y1, y2, y3, y4, y5, y6⟩ := C4.out.2
  obtain ⟨⟨pb, eb⟩, hpb⟩ : ∃ r, printN (Nd.mk k1 o1 n1 s1 ns1 ks1 p1) = r := ⟨_, rfl⟩
  rw [hpb] at HAP ⊢
  clear hpb
  simp only at HAP ⊢
  by_cases hea : ea = 0
  case neg =>
    have e0 : (ea != 0) = true := by simpa using hea
    clear hea x0 x1 x2 x3 x4 x5 x6 y0 y1 y2 y3 y4 y5 y6
    go_wp2_with fail
    refine (works_calls w.heap.size _ (hid C4.out.1.2.1)).mono ?_
    rintro e w5 ⟨rfl, b5⟩
    have B5 := hid (below_in C4.out.1.1 (Nat.le_refl _) b5)
    clear b5 C4
    go_wp2_with fail
    go_ret
    exact ⟨rfl, B5.out⟩
  subst hea
  by_cases heb : eb = 0
  case neg =>
    have e0 : (eb != 0) = true := by simpa using heb
    clear heb x0 x1 x2 x3 x4 x5 x6 y0 y1 y2 y3 y4 y5 y6
    go_wp2_with fail
    refine (works_calls w.heap.size _ (hid C4.out.1.2.1)).mono ?_
    rintro e w5 ⟨rfl, b5⟩
    have B5 := hid (below_in C4.out.1.1 (Nat.le_refl _) b5)
    clear b5 C4
    go_wp2_with fail
    go_ret
    exact ⟨rfl, B5.out⟩
  subst heb
  have hap := HAP.out rfl rfl
  clear HAP
  have hcc : countN (Nd.mk k0 o0 n0 s0 ns0 ks0 p0) ≤ 1000000 := by omega
  generalize hsb : sameN (Nd.mk k0 o0 n0 s0 ns0 ks0 p0) (Nd.mk k1 o1 n1 s1 ns1 ks1 p1) = sb at hap
  have HSB := hid hsb
  clear hsb
  have hq : (pa == pb) = sb := by rw [hap]
  clear hap
  cases sb
  all_goals
    go_wp2_with fail
    refine (same_calls (Nd.mk k0 o0 n0 s0 ns0 ks0 p0) (Nd.mk k1 o1 n1 s1 ns1 ks1 p1) w.heap.size _ _ _ _ _ C4.out.1.2.1.1 (hid C4.out.1.2.2.2.2.1) (hid C4.out.1.2.2.2.2.2) HS0.out hcc).mono ?_
    rintro e w5 ⟨he, b5⟩
    rw [HSB.out] at he
    subst he
    have C5 := hid (law_2_2 C4.out b5)
    clear b5 C4 x0 x1 x2 x3 x4 x5 x6 y0 y1 y2 y3 y4 y5 y6
    go_wp2_with fail
    refine (works_calls w.heap.size _ (hid C5.out.1.2.1)).mono ?_
    rintro e w6 ⟨rfl, b6⟩
    have B6 := hid (below_in C5.out.1.1 (Nat.le_refl _) b6)
    clear b6 C5
    go_wp2_with fail
    go_ret
    exact ⟨rfl, B6.out⟩

set_option maxRecDepth 100000 in
theorem lifted (os : Os) (started : os.Started) (H : Type) (enc : TypeId × Value → H) :
    ReturnsInHanded {} Tryd.checked os 6 .any (fun w args => (Rows.treeApartSpec.pre enc Tryd.prog Tryd.f6 [] false w args ∧ laidMetH Tryd.prog laidS w) ∧ sizedMet enc Tryd.prog Tryd.f6 (OpenSpec.ofChange Rows.treeApartSpec) false w args)
      (Rows.treeApartSpec.post enc Tryd.prog Tryd.f6 false true false false) := by
  refine returnsInHanded_of_change_and (C := Tryd.checked) (X := fun w _ => laidMetH Tryd.prog laidS w) (fun _ _ _ hh h => h.of_heap hh) own started (by kernel_rfl) Tryd.func6
    (ChangeSpec.witness_shaped (enc := enc) (C := Tryd.checked) (os := os) (X := fun w _ => laidMetH Tryd.prog laidS w) false (World.doorLaid Tryd.prog 14 os) #[.agg #[.int .i64 0, .int .i64 0, .int .i64 0, .string ByteArray.empty, .slice none 0 0, .slice none 0 0, .int .i64 0], .agg #[.int .i64 0, .int .i64 0, .int .i64 0, .string ByteArray.empty, .slice none 0 0, .slice none 0 0, .int .i64 0]] 8 rfl (World.shaped_of_RefB (by kernel_rfl) (by kernel_rfl)) (by kernel_rfl) (by kernel_rfl) (by kernel_rfl) (door_met os _)) ?_
  intro W base args ds gs before hval0 hW _ _ hL _
  obtain ⟨hz, hSG⟩ := of_laid hL
  have hval : ∀ (j : Nat) t v, Tryd.f6.params[j]? = some t → args[j]? = some v → Value.okWide Tryd.prog W .any base t v := hval0
  have hW' := hW
  obtain ⟨p, q, hA0, hV, rfl, hfz, hnd⟩ := hW
  have hA : DataW.TrodAll enc Tryd.prog W 0 (fun _ => true) true Tryd.f6.params.toList args.toList ds p := hA0
  rw [Tryd.params6] at hA hval
  obtain ⟨v0, vs0, d0, ds0, p0, q0, hargs, rfl, rfl, h0, r0⟩ := trodAll_cons hA
  obtain ⟨v1, vs1, d1, ds1, p1, q1, rfl, rfl, rfl, h1, r1⟩ := trodAll_cons r0
  obtain ⟨rfl, rfl, rfl⟩ := trodAll_nil r1
  obtain rfl : args = #[v0, v1] := by cases args; simp_all
  obtain ⟨rfl, rfl⟩ := trodVars_none hV
  have hk0 := h0
  have hlt0 : ∀ x ∈ p0, x.block < W.heap.size := fun x hx => by simpa using hW'.lt x (by simp [hx])
  obtain ⟨t0, nv0, kv0, rfl, w0⟩ := open_node (hval 0 25 v0 rfl rfl) h0
  have hk1 := h1
  have hlt1 : ∀ x ∈ p1, x.block < W.heap.size := fun x hx => by simpa using hW'.lt x (by simp [hx])
  obtain ⟨t1, nv1, kv1, rfl, w1⟩ := open_node (hval 1 25 v1 rfl rfl) h1
  clear hA0 hval0
  refine (walk t0 nv0 kv0 t1 nv1 kv1 W w0 w1 hz hSG).mono fun e W' ⟨he, hg⟩ => ?_
  subst he
  exact ⟨_, rfl, _, _, _, [], _, [], hW', trodAll_mk1 (shut_bool Tryd.underlying4 _), (trodAll_cons_mk (Below.trod laidOutP (by kernel_rfl) (of_decide_eq_true (by kernel_rfl)) hk0 hg hlt0) (trodAll_cons_mk (Below.trod laidOutP (by kernel_rfl) (of_decide_eq_true (by kernel_rfl)) hk1 hg hlt1) trodAll_mk0)), rfl, hg.frame _, fun h => by cases h⟩

theorem over : Rows.treeApartRow.holds Tryd.pinned (OpenSpec.ofChange Rows.treeApartSpec) :=
  OpenClaim.holds_of_wide 6 Tryd.f6 rfl rfl rfl rfl rfl rfl rfl ⟨rfl, rfl, rfl, rfl, rfl⟩ rfl rfl rfl rfl rfl (by kernel_rfl) Tryd.func6 (by kernel_rfl)
    (of_decide_eq_true (by kernel_rfl)) (by unfold Func.isWrapper; first | (rw [if_pos (by decide +kernel)]; kernel_rfl) | (rw [if_neg (by decide +kernel)]; exact ⟨rfl, rfl⟩))
    (fun os started H enc _ => lifted os started H enc)

end Go.Proofs.YtlnllpehifkjhaaDoor.treeApart
namespace Go.Proofs.YtlnllpehifkjhaaDoor

/-- the statement, as it was given: the tied card -/
theorem treeApart_holds : Rows.TreeApartCardSaid :=
  Claim7.holds_tied_plain_at .later [] [.data] true (true, "8828fc13dcd7952064f3c6ddc471c10ae8c43c9d2cd35dbb83b33fb8f9a1f30b") false
    treeApart.over (fun _ h => by cases h) (by kernel_rfl) (fun _ h => by cases h) treeApart_row_tie rfl ⟨rfl, rfl⟩ (by kernel_rfl) rfl
    (fun f fn hf hfn => by
      obtain rfl : f = 6 := Option.some.inj ((show Tryd.prog.funcNamed "proteus/proteuslaw06.TreeApart" = some 6 by kernel_rfl).symm.trans hf) |>.symm
      obtain rfl : fn = Tryd.f6 := (Option.some.inj (Tryd.func6.symm.trans hfn)).symm
      exact ⟨by kernel_rfl, fun j t ht => by
        rw [Tryd.params6] at ht
        have hm : t ∈ [25, 25] := by simpa using Array.mem_of_getElem? ht
        have hall : ([25, 25].all fun u => !Tryd.prog.wantsStandIn u) = true := by kernel_rfl
        exact (show Tryd.prog.wantsStandIn t = false by simpa using List.all_eq_true.1 hall t hm)⟩)
    (by kernel_rfl)
#print axioms treeApart_holds
end Go.Proofs.YtlnllpehifkjhaaDoor
