/- Resolve tells of every tree of at most 300 nodes what the document tells, the unit, or the place and the error (of any other tree the law asks its own test alone): ScopeResolves is true for every input; no condition. -/
import Derived.Test.YtenpldenhgpneaaDoorTreeLaid
import Derived.Test.YtenpldenhgpneaaDoorNdOpen
import Derived.Test.YtenpldenhgpneaaDoorRefFew
import Derived.Test.YtenpldenhgpneaaDoorScWorks
import Derived.Test.YtenpldenhgpneaaDoorScFine
import Derived.Test.YtenpldenhgpneaaDoorDqRes
import Derived.Test.YtenpldenhgpneaaDoorRows
import Derived.WalkKit
import Derived.ProofKit
import Derived.OpenShut
import Derived.ShutString
import Derived.ChangeOld
import Derived.Below
import Derived.Test.YtenpldenhgpneaaDoorTie
import Derived.Test.YtenpldenhgpneaaDoorCards
import Derived.SevenTiedAt
import Derived.Stop.Joined
import Derived.Carry
namespace Go.Proofs.YtenpldenhgpneaaDoor.scopeResolves
open Go.ChangeShapes Go.WideShapes Go.ChangeAt Go.RowKit
open Go.ChangeMaps (open_string shut_string)
set_option linter.unusedVariables false

theorem own : ownKnob Tryd.prog.godebug = none := by kernel_rfl

set_option linter.unusedSimpArgs false
/-- the tree that came lies in its box, the table lies there still -/
theorem box_read {B g : Nat} {t : Nd} {nv kv : Value} {w : World} (h : Blk g 25 #[.int .i64 t.kind, .int .i64 t.op, .int .i64 t.num, .string t.str, nv, kv, .int .i64 t.pl] w) :
    w.cell? ⟨g, 0, none⟩ = some (.int .i64 t.kind) ∧ w.cell? ⟨g, 1, none⟩ = some (.int .i64 t.op) ∧ w.cell? ⟨g, 2, none⟩ = some (.int .i64 t.num) ∧ w.cell? ⟨g, 3, none⟩ = some (.string t.str) ∧ w.cell? ⟨g, 4, none⟩ = some nv ∧ w.cell? ⟨g, 5, none⟩ = some kv ∧ w.cell? ⟨g, 6, none⟩ = some (.int .i64 t.pl) :=
  ⟨(blk_cell h 0).trans rfl, (blk_cell h 1).trans rfl, (blk_cell h 2).trans rfl, (blk_cell h 3).trans rfl, (blk_cell h 4).trans rfl, (blk_cell h 5).trans rfl, (blk_cell h 6).trans rfl⟩
theorem fnsIn_up {B C : Nat} {v : Value} {fs : List Fq} {w : World} (hB : B ≤ C) (h : FnsIn B w v fs) : FnsIn C w v fs := by
  rcases h with h | ⟨b, off, cap, h1, h2, h3, h4⟩
  · exact .inl h
  · refine .inr ⟨b, off, cap, h1, by omega, fun i f hi => ?_, h4⟩
    obtain ⟨kv, g1, g2, g3, g4⟩ := h3 i f hi
    exact ⟨kv, g1, g2, g3, kidsIn_up hB g4⟩
set_option maxHeartbeats 4000000 in
set_option maxRecDepth 100000 in
theorem walk_resolves (t : Nd) (a1 a2 : Option Addr) (q1 q2 : Nat) (w : World) (HN : Hid (NdIn w.heap.size w t (.slice a1 t.names.length q1) (.slice a2 t.kids.length q2))) (HO : Hid (Ok w.heap.size w)) :
    Calls Tryd.prog 3 #[.agg #[.int .i64 t.kind, .int .i64 t.op, .int .i64 t.num, .string t.str, .slice a1 t.names.length q1, .slice a2 t.kids.length q2, .int .i64 t.pl]] w fun e w' => e = .returned (.bool true) ∧ Below w.heap.size w w' := by
  have A0 := (Below.refl w.heap.size w).alloc (Nat.le_refl _) (.cells #[.int .i64 t.kind, .int .i64 t.op, .int .i64 t.num, .string t.str, .slice a1 t.names.length q1, .slice a2 t.kids.length q2, .int .i64 t.pl] 25)
  have x0 := blk_new w 25 #[.int .i64 t.kind, .int .i64 t.op, .int .i64 t.num, .string t.str, .slice a1 t.names.length q1, .slice a2 t.kids.length q2, .int .i64 t.pl]
  generalize hW0 : w.alloc (.cells #[.int .i64 t.kind, .int .i64 t.op, .int .i64 t.num, .string t.str, .slice a1 t.names.length q1, .slice a2 t.kids.length q2, .int .i64 t.pl] 25) = w0 at *
  have HF := hid (few_calls t w.heap.size w0 _ _ A0.size (hid (ndIn_on A0 _ _ _ HN.out)))
  have HA := hid A0
  have X0 := hid x0
  have hok : ∀ {c : World}, Below w.heap.size w c → Ok c.heap.size c := fun q => ok_up q.size (Nat.le_refl _) (ok_on HO.out q)
  have HOK := hid (fun c => @hok c)
  obtain ⟨c0, c1, c2, c3, c4, c5, c6⟩ := box_read (B := 0) x0
  clear A0 x0 hok
  go_enter Tryd.func3, Tryd.ntmps3
  go_wp2_with fail
  refine HF.out.mono ?_
  rintro e1 w1 ⟨rfl, b1⟩
  have B1 := hid (below_on HA.out b1)
  have X1 := hid (blk_on X0.out b1)
  clear b1 HF HA X0 c0 c1 c2 c3 c4 c5 c6 hW0
  cases hfew : fewB t with
  | false =>
    clear hfew
    go_wp2_with fail
    refine (works8_calls _ (HOK.out _ B1.out)).mono ?_
    rintro e9 w9 ⟨rfl, b9⟩
    have B9 := hid (below_on B1.out b9)
    clear b9
    go_wp2_with fail
    go_ret
    exact ⟨rfl, B9.out⟩
  | true =>
    obtain ⟨hcn, hhi, hsm⟩ := few_count hfew
    have hcn' : countN t ≤ 1000000 := by omega
    have HSM := hid hsm
    obtain ⟨c0, c1, c2, c3, c4, c5, c6⟩ := box_read (B := 0) X1.out
    have hl1 : w.heap.size < w1.heap.size := blk_lt X1.out
    clear hfew hhi hsm
    have R1 := hid (resolve_calls t w1.heap.size w1 _ _ (hid (HOK.out _ B1.out)) (hid (ndIn_up B1.out.size _ _ _ (ndIn_on B1.out _ _ _ HN.out))) HSM.out hcn')
    go_wp2_with fail
    refine R1.out.mono ?_
    rintro e6 w6 ⟨b6, h6⟩
    have B6 := hid (below_on B1.out b6)
    have X6 := hid (blk_on X1.out b6)
    have hz6 := b6.size
    clear X1 R1 c0 c1 c2 c3 c4 c5 c6
    cases hR : resolveP t with
    | bad p er =>
      rw [hR] at h6
      obtain rfl := h6
      have FF6 := hid (show FnsIn w6.heap.size w6 (.slice none 0 0) [] from .inl ⟨none, 0, rfl, rfl⟩)
      have HFU := hid (show FineU [] from ⟨Nat.zero_le _, fun f hf => by cases hf⟩)
      have A7 := (Below.refl w6.heap.size w6).alloc (Nat.le_refl _) (.cells #[.int .i64 0, .slice none 0 0] 30)
      have u7 := blk_new w6 30 #[.int .i64 0, .slice none 0 0]
      have X7 := hid (blk_on X6.out A7)
      have B7 := hid (below_on B6.out A7)
      have FF7 := hid (fnsIn_on FF6.out A7)
      obtain ⟨d0, d1, d2, d3, d4, d5, d6⟩ := box_read (B := 0) X7.out
      have U7 := hid u7
      have hl7 : w6.heap.size < (w6.alloc (.cells #[.int .i64 0, .slice none 0 0] 30)).heap.size := blk_lt u7
      have R2 := hid (dresolve_calls t (w6.alloc (.cells #[.int .i64 0, .slice none 0 0] 30)) _ _ (hid (ndIn_up B7.out.size _ _ _ (ndIn_on B7.out _ _ _ HN.out))) HSM.out hcn')
      rw [hR] at R2
      clear A7 u7 b6 X6
      clear hR
      go_wp2_with fail
      refine R2.out.mono ?_
      rintro e8 w8 ⟨b8, h8⟩
      obtain rfl := h8
      have FI8 : FnsIn w8.heap.size w8 (.slice none 0 0) [] := .inl ⟨none, 0, rfl, rfl⟩
      have A8 := (Below.refl w8.heap.size w8).alloc (Nat.le_refl _) (.cells #[.int .i64 0, .slice none 0 0] 30)
      have u8 := blk_new w8 30 #[.int .i64 0, .slice none 0 0]
      have B8 := hid (below_on (below_on B7.out b8) A8)
      have v8 := blk_on (blk_on U7.out b8) A8
      have hz8 := b8.size
      have hl8 : w8.heap.size < (w8.alloc (.cells #[.int .i64 0, .slice none 0 0] 30)).heap.size := blk_lt u8
      have SM := hid (usame_calls 0 0 (.slice none 0 0) (.slice none 0 0) [] [] w8.heap.size (w8.alloc (.cells #[.int .i64 0, .slice none 0 0] 30)) (by omega) (hid (fnsIn_up (by omega) (fnsIn_on (fnsIn_on FF7.out (b8.mono (by omega))) (A8.mono (by omega))))) (hid (fnsIn_on FI8 A8)) HFU)
      rw [sameU_refl] at SM
      have s0 : (w8.alloc (.cells #[.int .i64 0, .slice none 0 0] 30)).cell? ⟨w6.heap.size, 0, none⟩ = some (.int .i64 0) := by rw [blk_cell v8]; rfl
      have s1 : (w8.alloc (.cells #[.int .i64 0, .slice none 0 0] 30)).cell? ⟨w6.heap.size, 1, none⟩ = some (.slice none 0 0) := by rw [blk_cell v8]; rfl
      have s2 : (w8.alloc (.cells #[.int .i64 0, .slice none 0 0] 30)).cell? ⟨w8.heap.size, 0, none⟩ = some (.int .i64 0) := by rw [blk_cell u8]; rfl
      have s3 : (w8.alloc (.cells #[.int .i64 0, .slice none 0 0] 30)).cell? ⟨w8.heap.size, 1, none⟩ = some (.slice none 0 0) := by rw [blk_cell u8]; rfl
      clear A8 u8 v8 b8 FI8
      go_wp2_with fail
      refine SM.out.mono ?_
      rintro e10 w10 ⟨rfl, b10⟩
      have B10 := hid (below_on B8.out b10)
      clear b10
      go_wp2_with fail
      refine (works8_calls _ (HOK.out _ B10.out)).mono ?_
      rintro e9 w9 ⟨rfl, b9⟩
      have B9 := hid (below_on B10.out b9)
      clear b9
      go_wp2_with fail
      go_ret
      exact ⟨rfl, B9.out⟩
    | ok u =>
      obtain ⟨G, fs⟩ := u
      rw [hR] at h6
      obtain ⟨fv, rfl, hU⟩ := h6
      have FI6 := unS_in hU
      obtain ⟨fa, fc, e6⟩ := fnsIn_shape FI6
      rw [fqs_len] at e6
      subst e6
      have hfu := fineU_of (resolve_fine hR HSM.out hcn') (resolve_len hR)
      have HFU := hid hfu
      have FF6 := hid FI6
      clear hfu FI6 hU
      have A7 := (Below.refl w6.heap.size w6).alloc (Nat.le_refl _) (.cells #[.int .i64 (G : Int), .slice fa fs.length fc] 30)
      have u7 := blk_new w6 30 #[.int .i64 (G : Int), .slice fa fs.length fc]
      have X7 := hid (blk_on X6.out A7)
      have B7 := hid (below_on B6.out A7)
      have FF7 := hid (fnsIn_on FF6.out A7)
      obtain ⟨d0, d1, d2, d3, d4, d5, d6⟩ := box_read (B := 0) X7.out
      have U7 := hid u7
      have hl7 : w6.heap.size < (w6.alloc (.cells #[.int .i64 (G : Int), .slice fa fs.length fc] 30)).heap.size := blk_lt u7
      generalize hW7 : w6.alloc (.cells #[.int .i64 (G : Int), .slice fa fs.length fc] 30) = w7 at *
      have R2 := hid (dresolve_calls t w7 _ _ (hid (ndIn_up B7.out.size _ _ _ (ndIn_on B7.out _ _ _ HN.out))) HSM.out hcn')
      rw [hR] at R2
      clear A7 u7 b6 X6
      clear hR
      go_wp2_with fail
      refine R2.out.mono ?_
      rintro e8 w8 ⟨b8, h8⟩
      obtain ⟨fv2, rfl, FI8⟩ := h8
      obtain ⟨fa2, fc2, e8⟩ := fnsIn_shape FI8
      rw [fqs_len] at e8
      subst e8
      have A8 := (Below.refl w8.heap.size w8).alloc (Nat.le_refl _) (.cells #[.int .i64 (G : Int), .slice fa2 fs.length fc2] 30)
      have u8 := blk_new w8 30 #[.int .i64 (G : Int), .slice fa2 fs.length fc2]
      have B8 := hid (below_on (below_on B7.out b8) A8)
      have v8 := blk_on (blk_on U7.out b8) A8
      have hz8 := b8.size
      have hl8 : w8.heap.size < (w8.alloc (.cells #[.int .i64 (G : Int), .slice fa2 fs.length fc2] 30)).heap.size := blk_lt u8
      have SM := hid (usame_calls (G : Int) (G : Int) (.slice fa fs.length fc) (.slice fa2 fs.length fc2) (fqs fs) (fqs fs) w8.heap.size (w8.alloc (.cells #[.int .i64 (G : Int), .slice fa2 fs.length fc2] 30)) (by omega) (hid (fnsIn_up (by omega) (fnsIn_on (fnsIn_on FF7.out (b8.mono (by omega))) (A8.mono (by omega))))) (hid (fnsIn_on FI8 A8)) HFU)
      rw [sameU_refl] at SM
      have s0 : (w8.alloc (.cells #[.int .i64 (G : Int), .slice fa2 fs.length fc2] 30)).cell? ⟨w6.heap.size, 0, none⟩ = some (.int .i64 (G : Int)) := by rw [blk_cell v8]; rfl
      have s1 : (w8.alloc (.cells #[.int .i64 (G : Int), .slice fa2 fs.length fc2] 30)).cell? ⟨w6.heap.size, 1, none⟩ = some (.slice fa fs.length fc) := by rw [blk_cell v8]; rfl
      have s2 : (w8.alloc (.cells #[.int .i64 (G : Int), .slice fa2 fs.length fc2] 30)).cell? ⟨w8.heap.size, 0, none⟩ = some (.int .i64 (G : Int)) := by rw [blk_cell u8]; rfl
      have s3 : (w8.alloc (.cells #[.int .i64 (G : Int), .slice fa2 fs.length fc2] 30)).cell? ⟨w8.heap.size, 1, none⟩ = some (.slice fa2 fs.length fc2) := by rw [blk_cell u8]; rfl
      generalize hW9 : w8.alloc (.cells #[.int .i64 (G : Int), .slice fa2 fs.length fc2] 30) = w9 at *
      clear A8 u8 v8 b8 FI8 hW7
      go_wp2_with fail
      refine SM.out.mono ?_
      rintro e10 w10 ⟨rfl, b10⟩
      have B10 := hid (below_on B8.out b10)
      clear b10 hW9
      go_wp2_with fail
      refine (works8_calls _ (HOK.out _ B10.out)).mono ?_
      rintro e9 w9 ⟨rfl, b9⟩
      have B9 := hid (below_on B10.out b9)
      clear b9
      go_wp2_with fail
      go_ret
      exact ⟨rfl, B9.out⟩

theorem walk (t0 : Nd) (nv0 kv0 : Value) (w : World) (w0 : Hid (NdIn w.heap.size w t0 nv0 kv0)) (h0 : 0 < w.heap.size) (SG : Hid (Texts 0 tsgnL w)) :
    Calls Tryd.prog 3 #[.agg #[.int .i64 t0.kind, .int .i64 t0.op, .int .i64 t0.num, .string t0.str, nv0, kv0, .int .i64 t0.pl]] w fun e w' => e = .returned (.bool true) ∧ Below w.heap.size w w' := by
  obtain ⟨a1, q1, a2, q2, rfl, rfl⟩ := ndIn_shape w0.out
  exact walk_resolves t0 a1 a2 q1 q2 w w0 (hid ⟨Nat.le_refl _, h0, SG.out⟩)

set_option maxRecDepth 100000 in
theorem lifted (os : Os) (started : os.Started) (H : Type) (enc : TypeId × Value → H) :
    ReturnsInHanded {} Tryd.checked os 3 .any (fun w args => (Rows.scopeResolvesSpec.pre enc Tryd.prog Tryd.f3 [] false w args ∧ laidMetH Tryd.prog laidS w) ∧ sizedMet enc Tryd.prog Tryd.f3 (OpenSpec.ofChange Rows.scopeResolvesSpec) false w args)
      (Rows.scopeResolvesSpec.post enc Tryd.prog Tryd.f3 false true false false) := by
  refine returnsInHanded_of_change_and (C := Tryd.checked) (X := fun w _ => laidMetH Tryd.prog laidS w) (fun _ _ _ hh h => h.of_heap hh) own started (by kernel_rfl) Tryd.func3
    (ChangeSpec.witness_shaped (enc := enc) (C := Tryd.checked) (os := os) (X := fun w _ => laidMetH Tryd.prog laidS w) false (World.doorLaid Tryd.prog 14 os) #[.agg #[.int .i64 0, .int .i64 0, .int .i64 0, .string ByteArray.empty, .slice none 0 0, .slice none 0 0, .int .i64 0]] 8 rfl (World.shaped_of_RefB (by kernel_rfl) (by kernel_rfl)) (by kernel_rfl) (by kernel_rfl) (by kernel_rfl) (door_met os _)) ?_
  intro W base args ds gs before hval0 hW _ _ hL _
  obtain ⟨hz, hSG⟩ := of_laid hL
  have hval : ∀ (j : Nat) t v, Tryd.f3.params[j]? = some t → args[j]? = some v → Value.okWide Tryd.prog W .any base t v := hval0
  have hW' := hW
  obtain ⟨p, q, hA0, hV, rfl, hfz, hnd⟩ := hW
  have hA : DataW.TrodAll enc Tryd.prog W 0 (fun _ => true) true Tryd.f3.params.toList args.toList ds p := hA0
  rw [Tryd.params3] at hA hval
  obtain ⟨v0, vs0, d0, ds0, p0, q0, hargs, rfl, rfl, h0, r0⟩ := trodAll_cons hA
  obtain ⟨rfl, rfl, rfl⟩ := trodAll_nil r0
  obtain rfl : args = #[v0] := by cases args; simp_all
  obtain ⟨rfl, rfl⟩ := trodVars_none hV
  have hk0 := h0
  have hlt0 : ∀ x ∈ p0, x.block < W.heap.size := fun x hx => by simpa using hW'.lt x (by simp [hx])
  obtain ⟨t0, nv0, kv0, rfl, w0⟩ := open_node (hval 0 25 v0 rfl rfl) h0
  clear hA0 hval0
  refine (walk t0 nv0 kv0 W w0 hz hSG).mono fun e W' ⟨he, hg⟩ => ?_
  subst he
  exact ⟨_, rfl, _, _, _, [], _, [], hW', trodAll_mk1 (shut_bool Tryd.underlying4 _), (trodAll_cons_mk (Below.trod laidOutP (by kernel_rfl) (of_decide_eq_true (by kernel_rfl)) hk0 hg hlt0) trodAll_mk0), rfl, hg.frame _, fun h => by cases h⟩

theorem over : Rows.scopeResolvesRow.holds Tryd.pinned (OpenSpec.ofChange Rows.scopeResolvesSpec) :=
  OpenClaim.holds_of_wide 3 Tryd.f3 rfl rfl rfl rfl rfl rfl rfl ⟨rfl, rfl, rfl, rfl, rfl⟩ rfl rfl rfl rfl rfl (by kernel_rfl) Tryd.func3 (by kernel_rfl)
    (of_decide_eq_true (by kernel_rfl)) (by unfold Func.isWrapper; first | (rw [if_pos (by decide +kernel)]; kernel_rfl) | (rw [if_neg (by decide +kernel)]; exact ⟨rfl, rfl⟩))
    (fun os started H enc _ => lifted os started H enc)

end Go.Proofs.YtenpldenhgpneaaDoor.scopeResolves
namespace Go.Proofs.YtenpldenhgpneaaDoor

/-- the statement, as it was given: the tied card -/
theorem scopeResolves_holds : Rows.ScopeResolvesCardSaid :=
  Claim7.holds_tied_plain_at .later [] [.data] true (true, "7d5e83a59477f08df7a78a1eeb2eab4ce7fb9b76639198b4d022ff64f170de32") false
    scopeResolves.over (fun _ h => by cases h) (by kernel_rfl) (fun _ h => by cases h) scopeResolves_row_tie rfl ⟨rfl, rfl⟩ (by kernel_rfl) rfl
    (fun f fn hf hfn => by
      obtain rfl : f = 3 := Option.some.inj ((show Tryd.prog.funcNamed "proteus/proteuslaw08.ScopeResolves" = some 3 by kernel_rfl).symm.trans hf) |>.symm
      obtain rfl : fn = Tryd.f3 := (Option.some.inj (Tryd.func3.symm.trans hfn)).symm
      exact ⟨by kernel_rfl, fun j t ht => by
        rw [Tryd.params3] at ht
        have hm : t ∈ [25] := by simpa using Array.mem_of_getElem? ht
        have hall : ([25].all fun u => !Tryd.prog.wantsStandIn u) = true := by kernel_rfl
        exact (show Tryd.prog.wantsStandIn t = false by simpa using List.all_eq_true.1 hall t hm)⟩)
    (by kernel_rfl)
#print axioms scopeResolves_holds
end Go.Proofs.YtenpldenhgpneaaDoor
