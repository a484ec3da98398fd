/- Sites do not show: whatever is got, set and changed at sites, all is told as by a heap alone, which is the same then, whatever numbers of shapes there may be (the first 70 acts; a text of more than 300 bytes asks for the law's own test alone): SiteHides is true for every input; no condition. -/
import Derived.Test.YtimhgbcanmgajaaGreatJoint23
import Derived.Test.YtimhgbcanmgajaaGreatJoint2
import Derived.Test.YtimhgbcanmgajaaGreatRows
import Derived.WalkKit
import Derived.ProofKit
import Derived.OpenShut
import Derived.ShutString
import Derived.ChangeOld
import Derived.Below
namespace Go.Proofs.YtimhgbcanmgajaaGreat.siteHides
open Go.ChangeShapes Go.WideShapes Go.ChangeAt Go.RowKit
open Go.ChangeMaps (open_string shut_string)
set_option linter.unusedVariables false
set_option maxRecDepth 100000

theorem own : ownKnob Tryz.prog.godebug = none := by kernel_rfl

set_option linter.unusedSimpArgs false
set_option maxRecDepth 100000
set_option maxHeartbeats 32000000 in
theorem walk_hides (ao : Option Addr) (cap : Nat) (xs : List AcS) (u1 u2 : Int) (w : World) (HR : Hid (RowsArg 9 (.slice ao xs.length cap) (xs.map acSC) w)) (HX : Hid (∀ x ∈ xs, acSI x)) (hu1 : 0 ≤ u1 ∧ u1 ≤ 255) (hu2 : 0 ≤ u2 ∧ u2 ≤ 255) :
    Calls Tryz.prog 4 #[.int .u8 u1, .int .u8 u2, .slice ao xs.length cap] w fun e w' => e = .returned (.bool true) ∧ Below w.heap.size w w' := by
  have HN1 := hid (hnew_calls (w.alloc (Obj.cells #[.int .i64 9, .int .i64 0, .int .i64 14, .int .i64 0] 24)) 9 0 14 0 u1)
  unfold limV at HN1
  go_enter Tryz.func4, Tryz.ntmps4
  go_wp2_with fail
  refine HN1.out.mono ?_
  rintro e0 w0 ⟨h, rfl, ⟨s, p0⟩, b0⟩
  have A0 := (Below.refl w.heap.size w).alloc (Nat.le_refl _) (Obj.cells #[.int .i64 9, .int .i64 0, .int .i64 14, .int .i64 0] 24)
  have hwl : w.heap.size < (w.alloc (Obj.cells #[.int .i64 9, .int .i64 0, .int .i64 14, .int .i64 0] 24)).heap.size := by simp
  have z0 := hcell_on (g := w.heap.size) (i := 0) (v := .int .i64 9) (by simp) hwl b0
  have z1 := hcell_on (g := w.heap.size) (i := 1) (v := .int .i64 0) (by simp) hwl b0
  have z2 := hcell_on (g := w.heap.size) (i := 2) (v := .int .i64 14) (by simp) hwl b0
  have z3 := hcell_on (g := w.heap.size) (i := 3) (v := .int .i64 0) (by simp) hwl b0
  have P0 := hid p0
  have B0 := hid (below_on A0 b0)
  have hwl0 := Nat.lt_of_lt_of_le hwl b0.size
  have HN2 := hid (hnew_calls w0 9 0 14 0 u2)
  unfold limV at HN2
  clear p0 b0 A0 HN1 hwl
  go_wp2_with fail
  refine HN2.out.mono ?_
  rintro e1 w1 ⟨g, rfl, p1, b1⟩
  have hzA : (w.alloc (Obj.cells #[.int .i64 9, .int .i64 0, .int .i64 14, .int .i64 0] 24)).heap.size = w.heap.size + 1 := by simp
  have Q1 := hid ((show HpZ (fun b => w.heap.size ≤ b ∧ b < w0.heap.size) 40 h s (newH 9 14 u1) w0 from P0.out.mono (fun b hb h => by rw [hzA] at h; exact ⟨by omega, hb⟩)).on b1)
  have Q2 := hid (show HpS (fun b => w0.heap.size ≤ b ∧ b < w1.heap.size) 40 g (newH 9 14 u2) w1 from p1.mono (fun b hb h => ⟨h, hb⟩))
  have B1 := hid (below_in B0.out (Nat.le_refl _) b1)
  have hs01 := b1.size
  clear p1 b1 P0 HN2 z0 z1 z2 z3 hwl0 hzA
  have HSt := hid (ssites_calls w1)
  have A1 := (Below.refl w1.heap.size w1).alloc (Nat.le_refl _) (Obj.cells #[.int .i64 3, .int .i64 2, .int .i64 (-1)] 3)
  have HN := hid (snew_calls (w1.alloc (Obj.cells #[.int .i64 3, .int .i64 2, .int .i64 (-1)] 3)) s w1.heap.size 3 [3, 2, -1] (fun j x hj => by
    rcases j with _ | _ | _ | j
    · injection hj with hj; subst hj; simp
    · injection hj with hj; subst hj; simp
    · injection hj with hj; subst hj; simp
    · cases hj) (by simp) (by decide) (by decide))
  have HA1 := hid A1
  have hz1 : (w1.alloc (Obj.cells #[.int .i64 3, .int .i64 2, .int .i64 (-1)] 3)).heap.size = w1.heap.size + 1 := by simp
  have HZ1 := hid hz1
  clear A1 hz1
  go_wp2_with fail
  refine HSt.out.mono ?_
  rintro e2 w2 ⟨rfl, rfl⟩
  go_wp2_with fail
  refine HN.out.mono ?_
  rintro e3 w3 ⟨b3, tb, rfl, T3⟩
  have b13 := below_on HA1.out b3
  have B3 := hid (below_in B1.out (Nat.le_refl _) b13)
  have T1 : Hid (StaH w.heap.size (fun _ => False) 0 h s tb g w3) := hid (by
    refine ⟨newH 9 14 u1, newH 9 14 u2, newT [3, 2, -1], ?_, alike_new _ _ _ _, hfit_new _ _ _, hfit_new _ _ _, newT_ok _ _⟩
    have t3 : TbZ (fun b => w1.heap.size + 1 ≤ b) 0 tb s (newT [3, 2, -1]) w3 := (fam_tb _ _ _ _).mono T3 (fun b _ h => by rw [HZ1.out] at h; exact h)
    have q1 : Pr (fun S w => HpZ S 40 h s (newH 9 14 u1) w) (fun S w => TbZ S 0 tb s (newT [3, 2, -1]) w) (fun b => (w.heap.size ≤ b ∧ b < w0.heap.size) ∨ w1.heap.size + 1 ≤ b) w3 := Pr.mk (fam_hp _ _ _ _) (fam_tb _ _ _ _) (Q1.out.on b13) t3 (fun x _ h1 h2 => by omega) (fun x _ h1 => .inl h1) (fun x _ h2 => .inr h2)
    have hw := B0.out.size
    exact Pr.mk (fam_si _ _ _ _ _ _ _) (fam_hs _ _ _) q1 (Q2.out.on b13) (fun x _ h1 h2 => by omega) (fun x _ h1 => ⟨by omega, fun e => e⟩) (fun x _ h2 => ⟨by omega, fun e => e⟩))
  clear b3 b13 T3 HSt HN HA1 HZ1 Q1 Q2 B1 B0 hs01
  go_wp2_with fail
  go_loopw [11] (fun i wr => ∃ k : Nat, k ≤ xs.length ∧ k ≤ 70 ∧ i = .int .i64 k ∧ Hid (StaH w.heap.size (fun _ => False) k h s tb g wr) ∧ Hid (Below w.heap.size w wr)) (fun i _ => 70 - (intOf i).toNat)
  case atStart => exact ⟨0, by omega, by omega, rfl, T1, B3⟩
  case round =>
    clear T1 B3
    rename World => wA
    obtain ⟨k, hk, hk4, rfl, hF, hB⟩ := hrel
    by_cases hgo : k < xs.length ∧ k < 70
    · obtain ⟨hkl, hk70⟩ := hgo
      obtain ⟨⟨d, af, ak, aa, ab, an, av⟩, ha⟩ : ∃ a, xs[k]? = some a := ⟨xs[k], List.getElem?_eq_getElem hkl⟩
      obtain ⟨bb, off, rfl, hbb, c0, c1, c2, c3, c4, c5, c6, c7, c8⟩ := sact_at (rowsArg_on HR.out hB.out) ha
      dsimp only at c0 c1 c2 c3 c4 c5 c6 c7 c8
      have hai := HX.out _ (List.mem_of_getElem? ha)
      have A1 := (Below.refl wA.heap.size wA).alloc (Nat.le_refl _) (acSO ⟨d, af, ak, aa, ab, an, av⟩)
      have HL := hid (slong_calls ⟨d, af, ak, aa, ab, an, av⟩ hai.1 hai.2.1 (wA.alloc (acSO ⟨d, af, ak, aa, ab, an, av⟩)))
      have HAI := hid hai
      have d1 : decide ((k : Int) < 70) = true := decide_eq_true (by omega)
      have HA1 := hid A1
      clear ha hai A1
      cases hll : longS ⟨d, af, ak, aa, ab, an, av⟩ with
      | true =>
        rw [hll] at HL
        go_wp2_with fail
        refine HL.out.mono ?_
        rintro e1 w1 ⟨rfl, b1⟩
        have B1 := hid (below_in hB.out (Nat.le_refl _) (below_on HA1.out b1))
        clear b1
        go_wp2_with fail
        refine (swork_calls _).mono ?_
        rintro e2 w2 ⟨rfl, b2⟩
        have B2 := hid (below_in B1.out (Nat.le_refl _) b2)
        clear b2
        go_wp2_with fail
        go_ret
        exact ⟨rfl, B2.out⟩
      | false =>
        rw [hll] at HL
        have hsz := not_longS hll
        dsimp only at hsz
        have HV : Hid (VFit av) := hid ⟨HAI.out.2.2, by have := hsz.2; omega⟩
        have hn : an.size ≤ 1000000 := by omega
        clear hll
        go_wp2_with fail
        refine HL.out.mono ?_
        rintro e1 w1 ⟨rfl, b1⟩
        have K1 : Hid (BoxS wA.heap.size ⟨d, af, ak, aa, ab, an, av⟩ w1) := hid (boxS_on ⟨by simp, by simp, by simp, by simp, by simp, by simp, by simp, by simp, by simp, by simp⟩ b1)
        have B1 := hid (below_in hB.out (Nat.le_refl _) (below_on HA1.out b1))
        obtain ⟨H, G, T, p, al, fh, fg, ok⟩ := (hF.out.law (Y := fun b => b = wA.heap.size) (fun b hb e => by omega)).on (below_on HA1.out b1)
        have WF0 : Hid (WfH (40 + k) H) := hid (p.one.elim fun U q => q.wf)
        have P1 := hid p
        have AL0 := hid al
        have FH0 := hid fh
        have FG0 := hid fg
        have OK0 := hid ok
        clear p al fh fg ok b1 HL HA1 hF c0 c1 c2 c3 c4 c5 c6 c7 c8
        by_cases hd : d = 0
        · skip
          have HC1 := hid (tri_heap P1.out (fun b e => by subst e; exact K1.out.1) B1.out.size (fun U q => hmake_z w1 q))
          obtain ⟨l0, n0, n1, n2, n3, n4, n5, n6, n7, n8⟩ := K1.out
          dsimp only at n1 n2 n3 n4 n5 n6 n7 n8
          subst hd
          go_wp2_with fail
          refine HC1.out.mono ?_
          rintro e2 w2 ⟨rfl, p2, k2, b2⟩
          have K3 := hid (boxS_keep K1.out k2 (fun h => h.2 rfl))
          have B2 := hid (B1.out.trans b2)
          have HC2 := hid (tri_right p2 (fun b e => by subst e; exact K3.out.1) B2.out.size (fun U q => hmake_calls w2 q))
          rw [← (alike_make AL0.out).1, ← (alike_make AL0.out).2.1] at HC2
          clear p2 k2 b2 HC1
          generalize makeN H = mn at *
          generalize makeE H = me at *
          go_wp2_with fail
          refine HC2.out.mono ?_
          rintro e3 w3 ⟨rfl, p3, k3, b3⟩
          have BL := hid (B2.out.trans b3)
          have STL : Hid (StaH w.heap.size (fun b => b = wA.heap.size) (k + 1) h s tb g w3) := hid ⟨makeH H, makeH G, T, TriA.more p3 (by omega) (by omega) (by omega), (alike_make AL0.out).2.2, hfit_make FH0.out, hfit_make FG0.out, OK0.out.hist (hist_make H)⟩
          clear p3 k3 b3 HC2
          obtain ⟨H9, G9, T9, p9, al9, fh9, fg9, ok9⟩ := STL.out
          obtain ⟨S1, PL1⟩ := p9.one
          obtain ⟨S2, PL2⟩ := p9.two
          have HD1 := hid (hdump_calls w3 PL1 (by omega) fh9)
          have HD2 := hid (fun (wx : World) (b : Below w3.heap.size w3 wx) => hdump_calls wx (PL2.on b) (by omega) fg9)
          rw [← al9.dump] at HD2
          clear p9 al9 fh9 fg9 ok9 PL1 PL2
          generalize (⟨(dumpT H9).toArray⟩ : ByteArray) = dt at *
          go_wp2_with fail
          refine HD1.out.mono ?_
          rintro e8 w8 ⟨rfl, b8⟩
          go_wp2_with fail
          refine (HD2.out w8 b8).mono ?_
          rintro e9 w9 ⟨rfl, b9⟩
          have b9' := below_on b8 b9
          have B9 := hid (below_in BL.out (Nat.le_refl _) b9')
          have T9 : Hid (StaH w.heap.size (fun _ => False) (k + 1) h s tb g w9) := hid ((STL.out.on b9').law (fun _ _ e => e.elim))
          clear b8 b9 b9' HD1 HD2
          go_wp2_with fail
          exact ⟨⟨k + 1, by omega, by omega, by simp, T9, B9⟩, by simp [intOf]; omega⟩
        · skip
          by_cases hd : d = 1
          · skip
            have wD := (Below.refl w1.heap.size w1).drew
            have P2 := hid ((fam_tri _ _ _ _ _ _ _ _ _ _).on P1.out wD)
            have K2 := hid (boxS_on K1.out wD)
            have HC1 := hid (tri_left P2.out (fun b e => by subst e; exact K1.out.1) (by show w.heap.size ≤ w1.heap.size; exact B1.out.size) (fun U q => sget_calls _ q OK0.out (by omega) (by omega) af ak aa an hn))
            unfold vlV at HC1
            obtain ⟨l0, n0, n1, n2, n3, n4, n5, n6, n7, n8⟩ := K1.out
            dsimp only at n1 n2 n3 n4 n5 n6 n7 n8
            subst hd
            go_wp2_with fail
            refine wp_region_held_drew (S := fun aZ => aZ.cell? ⟨wA.heap.size, 1, none⟩ = some (.int .i64 af) ∧ aZ.cell? ⟨wA.heap.size, 2, none⟩ = some (.int .i64 ak) ∧ aZ.cell? ⟨wA.heap.size, 3, none⟩ = some (.int .i64 aa) ∧ aZ.cell? ⟨wA.heap.size, 4, none⟩ = some (.int .i64 ab) ∧ aZ.cell? ⟨wA.heap.size, 5, none⟩ = some (.string an) ∧ aZ.cell? ⟨wA.heap.size, 6, none⟩ = some (.int .i64 av.1) ∧ aZ.cell? ⟨wA.heap.size, 7, none⟩ = some (.int .i64 av.2.1) ∧ aZ.cell? ⟨wA.heap.size, 8, none⟩ = some (.string av.2.2)) (by kernel_rfl) ?_ (fun hHeld => ?_)
            · (refine ⟨?_, ?_, ?_, ?_, ?_, ?_, ?_, ?_⟩ <;> go_simp)
            refine tkk 0 ?_
            refine tkk 1 ?_
            refine tkk 2 ?_
            refine tkk 3 ?_
            refine tkk 4 ?_
            refine tkk 5 ?_
            refine tkk 6 ?_
            refine tkk 7 ?_
            refine tkk 8 ?_
            refine tkk 9 ?_
            refine tkk 11 ?_
            refine tkk 12 ?_
            refine tkk 13 ?_
            refine tkk 14 ?_
            refine tkk 15 ?_
            refine rdy 10 (fun K hK => ?_)
            go_simp
            refine HC1.out.mono ?_
            rintro e2 w2 ⟨rfl, p2, k2, b2⟩
            have K3 := hid (boxS_keep K2.out k2 (fun h => h.2 rfl))
            have B2 := hid (B1.out.trans ((Below.refl w.heap.size w1).drew.trans b2))
            obtain ⟨S2, PG⟩ := p2.two
            have HC2 := hid (hget_calls w2 PG (by omega) aa an hn)
            rw [← AL0.out.got aa an] at HC2
            unfold vlV at HC2
            have PP2 := hid p2
            obtain ⟨l9, m0, m1, m2, m3, m4, m5, m6, m7, m8⟩ := K3.out
            dsimp only at m1 m2 m3 m4 m5 m6 m7 m8
            clear p2 k2 b2 HC1 PG
            generalize gotH H aa an = se at *
            go_simp
            refine hK.out _ _ ?_ (fun _ => ?_)
            · (refine ⟨?_, ?_, ?_, ?_, ?_, ?_, ?_, ?_⟩ <;> (first | assumption | go_simp))
            clear hK K
            refine rdy 16 (fun K hK => ?_)
            go_simp
            refine HC2.out.mono ?_
            rintro e3 w3 ⟨rfl, b3⟩
            have K4 := hid (boxS_on K3.out b3)
            have BL := hid (below_in B2.out (Nat.le_refl _) b3)
            have STL : Hid (StaH w.heap.size (fun b => b = wA.heap.size) (k + 1) h s tb g w3) := hid ⟨H, G, getT H T af ak aa an, TriA.more ((fam_tri _ _ _ _ _ _ _ _ _ _).on PP2.out b3) (by omega) (by omega) (by omega), AL0.out, FH0.out, FG0.out, getT_ok WF0.out OK0.out _ _ _ _⟩
            obtain ⟨l8, q0, q1, q2, q3, q4, q5, q6, q7, q8⟩ := K4.out
            dsimp only at q1 q2 q3 q4 q5 q6 q7 q8
            clear b3 HC2 PP2
            go_simp
            refine hK.out _ _ ?_ (fun _ => ?_)
            · (refine ⟨?_, ?_, ?_, ?_, ?_, ?_, ?_, ?_⟩ <;> (first | assumption | go_simp))
            clear hK K
            refine tkk 17 ?_
            refine tkk 18 ?_
            refine wpAnyH_done (by kernel_rfl) ?_ _
            obtain ⟨H9, G9, T9, p9, al9, fh9, fg9, ok9⟩ := STL.out
            obtain ⟨S1, PL1⟩ := p9.one
            obtain ⟨S2, PL2⟩ := p9.two
            have HD1 := hid (hdump_calls w3 PL1 (by omega) fh9)
            have HD2 := hid (fun (wx : World) (b : Below w3.heap.size w3 wx) => hdump_calls wx (PL2.on b) (by omega) fg9)
            rw [← al9.dump] at HD2
            clear p9 al9 fh9 fg9 ok9 PL1 PL2
            generalize (⟨(dumpT H9).toArray⟩ : ByteArray) = dt at *
            go_wp2_with fail
            refine HD1.out.mono ?_
            rintro e8 w8 ⟨rfl, b8⟩
            go_wp2_with fail
            refine (HD2.out w8 b8).mono ?_
            rintro e9 w9 ⟨rfl, b9⟩
            have b9' := below_on b8 b9
            have B9 := hid (below_in BL.out (Nat.le_refl _) b9')
            have T9 : Hid (StaH w.heap.size (fun _ => False) (k + 1) h s tb g w9) := hid ((STL.out.on b9').law (fun _ _ e => e.elim))
            clear b8 b9 b9' HD1 HD2
            go_wp2_with fail
            exact ⟨⟨k + 1, by omega, by omega, by simp, T9, B9⟩, by simp [intOf]; omega⟩
          · skip
            by_cases hd : d = 2
            · skip
              have wD := (Below.refl w1.heap.size w1).drew
              have P2 := hid ((fam_tri _ _ _ _ _ _ _ _ _ _).on P1.out wD)
              have K2 := hid (boxS_on K1.out wD)
              have HC1 := hid (tri_left P2.out (fun b e => by subst e; exact K1.out.1) (by show w.heap.size ≤ w1.heap.size; exact B1.out.size) (fun U q => sset_calls _ q OK0.out (by omega) (by omega) (by omega) af ak aa an hn av))
              skip
              obtain ⟨l0, n0, n1, n2, n3, n4, n5, n6, n7, n8⟩ := K1.out
              dsimp only at n1 n2 n3 n4 n5 n6 n7 n8
              subst hd
              go_wp2_with fail
              refine wp_region_held_drew (S := fun aZ => aZ.cell? ⟨wA.heap.size, 1, none⟩ = some (.int .i64 af) ∧ aZ.cell? ⟨wA.heap.size, 2, none⟩ = some (.int .i64 ak) ∧ aZ.cell? ⟨wA.heap.size, 3, none⟩ = some (.int .i64 aa) ∧ aZ.cell? ⟨wA.heap.size, 4, none⟩ = some (.int .i64 ab) ∧ aZ.cell? ⟨wA.heap.size, 5, none⟩ = some (.string an) ∧ aZ.cell? ⟨wA.heap.size, 6, none⟩ = some (.int .i64 av.1) ∧ aZ.cell? ⟨wA.heap.size, 7, none⟩ = some (.int .i64 av.2.1) ∧ aZ.cell? ⟨wA.heap.size, 8, none⟩ = some (.string av.2.2)) (by kernel_rfl) ?_ (fun hHeld => ?_)
              · (refine ⟨?_, ?_, ?_, ?_, ?_, ?_, ?_, ?_⟩ <;> go_simp)
              refine tkk 0 ?_
              refine tkk 1 ?_
              refine tkk 2 ?_
              refine tkk 3 ?_
              refine tkk 4 ?_
              refine tkk 5 ?_
              refine tkk 6 ?_
              refine tkk 7 ?_
              refine tkk 8 ?_
              refine tkk 9 ?_
              refine tkk 10 ?_
              refine tkk 11 ?_
              refine tkk 13 ?_
              refine tkk 14 ?_
              refine tkk 15 ?_
              refine tkk 16 ?_
              refine tkk 17 ?_
              refine tkk 18 ?_
              refine tkk 19 ?_
              refine rdy 12 (fun K hK => ?_)
              go_simp
              refine HC1.out.mono ?_
              rintro e2 w2 ⟨rfl, p2, k2, b2⟩
              have K3 := hid (boxS_keep K2.out k2 (fun h => h.2 rfl))
              have B2 := hid (B1.out.trans ((Below.refl w.heap.size w1).drew.trans b2))
              have HC2 := hid (tri_right p2 (fun b e => by subst e; exact K3.out.1) B2.out.size (fun U q => hset_calls w2 q (by omega) (by omega) aa an hn av))
              rw [← (alike_set AL0.out aa an av).1] at HC2
              obtain ⟨l9, m0, m1, m2, m3, m4, m5, m6, m7, m8⟩ := K3.out
              dsimp only at m1 m2 m3 m4 m5 m6 m7 m8
              clear p2 k2 b2 HC1
              generalize setE H aa an = se at *
              go_simp
              refine hK.out _ _ ?_ (fun _ => ?_)
              · (refine ⟨?_, ?_, ?_, ?_, ?_, ?_, ?_, ?_⟩ <;> (first | assumption | go_simp))
              clear hK K
              refine rdy 20 (fun K hK => ?_)
              go_simp
              refine HC2.out.mono ?_
              rintro e3 w3 ⟨rfl, p3, k3, b3⟩
              have K4 := hid (boxS_keep K3.out k3 (fun h => h.2 rfl))
              have BL := hid (B2.out.trans b3)
              have STL : Hid (StaH w.heap.size (fun b => b = wA.heap.size) (k + 1) h s tb g w3) := hid ⟨setH H aa an av, setH G aa an av, setT H T af ak aa an av, TriA.more p3 (by omega) (by omega) (by omega), (alike_set AL0.out aa an av).2, hfit_set FH0.out HV.out, hfit_set FG0.out HV.out, setT_ok WF0.out OK0.out _ _ _ _ _⟩
              obtain ⟨l8, q0, q1, q2, q3, q4, q5, q6, q7, q8⟩ := K4.out
              dsimp only at q1 q2 q3 q4 q5 q6 q7 q8
              clear p3 k3 b3 HC2
              go_simp
              refine hK.out _ _ ?_ (fun _ => ?_)
              · (refine ⟨?_, ?_, ?_, ?_, ?_, ?_, ?_, ?_⟩ <;> (first | assumption | go_simp))
              clear hK K
              refine tkk 21 ?_
              refine tkk 22 ?_
              refine wpAnyH_done (by kernel_rfl) ?_ _
              obtain ⟨H9, G9, T9, p9, al9, fh9, fg9, ok9⟩ := STL.out
              obtain ⟨S1, PL1⟩ := p9.one
              obtain ⟨S2, PL2⟩ := p9.two
              have HD1 := hid (hdump_calls w3 PL1 (by omega) fh9)
              have HD2 := hid (fun (wx : World) (b : Below w3.heap.size w3 wx) => hdump_calls wx (PL2.on b) (by omega) fg9)
              rw [← al9.dump] at HD2
              clear p9 al9 fh9 fg9 ok9 PL1 PL2
              generalize (⟨(dumpT H9).toArray⟩ : ByteArray) = dt at *
              go_wp2_with fail
              refine HD1.out.mono ?_
              rintro e8 w8 ⟨rfl, b8⟩
              go_wp2_with fail
              refine (HD2.out w8 b8).mono ?_
              rintro e9 w9 ⟨rfl, b9⟩
              have b9' := below_on b8 b9
              have B9 := hid (below_in BL.out (Nat.le_refl _) b9')
              have T9 : Hid (StaH w.heap.size (fun _ => False) (k + 1) h s tb g w9) := hid ((STL.out.on b9').law (fun _ _ e => e.elim))
              clear b8 b9 b9' HD1 HD2
              go_wp2_with fail
              exact ⟨⟨k + 1, by omega, by omega, by simp, T9, B9⟩, by simp [intOf]; omega⟩
            · skip
              by_cases hd : d = 3
              · skip
                have wD := (Below.refl w1.heap.size w1).drew
                have P2 := hid ((fam_tri _ _ _ _ _ _ _ _ _ _).on P1.out wD)
                have K2 := hid (boxS_on K1.out wD)
                have HC1 := hid (tri_heap P2.out (fun b e => by subst e; exact K1.out.1) (by show w.heap.size ≤ w1.heap.size; exact B1.out.size) (fun U q => hset_z _ q (by omega) (by omega) aa an hn av))
                skip
                obtain ⟨l0, n0, n1, n2, n3, n4, n5, n6, n7, n8⟩ := K1.out
                dsimp only at n1 n2 n3 n4 n5 n6 n7 n8
                subst hd
                go_wp2_with fail
                refine wp_region_held_drew (S := fun aZ => aZ.cell? ⟨wA.heap.size, 1, none⟩ = some (.int .i64 af) ∧ aZ.cell? ⟨wA.heap.size, 2, none⟩ = some (.int .i64 ak) ∧ aZ.cell? ⟨wA.heap.size, 3, none⟩ = some (.int .i64 aa) ∧ aZ.cell? ⟨wA.heap.size, 4, none⟩ = some (.int .i64 ab) ∧ aZ.cell? ⟨wA.heap.size, 5, none⟩ = some (.string an) ∧ aZ.cell? ⟨wA.heap.size, 6, none⟩ = some (.int .i64 av.1) ∧ aZ.cell? ⟨wA.heap.size, 7, none⟩ = some (.int .i64 av.2.1) ∧ aZ.cell? ⟨wA.heap.size, 8, none⟩ = some (.string av.2.2)) (by kernel_rfl) ?_ (fun hHeld => ?_)
                · (refine ⟨?_, ?_, ?_, ?_, ?_, ?_, ?_, ?_⟩ <;> go_simp)
                refine tkk 0 ?_
                refine tkk 1 ?_
                refine tkk 2 ?_
                refine tkk 3 ?_
                refine tkk 4 ?_
                refine tkk 5 ?_
                refine tkk 6 ?_
                refine tkk 8 ?_
                refine tkk 9 ?_
                refine tkk 10 ?_
                refine tkk 11 ?_
                refine tkk 12 ?_
                refine tkk 13 ?_
                refine tkk 14 ?_
                refine rdy 7 (fun K hK => ?_)
                go_simp
                refine HC1.out.mono ?_
                rintro e2 w2 ⟨rfl, p2, k2, b2⟩
                have K3 := hid (boxS_keep K2.out k2 (fun h => h.2 rfl))
                have B2 := hid (B1.out.trans ((Below.refl w.heap.size w1).drew.trans b2))
                have HC2 := hid (tri_right p2 (fun b e => by subst e; exact K3.out.1) B2.out.size (fun U q => hset_calls w2 q (by omega) (by omega) aa an hn av))
                rw [← (alike_set AL0.out aa an av).1] at HC2
                obtain ⟨l9, m0, m1, m2, m3, m4, m5, m6, m7, m8⟩ := K3.out
                dsimp only at m1 m2 m3 m4 m5 m6 m7 m8
                clear p2 k2 b2 HC1
                generalize setE H aa an = se at *
                go_simp
                refine hK.out _ _ ?_ (fun _ => ?_)
                · (refine ⟨?_, ?_, ?_, ?_, ?_, ?_, ?_, ?_⟩ <;> (first | assumption | go_simp))
                clear hK K
                refine rdy 15 (fun K hK => ?_)
                go_simp
                refine HC2.out.mono ?_
                rintro e3 w3 ⟨rfl, p3, k3, b3⟩
                have K4 := hid (boxS_keep K3.out k3 (fun h => h.2 rfl))
                have BL := hid (B2.out.trans b3)
                have STL : Hid (StaH w.heap.size (fun b => b = wA.heap.size) (k + 1) h s tb g w3) := hid ⟨setH H aa an av, setH G aa an av, T, TriA.more p3 (by omega) (by omega) (by omega), (alike_set AL0.out aa an av).2, hfit_set FH0.out HV.out, hfit_set FG0.out HV.out, OK0.out.hist (hist_set H aa an av)⟩
                obtain ⟨l8, q0, q1, q2, q3, q4, q5, q6, q7, q8⟩ := K4.out
                dsimp only at q1 q2 q3 q4 q5 q6 q7 q8
                clear p3 k3 b3 HC2
                go_simp
                refine hK.out _ _ ?_ (fun _ => ?_)
                · (refine ⟨?_, ?_, ?_, ?_, ?_, ?_, ?_, ?_⟩ <;> (first | assumption | go_simp))
                clear hK K
                refine tkk 16 ?_
                refine tkk 17 ?_
                refine wpAnyH_done (by kernel_rfl) ?_ _
                obtain ⟨H9, G9, T9, p9, al9, fh9, fg9, ok9⟩ := STL.out
                obtain ⟨S1, PL1⟩ := p9.one
                obtain ⟨S2, PL2⟩ := p9.two
                have HD1 := hid (hdump_calls w3 PL1 (by omega) fh9)
                have HD2 := hid (fun (wx : World) (b : Below w3.heap.size w3 wx) => hdump_calls wx (PL2.on b) (by omega) fg9)
                rw [← al9.dump] at HD2
                clear p9 al9 fh9 fg9 ok9 PL1 PL2
                generalize (⟨(dumpT H9).toArray⟩ : ByteArray) = dt at *
                go_wp2_with fail
                refine HD1.out.mono ?_
                rintro e8 w8 ⟨rfl, b8⟩
                go_wp2_with fail
                refine (HD2.out w8 b8).mono ?_
                rintro e9 w9 ⟨rfl, b9⟩
                have b9' := below_on b8 b9
                have B9 := hid (below_in BL.out (Nat.le_refl _) b9')
                have T9 : Hid (StaH w.heap.size (fun _ => False) (k + 1) h s tb g w9) := hid ((STL.out.on b9').law (fun _ _ e => e.elim))
                clear b8 b9 b9' HD1 HD2
                go_wp2_with fail
                exact ⟨⟨k + 1, by omega, by omega, by simp, T9, B9⟩, by simp [intOf]; omega⟩
              · skip
                by_cases hd : d = 4
                · skip
                  have wD := (Below.refl w1.heap.size w1).drew
                  have P2 := hid ((fam_tri _ _ _ _ _ _ _ _ _ _).on P1.out wD)
                  have K2 := hid (boxS_on K1.out wD)
                  have HC1 := hid (tri_heap P2.out (fun b e => by subst e; exact K1.out.1) (by show w.heap.size ≤ w1.heap.size; exact B1.out.size) (fun U q => hdel_z _ q (by omega) (by omega) aa an hn))
                  skip
                  obtain ⟨l0, n0, n1, n2, n3, n4, n5, n6, n7, n8⟩ := K1.out
                  dsimp only at n1 n2 n3 n4 n5 n6 n7 n8
                  subst hd
                  go_wp2_with fail
                  refine wp_region_held_drew (S := fun aZ => aZ.cell? ⟨wA.heap.size, 1, none⟩ = some (.int .i64 af) ∧ aZ.cell? ⟨wA.heap.size, 2, none⟩ = some (.int .i64 ak) ∧ aZ.cell? ⟨wA.heap.size, 3, none⟩ = some (.int .i64 aa) ∧ aZ.cell? ⟨wA.heap.size, 4, none⟩ = some (.int .i64 ab) ∧ aZ.cell? ⟨wA.heap.size, 5, none⟩ = some (.string an) ∧ aZ.cell? ⟨wA.heap.size, 6, none⟩ = some (.int .i64 av.1) ∧ aZ.cell? ⟨wA.heap.size, 7, none⟩ = some (.int .i64 av.2.1) ∧ aZ.cell? ⟨wA.heap.size, 8, none⟩ = some (.string av.2.2)) (by kernel_rfl) ?_ (fun hHeld => ?_)
                  · (refine ⟨?_, ?_, ?_, ?_, ?_, ?_, ?_, ?_⟩ <;> go_simp)
                  refine tkk 0 ?_
                  refine tkk 1 ?_
                  refine tkk 2 ?_
                  refine tkk 3 ?_
                  refine tkk 4 ?_
                  refine tkk 6 ?_
                  refine tkk 7 ?_
                  refine tkk 8 ?_
                  refine tkk 9 ?_
                  refine tkk 10 ?_
                  refine rdy 5 (fun K hK => ?_)
                  go_simp
                  refine HC1.out.mono ?_
                  rintro e2 w2 ⟨rfl, p2, k2, b2⟩
                  have K3 := hid (boxS_keep K2.out k2 (fun h => h.2 rfl))
                  have B2 := hid (B1.out.trans ((Below.refl w.heap.size w1).drew.trans b2))
                  have HC2 := hid (tri_right p2 (fun b e => by subst e; exact K3.out.1) B2.out.size (fun U q => hdel_calls w2 q (by omega) (by omega) aa an hn))
                  rw [← AL0.out.own aa an] at HC2
                  obtain ⟨l9, m0, m1, m2, m3, m4, m5, m6, m7, m8⟩ := K3.out
                  dsimp only at m1 m2 m3 m4 m5 m6 m7 m8
                  clear p2 k2 b2 HC1
                  generalize (ownH H aa an).isSome = se at *
                  go_simp
                  refine hK.out _ _ ?_ (fun _ => ?_)
                  · (refine ⟨?_, ?_, ?_, ?_, ?_, ?_, ?_, ?_⟩ <;> (first | assumption | go_simp))
                  clear hK K
                  refine rdy 11 (fun K hK => ?_)
                  go_simp
                  refine HC2.out.mono ?_
                  rintro e3 w3 ⟨rfl, p3, k3, b3⟩
                  have K4 := hid (boxS_keep K3.out k3 (fun h => h.2 rfl))
                  have BL := hid (B2.out.trans b3)
                  have STL : Hid (StaH w.heap.size (fun b => b = wA.heap.size) (k + 1) h s tb g w3) := hid ⟨delH H aa an, delH G aa an, T, TriA.more p3 (by omega) (by omega) (by omega), alike_del AL0.out aa an, hfit_del FH0.out, hfit_del FG0.out, OK0.out.hist (hist_del H aa an)⟩
                  obtain ⟨l8, q0, q1, q2, q3, q4, q5, q6, q7, q8⟩ := K4.out
                  dsimp only at q1 q2 q3 q4 q5 q6 q7 q8
                  clear p3 k3 b3 HC2
                  go_simp
                  refine hK.out _ _ ?_ (fun _ => ?_)
                  · (refine ⟨?_, ?_, ?_, ?_, ?_, ?_, ?_, ?_⟩ <;> (first | assumption | go_simp))
                  clear hK K
                  refine tkk 12 ?_
                  refine tkk 13 ?_
                  refine wpAnyH_done (by kernel_rfl) ?_ _
                  obtain ⟨H9, G9, T9, p9, al9, fh9, fg9, ok9⟩ := STL.out
                  obtain ⟨S1, PL1⟩ := p9.one
                  obtain ⟨S2, PL2⟩ := p9.two
                  have HD1 := hid (hdump_calls w3 PL1 (by omega) fh9)
                  have HD2 := hid (fun (wx : World) (b : Below w3.heap.size w3 wx) => hdump_calls wx (PL2.on b) (by omega) fg9)
                  rw [← al9.dump] at HD2
                  clear p9 al9 fh9 fg9 ok9 PL1 PL2
                  generalize (⟨(dumpT H9).toArray⟩ : ByteArray) = dt at *
                  go_wp2_with fail
                  refine HD1.out.mono ?_
                  rintro e8 w8 ⟨rfl, b8⟩
                  go_wp2_with fail
                  refine (HD2.out w8 b8).mono ?_
                  rintro e9 w9 ⟨rfl, b9⟩
                  have b9' := below_on b8 b9
                  have B9 := hid (below_in BL.out (Nat.le_refl _) b9')
                  have T9 : Hid (StaH w.heap.size (fun _ => False) (k + 1) h s tb g w9) := hid ((STL.out.on b9').law (fun _ _ e => e.elim))
                  clear b8 b9 b9' HD1 HD2
                  go_wp2_with fail
                  exact ⟨⟨k + 1, by omega, by omega, by simp, T9, B9⟩, by simp [intOf]; omega⟩
                · skip
                  by_cases hd : d = 5
                  · skip
                    have wD := (Below.refl w1.heap.size w1).drew
                    have P2 := hid ((fam_tri _ _ _ _ _ _ _ _ _ _).on P1.out wD)
                    have K2 := hid (boxS_on K1.out wD)
                    have HC1 := hid (tri_heap P2.out (fun b e => by subst e; exact K1.out.1) (by show w.heap.size ≤ w1.heap.size; exact B1.out.size) (fun U q => hsetproto_z _ q (by omega) (by omega) aa ab))
                    skip
                    obtain ⟨l0, n0, n1, n2, n3, n4, n5, n6, n7, n8⟩ := K1.out
                    dsimp only at n1 n2 n3 n4 n5 n6 n7 n8
                    subst hd
                    go_wp2_with fail
                    refine wp_region_held_drew (S := fun aZ => aZ.cell? ⟨wA.heap.size, 1, none⟩ = some (.int .i64 af) ∧ aZ.cell? ⟨wA.heap.size, 2, none⟩ = some (.int .i64 ak) ∧ aZ.cell? ⟨wA.heap.size, 3, none⟩ = some (.int .i64 aa) ∧ aZ.cell? ⟨wA.heap.size, 4, none⟩ = some (.int .i64 ab) ∧ aZ.cell? ⟨wA.heap.size, 5, none⟩ = some (.string an) ∧ aZ.cell? ⟨wA.heap.size, 6, none⟩ = some (.int .i64 av.1) ∧ aZ.cell? ⟨wA.heap.size, 7, none⟩ = some (.int .i64 av.2.1) ∧ aZ.cell? ⟨wA.heap.size, 8, none⟩ = some (.string av.2.2)) (by kernel_rfl) ?_ (fun hHeld => ?_)
                    · (refine ⟨?_, ?_, ?_, ?_, ?_, ?_, ?_, ?_⟩ <;> go_simp)
                    refine tkk 0 ?_
                    refine tkk 1 ?_
                    refine tkk 2 ?_
                    refine tkk 3 ?_
                    refine tkk 4 ?_
                    refine tkk 6 ?_
                    refine tkk 7 ?_
                    refine tkk 8 ?_
                    refine tkk 9 ?_
                    refine tkk 10 ?_
                    refine rdy 5 (fun K hK => ?_)
                    go_simp
                    refine HC1.out.mono ?_
                    rintro e2 w2 ⟨rfl, p2, k2, b2⟩
                    have K3 := hid (boxS_keep K2.out k2 (fun h => h.2 rfl))
                    have B2 := hid (B1.out.trans ((Below.refl w.heap.size w1).drew.trans b2))
                    have HC2 := hid (tri_right p2 (fun b e => by subst e; exact K3.out.1) B2.out.size (fun U q => hsetproto_calls w2 q (by omega) (by omega) aa ab))
                    rw [← (alike_proto AL0.out aa ab).1] at HC2
                    obtain ⟨l9, m0, m1, m2, m3, m4, m5, m6, m7, m8⟩ := K3.out
                    dsimp only at m1 m2 m3 m4 m5 m6 m7 m8
                    clear p2 k2 b2 HC1
                    generalize protoE H aa ab = se at *
                    go_simp
                    refine hK.out _ _ ?_ (fun _ => ?_)
                    · (refine ⟨?_, ?_, ?_, ?_, ?_, ?_, ?_, ?_⟩ <;> (first | assumption | go_simp))
                    clear hK K
                    refine rdy 11 (fun K hK => ?_)
                    go_simp
                    refine HC2.out.mono ?_
                    rintro e3 w3 ⟨rfl, p3, k3, b3⟩
                    have K4 := hid (boxS_keep K3.out k3 (fun h => h.2 rfl))
                    have BL := hid (B2.out.trans b3)
                    have STL : Hid (StaH w.heap.size (fun b => b = wA.heap.size) (k + 1) h s tb g w3) := hid ⟨protoS H aa ab, protoS G aa ab, T, TriA.more p3 (by omega) (by omega) (by omega), (alike_proto AL0.out aa ab).2, hfit_proto FH0.out, hfit_proto FG0.out, OK0.out.hist (hist_proto H aa ab)⟩
                    obtain ⟨l8, q0, q1, q2, q3, q4, q5, q6, q7, q8⟩ := K4.out
                    dsimp only at q1 q2 q3 q4 q5 q6 q7 q8
                    clear p3 k3 b3 HC2
                    go_simp
                    refine hK.out _ _ ?_ (fun _ => ?_)
                    · (refine ⟨?_, ?_, ?_, ?_, ?_, ?_, ?_, ?_⟩ <;> (first | assumption | go_simp))
                    clear hK K
                    refine tkk 12 ?_
                    refine tkk 13 ?_
                    refine wpAnyH_done (by kernel_rfl) ?_ _
                    obtain ⟨H9, G9, T9, p9, al9, fh9, fg9, ok9⟩ := STL.out
                    obtain ⟨S1, PL1⟩ := p9.one
                    obtain ⟨S2, PL2⟩ := p9.two
                    have HD1 := hid (hdump_calls w3 PL1 (by omega) fh9)
                    have HD2 := hid (fun (wx : World) (b : Below w3.heap.size w3 wx) => hdump_calls wx (PL2.on b) (by omega) fg9)
                    rw [← al9.dump] at HD2
                    clear p9 al9 fh9 fg9 ok9 PL1 PL2
                    generalize (⟨(dumpT H9).toArray⟩ : ByteArray) = dt at *
                    go_wp2_with fail
                    refine HD1.out.mono ?_
                    rintro e8 w8 ⟨rfl, b8⟩
                    go_wp2_with fail
                    refine (HD2.out w8 b8).mono ?_
                    rintro e9 w9 ⟨rfl, b9⟩
                    have b9' := below_on b8 b9
                    have B9 := hid (below_in BL.out (Nat.le_refl _) b9')
                    have T9 : Hid (StaH w.heap.size (fun _ => False) (k + 1) h s tb g w9) := hid ((STL.out.on b9').law (fun _ _ e => e.elim))
                    clear b8 b9 b9' HD1 HD2
                    go_wp2_with fail
                    exact ⟨⟨k + 1, by omega, by omega, by simp, T9, B9⟩, by simp [intOf]; omega⟩
                  · skip
                    by_cases hd : d = 6
                    · skip
                      have HC1 := hid (tri_tab P1.out (fun b e => by subst e; exact K1.out.1) B1.out.size (fun U q => zflush q OK0.out af))
                      obtain ⟨l0, n0, n1, n2, n3, n4, n5, n6, n7, n8⟩ := K1.out
                      dsimp only at n1 n2 n3 n4 n5 n6 n7 n8
                      subst hd
                      go_wp2_with fail
                      refine HC1.out.mono ?_
                      rintro e2 w2 ⟨rfl, p2, k2, b2⟩
                      have BL := hid (B1.out.trans b2)
                      have STL : Hid (StaH w.heap.size (fun b => b = wA.heap.size) (k + 1) h s tb g w2) := hid ⟨H, G, flushT T af false, TriA.more p2 (by omega) (by omega) (by omega), AL0.out, FH0.out, FG0.out, flushT_ok OK0.out af false⟩
                      clear p2 k2 b2 HC1
                      obtain ⟨H9, G9, T9, p9, al9, fh9, fg9, ok9⟩ := STL.out
                      obtain ⟨S1, PL1⟩ := p9.one
                      obtain ⟨S2, PL2⟩ := p9.two
                      have HD1 := hid (hdump_calls w2 PL1 (by omega) fh9)
                      have HD2 := hid (fun (wx : World) (b : Below w2.heap.size w2 wx) => hdump_calls wx (PL2.on b) (by omega) fg9)
                      rw [← al9.dump] at HD2
                      clear p9 al9 fh9 fg9 ok9 PL1 PL2
                      generalize (⟨(dumpT H9).toArray⟩ : ByteArray) = dt at *
                      go_wp2_with fail
                      refine HD1.out.mono ?_
                      rintro e8 w8 ⟨rfl, b8⟩
                      go_wp2_with fail
                      refine (HD2.out w8 b8).mono ?_
                      rintro e9 w9 ⟨rfl, b9⟩
                      have b9' := below_on b8 b9
                      have B9 := hid (below_in BL.out (Nat.le_refl _) b9')
                      have T9 : Hid (StaH w.heap.size (fun _ => False) (k + 1) h s tb g w9) := hid ((STL.out.on b9').law (fun _ _ e => e.elim))
                      clear b8 b9 b9' HD1 HD2
                      go_wp2_with fail
                      exact ⟨⟨k + 1, by omega, by omega, by simp, T9, B9⟩, by simp [intOf]; omega⟩
                    · skip
                      by_cases hd : d = 7
                      · skip
                        have HC1 := hid (tri_tab P1.out (fun b e => by subst e; exact K1.out.1) B1.out.size (fun U q => zmega q af))
                        obtain ⟨l0, n0, n1, n2, n3, n4, n5, n6, n7, n8⟩ := K1.out
                        dsimp only at n1 n2 n3 n4 n5 n6 n7 n8
                        subst hd
                        go_wp2_with fail
                        refine HC1.out.mono ?_
                        rintro e2 w2 ⟨rfl, p2, k2, b2⟩
                        have BL := hid (B1.out.trans b2)
                        have STL : Hid (StaH w.heap.size (fun b => b = wA.heap.size) (k + 1) h s tb g w2) := hid ⟨H, G, flushT T af true, TriA.more p2 (by omega) (by omega) (by omega), AL0.out, FH0.out, FG0.out, flushT_ok OK0.out af true⟩
                        clear p2 k2 b2 HC1
                        obtain ⟨H9, G9, T9, p9, al9, fh9, fg9, ok9⟩ := STL.out
                        obtain ⟨S1, PL1⟩ := p9.one
                        obtain ⟨S2, PL2⟩ := p9.two
                        have HD1 := hid (hdump_calls w2 PL1 (by omega) fh9)
                        have HD2 := hid (fun (wx : World) (b : Below w2.heap.size w2 wx) => hdump_calls wx (PL2.on b) (by omega) fg9)
                        rw [← al9.dump] at HD2
                        clear p9 al9 fh9 fg9 ok9 PL1 PL2
                        generalize (⟨(dumpT H9).toArray⟩ : ByteArray) = dt at *
                        go_wp2_with fail
                        refine HD1.out.mono ?_
                        rintro e8 w8 ⟨rfl, b8⟩
                        go_wp2_with fail
                        refine (HD2.out w8 b8).mono ?_
                        rintro e9 w9 ⟨rfl, b9⟩
                        have b9' := below_on b8 b9
                        have B9 := hid (below_in BL.out (Nat.le_refl _) b9')
                        have T9 : Hid (StaH w.heap.size (fun _ => False) (k + 1) h s tb g w9) := hid ((STL.out.on b9').law (fun _ _ e => e.elim))
                        clear b8 b9 b9' HD1 HD2
                        go_wp2_with fail
                        exact ⟨⟨k + 1, by omega, by omega, by simp, T9, B9⟩, by simp [intOf]; omega⟩
                      · skip
                        obtain ⟨l0, n0, n1, n2, n3, n4, n5, n6, n7, n8⟩ := K1.out
                        dsimp only at n1 n2 n3 n4 n5 n6 n7 n8
                        have BL := B1
                        have STL : Hid (StaH w.heap.size (fun b => b = wA.heap.size) (k + 1) h s tb g w1) := hid ⟨H, G, T, TriA.more P1.out (by omega) (by omega) (by omega), AL0.out, FH0.out, FG0.out, OK0.out⟩
                        obtain ⟨H9, G9, T9, p9, al9, fh9, fg9, ok9⟩ := STL.out
                        obtain ⟨S1, PL1⟩ := p9.one
                        obtain ⟨S2, PL2⟩ := p9.two
                        have HD1 := hid (hdump_calls w1 PL1 (by omega) fh9)
                        have HD2 := hid (fun (wx : World) (b : Below w1.heap.size w1 wx) => hdump_calls wx (PL2.on b) (by omega) fg9)
                        rw [← al9.dump] at HD2
                        clear p9 al9 fh9 fg9 ok9 PL1 PL2
                        generalize (⟨(dumpT H9).toArray⟩ : ByteArray) = dt at *
                        go_wp2_with fail
                        refine HD1.out.mono ?_
                        rintro e8 w8 ⟨rfl, b8⟩
                        go_wp2_with fail
                        refine (HD2.out w8 b8).mono ?_
                        rintro e9 w9 ⟨rfl, b9⟩
                        have b9' := below_on b8 b9
                        have B9 := hid (below_in BL.out (Nat.le_refl _) b9')
                        have T9 : Hid (StaH w.heap.size (fun _ => False) (k + 1) h s tb g w9) := hid ((STL.out.on b9').law (fun _ _ e => e.elim))
                        clear b8 b9 b9' HD1 HD2
                        go_wp2_with fail
                        exact ⟨⟨k + 1, by omega, by omega, by simp, T9, B9⟩, by simp [intOf]; omega⟩
    · rcases (show k = xs.length ∨ (k < xs.length ∧ k = 70) by omega) with rfl | ⟨hkl, rfl⟩
      all_goals
        clear hgo
        go_wp2_with fail
        refine (swork_calls _).mono ?_
        rintro e2 w2 ⟨rfl, b2⟩
        have B2 := hid (below_in hB.out (Nat.le_refl _) b2)
        clear b2
        go_wp2_with fail
        go_ret
        exact ⟨rfl, B2.out⟩

theorem walk (a0 : Int) (a1 : Int) (a2 : Value) (l2 : List (List Value)) (w : World) (w0 : (Lit.int .u8 a0).wf = true) (w1 : (Lit.int .u8 a1).wf = true) (w2 : Hid (RowsArg 9 a2 l2 w)) (n2 : Hid (∀ r ∈ l2, r.length = 9 ∧ FitsF [.i, .i, .i, .i, .i, .s, .i, .i, .s] r)) :
    Calls Tryz.prog 4 #[.int .u8 a0, .int .u8 a1, a2] w fun e w' => e = .returned (.bool true) ∧ Below w.heap.size w w' := by
  obtain ⟨xs, rfl, hok⟩ := sacts_of n2.out
  obtain ⟨ao, cap, rfl⟩ := sacts_shape w2.out
  exact walk_hides ao cap xs a0 a1 w w2 (hid hok) (bounds_u8 w0) (bounds_u8 w1)

set_option maxRecDepth 100000 in
theorem lifted (os : Os) (started : os.Started) (H : Type) (enc : TypeId × Value → H) :
    ReturnsInHanded {} Tryz.checked os 4 .any (Rows.siteHidesSpec.pre6 enc Tryz.prog Tryz.f4 Rows.siteHidesRow.domain false) (Rows.siteHidesSpec.post enc Tryz.prog Tryz.f4 false true false false) := by
  refine returnsInHanded_of_change (C := Tryz.checked) own started (by kernel_rfl) Tryz.func4
    (ChangeSpec.witness6 (enc := enc) (C := Tryz.checked) false ⟨#[], #[.int .u8 0, .int .u8 0, .slice none 0 0], []⟩ 8 (by kernel_rfl) (by kernel_rfl) (by kernel_rfl) (by kernel_rfl)) ?_
  intro W base args ds gs before hval0 hW hcnd _
  have hval : ∀ (j : Nat) t v, Tryz.f4.params[j]? = some t → args[j]? = some v → Value.okWide Tryz.prog W .any base t v := hval0
  have hW' := hW
  obtain ⟨p, q, hA0, hV, rfl, hfz, hnd⟩ := hW
  have hA : DataW.TrodAll enc Tryz.prog W 0 (fun _ => true) true Tryz.f4.params.toList args.toList ds p := hA0
  rw [Tryz.params4] at hA hval
  obtain ⟨v0, vs0, d0, ds0, p0, q0, hargs, rfl, rfl, h0, r0⟩ := trodAll_cons hA
  obtain ⟨v1, vs1, d1, ds1, p1, q1, rfl, rfl, rfl, h1, r1⟩ := trodAll_cons r0
  obtain ⟨v2, vs2, d2, ds2, p2, q2, rfl, rfl, rfl, h2, r2⟩ := trodAll_cons r1
  obtain ⟨rfl, rfl, rfl⟩ := trodAll_nil r2
  obtain rfl : args = #[v0, v1, v2] := by cases args; simp_all
  obtain ⟨rfl, rfl⟩ := trodVars_none hV
  obtain ⟨a0, rfl, rfl, rfl, w0⟩ := open_int Tryz.underlying5 (hval 0 5 v0 rfl rfl) h0
  obtain ⟨a1, rfl, rfl, rfl, w1⟩ := open_int Tryz.underlying5 (hval 1 5 v1 rfl rfl) h1
  have hk2 := h2
  have hlt2 : ∀ x ∈ p2, x.block < W.heap.size := fun x hx => by simpa using hW'.lt x (by simp [hx])
  obtain ⟨l2, w2, n2⟩ := open_flats Tryz.underlying22 (show flat Tryz.prog 5 39 = some [.i, .i, .i, .i, .i, .s, .i, .i, .s] by kernel_rfl) (show Tryz.prog.cellsOf 39 = 9 by kernel_rfl) (by decide) (hval 2 22 v2 rfl rfl) h2
  clear hA0 hval0
  refine (walk a0 a1 v2 l2 W w0 w1 w2 n2).mono fun e W' ⟨he, hg⟩ => ?_
  subst he
  exact ⟨_, rfl, _, _, _, [], _, [], hW', trodAll_mk1 (shut_bool Tryz.underlying4 _), (trodAll_cons_mk (shut_int Tryz.underlying5 w0) (trodAll_cons_mk (shut_int Tryz.underlying5 w1) (trodAll_cons_mk (Below.trod laidOutF (by kernel_rfl) (of_decide_eq_true (by kernel_rfl)) hk2 hg hlt2) trodAll_mk0))), rfl, hg.frame _, fun h => by cases h⟩

theorem over : Rows.siteHidesRow.holds Tryz.pinned (OpenSpec.ofChange Rows.siteHidesSpec) :=
  OpenClaim.holds_of_wide 4 Tryz.f4 rfl rfl rfl rfl rfl rfl rfl ⟨rfl, rfl, rfl, rfl, rfl⟩ rfl rfl rfl rfl rfl (by kernel_rfl) Tryz.func4 (by kernel_rfl)
    (of_decide_eq_true (by kernel_rfl)) (by unfold Func.isWrapper; first | (rw [if_pos (by decide +kernel)]; kernel_rfl) | (rw [if_neg (by decide +kernel)]; exact ⟨rfl, rfl⟩))
    (fun os started H enc _ => lifted os started H enc)

end Go.Proofs.YtimhgbcanmgajaaGreat.siteHides
namespace Go.Proofs.YtimhgbcanmgajaaGreat

/-- the statement, as it was given -/
theorem siteHides_holds : Rows.SiteHidesSaid :=
  siteHides.over
#print axioms siteHides_holds
end Go.Proofs.YtimhgbcanmgajaaGreat
