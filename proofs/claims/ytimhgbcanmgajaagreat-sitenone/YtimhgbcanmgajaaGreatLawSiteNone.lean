/- Sites that are not there, and such as no call made, play no part: whatever is got and set at them is told as the heap alone tells it, and they keep and count nothing (the first 30 acts; a text of more than 300 bytes asks for the law's own test alone): SiteNone is true for every input; no condition. -/
import Derived.Test.YtimhgbcanmgajaaGreatJoint19
import Derived.Test.YtimhgbcanmgajaaGreatJoint21
import Derived.Test.YtimhgbcanmgajaaGreatJoint2
import Derived.Test.YtimhgbcanmgajaaGreatRows
import Derived.WalkKit
import Derived.ProofKit
import Derived.OpenShut
import Derived.ShutString
import Derived.ChangeOld
import Derived.Below
namespace Go.Proofs.YtimhgbcanmgajaaGreat.siteNone
open Go.ChangeShapes Go.WideShapes Go.ChangeAt Go.RowKit
open Go.ChangeMaps (open_string shut_string)
set_option linter.unusedVariables false
set_option maxRecDepth 100000

theorem own : ownKnob Tryz.prog.godebug = none := by kernel_rfl

set_option linter.unusedSimpArgs false
set_option maxRecDepth 100000
set_option maxHeartbeats 16000000 in
theorem walk_none (ao : Option Addr) (cap : Nat) (xs : List AcS) (af ak : Int) (w : World) (HR : Hid (RowsArg 9 (.slice ao xs.length cap) (xs.map acSC) w)) (HX : Hid (∀ x ∈ xs, acSI x)) :
    Calls Tryz.prog 6 #[.slice ao xs.length cap, .int .i64 af, .int .i64 ak] w fun e w' => e = .returned (.bool true) ∧ Below w.heap.size w w' := by
  go_enter Tryz.func6, Tryz.ntmps6
  go_wp2_with fail
  have D1 := (Below.refl w.heap.size w).alloc (Nat.le_refl _) (.cells #[.pointer none] 69)
  have D2 := D1.alloc (by simp) (.cells #[.pointer none, .pointer (some ⟨w.heap.size, 0, none⟩)] 29)
  have d1 := blk_on (blk_new w 69 #[.pointer none]) ((Below.refl (w.alloc (.cells #[.pointer none] 69)).heap.size (w.alloc (.cells #[.pointer none] 69))).alloc (Nat.le_refl _) (.cells #[.pointer none, .pointer (some ⟨w.heap.size, 0, none⟩)] 29))
  have d2 := blk_new (w.alloc (.cells #[.pointer none] 69)) 29 #[.pointer none, .pointer (some ⟨w.heap.size, 0, none⟩)]
  rw [World.size_alloc] at d2
  generalize hW : (w.alloc (.cells #[.pointer none] 69)).alloc (.cells #[.pointer none, .pointer (some ⟨w.heap.size, 0, none⟩)] 29) = wB at *
  have X1 := hid d1
  have X2 := hid d2
  have X4 := hid D2
  clear D1 D2 d1 d2 hW
  go_loopw [9] (fun j wr => ∃ k : Nat, k ≤ 2 ∧ j = .int .i64 k ∧ Hid (Below wB.heap.size wB wr)) (fun j _ => 2 - (intOf j).toNat)
  case atStart => exact ⟨0, by omega, rfl, hid (Below.refl _ _)⟩
  case round =>
    rename World => wr
    obtain ⟨j, hj, rfl, hB⟩ := hrel
    rcases (show j = 2 ∨ (j = 0 ∨ j = 1) by omega) with rfl | hk01
    · have Y4 := hid (below_on X4.out hB.out)
      clear hB
      go_wp2_with fail
      refine (swork_calls _).mono ?_
      rintro e2 w3 ⟨rfl, b2⟩
      have B3 := hid (below_on Y4.out b2)
      clear b2 Y4
      go_wp2_with fail
      go_ret
      exact ⟨rfl, B3.out⟩
    · have y2 := blk_on X2.out hB.out
      obtain ⟨pt, hv, hno⟩ : ∃ pt, wr.cell? ⟨w.heap.size + 1, j, none⟩ = some (.pointer pt) ∧ NoT pt wB := by
        rcases hk01 with rfl | rfl
        · exact ⟨none, by rw [blk_cell y2]; rfl, .inl rfl⟩
        · exact ⟨_, by rw [blk_cell y2]; rfl, .inr ⟨_, rfl, X1.out⟩⟩
      have hk2 : j < 2 := by omega
      have N0 := hid (fun (wx : World) (b : Below wB.heap.size wB wx) => hno.on b)
      have lA : w.heap.size + 1 < wr.heap.size := blk_lt y2
      clear hno y2 hk01
      have HN1 := hid (fun (wx : World) => hnew_calls wx 9 0 9 0 30)
      unfold limV at HN1
      go_wp2_with fail
      refine (HN1.out _).mono ?_
      rintro e0 w0 ⟨h, rfl, p0, b0⟩
      have P0 := hid p0
      have B0 := hid (show Below wB.heap.size wB w0 from below_in hB.out (Nat.le_refl _) b0)
      have hr0 := b0.size
      clear p0 b0 hv
      go_wp2_with fail
      refine (HN1.out _).mono ?_
      rintro e1 w1 ⟨g, rfl, p1, b1⟩
      have hr1 := b1.size
      have Q1 : HpS (fun b => wB.heap.size ≤ b ∧ b < w0.heap.size) 40 h (newH 9 9 30) w0 := P0.out.mono (fun b hb h => ⟨Nat.le_trans hB.out.size h, hb⟩)
      have Q2 : HpS (fun b => w0.heap.size ≤ b ∧ b < w1.heap.size) 40 g (newH 9 9 30) w1 := p1.mono (fun b hb h => ⟨h, hb⟩)
      have Q3 : Hid (PairH wB.heap.size (fun _ => False) 40 h g (newH 9 9 30) (newH 9 9 30) w1) := hid (by
        refine ⟨_, _, Q1.on b1, Q2, fun b h1 h2 => by omega, fun b hb => ?_⟩
        rcases hb with hb | hb
        · exact ⟨hb.1, fun e => e, by omega⟩
        · exact ⟨by have := B0.out.size; omega, fun e => e, hb.2⟩)
      have B1 := hid (below_in B0.out (Nat.le_refl _) b1)
      clear Q1 Q2 p1 b1 P0 HN1 hr0 hr1
      have HM1 := hid (pair_call Q3.out (J := 40) (Nat.le_refl _) B1.out.size (fun b e => e.elim) (fun S p => hmake_calls w1 p))
      go_wp2_with fail
      refine HM1.out.mono ?_
      rintro e2 w2 ⟨rfl, p2, k2⟩
      have B2 := hid (B1.out.trans (k2.below B1.out.size (fun b h => h.1)))
      have HM2 := hid (pair_call p2.swap (J := 40) (Nat.le_refl _) B2.out.size (fun b e => e.elim) (fun S p => hmake_calls w2 p))
      clear p2 k2 HM1 Q3 B1
      go_wp2_with fail
      refine HM2.out.mono ?_
      rintro e3 w3 ⟨rfl, p3, k3⟩
      have B3 := hid (B2.out.trans (k3.below B2.out.size (fun b h => h.1)))
      have I3 : Hid (∃ H, PairH wB.heap.size (fun _ => False) (40 + 2 * 0) h g H H w3 ∧ HFit H) := hid ⟨makeH (newH 9 9 30), p3.swap, hfit_make (hfit_new _ _ _)⟩
      clear p3 k3 HM2 B2 B0
      go_wp2_with fail
      go_loopw [13] (fun i wz => ∃ k : Nat, k ≤ xs.length ∧ k ≤ 30 ∧ i = .int .i64 k ∧ Hid (∃ H, PairH wB.heap.size (fun _ => False) (40 + 2 * k) h g H H wz ∧ HFit H) ∧ Hid (Below wB.heap.size wB wz)) (fun i _ => 30 - (intOf i).toNat)
      case atStart => exact ⟨0, by omega, by omega, rfl, I3, B3⟩
      case round =>
        clear I3 B3
        obtain ⟨k, hk, hk4, rfl, hF, hBz⟩ := hrel
        rename World => wz
        have HN0 := hid (N0.out wz hBz.out)
        by_cases hgo : k < xs.length ∧ k < 30
        · obtain ⟨hkl, hk30⟩ := hgo
          obtain ⟨a, ha⟩ : ∃ a, xs[k]? = some a := ⟨xs[k], List.getElem?_eq_getElem hkl⟩
          obtain ⟨bb, off, rfl, hbb, c0, c1, c2, c3, c4, c5, c6, c7, c8⟩ := sact_at (rowsArg_on HR.out (below_on X4.out hBz.out)) ha
          have hai := HX.out _ (List.mem_of_getElem? ha)
          have HL := hid (slong_calls a hai.1 hai.2.1 wz)
          have HAI := hid hai
          have HAt := hid ha
          have d1 : decide ((k : Int) < 30) = true := decide_eq_true (by omega)
          clear ha hai
          cases hll : longS a with
          | true =>
            rw [hll] at HL
            go_wp2_with fail
            refine HL.out.mono ?_
            rintro e1 w1 ⟨rfl, b1⟩
            have B1 := hid (below_in hBz.out (Nat.le_refl _) b1)
            clear b1
            go_wp2_with fail
            refine (swork_calls _).mono ?_
            rintro e2 w2 ⟨rfl, b2⟩
            have B2 := hid (below_on X4.out (below_in B1.out (Nat.le_refl _) b2))
            clear b2
            go_wp2_with fail
            go_ret
            exact ⟨rfl, B2.out⟩
          | false =>
            rw [hll] at HL
            have hsz := not_longS hll
            have HV : Hid (VFit a.v) := hid ⟨HAI.out.2.2, by have := hsz.2; omega⟩
            have hn : a.n.size ≤ 1000000 := by omega
            clear hll
            go_wp2_with fail
            refine HL.out.mono ?_
            rintro e1 w1 ⟨rfl, b1⟩
            obtain ⟨H, p, fh⟩ := hF.out
            have P1 := hid (p.on b1)
            have FH := hid fh
            have B1 := hid (below_in hBz.out (Nat.le_refl _) b1)
            have c0 := hcell_on c0 hbb b1
            have c1 := hcell_on c1 hbb b1
            have c2 := hcell_on c2 hbb b1
            have c3 := hcell_on c3 hbb b1
            have c4 := hcell_on c4 hbb b1
            have c5 := hcell_on c5 hbb b1
            have c6 := hcell_on c6 hbb b1
            have c7 := hcell_on c7 hbb b1
            have c8 := hcell_on c8 hbb b1
            have hbb1 : bb < w1.heap.size := Nat.lt_of_lt_of_le hbb b1.size
            have HFl := hid (nflush_calls w1 (N0.out w1 B1.out) a.f)
            have HMg := hid (nmega_calls w1 (N0.out w1 B1.out) a.f)
            clear b1 p fh HL hF hBz HN0 hbb
            go_wp2_with fail
            refine HFl.out.mono ?_
            rintro e2 w2 ⟨rfl, rfl⟩
            go_wp2_with fail
            refine HMg.out.mono ?_
            rintro e3 w3 ⟨rfl, rfl⟩
            clear HFl HMg
            have wD := (Below.refl w3.heap.size w3).drew
            have P2 := hid (P1.out.on wD)
            have B2 := hid (below_in B1.out (Nat.le_refl _) wD)
            have HC1 := hid (pair_call P2.out (J := 40 + 2 * k + 1) (by omega) (by show wB.heap.size ≤ w3.heap.size; exact B1.out.size) (fun b e => e.elim) (fun S p => nset_calls _ p (N0.out _ B2.out) (by omega) (by omega) a.f a.s 1 a.n hn a.v))
            unfold vlV at HC1
            clear P1 wD
            go_wp2_with fail
            refine wp_region_held_drew (S := fun aZ => aZ.cell? ⟨bb, off + k * 9 + 1, none⟩ = some (.int .i64 a.f) ∧ aZ.cell? ⟨bb, off + k * 9 + 2, none⟩ = some (.int .i64 a.s) ∧ aZ.cell? ⟨bb, off + k * 9 + 5, none⟩ = some (.string a.n) ∧ aZ.cell? ⟨bb, off + k * 9 + 6, none⟩ = some (.int .i64 a.v.1) ∧ aZ.cell? ⟨bb, off + k * 9 + 7, none⟩ = some (.int .i64 a.v.2.1) ∧ aZ.cell? ⟨bb, off + k * 9 + 8, none⟩ = some (.string a.v.2.2)) (by kernel_rfl) ?_ (fun hHeld => ?_)
            · (refine ⟨?_, ?_, ?_, ?_, ?_, ?_⟩ <;> go_simp)
            refine tkk 0 ?_
            refine tkk 1 ?_
            refine tkk 2 ?_
            refine tkk 3 ?_
            refine tkk 4 ?_
            refine tkk 5 ?_
            refine tkk 6 ?_
            refine tkk 7 ?_
            refine tkk 8 ?_
            refine tkk 9 ?_
            refine tkk 10 ?_
            refine tkk 11 ?_
            refine tkk 12 ?_
            refine tkk 13 ?_
            refine tkk 14 ?_
            refine tkk 15 ?_
            refine tkk 16 ?_
            refine tkk 17 ?_
            refine tkk 18 ?_
            refine tkk 19 ?_
            refine tkk 20 ?_
            refine tkk 21 ?_
            refine tkk 23 ?_
            refine tkk 24 ?_
            refine tkk 25 ?_
            refine tkk 26 ?_
            refine tkk 27 ?_
            refine tkk 28 ?_
            refine tkk 29 ?_
            refine tkk 30 ?_
            refine tkk 31 ?_
            refine tkk 32 ?_
            refine tkk 33 ?_
            refine rdy 22 (fun K hK => ?_)
            go_simp
            refine HC1.out.mono ?_
            rintro e4 w4 ⟨rfl, p4, k4⟩
            have B4 := hid (B2.out.trans (k4.below B2.out.size (fun b h => h.1)))
            have HC2 := hid (pair_call p4.swap (J := 40 + 2 * k + 2) (by omega) B4.out.size (fun b e => e.elim) (fun S p => hset_calls w4 p (by omega) (by omega) 1 a.n hn a.v))
            unfold vlV at HC2
            clear p4 k4 HC1 P2
            generalize setE H 1 a.n = se at *
            obtain ⟨bb', off', eo, hbb4, g0, g1, g2, g3, g4, g5, g6, g7, g8⟩ := sact_at (rowsArg_on HR.out (below_on X4.out B4.out)) HAt.out
            injection eo with eo
            injection eo with eo1 eo2
            subst eo1 eo2
            go_simp
            refine hK.out _ _ ?_ (fun _ => ?_)
            · (refine ⟨?_, ?_, ?_, ?_, ?_, ?_⟩ <;> (first | assumption | go_simp))
            clear hK K
            refine rdy 34 (fun K hK => ?_)
            go_simp
            refine HC2.out.mono ?_
            rintro e5 w5 ⟨rfl, p5, k5⟩
            have B5 := hid (B4.out.trans (k5.below B4.out.size (fun b h => h.1)))
            have P5 := hid p5.swap
            obtain ⟨bb', off', eo, hbb5, f0, f1, f2, f3, f4, f5, f6, f7, f8⟩ := sact_at (rowsArg_on HR.out (below_on X4.out B5.out)) HAt.out
            injection eo with eo
            injection eo with eo1 eo2
            subst eo1 eo2
            obtain ⟨S1, PL1⟩ := p5.swap.one
            obtain ⟨S2, PL2⟩ := p5.one
            have HG1 := hid (nget_calls w5 PL1 (N0.out w5 B5.out) (by omega) a.f a.s 1 a.n hn)
            have HG2 := hid (fun (wx : World) (b : Below w5.heap.size w5 wx) => hget_calls wx (PL2.on b) (by omega) 1 a.n hn)
            unfold vlV at HG1 HG2
            have FH5 := hid (hfit_set (o := 1) (s := a.n) FH.out HV.out)
            clear p5 k5 HC2 PL1 PL2
            generalize setH H 1 a.n a.v = H5 at *
            generalize gotH H5 1 a.n = u at *
            go_simp
            refine hK.out _ _ ?_ (fun _ => ?_)
            · (refine ⟨?_, ?_, ?_, ?_, ?_, ?_⟩ <;> (first | assumption | go_simp))
            clear hK K
            refine tkk 35 ?_
            refine tkk 36 ?_
            refine tkk 37 ?_
            refine tkk 38 ?_
            refine tkk 39 ?_
            refine tkk 40 ?_
            refine tkk 41 ?_
            refine tkk 42 ?_
            refine tkk 43 ?_
            refine tkk 44 ?_
            refine tkk 45 ?_
            refine tkk 46 ?_
            refine tkk 47 ?_
            refine tkk 48 ?_
            refine tkk 49 ?_
            refine tkk 50 ?_
            refine tkk 51 ?_
            refine tkk 52 ?_
            refine tkk 53 ?_
            refine tkk 55 ?_
            refine tkk 56 ?_
            refine tkk 57 ?_
            refine tkk 58 ?_
            refine tkk 59 ?_
            refine tkk 60 ?_
            refine rdy 54 (fun K hK => ?_)
            go_simp
            refine HG1.out.mono ?_
            rintro e6 w6 ⟨rfl, b6⟩
            have i1 := hcell_on f1 hbb5 b6
            have i2 := hcell_on f2 hbb5 b6
            have i5 := hcell_on f5 hbb5 b6
            have i6 := hcell_on f6 hbb5 b6
            have i7 := hcell_on f7 hbb5 b6
            have i8 := hcell_on f8 hbb5 b6
            have hbb6 := Nat.lt_of_lt_of_le hbb5 b6.size
            go_simp
            refine hK.out _ _ ?_ (fun _ => ?_)
            · (refine ⟨?_, ?_, ?_, ?_, ?_, ?_⟩ <;> (first | assumption | go_simp))
            clear hK K
            refine rdy 61 (fun K hK => ?_)
            go_simp
            refine (HG2.out w6 b6).mono ?_
            rintro e7 w7 ⟨rfl, b7⟩
            have j1 := hcell_on i1 hbb6 b7
            have j2 := hcell_on i2 hbb6 b7
            have j5 := hcell_on i5 hbb6 b7
            have j6 := hcell_on i6 hbb6 b7
            have j7 := hcell_on i7 hbb6 b7
            have j8 := hcell_on i8 hbb6 b7
            have B7 := hid (below_in B5.out (Nat.le_refl _) (below_on b6 b7))
            have P7 : Hid (∃ H, PairH wB.heap.size (fun _ => False) (40 + 2 * (k + 1)) h g H H w7 ∧ HFit H) := hid ⟨H5, (P5.out.on (below_on b6 b7)).more (by omega), FH5.out⟩
            clear b6 b7 HG1 HG2 P5
            go_simp
            refine hK.out _ _ ?_ (fun _ => ?_)
            · (refine ⟨?_, ?_, ?_, ?_, ?_, ?_⟩ <;> (first | assumption | go_simp))
            clear hK K
            refine tkk 62 ?_
            refine tkk 63 ?_
            refine wpAnyH_done (by kernel_rfl) ?_ _
            go_wp2_with fail
            exact ⟨⟨k + 1, by omega, by omega, by simp, P7, B7⟩, by simp [intOf]; omega⟩
        · rcases (show k = xs.length ∨ (k < xs.length ∧ k = 30) by omega) with rfl | ⟨hkl, rfl⟩
          all_goals
            clear hgo
            have HS := hid (nstate_calls wz HN0.out af ak)
            have HNm := hid (nname_calls wz HN0.out af ak)
            have HCn := hid (ncounts_calls wz HN0.out)
            obtain ⟨H, p, fh⟩ := hF.out
            obtain ⟨S1, PL1⟩ := p.one
            obtain ⟨S2, PL2⟩ := p.swap.one
            have HD1 := hid (hdump_calls wz PL1 (by omega) fh)
            have HD2 := hid (fun (wx : World) (b : Below wz.heap.size wz wx) => hdump_calls wx (PL2.on b) (by omega) fh)
            clear p fh PL1 PL2 hF
            generalize (⟨(dumpT H).toArray⟩ : ByteArray) = dt at *
            go_wp2_with fail
            refine HS.out.mono ?_
            rintro e1 w1 ⟨rfl, rfl⟩
            go_wp2_with fail
            refine HNm.out.mono ?_
            rintro e2 w2 ⟨rfl, rfl⟩
            go_wp2_with fail
            refine HCn.out.mono ?_
            rintro e3 w3 ⟨rfl, rfl⟩
            clear HS HNm HCn
            go_wp2_with fail
            refine HD1.out.mono ?_
            rintro e8 w8 ⟨rfl, b8⟩
            go_wp2_with fail
            refine (HD2.out w8 b8).mono ?_
            rintro e9 w9 ⟨rfl, b9⟩
            have B9 := hid (below_in hBz.out (Nat.le_refl _) (below_on b8 b9))
            clear b8 b9 HD1 HD2
            go_wp2_with fail
            exact ⟨⟨j + 1, by omega, by simp, B9⟩, by simp [intOf]; omega⟩

theorem walk (a0 : Value) (l0 : List (List Value)) (a1 : Int) (a2 : Int) (w : World) (w0 : Hid (RowsArg 9 a0 l0 w)) (n0 : Hid (∀ r ∈ l0, r.length = 9 ∧ FitsF [.i, .i, .i, .i, .i, .s, .i, .i, .s] r)) (w1 : (Lit.int .i64 a1).wf = true) (w2 : (Lit.int .i64 a2).wf = true) :
    Calls Tryz.prog 6 #[a0, .int .i64 a1, .int .i64 a2] w fun e w' => e = .returned (.bool true) ∧ Below w.heap.size w w' := by
  obtain ⟨xs, rfl, hok⟩ := sacts_of n0.out
  obtain ⟨ao, cap, rfl⟩ := sacts_shape w0.out
  exact walk_none ao cap xs a1 a2 w w0 (hid hok)

set_option maxRecDepth 100000 in
theorem lifted (os : Os) (started : os.Started) (H : Type) (enc : TypeId × Value → H) :
    ReturnsInHanded {} Tryz.checked os 6 .any (Rows.siteNoneSpec.pre6 enc Tryz.prog Tryz.f6 Rows.siteNoneRow.domain false) (Rows.siteNoneSpec.post enc Tryz.prog Tryz.f6 false true false false) := by
  refine returnsInHanded_of_change (C := Tryz.checked) own started (by kernel_rfl) Tryz.func6
    (ChangeSpec.witness6 (enc := enc) (C := Tryz.checked) false ⟨#[], #[.slice none 0 0, .int .i64 0, .int .i64 0], []⟩ 8 (by kernel_rfl) (by kernel_rfl) (by kernel_rfl) (by kernel_rfl)) ?_
  intro W base args ds gs before hval0 hW hcnd _
  have hval : ∀ (j : Nat) t v, Tryz.f6.params[j]? = some t → args[j]? = some v → Value.okWide Tryz.prog W .any base t v := hval0
  have hW' := hW
  obtain ⟨p, q, hA0, hV, rfl, hfz, hnd⟩ := hW
  have hA : DataW.TrodAll enc Tryz.prog W 0 (fun _ => true) true Tryz.f6.params.toList args.toList ds p := hA0
  rw [Tryz.params6] at hA hval
  obtain ⟨v0, vs0, d0, ds0, p0, q0, hargs, rfl, rfl, h0, r0⟩ := trodAll_cons hA
  obtain ⟨v1, vs1, d1, ds1, p1, q1, rfl, rfl, rfl, h1, r1⟩ := trodAll_cons r0
  obtain ⟨v2, vs2, d2, ds2, p2, q2, rfl, rfl, rfl, h2, r2⟩ := trodAll_cons r1
  obtain ⟨rfl, rfl, rfl⟩ := trodAll_nil r2
  obtain rfl : args = #[v0, v1, v2] := by cases args; simp_all
  obtain ⟨rfl, rfl⟩ := trodVars_none hV
  have hk0 := h0
  have hlt0 : ∀ x ∈ p0, x.block < W.heap.size := fun x hx => by simpa using hW'.lt x (by simp [hx])
  obtain ⟨l0, w0, n0⟩ := open_flats Tryz.underlying22 (show flat Tryz.prog 5 39 = some [.i, .i, .i, .i, .i, .s, .i, .i, .s] by kernel_rfl) (show Tryz.prog.cellsOf 39 = 9 by kernel_rfl) (by decide) (hval 0 22 v0 rfl rfl) h0
  obtain ⟨a1, rfl, rfl, rfl, w1⟩ := open_int Tryz.underlying3 (hval 1 3 v1 rfl rfl) h1
  obtain ⟨a2, rfl, rfl, rfl, w2⟩ := open_int Tryz.underlying3 (hval 2 3 v2 rfl rfl) h2
  clear hA0 hval0
  refine (walk v0 l0 a1 a2 W w0 n0 w1 w2).mono fun e W' ⟨he, hg⟩ => ?_
  subst he
  exact ⟨_, rfl, _, _, _, [], _, [], hW', trodAll_mk1 (shut_bool Tryz.underlying4 _), (trodAll_cons_mk (Below.trod laidOutF (by kernel_rfl) (of_decide_eq_true (by kernel_rfl)) hk0 hg hlt0) (trodAll_cons_mk (shut_int Tryz.underlying3 w1) (trodAll_cons_mk (shut_int Tryz.underlying3 w2) trodAll_mk0))), rfl, hg.frame _, fun h => by cases h⟩

theorem over : Rows.siteNoneRow.holds Tryz.pinned (OpenSpec.ofChange Rows.siteNoneSpec) :=
  OpenClaim.holds_of_wide 6 Tryz.f6 rfl rfl rfl rfl rfl rfl rfl ⟨rfl, rfl, rfl, rfl, rfl⟩ rfl rfl rfl rfl rfl (by kernel_rfl) Tryz.func6 (by kernel_rfl)
    (of_decide_eq_true (by kernel_rfl)) (by unfold Func.isWrapper; first | (rw [if_pos (by decide +kernel)]; kernel_rfl) | (rw [if_neg (by decide +kernel)]; exact ⟨rfl, rfl⟩))
    (fun os started H enc _ => lifted os started H enc)

end Go.Proofs.YtimhgbcanmgajaaGreat.siteNone
namespace Go.Proofs.YtimhgbcanmgajaaGreat

/-- the statement, as it was given -/
theorem siteNone_holds : Rows.SiteNoneSaid :=
  siteNone.over
#print axioms siteNone_holds
end Go.Proofs.YtimhgbcanmgajaaGreat
