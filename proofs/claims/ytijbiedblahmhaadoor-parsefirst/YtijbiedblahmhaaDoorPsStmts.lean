/- Statements. -/
import Derived.Test.YtijbiedblahmhaaDoorPsApp
import Derived.Test.YtijbiedblahmhaaDoorJoint6
import Derived.Test.YtijbiedblahmhaaDoorPsLet
namespace Go.Proofs.YtijbiedblahmhaaDoor
open Go.RowKit

theorem krow_own {lo : Nat} {ok : Nat → Prop} {w : World} {v : Value} {ks : List Nd} (h : KRow lo ok w v ks) : ∀ g, v.ownBlock = some g → ok g ∧ lo ≤ g ∧ g < w.heap.size := by
  obtain ⟨cs, hown, hr, hg⟩ := h
  intro g hv
  exact ⟨hg g hv, (hown.lt g hv).1, (hown.lt g hv).2⟩
theorem stmts_stop {g : Nat} {ks : List Nd} {m : List Tok} (h : ¬ (ks.length < 40 ∧ isH m [125] = false ∧ (cur m).kind ≠ 6)) : pStmts (g + 1) ks m = .ok [] ks m := by rw [pStmts, if_neg h]
theorem stmts_more {g : Nat} {ks : List Nd} {m : List Tok} (h : ks.length < 40 ∧ isH m [125] = false ∧ (cur m).kind ≠ 6) : pStmts (g + 1) ks m = (pStmt g m).bindL fun e _ l => pStmts g (ks ++ [e]) l := by rw [pStmts, if_pos h]
theorem stmt_less {f : Nat} {l : List Tok} {P : Nat} {L : List Tok} {w : World} (H : PSt P L w l) {x : Nd} {b : Bool} {l' : List Tok} (h : pStmt f l = .ok x b l') : l'.length + 1 ≤ l.length := by
  have := (may f).stmt l (pst_gt H)
  rw [h] at this
  obtain ⟨_, pre, u, e, _⟩ := this
  rw [e]; simp

set_option maxRecDepth 100000 in
set_option maxHeartbeats 12800000 in
theorem stmts_calls (f : Nat) (hC : ∀ g, g ≤ f → StmtC g) : StmtsC f := by
  intro P L l w hf H
  have hP := H.out.lt
  have R0 := hid (show KRow w.heap.size (fun b => w.heap.size ≤ b) w (.slice none 0 0) [] from ⟨[], ⟨rfl, .inl ⟨rfl, rfl⟩⟩, rfl, fun g h => by cases h⟩)
  have B0 := hid (But.of (P := P) (Below.refl w.heap.size w))
  go_enter Tryd.func14, Tryd.ntmps14
  go_wp2_with fail
  go_loopw [3] (fun v wr => ∃ (g : Nat) (ks : List Nd) (m : List Tok), Hid (pStmts f [] l = pStmts g ks m) ∧ 20 * m.length + 14 ≤ g ∧ g ≤ f ∧ ks.length ≤ 40 ∧ Hid (KRow w.heap.size (fun b => w.heap.size ≤ b) wr v ks) ∧ Hid (PSt P L wr m) ∧ Hid (But P w wr)) (fun _ wr => leftAt P L wr)
  case atStart => exact ⟨f, [], l, (show Hid (_ = _) from rfl), hf, Nat.le_refl _, by simp, R0.out, H.out, B0.out⟩
  case round =>
    obtain ⟨g, ks, m, hE, hgm, hgf, hk40, hK, hS, hB⟩ := hrel
    obtain ⟨ao, cap, rfl⟩ := krow_shape hK.out
    clear R0 B0 H
    obtain ⟨g, rfl⟩ : ∃ g', g = g' + 1 := ⟨g - 1, by omega⟩
    have hsz := hB.out.size
    have LW := hid (left_is hS.out)
    by_cases hk : ks.length < 40
    · cases hh : isH m [125] with
      | true =>
        have HE := hid (hE.out.trans (stmts_stop (by rw [hh]; simp)))
        have HH := hid (show isH m (⟨#[125]⟩ : ByteArray).data.toList = true from hh)
        clear hE hh hC
        go_wp2_with fail
        refine (is_calls P L m ⟨#[125]⟩ _ hS).mono ?_
        rintro e w1 ⟨he1, b1⟩
        rw [HH.out] at he1
        subst he1
        have S1 := hid (hS.out.on b1)
        have B1 := hid (hB.out.trans (But.of b1))
        have K1 := hid (krow_below hK.out b1)
        have L1 := hid (show leftAt P L w1 = m.length from left_is S1.out)
        clear b1 hS hB hK HH
        go_wp2_with fail
        go_ret
        rw [HE.out]
        exact ⟨⟨_, rfl, krow_kids K1.out⟩, S1.out, B1.out⟩
      | false =>
        have HH := hid (show isH m (⟨#[125]⟩ : ByteArray).data.toList = false from hh)
        by_cases h6 : (cur m).kind = 6
        · have HE := hid (hE.out.trans (stmts_stop (by rw [h6]; simp)))
          have h6b : ((cur m).kind != 6) = false := by simp [h6]
          clear hE hh hC h6
          go_wp2_with fail
          refine (is_calls P L m ⟨#[125]⟩ _ hS).mono ?_
          rintro e w1 ⟨he1, b1⟩
          rw [HH.out] at he1
          subst he1
          have S1 := hid (hS.out.on b1)
          have B1 := hid (hB.out.trans (But.of b1))
          have K1 := hid (krow_below hK.out b1)
          have L1 := hid (show leftAt P L w1 = m.length from left_is S1.out)
          clear b1 hS hB hK HH
          go_wp2_with fail
          refine (here_calls P L m _ S1).mono ?_
          rintro e w2 ⟨rfl, b2⟩
          have S2 := hid (S1.out.on b2)
          have B2 := hid (B1.out.trans (But.of b2))
          have K2 := hid (krow_below K1.out b2)
          have hfd := fun (w : World) => field_kind (cur m) w
          clear b2 S1 B1 K1
          unfold Tok.val
          go_wp2_with fail
          clear hfd
          go_ret
          rw [HE.out]
          exact ⟨⟨_, rfl, krow_kids K2.out⟩, S2.out, B2.out⟩
        · have HE := hid (hE.out.trans (stmts_more ⟨hk, hh, h6⟩))
          have h6b : ((cur m).kind != 6) = true := by simp [h6]
          have HC := hid (fun w' S => hC g (by omega) P L m w' (by omega) S)
          have HL := hid (fun (w' : World) (S : PSt P L w' m) (x : Nd) (b : Bool) (l' : List Tok) (h : pStmt g m = .ok x b l') => stmt_less S h)
          clear hE hh hC h6
          cases hq : pStmt g m with
          | bad l' =>
            rw [hq] at HC HE
            clear HL
            go_wp2_with fail
            refine (is_calls P L m ⟨#[125]⟩ _ hS).mono ?_
            rintro e w1 ⟨he1, b1⟩
            rw [HH.out] at he1
            subst he1
            have S1 := hid (hS.out.on b1)
            have B1 := hid (hB.out.trans (But.of b1))
            have K1 := hid (krow_below hK.out b1)
            have L1 := hid (show leftAt P L w1 = m.length from left_is S1.out)
            clear b1 hS hB hK HH
            go_wp2_with fail
            refine (here_calls P L m _ S1).mono ?_
            rintro e w2 ⟨rfl, b2⟩
            have S2 := hid (S1.out.on b2)
            have B2 := hid (B1.out.trans (But.of b2))
            have K2 := hid (krow_below K1.out b2)
            have hfd := fun (w : World) => field_kind (cur m) w
            clear b2 S1 B1 K1
            unfold Tok.val
            go_wp2_with fail
            clear hfd
            refine (HC.out _ S2).mono ?_
            rintro e w3 ⟨rfl, s3, b3⟩
            have S3 := hid s3
            have B3 := hid (B2.out.trans b3)
            clear s3 b3 S2 B2 K2 HC
            unfold gaveUp
            go_wp2_with fail
            refine ⟨rfl, ?_⟩
            rw [HE.out]
            exact ⟨rfl, S3.out, B3.out⟩
          | ok x b l' =>
            have hl := HL.out _ hS.out x b l' hq
            rw [hq] at HC HE
            clear HL
            go_wp2_with fail
            refine (is_calls P L m ⟨#[125]⟩ _ hS).mono ?_
            rintro e w1 ⟨he1, b1⟩
            rw [HH.out] at he1
            subst he1
            have S1 := hid (hS.out.on b1)
            have B1 := hid (hB.out.trans (But.of b1))
            have K1 := hid (krow_below hK.out b1)
            have L1 := hid (show leftAt P L w1 = m.length from left_is S1.out)
            clear b1 hS hB hK HH
            go_wp2_with fail
            refine (here_calls P L m _ S1).mono ?_
            rintro e w2 ⟨rfl, b2⟩
            have S2 := hid (S1.out.on b2)
            have B2 := hid (B1.out.trans (But.of b2))
            have K2 := hid (krow_below K1.out b2)
            have hfd := fun (w : World) => field_kind (cur m) w
            clear b2 S1 B1 K1
            unfold Tok.val
            go_wp2_with fail
            clear hfd
            refine (HC.out _ S2).mono ?_
            rintro e w3 ⟨⟨nv, kv, rfl, n3⟩, s3, b3⟩
            obtain ⟨b1, p1, b2, p2, rfl, rfl⟩ := ndR_shape n3
            have S3 := hid s3
            have B3 := hid (B2.out.trans b3)
            have K3 := hid (krow_but K2.out b3 (by omega))
            have hz3 := b3.size
            have hz2 := B2.out.size
            have HO := hid (krow_own K2.out)
            have Y3 := hid (show NdW (Els (fun b => w.heap.size ≤ b) (.slice ao ks.length cap) w3) w3 x (.slice b1 x.names.length p1) (.slice b2 x.kids.length p2) from ndW_keep (fun k hk => ⟨⟨by have := hk.1; omega, hk.2, fun e => by have := HO.out k e.symm; have := hk.1; omega⟩, rfl⟩) _ _ _ n3)
            clear s3 b3 n3 S2 B2 K2 HC
            have AL := (Below.refl _ w3).alloc (Nat.le_refl _) (.cells (ndc x (.slice b1 x.names.length p1) (.slice b2 x.kids.length p2)) 26)
            have S3' := hid (S3.out.on AL)
            have B3' := hid (B3.out.trans (But.of AL))
            have HO3 := hid (krow_own K3.out)
            clear AL S3 B3
            unfold ndv
            unfold ndc at S3' B3'
            go_wp2_with (at_builtin; refine wp_napp rfl _ _ rfl w.heap.size (fun b => w.heap.size ≤ b) ks x b1 b2 p1 p2 _ rfl _ (by rfl) K3.out Y3.out _ (by rfl) (by simp) (by omega) (by omega) (fun k hk => by omega) ?_)
            intro v4 w4 k4 gr4
            have hPz : P + 1 ≤ w3.heap.size + 1 := by omega
            have S4 := hid (pst_low S3'.out (grown_low gr4 (by simp; omega) (fun k hk => by have := (HO3.out k hk).2.1; omega)))
            have B4 := hid (show But P w w4 from ⟨gr4.os.trans B3'.out.os, gr4.tape.trans B3'.out.tape, gr4.output.trans B3'.out.output, Nat.le_trans B3'.out.size gr4.size, fun k h1 h2 => (gr4.block k (by have := B3'.out.size; omega) (fun e => by have := (HO3.out k e.symm).2.1; omega)).trans (B3'.out.block k h1 h2)⟩)
            have K4 := hid k4
            have HLE := hid (show leftAt P L w4 < leftAt P L wr by rw [left_is S4.out, LW.out]; omega)
            have HE4 := hid (HE.out.trans (PR.bindL_ok x b l' _))
            clear k4 gr4 S3' B3' K3 Y3 HO3 HO HE LW L1
            go_wp2_with fail
            go_roundw
            case rel => exact ⟨g, ks ++ [x], l', HE4.out, by omega, by omega, by simp; omega, K4.out, S4.out, B4.out⟩
            case measure => exact HLE.out
    · have HE := hid (hE.out.trans (stmts_stop (fun h => hk h.1)))
      clear hE hC
      go_wp2_with fail
      go_ret
      rw [HE.out]
      exact ⟨⟨_, rfl, krow_kids hK.out⟩, hS.out, hB.out⟩

end Go.Proofs.YtijbiedblahmhaaDoor
