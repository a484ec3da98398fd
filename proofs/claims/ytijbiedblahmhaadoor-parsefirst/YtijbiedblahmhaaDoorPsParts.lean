/- The parts of a built-in call. -/
import Derived.Test.YtijbiedblahmhaaDoorPsStmts
import Derived.Test.YtijbiedblahmhaaDoorPsBuilt
namespace Go.Proofs.YtijbiedblahmhaaDoor
open Go.RowKit

/-- n expressions more, each behind a comma, and the bracket behind them -/
def pPartsM (f : Nat) : Nat → List Nd → List Tok → PL
  | 0, ks, l => mustL [41] l fun l => .ok [] ks l
  | n + 1, ks, l => mustL [44] l fun l => (pRank f 1 l).bindL fun e _ l => pPartsM f n (ks ++ [e]) l
def pParts (f m : Nat) (l : List Tok) : PL := mustL [40] l fun l => (pRank f 1 l).bindL fun e _ l => pPartsM f (m - 1) [e] l
theorem krow_one {lo : Nat} {ok : Nat → Prop} {w : World} {x : Nd} {nv kv : Value} (hl : lo ≤ w.heap.size) (hg : ok w.heap.size) (N : NdO ok w x nv kv) : KRow lo ok (w.alloc (.cells (ndc x nv kv) 26)) (.slice (some ⟨w.heap.size, 0, none⟩) 1 1) [x] := by
  have AL := (Below.refl _ w).alloc (Nat.le_refl _) (.cells (ndc x nv kv) 26)
  refine ⟨ndl x nv kv, ⟨rfl, .inr ⟨w.heap.size, 1, ndc x nv kv, rfl, hl, heap_alloc_new w _, Nat.le_refl _, by unfold maxLen; decide, rfl, rfl⟩⟩, ⟨nv, kv, [], by simp, ndW_keep (fun b hb => ⟨⟨hb.1, by have := hb.2; simp; omega, by have := hb.2; simp [Value.ownBlock]; omega⟩, AL.block b hb.2⟩) _ _ _ N, rfl⟩, fun g h => ?_⟩
  simp [Value.ownBlock] at h
  exact h ▸ hg
theorem rank_less {f r : Nat} {l : List Tok} {P : Nat} {L : List Tok} {w : World} (H : PSt P L w l) {x : Nd} {b : Bool} {l' : List Tok} (h : pRank f r l = .ok x b l') : l'.length + 1 ≤ l.length := by
  have := (may f).rank r l (pst_gt H)
  rw [h] at this
  obtain ⟨_, pre, u, e, _⟩ := this
  rw [e]; simp

set_option maxRecDepth 100000 in
set_option maxHeartbeats 12800000 in
theorem parts_yes (f : Nat) (hR : RankC f) (P : Nat) (L : List Tok) (t : Tok) (q : List Tok) (m : Nat) (w : World) (hm : 1 ≤ m ∧ m ≤ 2) (hf : 20 * q.length + 10 ≤ f) (H : Hid (PSt P L w (t :: q))) (ht : isT t [40] = true) :
    Calls Tryd.prog 89 #[.pointer (some ⟨P, 0, none⟩), .int .i64 m] w (ReadsS P L w ((pRank f 1 q).bindL fun e _ l => pPartsM f (m - 1) [e] l)) := by
  have HR := hid (show ∀ (q : List Tok) (w' : World), 20 * q.length + 10 ≤ f → Hid (PSt P L w' q) → Calls Tryd.prog 43 #[.pointer (some ⟨P, 0, none⟩)] w' (Reads P L w' (pRank f 1 q)) from fun q w' hq S => hR 1 P L q w' (by omega) (by omega) (by omega) S)
  have HT := hid ht
  have hP := H.out.lt
  clear ht hR
  cases hq : pRank f 1 q with
  | bad l' =>
    rw [PR.bindL_bad]
    have HC := hid (fun w' S => HR.out q w' hf S)
    rw [hq] at HC
    clear HR
    go_enter Tryd.func89, Tryd.ntmps89
    go_wp2_with fail
    refine (must_yes P L t q ⟨#[40]⟩ _ H HT.out).mono ?_
    rintro e w1 ⟨rfl, s1, b1⟩
    have S1 := hid s1
    have B1 := hid b1
    clear s1 b1 H HT
    go_wp2_with fail
    refine (HC.out _ S1).mono ?_
    rintro e w2 ⟨rfl, s2, b2⟩
    have S2 := hid s2
    have B2 := hid (B1.out.trans b2)
    clear s2 b2 S1 B1 HC
    unfold gaveUp
    go_wp2_with fail
    exact ⟨rfl, rfl, S2.out, B2.out⟩
  | ok x b l1 =>
    rw [PR.bindL_ok]
    have HC := hid (fun w' S => HR.out q w' hf S)
    rw [hq] at HC
    have HL1 := hid (fun (w' : World) (S : PSt P L w' q) => rank_less S hq)
    go_enter Tryd.func89, Tryd.ntmps89
    go_wp2_with fail
    refine (must_yes P L t q ⟨#[40]⟩ _ H HT.out).mono ?_
    rintro e w1 ⟨rfl, s1, b1⟩
    have hl1 := HL1.out w1 s1
    have S1 := hid s1
    have B1 := hid b1
    have hz1 := b1.size
    clear s1 b1 H HT HL1
    go_wp2_with fail
    refine (HC.out _ S1).mono ?_
    rintro e w2 ⟨⟨nv, kv, rfl, n2⟩, s2, b2⟩
    obtain ⟨a1, q1, a2, q2, rfl, rfl⟩ := ndR_shape n2
    have hz2 := b2.size
    have AL := (Below.refl _ w2).alloc (Nat.le_refl _) (.cells (ndc x (.slice a1 x.names.length q1) (.slice a2 x.kids.length q2)) 26)
    have S2 := hid (s2.on AL)
    have B2 := hid ((B1.out.trans b2).trans (But.of AL))
    have K2 := hid (krow_one (lo := w.heap.size) (ok := (fun b => w.heap.size ≤ b)) (by omega) (by show w.heap.size ≤ w2.heap.size; omega) (ndO_of n2 (fun b h1 h2 => by show w.heap.size ≤ b; omega)))
    clear s2 b2 n2 AL S1 B1 HC
    unfold ndv
    unfold ndc at *
    go_wp2_with fail
    go_loopw [5] (fun v wr => ∃ (n : Nat) (ks : List Nd) (l' : List Tok), Hid (pPartsM f (m - 1) [x] l1 = pPartsM f n ks l') ∧ ks.length + n = m ∧ 20 * l'.length + 10 ≤ f ∧ Hid (KRow w.heap.size (fun b => w.heap.size ≤ b) wr v ks) ∧ Hid (PSt P L wr l') ∧ Hid (But P w wr)) (fun _ wr => leftAt P L wr)
    case atStart => exact ⟨m - 1, [x], l1, (show Hid (_ = _) from rfl), by simp; omega, by omega, K2.out, S2.out, B2.out⟩
    case round =>
      obtain ⟨n, ks, l', hE, hn, hf', hK, hS, hB⟩ := hrel
      obtain ⟨ao, cap, rfl⟩ := krow_shape hK.out
      clear K2 S2 B2
      have hsz := hB.out.size
      have LW := hid (left_is hS.out)
      cases n with
      | zero =>
        have hnl : ¬ (ks.length < m) := by omega
        have hkm : ks.length ≤ 2 := by omega
        clear HR LW
        by_cases hh : isH l' [41] = true
        · obtain ⟨u, z, rfl, hu⟩ := isH_some hh
          have HE := hid (hE.out.trans (show pPartsM f 0 ks (u :: z) = .ok [] ks z by rw [pPartsM]; unfold Go.Proofs.YtijbiedblahmhaaDoor.mustL; rw [if_pos hh]; rfl))
          have HU := hid hu
          clear hE hh hu
          go_wp2_with fail
          refine (must_yes P L u z ⟨#[41]⟩ _ hS HU.out).mono ?_
          rintro e w3 ⟨rfl, s3, b3⟩
          have S3 := hid s3
          have B3 := hid (hB.out.trans b3)
          have K3 := hid (krow_but hK.out b3 (by omega))
          clear s3 b3 hS hB hK HU
          go_wp2_with fail
          go_ret
          rw [HE.out]
          exact ⟨⟨_, rfl, krow_kids K3.out⟩, S3.out, B3.out⟩
        · have HE := hid (hE.out.trans (show pPartsM f 0 ks l' = .bad l' by rw [pPartsM]; unfold Go.Proofs.YtijbiedblahmhaaDoor.mustL; rw [if_neg hh]))
          have HN := hid (show isH l' (⟨#[41]⟩ : ByteArray).data.toList = false by simpa using hh)
          clear hE hh
          go_wp2_with fail
          refine (must_no P L l' ⟨#[41]⟩ _ hS HN.out).mono ?_
          rintro e w3 ⟨rfl, b3⟩
          have S3 := hid (hS.out.on b3)
          have B3 := hid (hB.out.trans (But.of b3))
          clear b3 hS hB hK HN
          unfold gaveUp
          go_wp2_with fail
          refine ⟨rfl, ?_⟩
          rw [HE.out]
          exact ⟨rfl, S3.out, B3.out⟩
      | succ n =>
        have hnl : ks.length < m := by omega
        have hkm : ks.length ≤ 2 := by omega
        by_cases hh : isH l' [44] = true
        · obtain ⟨u, z, rfl, hu⟩ := isH_some hh
          have HE := hid (hE.out.trans (show pPartsM f (n + 1) ks (u :: z) = (pRank f 1 z).bindL fun e _ l => pPartsM f n (ks ++ [e]) l by rw [pPartsM]; unfold Go.Proofs.YtijbiedblahmhaaDoor.mustL; rw [if_pos hh]; rfl))
          have HU := hid hu
          have hfz : 20 * z.length + 10 ≤ f := by simp at hf'; omega
          have HC := hid (fun w' S => HR.out z w' hfz S)
          clear hE hh hu HR
          cases hq2 : pRank f 1 z with
          | bad l3 =>
            rw [hq2] at HC HE
            clear LW
            go_wp2_with fail
            refine (must_yes P L u z ⟨#[44]⟩ _ hS HU.out).mono ?_
            rintro e w3 ⟨rfl, s3, b3⟩
            have S3 := hid s3
            have B3 := hid (hB.out.trans b3)
            clear s3 b3 hS hB hK HU
            go_wp2_with fail
            refine (HC.out _ S3).mono ?_
            rintro e w4 ⟨rfl, s4, b4⟩
            have S4 := hid s4
            have B4 := hid (B3.out.trans b4)
            clear s4 b4 S3 B3 HC
            unfold gaveUp
            go_wp2_with fail
            refine ⟨rfl, ?_⟩
            rw [HE.out]
            exact ⟨rfl, S4.out, B4.out⟩
          | ok y b3 l3 =>
            have HL3 := hid (fun (w' : World) (S : PSt P L w' z) => rank_less S hq2)
            rw [hq2] at HC HE
            go_wp2_with fail
            refine (must_yes P L u z ⟨#[44]⟩ _ hS HU.out).mono ?_
            rintro e w3 ⟨rfl, s3, b3⟩
            have hl3 := HL3.out w3 s3
            have S3 := hid s3
            have B3 := hid (hB.out.trans b3)
            have K3 := hid (krow_but hK.out b3 (by omega))
            have hz3 := b3.size
            clear s3 b3 hS hB hK HU HL3
            go_wp2_with fail
            refine (HC.out _ S3).mono ?_
            rintro e w4 ⟨⟨nv, kv, rfl, n4⟩, s4, b4⟩
            obtain ⟨b1, p1, b2, p2, rfl, rfl⟩ := ndR_shape n4
            have S4 := hid s4
            have B4 := hid (B3.out.trans b4)
            have K4 := hid (krow_but K3.out b4 (by omega))
            have hz4 := b4.size
            have hzb := B3.out.size
            have HO := hid (krow_own K3.out)
            have Y4 := hid (show NdW (Els (fun b => w.heap.size ≤ b) (.slice ao ks.length cap) w4) w4 y (.slice b1 y.names.length p1) (.slice b2 y.kids.length p2) from ndW_keep (fun k hk => ⟨⟨by have := hk.1; omega, hk.2, fun e => by have := HO.out k e.symm; have := hk.1; omega⟩, rfl⟩) _ _ _ n4)
            clear s4 b4 n4 S3 B3 K3 HC
            have AL := (Below.refl _ w4).alloc (Nat.le_refl _) (.cells (ndc y (.slice b1 y.names.length p1) (.slice b2 y.kids.length p2)) 26)
            have S4' := hid (S4.out.on AL)
            have B4' := hid (B4.out.trans (But.of AL))
            have HO4 := hid (krow_own K4.out)
            clear AL S4 B4
            unfold ndv
            unfold ndc at S4' B4'
            go_wp2_with (at_builtin; refine wp_napp rfl _ _ rfl w.heap.size (fun b => w.heap.size ≤ b) ks y b1 b2 p1 p2 _ rfl _ (by rfl) K4.out Y4.out _ (by rfl) (by simp) (by omega) (by omega) (fun k hk => by omega) ?_)
            intro v5 w5 k5 gr5
            have S5 := hid (pst_low S4'.out (grown_low gr5 (by simp; omega) (fun k hk => by have := (HO4.out k hk).2.1; omega)))
            have B5 := hid (show But P w w5 from ⟨gr5.os.trans B4'.out.os, gr5.tape.trans B4'.out.tape, gr5.output.trans B4'.out.output, Nat.le_trans B4'.out.size gr5.size, fun k h1 h2 => (gr5.block k (by have := B4'.out.size; omega) (fun e => by have := (HO4.out k e.symm).2.1; omega)).trans (B4'.out.block k h1 h2)⟩)
            have K5 := hid k5
            have HLE := hid (show leftAt P L w5 < leftAt P L wr by rw [left_is S5.out, LW.out]; simp; omega)
            have HE5 := hid (HE.out.trans (PR.bindL_ok y b3 l3 _))
            clear k5 gr5 S4' B4' K4 Y4 HO4 HO HE LW
            go_wp2_with fail
            go_roundw
            case rel => exact ⟨n, ks ++ [y], l3, HE5.out, by simp; omega, by omega, K5.out, S5.out, B5.out⟩
            case measure => exact HLE.out
        · have HE := hid (hE.out.trans (show pPartsM f (n + 1) ks l' = .bad l' by rw [pPartsM]; unfold Go.Proofs.YtijbiedblahmhaaDoor.mustL; rw [if_neg hh]))
          have HN := hid (show isH l' (⟨#[44]⟩ : ByteArray).data.toList = false by simpa using hh)
          clear hE hh LW HR
          go_wp2_with fail
          refine (must_no P L l' ⟨#[44]⟩ _ hS HN.out).mono ?_
          rintro e w3 ⟨rfl, b3⟩
          have S3 := hid (hS.out.on b3)
          have B3 := hid (hB.out.trans (But.of b3))
          clear b3 hS hB hK HN
          unfold gaveUp
          go_wp2_with fail
          refine ⟨rfl, ?_⟩
          rw [HE.out]
          exact ⟨rfl, S3.out, B3.out⟩

end Go.Proofs.YtijbiedblahmhaaDoor
