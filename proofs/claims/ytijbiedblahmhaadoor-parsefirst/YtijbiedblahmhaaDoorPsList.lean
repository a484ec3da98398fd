/- The list of a call's arguments. -/
import Derived.Test.YtijbiedblahmhaaDoorPsStmts
namespace Go.Proofs.YtijbiedblahmhaaDoor
open Go.RowKit

/-- what comes of reading one node more into a row that a variable holds -/
def ReadsK (P kb pb lo : Nat) (L : List Tok) (ok : Nat → Prop) (ks : List Nd) (w : World) (out : PR) (e : Ending) (w' : World) : Prop :=
  match out with
  | .ok x _ l => e = .returned (.tuple #[]) ∧ (∃ v', Blk kb 24 #[v'] w' ∧ KRow lo ok w' v' (ks ++ [x])) ∧ Blk pb 32 #[.pointer (some ⟨P, 0, none⟩)] w' ∧ PSt P L w' l ∧ ButLo lo P w w'
  | .bad l => e = gaveUp ∧ PSt P L w' l ∧ ButLo lo P w w'
/-- the same of a list -/
def ReadsKL (P kb pb lo : Nat) (L : List Tok) (ok : Nat → Prop) (w : World) (out : PL) (e : Ending) (w' : World) : Prop :=
  match out with
  | .ok _ ks l => e = .returned (.tuple #[]) ∧ (∃ v', Blk kb 24 #[v'] w' ∧ KRow lo ok w' v' ks) ∧ Blk pb 32 #[.pointer (some ⟨P, 0, none⟩)] w' ∧ PSt P L w' l ∧ ButLo lo P w w'
  | .bad l => e = gaveUp ∧ PSt P L w' l ∧ ButLo lo P w w'
/-- what is known of the closure -/
def Call1C (f P kb pb lo : Nat) (L : List Tok) (ok : Nat → Prop) : Prop := ∀ (l : List Tok) (v : Value) (ks : List Nd) (w : World), 20 * l.length + 10 ≤ f → ks.length ≤ 40 → lo ≤ w.heap.size →
  Hid (PSt P L w l) → Hid (Blk kb 24 #[v] w) → Hid (Blk pb 32 #[.pointer (some ⟨P, 0, none⟩)] w) → Hid (KRow lo ok w v ks) →
  Calls Tryd.prog 81 #[.pointer (some ⟨kb, 0, none⟩), .pointer (some ⟨pb, 0, none⟩)] w (ReadsK P kb pb lo L ok ks w (pRank f 1 l))

set_option maxRecDepth 100000 in
set_option maxHeartbeats 12800000 in
theorem list_empty (P kb pb lo : Nat) (L : List Tok) (ok : Nat → Prop) (t : Tok) (q : List Tok) (v : Value) (ks : List Nd) (w : World) (hlw : lo ≤ w.heap.size) (hkp : kb ≠ P) (hpp : pb ≠ P) (hok : ¬ ok P)
    (H : Hid (PSt P L w (t :: q))) (HK : Hid (Blk kb 24 #[v] w)) (HQ : Hid (Blk pb 32 #[.pointer (some ⟨P, 0, none⟩)] w)) (HR : Hid (KRow lo ok w v ks)) (ht : isT t [41] = true) :
    Calls Tryd.prog 80 #[.pointer (some ⟨P, 0, none⟩), .int .i64 6, .string ⟨#[41]⟩, .func (.func 81) #[] #[.pointer (some ⟨kb, 0, none⟩), .pointer (some ⟨pb, 0, none⟩)]] w (ReadsKL P kb pb lo L ok w (.ok [] ks q)) := by
  have HT := hid ht
  clear ht
  go_enter Tryd.func80, Tryd.ntmps80
  go_wp2_with fail
  refine (take_yes P L t q ⟨#[41]⟩ _ H HT.out).mono ?_
  rintro e w1 ⟨rfl, s1, b1⟩
  have S1 := hid s1
  have K1 := hid (blk_but HK.out b1 hkp)
  have Q1' := hid (blk_but HQ.out b1 hpp)
  have R1 := hid (krow_but HR.out b1 hok)
  have B1 := hid (ButLo.of (lo := lo) b1 hlw)
  clear s1 b1 H HK HQ HR HT
  go_wp2_with fail
  go_end0
  exact ⟨rfl, ⟨v, K1.out, R1.out⟩, Q1'.out, S1.out, B1.out⟩

theorem argsM_stop {g : Nat} {ks : List Nd} {m : List Tok} (h : ¬ (ks.length < 7 ∧ isH m [44] = true)) : pArgsM (g + 1) ks m = mustL [41] m fun l => .ok [] ks l := by rw [pArgsM, if_neg h]
theorem argsM_more {g : Nat} {ks : List Nd} {t : Tok} {z : List Tok} (h : ks.length < 7 ∧ isH (t :: z) [44] = true) : pArgsM (g + 1) ks (t :: z) = (pRank g 1 z).bindL fun e _ l => pArgsM g (ks ++ [e]) l := by rw [pArgsM, if_pos h]; rfl
theorem rank_less' {f r : Nat} {l : List Tok} {P : Nat} {L : List Tok} {w : World} (H : PSt P L w l) {x : Nd} {b : Bool} {l' : List Tok} (h : pRank f r l = .ok x b l') : l'.length + 1 ≤ l.length := by
  have := (may f).rank r l (pst_gt H)
  rw [h] at this
  obtain ⟨_, pre, u, e, _⟩ := this
  rw [e]; simp

set_option maxRecDepth 100000 in
set_option maxHeartbeats 12800000 in
theorem list_one (f P kb pb lo : Nat) (L : List Tok) (ok : Nat → Prop) (hC : Call1C f P kb pb lo L ok) (l : List Tok) (v : Value) (ks : List Nd) (w : World) (hf : 20 * l.length + 10 ≤ f) (hk : ks.length ≤ 1) (hlw : lo ≤ w.heap.size)
    (H : Hid (PSt P L w l)) (HK : Hid (Blk kb 24 #[v] w)) (HQ : Hid (Blk pb 32 #[.pointer (some ⟨P, 0, none⟩)] w)) (HR : Hid (KRow lo ok w v ks)) (hn : isH l [41] = false) (l1 : List Tok) (hq : pRank f 1 l = .bad l1) :
    Calls Tryd.prog 80 #[.pointer (some ⟨P, 0, none⟩), .int .i64 6, .string ⟨#[41]⟩, .func (.func 81) #[] #[.pointer (some ⟨kb, 0, none⟩), .pointer (some ⟨pb, 0, none⟩)]] w (ReadsKL P kb pb lo L ok w (.bad l1)) := by
  have HN := hid (show isH l (⟨#[41]⟩ : ByteArray).data.toList = false from hn)
  have HC := hid hC
  clear hC hn
  go_enter Tryd.func80, Tryd.ntmps80
  go_wp2_with fail
  refine (take_no P L l ⟨#[41]⟩ _ H HN.out).mono ?_
  rintro e w1 ⟨rfl, b1⟩
  have S1 := hid (H.out.on b1)
  have K1 := hid (blk_on HK.out b1)
  have Q1' := hid (blk_on HQ.out b1)
  have R1 := hid (krow_below HR.out b1)
  have B1 := hid (ButLo.of (lo := lo) (But.of (P := P) b1) hlw)
  have hz1 := b1.size
  clear b1 H HK HQ HR HN
  go_wp2_with fail
  have CC := HC.out l v ks w1 hf (by omega) (by omega) S1 K1 Q1' R1
  rw [hq] at CC
  refine CC.mono ?_
  rintro e w2 ⟨rfl, s2, b2⟩
  have S2 := hid s2
  have B2 := hid (B1.out.trans b2)
  clear s2 b2 CC S1 K1 Q1' R1 B1 HC
  unfold gaveUp
  go_wp2_with fail
  exact ⟨rfl, rfl, S2.out, B2.out⟩

set_option maxRecDepth 100000 in
set_option maxHeartbeats 12800000 in
theorem list_more (f P kb pb lo : Nat) (L : List Tok) (ok : Nat → Prop) (hC : ∀ g, g ≤ f → Call1C g P kb pb lo L ok) (l : List Tok) (v : Value) (ks : List Nd) (w : World) (hf : 20 * l.length + 10 ≤ f) (hk : ks.length = 1) (hlw : lo ≤ w.heap.size) (hkp : kb ≠ P) (hpp : pb ≠ P) (hok : ¬ ok P)
    (H : Hid (PSt P L w l)) (HK : Hid (Blk kb 24 #[v] w)) (HQ : Hid (Blk pb 32 #[.pointer (some ⟨P, 0, none⟩)] w)) (HR : Hid (KRow lo ok w v ks)) (hn : isH l [41] = false) (x : Nd) (b : Bool) (l1 : List Tok) (hq : pRank f 1 l = .ok x b l1) :
    Calls Tryd.prog 80 #[.pointer (some ⟨P, 0, none⟩), .int .i64 6, .string ⟨#[41]⟩, .func (.func 81) #[] #[.pointer (some ⟨kb, 0, none⟩), .pointer (some ⟨pb, 0, none⟩)]] w (ReadsKL P kb pb lo L ok w (pArgsM f (ks ++ [x]) l1)) := by
  have HN := hid (show isH l (⟨#[41]⟩ : ByteArray).data.toList = false from hn)
  have HC := hid hC
  have hl1 := rank_less' H.out hq
  clear hC hn
  go_enter Tryd.func80, Tryd.ntmps80
  go_wp2_with fail
  refine (take_no P L l ⟨#[41]⟩ _ H HN.out).mono ?_
  rintro e w1 ⟨rfl, b1⟩
  have S1 := hid (H.out.on b1)
  have K1 := hid (blk_on HK.out b1)
  have Q1' := hid (blk_on HQ.out b1)
  have R1 := hid (krow_below HR.out b1)
  have B1 := hid (ButLo.of (lo := lo) (But.of (P := P) b1) hlw)
  have hz1 := b1.size
  clear b1 H HK HQ HR HN
  go_wp2_with fail
  have CC := HC.out f (Nat.le_refl _) l v ks w1 hf (by omega) (by omega) S1 K1 Q1' R1
  rw [hq] at CC
  refine CC.mono ?_
  rintro e w2 ⟨rfl, ⟨v2, k2, r2⟩, q2, s2, b2⟩
  have K2 := hid k2
  have R2 := hid r2
  have Q2 := hid q2
  have S2 := hid s2
  have B2 := hid (B1.out.trans b2)
  clear k2 r2 q2 s2 b2 CC S1 K1 Q1' R1 B1
  go_wp2_with fail
  go_loopw [8] (fun i wr => ∃ (g : Nat) (ks' : List Nd) (m : List Tok) (v' : Value) (n : Nat), Hid (pArgsM f (ks ++ [x]) l1 = pArgsM g ks' m) ∧ i = .int .i64 n ∧ n + 1 = ks'.length ∧ ks'.length ≤ 7 ∧ 20 * m.length + 25 ≤ g ∧ g ≤ f ∧ Hid (PSt P L wr m) ∧ Hid (Blk kb 24 #[v'] wr) ∧ Hid (Blk pb 32 #[.pointer (some ⟨P, 0, none⟩)] wr) ∧ Hid (KRow lo ok wr v' ks') ∧ Hid (ButLo lo P w wr)) (fun _ wr => leftAt P L wr)
  case atStart => exact ⟨f, ks ++ [x], l1, v2, 1, (show Hid (_ = _) from rfl), rfl, by simp [hk], by simp [hk], by omega, Nat.le_refl _, S2.out, K2.out, Q2.out, R2.out, B2.out⟩
  case round =>
    obtain ⟨g, ks', m, v', n, hE, rfl, hn, hk7, hgm, hgf, hS, hK, hQ, hR, hB⟩ := hrel
    clear S2 K2 Q2 R2 B2
    obtain ⟨g, rfl⟩ : ∃ g', g = g' + 1 := ⟨g - 1, by omega⟩
    have hzr := hB.out.size
    have LW := hid (left_is hS.out)
    by_cases h7 : ks'.length < 7
    · by_cases h44 : isH m [44] = true
      · obtain ⟨u, z, rfl, hu⟩ := isH_some h44
        have HE := hid (hE.out.trans (argsM_more ⟨h7, h44⟩))
        have HU := hid hu
        have hzl : 20 * z.length + 10 ≤ g := by simp at hgm; omega
        clear hE h44 hu
        cases hq2 : pRank g 1 z with
        | bad l3 =>
          rw [hq2] at HE
          go_wp2_with fail
          refine (take_yes P L u z ⟨#[44]⟩ _ hS HU.out).mono ?_
          rintro e w3 ⟨rfl, s3, b3⟩
          have S3 := hid s3
          have K3 := hid (blk_but hK.out b3 hkp)
          have Q3' := hid (blk_but hQ.out b3 hpp)
          have R3 := hid (krow_but hR.out b3 hok)
          have B3 := hid (hB.out.trans (ButLo.of b3 (by omega)))
          have hz3 := b3.size
          clear s3 b3 hS hK hQ hR hB HU LW
          go_wp2_with fail
          have CC := HC.out g (by omega) z v' ks' w3 hzl (by omega) (by omega) S3 K3 Q3' R3
          rw [hq2] at CC
          refine CC.mono ?_
          rintro e w4 ⟨rfl, s4, b4⟩
          have S4 := hid s4
          have B4 := hid (B3.out.trans b4)
          clear s4 b4 CC S3 K3 Q3' R3 B3 HC
          unfold gaveUp
          go_wp2_with fail
          refine ⟨rfl, ?_⟩
          rw [HE.out]
          exact ⟨rfl, S4.out, B4.out⟩
        | ok y b3 l3 =>
          have HL3 := hid (fun (w' : World) (S : PSt P L w' z) => rank_less' S hq2)
          rw [hq2] at HE
          go_wp2_with fail
          refine (take_yes P L u z ⟨#[44]⟩ _ hS HU.out).mono ?_
          rintro e w3 ⟨rfl, s3, b3⟩
          have hl3 := HL3.out w3 s3
          have S3 := hid s3
          have K3 := hid (blk_but hK.out b3 hkp)
          have Q3' := hid (blk_but hQ.out b3 hpp)
          have R3 := hid (krow_but hR.out b3 hok)
          have B3 := hid (hB.out.trans (ButLo.of b3 (by omega)))
          have hz3 := b3.size
          clear s3 b3 hS hK hQ hR hB HU HL3
          go_wp2_with fail
          have CC := HC.out g (by omega) z v' ks' w3 hzl (by omega) (by omega) S3 K3 Q3' R3
          rw [hq2] at CC
          refine CC.mono ?_
          rintro e w4 ⟨rfl, ⟨v4, k4, r4⟩, q4, s4, b4⟩
          have K4 := hid k4
          have R4 := hid r4
          have Q4 := hid q4
          have S4 := hid s4
          have B4 := hid (B3.out.trans b4)
          have HLE := hid (show leftAt P L w4 < leftAt P L wr by rw [left_is s4, LW.out]; simp; omega)
          have HE4 := hid (HE.out.trans (PR.bindL_ok y b3 l3 _))
          clear k4 r4 q4 s4 b4 CC S3 K3 Q3' R3 B3 HE LW
          go_wp2_with fail
          go_roundw
          case rel => exact ⟨g, ks' ++ [y], l3, v4, n + 1, HE4.out, by go_num, by simp; omega, by simp; omega, by simp at hgm; omega, by omega, S4.out, K4.out, Q4.out, R4.out, B4.out⟩
          case measure => exact HLE.out
      · have hE' := hE.out.trans (argsM_stop (fun h => h44 h.2))
        have H44 := hid (show isH m (⟨#[44]⟩ : ByteArray).data.toList = false by simpa using h44)
        clear hE h44 HC LW
        by_cases he : isH m [41] = true
        · obtain ⟨u, z, rfl, hu⟩ := isH_some he
          have HE := hid (hE'.trans (show _ = PL.ok [] ks' z by unfold Go.Proofs.YtijbiedblahmhaaDoor.mustL; rw [if_pos he]; rfl))
          have HU := hid hu
          clear hE' he hu
          go_wp2_with fail
          refine (take_no P L (u :: z) ⟨#[44]⟩ _ hS H44.out).mono ?_
          rintro e w4 ⟨rfl, b4⟩
          have S4 := hid (hS.out.on b4)
          have K4 := hid (blk_on hK.out b4)
          have Q4 := hid (blk_on hQ.out b4)
          have R4 := hid (krow_below hR.out b4)
          have B4 := hid (hB.out.trans (ButLo.of (But.of (P := P) b4) (by omega)))
          have hz4 := b4.size
          clear b4 H44
          go_wp2_with fail
          refine (must_yes P L u z ⟨#[41]⟩ _ S4 HU.out).mono ?_
          rintro e w5 ⟨rfl, s5, b5⟩
          have S5 := hid s5
          have K5 := hid (blk_but K4.out b5 hkp)
          have Q5 := hid (blk_but Q4.out b5 hpp)
          have R5 := hid (krow_but R4.out b5 hok)
          have B5 := hid (B4.out.trans (ButLo.of b5 (by omega)))
          clear s5 b5
          go_wp2_with fail
          go_end0
          rw [HE.out]
          exact ⟨rfl, ⟨_, K5.out, R5.out⟩, Q5.out, S5.out, B5.out⟩
        · have HE := hid (hE'.trans (show _ = PL.bad m by unfold Go.Proofs.YtijbiedblahmhaaDoor.mustL; rw [if_neg he]))
          have HN := hid (show isH m (⟨#[41]⟩ : ByteArray).data.toList = false by simpa using he)
          clear hE' he
          go_wp2_with fail
          refine (take_no P L m ⟨#[44]⟩ _ hS H44.out).mono ?_
          rintro e w4 ⟨rfl, b4⟩
          have S4 := hid (hS.out.on b4)
          have K4 := hid (blk_on hK.out b4)
          have Q4 := hid (blk_on hQ.out b4)
          have R4 := hid (krow_below hR.out b4)
          have B4 := hid (hB.out.trans (ButLo.of (But.of (P := P) b4) (by omega)))
          have hz4 := b4.size
          clear b4 H44
          go_wp2_with fail
          refine (must_no P L m ⟨#[41]⟩ _ S4 HN.out).mono ?_
          rintro e w5 ⟨rfl, b5⟩
          have S5 := hid (S4.out.on b5)
          have B5 := hid (B4.out.trans (ButLo.of (But.of (P := P) b5) (by omega)))
          clear b5
          unfold gaveUp
          go_wp2_with fail
          refine ⟨rfl, ?_⟩
          rw [HE.out]
          exact ⟨rfl, S5.out, B5.out⟩
    · have hE' := hE.out.trans (argsM_stop (fun h => h7 h.1))
      clear hE HC LW
      by_cases he : isH m [41] = true
      · obtain ⟨u, z, rfl, hu⟩ := isH_some he
        have HE := hid (hE'.trans (show _ = PL.ok [] ks' z by unfold Go.Proofs.YtijbiedblahmhaaDoor.mustL; rw [if_pos he]; rfl))
        have HU := hid hu
        clear hE' he hu
        go_wp2_with fail
        refine (must_yes P L u z ⟨#[41]⟩ _ hS HU.out).mono ?_
        rintro e w5 ⟨rfl, s5, b5⟩
        have S5 := hid s5
        have K5 := hid (blk_but hK.out b5 hkp)
        have Q5 := hid (blk_but hQ.out b5 hpp)
        have R5 := hid (krow_but hR.out b5 hok)
        have B5 := hid (hB.out.trans (ButLo.of b5 (by omega)))
        clear s5 b5
        go_wp2_with fail
        go_end0
        rw [HE.out]
        exact ⟨rfl, ⟨_, K5.out, R5.out⟩, Q5.out, S5.out, B5.out⟩
      · have HE := hid (hE'.trans (show _ = PL.bad m by unfold Go.Proofs.YtijbiedblahmhaaDoor.mustL; rw [if_neg he]))
        have HN := hid (show isH m (⟨#[41]⟩ : ByteArray).data.toList = false by simpa using he)
        clear hE' he
        go_wp2_with fail
        refine (must_no P L m ⟨#[41]⟩ _ hS HN.out).mono ?_
        rintro e w5 ⟨rfl, b5⟩
        have S5 := hid (hS.out.on b5)
        have B5 := hid (hB.out.trans (ButLo.of (But.of (P := P) b5) (by omega)))
        clear b5
        unfold gaveUp
        go_wp2_with fail
        refine ⟨rfl, ?_⟩
        rw [HE.out]
        exact ⟨rfl, S5.out, B5.out⟩

end Go.Proofs.YtijbiedblahmhaaDoor
