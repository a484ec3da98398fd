/- What an if or a while asks. -/
import Derived.Test.YtijbiedblahmhaaDoorJoint3
namespace Go.Proofs.YtijbiedblahmhaaDoor
open Go.RowKit

def AskC (f : Nat) : Prop := ∀ (P : Nat) (L l : List Tok) (w : World), 20 * l.length + 5 ≤ f → Hid (PSt P L w l) → Calls Tryd.prog 31 #[.pointer (some ⟨P, 0, none⟩)] w (Reads P L w (pAsk f l))

set_option maxHeartbeats 3200000 in
theorem ask_no (P : Nat) (L l : List Tok) (w : World) (H : Hid (PSt P L w l)) (hh : isH l [40] = false) :
    Calls Tryd.prog 31 #[.pointer (some ⟨P, 0, none⟩)] w (Reads P L w (.bad l)) := by
  have A := hid ((Below.refl _ w).alloc (Nat.le_refl _) (.cells znd 26))
  have S0 := hid (H.out.on A.out)
  have HN := hid hh
  unfold znd at *
  clear H hh
  go_enter Tryd.func31, Tryd.ntmps31
  go_wp2_with fail
  refine (must_no P L l ⟨#[40]⟩ _ S0 HN.out).mono ?_
  rintro e w1 ⟨rfl, b1⟩
  have S1 := hid (S0.out.on b1)
  have B1 := hid (But.of (P := P) (below_in A.out (Nat.le_refl _) b1))
  clear b1 S0 A HN
  unfold gaveUp
  go_wp2_with fail
  exact ⟨rfl, rfl, S1.out, B1.out⟩

set_option maxHeartbeats 3200000 in
theorem ask_yes (f : Nat) (hR : RankC f) (P : Nat) (L : List Tok) (t : Tok) (q : List Tok) (w : World) (hf : 20 * q.length + 10 ≤ f) (H : Hid (PSt P L w (t :: q))) (ht : isT t [40] = true) :
    Calls Tryd.prog 31 #[.pointer (some ⟨P, 0, none⟩)] w (Reads P L w ((pRank f 1 q).bind fun e _ l => must [41] l fun l => .ok e false l)) := by
  have A := hid ((Below.refl _ w).alloc (Nat.le_refl _) (.cells znd 26))
  have S0 := hid (H.out.on A.out)
  have G0 := hid (blk_new w 26 znd)
  have hP := H.out.lt
  have HC := hid (show ∀ w', Hid (PSt P L w' q) → Calls Tryd.prog 43 #[.pointer (some ⟨P, 0, none⟩)] w' (Reads P L w' (pRank f 1 q)) from fun w' S => hR 1 P L q w' (by omega) (by omega) (by omega) S)
  have HT := hid ht
  unfold znd at *
  clear H hR ht
  cases hq : pRank f 1 q with
  | bad l' =>
    rw [hq] at HC
    rw [PR.bind_bad]
    go_enter Tryd.func31, Tryd.ntmps31
    go_wp2_with fail
    refine (must_yes P L t q ⟨#[40]⟩ _ S0 HT.out).mono ?_
    rintro e w1 ⟨rfl, s1, b1⟩
    have S1 := hid s1
    have B1 := hid ((But.of (P := P) A.out).trans b1)
    have G1 := hid (blk_but G0.out b1 (by omega))
    have hg1 := blk_lt G1.out
    clear s1 b1 S0 A G0 HT
    go_wp2_with fail
    refine (HC.out _ S1).mono ?_
    rintro e w2 ⟨rfl, s2, b2⟩
    have S2 := hid s2
    have B2 := hid (B1.out.trans b2)
    clear s2 b2 S1 B1 G1 HC
    unfold gaveUp
    go_wp2_with fail
    exact ⟨rfl, rfl, S2.out, B2.out⟩
  | ok x b l' =>
    rw [hq] at HC
    rw [PR.bind_ok]
    unfold Go.Proofs.YtijbiedblahmhaaDoor.must
    by_cases hh : isH l' [41] = true
    · obtain ⟨u, z, rfl, hu⟩ := isH_some hh
      rw [if_pos hh]
      have HU := hid hu
      clear hh hu
      go_enter Tryd.func31, Tryd.ntmps31
      go_wp2_with fail
      refine (must_yes P L t q ⟨#[40]⟩ _ S0 HT.out).mono ?_
      rintro e w1 ⟨rfl, s1, b1⟩
      have S1 := hid s1
      have B1 := hid ((But.of (P := P) A.out).trans b1)
      have G1 := hid (blk_but G0.out b1 (by omega))
      have hg1 := blk_lt G1.out
      clear s1 b1 S0 A G0 HT
      go_wp2_with fail
      refine (HC.out _ S1).mono ?_
      rintro e w2 ⟨⟨nv, kv, rfl, n2⟩, s2, b2⟩
      obtain ⟨a1, q1, a2, q2, rfl, rfl⟩ := ndR_shape n2
      have hz2 := b2.size
      have AA := (Below.refl _ w2).alloc (Nat.le_refl _) (.cells (ndc x (.slice a1 x.names.length q1) (.slice a2 x.kids.length q2)) 26)
      have S2 := hid (s2.on AA)
      have B2 := hid ((B1.out.trans b2).trans (But.of AA))
      have G2 := hid (blk_on (blk_but G1.out b2 (by omega)) AA)
      have V2 := hid (blk_new w2 26 (ndc x (.slice a1 x.names.length q1) (.slice a2 x.kids.length q2)))
      have N2 := hid (ndR_aft (aft_below AA) (ndR_low hg1 n2))
      clear s2 b2 n2 AA S1 B1 G1 HC
      unfold ndv
      unfold ndc at *
      go_wp2_with fail
      refine (must_yes P L u z ⟨#[41]⟩ _ S2 HU.out).mono ?_
      rintro e w3 ⟨rfl, s3, b3⟩
      have S3 := hid s3
      have B3 := hid (B2.out.trans b3)
      have G3 := hid (blk_but G2.out b3 (by omega))
      have V3 := hid (blk_but V2.out b3 (by omega))
      have N3 := hid (ndR_aft (aft_but b3 (by omega)) N2.out)
      have hg3 := blk_lt G3.out
      have hv3 := blk_lt V3.out
      obtain ⟨r0, r1, r2, r3, r4, r5, r6⟩ := cells7 G3.out
      obtain ⟨u0, u1, u2, u3, u4, u5, u6⟩ := frees7 G3.out
      obtain ⟨v0, v1, v2, v3, v4, v5, v6⟩ := cells7 V3.out
      clear s3 b3 S2 B2 G2 V2 N2 HU
      go_wp2_with fail
      have Z := fin_put hP (Nat.le_refl _) S3.out B3.out G3.out (.int .i64 x.kind) (.int .i64 x.op) (.int .i64 x.num) (.string x.str) (.slice a1 x.names.length q1) (.slice a2 x.kids.length q2) (.int .i64 x.pl)
      exact bodyPost_ret (ret_nd rfl rfl Z.1) rfl ⟨⟨_, _, rfl, ndR_low (Nat.le_succ _) (ndR_aft (put7_aft w3 (Nat.lt_succ_self _) _ _ _ _ _ _ _) N3.out)⟩, Z.2.1, Z.2.2⟩
    · rw [if_neg hh]
      have HN := hid (show isH l' [41] = false by simpa using hh)
      clear hh
      go_enter Tryd.func31, Tryd.ntmps31
      go_wp2_with fail
      refine (must_yes P L t q ⟨#[40]⟩ _ S0 HT.out).mono ?_
      rintro e w1 ⟨rfl, s1, b1⟩
      have S1 := hid s1
      have B1 := hid ((But.of (P := P) A.out).trans b1)
      have G1 := hid (blk_but G0.out b1 (by omega))
      have hg1 := blk_lt G1.out
      clear s1 b1 S0 A G0 HT
      go_wp2_with fail
      refine (HC.out _ S1).mono ?_
      rintro e w2 ⟨⟨nv, kv, rfl, n2⟩, s2, b2⟩
      obtain ⟨a1, q1, a2, q2, rfl, rfl⟩ := ndR_shape n2
      have hz2 := b2.size
      have AA := (Below.refl _ w2).alloc (Nat.le_refl _) (.cells (ndc x (.slice a1 x.names.length q1) (.slice a2 x.kids.length q2)) 26)
      have S2 := hid (s2.on AA)
      have B2 := hid ((B1.out.trans b2).trans (But.of AA))
      have G2 := hid (blk_on (blk_but G1.out b2 (by omega)) AA)
      have V2 := hid (blk_new w2 26 (ndc x (.slice a1 x.names.length q1) (.slice a2 x.kids.length q2)))
      have N2 := hid (ndR_aft (aft_below AA) (ndR_low hg1 n2))
      clear s2 b2 n2 AA S1 B1 G1 HC
      unfold ndv
      unfold ndc at *
      go_wp2_with fail
      refine (must_no P L l' ⟨#[41]⟩ _ S2 HN.out).mono ?_
      rintro e w3 ⟨rfl, b3⟩
      have S3 := hid (S2.out.on b3)
      have B3 := hid (B2.out.trans (But.of b3))
      clear b3 S2 B2 G2 V2 N2 HN
      unfold gaveUp
      go_wp2_with fail
      exact ⟨rfl, rfl, S3.out, B3.out⟩

theorem ask_calls (f : Nat) (hR : RankC f) : AskC (f + 1) := by
  intro P L l w hf H
  rw [pAsk]
  unfold Go.Proofs.YtijbiedblahmhaaDoor.must
  by_cases hh : isH l [40] = true
  · obtain ⟨t, q, rfl, ht⟩ := isH_some hh
    rw [if_pos hh]
    exact ask_yes f hR P L t q w (by simp at hf; omega) H ht
  · rw [if_neg hh]
    exact ask_no P L l w H (by simpa using hh)

end Go.Proofs.YtijbiedblahmhaaDoor
