/- A block, and a whole program. -/
import Derived.Test.YtijbiedblahmhaaDoorJoint3
namespace Go.Proofs.YtijbiedblahmhaaDoor
open Go.RowKit

/-- what comes of reading a list of nodes -/
def ReadsS (P : Nat) (L : List Tok) (w : World) (out : PL) (e : Ending) (w' : World) : Prop :=
  match out with
  | .ok _ ks l => (∃ kv, e = .returned kv ∧ KdR w.heap.size w' kv ks) ∧ PSt P L w' l ∧ But P w w'
  | .bad l => e = gaveUp ∧ PSt P L w' l ∧ But P w w'
def StmtsC (f : Nat) : Prop := ∀ (P : Nat) (L l : List Tok) (w : World), 20 * l.length + 14 ≤ f → Hid (PSt P L w l) → Calls Tryd.prog 14 #[.pointer (some ⟨P, 0, none⟩)] w (ReadsS P L w (pStmts f [] l))
def BlockC (f : Nat) : Prop := ∀ (P : Nat) (L l : List Tok) (w : World), 20 * l.length + 5 ≤ f → Hid (PSt P L w l) → Calls Tryd.prog 32 #[.pointer (some ⟨P, 0, none⟩)] w (Reads P L w (pBlock f l))
theorem kdR_shape {lo : Nat} {w : World} {kv : Value} {ks : List Nd} (h : KdR lo w kv ks) : ∃ a c, kv = .slice a ks.length c := by
  rcases h with ⟨ao, cap, e1, e2⟩ | ⟨b, off, cap, e, _, _, _⟩
  · subst e2; exact ⟨ao, cap, e1⟩
  · exact ⟨_, cap, e⟩

set_option maxRecDepth 100000 in
set_option maxHeartbeats 3200000 in
theorem block_no (P : Nat) (L l : List Tok) (w : World) (H : Hid (PSt P L w l)) (hh : isH l [123] = false) :
    Calls Tryd.prog 32 #[.pointer (some ⟨P, 0, none⟩)] w (Reads P L w (.bad l)) := by
  have A := hid ((Below.refl _ w).alloc (Nat.le_refl _) (.cells znd 26))
  have S0 := hid (H.out.on A.out)
  have HN := hid hh
  unfold znd at *
  clear H hh
  go_enter Tryd.func32, Tryd.ntmps32
  go_wp2_with fail
  refine (must_no P L l ⟨#[123]⟩ _ S0 HN.out).mono ?_
  rintro e w1 ⟨rfl, b1⟩
  have S1 := hid (S0.out.on b1)
  have B1 := hid (But.of (P := P) (below_in A.out (Nat.le_refl _) b1))
  clear b1 S0 A HN
  unfold gaveUp
  go_wp2_with fail
  exact ⟨rfl, rfl, S1.out, B1.out⟩

set_option maxRecDepth 100000 in
set_option maxHeartbeats 3200000 in
theorem block_yes (f : Nat) (hR : StmtsC f) (P : Nat) (L : List Tok) (t : Tok) (q : List Tok) (w : World) (hf : 20 * q.length + 14 ≤ f) (H : Hid (PSt P L w (t :: q))) (ht : isT t [123] = true) :
    Calls Tryd.prog 32 #[.pointer (some ⟨P, 0, none⟩)] w (Reads P L w ((pStmts f [] q).bind fun _ ks l => must [125] l fun l => .ok (ndK 29 ks) false l)) := by
  have A := hid ((Below.refl _ w).alloc (Nat.le_refl _) (.cells znd 26))
  have S0 := hid (H.out.on A.out)
  have G0 := hid (blk_new w 26 znd)
  have hP := H.out.lt
  have HC := hid (fun w' S => hR P L q w' hf S)
  have HT := hid ht
  unfold znd at *
  clear H hR ht
  cases hq : pStmts f [] q with
  | bad l' =>
    rw [hq] at HC
    rw [PL.bind_bad]
    go_enter Tryd.func32, Tryd.ntmps32
    go_wp2_with fail
    refine (must_yes P L t q ⟨#[123]⟩ _ S0 HT.out).mono ?_
    rintro e w1 ⟨rfl, s1, b1⟩
    have S1 := hid s1
    have B1 := hid ((But.of (P := P) A.out).trans b1)
    have G1 := hid (blk_but G0.out b1 (by omega))
    have hg1 := blk_lt G1.out
    clear s1 b1 S0 A G0 HT
    go_wp2_with fail
    refine (HC.out _ S1).mono ?_
    rintro e w2 ⟨rfl, s2, b2⟩
    have S2 := hid s2
    have B2 := hid (B1.out.trans b2)
    clear s2 b2 S1 B1 G1 HC
    unfold gaveUp
    go_wp2_with fail
    exact ⟨rfl, rfl, S2.out, B2.out⟩
  | ok ns ks l' =>
    rw [hq] at HC
    rw [PL.bind_ok]
    unfold Go.Proofs.YtijbiedblahmhaaDoor.must
    by_cases hh : isH l' [125] = true
    · obtain ⟨u, z, rfl, hu⟩ := isH_some hh
      rw [if_pos hh]
      have HU := hid hu
      clear hh hu
      go_enter Tryd.func32, Tryd.ntmps32
      go_wp2_with fail
      refine (must_yes P L t q ⟨#[123]⟩ _ S0 HT.out).mono ?_
      rintro e w1 ⟨rfl, s1, b1⟩
      have S1 := hid s1
      have B1 := hid ((But.of (P := P) A.out).trans b1)
      have G1 := hid (blk_but G0.out b1 (by omega))
      have hg1 := blk_lt G1.out
      clear s1 b1 S0 A G0 HT
      go_wp2_with fail
      refine (HC.out _ S1).mono ?_
      rintro e w2 ⟨⟨kv, rfl, n2⟩, s2, b2⟩
      obtain ⟨a1, q1, rfl⟩ := kdR_shape n2
      have hz2 := b2.size
      have AA := (Below.refl _ w2).alloc (Nat.le_refl _) (.cells #[.int .i64 29, .int .i64 0, .int .i64 0, .string ⟨#[]⟩, .slice none 0 0, .slice a1 ks.length q1, .int .i64 0] 26)
      have S2 := hid (s2.on AA)
      have B2 := hid ((B1.out.trans b2).trans (But.of AA))
      have G2 := hid (blk_on (blk_but G1.out b2 (by omega)) AA)
      have V2 := hid (blk_new w2 26 #[.int .i64 29, .int .i64 0, .int .i64 0, .string ⟨#[]⟩, .slice none 0 0, .slice a1 ks.length q1, .int .i64 0])
      have N2 := hid (kdR_aft (aft_below AA) (kdR_low hg1 n2))
      clear s2 b2 n2 AA S1 B1 G1 HC
      go_wp2_with fail
      refine (must_yes P L u z ⟨#[125]⟩ _ S2 HU.out).mono ?_
      rintro e w3 ⟨rfl, s3, b3⟩
      have S3 := hid s3
      have B3 := hid (B2.out.trans b3)
      have G3 := hid (blk_but G2.out b3 (by omega))
      have V3 := hid (blk_but V2.out b3 (by omega))
      have N3 := hid (kdR_aft (aft_but b3 (by omega)) N2.out)
      have hg3 := blk_lt G3.out
      have hv3 := blk_lt V3.out
      obtain ⟨r0, r1, r2, r3, r4, r5, r6⟩ := cells7 G3.out
      obtain ⟨u0, u1, u2, u3, u4, u5, u6⟩ := frees7 G3.out
      obtain ⟨v0, v1, v2, v3, v4, v5, v6⟩ := cells7 V3.out
      clear s3 b3 S2 B2 G2 V2 N2 HU
      go_wp2_with fail
      have Z := fin_put hP (Nat.le_refl _) S3.out B3.out G3.out (.int .i64 29) (.int .i64 0) (.int .i64 0) (.string ⟨#[]⟩) (.slice none 0 0) (.slice a1 ks.length q1) (.int .i64 0)
      exact bodyPost_ret (ret_nd rfl rfl Z.1) rfl ⟨⟨_, _, rfl, ndR_mk2 ⟨st_nil, kdR_low (Nat.le_succ _) (kdR_aft (put7_aft w3 (Nat.lt_succ_self _) _ _ _ _ _ _ _) N3.out)⟩⟩, Z.2.1, Z.2.2⟩
    · rw [if_neg hh]
      have HN := hid (show isH l' [125] = false by simpa using hh)
      clear hh
      go_enter Tryd.func32, Tryd.ntmps32
      go_wp2_with fail
      refine (must_yes P L t q ⟨#[123]⟩ _ S0 HT.out).mono ?_
      rintro e w1 ⟨rfl, s1, b1⟩
      have S1 := hid s1
      have B1 := hid ((But.of (P := P) A.out).trans b1)
      have G1 := hid (blk_but G0.out b1 (by omega))
      have hg1 := blk_lt G1.out
      clear s1 b1 S0 A G0 HT
      go_wp2_with fail
      refine (HC.out _ S1).mono ?_
      rintro e w2 ⟨⟨kv, rfl, n2⟩, s2, b2⟩
      obtain ⟨a1, q1, rfl⟩ := kdR_shape n2
      have hz2 := b2.size
      have AA := (Below.refl _ w2).alloc (Nat.le_refl _) (.cells #[.int .i64 29, .int .i64 0, .int .i64 0, .string ⟨#[]⟩, .slice none 0 0, .slice a1 ks.length q1, .int .i64 0] 26)
      have S2 := hid (s2.on AA)
      have B2 := hid ((B1.out.trans b2).trans (But.of AA))
      have G2 := hid (blk_on (blk_but G1.out b2 (by omega)) AA)
      have V2 := hid (blk_new w2 26 #[.int .i64 29, .int .i64 0, .int .i64 0, .string ⟨#[]⟩, .slice none 0 0, .slice a1 ks.length q1, .int .i64 0])
      have N2 := hid (kdR_aft (aft_below AA) (kdR_low hg1 n2))
      clear s2 b2 n2 AA S1 B1 G1 HC
      go_wp2_with fail
      refine (must_no P L l' ⟨#[125]⟩ _ S2 HN.out).mono ?_
      rintro e w3 ⟨rfl, b3⟩
      have S3 := hid (S2.out.on b3)
      have B3 := hid (B2.out.trans (But.of b3))
      clear b3 S2 B2 G2 V2 N2 HN
      unfold gaveUp
      go_wp2_with fail
      exact ⟨rfl, rfl, S3.out, B3.out⟩

theorem block_calls (f : Nat) (hR : StmtsC f) : BlockC (f + 1) := by
  intro P L l w hf H
  rw [pBlock]
  unfold Go.Proofs.YtijbiedblahmhaaDoor.must
  by_cases hh : isH l [123] = true
  · obtain ⟨t, q, rfl, ht⟩ := isH_some hh
    rw [if_pos hh]
    exact block_yes f hR P L t q w (by simp at hf; omega) H ht
  · rw [if_neg hh]
    exact block_no P L l w H (by simpa using hh)

set_option maxRecDepth 100000 in
set_option maxHeartbeats 3200000 in
theorem prog_calls (f : Nat) (hR : StmtsC f) (P : Nat) (L l : List Tok) (w : World) (hf : 20 * l.length + 14 ≤ f) (H : Hid (PSt P L w l)) :
    Calls Tryd.prog 8 #[.pointer (some ⟨P, 0, none⟩)] w (Reads P L w ((pStmts f [] l).bind fun _ ks l => .ok (ndK 29 ks) false l)) := by
  have A := hid ((Below.refl _ w).alloc (Nat.le_refl _) (.cells znd 26))
  have S0 := hid (H.out.on A.out)
  have G0 := hid (blk_new w 26 znd)
  have hP := H.out.lt
  have HC := hid (fun w' S => hR P L l w' hf S)
  unfold znd at *
  clear H hR
  cases hq : pStmts f [] l with
  | bad l' =>
    rw [hq] at HC
    rw [PL.bind_bad]
    go_enter Tryd.func8, Tryd.ntmps8
    go_wp2_with fail
    refine (HC.out _ S0).mono ?_
    rintro e w2 ⟨rfl, s2, b2⟩
    have S2 := hid s2
    have B2 := hid ((But.of A.out).trans b2)
    clear s2 b2 S0 A G0 HC
    unfold gaveUp
    go_wp2_with fail
    exact ⟨rfl, rfl, S2.out, B2.out⟩
  | ok ns ks l' =>
    rw [hq] at HC
    rw [PL.bind_ok]
    go_enter Tryd.func8, Tryd.ntmps8
    go_wp2_with fail
    refine (HC.out _ S0).mono ?_
    rintro e w2 ⟨⟨kv, rfl, n2⟩, s2, b2⟩
    obtain ⟨a1, q1, rfl⟩ := kdR_shape n2
    have S3 := hid s2
    have B3 := hid ((But.of A.out).trans b2)
    have G3 := hid (blk_but G0.out b2 (by omega))
    have N3 := hid (kdR_low (lo' := w.heap.size + 1) (by simp) n2)
    have hg3 := blk_lt G3.out
    obtain ⟨r0, r1, r2, r3, r4, r5, r6⟩ := cells7 G3.out
    obtain ⟨u0, u1, u2, u3, u4, u5, u6⟩ := frees7 G3.out
    clear s2 b2 n2 S0 A G0 HC
    go_wp2_with fail
    have Z := fin_put hP (Nat.le_refl _) S3.out B3.out G3.out (.int .i64 29) (.int .i64 0) (.int .i64 0) (.string ⟨#[]⟩) (.slice none 0 0) (.slice a1 ks.length q1) (.int .i64 0)
    exact bodyPost_ret (ret_nd rfl rfl Z.1) rfl ⟨⟨_, _, rfl, ndR_mk2 ⟨st_nil, kdR_low (Nat.le_succ _) (kdR_aft (put7_aft w2 (Nat.lt_succ_self _) _ _ _ _ _ _ _) N3.out)⟩⟩, Z.2.1, Z.2.2⟩

end Go.Proofs.YtijbiedblahmhaaDoor
