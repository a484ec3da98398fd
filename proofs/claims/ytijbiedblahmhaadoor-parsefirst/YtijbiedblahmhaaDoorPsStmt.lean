/- A statement: an if, a while, or a short one. -/
import Derived.Test.YtijbiedblahmhaaDoorPsAsk
import Derived.Test.YtijbiedblahmhaaDoorPsBlock
namespace Go.Proofs.YtijbiedblahmhaaDoor
open Go.RowKit

/-- an if behind its key -/
def pBranch (f : Nat) (l : List Tok) : PR := (pAsk f l).bind fun e _ l => (pBlock f l).bind fun y _ l =>
  if isH l [101, 108, 115, 101] then (pBlock f l.tail).bind fun z _ l => .ok (ndK 28 [e, y, z]) false l else .ok (ndK 28 [e, y, ndK 29 []]) false l
def BranchC (f : Nat) : Prop := ∀ (P : Nat) (L l : List Tok) (w : World), 20 * l.length + 5 ≤ f → Hid (PSt P L w l) → Calls Tryd.prog 30 #[.pointer (some ⟨P, 0, none⟩)] w (Reads P L w (pBranch f l))
def ShortC (f : Nat) : Prop := ∀ (P : Nat) (L l : List Tok) (w : World), 20 * l.length + 12 ≤ f → Hid (PSt P L w l) → Calls Tryd.prog 33 #[.pointer (some ⟨P, 0, none⟩)] w (Reads P L w (pShort f l))

set_option maxRecDepth 100000 in
set_option maxHeartbeats 3200000 in
theorem stmt_if (f : Nat) (hR : BranchC f) (P : Nat) (L : List Tok) (t : Tok) (q : List Tok) (w : World) (hf : 20 * q.length + 5 ≤ f) (H : Hid (PSt P L w (t :: q))) (ht : isT t [105, 102] = true) :
    Calls Tryd.prog 18 #[.pointer (some ⟨P, 0, none⟩)] w (Reads P L w (pBranch f q)) := by
  have A := hid ((Below.refl _ w).alloc (Nat.le_refl _) (.cells znd 26))
  have S0 := hid (H.out.on A.out)
  have G0 := hid (blk_new w 26 znd)
  have hP := H.out.lt
  have HC := hid (fun w' S => hR P L q w' hf S)
  have HT := hid ht
  unfold znd at *
  clear H hR ht
  cases hq : pBranch f q with
  | bad l' =>
    rw [hq] at HC
    go_enter Tryd.func18, Tryd.ntmps18
    go_wp2_with fail
    refine (take_yes P L t q ⟨#[105, 102]⟩ _ S0 HT.out).mono ?_
    rintro e w1 ⟨rfl, s1, b1⟩
    have S9 := hid s1
    have B9 := hid ((But.of (P := P) A.out).trans b1)
    have G9 := hid (blk_but G0.out b1 (by omega))
    have hg9 := blk_lt G9.out
    clear s1 b1 S0 A G0 HT
    go_wp2_with fail
    refine (HC.out _ S9).mono ?_
    rintro e wb ⟨rfl, sb, bb⟩
    have S8 := hid sb
    have B8 := hid (B9.out.trans bb)
    clear sb bb S9 B9 G9
    unfold gaveUp
    go_wp2_with fail
    exact ⟨rfl, rfl, S8.out, B8.out⟩
  | ok x b l' =>
    rw [hq] at HC
    go_enter Tryd.func18, Tryd.ntmps18
    go_wp2_with fail
    refine (take_yes P L t q ⟨#[105, 102]⟩ _ S0 HT.out).mono ?_
    rintro e w1 ⟨rfl, s1, b1⟩
    have S9 := hid s1
    have B9 := hid ((But.of (P := P) A.out).trans b1)
    have G9 := hid (blk_but G0.out b1 (by omega))
    have hg9 := blk_lt G9.out
    clear s1 b1 S0 A G0 HT
    go_wp2_with fail
    refine (HC.out _ S9).mono ?_
    rintro e w2 ⟨⟨nv, kv, rfl, n2⟩, s2, b2⟩
    obtain ⟨a1, q1, a2, q2, rfl, rfl⟩ := ndR_shape n2
    have S3 := hid s2
    have hg2 := blk_lt G9.out
    have N3 := hid (ndR_low hg2 n2)
    have B3 := hid (B9.out.trans b2)
    have G3 := hid (blk_but G9.out b2 (by omega))
    have hg3 := blk_lt G3.out
    obtain ⟨r0, r1, r2, r3, r4, r5, r6⟩ := cells7 G3.out
    obtain ⟨u0, u1, u2, u3, u4, u5, u6⟩ := frees7 G3.out
    clear s2 b2 S9 B9 G9 n2
    unfold ndv
    go_wp2_with fail
    have Z := fin_put hP (Nat.le_refl _) S3.out B3.out G3.out (.int .i64 x.kind) (.int .i64 x.op) (.int .i64 x.num) (.string x.str) (.slice a1 x.names.length q1) (.slice a2 x.kids.length q2) (.int .i64 x.pl)
    exact bodyPost_ret (ret_nd rfl rfl Z.1) rfl ⟨⟨_, _, rfl, ndR_low (Nat.le_succ _) (ndR_aft (put7_aft w2 (Nat.lt_succ_self _) _ _ _ _ _ _ _) N3.out)⟩, Z.2.1, Z.2.2⟩

set_option maxRecDepth 100000 in
set_option maxHeartbeats 3200000 in
theorem stmt_short (f : Nat) (hR : ShortC f) (P : Nat) (L l : List Tok) (w : World) (hf : 20 * l.length + 12 ≤ f) (H : Hid (PSt P L w l)) (h1 : isH l [105, 102] = false) (h2 : isH l [119, 104, 105, 108, 101] = false) :
    Calls Tryd.prog 18 #[.pointer (some ⟨P, 0, none⟩)] w (Reads P L w ((pShort f l).bind fun e _ l => must [59] l fun l => .ok e false l)) := by
  have A := hid ((Below.refl _ w).alloc (Nat.le_refl _) (.cells znd 26))
  have S0 := hid (H.out.on A.out)
  have G0 := hid (blk_new w 26 znd)
  have hP := H.out.lt
  have HC := hid (fun w' S => hR P L l w' hf S)
  have H1 := hid h1
  have H2 := hid h2
  unfold znd at *
  clear H hR h1 h2
  cases hq : pShort f l with
  | bad l' =>
    rw [hq] at HC
    rw [PR.bind_bad]
    go_enter Tryd.func18, Tryd.ntmps18
    go_wp2_with fail
    refine (take_no P L l ⟨#[105, 102]⟩ _ S0 H1.out).mono ?_
    rintro e wn0 ⟨rfl, bn⟩
    have S1 := hid (S0.out.on bn)
    have A1 := hid (below_in A.out (Nat.le_refl _) bn)
    have G1 := hid (blk_on G0.out bn)
    have hzn0 := bn.size
    try simp only [World.size_alloc] at hzn0
    clear bn S0 A G0 H1
    go_wp2_with fail
    refine (take_no P L l ⟨#[119, 104, 105, 108, 101]⟩ _ S1 H2.out).mono ?_
    rintro e wn1 ⟨rfl, bn⟩
    have S2 := hid (S1.out.on bn)
    have A2 := hid (below_in A1.out (Nat.le_refl _) bn)
    have G2 := hid (blk_on G1.out bn)
    have hzn1 := bn.size
    try simp only [World.size_alloc] at hzn1
    clear bn S1 A1 G1 H2
    go_wp2_with fail
    have B2 := hid (But.of (P := P) A2.out)
    refine (HC.out _ S2).mono ?_
    rintro e wb ⟨rfl, sb, bb⟩
    have S8 := hid sb
    have B8 := hid (B2.out.trans bb)
    clear sb bb S2 B2 G2
    unfold gaveUp
    go_wp2_with fail
    exact ⟨rfl, rfl, S8.out, B8.out⟩
  | ok x b l' =>
    rw [hq] at HC
    rw [PR.bind_ok]
    unfold Go.Proofs.YtijbiedblahmhaaDoor.must
    by_cases hh : isH l' [59] = true
    · obtain ⟨u, z, rfl, hu⟩ := isH_some hh
      rw [if_pos hh]
      have HU := hid hu
      clear hh hu
      go_enter Tryd.func18, Tryd.ntmps18
      go_wp2_with fail
      refine (take_no P L l ⟨#[105, 102]⟩ _ S0 H1.out).mono ?_
      rintro e wn0 ⟨rfl, bn⟩
      have S1 := hid (S0.out.on bn)
      have A1 := hid (below_in A.out (Nat.le_refl _) bn)
      have G1 := hid (blk_on G0.out bn)
      have hzn0 := bn.size
      try simp only [World.size_alloc] at hzn0
      clear bn S0 A G0 H1
      go_wp2_with fail
      refine (take_no P L l ⟨#[119, 104, 105, 108, 101]⟩ _ S1 H2.out).mono ?_
      rintro e wn1 ⟨rfl, bn⟩
      have S2 := hid (S1.out.on bn)
      have A2 := hid (below_in A1.out (Nat.le_refl _) bn)
      have G2 := hid (blk_on G1.out bn)
      have hzn1 := bn.size
      try simp only [World.size_alloc] at hzn1
      clear bn S1 A1 G1 H2
      go_wp2_with fail
      refine (HC.out _ S2).mono ?_
      rintro e w2 ⟨⟨nv, kv, rfl, n2⟩, s2, b2⟩
      obtain ⟨a1, q1, a2, q2, rfl, rfl⟩ := ndR_shape n2
      have hz2 := b2.size
      have hg2 := blk_lt G2.out
      have AA := (Below.refl _ w2).alloc (Nat.le_refl _) (.cells (ndc x (.slice a1 x.names.length q1) (.slice a2 x.kids.length q2)) 26)
      have S3 := hid (s2.on AA)
      have B3 := hid (((But.of (P := P) A2.out).trans b2).trans (But.of AA))
      have G3 := hid (blk_on (blk_but G2.out b2 (by omega)) AA)
      have V3 := hid (blk_new w2 26 (ndc x (.slice a1 x.names.length q1) (.slice a2 x.kids.length q2)))
      have N3 := hid (ndR_aft (aft_below AA) (ndR_low hg2 n2))
      clear s2 b2 n2 AA S2 A2 G2 HC
      unfold ndv
      unfold ndc at *
      go_wp2_with fail
      refine (must_yes P L u z ⟨#[59]⟩ _ S3 HU.out).mono ?_
      rintro e w3 ⟨rfl, s3, b3⟩
      have S4 := hid s3
      have B4 := hid (B3.out.trans b3)
      have G4 := hid (blk_but G3.out b3 (by omega))
      have V4 := hid (blk_but V3.out b3 (by omega))
      have N4 := hid (ndR_aft (aft_but b3 (by omega)) N3.out)
      have hg4 := blk_lt G4.out
      have hv4 := blk_lt V4.out
      obtain ⟨r0, r1, r2, r3, r4, r5, r6⟩ := cells7 G4.out
      obtain ⟨u0, u1, u2, u3, u4, u5, u6⟩ := frees7 G4.out
      obtain ⟨v0, v1, v2, v3, v4, v5, v6⟩ := cells7 V4.out
      clear s3 b3 S3 B3 G3 V3 N3 HU
      go_wp2_with fail
      have Z := fin_put hP (Nat.le_refl _) S4.out B4.out G4.out (.int .i64 x.kind) (.int .i64 x.op) (.int .i64 x.num) (.string x.str) (.slice a1 x.names.length q1) (.slice a2 x.kids.length q2) (.int .i64 x.pl)
      exact bodyPost_ret (ret_nd rfl rfl Z.1) rfl ⟨⟨_, _, rfl, ndR_low (Nat.le_succ _) (ndR_aft (put7_aft w3 (Nat.lt_succ_self _) _ _ _ _ _ _ _) N4.out)⟩, Z.2.1, Z.2.2⟩
    · rw [if_neg hh]
      have HN := hid (show isH l' [59] = false by simpa using hh)
      clear hh
      go_enter Tryd.func18, Tryd.ntmps18
      go_wp2_with fail
      refine (take_no P L l ⟨#[105, 102]⟩ _ S0 H1.out).mono ?_
      rintro e wn0 ⟨rfl, bn⟩
      have S1 := hid (S0.out.on bn)
      have A1 := hid (below_in A.out (Nat.le_refl _) bn)
      have G1 := hid (blk_on G0.out bn)
      have hzn0 := bn.size
      try simp only [World.size_alloc] at hzn0
      clear bn S0 A G0 H1
      go_wp2_with fail
      refine (take_no P L l ⟨#[119, 104, 105, 108, 101]⟩ _ S1 H2.out).mono ?_
      rintro e wn1 ⟨rfl, bn⟩
      have S2 := hid (S1.out.on bn)
      have A2 := hid (below_in A1.out (Nat.le_refl _) bn)
      have G2 := hid (blk_on G1.out bn)
      have hzn1 := bn.size
      try simp only [World.size_alloc] at hzn1
      clear bn S1 A1 G1 H2
      go_wp2_with fail
      refine (HC.out _ S2).mono ?_
      rintro e w2 ⟨⟨nv, kv, rfl, n2⟩, s2, b2⟩
      obtain ⟨a1, q1, a2, q2, rfl, rfl⟩ := ndR_shape n2
      have AA := (Below.refl _ w2).alloc (Nat.le_refl _) (.cells (ndc x (.slice a1 x.names.length q1) (.slice a2 x.kids.length q2)) 26)
      have S3 := hid (s2.on AA)
      have B3 := hid (((But.of (P := P) A2.out).trans b2).trans (But.of AA))
      clear s2 b2 n2 AA S2 A2 G2 HC
      unfold ndv
      unfold ndc at *
      go_wp2_with fail
      refine (must_no P L l' ⟨#[59]⟩ _ S3 HN.out).mono ?_
      rintro e w3 ⟨rfl, b3⟩
      have S4 := hid (S3.out.on b3)
      have B4 := hid (B3.out.trans (But.of b3))
      clear b3 S3 B3 HN
      unfold gaveUp
      go_wp2_with fail
      exact ⟨rfl, rfl, S4.out, B4.out⟩

end Go.Proofs.YtijbiedblahmhaaDoor
