/- A short statement: a let, a print, a return, a delete. A short statement that is an expression alone. -/
import Derived.Test.YtijbiedblahmhaaDoorPsLet
import Derived.Test.YtijbiedblahmhaaDoorPsDel
namespace Go.Proofs.YtijbiedblahmhaaDoor
open Go.RowKit

set_option maxRecDepth 100000 in
set_option maxHeartbeats 3200000 in
theorem short_let (f : Nat) (hR : RankC f) (P : Nat) (L : List Tok) (t : Tok) (q : List Tok) (w : World) (hf : 20 * q.length + 10 ≤ f) (H : Hid (PSt P L w (t :: q)))  (ht : isT t [108, 101, 116] = true) :
    Calls Tryd.prog 33 #[.pointer (some ⟨P, 0, none⟩)] w (Reads P L w (pLet f q)) := by
  have A := hid ((Below.refl _ w).alloc (Nat.le_refl _) (.cells znd 26))
  have S0 := hid (H.out.on A.out)
  have G0 := hid (blk_new w 26 znd)
  have hP := H.out.lt
  have HC := hid (fun w' S => let_calls f hR P L q w' (by omega) S)
  have HT := hid ht
  unfold znd at *
  clear H hR ht 
  cases hq : (pLet f q) with
  | bad l' =>
    rw [hq] at HC
    go_enter Tryd.func33, Tryd.ntmps33
    go_wp2_with fail
    refine (take_yes P L t q ⟨#[108, 101, 116]⟩ _ S0 HT.out).mono ?_
    rintro e w1 ⟨rfl, s1, b1⟩
    have S9 := hid s1
    have B9 := hid ((But.of (P := P) A.out).trans b1)
    have G9 := hid (blk_but G0.out b1 (by omega))
    have hg9 := blk_lt G9.out
    clear s1 b1 S0 A G0 HT
    go_wp2_with fail
    refine (HC.out _ S9).mono ?_
    rintro e wb ⟨rfl, sb, bb⟩
    have S8 := hid sb
    have B8 := hid (B9.out.trans bb)
    clear sb bb S9 B9 G9
    unfold gaveUp
    go_wp2_with fail
    exact ⟨rfl, rfl, S8.out, B8.out⟩
  | ok x b l' =>
    rw [hq] at HC
    go_enter Tryd.func33, Tryd.ntmps33
    go_wp2_with fail
    refine (take_yes P L t q ⟨#[108, 101, 116]⟩ _ S0 HT.out).mono ?_
    rintro e w1 ⟨rfl, s1, b1⟩
    have S9 := hid s1
    have B9 := hid ((But.of (P := P) A.out).trans b1)
    have G9 := hid (blk_but G0.out b1 (by omega))
    have hg9 := blk_lt G9.out
    clear s1 b1 S0 A G0 HT
    go_wp2_with fail
    refine (HC.out _ S9).mono ?_
    rintro e w2 ⟨⟨nv, kv, rfl, n2⟩, s2, b2⟩
    obtain ⟨a1, q1, a2, q2, rfl, rfl⟩ := ndR_shape n2
    have S3 := hid s2
    have hg2 := blk_lt G9.out
    have N3 := hid (ndR_low hg2 n2)
    have B3 := hid (B9.out.trans b2)
    have G3 := hid (blk_but G9.out b2 (by omega))
    have hg3 := blk_lt G3.out
    obtain ⟨r0, r1, r2, r3, r4, r5, r6⟩ := cells7 G3.out
    obtain ⟨u0, u1, u2, u3, u4, u5, u6⟩ := frees7 G3.out
    clear s2 b2 S9 B9 G9 n2
    unfold ndv
    go_wp2_with fail
    have Z := fin_put hP (Nat.le_refl _) S3.out B3.out G3.out (.int .i64 x.kind) (.int .i64 x.op) (.int .i64 x.num) (.string x.str) (.slice a1 x.names.length q1) (.slice a2 x.kids.length q2) (.int .i64 x.pl)
    exact bodyPost_ret (ret_nd rfl rfl Z.1) rfl ⟨⟨_, _, rfl, ndR_low (Nat.le_succ _) (ndR_aft (put7_aft w2 (Nat.lt_succ_self _) _ _ _ _ _ _ _) N3.out)⟩, Z.2.1, Z.2.2⟩

set_option maxRecDepth 100000 in
set_option maxHeartbeats 3200000 in
theorem short_print (f : Nat) (hR : RankC f) (P : Nat) (L : List Tok) (t : Tok) (q : List Tok) (w : World) (hf : 20 * q.length + 10 ≤ f) (H : Hid (PSt P L w (t :: q))) (h1 : isT t [108, 101, 116] = false) (ht : isT t [112, 114, 105, 110, 116] = true) :
    Calls Tryd.prog 33 #[.pointer (some ⟨P, 0, none⟩)] w (Reads P L w ((pRank f 1 q).bind fun e _ l => .ok (ndK 27 [e]) false l)) := by
  have A := hid ((Below.refl _ w).alloc (Nat.le_refl _) (.cells znd 26))
  have S0 := hid (H.out.on A.out)
  have G0 := hid (blk_new w 26 znd)
  have hP := H.out.lt
  have HC := hid (show ∀ w', Hid (PSt P L w' q) → Calls Tryd.prog 43 #[.pointer (some ⟨P, 0, none⟩)] w' (Reads P L w' (pRank f 1 q)) from fun w' S => hR 1 P L q w' (by omega) (by omega) (by omega) S)
  have HT := hid ht
  have H1 := hid (show isH (t :: q) [108, 101, 116] = false from h1)
  unfold znd at *
  clear H hR ht h1
  cases hq : pRank f 1 q with
  | bad l' =>
    rw [hq] at HC
    rw [PR.bind_bad]
    go_enter Tryd.func33, Tryd.ntmps33
    go_wp2_with fail
    refine (take_no P L (t :: q) ⟨#[108, 101, 116]⟩ _ S0 H1.out).mono ?_
    rintro e wn0 ⟨rfl, bn⟩
    have S1 := hid (S0.out.on bn)
    have A1 := hid (below_in A.out (Nat.le_refl _) bn)
    have G1 := hid (blk_on G0.out bn)
    have hzn0 := bn.size
    try simp only [World.size_alloc] at hzn0
    clear bn S0 A G0 H1
    go_wp2_with fail
    refine (take_yes P L t q ⟨#[112, 114, 105, 110, 116]⟩ _ S1 HT.out).mono ?_
    rintro e w1 ⟨rfl, s1, b1⟩
    have S9 := hid s1
    have B9 := hid ((But.of (P := P) A1.out).trans b1)
    have G9 := hid (blk_but G1.out b1 (by omega))
    have hg9 := blk_lt G9.out
    clear s1 b1 S1 A1 G1 HT
    go_wp2_with fail
    refine (HC.out _ S9).mono ?_
    rintro e wb ⟨rfl, sb, bb⟩
    have S8 := hid sb
    have B8 := hid (B9.out.trans bb)
    clear sb bb S9 B9 G9
    unfold gaveUp
    go_wp2_with fail
    exact ⟨rfl, rfl, S8.out, B8.out⟩
  | ok x b l' =>
    rw [hq] at HC
    rw [PR.bind_ok]
    go_enter Tryd.func33, Tryd.ntmps33
    go_wp2_with fail
    refine (take_no P L (t :: q) ⟨#[108, 101, 116]⟩ _ S0 H1.out).mono ?_
    rintro e wn0 ⟨rfl, bn⟩
    have S1 := hid (S0.out.on bn)
    have A1 := hid (below_in A.out (Nat.le_refl _) bn)
    have G1 := hid (blk_on G0.out bn)
    have hzn0 := bn.size
    try simp only [World.size_alloc] at hzn0
    clear bn S0 A G0 H1
    go_wp2_with fail
    refine (take_yes P L t q ⟨#[112, 114, 105, 110, 116]⟩ _ S1 HT.out).mono ?_
    rintro e w1 ⟨rfl, s1, b1⟩
    have S9 := hid s1
    have B9 := hid ((But.of (P := P) A1.out).trans b1)
    have G9 := hid (blk_but G1.out b1 (by omega))
    have hg9 := blk_lt G9.out
    clear s1 b1 S1 A1 G1 HT
    go_wp2_with fail
    refine (HC.out _ S9).mono ?_
    rintro e w2 ⟨⟨nv, kv, rfl, n2⟩, s2, b2⟩
    have S2' := hid s2
    have N2' := hid (ndR_low hg9 n2)
    have B2' := hid (B9.out.trans b2)
    have G2' := hid (blk_but G9.out b2 (by omega))
    have hg2 := blk_lt G2'.out
    obtain ⟨r0, r1, r2, r3, r4, r5, r6⟩ := cells7 G2'.out
    obtain ⟨u0, u1, u2, u3, u4, u5, u6⟩ := frees7 G2'.out
    clear s2 b2 S9 B9 G9 HC n2
    unfold ndv
    go_wp2_with fail
    have Z := fin_new (fin_put hP (Nat.le_refl _) S2'.out B2'.out G2'.out (.int .i64 27) (.int .i64 0) (.int .i64 0) (.string ⟨#[]⟩) (.slice none 0 0) (.slice (some ⟨w2.heap.size, 0, none⟩) 1 1) (.int .i64 0)) (.cells (ndc x nv kv) 26)
    have K := kid_new (g := w.heap.size) (T := 26) (Nat.lt_succ_self _) hg2 N2'.out (.int .i64 27) (.int .i64 0) (.int .i64 0) (.string ⟨#[]⟩) (.slice none 0 0) (.slice (some ⟨w2.heap.size, 0, none⟩) 1 1) (.int .i64 0)
    exact bodyPost_ret (ret_nd rfl rfl Z.1) rfl ⟨⟨_, _, rfl, ndR_mk2 ⟨st_nil, kdR_low (Nat.le_succ _) K⟩⟩, Z.2.1, Z.2.2⟩

set_option maxRecDepth 100000 in
set_option maxHeartbeats 3200000 in
theorem short_return (f : Nat) (hR : RankC f) (P : Nat) (L : List Tok) (t : Tok) (q : List Tok) (w : World) (hf : 20 * q.length + 10 ≤ f) (H : Hid (PSt P L w (t :: q))) (h1 : isT t [108, 101, 116] = false) (h2 : isT t [112, 114, 105, 110, 116] = false) (ht : isT t [114, 101, 116, 117, 114, 110] = true) :
    Calls Tryd.prog 33 #[.pointer (some ⟨P, 0, none⟩)] w (Reads P L w ((pRank f 1 q).bind fun e _ l => .ok (ndK 31 [e]) false l)) := by
  have A := hid ((Below.refl _ w).alloc (Nat.le_refl _) (.cells znd 26))
  have S0 := hid (H.out.on A.out)
  have G0 := hid (blk_new w 26 znd)
  have hP := H.out.lt
  have HC := hid (show ∀ w', Hid (PSt P L w' q) → Calls Tryd.prog 43 #[.pointer (some ⟨P, 0, none⟩)] w' (Reads P L w' (pRank f 1 q)) from fun w' S => hR 1 P L q w' (by omega) (by omega) (by omega) S)
  have HT := hid ht
  have H1 := hid (show isH (t :: q) [108, 101, 116] = false from h1)
  have H2 := hid (show isH (t :: q) [112, 114, 105, 110, 116] = false from h2)
  unfold znd at *
  clear H hR ht h1 h2
  cases hq : pRank f 1 q with
  | bad l' =>
    rw [hq] at HC
    rw [PR.bind_bad]
    go_enter Tryd.func33, Tryd.ntmps33
    go_wp2_with fail
    refine (take_no P L (t :: q) ⟨#[108, 101, 116]⟩ _ S0 H1.out).mono ?_
    rintro e wn0 ⟨rfl, bn⟩
    have S1 := hid (S0.out.on bn)
    have A1 := hid (below_in A.out (Nat.le_refl _) bn)
    have G1 := hid (blk_on G0.out bn)
    have hzn0 := bn.size
    try simp only [World.size_alloc] at hzn0
    clear bn S0 A G0 H1
    go_wp2_with fail
    refine (take_no P L (t :: q) ⟨#[112, 114, 105, 110, 116]⟩ _ S1 H2.out).mono ?_
    rintro e wn1 ⟨rfl, bn⟩
    have S2 := hid (S1.out.on bn)
    have A2 := hid (below_in A1.out (Nat.le_refl _) bn)
    have G2 := hid (blk_on G1.out bn)
    have hzn1 := bn.size
    try simp only [World.size_alloc] at hzn1
    clear bn S1 A1 G1 H2
    go_wp2_with fail
    refine (take_yes P L t q ⟨#[114, 101, 116, 117, 114, 110]⟩ _ S2 HT.out).mono ?_
    rintro e w1 ⟨rfl, s1, b1⟩
    have S9 := hid s1
    have B9 := hid ((But.of (P := P) A2.out).trans b1)
    have G9 := hid (blk_but G2.out b1 (by omega))
    have hg9 := blk_lt G9.out
    clear s1 b1 S2 A2 G2 HT
    go_wp2_with fail
    refine (HC.out _ S9).mono ?_
    rintro e wb ⟨rfl, sb, bb⟩
    have S8 := hid sb
    have B8 := hid (B9.out.trans bb)
    clear sb bb S9 B9 G9
    unfold gaveUp
    go_wp2_with fail
    exact ⟨rfl, rfl, S8.out, B8.out⟩
  | ok x b l' =>
    rw [hq] at HC
    rw [PR.bind_ok]
    go_enter Tryd.func33, Tryd.ntmps33
    go_wp2_with fail
    refine (take_no P L (t :: q) ⟨#[108, 101, 116]⟩ _ S0 H1.out).mono ?_
    rintro e wn0 ⟨rfl, bn⟩
    have S1 := hid (S0.out.on bn)
    have A1 := hid (below_in A.out (Nat.le_refl _) bn)
    have G1 := hid (blk_on G0.out bn)
    have hzn0 := bn.size
    try simp only [World.size_alloc] at hzn0
    clear bn S0 A G0 H1
    go_wp2_with fail
    refine (take_no P L (t :: q) ⟨#[112, 114, 105, 110, 116]⟩ _ S1 H2.out).mono ?_
    rintro e wn1 ⟨rfl, bn⟩
    have S2 := hid (S1.out.on bn)
    have A2 := hid (below_in A1.out (Nat.le_refl _) bn)
    have G2 := hid (blk_on G1.out bn)
    have hzn1 := bn.size
    try simp only [World.size_alloc] at hzn1
    clear bn S1 A1 G1 H2
    go_wp2_with fail
    refine (take_yes P L t q ⟨#[114, 101, 116, 117, 114, 110]⟩ _ S2 HT.out).mono ?_
    rintro e w1 ⟨rfl, s1, b1⟩
    have S9 := hid s1
    have B9 := hid ((But.of (P := P) A2.out).trans b1)
    have G9 := hid (blk_but G2.out b1 (by omega))
    have hg9 := blk_lt G9.out
    clear s1 b1 S2 A2 G2 HT
    go_wp2_with fail
    refine (HC.out _ S9).mono ?_
    rintro e w2 ⟨⟨nv, kv, rfl, n2⟩, s2, b2⟩
    have S2' := hid s2
    have N2' := hid (ndR_low hg9 n2)
    have B2' := hid (B9.out.trans b2)
    have G2' := hid (blk_but G9.out b2 (by omega))
    have hg2 := blk_lt G2'.out
    obtain ⟨r0, r1, r2, r3, r4, r5, r6⟩ := cells7 G2'.out
    obtain ⟨u0, u1, u2, u3, u4, u5, u6⟩ := frees7 G2'.out
    clear s2 b2 S9 B9 G9 HC n2
    unfold ndv
    go_wp2_with fail
    have Z := fin_new (fin_put hP (Nat.le_refl _) S2'.out B2'.out G2'.out (.int .i64 31) (.int .i64 0) (.int .i64 0) (.string ⟨#[]⟩) (.slice none 0 0) (.slice (some ⟨w2.heap.size, 0, none⟩) 1 1) (.int .i64 0)) (.cells (ndc x nv kv) 26)
    have K := kid_new (g := w.heap.size) (T := 26) (Nat.lt_succ_self _) hg2 N2'.out (.int .i64 31) (.int .i64 0) (.int .i64 0) (.string ⟨#[]⟩) (.slice none 0 0) (.slice (some ⟨w2.heap.size, 0, none⟩) 1 1) (.int .i64 0)
    exact bodyPost_ret (ret_nd rfl rfl Z.1) rfl ⟨⟨_, _, rfl, ndR_mk2 ⟨st_nil, kdR_low (Nat.le_succ _) K⟩⟩, Z.2.1, Z.2.2⟩

set_option maxRecDepth 100000 in
set_option maxHeartbeats 3200000 in
theorem short_del (f : Nat) (hR : PostC f) (P : Nat) (L : List Tok) (t : Tok) (q : List Tok) (w : World) (hf : 20 * q.length + 3 ≤ f) (H : Hid (PSt P L w (t :: q))) (h1 : isT t [108, 101, 116] = false) (h2 : isT t [112, 114, 105, 110, 116] = false) (h3 : isT t [114, 101, 116, 117, 114, 110] = false) (ht : isT t [100, 101, 108, 101, 116, 101] = true) :
    Calls Tryd.prog 33 #[.pointer (some ⟨P, 0, none⟩)] w (Reads P L w (pDel f q)) := by
  have A := hid ((Below.refl _ w).alloc (Nat.le_refl _) (.cells znd 26))
  have S0 := hid (H.out.on A.out)
  have G0 := hid (blk_new w 26 znd)
  have hP := H.out.lt
  have HC := hid (fun w' S => del_calls f hR P L q w' hf S)
  have HT := hid ht
  have H1 := hid (show isH (t :: q) [108, 101, 116] = false from h1)
  have H2 := hid (show isH (t :: q) [112, 114, 105, 110, 116] = false from h2)
  have H3 := hid (show isH (t :: q) [114, 101, 116, 117, 114, 110] = false from h3)
  unfold znd at *
  clear H hR ht h1 h2 h3
  cases hq : (pDel f q) with
  | bad l' =>
    rw [hq] at HC
    go_enter Tryd.func33, Tryd.ntmps33
    go_wp2_with fail
    refine (take_no P L (t :: q) ⟨#[108, 101, 116]⟩ _ S0 H1.out).mono ?_
    rintro e wn0 ⟨rfl, bn⟩
    have S1 := hid (S0.out.on bn)
    have A1 := hid (below_in A.out (Nat.le_refl _) bn)
    have G1 := hid (blk_on G0.out bn)
    have hzn0 := bn.size
    try simp only [World.size_alloc] at hzn0
    clear bn S0 A G0 H1
    go_wp2_with fail
    refine (take_no P L (t :: q) ⟨#[112, 114, 105, 110, 116]⟩ _ S1 H2.out).mono ?_
    rintro e wn1 ⟨rfl, bn⟩
    have S2 := hid (S1.out.on bn)
    have A2 := hid (below_in A1.out (Nat.le_refl _) bn)
    have G2 := hid (blk_on G1.out bn)
    have hzn1 := bn.size
    try simp only [World.size_alloc] at hzn1
    clear bn S1 A1 G1 H2
    go_wp2_with fail
    refine (take_no P L (t :: q) ⟨#[114, 101, 116, 117, 114, 110]⟩ _ S2 H3.out).mono ?_
    rintro e wn2 ⟨rfl, bn⟩
    have S3 := hid (S2.out.on bn)
    have A3 := hid (below_in A2.out (Nat.le_refl _) bn)
    have G3 := hid (blk_on G2.out bn)
    have hzn2 := bn.size
    try simp only [World.size_alloc] at hzn2
    clear bn S2 A2 G2 H3
    go_wp2_with fail
    refine (take_yes P L t q ⟨#[100, 101, 108, 101, 116, 101]⟩ _ S3 HT.out).mono ?_
    rintro e w1 ⟨rfl, s1, b1⟩
    have S9 := hid s1
    have B9 := hid ((But.of (P := P) A3.out).trans b1)
    have G9 := hid (blk_but G3.out b1 (by omega))
    have hg9 := blk_lt G9.out
    clear s1 b1 S3 A3 G3 HT
    go_wp2_with fail
    refine (HC.out _ S9).mono ?_
    rintro e wb ⟨rfl, sb, bb⟩
    have S8 := hid sb
    have B8 := hid (B9.out.trans bb)
    clear sb bb S9 B9 G9
    unfold gaveUp
    go_wp2_with fail
    exact ⟨rfl, rfl, S8.out, B8.out⟩
  | ok x b l' =>
    rw [hq] at HC
    go_enter Tryd.func33, Tryd.ntmps33
    go_wp2_with fail
    refine (take_no P L (t :: q) ⟨#[108, 101, 116]⟩ _ S0 H1.out).mono ?_
    rintro e wn0 ⟨rfl, bn⟩
    have S1 := hid (S0.out.on bn)
    have A1 := hid (below_in A.out (Nat.le_refl _) bn)
    have G1 := hid (blk_on G0.out bn)
    have hzn0 := bn.size
    try simp only [World.size_alloc] at hzn0
    clear bn S0 A G0 H1
    go_wp2_with fail
    refine (take_no P L (t :: q) ⟨#[112, 114, 105, 110, 116]⟩ _ S1 H2.out).mono ?_
    rintro e wn1 ⟨rfl, bn⟩
    have S2 := hid (S1.out.on bn)
    have A2 := hid (below_in A1.out (Nat.le_refl _) bn)
    have G2 := hid (blk_on G1.out bn)
    have hzn1 := bn.size
    try simp only [World.size_alloc] at hzn1
    clear bn S1 A1 G1 H2
    go_wp2_with fail
    refine (take_no P L (t :: q) ⟨#[114, 101, 116, 117, 114, 110]⟩ _ S2 H3.out).mono ?_
    rintro e wn2 ⟨rfl, bn⟩
    have S3 := hid (S2.out.on bn)
    have A3 := hid (below_in A2.out (Nat.le_refl _) bn)
    have G3 := hid (blk_on G2.out bn)
    have hzn2 := bn.size
    try simp only [World.size_alloc] at hzn2
    clear bn S2 A2 G2 H3
    go_wp2_with fail
    refine (take_yes P L t q ⟨#[100, 101, 108, 101, 116, 101]⟩ _ S3 HT.out).mono ?_
    rintro e w1 ⟨rfl, s1, b1⟩
    have S9 := hid s1
    have B9 := hid ((But.of (P := P) A3.out).trans b1)
    have G9 := hid (blk_but G3.out b1 (by omega))
    have hg9 := blk_lt G9.out
    clear s1 b1 S3 A3 G3 HT
    go_wp2_with fail
    refine (HC.out _ S9).mono ?_
    rintro e w2 ⟨⟨nv, kv, rfl, n2⟩, s2, b2⟩
    obtain ⟨a1, q1, a2, q2, rfl, rfl⟩ := ndR_shape n2
    have S3 := hid s2
    have hg2 := blk_lt G9.out
    have N3 := hid (ndR_low hg2 n2)
    have B3 := hid (B9.out.trans b2)
    have G3 := hid (blk_but G9.out b2 (by omega))
    have hg3 := blk_lt G3.out
    obtain ⟨r0, r1, r2, r3, r4, r5, r6⟩ := cells7 G3.out
    obtain ⟨u0, u1, u2, u3, u4, u5, u6⟩ := frees7 G3.out
    clear s2 b2 S9 B9 G9 n2
    unfold ndv
    go_wp2_with fail
    have Z := fin_put hP (Nat.le_refl _) S3.out B3.out G3.out (.int .i64 x.kind) (.int .i64 x.op) (.int .i64 x.num) (.string x.str) (.slice a1 x.names.length q1) (.slice a2 x.kids.length q2) (.int .i64 x.pl)
    exact bodyPost_ret (ret_nd rfl rfl Z.1) rfl ⟨⟨_, _, rfl, ndR_low (Nat.le_succ _) (ndR_aft (put7_aft w2 (Nat.lt_succ_self _) _ _ _ _ _ _ _) N3.out)⟩, Z.2.1, Z.2.2⟩

end Go.Proofs.YtijbiedblahmhaaDoor

namespace Go.Proofs.YtijbiedblahmhaaDoor
open Go.RowKit

set_option maxRecDepth 100000 in
set_option maxHeartbeats 6400000 in
theorem short_bad (f : Nat) (hR : RankC f) (P : Nat) (L l : List Tok) (w : World) (hf : 20 * l.length + 10 ≤ f) (H : Hid (PSt P L w l)) (h1 : isH l [108, 101, 116] = false) (h2 : isH l [112, 114, 105, 110, 116] = false) (h3 : isH l [114, 101, 116, 117, 114, 110] = false) (h4 : isH l [100, 101, 108, 101, 116, 101] = false) (l' : List Tok) (hq : pRank f 1 l = .bad l') :
    Calls Tryd.prog 33 #[.pointer (some ⟨P, 0, none⟩)] w (Reads P L w (.bad l')) := by
  have A := hid ((Below.refl _ w).alloc (Nat.le_refl _) (.cells znd 26))
  have S0 := hid (H.out.on A.out)
  have G0 := hid (blk_new w 26 znd)
  have hP := H.out.lt
  have HC := hid (show ∀ w', Hid (PSt P L w' l) → Calls Tryd.prog 43 #[.pointer (some ⟨P, 0, none⟩)] w' (Reads P L w' (pRank f 1 l)) from fun w' S => hR 1 P L l w' (by omega) (by omega) (by omega) S)
  have H1 := hid h1
  have H2 := hid h2
  have H3 := hid h3
  have H4 := hid h4
  rw [hq] at HC
  unfold znd at *
  clear H hR h1 h2 h3 h4
  go_enter Tryd.func33, Tryd.ntmps33
  go_wp2_with fail
  refine (take_no P L l ⟨#[108, 101, 116]⟩ _ S0 H1.out).mono ?_
  rintro e wn0 ⟨rfl, bn⟩
  have S1 := hid (S0.out.on bn)
  have A1 := hid (below_in A.out (Nat.le_refl _) bn)
  have G1 := hid (blk_on G0.out bn)
  have hzn0 := bn.size
  try simp only [World.size_alloc] at hzn0
  clear bn S0 A G0 H1
  go_wp2_with fail
  refine (take_no P L l ⟨#[112, 114, 105, 110, 116]⟩ _ S1 H2.out).mono ?_
  rintro e wn1 ⟨rfl, bn⟩
  have S2 := hid (S1.out.on bn)
  have A2 := hid (below_in A1.out (Nat.le_refl _) bn)
  have G2 := hid (blk_on G1.out bn)
  have hzn1 := bn.size
  try simp only [World.size_alloc] at hzn1
  clear bn S1 A1 G1 H2
  go_wp2_with fail
  refine (take_no P L l ⟨#[114, 101, 116, 117, 114, 110]⟩ _ S2 H3.out).mono ?_
  rintro e wn2 ⟨rfl, bn⟩
  have S3 := hid (S2.out.on bn)
  have A3 := hid (below_in A2.out (Nat.le_refl _) bn)
  have G3 := hid (blk_on G2.out bn)
  have hzn2 := bn.size
  try simp only [World.size_alloc] at hzn2
  clear bn S2 A2 G2 H3
  go_wp2_with fail
  refine (take_no P L l ⟨#[100, 101, 108, 101, 116, 101]⟩ _ S3 H4.out).mono ?_
  rintro e wn3 ⟨rfl, bn⟩
  have S4 := hid (S3.out.on bn)
  have A4 := hid (below_in A3.out (Nat.le_refl _) bn)
  have G4 := hid (blk_on G3.out bn)
  have hzn3 := bn.size
  try simp only [World.size_alloc] at hzn3
  clear bn S3 A3 G3 H4
  go_wp2_with fail
  have B4 := hid (But.of (P := P) A4.out)
  refine (HC.out _ S4).mono ?_
  rintro e wb ⟨rfl, sb, bb⟩
  have S8 := hid sb
  have B8 := hid (B4.out.trans bb)
  clear sb bb S4 B4 G4
  unfold gaveUp
  go_wp2_with fail
  exact ⟨rfl, rfl, S8.out, B8.out⟩

set_option maxRecDepth 100000 in
set_option maxHeartbeats 6400000 in
theorem short_expr (f : Nat) (hR : RankC f) (P : Nat) (L l : List Tok) (w : World) (hf : 20 * l.length + 10 ≤ f) (H : Hid (PSt P L w l)) (h1 : isH l [108, 101, 116] = false) (h2 : isH l [112, 114, 105, 110, 116] = false) (h3 : isH l [114, 101, 116, 117, 114, 110] = false) (h4 : isH l [100, 101, 108, 101, 116, 101] = false) (x : Nd) (b : Bool) (l' : List Tok) (hq : pRank f 1 l = .ok x b l') (hn : ¬ (b = true ∧ isH l' [61] = true)) :
    Calls Tryd.prog 33 #[.pointer (some ⟨P, 0, none⟩)] w (Reads P L w (.ok (ndK 32 [x]) false l')) := by
  have A := hid ((Below.refl _ w).alloc (Nat.le_refl _) (.cells znd 26))
  have S0 := hid (H.out.on A.out)
  have G0 := hid (blk_new w 26 znd)
  have hP := H.out.lt
  have HC := hid (show ∀ w', Hid (PSt P L w' l) → Calls Tryd.prog 43 #[.pointer (some ⟨P, 0, none⟩)] w' (Reads P L w' (pRank f 1 l)) from fun w' S => hR 1 P L l w' (by omega) (by omega) (by omega) S)
  have HM := (may f).rank 1 l (pst_gt H.out)
  rw [hq] at HM
  obtain ⟨pre, u, he, _, hp⟩ := last_of H.out HM
  have HE := hid he
  have H1 := hid h1
  have H2 := hid h2
  have H3 := hid h3
  have H4 := hid h4
  rw [hq] at HC
  unfold znd at *
  clear H hR h1 h2 h3 h4 HM he
  cases b with
  | false =>
    have HP := hid hp
    clear hp hn
    go_enter Tryd.func33, Tryd.ntmps33
    go_wp2_with fail
    refine (take_no P L l ⟨#[108, 101, 116]⟩ _ S0 H1.out).mono ?_
    rintro e wn0 ⟨rfl, bn⟩
    have S1 := hid (S0.out.on bn)
    have A1 := hid (below_in A.out (Nat.le_refl _) bn)
    have G1 := hid (blk_on G0.out bn)
    have hzn0 := bn.size
    try simp only [World.size_alloc] at hzn0
    clear bn S0 A G0 H1
    go_wp2_with fail
    refine (take_no P L l ⟨#[112, 114, 105, 110, 116]⟩ _ S1 H2.out).mono ?_
    rintro e wn1 ⟨rfl, bn⟩
    have S2 := hid (S1.out.on bn)
    have A2 := hid (below_in A1.out (Nat.le_refl _) bn)
    have G2 := hid (blk_on G1.out bn)
    have hzn1 := bn.size
    try simp only [World.size_alloc] at hzn1
    clear bn S1 A1 G1 H2
    go_wp2_with fail
    refine (take_no P L l ⟨#[114, 101, 116, 117, 114, 110]⟩ _ S2 H3.out).mono ?_
    rintro e wn2 ⟨rfl, bn⟩
    have S3 := hid (S2.out.on bn)
    have A3 := hid (below_in A2.out (Nat.le_refl _) bn)
    have G3 := hid (blk_on G2.out bn)
    have hzn2 := bn.size
    try simp only [World.size_alloc] at hzn2
    clear bn S2 A2 G2 H3
    go_wp2_with fail
    refine (take_no P L l ⟨#[100, 101, 108, 101, 116, 101]⟩ _ S3 H4.out).mono ?_
    rintro e wn3 ⟨rfl, bn⟩
    have S4 := hid (S3.out.on bn)
    have A4 := hid (below_in A3.out (Nat.le_refl _) bn)
    have G4 := hid (blk_on G3.out bn)
    have hzn3 := bn.size
    try simp only [World.size_alloc] at hzn3
    clear bn S3 A3 G3 H4
    go_wp2_with fail
    refine (HC.out _ S4).mono ?_
    rintro e w2 ⟨⟨nv, kv, rfl, n2⟩, s2, b2⟩
    obtain ⟨a1, q1, a2, q2, rfl, rfl⟩ := ndR_shape n2
    have hz2 := b2.size
    have hg4 := blk_lt G4.out
    have AA := (Below.refl _ w2).alloc (Nat.le_refl _) (.cells (ndc x (.slice a1 x.names.length q1) (.slice a2 x.kids.length q2)) 26)
    have S5 := hid (s2.on AA)
    have B5 := hid (((But.of (P := P) A4.out).trans b2).trans (But.of AA))
    have G5 := hid (blk_on (blk_but G4.out b2 (by omega)) AA)
    have V5 := hid (blk_new w2 26 (ndc x (.slice a1 x.names.length q1) (.slice a2 x.kids.length q2)))
    have N5 := hid (ndR_aft (aft_below AA) (ndR_low hg4 n2))
    have HQ := hid (fun w' (S : Hid (PSt P L w' l')) => can_calls P L l' pre u x a1 a2 q1 q2 w' S HE.out)
    rw [HP.out] at HQ
    clear s2 b2 n2 AA S4 A4 G4 HC HE HP
    unfold ndv at *
    unfold ndc at *
    obtain ⟨c0, c1, c2, c3, c4, c5, c6⟩ := cells7 V5.out
    go_wp2_with fail
    refine (HQ.out _ S5).mono ?_
    rintro e w3 ⟨rfl, b3⟩
    have S6 := hid (S5.out.on b3)
    have B6 := hid (B5.out.trans (But.of b3))
    have G6 := hid (blk_on G5.out b3)
    have V6 := hid (blk_on V5.out b3)
    have N6 := hid (ndR_aft (aft_below b3) N5.out)
    have hz3 := b3.size
    simp only [World.size_alloc] at hz3
    clear b3 S5 B5 G5 V5 N5 HQ c0 c1 c2 c3 c4 c5 c6
    obtain ⟨c0, c1, c2, c3, c4, c5, c6⟩ := cells7 V6.out
    obtain ⟨r0, r1, r2, r3, r4, r5, r6⟩ := cells7 G6.out
    obtain ⟨u0, u1, u2, u3, u4, u5, u6⟩ := frees7 G6.out
    have hg9 := blk_lt G6.out
    have hv9 := blk_lt V6.out
    go_wp2_with fail
    have Z := fin_new (fin_put hP (Nat.le_refl _) S6.out B6.out G6.out (.int .i64 32) (.int .i64 0) (.int .i64 0) (.string ⟨#[]⟩) (.slice none 0 0) (.slice (some ⟨w3.heap.size, 0, none⟩) 1 1) (.int .i64 0)) (.cells (ndc x (.slice a1 x.names.length q1) (.slice a2 x.kids.length q2)) 26)
    have K := kid_new (g := w.heap.size) (T := 26) (Nat.lt_succ_self _) hg9 N6.out (.int .i64 32) (.int .i64 0) (.int .i64 0) (.string ⟨#[]⟩) (.slice none 0 0) (.slice (some ⟨w3.heap.size, 0, none⟩) 1 1) (.int .i64 0)
    exact bodyPost_ret (ret_nd rfl rfl Z.1) rfl ⟨⟨_, _, rfl, ndR_mk2 ⟨st_nil, kdR_low (Nat.le_succ _) K⟩⟩, Z.2.1, Z.2.2⟩
  | true =>
    have HP := hid hp
    have HX := hid (show isH l' (⟨#[61]⟩ : ByteArray).data.toList = false by simpa using hn)
    clear hp hn
    go_enter Tryd.func33, Tryd.ntmps33
    go_wp2_with fail
    refine (take_no P L l ⟨#[108, 101, 116]⟩ _ S0 H1.out).mono ?_
    rintro e wn0 ⟨rfl, bn⟩
    have S1 := hid (S0.out.on bn)
    have A1 := hid (below_in A.out (Nat.le_refl _) bn)
    have G1 := hid (blk_on G0.out bn)
    have hzn0 := bn.size
    try simp only [World.size_alloc] at hzn0
    clear bn S0 A G0 H1
    go_wp2_with fail
    refine (take_no P L l ⟨#[112, 114, 105, 110, 116]⟩ _ S1 H2.out).mono ?_
    rintro e wn1 ⟨rfl, bn⟩
    have S2 := hid (S1.out.on bn)
    have A2 := hid (below_in A1.out (Nat.le_refl _) bn)
    have G2 := hid (blk_on G1.out bn)
    have hzn1 := bn.size
    try simp only [World.size_alloc] at hzn1
    clear bn S1 A1 G1 H2
    go_wp2_with fail
    refine (take_no P L l ⟨#[114, 101, 116, 117, 114, 110]⟩ _ S2 H3.out).mono ?_
    rintro e wn2 ⟨rfl, bn⟩
    have S3 := hid (S2.out.on bn)
    have A3 := hid (below_in A2.out (Nat.le_refl _) bn)
    have G3 := hid (blk_on G2.out bn)
    have hzn2 := bn.size
    try simp only [World.size_alloc] at hzn2
    clear bn S2 A2 G2 H3
    go_wp2_with fail
    refine (take_no P L l ⟨#[100, 101, 108, 101, 116, 101]⟩ _ S3 H4.out).mono ?_
    rintro e wn3 ⟨rfl, bn⟩
    have S4 := hid (S3.out.on bn)
    have A4 := hid (below_in A3.out (Nat.le_refl _) bn)
    have G4 := hid (blk_on G3.out bn)
    have hzn3 := bn.size
    try simp only [World.size_alloc] at hzn3
    clear bn S3 A3 G3 H4
    go_wp2_with fail
    refine (HC.out _ S4).mono ?_
    rintro e w2 ⟨⟨nv, kv, rfl, n2⟩, s2, b2⟩
    obtain ⟨a1, q1, a2, q2, rfl, rfl⟩ := ndR_shape n2
    have hz2 := b2.size
    have hg4 := blk_lt G4.out
    have AA := (Below.refl _ w2).alloc (Nat.le_refl _) (.cells (ndc x (.slice a1 x.names.length q1) (.slice a2 x.kids.length q2)) 26)
    have S5 := hid (s2.on AA)
    have B5 := hid (((But.of (P := P) A4.out).trans b2).trans (But.of AA))
    have G5 := hid (blk_on (blk_but G4.out b2 (by omega)) AA)
    have V5 := hid (blk_new w2 26 (ndc x (.slice a1 x.names.length q1) (.slice a2 x.kids.length q2)))
    have N5 := hid (ndR_aft (aft_below AA) (ndR_low hg4 n2))
    have HQ := hid (fun w' (S : Hid (PSt P L w' l')) => can_calls P L l' pre u x a1 a2 q1 q2 w' S HE.out)
    rw [HP.out] at HQ
    clear s2 b2 n2 AA S4 A4 G4 HC HE HP
    unfold ndv at *
    unfold ndc at *
    obtain ⟨c0, c1, c2, c3, c4, c5, c6⟩ := cells7 V5.out
    go_wp2_with fail
    refine (HQ.out _ S5).mono ?_
    rintro e w3 ⟨rfl, b3⟩
    have S6 := hid (S5.out.on b3)
    have B6 := hid (B5.out.trans (But.of b3))
    have G6 := hid (blk_on G5.out b3)
    have V6 := hid (blk_on V5.out b3)
    have N6 := hid (ndR_aft (aft_below b3) N5.out)
    have hz3 := b3.size
    simp only [World.size_alloc] at hz3
    clear b3 S5 B5 G5 V5 N5 HQ c0 c1 c2 c3 c4 c5 c6
    go_wp2_with fail
    refine (take_no P L l' ⟨#[61]⟩ _ S6 HX.out).mono ?_
    rintro e w4 ⟨rfl, b4⟩
    have S7 := hid (S6.out.on b4)
    have B7 := hid (B6.out.trans (But.of b4))
    have G7 := hid (blk_on G6.out b4)
    have V7 := hid (blk_on V6.out b4)
    have N7 := hid (ndR_aft (aft_below b4) N6.out)
    have hz4 := b4.size
    clear b4 S6 B6 G6 V6 N6 HX
    obtain ⟨c0, c1, c2, c3, c4, c5, c6⟩ := cells7 V7.out
    obtain ⟨r0, r1, r2, r3, r4, r5, r6⟩ := cells7 G7.out
    obtain ⟨u0, u1, u2, u3, u4, u5, u6⟩ := frees7 G7.out
    have hg9 := blk_lt G7.out
    have hv9 := blk_lt V7.out
    go_wp2_with fail
    have Z := fin_new (fin_put hP (Nat.le_refl _) S7.out B7.out G7.out (.int .i64 32) (.int .i64 0) (.int .i64 0) (.string ⟨#[]⟩) (.slice none 0 0) (.slice (some ⟨w4.heap.size, 0, none⟩) 1 1) (.int .i64 0)) (.cells (ndc x (.slice a1 x.names.length q1) (.slice a2 x.kids.length q2)) 26)
    have K := kid_new (g := w.heap.size) (T := 26) (Nat.lt_succ_self _) hg9 N7.out (.int .i64 32) (.int .i64 0) (.int .i64 0) (.string ⟨#[]⟩) (.slice none 0 0) (.slice (some ⟨w4.heap.size, 0, none⟩) 1 1) (.int .i64 0)
    exact bodyPost_ret (ret_nd rfl rfl Z.1) rfl ⟨⟨_, _, rfl, ndR_mk2 ⟨st_nil, kdR_low (Nat.le_succ _) K⟩⟩, Z.2.1, Z.2.2⟩

end Go.Proofs.YtijbiedblahmhaaDoor
