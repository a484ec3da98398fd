/- Atoms of more: brackets, an object, a function, a built-in call. -/
import Derived.Test.YtijbiedblahmhaaDoorPsAtom2
namespace Go.Proofs.YtijbiedblahmhaaDoor
open Go.RowKit

set_option maxRecDepth 100000 in
set_option maxHeartbeats 6400000 in
theorem atom_par (f : Nat) (hR : RankC f) (P : Nat) (L : List Tok) (k : Int) (x : ByteArray) (n p : Int) (r : List Tok) (w : World) (hf : 20 * r.length + 10 ≤ f) (H : Hid (PSt P L w (⟨k, x, n, p⟩ :: r))) (ht : isT ⟨k, x, n, p⟩ [40] = true) :
    Calls Tryd.prog 67 #[.pointer (some ⟨P, 0, none⟩)] w (Reads P L w ((pRank f 1 r).bind fun e _ l => must [41] l fun l => .ok e false l)) := by
  obtain ⟨hk3, hk4, hk1⟩ := isT_134 ht
  simp only at hk3 hk4 hk1
  have HF := hid (atom_wpar (q := r) ht)
  have HD := hid (show ∀ w', Hid (PSt P L w' r) → Calls Tryd.prog 43 #[.pointer (some ⟨P, 0, none⟩)] w' (Reads P L w' (pRank f 1 r)) from fun w' S => hR 1 P L r w' (by omega) (by omega) (by omega) S)
  clear hR
  have A := hid ((Below.refl _ w).alloc (Nat.le_refl _) (.cells znd 26))
  have S0 := hid (H.out.on A.out)
  have G0 := hid (blk_new w 26 znd)
  have hP := H.out.lt
  have HC := hid (here_calls P L (⟨k, x, n, p⟩ :: r) _ S0)
  unfold Tok.val cur at HC
  simp only [List.headD_cons] at HC
  unfold znd at *
  clear H ht
  cases hq : pRank f 1 r with
  | bad l' =>
    rw [hq] at HD
    rw [PR.bind_bad]
    go_enter Tryd.func67, Tryd.ntmps67
    go_wp2_with fail
    refine HC.out.mono ?_
    rintro e w1 ⟨rfl, b1⟩
    have A1 := (Below.refl _ w1).alloc (Nat.le_refl _) (.cells #[.int .i64 k, .string x, .int .i64 n, .int .i64 p] 41)
    have A2 := (Below.refl _ (w1.alloc (.cells #[.int .i64 k, .string x, .int .i64 n, .int .i64 p] 41))).alloc (Nat.le_refl _) (.cells #[.string ⟨#[40]⟩, .string ⟨#[123]⟩, .string ⟨#[102, 110]⟩, .string ⟨#[110, 117, 108, 108]⟩, .string ⟨#[116, 114, 117, 101]⟩, .string ⟨#[102, 97, 108, 115, 101]⟩, .string ⟨#[116, 104, 105, 115]⟩] 9)
    have S1 := hid (((S0.out.on b1).on A1).on A2)
    have B1 := hid (((But.of (P := P) (below_in A.out (Nat.le_refl _) b1)).trans (But.of A1)).trans (But.of A2))
    have G1 := hid (blk_on (blk_on (blk_on G0.out b1) A1) A2)
    have V1 := hid (show StrsIn (w1.heap.size + 2) (.slice (some ⟨w1.heap.size + 1, 0, none⟩) 7 7) atomW ((w1.alloc (.cells #[.int .i64 k, .string x, .int .i64 n, .int .i64 p] 41)).alloc (.cells #[.string ⟨#[40]⟩, .string ⟨#[123]⟩, .string ⟨#[102, 110]⟩, .string ⟨#[110, 117, 108, 108]⟩, .string ⟨#[116, 114, 117, 101]⟩, .string ⟨#[102, 97, 108, 115, 101]⟩, .string ⟨#[116, 104, 105, 115]⟩] 9)) from by
      have := atomW_new (w1.alloc (.cells #[.int .i64 k, .string x, .int .i64 n, .int .i64 p] 41))
      simpa using this)
    have hg1 := blk_lt G1.out
    clear b1 S0 A G0 HC A1 A2
    go_wp2_with fail
    refine (takeone_yes P L ⟨k, x, n, p⟩ r atomW ⟨#[40]⟩ (w1.heap.size + 2) _ _ (by simp) S1 V1 (by decide) HF.out).mono ?_
    rintro e w2 ⟨rfl, s2, b2⟩
    have S2 := hid s2
    have B2 := hid (B1.out.trans b2)
    have G2 := hid (blk_but G1.out b2 (by omega))
    have hg2 := blk_lt G2.out
    obtain ⟨r0, r1, r2, r3, r4, r5, r6⟩ := cells7 G2.out
    obtain ⟨u0, u1, u2, u3, u4, u5, u6⟩ := frees7 G2.out
    clear s2 b2 S1 V1 B1 G1 HF
    go_wp2_with fail
    clear r0 r1 r2 r3 r4 r5 r6 u0 u1 u2 u3 u4 u5 u6
    refine (HD.out _ S2).mono ?_
    rintro e wb ⟨rfl, sb, bb⟩
    have S8 := hid sb
    have B8 := hid (B2.out.trans bb)
    clear sb bb S2 B2 G2
    unfold gaveUp
    go_wp2_with fail
    exact ⟨rfl, rfl, S8.out, B8.out⟩
  | ok y b l' =>
    rw [hq] at HD
    rw [PR.bind_ok]
    unfold Go.Proofs.YtijbiedblahmhaaDoor.must
    by_cases hh : isH l' [41] = true
    · obtain ⟨u, z, rfl, hu⟩ := isH_some hh
      rw [if_pos hh]
      have HU := hid hu
      clear hh hu
      go_enter Tryd.func67, Tryd.ntmps67
      go_wp2_with fail
      refine HC.out.mono ?_
      rintro e w1 ⟨rfl, b1⟩
      have A1 := (Below.refl _ w1).alloc (Nat.le_refl _) (.cells #[.int .i64 k, .string x, .int .i64 n, .int .i64 p] 41)
      have A2 := (Below.refl _ (w1.alloc (.cells #[.int .i64 k, .string x, .int .i64 n, .int .i64 p] 41))).alloc (Nat.le_refl _) (.cells #[.string ⟨#[40]⟩, .string ⟨#[123]⟩, .string ⟨#[102, 110]⟩, .string ⟨#[110, 117, 108, 108]⟩, .string ⟨#[116, 114, 117, 101]⟩, .string ⟨#[102, 97, 108, 115, 101]⟩, .string ⟨#[116, 104, 105, 115]⟩] 9)
      have S1 := hid (((S0.out.on b1).on A1).on A2)
      have B1 := hid (((But.of (P := P) (below_in A.out (Nat.le_refl _) b1)).trans (But.of A1)).trans (But.of A2))
      have G1 := hid (blk_on (blk_on (blk_on G0.out b1) A1) A2)
      have V1 := hid (show StrsIn (w1.heap.size + 2) (.slice (some ⟨w1.heap.size + 1, 0, none⟩) 7 7) atomW ((w1.alloc (.cells #[.int .i64 k, .string x, .int .i64 n, .int .i64 p] 41)).alloc (.cells #[.string ⟨#[40]⟩, .string ⟨#[123]⟩, .string ⟨#[102, 110]⟩, .string ⟨#[110, 117, 108, 108]⟩, .string ⟨#[116, 114, 117, 101]⟩, .string ⟨#[102, 97, 108, 115, 101]⟩, .string ⟨#[116, 104, 105, 115]⟩] 9)) from by
        have := atomW_new (w1.alloc (.cells #[.int .i64 k, .string x, .int .i64 n, .int .i64 p] 41))
        simpa using this)
      have hg1 := blk_lt G1.out
      clear b1 S0 A G0 HC A1 A2
      go_wp2_with fail
      refine (takeone_yes P L ⟨k, x, n, p⟩ r atomW ⟨#[40]⟩ (w1.heap.size + 2) _ _ (by simp) S1 V1 (by decide) HF.out).mono ?_
      rintro e w2 ⟨rfl, s2, b2⟩
      have S2 := hid s2
      have B2 := hid (B1.out.trans b2)
      have G2 := hid (blk_but G1.out b2 (by omega))
      have hg2 := blk_lt G2.out
      obtain ⟨r0, r1, r2, r3, r4, r5, r6⟩ := cells7 G2.out
      obtain ⟨u0, u1, u2, u3, u4, u5, u6⟩ := frees7 G2.out
      clear s2 b2 S1 V1 B1 G1 HF
      go_wp2_with fail
      clear r0 r1 r2 r3 r4 r5 r6 u0 u1 u2 u3 u4 u5 u6
      refine (HD.out _ S2).mono ?_
      rintro e w3 ⟨⟨nv, kv, rfl, n3⟩, s3, b3⟩
      obtain ⟨a1, q1, a2, q2, rfl, rfl⟩ := ndR_shape n3
      have hz3 := b3.size
      have AA := (Below.refl _ w3).alloc (Nat.le_refl _) (.cells (ndc y (.slice a1 y.names.length q1) (.slice a2 y.kids.length q2)) 26)
      have S3 := hid (s3.on AA)
      have B3 := hid ((B2.out.trans b3).trans (But.of AA))
      have G3 := hid (blk_on (blk_but G2.out b3 (by omega)) AA)
      have V3 := hid (blk_new w3 26 (ndc y (.slice a1 y.names.length q1) (.slice a2 y.kids.length q2)))
      have N3 := hid (ndR_aft (aft_below AA) (ndR_low hg2 n3))
      clear s3 b3 n3 AA S2 B2 G2 HD
      unfold ndv
      unfold ndc at *
      go_wp2_with fail
      refine (must_yes P L u z ⟨#[41]⟩ _ S3 HU.out).mono ?_
      rintro e w4 ⟨rfl, s4, b4⟩
      have S4 := hid s4
      have B4 := hid (B3.out.trans b4)
      have G4 := hid (blk_but G3.out b4 (by omega))
      have V4 := hid (blk_but V3.out b4 (by omega))
      have N4 := hid (ndR_aft (aft_but b4 (by omega)) N3.out)
      have hg4 := blk_lt G4.out
      have hv4 := blk_lt V4.out
      obtain ⟨r0, r1, r2, r3, r4, r5, r6⟩ := cells7 G4.out
      obtain ⟨u0, u1, u2, u3, u4, u5, u6⟩ := frees7 G4.out
      obtain ⟨v0, v1, v2, v3, v4, v5, v6⟩ := cells7 V4.out
      clear s4 b4 S3 B3 G3 V3 N3 HU
      go_wp2_with fail
      have Z := fin_put hP (Nat.le_refl _) S4.out B4.out G4.out (.int .i64 y.kind) (.int .i64 y.op) (.int .i64 y.num) (.string y.str) (.slice a1 y.names.length q1) (.slice a2 y.kids.length q2) (.int .i64 y.pl)
      exact bodyPost_ret (ret_nd rfl rfl Z.1) rfl ⟨⟨_, _, rfl, ndR_low (Nat.le_succ _) (ndR_aft (put7_aft w4 (Nat.lt_succ_self _) _ _ _ _ _ _ _) N4.out)⟩, Z.2.1, Z.2.2⟩
    · rw [if_neg hh]
      have HN := hid (show isH l' [41] = false by simpa using hh)
      clear hh
      go_enter Tryd.func67, Tryd.ntmps67
      go_wp2_with fail
      refine HC.out.mono ?_
      rintro e w1 ⟨rfl, b1⟩
      have A1 := (Below.refl _ w1).alloc (Nat.le_refl _) (.cells #[.int .i64 k, .string x, .int .i64 n, .int .i64 p] 41)
      have A2 := (Below.refl _ (w1.alloc (.cells #[.int .i64 k, .string x, .int .i64 n, .int .i64 p] 41))).alloc (Nat.le_refl _) (.cells #[.string ⟨#[40]⟩, .string ⟨#[123]⟩, .string ⟨#[102, 110]⟩, .string ⟨#[110, 117, 108, 108]⟩, .string ⟨#[116, 114, 117, 101]⟩, .string ⟨#[102, 97, 108, 115, 101]⟩, .string ⟨#[116, 104, 105, 115]⟩] 9)
      have S1 := hid (((S0.out.on b1).on A1).on A2)
      have B1 := hid (((But.of (P := P) (below_in A.out (Nat.le_refl _) b1)).trans (But.of A1)).trans (But.of A2))
      have G1 := hid (blk_on (blk_on (blk_on G0.out b1) A1) A2)
      have V1 := hid (show StrsIn (w1.heap.size + 2) (.slice (some ⟨w1.heap.size + 1, 0, none⟩) 7 7) atomW ((w1.alloc (.cells #[.int .i64 k, .string x, .int .i64 n, .int .i64 p] 41)).alloc (.cells #[.string ⟨#[40]⟩, .string ⟨#[123]⟩, .string ⟨#[102, 110]⟩, .string ⟨#[110, 117, 108, 108]⟩, .string ⟨#[116, 114, 117, 101]⟩, .string ⟨#[102, 97, 108, 115, 101]⟩, .string ⟨#[116, 104, 105, 115]⟩] 9)) from by
        have := atomW_new (w1.alloc (.cells #[.int .i64 k, .string x, .int .i64 n, .int .i64 p] 41))
        simpa using this)
      have hg1 := blk_lt G1.out
      clear b1 S0 A G0 HC A1 A2
      go_wp2_with fail
      refine (takeone_yes P L ⟨k, x, n, p⟩ r atomW ⟨#[40]⟩ (w1.heap.size + 2) _ _ (by simp) S1 V1 (by decide) HF.out).mono ?_
      rintro e w2 ⟨rfl, s2, b2⟩
      have S2 := hid s2
      have B2 := hid (B1.out.trans b2)
      have G2 := hid (blk_but G1.out b2 (by omega))
      have hg2 := blk_lt G2.out
      obtain ⟨r0, r1, r2, r3, r4, r5, r6⟩ := cells7 G2.out
      obtain ⟨u0, u1, u2, u3, u4, u5, u6⟩ := frees7 G2.out
      clear s2 b2 S1 V1 B1 G1 HF
      go_wp2_with fail
      clear r0 r1 r2 r3 r4 r5 r6 u0 u1 u2 u3 u4 u5 u6
      refine (HD.out _ S2).mono ?_
      rintro e w3 ⟨⟨nv, kv, rfl, n3⟩, s3, b3⟩
      obtain ⟨a1, q1, a2, q2, rfl, rfl⟩ := ndR_shape n3
      have hz3 := b3.size
      have AA := (Below.refl _ w3).alloc (Nat.le_refl _) (.cells (ndc y (.slice a1 y.names.length q1) (.slice a2 y.kids.length q2)) 26)
      have S3 := hid (s3.on AA)
      have B3 := hid ((B2.out.trans b3).trans (But.of AA))
      have G3 := hid (blk_on (blk_but G2.out b3 (by omega)) AA)
      have V3 := hid (blk_new w3 26 (ndc y (.slice a1 y.names.length q1) (.slice a2 y.kids.length q2)))
      have N3 := hid (ndR_aft (aft_below AA) (ndR_low hg2 n3))
      clear s3 b3 n3 AA S2 B2 G2 HD
      unfold ndv
      unfold ndc at *
      go_wp2_with fail
      refine (must_no P L l' ⟨#[41]⟩ _ S3 HN.out).mono ?_
      rintro e w4 ⟨rfl, b4⟩
      have S4 := hid (S3.out.on b4)
      have B4 := hid (B3.out.trans (But.of b4))
      clear b4 S3 B3 G3 V3 N3 HN
      unfold gaveUp
      go_wp2_with fail
      exact ⟨rfl, rfl, S4.out, B4.out⟩

set_option maxRecDepth 100000 in
set_option maxHeartbeats 6400000 in
theorem atom_obj (o : PR) (P : Nat) (L : List Tok) (k : Int) (x : ByteArray) (n p : Int) (r : List Tok) (w : World) (hO : ∀ w', Hid (PSt P L w' r) → Calls Tryd.prog 76 #[.pointer (some ⟨P, 0, none⟩)] w' (Reads P L w' o)) (H : Hid (PSt P L w (⟨k, x, n, p⟩ :: r))) (ht : isT ⟨k, x, n, p⟩ [123] = true) :
    Calls Tryd.prog 67 #[.pointer (some ⟨P, 0, none⟩)] w (Reads P L w o) := by
  obtain ⟨hk3, hk4, hk1⟩ := isT_134 ht
  simp only at hk3 hk4 hk1
  have HF := hid (atom_wobj (q := r) ht)
  have HD := hid hO
  clear hO
  have A := hid ((Below.refl _ w).alloc (Nat.le_refl _) (.cells znd 26))
  have S0 := hid (H.out.on A.out)
  have G0 := hid (blk_new w 26 znd)
  have hP := H.out.lt
  have HC := hid (here_calls P L (⟨k, x, n, p⟩ :: r) _ S0)
  unfold Tok.val cur at HC
  simp only [List.headD_cons] at HC
  unfold znd at *
  clear H ht
  cases o with
  | bad l' =>
    go_enter Tryd.func67, Tryd.ntmps67
    go_wp2_with fail
    refine HC.out.mono ?_
    rintro e w1 ⟨rfl, b1⟩
    have A1 := (Below.refl _ w1).alloc (Nat.le_refl _) (.cells #[.int .i64 k, .string x, .int .i64 n, .int .i64 p] 41)
    have A2 := (Below.refl _ (w1.alloc (.cells #[.int .i64 k, .string x, .int .i64 n, .int .i64 p] 41))).alloc (Nat.le_refl _) (.cells #[.string ⟨#[40]⟩, .string ⟨#[123]⟩, .string ⟨#[102, 110]⟩, .string ⟨#[110, 117, 108, 108]⟩, .string ⟨#[116, 114, 117, 101]⟩, .string ⟨#[102, 97, 108, 115, 101]⟩, .string ⟨#[116, 104, 105, 115]⟩] 9)
    have S1 := hid (((S0.out.on b1).on A1).on A2)
    have B1 := hid (((But.of (P := P) (below_in A.out (Nat.le_refl _) b1)).trans (But.of A1)).trans (But.of A2))
    have G1 := hid (blk_on (blk_on (blk_on G0.out b1) A1) A2)
    have V1 := hid (show StrsIn (w1.heap.size + 2) (.slice (some ⟨w1.heap.size + 1, 0, none⟩) 7 7) atomW ((w1.alloc (.cells #[.int .i64 k, .string x, .int .i64 n, .int .i64 p] 41)).alloc (.cells #[.string ⟨#[40]⟩, .string ⟨#[123]⟩, .string ⟨#[102, 110]⟩, .string ⟨#[110, 117, 108, 108]⟩, .string ⟨#[116, 114, 117, 101]⟩, .string ⟨#[102, 97, 108, 115, 101]⟩, .string ⟨#[116, 104, 105, 115]⟩] 9)) from by
      have := atomW_new (w1.alloc (.cells #[.int .i64 k, .string x, .int .i64 n, .int .i64 p] 41))
      simpa using this)
    have hg1 := blk_lt G1.out
    clear b1 S0 A G0 HC A1 A2
    go_wp2_with fail
    refine (takeone_yes P L ⟨k, x, n, p⟩ r atomW ⟨#[123]⟩ (w1.heap.size + 2) _ _ (by simp) S1 V1 (by decide) HF.out).mono ?_
    rintro e w2 ⟨rfl, s2, b2⟩
    have S2 := hid s2
    have B2 := hid (B1.out.trans b2)
    have G2 := hid (blk_but G1.out b2 (by omega))
    have hg2 := blk_lt G2.out
    obtain ⟨r0, r1, r2, r3, r4, r5, r6⟩ := cells7 G2.out
    obtain ⟨u0, u1, u2, u3, u4, u5, u6⟩ := frees7 G2.out
    clear s2 b2 S1 V1 B1 G1 HF
    go_wp2_with fail
    clear r0 r1 r2 r3 r4 r5 r6 u0 u1 u2 u3 u4 u5 u6
    refine (HD.out _ S2).mono ?_
    rintro e wb ⟨rfl, sb, bb⟩
    have S8 := hid sb
    have B8 := hid (B2.out.trans bb)
    clear sb bb S2 B2 G2
    unfold gaveUp
    go_wp2_with fail
    exact ⟨rfl, rfl, S8.out, B8.out⟩
  | ok y b l' =>
    go_enter Tryd.func67, Tryd.ntmps67
    go_wp2_with fail
    refine HC.out.mono ?_
    rintro e w1 ⟨rfl, b1⟩
    have A1 := (Below.refl _ w1).alloc (Nat.le_refl _) (.cells #[.int .i64 k, .string x, .int .i64 n, .int .i64 p] 41)
    have A2 := (Below.refl _ (w1.alloc (.cells #[.int .i64 k, .string x, .int .i64 n, .int .i64 p] 41))).alloc (Nat.le_refl _) (.cells #[.string ⟨#[40]⟩, .string ⟨#[123]⟩, .string ⟨#[102, 110]⟩, .string ⟨#[110, 117, 108, 108]⟩, .string ⟨#[116, 114, 117, 101]⟩, .string ⟨#[102, 97, 108, 115, 101]⟩, .string ⟨#[116, 104, 105, 115]⟩] 9)
    have S1 := hid (((S0.out.on b1).on A1).on A2)
    have B1 := hid (((But.of (P := P) (below_in A.out (Nat.le_refl _) b1)).trans (But.of A1)).trans (But.of A2))
    have G1 := hid (blk_on (blk_on (blk_on G0.out b1) A1) A2)
    have V1 := hid (show StrsIn (w1.heap.size + 2) (.slice (some ⟨w1.heap.size + 1, 0, none⟩) 7 7) atomW ((w1.alloc (.cells #[.int .i64 k, .string x, .int .i64 n, .int .i64 p] 41)).alloc (.cells #[.string ⟨#[40]⟩, .string ⟨#[123]⟩, .string ⟨#[102, 110]⟩, .string ⟨#[110, 117, 108, 108]⟩, .string ⟨#[116, 114, 117, 101]⟩, .string ⟨#[102, 97, 108, 115, 101]⟩, .string ⟨#[116, 104, 105, 115]⟩] 9)) from by
      have := atomW_new (w1.alloc (.cells #[.int .i64 k, .string x, .int .i64 n, .int .i64 p] 41))
      simpa using this)
    have hg1 := blk_lt G1.out
    clear b1 S0 A G0 HC A1 A2
    go_wp2_with fail
    refine (takeone_yes P L ⟨k, x, n, p⟩ r atomW ⟨#[123]⟩ (w1.heap.size + 2) _ _ (by simp) S1 V1 (by decide) HF.out).mono ?_
    rintro e w2 ⟨rfl, s2, b2⟩
    have S2 := hid s2
    have B2 := hid (B1.out.trans b2)
    have G2 := hid (blk_but G1.out b2 (by omega))
    have hg2 := blk_lt G2.out
    obtain ⟨r0, r1, r2, r3, r4, r5, r6⟩ := cells7 G2.out
    obtain ⟨u0, u1, u2, u3, u4, u5, u6⟩ := frees7 G2.out
    clear s2 b2 S1 V1 B1 G1 HF
    go_wp2_with fail
    clear r0 r1 r2 r3 r4 r5 r6 u0 u1 u2 u3 u4 u5 u6
    refine (HD.out _ S2).mono ?_
    rintro e w2 ⟨⟨nv, kv, rfl, n2⟩, s2, b2⟩
    obtain ⟨a1, q1, a2, q2, rfl, rfl⟩ := ndR_shape n2
    have S3 := hid s2
    have hg2 := blk_lt G2.out
    have N3 := hid (ndR_low hg2 n2)
    have B3 := hid (B2.out.trans b2)
    have G3 := hid (blk_but G2.out b2 (by omega))
    have hg3 := blk_lt G3.out
    obtain ⟨r0, r1, r2, r3, r4, r5, r6⟩ := cells7 G3.out
    obtain ⟨u0, u1, u2, u3, u4, u5, u6⟩ := frees7 G3.out
    clear s2 b2 S2 B2 G2 n2
    unfold ndv
    go_wp2_with fail
    have Z := fin_put hP (Nat.le_refl _) S3.out B3.out G3.out (.int .i64 y.kind) (.int .i64 y.op) (.int .i64 y.num) (.string y.str) (.slice a1 y.names.length q1) (.slice a2 y.kids.length q2) (.int .i64 y.pl)
    exact bodyPost_ret (ret_nd rfl rfl Z.1) rfl ⟨⟨_, _, rfl, ndR_low (Nat.le_succ _) (ndR_aft (put7_aft w2 (Nat.lt_succ_self _) _ _ _ _ _ _ _) N3.out)⟩, Z.2.1, Z.2.2⟩

end Go.Proofs.YtijbiedblahmhaaDoor
