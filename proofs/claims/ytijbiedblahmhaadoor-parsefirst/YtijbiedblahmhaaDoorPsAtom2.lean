/- Atoms of one key. -/
import Derived.Test.YtijbiedblahmhaaDoorJoint10
import Derived.Test.YtijbiedblahmhaaDoorPsPosts
namespace Go.Proofs.YtijbiedblahmhaaDoor
open Go.RowKit

def atomW : List ByteArray := [⟨#[40]⟩, ⟨#[123]⟩, ⟨#[102, 110]⟩, ⟨#[110, 117, 108, 108]⟩, ⟨#[116, 114, 117, 101]⟩, ⟨#[102, 97, 108, 115, 101]⟩, ⟨#[116, 104, 105, 115]⟩]
theorem atomW_new (w : World) : StrsIn (w.heap.size + 1) (.slice (some ⟨w.heap.size, 0, none⟩) 7 7) atomW (w.alloc (.cells #[.string ⟨#[40]⟩, .string ⟨#[123]⟩, .string ⟨#[102, 110]⟩, .string ⟨#[110, 117, 108, 108]⟩, .string ⟨#[116, 114, 117, 101]⟩, .string ⟨#[102, 97, 108, 115, 101]⟩, .string ⟨#[116, 104, 105, 115]⟩] 9)) := by
  have hb := blk_new w 9 #[.string ⟨#[40]⟩, .string ⟨#[123]⟩, .string ⟨#[102, 110]⟩, .string ⟨#[110, 117, 108, 108]⟩, .string ⟨#[116, 114, 117, 101]⟩, .string ⟨#[102, 97, 108, 115, 101]⟩, .string ⟨#[116, 104, 105, 115]⟩]
  refine .inr ⟨w.heap.size, 0, 7, rfl, by omega, fun i hi => ?_, Nat.le_refl _⟩
  rw [blk_cell hb]
  have hi' : i < 7 := hi
  rcases (show i = 0 ∨ i = 1 ∨ i = 2 ∨ i = 3 ∨ i = 4 ∨ i = 5 ∨ i = 6 by omega) with rfl | rfl | rfl | rfl | rfl | rfl | rfl <;> rfl
theorem isT_134 {t : Tok} {x : List UInt8} (h : isT t x = true) : (t.kind == 3) = false ∧ (t.kind == 4) = false ∧ (t.kind == 1) = false := by
  unfold isT at h
  simp at h
  refine ⟨?_, ?_, ?_⟩ <;> simp <;> omega
theorem atom_wpar {t : Tok} {q : List Tok} (h : isT t [40] = true) : firstW atomW (t :: q) = some ⟨#[40]⟩ := by
  unfold firstW atomW; simp [isH_consT, h]
theorem atom_wobj {t : Tok} {q : List Tok} (h : isT t [123] = true) : firstW atomW (t :: q) = some ⟨#[123]⟩ := by
  unfold firstW atomW; simp [isH_consT, h, isT_two h (y := [40]) (by decide)]
theorem atom_wfn {t : Tok} {q : List Tok} (h : isT t [102, 110] = true) : firstW atomW (t :: q) = some ⟨#[102, 110]⟩ := by
  unfold firstW atomW; simp [isH_consT, h, isT_two h (y := [40]) (by decide), isT_two h (y := [123]) (by decide)]
theorem atom_wnull {t : Tok} {q : List Tok} (h : isT t [110, 117, 108, 108] = true) : firstW atomW (t :: q) = some ⟨#[110, 117, 108, 108]⟩ := by
  unfold firstW atomW; simp [isH_consT, h, isT_two h (y := [40]) (by decide), isT_two h (y := [123]) (by decide), isT_two h (y := [102, 110]) (by decide)]
theorem atom_wtrue {t : Tok} {q : List Tok} (h : isT t [116, 114, 117, 101] = true) : firstW atomW (t :: q) = some ⟨#[116, 114, 117, 101]⟩ := by
  unfold firstW atomW; simp [isH_consT, h, isT_two h (y := [40]) (by decide), isT_two h (y := [123]) (by decide), isT_two h (y := [102, 110]) (by decide), isT_two h (y := [110, 117, 108, 108]) (by decide)]
theorem atom_wfalse {t : Tok} {q : List Tok} (h : isT t [102, 97, 108, 115, 101] = true) : firstW atomW (t :: q) = some ⟨#[102, 97, 108, 115, 101]⟩ := by
  unfold firstW atomW; simp [isH_consT, h, isT_two h (y := [40]) (by decide), isT_two h (y := [123]) (by decide), isT_two h (y := [102, 110]) (by decide), isT_two h (y := [110, 117, 108, 108]) (by decide), isT_two h (y := [116, 114, 117, 101]) (by decide)]
theorem atom_wthis {t : Tok} {q : List Tok} (h : isT t [116, 104, 105, 115] = true) : firstW atomW (t :: q) = some ⟨#[116, 104, 105, 115]⟩ := by
  unfold firstW atomW; simp [isH_consT, h, isT_two h (y := [40]) (by decide), isT_two h (y := [123]) (by decide), isT_two h (y := [102, 110]) (by decide), isT_two h (y := [110, 117, 108, 108]) (by decide), isT_two h (y := [116, 114, 117, 101]) (by decide), isT_two h (y := [102, 97, 108, 115, 101]) (by decide)]

set_option maxRecDepth 100000 in
set_option maxHeartbeats 3200000 in
theorem atom_null (P : Nat) (L : List Tok) (k : Int) (x : ByteArray) (n p : Int) (r : List Tok) (w : World) (H : Hid (PSt P L w (⟨k, x, n, p⟩ :: r))) (ht : isT ⟨k, x, n, p⟩ [110, 117, 108, 108] = true) :
    Calls Tryd.prog 67 #[.pointer (some ⟨P, 0, none⟩)] w (Reads P L w (.ok (ndK 1 []) false r)) := by
  obtain ⟨hk3, hk4, hk1⟩ := isT_134 ht
  simp only at hk3 hk4 hk1
  have HF := hid (atom_wnull (q := r) ht)
  have A := hid ((Below.refl _ w).alloc (Nat.le_refl _) (.cells znd 26))
  have S0 := hid (H.out.on A.out)
  have G0 := hid (blk_new w 26 znd)
  have hP := H.out.lt
  have HC := hid (here_calls P L (⟨k, x, n, p⟩ :: r) _ S0)
  unfold Tok.val cur at HC
  simp only [List.headD_cons] at HC
  unfold znd at *
  clear H ht
  go_enter Tryd.func67, Tryd.ntmps67
  go_wp2_with fail
  refine HC.out.mono ?_
  rintro e w1 ⟨rfl, b1⟩
  have A1 := (Below.refl _ w1).alloc (Nat.le_refl _) (.cells #[.int .i64 k, .string x, .int .i64 n, .int .i64 p] 41)
  have A2 := (Below.refl _ (w1.alloc (.cells #[.int .i64 k, .string x, .int .i64 n, .int .i64 p] 41))).alloc (Nat.le_refl _) (.cells #[.string ⟨#[40]⟩, .string ⟨#[123]⟩, .string ⟨#[102, 110]⟩, .string ⟨#[110, 117, 108, 108]⟩, .string ⟨#[116, 114, 117, 101]⟩, .string ⟨#[102, 97, 108, 115, 101]⟩, .string ⟨#[116, 104, 105, 115]⟩] 9)
  have S1 := hid (((S0.out.on b1).on A1).on A2)
  have B1 := hid (((But.of (P := P) (below_in A.out (Nat.le_refl _) b1)).trans (But.of A1)).trans (But.of A2))
  have G1 := hid (blk_on (blk_on (blk_on G0.out b1) A1) A2)
  have V1 := hid (show StrsIn (w1.heap.size + 2) (.slice (some ⟨w1.heap.size + 1, 0, none⟩) 7 7) atomW ((w1.alloc (.cells #[.int .i64 k, .string x, .int .i64 n, .int .i64 p] 41)).alloc (.cells #[.string ⟨#[40]⟩, .string ⟨#[123]⟩, .string ⟨#[102, 110]⟩, .string ⟨#[110, 117, 108, 108]⟩, .string ⟨#[116, 114, 117, 101]⟩, .string ⟨#[102, 97, 108, 115, 101]⟩, .string ⟨#[116, 104, 105, 115]⟩] 9)) from by
    have := atomW_new (w1.alloc (.cells #[.int .i64 k, .string x, .int .i64 n, .int .i64 p] 41))
    simpa using this)
  have hg1 := blk_lt G1.out
  clear b1 S0 A G0 HC A1 A2
  go_wp2_with fail
  refine (takeone_yes P L ⟨k, x, n, p⟩ r atomW ⟨#[110, 117, 108, 108]⟩ (w1.heap.size + 2) _ _ (by simp) S1 V1 (by decide) HF.out).mono ?_
  rintro e w2 ⟨rfl, s2, b2⟩
  have S2 := hid s2
  have B2 := hid (B1.out.trans b2)
  have G2 := hid (blk_but G1.out b2 (by omega))
  have hg2 := blk_lt G2.out
  obtain ⟨r0, r1, r2, r3, r4, r5, r6⟩ := cells7 G2.out
  obtain ⟨u0, u1, u2, u3, u4, u5, u6⟩ := frees7 G2.out
  clear s2 b2 S1 V1 B1 G1 HF
  go_wp2_with fail
  have Y := fin_put hP (Nat.le_refl _) S2.out B2.out G2.out (.int .i64 1) (.int .i64 0) (.int .i64 0) (.string ⟨#[]⟩) (.slice none 0 0) (.slice none 0 0) (.int .i64 0)
  exact bodyPost_ret (ret_nd rfl rfl Y.1) rfl ⟨⟨_, _, rfl, ndR_mk2 ⟨st_nil, kd_nil⟩⟩, Y.2.1, Y.2.2⟩

set_option maxRecDepth 100000 in
set_option maxHeartbeats 3200000 in
theorem atom_true (P : Nat) (L : List Tok) (k : Int) (x : ByteArray) (n p : Int) (r : List Tok) (w : World) (H : Hid (PSt P L w (⟨k, x, n, p⟩ :: r))) (ht : isT ⟨k, x, n, p⟩ [116, 114, 117, 101] = true) :
    Calls Tryd.prog 67 #[.pointer (some ⟨P, 0, none⟩)] w (Reads P L w (.ok (.mk 2 0 1 bz [] [] 0) false r)) := by
  obtain ⟨hk3, hk4, hk1⟩ := isT_134 ht
  simp only at hk3 hk4 hk1
  have HF := hid (atom_wtrue (q := r) ht)
  have A := hid ((Below.refl _ w).alloc (Nat.le_refl _) (.cells znd 26))
  have S0 := hid (H.out.on A.out)
  have G0 := hid (blk_new w 26 znd)
  have hP := H.out.lt
  have HC := hid (here_calls P L (⟨k, x, n, p⟩ :: r) _ S0)
  unfold Tok.val cur at HC
  simp only [List.headD_cons] at HC
  unfold znd at *
  clear H ht
  go_enter Tryd.func67, Tryd.ntmps67
  go_wp2_with fail
  refine HC.out.mono ?_
  rintro e w1 ⟨rfl, b1⟩
  have A1 := (Below.refl _ w1).alloc (Nat.le_refl _) (.cells #[.int .i64 k, .string x, .int .i64 n, .int .i64 p] 41)
  have A2 := (Below.refl _ (w1.alloc (.cells #[.int .i64 k, .string x, .int .i64 n, .int .i64 p] 41))).alloc (Nat.le_refl _) (.cells #[.string ⟨#[40]⟩, .string ⟨#[123]⟩, .string ⟨#[102, 110]⟩, .string ⟨#[110, 117, 108, 108]⟩, .string ⟨#[116, 114, 117, 101]⟩, .string ⟨#[102, 97, 108, 115, 101]⟩, .string ⟨#[116, 104, 105, 115]⟩] 9)
  have S1 := hid (((S0.out.on b1).on A1).on A2)
  have B1 := hid (((But.of (P := P) (below_in A.out (Nat.le_refl _) b1)).trans (But.of A1)).trans (But.of A2))
  have G1 := hid (blk_on (blk_on (blk_on G0.out b1) A1) A2)
  have V1 := hid (show StrsIn (w1.heap.size + 2) (.slice (some ⟨w1.heap.size + 1, 0, none⟩) 7 7) atomW ((w1.alloc (.cells #[.int .i64 k, .string x, .int .i64 n, .int .i64 p] 41)).alloc (.cells #[.string ⟨#[40]⟩, .string ⟨#[123]⟩, .string ⟨#[102, 110]⟩, .string ⟨#[110, 117, 108, 108]⟩, .string ⟨#[116, 114, 117, 101]⟩, .string ⟨#[102, 97, 108, 115, 101]⟩, .string ⟨#[116, 104, 105, 115]⟩] 9)) from by
    have := atomW_new (w1.alloc (.cells #[.int .i64 k, .string x, .int .i64 n, .int .i64 p] 41))
    simpa using this)
  have hg1 := blk_lt G1.out
  clear b1 S0 A G0 HC A1 A2
  go_wp2_with fail
  refine (takeone_yes P L ⟨k, x, n, p⟩ r atomW ⟨#[116, 114, 117, 101]⟩ (w1.heap.size + 2) _ _ (by simp) S1 V1 (by decide) HF.out).mono ?_
  rintro e w2 ⟨rfl, s2, b2⟩
  have S2 := hid s2
  have B2 := hid (B1.out.trans b2)
  have G2 := hid (blk_but G1.out b2 (by omega))
  have hg2 := blk_lt G2.out
  obtain ⟨r0, r1, r2, r3, r4, r5, r6⟩ := cells7 G2.out
  obtain ⟨u0, u1, u2, u3, u4, u5, u6⟩ := frees7 G2.out
  clear s2 b2 S1 V1 B1 G1 HF
  go_wp2_with fail
  have Y := fin_put hP (Nat.le_refl _) S2.out B2.out G2.out (.int .i64 2) (.int .i64 0) (.int .i64 1) (.string ⟨#[]⟩) (.slice none 0 0) (.slice none 0 0) (.int .i64 0)
  exact bodyPost_ret (ret_nd rfl rfl Y.1) rfl ⟨⟨_, _, rfl, ndR_mk2 ⟨st_nil, kd_nil⟩⟩, Y.2.1, Y.2.2⟩

set_option maxRecDepth 100000 in
set_option maxHeartbeats 3200000 in
theorem atom_false (P : Nat) (L : List Tok) (k : Int) (x : ByteArray) (n p : Int) (r : List Tok) (w : World) (H : Hid (PSt P L w (⟨k, x, n, p⟩ :: r))) (ht : isT ⟨k, x, n, p⟩ [102, 97, 108, 115, 101] = true) :
    Calls Tryd.prog 67 #[.pointer (some ⟨P, 0, none⟩)] w (Reads P L w (.ok (ndK 2 []) false r)) := by
  obtain ⟨hk3, hk4, hk1⟩ := isT_134 ht
  simp only at hk3 hk4 hk1
  have HF := hid (atom_wfalse (q := r) ht)
  have A := hid ((Below.refl _ w).alloc (Nat.le_refl _) (.cells znd 26))
  have S0 := hid (H.out.on A.out)
  have G0 := hid (blk_new w 26 znd)
  have hP := H.out.lt
  have HC := hid (here_calls P L (⟨k, x, n, p⟩ :: r) _ S0)
  unfold Tok.val cur at HC
  simp only [List.headD_cons] at HC
  unfold znd at *
  clear H ht
  go_enter Tryd.func67, Tryd.ntmps67
  go_wp2_with fail
  refine HC.out.mono ?_
  rintro e w1 ⟨rfl, b1⟩
  have A1 := (Below.refl _ w1).alloc (Nat.le_refl _) (.cells #[.int .i64 k, .string x, .int .i64 n, .int .i64 p] 41)
  have A2 := (Below.refl _ (w1.alloc (.cells #[.int .i64 k, .string x, .int .i64 n, .int .i64 p] 41))).alloc (Nat.le_refl _) (.cells #[.string ⟨#[40]⟩, .string ⟨#[123]⟩, .string ⟨#[102, 110]⟩, .string ⟨#[110, 117, 108, 108]⟩, .string ⟨#[116, 114, 117, 101]⟩, .string ⟨#[102, 97, 108, 115, 101]⟩, .string ⟨#[116, 104, 105, 115]⟩] 9)
  have S1 := hid (((S0.out.on b1).on A1).on A2)
  have B1 := hid (((But.of (P := P) (below_in A.out (Nat.le_refl _) b1)).trans (But.of A1)).trans (But.of A2))
  have G1 := hid (blk_on (blk_on (blk_on G0.out b1) A1) A2)
  have V1 := hid (show StrsIn (w1.heap.size + 2) (.slice (some ⟨w1.heap.size + 1, 0, none⟩) 7 7) atomW ((w1.alloc (.cells #[.int .i64 k, .string x, .int .i64 n, .int .i64 p] 41)).alloc (.cells #[.string ⟨#[40]⟩, .string ⟨#[123]⟩, .string ⟨#[102, 110]⟩, .string ⟨#[110, 117, 108, 108]⟩, .string ⟨#[116, 114, 117, 101]⟩, .string ⟨#[102, 97, 108, 115, 101]⟩, .string ⟨#[116, 104, 105, 115]⟩] 9)) from by
    have := atomW_new (w1.alloc (.cells #[.int .i64 k, .string x, .int .i64 n, .int .i64 p] 41))
    simpa using this)
  have hg1 := blk_lt G1.out
  clear b1 S0 A G0 HC A1 A2
  go_wp2_with fail
  refine (takeone_yes P L ⟨k, x, n, p⟩ r atomW ⟨#[102, 97, 108, 115, 101]⟩ (w1.heap.size + 2) _ _ (by simp) S1 V1 (by decide) HF.out).mono ?_
  rintro e w2 ⟨rfl, s2, b2⟩
  have S2 := hid s2
  have B2 := hid (B1.out.trans b2)
  have G2 := hid (blk_but G1.out b2 (by omega))
  have hg2 := blk_lt G2.out
  obtain ⟨r0, r1, r2, r3, r4, r5, r6⟩ := cells7 G2.out
  obtain ⟨u0, u1, u2, u3, u4, u5, u6⟩ := frees7 G2.out
  clear s2 b2 S1 V1 B1 G1 HF
  go_wp2_with fail
  have Y := fin_put hP (Nat.le_refl _) S2.out B2.out G2.out (.int .i64 2) (.int .i64 0) (.int .i64 0) (.string ⟨#[]⟩) (.slice none 0 0) (.slice none 0 0) (.int .i64 0)
  exact bodyPost_ret (ret_nd rfl rfl Y.1) rfl ⟨⟨_, _, rfl, ndR_mk2 ⟨st_nil, kd_nil⟩⟩, Y.2.1, Y.2.2⟩

set_option maxRecDepth 100000 in
set_option maxHeartbeats 3200000 in
theorem atom_this (P : Nat) (L : List Tok) (k : Int) (x : ByteArray) (n p : Int) (r : List Tok) (w : World) (H : Hid (PSt P L w (⟨k, x, n, p⟩ :: r))) (ht : isT ⟨k, x, n, p⟩ [116, 104, 105, 115] = true) :
    Calls Tryd.prog 67 #[.pointer (some ⟨P, 0, none⟩)] w (Reads P L w (.ok (ndK 6 []) false r)) := by
  obtain ⟨hk3, hk4, hk1⟩ := isT_134 ht
  simp only at hk3 hk4 hk1
  have HF := hid (atom_wthis (q := r) ht)
  have A := hid ((Below.refl _ w).alloc (Nat.le_refl _) (.cells znd 26))
  have S0 := hid (H.out.on A.out)
  have G0 := hid (blk_new w 26 znd)
  have hP := H.out.lt
  have HC := hid (here_calls P L (⟨k, x, n, p⟩ :: r) _ S0)
  unfold Tok.val cur at HC
  simp only [List.headD_cons] at HC
  unfold znd at *
  clear H ht
  go_enter Tryd.func67, Tryd.ntmps67
  go_wp2_with fail
  refine HC.out.mono ?_
  rintro e w1 ⟨rfl, b1⟩
  have A1 := (Below.refl _ w1).alloc (Nat.le_refl _) (.cells #[.int .i64 k, .string x, .int .i64 n, .int .i64 p] 41)
  have A2 := (Below.refl _ (w1.alloc (.cells #[.int .i64 k, .string x, .int .i64 n, .int .i64 p] 41))).alloc (Nat.le_refl _) (.cells #[.string ⟨#[40]⟩, .string ⟨#[123]⟩, .string ⟨#[102, 110]⟩, .string ⟨#[110, 117, 108, 108]⟩, .string ⟨#[116, 114, 117, 101]⟩, .string ⟨#[102, 97, 108, 115, 101]⟩, .string ⟨#[116, 104, 105, 115]⟩] 9)
  have S1 := hid (((S0.out.on b1).on A1).on A2)
  have B1 := hid (((But.of (P := P) (below_in A.out (Nat.le_refl _) b1)).trans (But.of A1)).trans (But.of A2))
  have G1 := hid (blk_on (blk_on (blk_on G0.out b1) A1) A2)
  have V1 := hid (show StrsIn (w1.heap.size + 2) (.slice (some ⟨w1.heap.size + 1, 0, none⟩) 7 7) atomW ((w1.alloc (.cells #[.int .i64 k, .string x, .int .i64 n, .int .i64 p] 41)).alloc (.cells #[.string ⟨#[40]⟩, .string ⟨#[123]⟩, .string ⟨#[102, 110]⟩, .string ⟨#[110, 117, 108, 108]⟩, .string ⟨#[116, 114, 117, 101]⟩, .string ⟨#[102, 97, 108, 115, 101]⟩, .string ⟨#[116, 104, 105, 115]⟩] 9)) from by
    have := atomW_new (w1.alloc (.cells #[.int .i64 k, .string x, .int .i64 n, .int .i64 p] 41))
    simpa using this)
  have hg1 := blk_lt G1.out
  clear b1 S0 A G0 HC A1 A2
  go_wp2_with fail
  refine (takeone_yes P L ⟨k, x, n, p⟩ r atomW ⟨#[116, 104, 105, 115]⟩ (w1.heap.size + 2) _ _ (by simp) S1 V1 (by decide) HF.out).mono ?_
  rintro e w2 ⟨rfl, s2, b2⟩
  have S2 := hid s2
  have B2 := hid (B1.out.trans b2)
  have G2 := hid (blk_but G1.out b2 (by omega))
  have hg2 := blk_lt G2.out
  obtain ⟨r0, r1, r2, r3, r4, r5, r6⟩ := cells7 G2.out
  obtain ⟨u0, u1, u2, u3, u4, u5, u6⟩ := frees7 G2.out
  clear s2 b2 S1 V1 B1 G1 HF
  go_wp2_with fail
  have Y := fin_put hP (Nat.le_refl _) S2.out B2.out G2.out (.int .i64 6) (.int .i64 0) (.int .i64 0) (.string ⟨#[]⟩) (.slice none 0 0) (.slice none 0 0) (.int .i64 0)
  exact bodyPost_ret (ret_nd rfl rfl Y.1) rfl ⟨⟨_, _, rfl, ndR_mk2 ⟨st_nil, kd_nil⟩⟩, Y.2.1, Y.2.2⟩

end Go.Proofs.YtijbiedblahmhaaDoor
