/- Atoms of one key. Atoms of more: brackets, an object, a function, a built-in call. Atoms: a function, a built-in call. An atom. -/
import Derived.Test.YtijbiedblahmhaaDoorPsAtom
import Derived.Test.YtijbiedblahmhaaDoorJoint5
namespace Go.Proofs.YtijbiedblahmhaaDoor
open Go.RowKit

def atomW : List ByteArray := [⟨#[40]⟩, ⟨#[123]⟩, ⟨#[102, 110]⟩, ⟨#[110, 117, 108, 108]⟩, ⟨#[116, 114, 117, 101]⟩, ⟨#[102, 97, 108, 115, 101]⟩, ⟨#[116, 104, 105, 115]⟩]
theorem atomW_new (w : World) : StrsIn (w.heap.size + 1) (.slice (some ⟨w.heap.size, 0, none⟩) 7 7) atomW (w.alloc (.cells #[.string ⟨#[40]⟩, .string ⟨#[123]⟩, .string ⟨#[102, 110]⟩, .string ⟨#[110, 117, 108, 108]⟩, .string ⟨#[116, 114, 117, 101]⟩, .string ⟨#[102, 97, 108, 115, 101]⟩, .string ⟨#[116, 104, 105, 115]⟩] 9)) := by
  have hb := blk_new w 9 #[.string ⟨#[40]⟩, .string ⟨#[123]⟩, .string ⟨#[102, 110]⟩, .string ⟨#[110, 117, 108, 108]⟩, .string ⟨#[116, 114, 117, 101]⟩, .string ⟨#[102, 97, 108, 115, 101]⟩, .string ⟨#[116, 104, 105, 115]⟩]
  refine .inr ⟨w.heap.size, 0, 7, rfl, by omega, fun i hi => ?_, Nat.le_refl _⟩
  rw [blk_cell hb]
  have hi' : i < 7 := hi
  rcases (show i = 0 ∨ i = 1 ∨ i = 2 ∨ i = 3 ∨ i = 4 ∨ i = 5 ∨ i = 6 by omega) with rfl | rfl | rfl | rfl | rfl | rfl | rfl <;> rfl
theorem isT_134 {t : Tok} {x : List UInt8} (h : isT t x = true) : (t.kind == 3) = false ∧ (t.kind == 4) = false ∧ (t.kind == 1) = false := by
  unfold isT at h
  simp at h
  refine ⟨?_, ?_, ?_⟩ <;> simp <;> omega
theorem atom_wpar {t : Tok} {q : List Tok} (h : isT t [40] = true) : firstW atomW (t :: q) = some ⟨#[40]⟩ := by
  unfold firstW atomW; simp [isH_consT, h]
theorem atom_wobj {t : Tok} {q : List Tok} (h : isT t [123] = true) : firstW atomW (t :: q) = some ⟨#[123]⟩ := by
  unfold firstW atomW; simp [isH_consT, h, isT_two h (y := [40]) (by decide)]
theorem atom_wfn {t : Tok} {q : List Tok} (h : isT t [102, 110] = true) : firstW atomW (t :: q) = some ⟨#[102, 110]⟩ := by
  unfold firstW atomW; simp [isH_consT, h, isT_two h (y := [40]) (by decide), isT_two h (y := [123]) (by decide)]
theorem atom_wnull {t : Tok} {q : List Tok} (h : isT t [110, 117, 108, 108] = true) : firstW atomW (t :: q) = some ⟨#[110, 117, 108, 108]⟩ := by
  unfold firstW atomW; simp [isH_consT, h, isT_two h (y := [40]) (by decide), isT_two h (y := [123]) (by decide), isT_two h (y := [102, 110]) (by decide)]
theorem atom_wtrue {t : Tok} {q : List Tok} (h : isT t [116, 114, 117, 101] = true) : firstW atomW (t :: q) = some ⟨#[116, 114, 117, 101]⟩ := by
  unfold firstW atomW; simp [isH_consT, h, isT_two h (y := [40]) (by decide), isT_two h (y := [123]) (by decide), isT_two h (y := [102, 110]) (by decide), isT_two h (y := [110, 117, 108, 108]) (by decide)]
theorem atom_wfalse {t : Tok} {q : List Tok} (h : isT t [102, 97, 108, 115, 101] = true) : firstW atomW (t :: q) = some ⟨#[102, 97, 108, 115, 101]⟩ := by
  unfold firstW atomW; simp [isH_consT, h, isT_two h (y := [40]) (by decide), isT_two h (y := [123]) (by decide), isT_two h (y := [102, 110]) (by decide), isT_two h (y := [110, 117, 108, 108]) (by decide), isT_two h (y := [116, 114, 117, 101]) (by decide)]
theorem atom_wthis {t : Tok} {q : List Tok} (h : isT t [116, 104, 105, 115] = true) : firstW atomW (t :: q) = some ⟨#[116, 104, 105, 115]⟩ := by
  unfold firstW atomW; simp [isH_consT, h, isT_two h (y := [40]) (by decide), isT_two h (y := [123]) (by decide), isT_two h (y := [102, 110]) (by decide), isT_two h (y := [110, 117, 108, 108]) (by decide), isT_two h (y := [116, 114, 117, 101]) (by decide), isT_two h (y := [102, 97, 108, 115, 101]) (by decide)]

set_option maxRecDepth 100000 in
set_option maxHeartbeats 3200000 in
theorem atom_null (P : Nat) (L : List Tok) (k : Int) (x : ByteArray) (n p : Int) (r : List Tok) (w : World) (H : Hid (PSt P L w (⟨k, x, n, p⟩ :: r))) (ht : isT ⟨k, x, n, p⟩ [110, 117, 108, 108] = true) :
    Calls Tryd.prog 67 #[.pointer (some ⟨P, 0, none⟩)] w (Reads P L w (.ok (ndK 1 []) false r)) := by
  obtain ⟨hk3, hk4, hk1⟩ := isT_134 ht
  simp only at hk3 hk4 hk1
  have HF := hid (atom_wnull (q := r) ht)
  have A := hid ((Below.refl _ w).alloc (Nat.le_refl _) (.cells znd 26))
  have S0 := hid (H.out.on A.out)
  have G0 := hid (blk_new w 26 znd)
  have hP := H.out.lt
  have HC := hid (here_calls P L (⟨k, x, n, p⟩ :: r) _ S0)
  unfold Tok.val cur at HC
  simp only [List.headD_cons] at HC
  unfold znd at *
  clear H ht
  go_enter Tryd.func67, Tryd.ntmps67
  go_wp2_with fail
  refine HC.out.mono ?_
  rintro e w1 ⟨rfl, b1⟩
  have A1 := (Below.refl _ w1).alloc (Nat.le_refl _) (.cells #[.int .i64 k, .string x, .int .i64 n, .int .i64 p] 41)
  have A2 := (Below.refl _ (w1.alloc (.cells #[.int .i64 k, .string x, .int .i64 n, .int .i64 p] 41))).alloc (Nat.le_refl _) (.cells #[.string ⟨#[40]⟩, .string ⟨#[123]⟩, .string ⟨#[102, 110]⟩, .string ⟨#[110, 117, 108, 108]⟩, .string ⟨#[116, 114, 117, 101]⟩, .string ⟨#[102, 97, 108, 115, 101]⟩, .string ⟨#[116, 104, 105, 115]⟩] 9)
  have S1 := hid (((S0.out.on b1).on A1).on A2)
  have B1 := hid (((But.of (P := P) (below_in A.out (Nat.le_refl _) b1)).trans (But.of A1)).trans (But.of A2))
  have G1 := hid (blk_on (blk_on (blk_on G0.out b1) A1) A2)
  have V1 := hid (show StrsIn (w1.heap.size + 2) (.slice (some ⟨w1.heap.size + 1, 0, none⟩) 7 7) atomW ((w1.alloc (.cells #[.int .i64 k, .string x, .int .i64 n, .int .i64 p] 41)).alloc (.cells #[.string ⟨#[40]⟩, .string ⟨#[123]⟩, .string ⟨#[102, 110]⟩, .string ⟨#[110, 117, 108, 108]⟩, .string ⟨#[116, 114, 117, 101]⟩, .string ⟨#[102, 97, 108, 115, 101]⟩, .string ⟨#[116, 104, 105, 115]⟩] 9)) from by
    have := atomW_new (w1.alloc (.cells #[.int .i64 k, .string x, .int .i64 n, .int .i64 p] 41))
    simpa using this)
  have hg1 := blk_lt G1.out
  clear b1 S0 A G0 HC A1 A2
  go_wp2_with fail
  refine (takeone_yes P L ⟨k, x, n, p⟩ r atomW ⟨#[110, 117, 108, 108]⟩ (w1.heap.size + 2) _ _ (by simp) S1 V1 (by decide) HF.out).mono ?_
  rintro e w2 ⟨rfl, s2, b2⟩
  have S2 := hid s2
  have B2 := hid (B1.out.trans b2)
  have G2 := hid (blk_but G1.out b2 (by omega))
  have hg2 := blk_lt G2.out
  obtain ⟨r0, r1, r2, r3, r4, r5, r6⟩ := cells7 G2.out
  obtain ⟨u0, u1, u2, u3, u4, u5, u6⟩ := frees7 G2.out
  clear s2 b2 S1 V1 B1 G1 HF
  go_wp2_with fail
  have Y := fin_put hP (Nat.le_refl _) S2.out B2.out G2.out (.int .i64 1) (.int .i64 0) (.int .i64 0) (.string ⟨#[]⟩) (.slice none 0 0) (.slice none 0 0) (.int .i64 0)
  exact bodyPost_ret (ret_nd rfl rfl Y.1) rfl ⟨⟨_, _, rfl, ndR_mk2 ⟨st_nil, kd_nil⟩⟩, Y.2.1, Y.2.2⟩

set_option maxRecDepth 100000 in
set_option maxHeartbeats 3200000 in
theorem atom_true (P : Nat) (L : List Tok) (k : Int) (x : ByteArray) (n p : Int) (r : List Tok) (w : World) (H : Hid (PSt P L w (⟨k, x, n, p⟩ :: r))) (ht : isT ⟨k, x, n, p⟩ [116, 114, 117, 101] = true) :
    Calls Tryd.prog 67 #[.pointer (some ⟨P, 0, none⟩)] w (Reads P L w (.ok (.mk 2 0 1 bz [] [] 0) false r)) := by
  obtain ⟨hk3, hk4, hk1⟩ := isT_134 ht
  simp only at hk3 hk4 hk1
  have HF := hid (atom_wtrue (q := r) ht)
  have A := hid ((Below.refl _ w).alloc (Nat.le_refl _) (.cells znd 26))
  have S0 := hid (H.out.on A.out)
  have G0 := hid (blk_new w 26 znd)
  have hP := H.out.lt
  have HC := hid (here_calls P L (⟨k, x, n, p⟩ :: r) _ S0)
  unfold Tok.val cur at HC
  simp only [List.headD_cons] at HC
  unfold znd at *
  clear H ht
  go_enter Tryd.func67, Tryd.ntmps67
  go_wp2_with fail
  refine HC.out.mono ?_
  rintro e w1 ⟨rfl, b1⟩
  have A1 := (Below.refl _ w1).alloc (Nat.le_refl _) (.cells #[.int .i64 k, .string x, .int .i64 n, .int .i64 p] 41)
  have A2 := (Below.refl _ (w1.alloc (.cells #[.int .i64 k, .string x, .int .i64 n, .int .i64 p] 41))).alloc (Nat.le_refl _) (.cells #[.string ⟨#[40]⟩, .string ⟨#[123]⟩, .string ⟨#[102, 110]⟩, .string ⟨#[110, 117, 108, 108]⟩, .string ⟨#[116, 114, 117, 101]⟩, .string ⟨#[102, 97, 108, 115, 101]⟩, .string ⟨#[116, 104, 105, 115]⟩] 9)
  have S1 := hid (((S0.out.on b1).on A1).on A2)
  have B1 := hid (((But.of (P := P) (below_in A.out (Nat.le_refl _) b1)).trans (But.of A1)).trans (But.of A2))
  have G1 := hid (blk_on (blk_on (blk_on G0.out b1) A1) A2)
  have V1 := hid (show StrsIn (w1.heap.size + 2) (.slice (some ⟨w1.heap.size + 1, 0, none⟩) 7 7) atomW ((w1.alloc (.cells #[.int .i64 k, .string x, .int .i64 n, .int .i64 p] 41)).alloc (.cells #[.string ⟨#[40]⟩, .string ⟨#[123]⟩, .string ⟨#[102, 110]⟩, .string ⟨#[110, 117, 108, 108]⟩, .string ⟨#[116, 114, 117, 101]⟩, .string ⟨#[102, 97, 108, 115, 101]⟩, .string ⟨#[116, 104, 105, 115]⟩] 9)) from by
    have := atomW_new (w1.alloc (.cells #[.int .i64 k, .string x, .int .i64 n, .int .i64 p] 41))
    simpa using this)
  have hg1 := blk_lt G1.out
  clear b1 S0 A G0 HC A1 A2
  go_wp2_with fail
  refine (takeone_yes P L ⟨k, x, n, p⟩ r atomW ⟨#[116, 114, 117, 101]⟩ (w1.heap.size + 2) _ _ (by simp) S1 V1 (by decide) HF.out).mono ?_
  rintro e w2 ⟨rfl, s2, b2⟩
  have S2 := hid s2
  have B2 := hid (B1.out.trans b2)
  have G2 := hid (blk_but G1.out b2 (by omega))
  have hg2 := blk_lt G2.out
  obtain ⟨r0, r1, r2, r3, r4, r5, r6⟩ := cells7 G2.out
  obtain ⟨u0, u1, u2, u3, u4, u5, u6⟩ := frees7 G2.out
  clear s2 b2 S1 V1 B1 G1 HF
  go_wp2_with fail
  have Y := fin_put hP (Nat.le_refl _) S2.out B2.out G2.out (.int .i64 2) (.int .i64 0) (.int .i64 1) (.string ⟨#[]⟩) (.slice none 0 0) (.slice none 0 0) (.int .i64 0)
  exact bodyPost_ret (ret_nd rfl rfl Y.1) rfl ⟨⟨_, _, rfl, ndR_mk2 ⟨st_nil, kd_nil⟩⟩, Y.2.1, Y.2.2⟩

set_option maxRecDepth 100000 in
set_option maxHeartbeats 3200000 in
theorem atom_false (P : Nat) (L : List Tok) (k : Int) (x : ByteArray) (n p : Int) (r : List Tok) (w : World) (H : Hid (PSt P L w (⟨k, x, n, p⟩ :: r))) (ht : isT ⟨k, x, n, p⟩ [102, 97, 108, 115, 101] = true) :
    Calls Tryd.prog 67 #[.pointer (some ⟨P, 0, none⟩)] w (Reads P L w (.ok (ndK 2 []) false r)) := by
  obtain ⟨hk3, hk4, hk1⟩ := isT_134 ht
  simp only at hk3 hk4 hk1
  have HF := hid (atom_wfalse (q := r) ht)
  have A := hid ((Below.refl _ w).alloc (Nat.le_refl _) (.cells znd 26))
  have S0 := hid (H.out.on A.out)
  have G0 := hid (blk_new w 26 znd)
  have hP := H.out.lt
  have HC := hid (here_calls P L (⟨k, x, n, p⟩ :: r) _ S0)
  unfold Tok.val cur at HC
  simp only [List.headD_cons] at HC
  unfold znd at *
  clear H ht
  go_enter Tryd.func67, Tryd.ntmps67
  go_wp2_with fail
  refine HC.out.mono ?_
  rintro e w1 ⟨rfl, b1⟩
  have A1 := (Below.refl _ w1).alloc (Nat.le_refl _) (.cells #[.int .i64 k, .string x, .int .i64 n, .int .i64 p] 41)
  have A2 := (Below.refl _ (w1.alloc (.cells #[.int .i64 k, .string x, .int .i64 n, .int .i64 p] 41))).alloc (Nat.le_refl _) (.cells #[.string ⟨#[40]⟩, .string ⟨#[123]⟩, .string ⟨#[102, 110]⟩, .string ⟨#[110, 117, 108, 108]⟩, .string ⟨#[116, 114, 117, 101]⟩, .string ⟨#[102, 97, 108, 115, 101]⟩, .string ⟨#[116, 104, 105, 115]⟩] 9)
  have S1 := hid (((S0.out.on b1).on A1).on A2)
  have B1 := hid (((But.of (P := P) (below_in A.out (Nat.le_refl _) b1)).trans (But.of A1)).trans (But.of A2))
  have G1 := hid (blk_on (blk_on (blk_on G0.out b1) A1) A2)
  have V1 := hid (show StrsIn (w1.heap.size + 2) (.slice (some ⟨w1.heap.size + 1, 0, none⟩) 7 7) atomW ((w1.alloc (.cells #[.int .i64 k, .string x, .int .i64 n, .int .i64 p] 41)).alloc (.cells #[.string ⟨#[40]⟩, .string ⟨#[123]⟩, .string ⟨#[102, 110]⟩, .string ⟨#[110, 117, 108, 108]⟩, .string ⟨#[116, 114, 117, 101]⟩, .string ⟨#[102, 97, 108, 115, 101]⟩, .string ⟨#[116, 104, 105, 115]⟩] 9)) from by
    have := atomW_new (w1.alloc (.cells #[.int .i64 k, .string x, .int .i64 n, .int .i64 p] 41))
    simpa using this)
  have hg1 := blk_lt G1.out
  clear b1 S0 A G0 HC A1 A2
  go_wp2_with fail
  refine (takeone_yes P L ⟨k, x, n, p⟩ r atomW ⟨#[102, 97, 108, 115, 101]⟩ (w1.heap.size + 2) _ _ (by simp) S1 V1 (by decide) HF.out).mono ?_
  rintro e w2 ⟨rfl, s2, b2⟩
  have S2 := hid s2
  have B2 := hid (B1.out.trans b2)
  have G2 := hid (blk_but G1.out b2 (by omega))
  have hg2 := blk_lt G2.out
  obtain ⟨r0, r1, r2, r3, r4, r5, r6⟩ := cells7 G2.out
  obtain ⟨u0, u1, u2, u3, u4, u5, u6⟩ := frees7 G2.out
  clear s2 b2 S1 V1 B1 G1 HF
  go_wp2_with fail
  have Y := fin_put hP (Nat.le_refl _) S2.out B2.out G2.out (.int .i64 2) (.int .i64 0) (.int .i64 0) (.string ⟨#[]⟩) (.slice none 0 0) (.slice none 0 0) (.int .i64 0)
  exact bodyPost_ret (ret_nd rfl rfl Y.1) rfl ⟨⟨_, _, rfl, ndR_mk2 ⟨st_nil, kd_nil⟩⟩, Y.2.1, Y.2.2⟩

set_option maxRecDepth 100000 in
set_option maxHeartbeats 3200000 in
theorem atom_this (P : Nat) (L : List Tok) (k : Int) (x : ByteArray) (n p : Int) (r : List Tok) (w : World) (H : Hid (PSt P L w (⟨k, x, n, p⟩ :: r))) (ht : isT ⟨k, x, n, p⟩ [116, 104, 105, 115] = true) :
    Calls Tryd.prog 67 #[.pointer (some ⟨P, 0, none⟩)] w (Reads P L w (.ok (ndK 6 []) false r)) := by
  obtain ⟨hk3, hk4, hk1⟩ := isT_134 ht
  simp only at hk3 hk4 hk1
  have HF := hid (atom_wthis (q := r) ht)
  have A := hid ((Below.refl _ w).alloc (Nat.le_refl _) (.cells znd 26))
  have S0 := hid (H.out.on A.out)
  have G0 := hid (blk_new w 26 znd)
  have hP := H.out.lt
  have HC := hid (here_calls P L (⟨k, x, n, p⟩ :: r) _ S0)
  unfold Tok.val cur at HC
  simp only [List.headD_cons] at HC
  unfold znd at *
  clear H ht
  go_enter Tryd.func67, Tryd.ntmps67
  go_wp2_with fail
  refine HC.out.mono ?_
  rintro e w1 ⟨rfl, b1⟩
  have A1 := (Below.refl _ w1).alloc (Nat.le_refl _) (.cells #[.int .i64 k, .string x, .int .i64 n, .int .i64 p] 41)
  have A2 := (Below.refl _ (w1.alloc (.cells #[.int .i64 k, .string x, .int .i64 n, .int .i64 p] 41))).alloc (Nat.le_refl _) (.cells #[.string ⟨#[40]⟩, .string ⟨#[123]⟩, .string ⟨#[102, 110]⟩, .string ⟨#[110, 117, 108, 108]⟩, .string ⟨#[116, 114, 117, 101]⟩, .string ⟨#[102, 97, 108, 115, 101]⟩, .string ⟨#[116, 104, 105, 115]⟩] 9)
  have S1 := hid (((S0.out.on b1).on A1).on A2)
  have B1 := hid (((But.of (P := P) (below_in A.out (Nat.le_refl _) b1)).trans (But.of A1)).trans (But.of A2))
  have G1 := hid (blk_on (blk_on (blk_on G0.out b1) A1) A2)
  have V1 := hid (show StrsIn (w1.heap.size + 2) (.slice (some ⟨w1.heap.size + 1, 0, none⟩) 7 7) atomW ((w1.alloc (.cells #[.int .i64 k, .string x, .int .i64 n, .int .i64 p] 41)).alloc (.cells #[.string ⟨#[40]⟩, .string ⟨#[123]⟩, .string ⟨#[102, 110]⟩, .string ⟨#[110, 117, 108, 108]⟩, .string ⟨#[116, 114, 117, 101]⟩, .string ⟨#[102, 97, 108, 115, 101]⟩, .string ⟨#[116, 104, 105, 115]⟩] 9)) from by
    have := atomW_new (w1.alloc (.cells #[.int .i64 k, .string x, .int .i64 n, .int .i64 p] 41))
    simpa using this)
  have hg1 := blk_lt G1.out
  clear b1 S0 A G0 HC A1 A2
  go_wp2_with fail
  refine (takeone_yes P L ⟨k, x, n, p⟩ r atomW ⟨#[116, 104, 105, 115]⟩ (w1.heap.size + 2) _ _ (by simp) S1 V1 (by decide) HF.out).mono ?_
  rintro e w2 ⟨rfl, s2, b2⟩
  have S2 := hid s2
  have B2 := hid (B1.out.trans b2)
  have G2 := hid (blk_but G1.out b2 (by omega))
  have hg2 := blk_lt G2.out
  obtain ⟨r0, r1, r2, r3, r4, r5, r6⟩ := cells7 G2.out
  obtain ⟨u0, u1, u2, u3, u4, u5, u6⟩ := frees7 G2.out
  clear s2 b2 S1 V1 B1 G1 HF
  go_wp2_with fail
  have Y := fin_put hP (Nat.le_refl _) S2.out B2.out G2.out (.int .i64 6) (.int .i64 0) (.int .i64 0) (.string ⟨#[]⟩) (.slice none 0 0) (.slice none 0 0) (.int .i64 0)
  exact bodyPost_ret (ret_nd rfl rfl Y.1) rfl ⟨⟨_, _, rfl, ndR_mk2 ⟨st_nil, kd_nil⟩⟩, Y.2.1, Y.2.2⟩

end Go.Proofs.YtijbiedblahmhaaDoor

namespace Go.Proofs.YtijbiedblahmhaaDoor
open Go.RowKit

set_option maxRecDepth 100000 in
set_option maxHeartbeats 6400000 in
theorem atom_par (f : Nat) (hR : RankC f) (P : Nat) (L : List Tok) (k : Int) (x : ByteArray) (n p : Int) (r : List Tok) (w : World) (hf : 20 * r.length + 10 ≤ f) (H : Hid (PSt P L w (⟨k, x, n, p⟩ :: r))) (ht : isT ⟨k, x, n, p⟩ [40] = true) :
    Calls Tryd.prog 67 #[.pointer (some ⟨P, 0, none⟩)] w (Reads P L w ((pRank f 1 r).bind fun e _ l => must [41] l fun l => .ok e false l)) := by
  obtain ⟨hk3, hk4, hk1⟩ := isT_134 ht
  simp only at hk3 hk4 hk1
  have HF := hid (atom_wpar (q := r) ht)
  have HD := hid (show ∀ w', Hid (PSt P L w' r) → Calls Tryd.prog 43 #[.pointer (some ⟨P, 0, none⟩)] w' (Reads P L w' (pRank f 1 r)) from fun w' S => hR 1 P L r w' (by omega) (by omega) (by omega) S)
  clear hR
  have A := hid ((Below.refl _ w).alloc (Nat.le_refl _) (.cells znd 26))
  have S0 := hid (H.out.on A.out)
  have G0 := hid (blk_new w 26 znd)
  have hP := H.out.lt
  have HC := hid (here_calls P L (⟨k, x, n, p⟩ :: r) _ S0)
  unfold Tok.val cur at HC
  simp only [List.headD_cons] at HC
  unfold znd at *
  clear H ht
  cases hq : pRank f 1 r with
  | bad l' =>
    rw [hq] at HD
    rw [PR.bind_bad]
    go_enter Tryd.func67, Tryd.ntmps67
    go_wp2_with fail
    refine HC.out.mono ?_
    rintro e w1 ⟨rfl, b1⟩
    have A1 := (Below.refl _ w1).alloc (Nat.le_refl _) (.cells #[.int .i64 k, .string x, .int .i64 n, .int .i64 p] 41)
    have A2 := (Below.refl _ (w1.alloc (.cells #[.int .i64 k, .string x, .int .i64 n, .int .i64 p] 41))).alloc (Nat.le_refl _) (.cells #[.string ⟨#[40]⟩, .string ⟨#[123]⟩, .string ⟨#[102, 110]⟩, .string ⟨#[110, 117, 108, 108]⟩, .string ⟨#[116, 114, 117, 101]⟩, .string ⟨#[102, 97, 108, 115, 101]⟩, .string ⟨#[116, 104, 105, 115]⟩] 9)
    have S1 := hid (((S0.out.on b1).on A1).on A2)
    have B1 := hid (((But.of (P := P) (below_in A.out (Nat.le_refl _) b1)).trans (But.of A1)).trans (But.of A2))
    have G1 := hid (blk_on (blk_on (blk_on G0.out b1) A1) A2)
    have V1 := hid (show StrsIn (w1.heap.size + 2) (.slice (some ⟨w1.heap.size + 1, 0, none⟩) 7 7) atomW ((w1.alloc (.cells #[.int .i64 k, .string x, .int .i64 n, .int .i64 p] 41)).alloc (.cells #[.string ⟨#[40]⟩, .string ⟨#[123]⟩, .string ⟨#[102, 110]⟩, .string ⟨#[110, 117, 108, 108]⟩, .string ⟨#[116, 114, 117, 101]⟩, .string ⟨#[102, 97, 108, 115, 101]⟩, .string ⟨#[116, 104, 105, 115]⟩] 9)) from by
      have := atomW_new (w1.alloc (.cells #[.int .i64 k, .string x, .int .i64 n, .int .i64 p] 41))
      simpa using this)
    have hg1 := blk_lt G1.out
    clear b1 S0 A G0 HC A1 A2
    go_wp2_with fail
    refine (takeone_yes P L ⟨k, x, n, p⟩ r atomW ⟨#[40]⟩ (w1.heap.size + 2) _ _ (by simp) S1 V1 (by decide) HF.out).mono ?_
    rintro e w2 ⟨rfl, s2, b2⟩
    have S2 := hid s2
    have B2 := hid (B1.out.trans b2)
    have G2 := hid (blk_but G1.out b2 (by omega))
    have hg2 := blk_lt G2.out
    obtain ⟨r0, r1, r2, r3, r4, r5, r6⟩ := cells7 G2.out
    obtain ⟨u0, u1, u2, u3, u4, u5, u6⟩ := frees7 G2.out
    clear s2 b2 S1 V1 B1 G1 HF
    go_wp2_with fail
    clear r0 r1 r2 r3 r4 r5 r6 u0 u1 u2 u3 u4 u5 u6
    refine (HD.out _ S2).mono ?_
    rintro e wb ⟨rfl, sb, bb⟩
    have S8 := hid sb
    have B8 := hid (B2.out.trans bb)
    clear sb bb S2 B2 G2
    unfold gaveUp
    go_wp2_with fail
    exact ⟨rfl, rfl, S8.out, B8.out⟩
  | ok y b l' =>
    rw [hq] at HD
    rw [PR.bind_ok]
    unfold Go.Proofs.YtijbiedblahmhaaDoor.must
    by_cases hh : isH l' [41] = true
    · obtain ⟨u, z, rfl, hu⟩ := isH_some hh
      rw [if_pos hh]
      have HU := hid hu
      clear hh hu
      go_enter Tryd.func67, Tryd.ntmps67
      go_wp2_with fail
      refine HC.out.mono ?_
      rintro e w1 ⟨rfl, b1⟩
      have A1 := (Below.refl _ w1).alloc (Nat.le_refl _) (.cells #[.int .i64 k, .string x, .int .i64 n, .int .i64 p] 41)
      have A2 := (Below.refl _ (w1.alloc (.cells #[.int .i64 k, .string x, .int .i64 n, .int .i64 p] 41))).alloc (Nat.le_refl _) (.cells #[.string ⟨#[40]⟩, .string ⟨#[123]⟩, .string ⟨#[102, 110]⟩, .string ⟨#[110, 117, 108, 108]⟩, .string ⟨#[116, 114, 117, 101]⟩, .string ⟨#[102, 97, 108, 115, 101]⟩, .string ⟨#[116, 104, 105, 115]⟩] 9)
      have S1 := hid (((S0.out.on b1).on A1).on A2)
      have B1 := hid (((But.of (P := P) (below_in A.out (Nat.le_refl _) b1)).trans (But.of A1)).trans (But.of A2))
      have G1 := hid (blk_on (blk_on (blk_on G0.out b1) A1) A2)
      have V1 := hid (show StrsIn (w1.heap.size + 2) (.slice (some ⟨w1.heap.size + 1, 0, none⟩) 7 7) atomW ((w1.alloc (.cells #[.int .i64 k, .string x, .int .i64 n, .int .i64 p] 41)).alloc (.cells #[.string ⟨#[40]⟩, .string ⟨#[123]⟩, .string ⟨#[102, 110]⟩, .string ⟨#[110, 117, 108, 108]⟩, .string ⟨#[116, 114, 117, 101]⟩, .string ⟨#[102, 97, 108, 115, 101]⟩, .string ⟨#[116, 104, 105, 115]⟩] 9)) from by
        have := atomW_new (w1.alloc (.cells #[.int .i64 k, .string x, .int .i64 n, .int .i64 p] 41))
        simpa using this)
      have hg1 := blk_lt G1.out
      clear b1 S0 A G0 HC A1 A2
      go_wp2_with fail
      refine (takeone_yes P L ⟨k, x, n, p⟩ r atomW ⟨#[40]⟩ (w1.heap.size + 2) _ _ (by simp) S1 V1 (by decide) HF.out).mono ?_
      rintro e w2 ⟨rfl, s2, b2⟩
      have S2 := hid s2
      have B2 := hid (B1.out.trans b2)
      have G2 := hid (blk_but G1.out b2 (by omega))
      have hg2 := blk_lt G2.out
      obtain ⟨r0, r1, r2, r3, r4, r5, r6⟩ := cells7 G2.out
      obtain ⟨u0, u1, u2, u3, u4, u5, u6⟩ := frees7 G2.out
      clear s2 b2 S1 V1 B1 G1 HF
      go_wp2_with fail
      clear r0 r1 r2 r3 r4 r5 r6 u0 u1 u2 u3 u4 u5 u6
      refine (HD.out _ S2).mono ?_
      rintro e w3 ⟨⟨nv, kv, rfl, n3⟩, s3, b3⟩
      obtain ⟨a1, q1, a2, q2, rfl, rfl⟩ := ndR_shape n3
      have hz3 := b3.size
      have AA := (Below.refl _ w3).alloc (Nat.le_refl _) (.cells (ndc y (.slice a1 y.names.length q1) (.slice a2 y.kids.length q2)) 26)
      have S3 := hid (s3.on AA)
      have B3 := hid ((B2.out.trans b3).trans (But.of AA))
      have G3 := hid (blk_on (blk_but G2.out b3 (by omega)) AA)
      have V3 := hid (blk_new w3 26 (ndc y (.slice a1 y.names.length q1) (.slice a2 y.kids.length q2)))
      have N3 := hid (ndR_aft (aft_below AA) (ndR_low hg2 n3))
      clear s3 b3 n3 AA S2 B2 G2 HD
      unfold ndv
      unfold ndc at *
      go_wp2_with fail
      refine (must_yes P L u z ⟨#[41]⟩ _ S3 HU.out).mono ?_
      rintro e w4 ⟨rfl, s4, b4⟩
      have S4 := hid s4
      have B4 := hid (B3.out.trans b4)
      have G4 := hid (blk_but G3.out b4 (by omega))
      have V4 := hid (blk_but V3.out b4 (by omega))
      have N4 := hid (ndR_aft (aft_but b4 (by omega)) N3.out)
      have hg4 := blk_lt G4.out
      have hv4 := blk_lt V4.out
      obtain ⟨r0, r1, r2, r3, r4, r5, r6⟩ := cells7 G4.out
      obtain ⟨u0, u1, u2, u3, u4, u5, u6⟩ := frees7 G4.out
      obtain ⟨v0, v1, v2, v3, v4, v5, v6⟩ := cells7 V4.out
      clear s4 b4 S3 B3 G3 V3 N3 HU
      go_wp2_with fail
      have Z := fin_put hP (Nat.le_refl _) S4.out B4.out G4.out (.int .i64 y.kind) (.int .i64 y.op) (.int .i64 y.num) (.string y.str) (.slice a1 y.names.length q1) (.slice a2 y.kids.length q2) (.int .i64 y.pl)
      exact bodyPost_ret (ret_nd rfl rfl Z.1) rfl ⟨⟨_, _, rfl, ndR_low (Nat.le_succ _) (ndR_aft (put7_aft w4 (Nat.lt_succ_self _) _ _ _ _ _ _ _) N4.out)⟩, Z.2.1, Z.2.2⟩
    · rw [if_neg hh]
      have HN := hid (show isH l' [41] = false by simpa using hh)
      clear hh
      go_enter Tryd.func67, Tryd.ntmps67
      go_wp2_with fail
      refine HC.out.mono ?_
      rintro e w1 ⟨rfl, b1⟩
      have A1 := (Below.refl _ w1).alloc (Nat.le_refl _) (.cells #[.int .i64 k, .string x, .int .i64 n, .int .i64 p] 41)
      have A2 := (Below.refl _ (w1.alloc (.cells #[.int .i64 k, .string x, .int .i64 n, .int .i64 p] 41))).alloc (Nat.le_refl _) (.cells #[.string ⟨#[40]⟩, .string ⟨#[123]⟩, .string ⟨#[102, 110]⟩, .string ⟨#[110, 117, 108, 108]⟩, .string ⟨#[116, 114, 117, 101]⟩, .string ⟨#[102, 97, 108, 115, 101]⟩, .string ⟨#[116, 104, 105, 115]⟩] 9)
      have S1 := hid (((S0.out.on b1).on A1).on A2)
      have B1 := hid (((But.of (P := P) (below_in A.out (Nat.le_refl _) b1)).trans (But.of A1)).trans (But.of A2))
      have G1 := hid (blk_on (blk_on (blk_on G0.out b1) A1) A2)
      have V1 := hid (show StrsIn (w1.heap.size + 2) (.slice (some ⟨w1.heap.size + 1, 0, none⟩) 7 7) atomW ((w1.alloc (.cells #[.int .i64 k, .string x, .int .i64 n, .int .i64 p] 41)).alloc (.cells #[.string ⟨#[40]⟩, .string ⟨#[123]⟩, .string ⟨#[102, 110]⟩, .string ⟨#[110, 117, 108, 108]⟩, .string ⟨#[116, 114, 117, 101]⟩, .string ⟨#[102, 97, 108, 115, 101]⟩, .string ⟨#[116, 104, 105, 115]⟩] 9)) from by
        have := atomW_new (w1.alloc (.cells #[.int .i64 k, .string x, .int .i64 n, .int .i64 p] 41))
        simpa using this)
      have hg1 := blk_lt G1.out
      clear b1 S0 A G0 HC A1 A2
      go_wp2_with fail
      refine (takeone_yes P L ⟨k, x, n, p⟩ r atomW ⟨#[40]⟩ (w1.heap.size + 2) _ _ (by simp) S1 V1 (by decide) HF.out).mono ?_
      rintro e w2 ⟨rfl, s2, b2⟩
      have S2 := hid s2
      have B2 := hid (B1.out.trans b2)
      have G2 := hid (blk_but G1.out b2 (by omega))
      have hg2 := blk_lt G2.out
      obtain ⟨r0, r1, r2, r3, r4, r5, r6⟩ := cells7 G2.out
      obtain ⟨u0, u1, u2, u3, u4, u5, u6⟩ := frees7 G2.out
      clear s2 b2 S1 V1 B1 G1 HF
      go_wp2_with fail
      clear r0 r1 r2 r3 r4 r5 r6 u0 u1 u2 u3 u4 u5 u6
      refine (HD.out _ S2).mono ?_
      rintro e w3 ⟨⟨nv, kv, rfl, n3⟩, s3, b3⟩
      obtain ⟨a1, q1, a2, q2, rfl, rfl⟩ := ndR_shape n3
      have hz3 := b3.size
      have AA := (Below.refl _ w3).alloc (Nat.le_refl _) (.cells (ndc y (.slice a1 y.names.length q1) (.slice a2 y.kids.length q2)) 26)
      have S3 := hid (s3.on AA)
      have B3 := hid ((B2.out.trans b3).trans (But.of AA))
      have G3 := hid (blk_on (blk_but G2.out b3 (by omega)) AA)
      have V3 := hid (blk_new w3 26 (ndc y (.slice a1 y.names.length q1) (.slice a2 y.kids.length q2)))
      have N3 := hid (ndR_aft (aft_below AA) (ndR_low hg2 n3))
      clear s3 b3 n3 AA S2 B2 G2 HD
      unfold ndv
      unfold ndc at *
      go_wp2_with fail
      refine (must_no P L l' ⟨#[41]⟩ _ S3 HN.out).mono ?_
      rintro e w4 ⟨rfl, b4⟩
      have S4 := hid (S3.out.on b4)
      have B4 := hid (B3.out.trans (But.of b4))
      clear b4 S3 B3 G3 V3 N3 HN
      unfold gaveUp
      go_wp2_with fail
      exact ⟨rfl, rfl, S4.out, B4.out⟩

set_option maxRecDepth 100000 in
set_option maxHeartbeats 6400000 in
theorem atom_obj (o : PR) (P : Nat) (L : List Tok) (k : Int) (x : ByteArray) (n p : Int) (r : List Tok) (w : World) (hO : ∀ w', Hid (PSt P L w' r) → Calls Tryd.prog 76 #[.pointer (some ⟨P, 0, none⟩)] w' (Reads P L w' o)) (H : Hid (PSt P L w (⟨k, x, n, p⟩ :: r))) (ht : isT ⟨k, x, n, p⟩ [123] = true) :
    Calls Tryd.prog 67 #[.pointer (some ⟨P, 0, none⟩)] w (Reads P L w o) := by
  obtain ⟨hk3, hk4, hk1⟩ := isT_134 ht
  simp only at hk3 hk4 hk1
  have HF := hid (atom_wobj (q := r) ht)
  have HD := hid hO
  clear hO
  have A := hid ((Below.refl _ w).alloc (Nat.le_refl _) (.cells znd 26))
  have S0 := hid (H.out.on A.out)
  have G0 := hid (blk_new w 26 znd)
  have hP := H.out.lt
  have HC := hid (here_calls P L (⟨k, x, n, p⟩ :: r) _ S0)
  unfold Tok.val cur at HC
  simp only [List.headD_cons] at HC
  unfold znd at *
  clear H ht
  cases o with
  | bad l' =>
    go_enter Tryd.func67, Tryd.ntmps67
    go_wp2_with fail
    refine HC.out.mono ?_
    rintro e w1 ⟨rfl, b1⟩
    have A1 := (Below.refl _ w1).alloc (Nat.le_refl _) (.cells #[.int .i64 k, .string x, .int .i64 n, .int .i64 p] 41)
    have A2 := (Below.refl _ (w1.alloc (.cells #[.int .i64 k, .string x, .int .i64 n, .int .i64 p] 41))).alloc (Nat.le_refl _) (.cells #[.string ⟨#[40]⟩, .string ⟨#[123]⟩, .string ⟨#[102, 110]⟩, .string ⟨#[110, 117, 108, 108]⟩, .string ⟨#[116, 114, 117, 101]⟩, .string ⟨#[102, 97, 108, 115, 101]⟩, .string ⟨#[116, 104, 105, 115]⟩] 9)
    have S1 := hid (((S0.out.on b1).on A1).on A2)
    have B1 := hid (((But.of (P := P) (below_in A.out (Nat.le_refl _) b1)).trans (But.of A1)).trans (But.of A2))
    have G1 := hid (blk_on (blk_on (blk_on G0.out b1) A1) A2)
    have V1 := hid (show StrsIn (w1.heap.size + 2) (.slice (some ⟨w1.heap.size + 1, 0, none⟩) 7 7) atomW ((w1.alloc (.cells #[.int .i64 k, .string x, .int .i64 n, .int .i64 p] 41)).alloc (.cells #[.string ⟨#[40]⟩, .string ⟨#[123]⟩, .string ⟨#[102, 110]⟩, .string ⟨#[110, 117, 108, 108]⟩, .string ⟨#[116, 114, 117, 101]⟩, .string ⟨#[102, 97, 108, 115, 101]⟩, .string ⟨#[116, 104, 105, 115]⟩] 9)) from by
      have := atomW_new (w1.alloc (.cells #[.int .i64 k, .string x, .int .i64 n, .int .i64 p] 41))
      simpa using this)
    have hg1 := blk_lt G1.out
    clear b1 S0 A G0 HC A1 A2
    go_wp2_with fail
    refine (takeone_yes P L ⟨k, x, n, p⟩ r atomW ⟨#[123]⟩ (w1.heap.size + 2) _ _ (by simp) S1 V1 (by decide) HF.out).mono ?_
    rintro e w2 ⟨rfl, s2, b2⟩
    have S2 := hid s2
    have B2 := hid (B1.out.trans b2)
    have G2 := hid (blk_but G1.out b2 (by omega))
    have hg2 := blk_lt G2.out
    obtain ⟨r0, r1, r2, r3, r4, r5, r6⟩ := cells7 G2.out
    obtain ⟨u0, u1, u2, u3, u4, u5, u6⟩ := frees7 G2.out
    clear s2 b2 S1 V1 B1 G1 HF
    go_wp2_with fail
    clear r0 r1 r2 r3 r4 r5 r6 u0 u1 u2 u3 u4 u5 u6
    refine (HD.out _ S2).mono ?_
    rintro e wb ⟨rfl, sb, bb⟩
    have S8 := hid sb
    have B8 := hid (B2.out.trans bb)
    clear sb bb S2 B2 G2
    unfold gaveUp
    go_wp2_with fail
    exact ⟨rfl, rfl, S8.out, B8.out⟩
  | ok y b l' =>
    go_enter Tryd.func67, Tryd.ntmps67
    go_wp2_with fail
    refine HC.out.mono ?_
    rintro e w1 ⟨rfl, b1⟩
    have A1 := (Below.refl _ w1).alloc (Nat.le_refl _) (.cells #[.int .i64 k, .string x, .int .i64 n, .int .i64 p] 41)
    have A2 := (Below.refl _ (w1.alloc (.cells #[.int .i64 k, .string x, .int .i64 n, .int .i64 p] 41))).alloc (Nat.le_refl _) (.cells #[.string ⟨#[40]⟩, .string ⟨#[123]⟩, .string ⟨#[102, 110]⟩, .string ⟨#[110, 117, 108, 108]⟩, .string ⟨#[116, 114, 117, 101]⟩, .string ⟨#[102, 97, 108, 115, 101]⟩, .string ⟨#[116, 104, 105, 115]⟩] 9)
    have S1 := hid (((S0.out.on b1).on A1).on A2)
    have B1 := hid (((But.of (P := P) (below_in A.out (Nat.le_refl _) b1)).trans (But.of A1)).trans (But.of A2))
    have G1 := hid (blk_on (blk_on (blk_on G0.out b1) A1) A2)
    have V1 := hid (show StrsIn (w1.heap.size + 2) (.slice (some ⟨w1.heap.size + 1, 0, none⟩) 7 7) atomW ((w1.alloc (.cells #[.int .i64 k, .string x, .int .i64 n, .int .i64 p] 41)).alloc (.cells #[.string ⟨#[40]⟩, .string ⟨#[123]⟩, .string ⟨#[102, 110]⟩, .string ⟨#[110, 117, 108, 108]⟩, .string ⟨#[116, 114, 117, 101]⟩, .string ⟨#[102, 97, 108, 115, 101]⟩, .string ⟨#[116, 104, 105, 115]⟩] 9)) from by
      have := atomW_new (w1.alloc (.cells #[.int .i64 k, .string x, .int .i64 n, .int .i64 p] 41))
      simpa using this)
    have hg1 := blk_lt G1.out
    clear b1 S0 A G0 HC A1 A2
    go_wp2_with fail
    refine (takeone_yes P L ⟨k, x, n, p⟩ r atomW ⟨#[123]⟩ (w1.heap.size + 2) _ _ (by simp) S1 V1 (by decide) HF.out).mono ?_
    rintro e w2 ⟨rfl, s2, b2⟩
    have S2 := hid s2
    have B2 := hid (B1.out.trans b2)
    have G2 := hid (blk_but G1.out b2 (by omega))
    have hg2 := blk_lt G2.out
    obtain ⟨r0, r1, r2, r3, r4, r5, r6⟩ := cells7 G2.out
    obtain ⟨u0, u1, u2, u3, u4, u5, u6⟩ := frees7 G2.out
    clear s2 b2 S1 V1 B1 G1 HF
    go_wp2_with fail
    clear r0 r1 r2 r3 r4 r5 r6 u0 u1 u2 u3 u4 u5 u6
    refine (HD.out _ S2).mono ?_
    rintro e w2 ⟨⟨nv, kv, rfl, n2⟩, s2, b2⟩
    obtain ⟨a1, q1, a2, q2, rfl, rfl⟩ := ndR_shape n2
    have S3 := hid s2
    have hg2 := blk_lt G2.out
    have N3 := hid (ndR_low hg2 n2)
    have B3 := hid (B2.out.trans b2)
    have G3 := hid (blk_but G2.out b2 (by omega))
    have hg3 := blk_lt G3.out
    obtain ⟨r0, r1, r2, r3, r4, r5, r6⟩ := cells7 G3.out
    obtain ⟨u0, u1, u2, u3, u4, u5, u6⟩ := frees7 G3.out
    clear s2 b2 S2 B2 G2 n2
    unfold ndv
    go_wp2_with fail
    have Z := fin_put hP (Nat.le_refl _) S3.out B3.out G3.out (.int .i64 y.kind) (.int .i64 y.op) (.int .i64 y.num) (.string y.str) (.slice a1 y.names.length q1) (.slice a2 y.kids.length q2) (.int .i64 y.pl)
    exact bodyPost_ret (ret_nd rfl rfl Z.1) rfl ⟨⟨_, _, rfl, ndR_low (Nat.le_succ _) (ndR_aft (put7_aft w2 (Nat.lt_succ_self _) _ _ _ _ _ _ _) N3.out)⟩, Z.2.1, Z.2.2⟩

end Go.Proofs.YtijbiedblahmhaaDoor

namespace Go.Proofs.YtijbiedblahmhaaDoor
open Go.RowKit

set_option maxRecDepth 100000 in
set_option maxHeartbeats 6400000 in
theorem atom_fn (o : PR) (P : Nat) (L : List Tok) (k : Int) (x : ByteArray) (n p : Int) (r : List Tok) (w : World) (hO : ∀ w', Hid (PSt P L w' r) → Calls Tryd.prog 77 #[.pointer (some ⟨P, 0, none⟩), .int .i64 p] w' (Reads P L w' o)) (H : Hid (PSt P L w (⟨k, x, n, p⟩ :: r))) (ht : isT ⟨k, x, n, p⟩ [102, 110] = true) :
    Calls Tryd.prog 67 #[.pointer (some ⟨P, 0, none⟩)] w (Reads P L w o) := by
  obtain ⟨hk3, hk4, hk1⟩ := isT_134 ht
  simp only at hk3 hk4 hk1
  have HF := hid (atom_wfn (q := r) ht)
  have HD := hid hO
  clear hO
  have A := hid ((Below.refl _ w).alloc (Nat.le_refl _) (.cells znd 26))
  have S0 := hid (H.out.on A.out)
  have G0 := hid (blk_new w 26 znd)
  have hP := H.out.lt
  have HC := hid (here_calls P L (⟨k, x, n, p⟩ :: r) _ S0)
  unfold Tok.val cur at HC
  simp only [List.headD_cons] at HC
  unfold znd at *
  clear H ht
  cases o with
  | bad l' =>
    go_enter Tryd.func67, Tryd.ntmps67
    go_wp2_with fail
    refine HC.out.mono ?_
    rintro e w1 ⟨rfl, b1⟩
    have hz1 := b1.size
    simp only [World.size_alloc] at hz1
    have A1 := (Below.refl _ w1).alloc (Nat.le_refl _) (.cells #[.int .i64 k, .string x, .int .i64 n, .int .i64 p] 41)
    have A2 := (Below.refl _ (w1.alloc (.cells #[.int .i64 k, .string x, .int .i64 n, .int .i64 p] 41))).alloc (Nat.le_refl _) (.cells #[.string ⟨#[40]⟩, .string ⟨#[123]⟩, .string ⟨#[102, 110]⟩, .string ⟨#[110, 117, 108, 108]⟩, .string ⟨#[116, 114, 117, 101]⟩, .string ⟨#[102, 97, 108, 115, 101]⟩, .string ⟨#[116, 104, 105, 115]⟩] 9)
    have S1 := hid (((S0.out.on b1).on A1).on A2)
    have B1 := hid (((But.of (P := P) (below_in A.out (Nat.le_refl _) b1)).trans (But.of A1)).trans (But.of A2))
    have G1 := hid (blk_on (blk_on (blk_on G0.out b1) A1) A2)
    have V1 := hid (show StrsIn (w1.heap.size + 2) (.slice (some ⟨w1.heap.size + 1, 0, none⟩) 7 7) atomW ((w1.alloc (.cells #[.int .i64 k, .string x, .int .i64 n, .int .i64 p] 41)).alloc (.cells #[.string ⟨#[40]⟩, .string ⟨#[123]⟩, .string ⟨#[102, 110]⟩, .string ⟨#[110, 117, 108, 108]⟩, .string ⟨#[116, 114, 117, 101]⟩, .string ⟨#[102, 97, 108, 115, 101]⟩, .string ⟨#[116, 104, 105, 115]⟩] 9)) from by
      have := atomW_new (w1.alloc (.cells #[.int .i64 k, .string x, .int .i64 n, .int .i64 p] 41))
      simpa using this)
    have T1 := hid (blk_on (blk_new w1 41 #[.int .i64 k, .string x, .int .i64 n, .int .i64 p]) A2)
    have hg1 := blk_lt G1.out
    clear b1 S0 A G0 HC A1 A2
    go_wp2_with fail
    refine (takeone_yes P L ⟨k, x, n, p⟩ r atomW ⟨#[102, 110]⟩ (w1.heap.size + 2) _ _ (by simp) S1 V1 (by decide) HF.out).mono ?_
    rintro e w2 ⟨rfl, s2, b2⟩
    have S2 := hid s2
    have B2 := hid (B1.out.trans b2)
    have G2 := hid (blk_but G1.out b2 (by omega))
    have T2 := hid (blk_but T1.out b2 (by omega))
    have hg2 := blk_lt G2.out
    have ht2 := blk_lt T2.out
    have t0 := blk_cell T2.out 0
    have t1 := blk_cell T2.out 1
    have t2 := blk_cell T2.out 2
    have t3 := blk_cell T2.out 3
    simp at t0 t1 t2 t3
    obtain ⟨r0, r1, r2, r3, r4, r5, r6⟩ := cells7 G2.out
    obtain ⟨u0, u1, u2, u3, u4, u5, u6⟩ := frees7 G2.out
    clear s2 b2 S1 V1 B1 G1 HF T1
    go_wp2_with fail
    clear r0 r1 r2 r3 r4 r5 r6 u0 u1 u2 u3 u4 u5 u6
    refine (HD.out _ S2).mono ?_
    rintro e wb ⟨rfl, sb, bb⟩
    have S8 := hid sb
    have B8 := hid (B2.out.trans bb)
    clear sb bb S2 B2 G2
    unfold gaveUp
    go_wp2_with fail
    exact ⟨rfl, rfl, S8.out, B8.out⟩
  | ok y b l' =>
    go_enter Tryd.func67, Tryd.ntmps67
    go_wp2_with fail
    refine HC.out.mono ?_
    rintro e w1 ⟨rfl, b1⟩
    have hz1 := b1.size
    simp only [World.size_alloc] at hz1
    have A1 := (Below.refl _ w1).alloc (Nat.le_refl _) (.cells #[.int .i64 k, .string x, .int .i64 n, .int .i64 p] 41)
    have A2 := (Below.refl _ (w1.alloc (.cells #[.int .i64 k, .string x, .int .i64 n, .int .i64 p] 41))).alloc (Nat.le_refl _) (.cells #[.string ⟨#[40]⟩, .string ⟨#[123]⟩, .string ⟨#[102, 110]⟩, .string ⟨#[110, 117, 108, 108]⟩, .string ⟨#[116, 114, 117, 101]⟩, .string ⟨#[102, 97, 108, 115, 101]⟩, .string ⟨#[116, 104, 105, 115]⟩] 9)
    have S1 := hid (((S0.out.on b1).on A1).on A2)
    have B1 := hid (((But.of (P := P) (below_in A.out (Nat.le_refl _) b1)).trans (But.of A1)).trans (But.of A2))
    have G1 := hid (blk_on (blk_on (blk_on G0.out b1) A1) A2)
    have V1 := hid (show StrsIn (w1.heap.size + 2) (.slice (some ⟨w1.heap.size + 1, 0, none⟩) 7 7) atomW ((w1.alloc (.cells #[.int .i64 k, .string x, .int .i64 n, .int .i64 p] 41)).alloc (.cells #[.string ⟨#[40]⟩, .string ⟨#[123]⟩, .string ⟨#[102, 110]⟩, .string ⟨#[110, 117, 108, 108]⟩, .string ⟨#[116, 114, 117, 101]⟩, .string ⟨#[102, 97, 108, 115, 101]⟩, .string ⟨#[116, 104, 105, 115]⟩] 9)) from by
      have := atomW_new (w1.alloc (.cells #[.int .i64 k, .string x, .int .i64 n, .int .i64 p] 41))
      simpa using this)
    have T1 := hid (blk_on (blk_new w1 41 #[.int .i64 k, .string x, .int .i64 n, .int .i64 p]) A2)
    have hg1 := blk_lt G1.out
    clear b1 S0 A G0 HC A1 A2
    go_wp2_with fail
    refine (takeone_yes P L ⟨k, x, n, p⟩ r atomW ⟨#[102, 110]⟩ (w1.heap.size + 2) _ _ (by simp) S1 V1 (by decide) HF.out).mono ?_
    rintro e w2 ⟨rfl, s2, b2⟩
    have S2 := hid s2
    have B2 := hid (B1.out.trans b2)
    have G2 := hid (blk_but G1.out b2 (by omega))
    have T2 := hid (blk_but T1.out b2 (by omega))
    have hg2 := blk_lt G2.out
    have ht2 := blk_lt T2.out
    have t0 := blk_cell T2.out 0
    have t1 := blk_cell T2.out 1
    have t2 := blk_cell T2.out 2
    have t3 := blk_cell T2.out 3
    simp at t0 t1 t2 t3
    obtain ⟨r0, r1, r2, r3, r4, r5, r6⟩ := cells7 G2.out
    obtain ⟨u0, u1, u2, u3, u4, u5, u6⟩ := frees7 G2.out
    clear s2 b2 S1 V1 B1 G1 HF T1
    go_wp2_with fail
    clear r0 r1 r2 r3 r4 r5 r6 u0 u1 u2 u3 u4 u5 u6
    refine (HD.out _ S2).mono ?_
    rintro e w2 ⟨⟨nv, kv, rfl, n2⟩, s2, b2⟩
    obtain ⟨a1, q1, a2, q2, rfl, rfl⟩ := ndR_shape n2
    have S3 := hid s2
    have hg2 := blk_lt G2.out
    have N3 := hid (ndR_low hg2 n2)
    have B3 := hid (B2.out.trans b2)
    have G3 := hid (blk_but G2.out b2 (by omega))
    have hg3 := blk_lt G3.out
    obtain ⟨r0, r1, r2, r3, r4, r5, r6⟩ := cells7 G3.out
    obtain ⟨u0, u1, u2, u3, u4, u5, u6⟩ := frees7 G3.out
    clear s2 b2 S2 B2 G2 n2
    unfold ndv
    go_wp2_with fail
    have Z := fin_put hP (Nat.le_refl _) S3.out B3.out G3.out (.int .i64 y.kind) (.int .i64 y.op) (.int .i64 y.num) (.string y.str) (.slice a1 y.names.length q1) (.slice a2 y.kids.length q2) (.int .i64 y.pl)
    exact bodyPost_ret (ret_nd rfl rfl Z.1) rfl ⟨⟨_, _, rfl, ndR_low (Nat.le_succ _) (ndR_aft (put7_aft w2 (Nat.lt_succ_self _) _ _ _ _ _ _ _) N3.out)⟩, Z.2.1, Z.2.2⟩

theorem atom_wnone {l : List Tok} (h : ∀ x ∈ atomW, isH l x.data.toList = false) : firstW atomW l = none := by
  unfold firstW
  rw [List.find?_eq_none]
  intro x hx
  rw [h x hx]; simp

set_option maxRecDepth 100000 in
set_option maxHeartbeats 6400000 in
theorem atom_built (o : PR) (P : Nat) (L : List Tok) (k : Int) (x : ByteArray) (n p : Int) (r : List Tok) (w : World) (hO : ∀ w', Hid (PSt P L w' (⟨k, x, n, p⟩ :: r)) → Calls Tryd.prog 78 #[.pointer (some ⟨P, 0, none⟩)] w' (Reads P L w' o)) (H : Hid (PSt P L w (⟨k, x, n, p⟩ :: r))) (hk3 : (k == 3) = false) (hk4 : (k == 4) = false) (hk1 : (k == 1) = false) (ht : firstW atomW (⟨k, x, n, p⟩ :: r) = none) :
    Calls Tryd.prog 67 #[.pointer (some ⟨P, 0, none⟩)] w (Reads P L w o) := by
  have HF := hid ht
  have HD := hid hO
  clear hO
  have A := hid ((Below.refl _ w).alloc (Nat.le_refl _) (.cells znd 26))
  have S0 := hid (H.out.on A.out)
  have G0 := hid (blk_new w 26 znd)
  have hP := H.out.lt
  have HC := hid (here_calls P L (⟨k, x, n, p⟩ :: r) _ S0)
  unfold Tok.val cur at HC
  simp only [List.headD_cons] at HC
  unfold znd at *
  clear H ht
  cases o with
  | bad l' =>
    go_enter Tryd.func67, Tryd.ntmps67
    go_wp2_with fail
    refine HC.out.mono ?_
    rintro e w1 ⟨rfl, b1⟩
    have A1 := (Below.refl _ w1).alloc (Nat.le_refl _) (.cells #[.int .i64 k, .string x, .int .i64 n, .int .i64 p] 41)
    have A2 := (Below.refl _ (w1.alloc (.cells #[.int .i64 k, .string x, .int .i64 n, .int .i64 p] 41))).alloc (Nat.le_refl _) (.cells #[.string ⟨#[40]⟩, .string ⟨#[123]⟩, .string ⟨#[102, 110]⟩, .string ⟨#[110, 117, 108, 108]⟩, .string ⟨#[116, 114, 117, 101]⟩, .string ⟨#[102, 97, 108, 115, 101]⟩, .string ⟨#[116, 104, 105, 115]⟩] 9)
    have S1 := hid (((S0.out.on b1).on A1).on A2)
    have B1 := hid (((But.of (P := P) (below_in A.out (Nat.le_refl _) b1)).trans (But.of A1)).trans (But.of A2))
    have G1 := hid (blk_on (blk_on (blk_on G0.out b1) A1) A2)
    have V1 := hid (show StrsIn (w1.heap.size + 2) (.slice (some ⟨w1.heap.size + 1, 0, none⟩) 7 7) atomW ((w1.alloc (.cells #[.int .i64 k, .string x, .int .i64 n, .int .i64 p] 41)).alloc (.cells #[.string ⟨#[40]⟩, .string ⟨#[123]⟩, .string ⟨#[102, 110]⟩, .string ⟨#[110, 117, 108, 108]⟩, .string ⟨#[116, 114, 117, 101]⟩, .string ⟨#[102, 97, 108, 115, 101]⟩, .string ⟨#[116, 104, 105, 115]⟩] 9)) from by
      have := atomW_new (w1.alloc (.cells #[.int .i64 k, .string x, .int .i64 n, .int .i64 p] 41))
      simpa using this)
    have hg1 := blk_lt G1.out
    clear b1 S0 A G0 HC A1 A2
    go_wp2_with fail
    refine (takeone_no P L (⟨k, x, n, p⟩ :: r) atomW (w1.heap.size + 2) _ _ (by simp) S1 V1 (by decide) HF.out).mono ?_
    rintro e w2 ⟨rfl, b2⟩
    have S2 := hid (S1.out.on b2)
    have B2 := hid (B1.out.trans (But.of b2))
    have G2 := hid (blk_on G1.out b2)
    have hg2 := blk_lt G2.out
    clear b2 S1 V1 B1 G1 HF
    go_wp2_with fail
    refine (HD.out _ S2).mono ?_
    rintro e wb ⟨rfl, sb, bb⟩
    have S8 := hid sb
    have B8 := hid (B2.out.trans bb)
    clear sb bb S2 B2 G2
    unfold gaveUp
    go_wp2_with fail
    exact ⟨rfl, rfl, S8.out, B8.out⟩
  | ok y b l' =>
    go_enter Tryd.func67, Tryd.ntmps67
    go_wp2_with fail
    refine HC.out.mono ?_
    rintro e w1 ⟨rfl, b1⟩
    have A1 := (Below.refl _ w1).alloc (Nat.le_refl _) (.cells #[.int .i64 k, .string x, .int .i64 n, .int .i64 p] 41)
    have A2 := (Below.refl _ (w1.alloc (.cells #[.int .i64 k, .string x, .int .i64 n, .int .i64 p] 41))).alloc (Nat.le_refl _) (.cells #[.string ⟨#[40]⟩, .string ⟨#[123]⟩, .string ⟨#[102, 110]⟩, .string ⟨#[110, 117, 108, 108]⟩, .string ⟨#[116, 114, 117, 101]⟩, .string ⟨#[102, 97, 108, 115, 101]⟩, .string ⟨#[116, 104, 105, 115]⟩] 9)
    have S1 := hid (((S0.out.on b1).on A1).on A2)
    have B1 := hid (((But.of (P := P) (below_in A.out (Nat.le_refl _) b1)).trans (But.of A1)).trans (But.of A2))
    have G1 := hid (blk_on (blk_on (blk_on G0.out b1) A1) A2)
    have V1 := hid (show StrsIn (w1.heap.size + 2) (.slice (some ⟨w1.heap.size + 1, 0, none⟩) 7 7) atomW ((w1.alloc (.cells #[.int .i64 k, .string x, .int .i64 n, .int .i64 p] 41)).alloc (.cells #[.string ⟨#[40]⟩, .string ⟨#[123]⟩, .string ⟨#[102, 110]⟩, .string ⟨#[110, 117, 108, 108]⟩, .string ⟨#[116, 114, 117, 101]⟩, .string ⟨#[102, 97, 108, 115, 101]⟩, .string ⟨#[116, 104, 105, 115]⟩] 9)) from by
      have := atomW_new (w1.alloc (.cells #[.int .i64 k, .string x, .int .i64 n, .int .i64 p] 41))
      simpa using this)
    have hg1 := blk_lt G1.out
    clear b1 S0 A G0 HC A1 A2
    go_wp2_with fail
    refine (takeone_no P L (⟨k, x, n, p⟩ :: r) atomW (w1.heap.size + 2) _ _ (by simp) S1 V1 (by decide) HF.out).mono ?_
    rintro e w2 ⟨rfl, b2⟩
    have S2 := hid (S1.out.on b2)
    have B2 := hid (B1.out.trans (But.of b2))
    have G2 := hid (blk_on G1.out b2)
    have hg2 := blk_lt G2.out
    clear b2 S1 V1 B1 G1 HF
    go_wp2_with fail
    refine (HD.out _ S2).mono ?_
    rintro e w2 ⟨⟨nv, kv, rfl, n2⟩, s2, b2⟩
    obtain ⟨a1, q1, a2, q2, rfl, rfl⟩ := ndR_shape n2
    have S3 := hid s2
    have hg2 := blk_lt G2.out
    have N3 := hid (ndR_low hg2 n2)
    have B3 := hid (B2.out.trans b2)
    have G3 := hid (blk_but G2.out b2 (by omega))
    have hg3 := blk_lt G3.out
    obtain ⟨r0, r1, r2, r3, r4, r5, r6⟩ := cells7 G3.out
    obtain ⟨u0, u1, u2, u3, u4, u5, u6⟩ := frees7 G3.out
    clear s2 b2 S2 B2 G2 n2
    unfold ndv
    go_wp2_with fail
    have Z := fin_put hP (Nat.le_refl _) S3.out B3.out G3.out (.int .i64 y.kind) (.int .i64 y.op) (.int .i64 y.num) (.string y.str) (.slice a1 y.names.length q1) (.slice a2 y.kids.length q2) (.int .i64 y.pl)
    exact bodyPost_ret (ret_nd rfl rfl Z.1) rfl ⟨⟨_, _, rfl, ndR_low (Nat.le_succ _) (ndR_aft (put7_aft w2 (Nat.lt_succ_self _) _ _ _ _ _ _ _) N3.out)⟩, Z.2.1, Z.2.2⟩

end Go.Proofs.YtijbiedblahmhaaDoor

namespace Go.Proofs.YtijbiedblahmhaaDoor
open Go.RowKit

/-- an object behind its brace; a function behind its key; a built-in call -/
def pObjN (f : Nat) (l : List Tok) : PR := (pObj f l).bind fun ns ks l => .ok (.mk 7 0 0 bz ns ks 0) false l
def pFnN (f : Nat) (at_ : Int) (l : List Tok) : PR := must [40] l fun l' => (pPars l').bind fun ns _ l' => (pBlock f l').bind fun b _ l' => .ok (.mk 8 0 0 bz ns b.kids at_) false l'
def pBuiltN (f : Nat) (l : List Tok) : PR := match builtP l with
  | none => .bad l
  | some o => must [40] l.tail fun l => (pRank f 1 l).bind fun e _ l =>
      if (builtT o).2 = 2 then must [44] l fun l => (pRank f 1 l).bind fun e' _ l => must [41] l fun l => .ok (ndO 17 o [e, e']) false l
      else must [41] l fun l => .ok (ndO 17 o [e]) false l
def ObjC (f : Nat) : Prop := ∀ (P : Nat) (L l : List Tok) (w : World), 20 * l.length + 15 ≤ f → Hid (PSt P L w l) → Calls Tryd.prog 76 #[.pointer (some ⟨P, 0, none⟩)] w (Reads P L w (pObjN f l))
def FnC (f : Nat) : Prop := ∀ (P : Nat) (L l : List Tok) (a : Int) (w : World), 20 * l.length + 15 ≤ f → Hid (PSt P L w l) → Calls Tryd.prog 77 #[.pointer (some ⟨P, 0, none⟩), .int .i64 a] w (Reads P L w (pFnN f a l))
def BuiltC (f : Nat) : Prop := ∀ (P : Nat) (L l : List Tok) (w : World), 20 * l.length + 1 ≤ f → Hid (PSt P L w l) → Calls Tryd.prog 78 #[.pointer (some ⟨P, 0, none⟩)] w (Reads P L w (pBuiltN f l))

theorem atom_calls (f : Nat) (hR : RankC f) (hO : ObjC f) (hF : FnC f) (hB : BuiltC f) : AtomC (f + 1) := by
  intro P L l w hf H
  cases l with
  | nil => exact absurd rfl H.out.ne
  | cons t r =>
    obtain ⟨k, x, n, p⟩ := t
    have hlen : 20 * r.length + 21 ≤ f := by simp at hf; omega
    rw [pAtom]
    show Calls _ _ _ _ (Reads P L w (if k = 3 then .ok (.mk 3 0 n bz [] [] 0) false r else if k = 4 then .ok (ndS 4 x []) false r else if k = 1 then .ok (.mk 5 0 0 x [] [] p) true r else _))
    by_cases h3 : k = 3
    · subst h3
      rw [if_pos rfl]
      exact atom_num P L x n p r w H
    rw [if_neg h3]
    by_cases h4 : k = 4
    · subst h4
      rw [if_pos rfl]
      exact atom_str P L x n p r w H
    rw [if_neg h4]
    by_cases h1 : k = 1
    · subst h1
      rw [if_pos rfl]
      exact atom_name P L x n p r w H
    rw [if_neg h1]
    by_cases gnull : isH (⟨k, x, n, p⟩ :: r) [110, 117, 108, 108] = true
    · rw [if_pos gnull]
      exact atom_null P L k x n p r w H gnull
    rw [if_neg gnull]
    by_cases gtrue : isH (⟨k, x, n, p⟩ :: r) [116, 114, 117, 101] = true
    · rw [if_pos gtrue]
      exact atom_true P L k x n p r w H gtrue
    rw [if_neg gtrue]
    by_cases gfalse : isH (⟨k, x, n, p⟩ :: r) [102, 97, 108, 115, 101] = true
    · rw [if_pos gfalse]
      exact atom_false P L k x n p r w H gfalse
    rw [if_neg gfalse]
    by_cases gthis : isH (⟨k, x, n, p⟩ :: r) [116, 104, 105, 115] = true
    · rw [if_pos gthis]
      exact atom_this P L k x n p r w H gthis
    rw [if_neg gthis]
    by_cases gpar : isH (⟨k, x, n, p⟩ :: r) [40] = true
    · rw [if_pos gpar]
      exact atom_par f hR P L k x n p r w (by omega) H gpar
    rw [if_neg gpar]
    by_cases gobj : isH (⟨k, x, n, p⟩ :: r) [123] = true
    · rw [if_pos gobj]
      exact atom_obj _ P L k x n p r w (fun w' S => hO P L r w' (by omega) S) H gobj
    rw [if_neg gobj]
    by_cases gfn : isH (⟨k, x, n, p⟩ :: r) [102, 110] = true
    · rw [if_pos gfn]
      exact atom_fn _ P L k x n p r w (fun w' S => hF P L r p w' (by omega) S) H gfn
    rw [if_neg gfn]
    refine atom_built _ P L k x n p r w (fun w' S => hB P L _ w' (by simp at hf ⊢; omega) S) H (by simpa using h3) (by simpa using h4) (by simpa using h1) (atom_wnone fun y hy => ?_)
    simp only [atomW, List.mem_cons, List.not_mem_nil, or_false] at hy
    rcases hy with rfl | rfl | rfl | rfl | rfl | rfl | rfl
    · simpa using gpar
    · simpa using gobj
    · simpa using gfn
    · simpa using gnull
    · simpa using gtrue
    · simpa using gfalse
    · simpa using gthis

end Go.Proofs.YtijbiedblahmhaaDoor
