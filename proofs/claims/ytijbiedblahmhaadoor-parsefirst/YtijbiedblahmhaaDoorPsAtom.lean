/- Atoms of one token: a number, a text, a name. -/
import Derived.Test.YtijbiedblahmhaaDoorJoint3
namespace Go.Proofs.YtijbiedblahmhaaDoor
open Go.RowKit

set_option maxRecDepth 100000 in
set_option maxHeartbeats 3200000 in
theorem atom_num (P : Nat) (L : List Tok) (x : ByteArray) (n p : Int) (r : List Tok) (w : World) (H : Hid (PSt P L w (⟨3, x, n, p⟩ :: r))) :
    Calls Tryd.prog 67 #[.pointer (some ⟨P, 0, none⟩)] w (Reads P L w (.ok (.mk 3 0 n bz [] [] 0) false r)) := by
  have A := hid ((Below.refl _ w).alloc (Nat.le_refl _) (.cells znd 26))
  have S0 := hid (H.out.on A.out)
  have G0 := hid (blk_new w 26 znd)
  have hP := H.out.lt
  have HC := hid (here_calls P L (⟨3, x, n, p⟩ :: r) _ S0)
  unfold Tok.val cur at HC
  simp only [List.headD_cons] at HC
  unfold znd at *
  clear H
  go_enter Tryd.func67, Tryd.ntmps67
  go_wp2_with fail
  refine HC.out.mono ?_
  rintro e w1 ⟨rfl, b1⟩
  have S1 := hid (S0.out.on b1)
  have B1 := hid (But.of (P := P) (below_in A.out (Nat.le_refl _) b1))
  have G1 := hid (blk_on G0.out b1)
  have hg1 := blk_lt G1.out
  clear b1 S0 A G0 HC
  obtain ⟨R, cap, i, hR, hP1, hi, hcap, h601, hil, d0, d1, dz, c0, c1, c2, c3⟩ := S1.out.here
  have HST := hid (show ∀ v, v = .int .i64 ((i : Int) + 1) → ∀ w', w' = w1.setCell ⟨P, 1, none⟩ v → PSt P L w' r ∧ But P w1 w' from fun v hv w' hw => S1.out.step (by simp) (by
    rw [hv]; congr 1
    have : (⟨3, x, n, p⟩ :: r : List Tok).length ≤ L.length := S1.out.suf.length_le
    simp only [List.length_cons] at this hil ⊢
    omega) hw)
  have hPg : P ≠ w.heap.size := by omega
  obtain ⟨r0, r1, r2, r3, r4, r5, r6⟩ := cells7 G1.out
  obtain ⟨u0, u1, u2, u3, u4, u5, u6⟩ := frees7 G1.out
  clear hil S1
  go_wp2_with fail
  have Z := HST.out _ rfl _ rfl
  have G2 := blk_but G1.out Z.2 (by omega)
  have Y := fin_new (fin_put hP (Nat.le_refl _) Z.1 (B1.out.trans Z.2) G2 (.int .i64 3) (.int .i64 0) (.int .i64 n) (.string ⟨#[]⟩) (.slice none 0 0) (.slice none 0 0) (.int .i64 0)) (.cells #[.int .i64 3, .string x, .int .i64 n, .int .i64 p] 41)
  exact bodyPost_ret (ret_nd rfl rfl Y.1) rfl ⟨⟨_, _, rfl, ndR_mk2 ⟨st_nil, kd_nil⟩⟩, Y.2.1, Y.2.2⟩

set_option maxRecDepth 100000 in
set_option maxHeartbeats 3200000 in
theorem atom_str (P : Nat) (L : List Tok) (x : ByteArray) (n p : Int) (r : List Tok) (w : World) (H : Hid (PSt P L w (⟨4, x, n, p⟩ :: r))) :
    Calls Tryd.prog 67 #[.pointer (some ⟨P, 0, none⟩)] w (Reads P L w (.ok (ndS 4 x []) false r)) := by
  have A := hid ((Below.refl _ w).alloc (Nat.le_refl _) (.cells znd 26))
  have S0 := hid (H.out.on A.out)
  have G0 := hid (blk_new w 26 znd)
  have hP := H.out.lt
  have HC := hid (here_calls P L (⟨4, x, n, p⟩ :: r) _ S0)
  unfold Tok.val cur at HC
  simp only [List.headD_cons] at HC
  unfold znd at *
  clear H
  go_enter Tryd.func67, Tryd.ntmps67
  go_wp2_with fail
  refine HC.out.mono ?_
  rintro e w1 ⟨rfl, b1⟩
  have S1 := hid (S0.out.on b1)
  have B1 := hid (But.of (P := P) (below_in A.out (Nat.le_refl _) b1))
  have G1 := hid (blk_on G0.out b1)
  have hg1 := blk_lt G1.out
  clear b1 S0 A G0 HC
  obtain ⟨R, cap, i, hR, hP1, hi, hcap, h601, hil, d0, d1, dz, c0, c1, c2, c3⟩ := S1.out.here
  have HST := hid (show ∀ v, v = .int .i64 ((i : Int) + 1) → ∀ w', w' = w1.setCell ⟨P, 1, none⟩ v → PSt P L w' r ∧ But P w1 w' from fun v hv w' hw => S1.out.step (by simp) (by
    rw [hv]; congr 1
    have : (⟨4, x, n, p⟩ :: r : List Tok).length ≤ L.length := S1.out.suf.length_le
    simp only [List.length_cons] at this hil ⊢
    omega) hw)
  have hPg : P ≠ w.heap.size := by omega
  obtain ⟨r0, r1, r2, r3, r4, r5, r6⟩ := cells7 G1.out
  obtain ⟨u0, u1, u2, u3, u4, u5, u6⟩ := frees7 G1.out
  clear hil S1
  go_wp2_with fail
  have Z := HST.out _ rfl _ rfl
  have G2 := blk_but G1.out Z.2 (by omega)
  have Y := fin_new (fin_put hP (Nat.le_refl _) Z.1 (B1.out.trans Z.2) G2 (.int .i64 4) (.int .i64 0) (.int .i64 0) (.string x) (.slice none 0 0) (.slice none 0 0) (.int .i64 0)) (.cells #[.int .i64 4, .string x, .int .i64 n, .int .i64 p] 41)
  exact bodyPost_ret (ret_nd rfl rfl Y.1) rfl ⟨⟨_, _, rfl, ndR_mk2 ⟨st_nil, kd_nil⟩⟩, Y.2.1, Y.2.2⟩

set_option maxRecDepth 100000 in
set_option maxHeartbeats 3200000 in
theorem atom_name (P : Nat) (L : List Tok) (x : ByteArray) (n p : Int) (r : List Tok) (w : World) (H : Hid (PSt P L w (⟨1, x, n, p⟩ :: r))) :
    Calls Tryd.prog 67 #[.pointer (some ⟨P, 0, none⟩)] w (Reads P L w (.ok (.mk 5 0 0 x [] [] p) true r)) := by
  have A := hid ((Below.refl _ w).alloc (Nat.le_refl _) (.cells znd 26))
  have S0 := hid (H.out.on A.out)
  have G0 := hid (blk_new w 26 znd)
  have hP := H.out.lt
  have HC := hid (here_calls P L (⟨1, x, n, p⟩ :: r) _ S0)
  unfold Tok.val cur at HC
  simp only [List.headD_cons] at HC
  unfold znd at *
  clear H
  go_enter Tryd.func67, Tryd.ntmps67
  go_wp2_with fail
  refine HC.out.mono ?_
  rintro e w1 ⟨rfl, b1⟩
  have S1 := hid (S0.out.on b1)
  have B1 := hid (But.of (P := P) (below_in A.out (Nat.le_refl _) b1))
  have G1 := hid (blk_on G0.out b1)
  have hg1 := blk_lt G1.out
  clear b1 S0 A G0 HC
  obtain ⟨R, cap, i, hR, hP1, hi, hcap, h601, hil, d0, d1, dz, c0, c1, c2, c3⟩ := S1.out.here
  have HST := hid (show ∀ v, v = .int .i64 ((i : Int) + 1) → ∀ w', w' = w1.setCell ⟨P, 1, none⟩ v → PSt P L w' r ∧ But P w1 w' from fun v hv w' hw => S1.out.step (by simp) (by
    rw [hv]; congr 1
    have : (⟨1, x, n, p⟩ :: r : List Tok).length ≤ L.length := S1.out.suf.length_le
    simp only [List.length_cons] at this hil ⊢
    omega) hw)
  have hPg : P ≠ w.heap.size := by omega
  obtain ⟨r0, r1, r2, r3, r4, r5, r6⟩ := cells7 G1.out
  obtain ⟨u0, u1, u2, u3, u4, u5, u6⟩ := frees7 G1.out
  clear hil S1
  go_wp2_with fail
  have Z := HST.out _ rfl _ rfl
  have G2 := blk_but G1.out Z.2 (by omega)
  have Y := fin_new (fin_put hP (Nat.le_refl _) Z.1 (B1.out.trans Z.2) G2 (.int .i64 5) (.int .i64 0) (.int .i64 0) (.string x) (.slice none 0 0) (.slice none 0 0) (.int .i64 p)) (.cells #[.int .i64 1, .string x, .int .i64 n, .int .i64 p] 41)
  exact bodyPost_ret (ret_nd rfl rfl Y.1) rfl ⟨⟨_, _, rfl, ndR_mk2 ⟨st_nil, kd_nil⟩⟩, Y.2.1, Y.2.2⟩

end Go.Proofs.YtijbiedblahmhaaDoor
