/- The whole program is function 0. -/
import Derived.Test.YtmihckhflbepjaaDoorScFunA
import Derived.Test.YtmihckhflbepjaaDoorJoint9
namespace Go.Proofs.YtmihckhflbepjaaDoor
set_option linter.unusedSimpArgs false
open Go.RowKit

theorem elFn : Elem 28 45 3 40 := elem_of (z0 := .agg #[.int .i64 0, .int .i64 0, .slice none 0 0]) (by kernel_rfl) (by kernel_rfl) rfl
def WholeOut (B r gm : Nat) (w : World) (x : Rz Up8) (e : Ending) (w' : World) : Prop :=
  Below B w w' ∧ match x with
  | .bad p er => e = .returned (fltP p er)
  | .ok (G, fs) => e = .returned (fltP 0 0) ∧ ∃ fv gl ok, gl.length = G ∧ Rs B r gm (.map none) fv gl [] fs ok w'
theorem rs_first {B r gm : Nat} {gl : List ByteArray} {w : World} (h1 : Blk r 51 #[.map (some gm), .map none, .slice none 0 0] w) (h2 : NmAt gm gl w) (hr : B ≤ r) (hg : B ≤ gm) : Rs B r gm (.map none) (.slice none 0 0) gl [] [] (fun _ => False) w :=
  ⟨h1, h2, .inl ⟨rfl, rfl⟩, ⟨[], ⟨rfl, .inl ⟨rfl, rfl⟩⟩, rfl, fun g hg => by simp [Value.ownBlock] at hg⟩, fun b h => h.elim, hr, hg, fun b e => by simp at e, fun g hg => by simp [Value.ownBlock] at hg, fun b h => h.elim⟩
theorem flt_two {g : Nat} {x y : Value} {w : World} (h : Blk g 53 #[x, y] w) : w.cell? ⟨g, 0, none⟩ = some x ∧ w.cell? ⟨g, 1, none⟩ = some y ∧ w.frozen? ⟨g, 0, none⟩ = false ∧ w.frozen? ⟨g, 1, none⟩ = false :=
  ⟨by rw [blk_cell h]; rfl, by rw [blk_cell h]; rfl, blk_free h 0, blk_free h 1⟩

theorem row_some' {T : TypeId} {z n : Nat} {v : Value} {xs : List Value} {w : World} (h : w.ownsRow 0 T z v n xs) (hn : 0 < n) : ∃ g cap, v = .slice (some ⟨g, 0, none⟩) n cap := by
  rcases h.2 with ⟨h1, h2⟩ | ⟨g, cap, cur, h1, _⟩
  · omega
  · exact ⟨g, cap, h1⟩
set_option maxHeartbeats 4000000 in
theorem whole_of (ks : List Nd) (hE : KidsRes ks) (hLt : LetsAt ks) (B r gm : Nat) (kv : Value) (w : World) (hb : Hid (Blk r 51 #[.map (some gm), .map none, .slice none 0 0] w)) (hn : Hid (NmAt gm [] w)) (hBr : B ≤ r) (hBg : B ≤ gm) (hN : Hid (KidsIn B w kv ks)) (hB : B ≤ w.heap.size) (hsm : ∀ x ∈ ks, smallN x = true) (hc : countL ks ≤ 1000000) :
    Calls Tryd.prog 21 #[.pointer (some ⟨r, 0, none⟩), kv] w (WholeOut B r gm w (wholeP ks)) := by
  obtain ⟨ka, kc, rfl, _⟩ := kidsIn_cases hN.out
  have hr := blk_lt hb.out
  have hgm := nmAt_lt hn.out
  have hrg : gm ≠ r := nm_ne_blk hn.out hb.out
  have hlen := countL_len ks
  have A1 := (Below.refl w.heap.size w).alloc (Nat.le_refl _) (Obj.cells #[.int .i64 0, .int .i64 0] 53)
  have f1 := blk_new w 53 #[.int .i64 0, .int .i64 0]
  have n1 := nmAt_keep hn.out (A1.block gm hgm)
  have r1 := blk_on hb.out A1
  have k1 := kidsIn_on (A1.mono hB) hN.out
  have c0 : (w.alloc (Obj.cells #[.int .i64 0, .int .i64 0] 53)).cell? ⟨r, 0, none⟩ = some (.map (some gm)) := by rw [blk_cell r1]; rfl
  have HLt := hid (hLt gm B [] (.slice ka ks.length kc) (w.alloc (Obj.cells #[.int .i64 0, .int .i64 0] 53)) n1 (by decide) hBg k1 (by have := A1.size; omega) hsm (by omega))
  have HA1 := hid A1
  have HF1 := hid f1
  have HN1 := hid n1
  have HR1 := hid r1
  have HK1 := hid k1
  have HSM := hid hsm
  have HE := hid hE
  have hz1 : (w.alloc (Obj.cells #[.int .i64 0, .int .i64 0] 53)).heap.size = w.heap.size + 1 := by simp
  generalize hW1 : w.alloc (Obj.cells #[.int .i64 0, .int .i64 0] 53) = w1 at *
  have HZ1 := hid hz1
  clear A1 f1 n1 r1 k1 hb hn hN hE hLt hsm hz1
  go_enter Tryd.func21, Tryd.ntmps21
  go_wp2_with fail
  refine HLt.out.mono ?_
  rintro e2 w2 ⟨rfl, hD, h24, K2⟩
  have HP : Hid (wholeP ks = (letL ks []).bind fun gl => (resL gl ks [] [(0, 0, [])]).bind fun q => .ok (gl.length, q.2.set 0 (0, 0, q.1))) := rfl
  have hs2 := K2.size
  have F2 := hid (blk_keep HF1.out K2 (by omega))
  have R2 := hid (blk_keep HR1.out K2 (fun e => hrg e.symm))
  have HK2 := hid K2
  have hz1' := HZ1.out
  have hwl : w.heap.size < w2.heap.size := by omega
  cases hlt : letL ks [] with
  | bad p er =>
    have her := letL_bad ks hlt
    try rw [hlt] at HP
    unfold fltV
    clear hD h24 K2 hW1
    have A2 := (Below.refl w2.heap.size w2).alloc (Nat.le_refl _) (Obj.cells #[.int .i64 p, .int .i64 er] 53)
    have hne : (er != 0) = true := by simpa using her
    have FC := hid (found_calls p er (w2.alloc (Obj.cells #[.int .i64 p, .int .i64 er] 53)))
    have F2' := hid (blk_on F2.out A2)
    have G2' := hid (blk_new w2 53 #[.int .i64 p, .int .i64 er])
    have HA2 := hid A2
    clear A2
    go_wp2_with fail
    refine FC.out.mono ?_
    rintro e3 w3 ⟨rfl, b3⟩
    have F3 := hid (blk_on F2'.out b3)
    have B3 := hid (below_on HA2.out b3)
    have g3 := flt_two (blk_on G2'.out b3)
    have f3 := flt_two F3.out
    obtain ⟨g30, g31, _, _⟩ := g3
    obtain ⟨f30, f31, f32, f33⟩ := f3
    clear b3 FC G2' F2' HA2
    have hne2 : w2.heap.size ≠ w.heap.size := by omega
    have hne3 : w.heap.size ≠ w2.heap.size := by omega
    go_wp2_with fail
    have P0 := blk_set (blk_set F3.out 0 (.int .i64 p)) 1 (.int .i64 er)
    refine bodyPost_ret (ret_2 rfl rfl ⟨by rw [blk_cell P0]; rfl, by rw [blk_cell P0]; rfl⟩) rfl ?_
    rw [HP.out]
    have KK := (Keep.set (S := fun b => b = w.heap.size) rfl w3 0 (.int .i64 p)).trans (Keep.set (S := fun b => b = w.heap.size) rfl (w3.setCell ⟨w.heap.size, 0, none⟩ (.int .i64 p)) 1 (.int .i64 er)) (fun _ _ h => h)
    refine ⟨?_, rfl⟩
    have K0 := ((((Keep.of (S := fun b => B ≤ b) HA1.out).trans (HK2.out.mono (T := fun b => B ≤ b) (fun b _ e => by rw [e]; exact hBg)) (fun _ _ h => h)).trans (Keep.of (S := fun b => B ≤ b) B3.out) (fun _ _ h => h)).trans (KK.mono (T := fun b => B ≤ b) (fun b _ e => by have : b = w.heap.size := e; omega)) (fun _ _ h => h))
    exact K0.below hB (fun _ h => h)
  | ok gl =>
    try rw [hlt] at HP
    try rw [hlt] at hD
    have hnm : NmAt gm gl w2 := hD
    unfold fltV
    have HNM := hid hnm
    clear hD h24 K2 hW1 hnm
    have A2 := (Below.refl w2.heap.size w2).alloc (Nat.le_refl _) (Obj.cells #[.int .i64 0, .int .i64 0] 53)
    have FC := hid (found_calls 0 0 (w2.alloc (Obj.cells #[.int .i64 0, .int .i64 0] 53)))
    have HA2 := hid A2
    clear A2
    go_wp2_with fail
    refine FC.out.mono ?_
    rintro e3 w3 ⟨rfl, b3⟩
    have B3 := hid (below_on HA2.out b3)
    have F3 := hid (blk_on F2.out B3.out)
    have R3 := hid (blk_on R2.out B3.out)
    have N3 := hid (nmAt_keep HNM.out (B3.out.block gm (nmAt_lt HNM.out)))
    have RS3 := hid (rs_first R3.out N3.out hBr hBg)
    have hs3 := B3.out.size
    have q2 : w3.cell? ⟨r, 2, none⟩ = some (.slice none 0 0) := by rw [blk_cell R3.out]; rfl
    have qf : w3.frozen? ⟨r, 2, none⟩ = false := blk_free R3.out 2
    have hr3 : r < w3.heap.size := by omega
    have RW := hid (show w3.ownsRow 0 45 3 (.slice none 0 0) 0 [] from ⟨rfl, .inl ⟨rfl, rfl⟩⟩)
    have K03 := hid (((Keep.of (S := fun b => B ≤ b) HA1.out).trans (HK2.out.mono (T := fun b => B ≤ b) (fun b _ e => by rw [e]; exact hBg)) (fun _ _ h => h)).trans (Keep.of (S := fun b => B ≤ b) B3.out) (fun _ _ h => h))
    have HK3 := hid (kidsIn_on (below_in ((HK2.out.mono (T := fun b => B ≤ b) (fun b _ e => by rw [e]; exact hBg)).below (by omega) (fun _ h => h)) (by omega) B3.out) HK1.out)
    clear b3 FC HA2 B3 F2 R2 HNM
    go_wp2_with (first | (at_builtin; refine row_app elFn (by decide) (by decide) rfl _ _ rfl 0 [] [.int .i64 0, .int .i64 0, .slice none 0 0] rfl (by intro u hu; simp at hu; rcases hu with rfl | rfl | rfl <;> rfl) (.slice none 0 0) (by rfl) RW.out w3.heap.size (by rfl) rfl (by decide) ?_; intro g cp w4 hown hgrow hat; have MO := RS3.out.more (P := 0) (L := 0) (cs := []) rfl (fun g hg => by simp [Value.ownBlock] at hg) (Below.refl _ _) hgrow hown hat; have q4 : w4.cell? ⟨r, 2, none⟩ = some (.slice none 0 0) := (blk_cell MO.2.1 2).trans rfl; have q5 : w4.frozen? ⟨r, 2, none⟩ = false := blk_free MO.2.1 2; have MM := hid MO; have HAT := hid hat; clear hown hgrow hat MO) | fail)
    have R5 := hid MM.out.2.2.1
    have F5 := hid (blk_keep F3.out MM.out.2.2.2 (fun e => by
      rcases e with e | e
      · omega
      · simp [Value.ownBlock] at e))
    have K5 := hid MM.out.2.2.2
    have hz5 := K5.out.size
    have HK5 := hid (kidsIn_on (K5.out.below (B := B) (by omega) (fun b e => by
      rcases e with e | e
      · omega
      · simp [Value.ownBlock] at e)) HK3.out)
    generalize w4.setCell ⟨r, 2, none⟩ (.slice (some ⟨g, 0, none⟩) (0 + 1) cp) = w5 at *
    have HES := hid (HE.out B r gm (.map none) (.slice (some ⟨g, 0, none⟩) 1 cp) gl [] [(0, 0, [])] (fun _ => False) (.slice ka ks.length kc) w5 R5 HK5 (by omega) HSM.out hc (by decide))
    clear HK3 RS3 N3 R3 RW MM q2 qf q4 q5
    go_wp2_with fail
    refine HES.out.mono ?_
    intro e6 w6 h6
    cases hR : resL gl ks [] [(0, 0, [])] with
    | bad p3 x3 =>
      rw [hR] at h6
      unfold KidsOut fltP at h6
      simp only at h6
      obtain ⟨rfl, hbad⟩ := h6
      have HP2 := hid (HP.out.trans (show _ = Rz.bad p3 x3 by rw [Rz.bind_ok, hR]; rfl))
      obtain ⟨lv8, fv8, L8, cs8, hb8, hL8, hrow8, hlf⟩ := hbad.left
      simp only [List.length_cons, List.length_nil, Nat.zero_add] at hL8
      obtain ⟨g8, c8, rfl⟩ := row_some' hrow8 (by omega)
      have HLEFT := hid hlf
      clear hlf
      have k8 : Keep (RT r (.slice (some ⟨g, 0, none⟩) 1 cp)) w5 w6 := hbad.keep
      clear hbad HP
      have hs6 := k8.size
      have F6 := blk_keep F5.out k8 (fun e => by
        rcases e with e | e
        · omega
        · simp [Value.ownBlock] at e
          obtain ⟨cur, hc⟩ := fnsS_lt R5.out.fn (g := g) rfl
          rw [e] at hc
          exact blk_not F5.out (by decide) _ hc)
      have A8 := (Below.refl w6.heap.size w6).alloc (Nat.le_refl _) (Obj.cells #[.int .i64 p3, .int .i64 x3] 53)
      have x2 : (w6.alloc (Obj.cells #[.int .i64 p3, .int .i64 x3] 53)).cell? ⟨r, 2, none⟩ = some (.slice (some ⟨g8, 0, none⟩) L8 c8) := by rw [blk_cell (blk_on hb8 A8)]; rfl
      have hrA := row_keep hrow8 (fun g hg => A8.block g (by obtain ⟨cur, hc⟩ := row_lt hrow8 hg; exact blk_lt hc))
      obtain ⟨y8, hy8⟩ : ∃ y, cs8[2]? = some y := ⟨_, List.getElem?_eq_getElem (by have := hrow8.1; omega)⟩
      have xc : (w6.alloc (Obj.cells #[.int .i64 p3, .int .i64 x3] 53)).cell? ⟨g8, 2, none⟩ = some y8 := row_cell hrA hy8
      have xf : (w6.alloc (Obj.cells #[.int .i64 p3, .int .i64 x3] 53)).frozen? ⟨g8, 2, none⟩ = false := row_free hrA _
      obtain ⟨cur8, hc8⟩ := row_lt hrow8 (g := g8) rfl
      have n0 : g8 ≠ w.heap.size := fun e => by rw [e] at hc8; exact blk_not F6 (by decide) _ hc8
      have hlt8 := blk_lt hc8
      have n1 : g8 ≠ w6.heap.size := by omega
      have n2 : w6.heap.size ≠ g8 := by omega
      have n3 : w.heap.size ≠ g8 := Ne.symm n0
      have n4 : w.heap.size ≠ w6.heap.size := by omega
      have n5 : w6.heap.size ≠ w.heap.size := by omega
      have n6 : w.heap.size < w6.heap.size := by omega
      obtain ⟨y0, y1, y2, y3⟩ := flt_two (blk_on F6 A8)
      obtain ⟨z0, z1, _, _⟩ := flt_two (blk_new w6 53 #[.int .i64 p3, .int .i64 x3])
      have hl8' : (0 : Int) < (L8 : Int) := by omega
      have HF6 := hid F6
      have HA8 := hid A8
      have KK8 := hid k8
      have HB8 := hid hb8
      have HROW := hid hrow8
      clear F6 A8 k8 hb8 hrow8 hrA hy8 hc8 hR
      generalize hW7 : w6.alloc (Obj.cells #[.int .i64 p3, .int .i64 x3] 53) = w7 at *
      go_wp2_with fail
      have KX := Keep.set (S := fun b => b = g8) rfl w7 2 (.slice none 0 0)
      have KF := (Keep.set (S := fun b => b = w.heap.size) rfl (w7.setCell ⟨g8, 2, none⟩ (.slice none 0 0)) 0 (.int .i64 p3)).trans (Keep.set (S := fun b => b = w.heap.size) rfl ((w7.setCell ⟨g8, 2, none⟩ (.slice none 0 0)).setCell ⟨w.heap.size, 0, none⟩ (.int .i64 p3)) 1 (.int .i64 x3)) (fun _ _ h => h)
      have P0 := blk_set (blk_set (blk_keep (blk_on HF6.out HA8.out) KX n3) 0 (.int .i64 p3)) 1 (.int .i64 x3)
      refine bodyPost_ret (ret_2 rfl rfl ⟨by rw [blk_cell P0]; rfl, by rw [blk_cell P0]; rfl⟩) rfl ?_
      rw [HP2.out]
      have hBg5 : ∀ b, RT r (.slice (some ⟨g, 0, none⟩) 1 cp) b → B ≤ b := rt_low R5.out
      have hBg3 : ∀ b, RT r (.slice none 0 0) b → B ≤ b := fun b e => by
        rcases e with e | e
        · omega
        · simp [Value.ownBlock] at e
      have hBg8 : B ≤ g8 := by
        rcases HLEFT.out g8 rfl with h | h
        · exact hBg5 g8 (.inr h)
        · omega
      have K0 : Keep (fun b => B ≤ b) w (((w7.setCell ⟨g8, 2, none⟩ (.slice none 0 0)).setCell ⟨w.heap.size, 0, none⟩ (.int .i64 p3)).setCell ⟨w.heap.size, 1, none⟩ (.int .i64 x3)) :=
        ((((K03.out.trans (K5.out.mono (T := fun b => B ≤ b) (fun b _ e => hBg3 b e)) (fun _ _ h => h)).trans (KK8.out.mono (T := fun b => B ≤ b) (fun b _ e => hBg5 b e)) (fun _ _ h => h)).trans (Keep.of (S := fun b => B ≤ b) HA8.out) (fun _ _ h => h)).trans (KX.mono (T := fun b => B ≤ b) (fun b _ e => by have : b = g8 := e; omega)) (fun _ _ h => h)).trans (KF.mono (T := fun b => B ≤ b) (fun b _ e => by have : b = w.heap.size := e; omega)) (fun _ _ h => h)
      exact ⟨K0.below hB (fun _ h => h), rfl⟩
    | ok q3 =>
      rw [hR] at h6
      obtain ⟨l3, fs3⟩ := q3
      unfold KidsOut fltP at h6
      simp only at h6
      obtain ⟨kv3, fv3, okR3, ok3, rfl, hks3, W3⟩ := h6
      obtain ⟨q, hq⟩ := resL_pre ks hR
      simp only at hq
      have HP2 := hid (HP.out.trans (show _ = Rz.ok (gl.length, fs3.set 0 (0, 0, l3)) by rw [Rz.bind_ok, hR]; rfl))
      obtain ⟨a2, c2, rfl⟩ := kidsS_shape hks3
      have hL8 : 1 ≤ fs3.length := by rw [hq]; simp
      have HI3 := hid (show fs3[0]? = some (0, 0, []) by rw [hq]; simp)
      obtain ⟨cs8, hrow8, _⟩ := W3.rs.fn
      obtain ⟨g8, c8, rfl⟩ := row_some' hrow8 (by omega)
      have hb8 := W3.rs.blk
      have k8 : Keep (RT r (.slice (some ⟨g, 0, none⟩) 1 cp)) w5 w6 := W3.keep
      have HW3 := hid W3
      have HKS3 := hid hks3
      clear W3 hks3 hq HP
      have hs6 := k8.size
      have F6 := blk_keep F5.out k8 (fun e => by
        rcases e with e | e
        · omega
        · simp [Value.ownBlock] at e
          obtain ⟨cur, hc⟩ := fnsS_lt R5.out.fn (g := g) rfl
          rw [e] at hc
          exact blk_not F5.out (by decide) _ hc)
      have A8 := (Below.refl w6.heap.size w6).alloc (Nat.le_refl _) (Obj.cells #[.int .i64 0, .int .i64 0] 53)
      have x2 : (w6.alloc (Obj.cells #[.int .i64 0, .int .i64 0] 53)).cell? ⟨r, 2, none⟩ = some (.slice (some ⟨g8, 0, none⟩) fs3.length c8) := by rw [blk_cell (blk_on hb8 A8)]; rfl
      have hrA := row_keep hrow8 (fun g hg => A8.block g (by obtain ⟨cur, hc⟩ := row_lt hrow8 hg; exact blk_lt hc))
      obtain ⟨y8, hy8⟩ : ∃ y, cs8[2]? = some y := ⟨_, List.getElem?_eq_getElem (by have := hrow8.1; omega)⟩
      have xc : (w6.alloc (Obj.cells #[.int .i64 0, .int .i64 0] 53)).cell? ⟨g8, 2, none⟩ = some y8 := row_cell hrA hy8
      have xf : (w6.alloc (Obj.cells #[.int .i64 0, .int .i64 0] 53)).frozen? ⟨g8, 2, none⟩ = false := row_free hrA _
      obtain ⟨cur8, hc8⟩ := row_lt hrow8 (g := g8) rfl
      have n0 : g8 ≠ w.heap.size := fun e => by rw [e] at hc8; exact blk_not F6 (by decide) _ hc8
      have hlt8 := blk_lt hc8
      have n1 : g8 ≠ w6.heap.size := by omega
      have n2 : w6.heap.size ≠ g8 := by omega
      have n3 : w.heap.size ≠ g8 := Ne.symm n0
      have n4 : w.heap.size ≠ w6.heap.size := by omega
      have n5 : w6.heap.size ≠ w.heap.size := by omega
      have n6 : w.heap.size < w6.heap.size := by omega
      obtain ⟨y0, y1, y2, y3⟩ := flt_two (blk_on F6 A8)
      obtain ⟨z0, z1, _, _⟩ := flt_two (blk_new w6 53 #[.int .i64 0, .int .i64 0])
      have hl8' : (0 : Int) < (fs3.length : Int) := by omega
      have HF6 := hid F6
      have HA8 := hid A8
      have KK8 := hid k8
      have HB8 := hid hb8
      have HROW := hid hrow8
      clear F6 A8 k8 hb8 hrow8 hrA hy8 hc8 hR
      generalize hW7 : w6.alloc (Obj.cells #[.int .i64 0, .int .i64 0] 53) = w7 at *
      go_wp2_with fail
      have BW := hid ((((Keep.of (S := fun b => b = w6.heap.size) HA8.out).trans (Keep.set (S := fun b => b = w6.heap.size) rfl w7 0 (.int .i64 0)) (fun _ _ h => h)).trans (Keep.set (S := fun b => b = w6.heap.size) rfl (w7.setCell ⟨w6.heap.size, 0, none⟩ (.int .i64 0)) 1 (.int .i64 0)) (fun _ _ h => h)).below (Nat.le_refl _) (fun b e => by have : b = w6.heap.size := e; omega))
      generalize (w7.setCell ⟨w6.heap.size, 0, none⟩ (.int .i64 0)).setCell ⟨w6.heap.size, 1, none⟩ (.int .i64 0) = w8 at *
      have KX := Keep.set (S := fun b => b = g8) rfl w8 2 (.slice a2 l3.length c2)
      have KF := (Keep.set (S := fun b => b = w.heap.size) rfl (w8.setCell ⟨g8, 2, none⟩ (.slice a2 l3.length c2)) 0 (.int .i64 0)).trans (Keep.set (S := fun b => b = w.heap.size) rfl ((w8.setCell ⟨g8, 2, none⟩ (.slice a2 l3.length c2)).setCell ⟨w.heap.size, 0, none⟩ (.int .i64 0)) 1 (.int .i64 0)) (fun _ _ h => h)
      have P0 := blk_set (blk_set (blk_keep (blk_on HF6.out BW.out) KX n3) 0 (.int .i64 0)) 1 (.int .i64 0)
      refine bodyPost_ret (ret_2 rfl rfl ⟨by rw [blk_cell P0]; rfl, by rw [blk_cell P0]; rfl⟩) rfl ?_
      rw [HP2.out]
      have hBg5 : ∀ b, RT r (.slice (some ⟨g, 0, none⟩) 1 cp) b → B ≤ b := rt_low R5.out
      have hBg3 : ∀ b, RT r (.slice none 0 0) b → B ≤ b := fun b e => by
        rcases e with e | e
        · omega
        · simp [Value.ownBlock] at e
      have hBg8 : B ≤ g8 := by
        rcases HW3.out.row g8 rfl with h | h
        · exact hBg5 g8 (.inr h)
        · omega
      have K0 : Keep (fun b => B ≤ b) w (((w8.setCell ⟨g8, 2, none⟩ (.slice a2 l3.length c2)).setCell ⟨w.heap.size, 0, none⟩ (.int .i64 0)).setCell ⟨w.heap.size, 1, none⟩ (.int .i64 0)) :=
        ((((K03.out.trans (K5.out.mono (T := fun b => B ≤ b) (fun b _ e => hBg3 b e)) (fun _ _ h => h)).trans (KK8.out.mono (T := fun b => B ≤ b) (fun b _ e => hBg5 b e)) (fun _ _ h => h)).trans (Keep.of (S := fun b => B ≤ b) BW.out) (fun _ _ h => h)).trans (KX.mono (T := fun b => B ≤ b) (fun b _ e => by have : b = g8 := e; omega)) (fun _ _ h => h)).trans (KF.mono (T := fun b => B ≤ b) (fun b _ e => by have : b = w.heap.size := e; omega)) (fun _ _ h => h)
      have R1 := (HW3.out.rs.on BW.out).body (kidsS_keep (ok' := okR3) (fun b hb => ⟨hb, BW.out.block b (HW3.out.new b hb).2.1⟩) HKS3.out) (fun b hb => by
        have q := HW3.out.new b hb
        have := BW.out.size
        refine ⟨by omega, by omega, fun e => q.2.2 (by rw [e]; rfl), by omega⟩) HI3.out
      refine ⟨K0.below hB (fun _ h => h), rfl, .slice (some ⟨g8, 0, none⟩) fs3.length c8, gl, fun b => ok3 b ∨ okR3 b, rfl, ?_⟩
      refine Rs.keep (show Rs B r gm (.map none) (.slice (some ⟨g8, 0, none⟩) fs3.length c8) gl [] (fs3.set 0 (0, 0, l3)) (fun b => ok3 b ∨ okR3 b) (w8.setCell ⟨g8, 2, none⟩ (.slice a2 l3.length c2)) from R1) KF (by omega) (by omega) (fun b e => by simp at e) (fun g' hg' => ?_) (fun b hb => ?_)
      · simp [Value.ownBlock] at hg'
        omega
      · rcases hb with hb | hb
        · rcases HW3.out.old b hb with h | h
          · exact h.elim
          · omega
        · have := (HW3.out.new b hb).1; omega

end Go.Proofs.YtmihckhflbepjaaDoor
