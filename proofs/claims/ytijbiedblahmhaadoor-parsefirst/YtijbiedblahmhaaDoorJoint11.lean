/- Atoms: a function, a built-in call. An atom. A built-in call. -/
import Derived.Test.YtijbiedblahmhaaDoorPsAtom3
import Derived.Test.YtijbiedblahmhaaDoorJoint6
import Derived.Test.YtijbiedblahmhaaDoorJoint3
namespace Go.Proofs.YtijbiedblahmhaaDoor
open Go.RowKit

set_option maxRecDepth 100000 in
set_option maxHeartbeats 6400000 in
theorem atom_fn (o : PR) (P : Nat) (L : List Tok) (k : Int) (x : ByteArray) (n p : Int) (r : List Tok) (w : World) (hO : ∀ w', Hid (PSt P L w' r) → Calls Tryd.prog 77 #[.pointer (some ⟨P, 0, none⟩), .int .i64 p] w' (Reads P L w' o)) (H : Hid (PSt P L w (⟨k, x, n, p⟩ :: r))) (ht : isT ⟨k, x, n, p⟩ [102, 110] = true) :
    Calls Tryd.prog 67 #[.pointer (some ⟨P, 0, none⟩)] w (Reads P L w o) := by
  obtain ⟨hk3, hk4, hk1⟩ := isT_134 ht
  simp only at hk3 hk4 hk1
  have HF := hid (atom_wfn (q := r) ht)
  have HD := hid hO
  clear hO
  have A := hid ((Below.refl _ w).alloc (Nat.le_refl _) (.cells znd 26))
  have S0 := hid (H.out.on A.out)
  have G0 := hid (blk_new w 26 znd)
  have hP := H.out.lt
  have HC := hid (here_calls P L (⟨k, x, n, p⟩ :: r) _ S0)
  unfold Tok.val cur at HC
  simp only [List.headD_cons] at HC
  unfold znd at *
  clear H ht
  cases o with
  | bad l' =>
    go_enter Tryd.func67, Tryd.ntmps67
    go_wp2_with fail
    refine HC.out.mono ?_
    rintro e w1 ⟨rfl, b1⟩
    have hz1 := b1.size
    simp only [World.size_alloc] at hz1
    have A1 := (Below.refl _ w1).alloc (Nat.le_refl _) (.cells #[.int .i64 k, .string x, .int .i64 n, .int .i64 p] 41)
    have A2 := (Below.refl _ (w1.alloc (.cells #[.int .i64 k, .string x, .int .i64 n, .int .i64 p] 41))).alloc (Nat.le_refl _) (.cells #[.string ⟨#[40]⟩, .string ⟨#[123]⟩, .string ⟨#[102, 110]⟩, .string ⟨#[110, 117, 108, 108]⟩, .string ⟨#[116, 114, 117, 101]⟩, .string ⟨#[102, 97, 108, 115, 101]⟩, .string ⟨#[116, 104, 105, 115]⟩] 9)
    have S1 := hid (((S0.out.on b1).on A1).on A2)
    have B1 := hid (((But.of (P := P) (below_in A.out (Nat.le_refl _) b1)).trans (But.of A1)).trans (But.of A2))
    have G1 := hid (blk_on (blk_on (blk_on G0.out b1) A1) A2)
    have V1 := hid (show StrsIn (w1.heap.size + 2) (.slice (some ⟨w1.heap.size + 1, 0, none⟩) 7 7) atomW ((w1.alloc (.cells #[.int .i64 k, .string x, .int .i64 n, .int .i64 p] 41)).alloc (.cells #[.string ⟨#[40]⟩, .string ⟨#[123]⟩, .string ⟨#[102, 110]⟩, .string ⟨#[110, 117, 108, 108]⟩, .string ⟨#[116, 114, 117, 101]⟩, .string ⟨#[102, 97, 108, 115, 101]⟩, .string ⟨#[116, 104, 105, 115]⟩] 9)) from by
      have := atomW_new (w1.alloc (.cells #[.int .i64 k, .string x, .int .i64 n, .int .i64 p] 41))
      simpa using this)
    have T1 := hid (blk_on (blk_new w1 41 #[.int .i64 k, .string x, .int .i64 n, .int .i64 p]) A2)
    have hg1 := blk_lt G1.out
    clear b1 S0 A G0 HC A1 A2
    go_wp2_with fail
    refine (takeone_yes P L ⟨k, x, n, p⟩ r atomW ⟨#[102, 110]⟩ (w1.heap.size + 2) _ _ (by simp) S1 V1 (by decide) HF.out).mono ?_
    rintro e w2 ⟨rfl, s2, b2⟩
    have S2 := hid s2
    have B2 := hid (B1.out.trans b2)
    have G2 := hid (blk_but G1.out b2 (by omega))
    have T2 := hid (blk_but T1.out b2 (by omega))
    have hg2 := blk_lt G2.out
    have ht2 := blk_lt T2.out
    have t0 := blk_cell T2.out 0
    have t1 := blk_cell T2.out 1
    have t2 := blk_cell T2.out 2
    have t3 := blk_cell T2.out 3
    simp at t0 t1 t2 t3
    obtain ⟨r0, r1, r2, r3, r4, r5, r6⟩ := cells7 G2.out
    obtain ⟨u0, u1, u2, u3, u4, u5, u6⟩ := frees7 G2.out
    clear s2 b2 S1 V1 B1 G1 HF T1
    go_wp2_with fail
    clear r0 r1 r2 r3 r4 r5 r6 u0 u1 u2 u3 u4 u5 u6
    refine (HD.out _ S2).mono ?_
    rintro e wb ⟨rfl, sb, bb⟩
    have S8 := hid sb
    have B8 := hid (B2.out.trans bb)
    clear sb bb S2 B2 G2
    unfold gaveUp
    go_wp2_with fail
    exact ⟨rfl, rfl, S8.out, B8.out⟩
  | ok y b l' =>
    go_enter Tryd.func67, Tryd.ntmps67
    go_wp2_with fail
    refine HC.out.mono ?_
    rintro e w1 ⟨rfl, b1⟩
    have hz1 := b1.size
    simp only [World.size_alloc] at hz1
    have A1 := (Below.refl _ w1).alloc (Nat.le_refl _) (.cells #[.int .i64 k, .string x, .int .i64 n, .int .i64 p] 41)
    have A2 := (Below.refl _ (w1.alloc (.cells #[.int .i64 k, .string x, .int .i64 n, .int .i64 p] 41))).alloc (Nat.le_refl _) (.cells #[.string ⟨#[40]⟩, .string ⟨#[123]⟩, .string ⟨#[102, 110]⟩, .string ⟨#[110, 117, 108, 108]⟩, .string ⟨#[116, 114, 117, 101]⟩, .string ⟨#[102, 97, 108, 115, 101]⟩, .string ⟨#[116, 104, 105, 115]⟩] 9)
    have S1 := hid (((S0.out.on b1).on A1).on A2)
    have B1 := hid (((But.of (P := P) (below_in A.out (Nat.le_refl _) b1)).trans (But.of A1)).trans (But.of A2))
    have G1 := hid (blk_on (blk_on (blk_on G0.out b1) A1) A2)
    have V1 := hid (show StrsIn (w1.heap.size + 2) (.slice (some ⟨w1.heap.size + 1, 0, none⟩) 7 7) atomW ((w1.alloc (.cells #[.int .i64 k, .string x, .int .i64 n, .int .i64 p] 41)).alloc (.cells #[.string ⟨#[40]⟩, .string ⟨#[123]⟩, .string ⟨#[102, 110]⟩, .string ⟨#[110, 117, 108, 108]⟩, .string ⟨#[116, 114, 117, 101]⟩, .string ⟨#[102, 97, 108, 115, 101]⟩, .string ⟨#[116, 104, 105, 115]⟩] 9)) from by
      have := atomW_new (w1.alloc (.cells #[.int .i64 k, .string x, .int .i64 n, .int .i64 p] 41))
      simpa using this)
    have T1 := hid (blk_on (blk_new w1 41 #[.int .i64 k, .string x, .int .i64 n, .int .i64 p]) A2)
    have hg1 := blk_lt G1.out
    clear b1 S0 A G0 HC A1 A2
    go_wp2_with fail
    refine (takeone_yes P L ⟨k, x, n, p⟩ r atomW ⟨#[102, 110]⟩ (w1.heap.size + 2) _ _ (by simp) S1 V1 (by decide) HF.out).mono ?_
    rintro e w2 ⟨rfl, s2, b2⟩
    have S2 := hid s2
    have B2 := hid (B1.out.trans b2)
    have G2 := hid (blk_but G1.out b2 (by omega))
    have T2 := hid (blk_but T1.out b2 (by omega))
    have hg2 := blk_lt G2.out
    have ht2 := blk_lt T2.out
    have t0 := blk_cell T2.out 0
    have t1 := blk_cell T2.out 1
    have t2 := blk_cell T2.out 2
    have t3 := blk_cell T2.out 3
    simp at t0 t1 t2 t3
    obtain ⟨r0, r1, r2, r3, r4, r5, r6⟩ := cells7 G2.out
    obtain ⟨u0, u1, u2, u3, u4, u5, u6⟩ := frees7 G2.out
    clear s2 b2 S1 V1 B1 G1 HF T1
    go_wp2_with fail
    clear r0 r1 r2 r3 r4 r5 r6 u0 u1 u2 u3 u4 u5 u6
    refine (HD.out _ S2).mono ?_
    rintro e w2 ⟨⟨nv, kv, rfl, n2⟩, s2, b2⟩
    obtain ⟨a1, q1, a2, q2, rfl, rfl⟩ := ndR_shape n2
    have S3 := hid s2
    have hg2 := blk_lt G2.out
    have N3 := hid (ndR_low hg2 n2)
    have B3 := hid (B2.out.trans b2)
    have G3 := hid (blk_but G2.out b2 (by omega))
    have hg3 := blk_lt G3.out
    obtain ⟨r0, r1, r2, r3, r4, r5, r6⟩ := cells7 G3.out
    obtain ⟨u0, u1, u2, u3, u4, u5, u6⟩ := frees7 G3.out
    clear s2 b2 S2 B2 G2 n2
    unfold ndv
    go_wp2_with fail
    have Z := fin_put hP (Nat.le_refl _) S3.out B3.out G3.out (.int .i64 y.kind) (.int .i64 y.op) (.int .i64 y.num) (.string y.str) (.slice a1 y.names.length q1) (.slice a2 y.kids.length q2) (.int .i64 y.pl)
    exact bodyPost_ret (ret_nd rfl rfl Z.1) rfl ⟨⟨_, _, rfl, ndR_low (Nat.le_succ _) (ndR_aft (put7_aft w2 (Nat.lt_succ_self _) _ _ _ _ _ _ _) N3.out)⟩, Z.2.1, Z.2.2⟩

theorem atom_wnone {l : List Tok} (h : ∀ x ∈ atomW, isH l x.data.toList = false) : firstW atomW l = none := by
  unfold firstW
  rw [List.find?_eq_none]
  intro x hx
  rw [h x hx]; simp

set_option maxRecDepth 100000 in
set_option maxHeartbeats 6400000 in
theorem atom_built (o : PR) (P : Nat) (L : List Tok) (k : Int) (x : ByteArray) (n p : Int) (r : List Tok) (w : World) (hO : ∀ w', Hid (PSt P L w' (⟨k, x, n, p⟩ :: r)) → Calls Tryd.prog 78 #[.pointer (some ⟨P, 0, none⟩)] w' (Reads P L w' o)) (H : Hid (PSt P L w (⟨k, x, n, p⟩ :: r))) (hk3 : (k == 3) = false) (hk4 : (k == 4) = false) (hk1 : (k == 1) = false) (ht : firstW atomW (⟨k, x, n, p⟩ :: r) = none) :
    Calls Tryd.prog 67 #[.pointer (some ⟨P, 0, none⟩)] w (Reads P L w o) := by
  have HF := hid ht
  have HD := hid hO
  clear hO
  have A := hid ((Below.refl _ w).alloc (Nat.le_refl _) (.cells znd 26))
  have S0 := hid (H.out.on A.out)
  have G0 := hid (blk_new w 26 znd)
  have hP := H.out.lt
  have HC := hid (here_calls P L (⟨k, x, n, p⟩ :: r) _ S0)
  unfold Tok.val cur at HC
  simp only [List.headD_cons] at HC
  unfold znd at *
  clear H ht
  cases o with
  | bad l' =>
    go_enter Tryd.func67, Tryd.ntmps67
    go_wp2_with fail
    refine HC.out.mono ?_
    rintro e w1 ⟨rfl, b1⟩
    have A1 := (Below.refl _ w1).alloc (Nat.le_refl _) (.cells #[.int .i64 k, .string x, .int .i64 n, .int .i64 p] 41)
    have A2 := (Below.refl _ (w1.alloc (.cells #[.int .i64 k, .string x, .int .i64 n, .int .i64 p] 41))).alloc (Nat.le_refl _) (.cells #[.string ⟨#[40]⟩, .string ⟨#[123]⟩, .string ⟨#[102, 110]⟩, .string ⟨#[110, 117, 108, 108]⟩, .string ⟨#[116, 114, 117, 101]⟩, .string ⟨#[102, 97, 108, 115, 101]⟩, .string ⟨#[116, 104, 105, 115]⟩] 9)
    have S1 := hid (((S0.out.on b1).on A1).on A2)
    have B1 := hid (((But.of (P := P) (below_in A.out (Nat.le_refl _) b1)).trans (But.of A1)).trans (But.of A2))
    have G1 := hid (blk_on (blk_on (blk_on G0.out b1) A1) A2)
    have V1 := hid (show StrsIn (w1.heap.size + 2) (.slice (some ⟨w1.heap.size + 1, 0, none⟩) 7 7) atomW ((w1.alloc (.cells #[.int .i64 k, .string x, .int .i64 n, .int .i64 p] 41)).alloc (.cells #[.string ⟨#[40]⟩, .string ⟨#[123]⟩, .string ⟨#[102, 110]⟩, .string ⟨#[110, 117, 108, 108]⟩, .string ⟨#[116, 114, 117, 101]⟩, .string ⟨#[102, 97, 108, 115, 101]⟩, .string ⟨#[116, 104, 105, 115]⟩] 9)) from by
      have := atomW_new (w1.alloc (.cells #[.int .i64 k, .string x, .int .i64 n, .int .i64 p] 41))
      simpa using this)
    have hg1 := blk_lt G1.out
    clear b1 S0 A G0 HC A1 A2
    go_wp2_with fail
    refine (takeone_no P L (⟨k, x, n, p⟩ :: r) atomW (w1.heap.size + 2) _ _ (by simp) S1 V1 (by decide) HF.out).mono ?_
    rintro e w2 ⟨rfl, b2⟩
    have S2 := hid (S1.out.on b2)
    have B2 := hid (B1.out.trans (But.of b2))
    have G2 := hid (blk_on G1.out b2)
    have hg2 := blk_lt G2.out
    clear b2 S1 V1 B1 G1 HF
    go_wp2_with fail
    refine (HD.out _ S2).mono ?_
    rintro e wb ⟨rfl, sb, bb⟩
    have S8 := hid sb
    have B8 := hid (B2.out.trans bb)
    clear sb bb S2 B2 G2
    unfold gaveUp
    go_wp2_with fail
    exact ⟨rfl, rfl, S8.out, B8.out⟩
  | ok y b l' =>
    go_enter Tryd.func67, Tryd.ntmps67
    go_wp2_with fail
    refine HC.out.mono ?_
    rintro e w1 ⟨rfl, b1⟩
    have A1 := (Below.refl _ w1).alloc (Nat.le_refl _) (.cells #[.int .i64 k, .string x, .int .i64 n, .int .i64 p] 41)
    have A2 := (Below.refl _ (w1.alloc (.cells #[.int .i64 k, .string x, .int .i64 n, .int .i64 p] 41))).alloc (Nat.le_refl _) (.cells #[.string ⟨#[40]⟩, .string ⟨#[123]⟩, .string ⟨#[102, 110]⟩, .string ⟨#[110, 117, 108, 108]⟩, .string ⟨#[116, 114, 117, 101]⟩, .string ⟨#[102, 97, 108, 115, 101]⟩, .string ⟨#[116, 104, 105, 115]⟩] 9)
    have S1 := hid (((S0.out.on b1).on A1).on A2)
    have B1 := hid (((But.of (P := P) (below_in A.out (Nat.le_refl _) b1)).trans (But.of A1)).trans (But.of A2))
    have G1 := hid (blk_on (blk_on (blk_on G0.out b1) A1) A2)
    have V1 := hid (show StrsIn (w1.heap.size + 2) (.slice (some ⟨w1.heap.size + 1, 0, none⟩) 7 7) atomW ((w1.alloc (.cells #[.int .i64 k, .string x, .int .i64 n, .int .i64 p] 41)).alloc (.cells #[.string ⟨#[40]⟩, .string ⟨#[123]⟩, .string ⟨#[102, 110]⟩, .string ⟨#[110, 117, 108, 108]⟩, .string ⟨#[116, 114, 117, 101]⟩, .string ⟨#[102, 97, 108, 115, 101]⟩, .string ⟨#[116, 104, 105, 115]⟩] 9)) from by
      have := atomW_new (w1.alloc (.cells #[.int .i64 k, .string x, .int .i64 n, .int .i64 p] 41))
      simpa using this)
    have hg1 := blk_lt G1.out
    clear b1 S0 A G0 HC A1 A2
    go_wp2_with fail
    refine (takeone_no P L (⟨k, x, n, p⟩ :: r) atomW (w1.heap.size + 2) _ _ (by simp) S1 V1 (by decide) HF.out).mono ?_
    rintro e w2 ⟨rfl, b2⟩
    have S2 := hid (S1.out.on b2)
    have B2 := hid (B1.out.trans (But.of b2))
    have G2 := hid (blk_on G1.out b2)
    have hg2 := blk_lt G2.out
    clear b2 S1 V1 B1 G1 HF
    go_wp2_with fail
    refine (HD.out _ S2).mono ?_
    rintro e w2 ⟨⟨nv, kv, rfl, n2⟩, s2, b2⟩
    obtain ⟨a1, q1, a2, q2, rfl, rfl⟩ := ndR_shape n2
    have S3 := hid s2
    have hg2 := blk_lt G2.out
    have N3 := hid (ndR_low hg2 n2)
    have B3 := hid (B2.out.trans b2)
    have G3 := hid (blk_but G2.out b2 (by omega))
    have hg3 := blk_lt G3.out
    obtain ⟨r0, r1, r2, r3, r4, r5, r6⟩ := cells7 G3.out
    obtain ⟨u0, u1, u2, u3, u4, u5, u6⟩ := frees7 G3.out
    clear s2 b2 S2 B2 G2 n2
    unfold ndv
    go_wp2_with fail
    have Z := fin_put hP (Nat.le_refl _) S3.out B3.out G3.out (.int .i64 y.kind) (.int .i64 y.op) (.int .i64 y.num) (.string y.str) (.slice a1 y.names.length q1) (.slice a2 y.kids.length q2) (.int .i64 y.pl)
    exact bodyPost_ret (ret_nd rfl rfl Z.1) rfl ⟨⟨_, _, rfl, ndR_low (Nat.le_succ _) (ndR_aft (put7_aft w2 (Nat.lt_succ_self _) _ _ _ _ _ _ _) N3.out)⟩, Z.2.1, Z.2.2⟩

end Go.Proofs.YtijbiedblahmhaaDoor

namespace Go.Proofs.YtijbiedblahmhaaDoor
open Go.RowKit

/-- an object behind its brace; a function behind its key; a built-in call -/
def pObjN (f : Nat) (l : List Tok) : PR := (pObj f l).bind fun ns ks l => .ok (.mk 7 0 0 bz ns ks 0) false l
def pFnN (f : Nat) (at_ : Int) (l : List Tok) : PR := must [40] l fun l' => (pPars l').bind fun ns _ l' => (pBlock f l').bind fun b _ l' => .ok (.mk 8 0 0 bz ns b.kids at_) false l'
def pBuiltN (f : Nat) (l : List Tok) : PR := match builtP l with
  | none => .bad l
  | some o => must [40] l.tail fun l => (pRank f 1 l).bind fun e _ l =>
      if (builtT o).2 = 2 then must [44] l fun l => (pRank f 1 l).bind fun e' _ l => must [41] l fun l => .ok (ndO 17 o [e, e']) false l
      else must [41] l fun l => .ok (ndO 17 o [e]) false l
def ObjC (f : Nat) : Prop := ∀ (P : Nat) (L l : List Tok) (w : World), 20 * l.length + 15 ≤ f → Hid (PSt P L w l) → Calls Tryd.prog 76 #[.pointer (some ⟨P, 0, none⟩)] w (Reads P L w (pObjN f l))
def FnC (f : Nat) : Prop := ∀ (P : Nat) (L l : List Tok) (a : Int) (w : World), 20 * l.length + 15 ≤ f → Hid (PSt P L w l) → Calls Tryd.prog 77 #[.pointer (some ⟨P, 0, none⟩), .int .i64 a] w (Reads P L w (pFnN f a l))
def BuiltC (f : Nat) : Prop := ∀ (P : Nat) (L l : List Tok) (w : World), 20 * l.length + 1 ≤ f → Hid (PSt P L w l) → Calls Tryd.prog 78 #[.pointer (some ⟨P, 0, none⟩)] w (Reads P L w (pBuiltN f l))

theorem atom_calls (f : Nat) (hR : RankC f) (hO : ObjC f) (hF : FnC f) (hB : BuiltC f) : AtomC (f + 1) := by
  intro P L l w hf H
  cases l with
  | nil => exact absurd rfl H.out.ne
  | cons t r =>
    obtain ⟨k, x, n, p⟩ := t
    have hlen : 20 * r.length + 21 ≤ f := by simp at hf; omega
    rw [pAtom]
    show Calls _ _ _ _ (Reads P L w (if k = 3 then .ok (.mk 3 0 n bz [] [] 0) false r else if k = 4 then .ok (ndS 4 x []) false r else if k = 1 then .ok (.mk 5 0 0 x [] [] p) true r else _))
    by_cases h3 : k = 3
    · subst h3
      rw [if_pos rfl]
      exact atom_num P L x n p r w H
    rw [if_neg h3]
    by_cases h4 : k = 4
    · subst h4
      rw [if_pos rfl]
      exact atom_str P L x n p r w H
    rw [if_neg h4]
    by_cases h1 : k = 1
    · subst h1
      rw [if_pos rfl]
      exact atom_name P L x n p r w H
    rw [if_neg h1]
    by_cases gnull : isH (⟨k, x, n, p⟩ :: r) [110, 117, 108, 108] = true
    · rw [if_pos gnull]
      exact atom_null P L k x n p r w H gnull
    rw [if_neg gnull]
    by_cases gtrue : isH (⟨k, x, n, p⟩ :: r) [116, 114, 117, 101] = true
    · rw [if_pos gtrue]
      exact atom_true P L k x n p r w H gtrue
    rw [if_neg gtrue]
    by_cases gfalse : isH (⟨k, x, n, p⟩ :: r) [102, 97, 108, 115, 101] = true
    · rw [if_pos gfalse]
      exact atom_false P L k x n p r w H gfalse
    rw [if_neg gfalse]
    by_cases gthis : isH (⟨k, x, n, p⟩ :: r) [116, 104, 105, 115] = true
    · rw [if_pos gthis]
      exact atom_this P L k x n p r w H gthis
    rw [if_neg gthis]
    by_cases gpar : isH (⟨k, x, n, p⟩ :: r) [40] = true
    · rw [if_pos gpar]
      exact atom_par f hR P L k x n p r w (by omega) H gpar
    rw [if_neg gpar]
    by_cases gobj : isH (⟨k, x, n, p⟩ :: r) [123] = true
    · rw [if_pos gobj]
      exact atom_obj _ P L k x n p r w (fun w' S => hO P L r w' (by omega) S) H gobj
    rw [if_neg gobj]
    by_cases gfn : isH (⟨k, x, n, p⟩ :: r) [102, 110] = true
    · rw [if_pos gfn]
      exact atom_fn _ P L k x n p r w (fun w' S => hF P L r p w' (by omega) S) H gfn
    rw [if_neg gfn]
    refine atom_built _ P L k x n p r w (fun w' S => hB P L _ w' (by simp at hf ⊢; omega) S) H (by simpa using h3) (by simpa using h4) (by simpa using h1) (atom_wnone fun y hy => ?_)
    simp only [atomW, List.mem_cons, List.not_mem_nil, or_false] at hy
    rcases hy with rfl | rfl | rfl | rfl | rfl | rfl | rfl
    · simpa using gpar
    · simpa using gobj
    · simpa using gfn
    · simpa using gnull
    · simpa using gtrue
    · simpa using gfalse
    · simpa using gthis

end Go.Proofs.YtijbiedblahmhaaDoor

namespace Go.Proofs.YtijbiedblahmhaaDoor
open Go.RowKit

theorem builtF_none {l : List Tok} : ∀ {s : List Int}, builtF s l = none → ∀ o ∈ s, isH l (builtT o).1 = false
  | [], _, o, ho => by cases ho
  | a :: s, h, o, ho => by
    rw [builtF] at h
    split at h
    · cases h
    · rename_i hn
      rcases List.mem_cons.1 ho with rfl | ho
      · simpa using hn
      · exact builtF_none h o ho

set_option maxRecDepth 100000 in
set_option maxHeartbeats 6400000 in
theorem built_none (P : Nat) (L l : List Tok) (w : World) (H : Hid (PSt P L w l)) (hb : builtP l = none) :
    Calls Tryd.prog 78 #[.pointer (some ⟨P, 0, none⟩)] w (Reads P L w (.bad l)) := by
  have HN := hid (show ∀ j : Nat, 1 ≤ j → j ≤ 7 → isH l (builtT (j : Int)).1 = false from fun j h1 h2 => builtF_none hb _ (by
    rcases (show j = 1 ∨ j = 2 ∨ j = 3 ∨ j = 4 ∨ j = 5 ∨ j = 6 ∨ j = 7 by omega) with rfl | rfl | rfl | rfl | rfl | rfl | rfl <;> simp))
  have A := hid ((Below.refl _ w).alloc (Nat.le_refl _) (.cells znd 26))
  have S0 := hid (H.out.on A.out)
  have B0 := hid (But.of (P := P) A.out)
  unfold znd at *
  clear H hb A
  go_enter Tryd.func78, Tryd.ntmps78
  go_wp2_with fail
  go_loopw [3] (fun i wr => ∃ j : Nat, 1 ≤ j ∧ j ≤ 8 ∧ i = .int .i64 j ∧ Hid (PSt P L wr l) ∧ Hid (But P w wr)) (fun i _ => 8 - (intOf i).toNat)
  case atStart => exact ⟨1, by omega, by omega, rfl, S0.out, B0.out⟩
  case round =>
    obtain ⟨j, hj1, hj, rfl, hS, hB⟩ := hrel
    clear S0 B0
    by_cases hj7 : j ≤ 7
    · have HNj := hid (show isH l (⟨(builtT (j : Int)).1.toArray⟩ : ByteArray).data.toList = false by simpa using HN.out j hj1 hj7)
      generalize hbt : builtT (j : Int) = bt at HNj
      have HBC := hid (fun w' => built_calls (j : Int) w')
      rw [hbt] at HBC
      clear HN hbt
      go_wp2_with fail
      refine (HBC.out _).mono ?_
      rintro e w1 ⟨rfl, rfl⟩
      clear HBC
      go_wp2_with fail
      refine (take_no P L l ⟨bt.1.toArray⟩ _ hS HNj.out).mono ?_
      rintro e w2 ⟨rfl, b2⟩
      have S2 := hid (hS.out.on b2)
      have B2 := hid (hB.out.trans (But.of b2))
      clear b2 hS hB HNj
      go_wp2_with fail
      go_roundw
      case rel => exact ⟨j + 1, by omega, by omega, by go_num, S2.out, B2.out⟩
      case measure => simp [intOf]; omega
    · clear HN
      go_wp2_with fail
      refine (giveup_calls P _).mono ?_
      rintro e w3 ⟨rfl, rfl⟩
      unfold gaveUp
      go_wp2_with fail
      exact ⟨rfl, rfl, hS.out, hB.out⟩

theorem builtP_some {l : List Tok} {o : Int} (h : builtP l = some o) : ∃ m : Nat, o = m ∧ 1 ≤ m ∧ m ≤ 7 ∧ isH l (builtT (m : Int)).1 = true ∧ ∀ j : Nat, 1 ≤ j → j < m → isH l (builtT (j : Int)).1 = false := by
  unfold builtP at h
  simp only [builtF] at h
  by_cases h1 : isH l (builtT 1).1 = true
  · rw [if_pos h1] at h; injection h with h; exact ⟨1, h.symm, by omega, by omega, h1, fun j a b => by omega⟩
  rw [if_neg h1] at h
  by_cases h2 : isH l (builtT 2).1 = true
  · rw [if_pos h2] at h; injection h with h
    refine ⟨2, h.symm, by omega, by omega, h2, fun j a b => ?_⟩
    obtain rfl : j = 1 := by omega
    simpa using h1
  rw [if_neg h2] at h
  by_cases h3 : isH l (builtT 3).1 = true
  · rw [if_pos h3] at h; injection h with h
    refine ⟨3, h.symm, by omega, by omega, h3, fun j a b => ?_⟩
    obtain rfl | rfl : j = 1 ∨ j = 2 := by omega
    · simpa using h1
    · simpa using h2
  rw [if_neg h3] at h
  by_cases h4 : isH l (builtT 4).1 = true
  · rw [if_pos h4] at h; injection h with h
    refine ⟨4, h.symm, by omega, by omega, h4, fun j a b => ?_⟩
    obtain rfl | rfl | rfl : j = 1 ∨ j = 2 ∨ j = 3 := by omega
    · simpa using h1
    · simpa using h2
    · simpa using h3
  rw [if_neg h4] at h
  by_cases h5 : isH l (builtT 5).1 = true
  · rw [if_pos h5] at h; injection h with h
    refine ⟨5, h.symm, by omega, by omega, h5, fun j a b => ?_⟩
    obtain rfl | rfl | rfl | rfl : j = 1 ∨ j = 2 ∨ j = 3 ∨ j = 4 := by omega
    · simpa using h1
    · simpa using h2
    · simpa using h3
    · simpa using h4
  rw [if_neg h5] at h
  by_cases h6 : isH l (builtT 6).1 = true
  · rw [if_pos h6] at h; injection h with h
    refine ⟨6, h.symm, by omega, by omega, h6, fun j a b => ?_⟩
    obtain rfl | rfl | rfl | rfl | rfl : j = 1 ∨ j = 2 ∨ j = 3 ∨ j = 4 ∨ j = 5 := by omega
    · simpa using h1
    · simpa using h2
    · simpa using h3
    · simpa using h4
    · simpa using h5
  rw [if_neg h6] at h
  by_cases h7 : isH l (builtT 7).1 = true
  · rw [if_pos h7] at h; injection h with h
    refine ⟨7, h.symm, by omega, by omega, h7, fun j a b => ?_⟩
    obtain rfl | rfl | rfl | rfl | rfl | rfl : j = 1 ∨ j = 2 ∨ j = 3 ∨ j = 4 ∨ j = 5 ∨ j = 6 := by omega
    · simpa using h1
    · simpa using h2
    · simpa using h3
    · simpa using h4
    · simpa using h5
    · simpa using h6
  rw [if_neg h7] at h
  cases h

set_option maxRecDepth 100000 in
set_option maxHeartbeats 6400000 in
theorem built_some (o : PL) (m : Nat) (P : Nat) (L : List Tok) (t : Tok) (q : List Tok) (w : World) (hO : ∀ w', Hid (PSt P L w' q) → Calls Tryd.prog 89 #[.pointer (some ⟨P, 0, none⟩), .int .i64 (builtT (m : Int)).2] w' (ReadsS P L w' o)) (H : Hid (PSt P L w (t :: q))) (hm1 : 1 ≤ m) (hm7 : m ≤ 7) (hy : isT t (builtT (m : Int)).1 = true) (hn : ∀ j : Nat, 1 ≤ j → j < m → isT t (builtT (j : Int)).1 = false) :
    Calls Tryd.prog 78 #[.pointer (some ⟨P, 0, none⟩)] w (Reads P L w (o.bind fun _ ks l => .ok (ndO 17 m ks) false l)) := by
  have HN := hid (show ∀ j : Nat, 1 ≤ j → j < m → isH (t :: q) (builtT (j : Int)).1 = false from hn)
  have HY := hid hy
  have HD := hid hO
  have hP := H.out.lt
  have A := hid ((Below.refl _ w).alloc (Nat.le_refl _) (.cells znd 26))
  have S0 := hid (H.out.on A.out)
  have G0 := hid (blk_new w 26 znd)
  have B0 := hid (But.of (P := P) A.out)
  unfold znd at *
  clear H hy hn hO A
  go_enter Tryd.func78, Tryd.ntmps78
  go_wp2_with fail
  go_loopw [3] (fun i wr => ∃ j : Nat, 1 ≤ j ∧ j ≤ m ∧ i = .int .i64 j ∧ Hid (PSt P L wr (t :: q)) ∧ Hid (But P w wr) ∧ Hid (Blk w.heap.size 26 #[.int .i64 0, .int .i64 0, .int .i64 0, .string ⟨#[]⟩, .slice none 0 0, .slice none 0 0, .int .i64 0] wr)) (fun i _ => 8 - (intOf i).toNat)
  case atStart => exact ⟨1, by omega, by omega, rfl, S0.out, B0.out, G0.out⟩
  case round =>
    obtain ⟨j, hj1, hj, rfl, hS, hB, hG⟩ := hrel
    clear S0 B0 G0
    have hj7 : j ≤ 7 := by omega
    have hg1 := blk_lt hG.out
    by_cases hjm : j = m
    · subst hjm
      have HYj := hid (show isT t (⟨(builtT (j : Int)).1.toArray⟩ : ByteArray).data.toList = true by simpa using HY.out)
      have HBC := hid (fun w' => built_calls (j : Int) w')
      generalize hbt : builtT (j : Int) = bt at HYj HBC HD
      clear HN HY hbt
      cases o with
      | bad l' =>
        go_wp2_with fail
        refine (HBC.out _).mono ?_
        rintro e w1 ⟨rfl, rfl⟩
        clear HBC
        go_wp2_with fail
        refine (take_yes P L t q ⟨bt.1.toArray⟩ _ hS HYj.out).mono ?_
        rintro e w2 ⟨rfl, s2, b2⟩
        have S2 := hid s2
        have B2 := hid (hB.out.trans b2)
        clear s2 b2 hS hB hG HYj
        go_wp2_with fail
        refine (HD.out _ S2).mono ?_
        rintro e w3 ⟨rfl, s3, b3⟩
        have S3 := hid s3
        have B3 := hid (B2.out.trans b3)
        clear s3 b3 S2 B2 HD
        unfold gaveUp
        go_wp2_with fail
        exact ⟨rfl, rfl, S3.out, B3.out⟩
      | ok ns ks l' =>
        go_wp2_with fail
        refine (HBC.out _).mono ?_
        rintro e w1 ⟨rfl, rfl⟩
        clear HBC
        go_wp2_with fail
        refine (take_yes P L t q ⟨bt.1.toArray⟩ _ hS HYj.out).mono ?_
        rintro e w2 ⟨rfl, s2, b2⟩
        have S2 := hid s2
        have B2 := hid (hB.out.trans b2)
        have G2 := hid (blk_but hG.out b2 (by omega))
        have hg2 := blk_lt G2.out
        clear s2 b2 hS hB hG HYj
        go_wp2_with fail
        refine (HD.out _ S2).mono ?_
        rintro e w3 ⟨⟨kv, rfl, n3⟩, s3, b3⟩
        obtain ⟨a1, q1, rfl⟩ := kdR_shape n3
        have S3 := hid s3
        have B3 := hid (B2.out.trans b3)
        have G3 := hid (blk_but G2.out b3 (by omega))
        have N3 := hid (kdR_low (lo' := w.heap.size + 1) (by omega) n3)
        have hg3 := blk_lt G3.out
        obtain ⟨r0, r1, r2, r3, r4, r5, r6⟩ := cells7 G3.out
        obtain ⟨u0, u1, u2, u3, u4, u5, u6⟩ := frees7 G3.out
        clear s3 b3 n3 S2 B2 G2 HD
        go_wp2_with fail
        have Z := fin_put hP (Nat.le_refl _) S3.out B3.out G3.out (.int .i64 17) (.int .i64 j) (.int .i64 0) (.string ⟨#[]⟩) (.slice none 0 0) (.slice a1 ks.length q1) (.int .i64 0)
        exact bodyPost_ret (ret_nd rfl rfl Z.1) rfl ⟨⟨_, _, rfl, ndR_mk2 ⟨st_nil, kdR_low (Nat.le_succ _) (kdR_aft (put7_aft w3 (Nat.lt_succ_self _) _ _ _ _ _ _ _) N3.out)⟩⟩, Z.2.1, Z.2.2⟩
    · have HNj := hid (show isH (t :: q) (⟨(builtT (j : Int)).1.toArray⟩ : ByteArray).data.toList = false by simpa using HN.out j hj1 (by omega))
      generalize hbt : builtT (j : Int) = bt at HNj
      have HBC := hid (fun w' => built_calls (j : Int) w')
      rw [hbt] at HBC
      clear HN HY HD hbt
      go_wp2_with fail
      refine (HBC.out _).mono ?_
      rintro e w1 ⟨rfl, rfl⟩
      clear HBC
      go_wp2_with fail
      refine (take_no P L (t :: q) ⟨bt.1.toArray⟩ _ hS HNj.out).mono ?_
      rintro e w2 ⟨rfl, b2⟩
      have S2 := hid (hS.out.on b2)
      have B2 := hid (hB.out.trans (But.of b2))
      have G2 := hid (blk_on hG.out b2)
      clear b2 hS hB hG HNj
      go_wp2_with fail
      go_roundw
      case rel => exact ⟨j + 1, by omega, by omega, by go_num, S2.out, B2.out, G2.out⟩
      case measure => simp [intOf]; omega

end Go.Proofs.YtijbiedblahmhaaDoor
