/- A while. An if behind its key. An if behind its key, with an else. -/
import Derived.Test.YtijbiedblahmhaaDoorPsStmt
import Derived.Test.YtijbiedblahmhaaDoorJoint4
namespace Go.Proofs.YtijbiedblahmhaaDoor
open Go.RowKit

/-- two kids in a new block -/
theorem kid_two {lo g : Nat} {w2 : World} {x y : Nd} {nv kv nv2 kv2 : Value} (hg : g < lo) (hl : lo ≤ w2.heap.size) (N : NdR lo w2 x nv kv) (M : NdR lo w2 y nv2 kv2) (a b c d e f p : Value) {T : TypeId} :
    KdR lo ((put7w w2 g a b c d e f p).alloc (.cells (ndc x nv kv ++ ndc y nv2 kv2) T)) (.slice (some ⟨w2.heap.size, 0, none⟩) 2 2) [x, y] := by
  have A := put7_aft w2 hg a b c d e f p
  have hs : (put7w w2 g a b c d e f p).heap.size = w2.heap.size := by simp [put7w, World.setCell]
  have A2 := aft_trans A (aft_below (lo := lo) ((Below.refl _ (put7w w2 g a b c d e f p)).alloc (Nat.le_refl _) (.cells (ndc x nv kv ++ ndc y nv2 kv2) T)))
  have hb := blk_new (put7w w2 g a b c d e f p) T (ndc x nv kv ++ ndc y nv2 kv2)
  rw [hs] at hb
  exact kids_2 ⟨hl, by simp [hs]⟩ hb (ndR_aft A2 N) (ndR_aft A2 M)
theorem ask_less {f : Nat} {l : List Tok} {P : Nat} {L : List Tok} {w : World} (H : PSt P L w l) {x : Nd} {b : Bool} {l' : List Tok} (h : pAsk f l = .ok x b l') : l'.length + 1 ≤ l.length := by
  have := (may f).ask l (pst_gt H)
  rw [h] at this
  obtain ⟨_, pre, u, e, _⟩ := this
  rw [e]; simp

set_option maxRecDepth 100000 in
set_option maxHeartbeats 6400000 in
theorem stmt_while (f : Nat) (hA : AskC f) (hB : BlockC f) (P : Nat) (L : List Tok) (t : Tok) (q : List Tok) (w : World) (hf : 20 * q.length + 5 ≤ f) (H : Hid (PSt P L w (t :: q))) (h1 : isT t [105, 102] = false) (ht : isT t [119, 104, 105, 108, 101] = true) :
    Calls Tryd.prog 18 #[.pointer (some ⟨P, 0, none⟩)] w (Reads P L w ((pAsk f q).bind fun e _ l => (pBlock f l).bind fun y _ l => .ok (ndK 30 [e, y]) false l)) := by
  have A := hid ((Below.refl _ w).alloc (Nat.le_refl _) (.cells znd 26))
  have S0 := hid (H.out.on A.out)
  have G0 := hid (blk_new w 26 znd)
  have hP := H.out.lt
  have HA := hid (fun w' S => hA P L q w' hf S)
  have HL := hid (fun (x : Nd) (b : Bool) (l' : List Tok) (w' : World) (S : PSt P L w' q) (h : pAsk f q = .ok x b l') => ask_less S h)
  have H1 := hid (show isH (t :: q) [105, 102] = false from h1)
  have HT := hid ht
  unfold znd at *
  clear H hA ht h1
  cases hq : pAsk f q with
  | bad l' =>
    rw [hq] at HA
    rw [PR.bind_bad]
    clear HL
    go_enter Tryd.func18, Tryd.ntmps18
    go_wp2_with fail
    refine (take_no P L (t :: q) ⟨#[105, 102]⟩ _ S0 H1.out).mono ?_
    rintro e wn0 ⟨rfl, bn⟩
    have S1 := hid (S0.out.on bn)
    have A1 := hid (below_in A.out (Nat.le_refl _) bn)
    have G1 := hid (blk_on G0.out bn)
    have hzn0 := bn.size
    try simp only [World.size_alloc] at hzn0
    clear bn S0 A G0 H1
    go_wp2_with fail
    refine (take_yes P L t q ⟨#[119, 104, 105, 108, 101]⟩ _ S1 HT.out).mono ?_
    rintro e w1 ⟨rfl, s1, b1⟩
    have S9 := hid s1
    have B9 := hid ((But.of (P := P) A1.out).trans b1)
    have G9 := hid (blk_but G1.out b1 (by omega))
    have hg9 := blk_lt G9.out
    clear s1 b1 S1 A1 G1 HT
    go_wp2_with fail
    refine (HA.out _ S9).mono ?_
    rintro e wb ⟨rfl, sb, bb⟩
    have S8 := hid sb
    have B8 := hid (B9.out.trans bb)
    clear sb bb S9 B9 G9
    unfold gaveUp
    go_wp2_with fail
    exact ⟨rfl, rfl, S8.out, B8.out⟩
  | ok x b l1 =>
    rw [hq] at HA
    rw [PR.bind_ok]
    have HB := hid (fun (w0 : World) (S0 : PSt P L w0 q) (w' : World) (S : Hid (PSt P L w' l1)) => hB P L l1 w' (by have := HL.out x b l1 w0 S0 hq; omega) S)
    clear HL hB
    cases hq2 : pBlock f l1 with
    | bad l' =>
      rw [hq2] at HB
      rw [PR.bind_bad]
      go_enter Tryd.func18, Tryd.ntmps18
      go_wp2_with fail
      refine (take_no P L (t :: q) ⟨#[105, 102]⟩ _ S0 H1.out).mono ?_
      rintro e wn0 ⟨rfl, bn⟩
      have S1 := hid (S0.out.on bn)
      have A1 := hid (below_in A.out (Nat.le_refl _) bn)
      have G1 := hid (blk_on G0.out bn)
      have hzn0 := bn.size
      try simp only [World.size_alloc] at hzn0
      clear bn S0 A G0 H1
      go_wp2_with fail
      refine (take_yes P L t q ⟨#[119, 104, 105, 108, 101]⟩ _ S1 HT.out).mono ?_
      rintro e w1 ⟨rfl, s1, b1⟩
      have S9 := hid s1
      have B9 := hid ((But.of (P := P) A1.out).trans b1)
      have G9 := hid (blk_but G1.out b1 (by omega))
      have hg9 := blk_lt G9.out
      clear s1 b1 S1 A1 G1 HT
      go_wp2_with fail
      have HB' := hid (HB.out _ S9.out)
      clear HB
      refine (HA.out _ S9).mono ?_
      rintro e w2 ⟨⟨nv, kv, rfl, n2⟩, s2, b2⟩
      obtain ⟨a1, q1, a2, q2, rfl, rfl⟩ := ndR_shape n2
      have S2' := hid s2
      have N2' := hid (ndR_low hg9 n2)
      have B2' := hid (B9.out.trans b2)
      have G2' := hid (blk_but G9.out b2 (by omega))
      have hg2 := blk_lt G2'.out
      clear s2 b2 S9 B9 G9 HA n2
      unfold ndv
      go_wp2_with fail
      refine (HB'.out _ S2').mono ?_
      rintro e wb ⟨rfl, sb, bb⟩
      have S8 := hid sb
      have B8 := hid (B2'.out.trans bb)
      clear sb bb S2' B2' G2'
      unfold gaveUp
      go_wp2_with fail
      exact ⟨rfl, rfl, S8.out, B8.out⟩
    | ok y b2 l2 =>
      rw [hq2] at HB
      rw [PR.bind_ok]
      go_enter Tryd.func18, Tryd.ntmps18
      go_wp2_with fail
      refine (take_no P L (t :: q) ⟨#[105, 102]⟩ _ S0 H1.out).mono ?_
      rintro e wn0 ⟨rfl, bn⟩
      have S1 := hid (S0.out.on bn)
      have A1 := hid (below_in A.out (Nat.le_refl _) bn)
      have G1 := hid (blk_on G0.out bn)
      have hzn0 := bn.size
      try simp only [World.size_alloc] at hzn0
      clear bn S0 A G0 H1
      go_wp2_with fail
      refine (take_yes P L t q ⟨#[119, 104, 105, 108, 101]⟩ _ S1 HT.out).mono ?_
      rintro e w1 ⟨rfl, s1, b1⟩
      have S9 := hid s1
      have B9 := hid ((But.of (P := P) A1.out).trans b1)
      have G9 := hid (blk_but G1.out b1 (by omega))
      have hg9 := blk_lt G9.out
      clear s1 b1 S1 A1 G1 HT
      go_wp2_with fail
      have HB' := hid (HB.out _ S9.out)
      clear HB
      refine (HA.out _ S9).mono ?_
      rintro e w2 ⟨⟨nv, kv, rfl, n2⟩, s2, b2⟩
      obtain ⟨a1, q1, a2, q2, rfl, rfl⟩ := ndR_shape n2
      have S2' := hid s2
      have N2' := hid (ndR_low hg9 n2)
      have B2' := hid (B9.out.trans b2)
      have G2' := hid (blk_but G9.out b2 (by omega))
      have hg2 := blk_lt G2'.out
      clear s2 b2 S9 B9 G9 HA n2
      unfold ndv
      go_wp2_with fail
      refine (HB'.out _ S2').mono ?_
      rintro e w3 ⟨⟨nv2, kv2, rfl, n3⟩, s3, b3⟩
      have S3 := hid s3
      have N3 := hid (ndR_aft (aft_but b3 (by omega)) N2'.out)
      have M3 := hid (ndR_low hg2 n3)
      have B3 := hid (B2'.out.trans b3)
      have G3 := hid (blk_but G2'.out b3 (by omega))
      have hg3 := blk_lt G3.out
      obtain ⟨r0, r1, r2, r3, r4, r5, r6⟩ := cells7 G3.out
      obtain ⟨u0, u1, u2, u3, u4, u5, u6⟩ := frees7 G3.out
      clear s3 b3 S2' B2' G2' N2' HB' n3
      unfold ndv
      go_wp2_with fail
      have Z := fin_new (fin_put hP (Nat.le_refl _) S3.out B3.out G3.out (.int .i64 30) (.int .i64 0) (.int .i64 0) (.string ⟨#[]⟩) (.slice none 0 0) (.slice (some ⟨w3.heap.size, 0, none⟩) 2 2) (.int .i64 0)) (.cells (ndc x (.slice a1 x.names.length q1) (.slice a2 x.kids.length q2) ++ ndc y nv2 kv2) 26)
      have K := kid_two (g := w.heap.size) (T := 26) (Nat.lt_succ_self _) hg3 N3.out M3.out (.int .i64 30) (.int .i64 0) (.int .i64 0) (.string ⟨#[]⟩) (.slice none 0 0) (.slice (some ⟨w3.heap.size, 0, none⟩) 2 2) (.int .i64 0)
      exact bodyPost_ret (ret_nd rfl rfl Z.1) rfl ⟨⟨_, _, rfl, ndR_mk2 ⟨st_nil, kdR_low (Nat.le_succ _) K⟩⟩, Z.2.1, Z.2.2⟩

end Go.Proofs.YtijbiedblahmhaaDoor

namespace Go.Proofs.YtijbiedblahmhaaDoor
open Go.RowKit

/-- the third of three nodes is written -/
def put14w (w : World) (g : Nat) (a b c d e f p : Value) : World := ((((((w.setCell ⟨g, 14, none⟩ a).setCell ⟨g, 15, none⟩ b).setCell ⟨g, 16, none⟩ c).setCell ⟨g, 17, none⟩ d).setCell ⟨g, 18, none⟩ e).setCell ⟨g, 19, none⟩ f).setCell ⟨g, 20, none⟩ p
theorem put14_blk {w : World} {g : Nat} {T : TypeId} {x0 x1 x2 x3 x4 x5 x6 y0 y1 y2 y3 y4 y5 y6 a' b' c' d' e' f' p' : Value} (h : Blk g T #[x0, x1, x2, x3, x4, x5, x6, y0, y1, y2, y3, y4, y5, y6, a', b', c', d', e', f', p'] w) (a b c d e f p : Value) : Blk g T #[x0, x1, x2, x3, x4, x5, x6, y0, y1, y2, y3, y4, y5, y6, a, b, c, d, e, f, p] (put14w w g a b c d e f p) := by
  have h1 := blk_set (blk_set (blk_set (blk_set (blk_set (blk_set (blk_set h 14 a) 15 b) 16 c) 17 d) 18 e) 19 f) 20 p
  unfold put14w
  simpa using h1
theorem put14_aftO {ok : Nat → Prop} {g : Nat} (w : World) (h : ¬ ok g) (a b c d e f p : Value) : AftO ok w (put14w w g a b c d e f p) :=
  aftO_trans (aftO_trans (aftO_trans (aftO_trans (aftO_trans (aftO_trans (aftO_set h) (aftO_set h)) (aftO_set h)) (aftO_set h)) (aftO_set h)) (aftO_set h)) (aftO_set h)
theorem put14_but {P : Nat} {a c : World} (h : But P a c) {g : Nat} (hg : a.heap.size ≤ g) (x b d y e f p : Value) : But P a (put14w c g x b d y e f p) :=
  ((((((h.setNew hg _).setNew hg _).setNew hg _).setNew hg _).setNew hg _).setNew hg _).setNew hg _
theorem put14_pst {P : Nat} {L l : List Tok} {w : World} (h : PSt P L w l) {g : Nat} (hg : P < g) (a b c d e f p : Value) : PSt P L (put14w w g a b c d e f p) l :=
  pst_set (pst_set (pst_set (pst_set (pst_set (pst_set (pst_set h hg a) hg b) hg c) hg d) hg e) hg f) hg p
theorem blk_put14 {w : World} {g h : Nat} {T : TypeId} {cs : Array Value} (H : Blk h T cs w) (hne : h ≠ g) (a b c d e f p : Value) : Blk h T cs (put14w w g a b c d e f p) :=
  ((put14_aftO (ok := fun k => k = h) w (fun e => hne e.symm) a b c d e f p).block h rfl (blk_lt H)).trans H
theorem cells14 {g : Nat} {T : TypeId} {x0 x1 x2 x3 x4 x5 x6 y0 y1 y2 y3 y4 y5 y6 a b c d e f p : Value} {w : World} (h : Blk g T #[x0, x1, x2, x3, x4, x5, x6, y0, y1, y2, y3, y4, y5, y6, a, b, c, d, e, f, p] w) :
    w.cell? ⟨g, 14, none⟩ = some a ∧ w.cell? ⟨g, 15, none⟩ = some b ∧ w.cell? ⟨g, 16, none⟩ = some c ∧ w.cell? ⟨g, 17, none⟩ = some d ∧ w.cell? ⟨g, 18, none⟩ = some e ∧ w.cell? ⟨g, 19, none⟩ = some f ∧ w.cell? ⟨g, 20, none⟩ = some p :=
  ⟨blk_cell h 14, blk_cell h 15, blk_cell h 16, blk_cell h 17, blk_cell h 18, blk_cell h 19, blk_cell h 20⟩
theorem frees14 {g : Nat} {T : TypeId} {cs : Array Value} {w : World} (h : Blk g T cs w) :
    w.frozen? ⟨g, 14, none⟩ = false ∧ w.frozen? ⟨g, 15, none⟩ = false ∧ w.frozen? ⟨g, 16, none⟩ = false ∧ w.frozen? ⟨g, 17, none⟩ = false ∧ w.frozen? ⟨g, 18, none⟩ = false ∧ w.frozen? ⟨g, 19, none⟩ = false ∧ w.frozen? ⟨g, 20, none⟩ = false :=
  ⟨blk_free h 14, blk_free h 15, blk_free h 16, blk_free h 17, blk_free h 18, blk_free h 19, blk_free h 20⟩
theorem block_less {f : Nat} {l : List Tok} {P : Nat} {L : List Tok} {w : World} (H : PSt P L w l) {x : Nd} {b : Bool} {l' : List Tok} (h : pBlock f l = .ok x b l') : l'.length + 1 ≤ l.length := by
  have := (may f).block l (pst_gt H)
  rw [h] at this
  obtain ⟨_, pre, u, e, _⟩ := this
  rw [e]; simp

set_option maxRecDepth 100000 in
set_option maxHeartbeats 6400000 in
theorem branch_1 (f : Nat) (hA : AskC f) (P : Nat) (L : List Tok) (q : List Tok) (w : World) (hf : 20 * q.length + 5 ≤ f) (H : Hid (PSt P L w q)) (l' : List Tok) (hq : pAsk f q = .bad l') :
    Calls Tryd.prog 30 #[.pointer (some ⟨P, 0, none⟩)] w (Reads P L w (.bad l')) := by
  have A := hid ((Below.refl _ w).alloc (Nat.le_refl _) (.cells znd 26))
  have S0 := hid (H.out.on A.out)
  have G0 := hid (blk_new w 26 znd)
  have hP := H.out.lt
  have HA := hid (fun w' S => hA P L q w' hf S)
  rw [hq] at HA
  unfold znd at *
  clear H hA
  have S9 := S0
  have B9 := hid (But.of (P := P) A.out)
  have G9 := G0
  have hg9 := blk_lt G9.out
  clear S0 A G0
  go_enter Tryd.func30, Tryd.ntmps30
  go_wp2_with fail
  refine (HA.out _ S9).mono ?_
  rintro e wb ⟨rfl, sb, bb⟩
  have S8 := hid sb
  have B8 := hid (B9.out.trans bb)
  clear sb bb S9 B9 G9
  unfold gaveUp
  go_wp2_with fail
  exact ⟨rfl, rfl, S8.out, B8.out⟩

set_option maxRecDepth 100000 in
set_option maxHeartbeats 6400000 in
theorem branch_2 (f : Nat) (hA : AskC f) (hB : BlockC f) (P : Nat) (L : List Tok) (q : List Tok) (w : World) (hf : 20 * q.length + 5 ≤ f) (H : Hid (PSt P L w q)) (x : Nd) (b : Bool) (l1 l' : List Tok) (hq : pAsk f q = .ok x b l1) (hq2 : pBlock f l1 = .bad l') :
    Calls Tryd.prog 30 #[.pointer (some ⟨P, 0, none⟩)] w (Reads P L w (.bad l')) := by
  have A := hid ((Below.refl _ w).alloc (Nat.le_refl _) (.cells znd 26))
  have S0 := hid (H.out.on A.out)
  have G0 := hid (blk_new w 26 znd)
  have hP := H.out.lt
  have HA := hid (fun w' S => hA P L q w' hf S)
  have hl1 := ask_less H.out hq
  have HB' := hid (fun (w' : World) (S : Hid (PSt P L w' l1)) => hB P L l1 w' (by omega) S)
  rw [hq] at HA
  rw [hq2] at HB'
  unfold znd at *
  clear H hA hB
  have S9 := S0
  have B9 := hid (But.of (P := P) A.out)
  have G9 := G0
  have hg9 := blk_lt G9.out
  clear S0 A G0
  go_enter Tryd.func30, Tryd.ntmps30
  go_wp2_with fail
  refine (HA.out _ S9).mono ?_
  rintro e w2 ⟨⟨nv, kv, rfl, n2⟩, s2, b2⟩
  obtain ⟨a1, q1, a2, q2, rfl, rfl⟩ := ndR_shape n2
  have S2' := hid s2
  have N2' := hid (ndR_low hg9 n2)
  have B2' := hid (B9.out.trans b2)
  have G2' := hid (blk_but G9.out b2 (by omega))
  have hg2 := blk_lt G2'.out
  clear s2 b2 S9 B9 G9 HA n2
  unfold ndv
  go_wp2_with fail
  refine (HB'.out _ S2').mono ?_
  rintro e wb ⟨rfl, sb, bb⟩
  have S8 := hid sb
  have B8 := hid (B2'.out.trans bb)
  clear sb bb S2' B2' G2'
  unfold gaveUp
  go_wp2_with fail
  exact ⟨rfl, rfl, S8.out, B8.out⟩

set_option maxRecDepth 100000 in
set_option maxHeartbeats 6400000 in
theorem branch_3 (f : Nat) (hA : AskC f) (hB : BlockC f) (P : Nat) (L : List Tok) (q : List Tok) (w : World) (hf : 20 * q.length + 5 ≤ f) (H : Hid (PSt P L w q)) (x y : Nd) (b b2 : Bool) (l1 l2 : List Tok) (hq : pAsk f q = .ok x b l1) (hq2 : pBlock f l1 = .ok y b2 l2) (he : isH l2 [101, 108, 115, 101] = false) :
    Calls Tryd.prog 30 #[.pointer (some ⟨P, 0, none⟩)] w (Reads P L w (.ok (ndK 28 [x, y, ndK 29 []]) false l2)) := by
  have A := hid ((Below.refl _ w).alloc (Nat.le_refl _) (.cells znd 26))
  have S0 := hid (H.out.on A.out)
  have G0 := hid (blk_new w 26 znd)
  have hP := H.out.lt
  have HA := hid (fun w' S => hA P L q w' hf S)
  have hl1 := ask_less H.out hq
  have HB' := hid (fun (w' : World) (S : Hid (PSt P L w' l1)) => hB P L l1 w' (by omega) S)
  have HN := hid he
  rw [hq] at HA
  rw [hq2] at HB'
  unfold znd at *
  clear H hA hB he
  have S9 := S0
  have B9 := hid (But.of (P := P) A.out)
  have G9 := G0
  have hg9 := blk_lt G9.out
  clear S0 A G0
  go_enter Tryd.func30, Tryd.ntmps30
  go_wp2_with fail
  refine (HA.out _ S9).mono ?_
  rintro e w2 ⟨⟨nv, kv, rfl, n2⟩, s2, b2⟩
  obtain ⟨a1, q1, a2, q2, rfl, rfl⟩ := ndR_shape n2
  have S2' := hid s2
  have N2' := hid (ndR_low hg9 n2)
  have B2' := hid (B9.out.trans b2)
  have G2' := hid (blk_but G9.out b2 (by omega))
  have hg2 := blk_lt G2'.out
  clear s2 b2 S9 B9 G9 HA n2
  unfold ndv
  go_wp2_with fail
  refine (HB'.out _ S2').mono ?_
  rintro e w3 ⟨⟨nv2, kv2, rfl, n3⟩, s3, b3⟩
  obtain ⟨f1, g1, f2, g2, rfl, rfl⟩ := ndR_shape n3
  have hz3 := b3.size
  have AA := (Below.refl _ w3).alloc (Nat.le_refl _) (.cells #[.int .i64 x.kind, .int .i64 x.op, .int .i64 x.num, .string x.str, .slice a1 x.names.length q1, .slice a2 x.kids.length q2, .int .i64 x.pl, .int .i64 y.kind, .int .i64 y.op, .int .i64 y.num, .string y.str, .slice f1 y.names.length g1, .slice f2 y.kids.length g2, .int .i64 y.pl, .int .i64 29, .int .i64 0, .int .i64 0, .string ⟨#[]⟩, .slice none 0 0, .slice none 0 0, .int .i64 0] 26)
  have S3 := hid (s3.on AA)
  have B3 := hid ((B2'.out.trans b3).trans (But.of AA))
  have G3 := hid (blk_on (blk_but G2'.out b3 (by omega)) AA)
  have K3 := hid (blk_new w3 26 #[.int .i64 x.kind, .int .i64 x.op, .int .i64 x.num, .string x.str, .slice a1 x.names.length q1, .slice a2 x.kids.length q2, .int .i64 x.pl, .int .i64 y.kind, .int .i64 y.op, .int .i64 y.num, .string y.str, .slice f1 y.names.length g1, .slice f2 y.kids.length g2, .int .i64 y.pl, .int .i64 29, .int .i64 0, .int .i64 0, .string ⟨#[]⟩, .slice none 0 0, .slice none 0 0, .int .i64 0])
  have N3 := hid (ndO_aft (aftO_below AA) (ndO_of (ok := (fun b => w.heap.size + 1 ≤ b ∧ b ≠ w3.heap.size)) (ndR_aft (aft_but b3 (by omega)) N2'.out) (fun b h1 h2 => ⟨h1, by omega⟩)))
  have M3 := hid (ndO_aft (aftO_below AA) (ndO_of (ok := (fun b => w.heap.size + 1 ≤ b ∧ b ≠ w3.heap.size)) n3 (fun b h1 h2 => ⟨by omega, by omega⟩)))
  clear s3 b3 n3 AA S2' B2' G2' N2' HB'
  unfold ndv
  go_wp2_with fail
  refine (take_no P L l2 ⟨#[101, 108, 115, 101]⟩ _ S3 HN.out).mono ?_
  rintro e w4 ⟨rfl, b4⟩
  have S4 := hid (S3.out.on b4)
  have B4 := hid (B3.out.trans (But.of b4))
  have G4 := hid (blk_on G3.out b4)
  have K4 := hid (blk_on K3.out b4)
  have N4 := hid (ndO_aft (aftO_below b4) N3.out)
  have M4 := hid (ndO_aft (aftO_below b4) M3.out)
  have hg4 := blk_lt G4.out
  have hk4 := blk_lt K4.out
  obtain ⟨r0, r1, r2, r3, r4, r5, r6⟩ := cells7 G4.out
  obtain ⟨u0, u1, u2, u3, u4, u5, u6⟩ := frees7 G4.out
  clear b4 S3 B3 G3 K3 N3 M3 HN
  go_wp2_with fail
  have Z := fin_put hP (Nat.le_refl _) S4.out B4.out G4.out (.int .i64 28) (.int .i64 0) (.int .i64 0) (.string ⟨#[]⟩) (.slice none 0 0) (.slice (some ⟨w3.heap.size, 0, none⟩) 3 3) (.int .i64 0)
  have AF := put7_aft (lo := w.heap.size + 1) w4 (Nat.lt_succ_self _) (.int .i64 28) (.int .i64 0) (.int .i64 0) (.string ⟨#[]⟩) (.slice none 0 0) (.slice (some ⟨w3.heap.size, 0, none⟩) 3 3) (.int .i64 0)
  have K5 := blk_put7 (g := w.heap.size) K4.out (by omega) (.int .i64 28) (.int .i64 0) (.int .i64 0) (.string ⟨#[]⟩) (.slice none 0 0) (.slice (some ⟨w3.heap.size, 0, none⟩) 3 3) (.int .i64 0)
  have N5 := ndR_aft AF (ndR_of (lo := w.heap.size + 1) N4.out (fun b h => h.1))
  have M5 := ndR_aft AF (ndR_of (lo := w.heap.size + 1) M4.out (fun b h => h.1))
  exact bodyPost_ret (ret_nd rfl rfl Z.1) rfl ⟨⟨_, _, rfl, ndR_mk2 ⟨st_nil, kdR_low (Nat.le_succ _) (kids_3 (z := ndK 29 []) (nv'' := .slice none 0 0) (kv'' := .slice none 0 0) ⟨by omega, blk_lt K5⟩ K5 N5 M5 (ndR_mk2 ⟨st_nil, kd_nil⟩))⟩⟩, Z.2.1, Z.2.2⟩

end Go.Proofs.YtijbiedblahmhaaDoor

namespace Go.Proofs.YtijbiedblahmhaaDoor
open Go.RowKit

set_option maxRecDepth 100000 in
set_option maxHeartbeats 6400000 in
theorem branch_4 (f : Nat) (hA : AskC f) (hB : BlockC f) (P : Nat) (L : List Tok) (q : List Tok) (w : World) (hf : 20 * q.length + 5 ≤ f) (H : Hid (PSt P L w q)) (x y : Nd) (b b2 : Bool) (l1 : List Tok) (u : Tok) (z : List Tok) (hq : pAsk f q = .ok x b l1) (hq2 : pBlock f l1 = .ok y b2 (u :: z)) (hl2 : (u :: z).length + 1 ≤ l1.length) (hu : isT u [101, 108, 115, 101] = true) (l' : List Tok) (hq3 : pBlock f z = .bad l') :
    Calls Tryd.prog 30 #[.pointer (some ⟨P, 0, none⟩)] w (Reads P L w (.bad l')) := by
  have A := hid ((Below.refl _ w).alloc (Nat.le_refl _) (.cells znd 26))
  have S0 := hid (H.out.on A.out)
  have G0 := hid (blk_new w 26 znd)
  have hP := H.out.lt
  have HA := hid (fun w' S => hA P L q w' hf S)
  have hl1 := ask_less H.out hq
  have HB' := hid (fun (w' : World) (S : Hid (PSt P L w' l1)) => hB P L l1 w' (by omega) S)
  have HD := hid (fun (w' : World) (S : Hid (PSt P L w' z)) => hB P L z w' (by simp at hl2; omega) S)
  have HU := hid hu
  rw [hq] at HA
  rw [hq2] at HB'
  rw [hq3] at HD
  unfold znd at *
  clear H hA hB hu
  have S9 := S0
  have B9 := hid (But.of (P := P) A.out)
  have G9 := G0
  have hg9 := blk_lt G9.out
  clear S0 A G0
  go_enter Tryd.func30, Tryd.ntmps30
  go_wp2_with fail
  refine (HA.out _ S9).mono ?_
  rintro e w2 ⟨⟨nv, kv, rfl, n2⟩, s2, b2⟩
  obtain ⟨a1, q1, a2, q2, rfl, rfl⟩ := ndR_shape n2
  have S2' := hid s2
  have N2' := hid (ndR_low hg9 n2)
  have B2' := hid (B9.out.trans b2)
  have G2' := hid (blk_but G9.out b2 (by omega))
  have hg2 := blk_lt G2'.out
  clear s2 b2 S9 B9 G9 HA n2
  unfold ndv
  go_wp2_with fail
  refine (HB'.out _ S2').mono ?_
  rintro e w3 ⟨⟨nv2, kv2, rfl, n3⟩, s3, b3⟩
  obtain ⟨f1, g1, f2, g2, rfl, rfl⟩ := ndR_shape n3
  have hz3 := b3.size
  have AA := (Below.refl _ w3).alloc (Nat.le_refl _) (.cells #[.int .i64 x.kind, .int .i64 x.op, .int .i64 x.num, .string x.str, .slice a1 x.names.length q1, .slice a2 x.kids.length q2, .int .i64 x.pl, .int .i64 y.kind, .int .i64 y.op, .int .i64 y.num, .string y.str, .slice f1 y.names.length g1, .slice f2 y.kids.length g2, .int .i64 y.pl, .int .i64 29, .int .i64 0, .int .i64 0, .string ⟨#[]⟩, .slice none 0 0, .slice none 0 0, .int .i64 0] 26)
  have S3 := hid (s3.on AA)
  have B3 := hid ((B2'.out.trans b3).trans (But.of AA))
  have G3 := hid (blk_on (blk_but G2'.out b3 (by omega)) AA)
  have K3 := hid (blk_new w3 26 #[.int .i64 x.kind, .int .i64 x.op, .int .i64 x.num, .string x.str, .slice a1 x.names.length q1, .slice a2 x.kids.length q2, .int .i64 x.pl, .int .i64 y.kind, .int .i64 y.op, .int .i64 y.num, .string y.str, .slice f1 y.names.length g1, .slice f2 y.kids.length g2, .int .i64 y.pl, .int .i64 29, .int .i64 0, .int .i64 0, .string ⟨#[]⟩, .slice none 0 0, .slice none 0 0, .int .i64 0])
  have N3 := hid (ndO_aft (aftO_below AA) (ndO_of (ok := (fun b => w.heap.size + 1 ≤ b ∧ b ≠ w3.heap.size)) (ndR_aft (aft_but b3 (by omega)) N2'.out) (fun b h1 h2 => ⟨h1, by omega⟩)))
  have M3 := hid (ndO_aft (aftO_below AA) (ndO_of (ok := (fun b => w.heap.size + 1 ≤ b ∧ b ≠ w3.heap.size)) n3 (fun b h1 h2 => ⟨by omega, by omega⟩)))
  clear s3 b3 n3 AA S2' B2' G2' N2' HB'
  unfold ndv
  go_wp2_with fail
  refine (take_yes P L u z ⟨#[101, 108, 115, 101]⟩ _ S3 HU.out).mono ?_
  rintro e w4 ⟨rfl, s4, b4⟩
  have S4 := hid s4
  have B4 := hid (B3.out.trans b4)
  have G4 := hid (blk_but G3.out b4 (by omega))
  have K4 := hid (blk_but K3.out b4 (by omega))
  have N4 := hid (ndO_aft (aftO_but b4 (by omega)) N3.out)
  have M4 := hid (ndO_aft (aftO_but b4 (by omega)) M3.out)
  have hz4 := b4.size
  simp only [World.size_alloc] at hz4
  have hk4 := blk_lt K4.out
  clear s4 b4 S3 B3 G3 K3 N3 M3 HU
  go_wp2_with fail
  refine (HD.out _ S4).mono ?_
  rintro e wb ⟨rfl, sb, bb⟩
  have S8 := hid sb
  have B8 := hid (B4.out.trans bb)
  clear sb bb S4 B4 G4
  unfold gaveUp
  go_wp2_with fail
  exact ⟨rfl, rfl, S8.out, B8.out⟩

set_option maxRecDepth 100000 in
set_option maxHeartbeats 6400000 in
theorem branch_5 (f : Nat) (hA : AskC f) (hB : BlockC f) (P : Nat) (L : List Tok) (q : List Tok) (w : World) (hf : 20 * q.length + 5 ≤ f) (H : Hid (PSt P L w q)) (x y : Nd) (b b2 : Bool) (l1 : List Tok) (u : Tok) (z : List Tok) (hq : pAsk f q = .ok x b l1) (hq2 : pBlock f l1 = .ok y b2 (u :: z)) (hl2 : (u :: z).length + 1 ≤ l1.length) (hu : isT u [101, 108, 115, 101] = true) (v : Nd) (b3 : Bool) (l3 : List Tok) (hq3 : pBlock f z = .ok v b3 l3) :
    Calls Tryd.prog 30 #[.pointer (some ⟨P, 0, none⟩)] w (Reads P L w (.ok (ndK 28 [x, y, v]) false l3)) := by
  have A := hid ((Below.refl _ w).alloc (Nat.le_refl _) (.cells znd 26))
  have S0 := hid (H.out.on A.out)
  have G0 := hid (blk_new w 26 znd)
  have hP := H.out.lt
  have HA := hid (fun w' S => hA P L q w' hf S)
  have hl1 := ask_less H.out hq
  have HB' := hid (fun (w' : World) (S : Hid (PSt P L w' l1)) => hB P L l1 w' (by omega) S)
  have HD := hid (fun (w' : World) (S : Hid (PSt P L w' z)) => hB P L z w' (by simp at hl2; omega) S)
  have HU := hid hu
  rw [hq] at HA
  rw [hq2] at HB'
  rw [hq3] at HD
  unfold znd at *
  clear H hA hB hu
  have S9 := S0
  have B9 := hid (But.of (P := P) A.out)
  have G9 := G0
  have hg9 := blk_lt G9.out
  clear S0 A G0
  go_enter Tryd.func30, Tryd.ntmps30
  go_wp2_with fail
  refine (HA.out _ S9).mono ?_
  rintro e w2 ⟨⟨nv, kv, rfl, n2⟩, s2, b2⟩
  obtain ⟨a1, q1, a2, q2, rfl, rfl⟩ := ndR_shape n2
  have S2' := hid s2
  have N2' := hid (ndR_low hg9 n2)
  have B2' := hid (B9.out.trans b2)
  have G2' := hid (blk_but G9.out b2 (by omega))
  have hg2 := blk_lt G2'.out
  clear s2 b2 S9 B9 G9 HA n2
  unfold ndv
  go_wp2_with fail
  refine (HB'.out _ S2').mono ?_
  rintro e w3 ⟨⟨nv2, kv2, rfl, n3⟩, s3, b3⟩
  obtain ⟨f1, g1, f2, g2, rfl, rfl⟩ := ndR_shape n3
  have hz3 := b3.size
  have AA := (Below.refl _ w3).alloc (Nat.le_refl _) (.cells #[.int .i64 x.kind, .int .i64 x.op, .int .i64 x.num, .string x.str, .slice a1 x.names.length q1, .slice a2 x.kids.length q2, .int .i64 x.pl, .int .i64 y.kind, .int .i64 y.op, .int .i64 y.num, .string y.str, .slice f1 y.names.length g1, .slice f2 y.kids.length g2, .int .i64 y.pl, .int .i64 29, .int .i64 0, .int .i64 0, .string ⟨#[]⟩, .slice none 0 0, .slice none 0 0, .int .i64 0] 26)
  have S3 := hid (s3.on AA)
  have B3 := hid ((B2'.out.trans b3).trans (But.of AA))
  have G3 := hid (blk_on (blk_but G2'.out b3 (by omega)) AA)
  have K3 := hid (blk_new w3 26 #[.int .i64 x.kind, .int .i64 x.op, .int .i64 x.num, .string x.str, .slice a1 x.names.length q1, .slice a2 x.kids.length q2, .int .i64 x.pl, .int .i64 y.kind, .int .i64 y.op, .int .i64 y.num, .string y.str, .slice f1 y.names.length g1, .slice f2 y.kids.length g2, .int .i64 y.pl, .int .i64 29, .int .i64 0, .int .i64 0, .string ⟨#[]⟩, .slice none 0 0, .slice none 0 0, .int .i64 0])
  have N3 := hid (ndO_aft (aftO_below AA) (ndO_of (ok := (fun b => w.heap.size + 1 ≤ b ∧ b ≠ w3.heap.size)) (ndR_aft (aft_but b3 (by omega)) N2'.out) (fun b h1 h2 => ⟨h1, by omega⟩)))
  have M3 := hid (ndO_aft (aftO_below AA) (ndO_of (ok := (fun b => w.heap.size + 1 ≤ b ∧ b ≠ w3.heap.size)) n3 (fun b h1 h2 => ⟨by omega, by omega⟩)))
  clear s3 b3 n3 AA S2' B2' G2' N2' HB'
  unfold ndv
  go_wp2_with fail
  refine (take_yes P L u z ⟨#[101, 108, 115, 101]⟩ _ S3 HU.out).mono ?_
  rintro e w4 ⟨rfl, s4, b4⟩
  have S4 := hid s4
  have B4 := hid (B3.out.trans b4)
  have G4 := hid (blk_but G3.out b4 (by omega))
  have K4 := hid (blk_but K3.out b4 (by omega))
  have N4 := hid (ndO_aft (aftO_but b4 (by omega)) N3.out)
  have M4 := hid (ndO_aft (aftO_but b4 (by omega)) M3.out)
  have hz4 := b4.size
  simp only [World.size_alloc] at hz4
  have hk4 := blk_lt K4.out
  clear s4 b4 S3 B3 G3 K3 N3 M3 HU
  go_wp2_with fail
  refine (HD.out _ S4).mono ?_
  rintro e w5 ⟨⟨nv3, kv3, rfl, n5⟩, s5, b5⟩
  obtain ⟨h1, p1, h2, p2, rfl, rfl⟩ := ndR_shape n5
  have S5 := hid s5
  have B5 := hid (B4.out.trans b5)
  have G5 := hid (blk_but G4.out b5 (by omega))
  have K5 := hid (blk_but K4.out b5 (by omega))
  have N5 := hid (ndO_aft (aftO_but b5 (by omega)) N4.out)
  have M5 := hid (ndO_aft (aftO_but b5 (by omega)) M4.out)
  have V5 := hid (ndO_of (ok := (fun b => w.heap.size + 1 ≤ b ∧ b ≠ w3.heap.size)) n5 (fun b h1 h2 => ⟨by omega, by omega⟩))
  have hg5 := blk_lt G5.out
  have hk5 := blk_lt K5.out
  have hgk : w3.heap.size ≠ w.heap.size := by omega
  obtain ⟨r0, r1, r2, r3, r4, r5, r6⟩ := cells7 G5.out
  obtain ⟨u0, u1, u2, u3, u4, u5, u6⟩ := frees7 G5.out
  obtain ⟨k0, k1, k2, k3, k4, k5, k6⟩ := cells14 K5.out
  obtain ⟨m0, m1, m2, m3, m4, m5, m6⟩ := frees14 K5.out
  clear s5 b5 n5 S4 B4 G4 K4 N4 M4 HD
  unfold ndv
  go_wp2_with fail
  have S6 := put14_pst (g := w3.heap.size) S5.out (by omega) (.int .i64 v.kind) (.int .i64 v.op) (.int .i64 v.num) (.string v.str) (.slice h1 v.names.length p1) (.slice h2 v.kids.length p2) (.int .i64 v.pl)
  have B6 := put14_but (g := w3.heap.size) B5.out (by omega) (.int .i64 v.kind) (.int .i64 v.op) (.int .i64 v.num) (.string v.str) (.slice h1 v.names.length p1) (.slice h2 v.kids.length p2) (.int .i64 v.pl)
  have G6 := blk_put14 (g := w3.heap.size) G5.out (by omega) (.int .i64 v.kind) (.int .i64 v.op) (.int .i64 v.num) (.string v.str) (.slice h1 v.names.length p1) (.slice h2 v.kids.length p2) (.int .i64 v.pl)
  have K6 := put14_blk K5.out (.int .i64 v.kind) (.int .i64 v.op) (.int .i64 v.num) (.string v.str) (.slice h1 v.names.length p1) (.slice h2 v.kids.length p2) (.int .i64 v.pl)
  have A6 := put14_aftO (ok := (fun b => w.heap.size + 1 ≤ b ∧ b ≠ w3.heap.size)) (g := w3.heap.size) w5 (by simp) (.int .i64 v.kind) (.int .i64 v.op) (.int .i64 v.num) (.string v.str) (.slice h1 v.names.length p1) (.slice h2 v.kids.length p2) (.int .i64 v.pl)
  have N6 := ndR_of (lo := w.heap.size + 1) (ndO_aft A6 N5.out) (fun b h => h.1)
  have M6 := ndR_of (lo := w.heap.size + 1) (ndO_aft A6 M5.out) (fun b h => h.1)
  have V6 := ndR_of (lo := w.heap.size + 1) (ndO_aft A6 V5.out) (fun b h => h.1)
  have Z := fin_put hP (Nat.le_refl _) S6 B6 G6 (.int .i64 28) (.int .i64 0) (.int .i64 0) (.string ⟨#[]⟩) (.slice none 0 0) (.slice (some ⟨w3.heap.size, 0, none⟩) 3 3) (.int .i64 0)
  have AF := put7_aft (lo := w.heap.size + 1) (put14w w5 w3.heap.size (.int .i64 v.kind) (.int .i64 v.op) (.int .i64 v.num) (.string v.str) (.slice h1 v.names.length p1) (.slice h2 v.kids.length p2) (.int .i64 v.pl)) (Nat.lt_succ_self _) (.int .i64 28) (.int .i64 0) (.int .i64 0) (.string ⟨#[]⟩) (.slice none 0 0) (.slice (some ⟨w3.heap.size, 0, none⟩) 3 3) (.int .i64 0)
  have K7 := blk_put7 (g := w.heap.size) K6 (by omega) (.int .i64 28) (.int .i64 0) (.int .i64 0) (.string ⟨#[]⟩) (.slice none 0 0) (.slice (some ⟨w3.heap.size, 0, none⟩) 3 3) (.int .i64 0)
  exact bodyPost_ret (ret_nd rfl rfl Z.1) rfl ⟨⟨_, _, rfl, ndR_mk2 ⟨st_nil, kdR_low (Nat.le_succ _) (kids_3 ⟨by omega, blk_lt K7⟩ K7 (ndR_aft AF N6) (ndR_aft AF M6) (ndR_aft AF V6))⟩⟩, Z.2.1, Z.2.2⟩

theorem branch_calls (f : Nat) (hA : AskC f) (hB : BlockC f) : BranchC f := by
  intro P L l w hf H
  unfold pBranch
  cases hq : pAsk f l with
  | bad l' => rw [PR.bind_bad]; exact branch_1 f hA P L l w hf H l' hq
  | ok x b l1 =>
    rw [PR.bind_ok]
    cases hq2 : pBlock f l1 with
    | bad l' => rw [PR.bind_bad]; exact branch_2 f hA hB P L l w hf H x b l1 l' hq hq2
    | ok y b2 l2 =>
      rw [PR.bind_ok]
      by_cases he : isH l2 [101, 108, 115, 101] = true
      · obtain ⟨u, z, rfl, hu⟩ := isH_some he
        rw [if_pos he]
        simp only [List.tail_cons]
        have hl2 : (u :: z).length + 1 ≤ l1.length := by
          have hm := (may f).ask l (pst_gt H.out)
          rw [hq] at hm
          obtain ⟨_, pre, v, e, _⟩ := hm
          have h2 := (may f).block l1 (gt_suf (pst_gt H.out) ⟨pre ++ [v], by rw [e]; simp⟩)
          rw [hq2] at h2
          obtain ⟨_, pre', v', e', _⟩ := h2
          rw [e']; simp
        cases hq3 : pBlock f z with
        | bad l' => rw [PR.bind_bad]; exact branch_4 f hA hB P L l w hf H x y b b2 l1 u z hq hq2 hl2 hu l' hq3
        | ok v b3 l3 => rw [PR.bind_ok]; exact branch_5 f hA hB P L l w hf H x y b b2 l1 u z hq hq2 hl2 hu v b3 l3 hq3
      · rw [if_neg he]
        exact branch_3 f hA hB P L l w hf H x y b b2 l1 l2 hq hq2 (by simpa using he)

def StmtC (f : Nat) : Prop := ∀ (P : Nat) (L l : List Tok) (w : World), 20 * l.length + 13 ≤ f → Hid (PSt P L w l) → Calls Tryd.prog 18 #[.pointer (some ⟨P, 0, none⟩)] w (Reads P L w (pStmt f l))
theorem stmt_calls (f : Nat) (hA : AskC f) (hB : BlockC f) (hS : ShortC f) : StmtC (f + 1) := by
  intro P L l w hf H
  rw [pStmt]
  by_cases h1 : isH l [105, 102] = true
  · rw [if_pos h1]
    obtain ⟨t, q, rfl, ht⟩ := isH_some h1
    exact stmt_if f (branch_calls f hA hB) P L t q w (by simp at hf; omega) H ht
  · rw [if_neg h1]
    by_cases h2 : isH l [119, 104, 105, 108, 101] = true
    · rw [if_pos h2]
      obtain ⟨t, q, rfl, ht⟩ := isH_some h2
      exact stmt_while f hA hB P L t q w (by simp at hf; omega) H (show isH (t :: q) [105, 102] = false by simpa using h1) ht
    · rw [if_neg h2]
      exact stmt_short f hS P L l w (by omega) H (by simpa using h1) (by simpa using h2)

end Go.Proofs.YtijbiedblahmhaaDoor
