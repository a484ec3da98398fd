/- Signs ahead of an expression. Two with a sign between them. -/
import Derived.Test.YtijbiedblahmhaaDoorPsNode
namespace Go.Proofs.YtijbiedblahmhaaDoor
open Go.RowKit

/-- the function that reads a rank -/
def rankF : Nat → FuncId
  | 1 => 43
  | 2 => 55
  | 3 => 65
  | 4 => 75
  | 5 => 85
  | 6 => 92
  | _ => 93
def RankC (f : Nat) : Prop := ∀ (r P : Nat) (L l : List Tok) (w : World), 1 ≤ r → r ≤ 7 → 20 * l.length + (11 - r) ≤ f → Hid (PSt P L w l) → Calls Tryd.prog (rankF r) #[.pointer (some ⟨P, 0, none⟩)] w (Reads P L w (pRank f r l))
def PostC (f : Nat) : Prop := ∀ (P : Nat) (L l : List Tok) (w : World), 20 * l.length + 3 ≤ f → Hid (PSt P L w l) → Calls Tryd.prog 57 #[.pointer (some ⟨P, 0, none⟩)] w (Reads P L w (pPost f l))
def AtomC (f : Nat) : Prop := ∀ (P : Nat) (L l : List Tok) (w : World), 20 * l.length + 2 ≤ f → Hid (PSt P L w l) → Calls Tryd.prog 67 #[.pointer (some ⟨P, 0, none⟩)] w (Reads P L w (pAtom f l))

/-- the zero node in a result's block -/
def znd : Array Value := #[.int .i64 0, .int .i64 0, .int .i64 0, .string ⟨#[]⟩, .slice none 0 0, .slice none 0 0, .int .i64 0]
theorem cells7 {g : Nat} {T : TypeId} {a b c d e f p : Value} {w : World} (h : Blk g T #[a, b, c, d, e, f, p] w) :
    w.cell? ⟨g, 0, none⟩ = some a ∧ w.cell? ⟨g, 1, none⟩ = some b ∧ w.cell? ⟨g, 2, none⟩ = some c ∧ w.cell? ⟨g, 3, none⟩ = some d ∧ w.cell? ⟨g, 4, none⟩ = some e ∧ w.cell? ⟨g, 5, none⟩ = some f ∧ w.cell? ⟨g, 6, none⟩ = some p :=
  ⟨blk_cell h 0, blk_cell h 1, blk_cell h 2, blk_cell h 3, blk_cell h 4, blk_cell h 5, blk_cell h 6⟩
theorem frees7 {g : Nat} {T : TypeId} {cs : Array Value} {w : World} (h : Blk g T cs w) :
    w.frozen? ⟨g, 0, none⟩ = false ∧ w.frozen? ⟨g, 1, none⟩ = false ∧ w.frozen? ⟨g, 2, none⟩ = false ∧ w.frozen? ⟨g, 3, none⟩ = false ∧ w.frozen? ⟨g, 4, none⟩ = false ∧ w.frozen? ⟨g, 5, none⟩ = false ∧ w.frozen? ⟨g, 6, none⟩ = false :=
  ⟨blk_free h 0, blk_free h 1, blk_free h 2, blk_free h 3, blk_free h 4, blk_free h 5, blk_free h 6⟩
/-- an answer is written into its block -/
theorem fin_put {P : Nat} {L l : List Tok} {w w2 : World} {g : Nat} {a' b' c' d' e' f' p' : Value} (hP : P < w.heap.size) (hg : w.heap.size ≤ g) (S : PSt P L w2 l) (B : But P w w2) (G : Blk g 26 #[a', b', c', d', e', f', p'] w2) (a b c d e f p : Value) :
    Blk g 26 #[a, b, c, d, e, f, p] (put7w w2 g a b c d e f p) ∧ PSt P L (put7w w2 g a b c d e f p) l ∧ But P w (put7w w2 g a b c d e f p) :=
  ⟨put7_blk G a b c d e f p, put7_pst S (by omega) a b c d e f p, put7_but B hg a b c d e f p⟩
theorem fin_new {P : Nat} {L l : List Tok} {w w2 : World} {g : Nat} {a b c d e f p : Value} (H : Blk g 26 #[a, b, c, d, e, f, p] w2 ∧ PSt P L w2 l ∧ But P w w2) (o : Obj) :
    Blk g 26 #[a, b, c, d, e, f, p] (w2.alloc o) ∧ PSt P L (w2.alloc o) l ∧ But P w (w2.alloc o) := by
  have A := (Below.refl _ w2).alloc (Nat.le_refl _) o
  exact ⟨blk_on H.1 A, H.2.1.on A, H.2.2.trans (But.of A)⟩
/-- a kid in a new block -/
theorem kid_new {lo g : Nat} {w2 : World} {x : Nd} {nv kv : Value} (hg : g < lo) (hl : lo ≤ w2.heap.size) (N : NdR lo w2 x nv kv) (a b c d e f p : Value) {T : TypeId} :
    KdR lo ((put7w w2 g a b c d e f p).alloc (.cells (ndc x nv kv) T)) (.slice (some ⟨w2.heap.size, 0, none⟩) 1 1) [x] := by
  have A := put7_aft w2 hg a b c d e f p
  have hs : (put7w w2 g a b c d e f p).heap.size = w2.heap.size := by simp [put7w, World.setCell]
  have A2 := aft_trans A (aft_below (lo := lo) ((Below.refl _ (put7w w2 g a b c d e f p)).alloc (Nat.le_refl _) (.cells (ndc x nv kv) T)))
  have hb := blk_new (put7w w2 g a b c d e f p) T (ndc x nv kv)
  rw [hs] at hb
  exact kids_1 ⟨hl, by simp [hs]⟩ hb (ndR_aft A2 N)

set_option maxHeartbeats 3200000 in
theorem un_minus (f : Nat) (hR : RankC f) (P : Nat) (L : List Tok) (t : Tok) (q : List Tok) (w : World) (hf : 20 * q.length + 4 ≤ f) (H : Hid (PSt P L w (t :: q))) (ht : isT t [45] = true) :
    Calls Tryd.prog 93 #[.pointer (some ⟨P, 0, none⟩)] w (Reads P L w ((pRank f 7 q).bind fun e _ l => .ok (ndO 9 1 [e]) false l)) := by
  have A := hid ((Below.refl _ w).alloc (Nat.le_refl _) (.cells znd 26))
  have S0 := hid (H.out.on A.out)
  have G0 := hid (blk_new w 26 znd)
  have hP := H.out.lt
  have HC := hid (fun w' S => hR 7 P L q w' (by omega) (by omega) (by omega) S)
  have HT := hid ht
  unfold znd at *
  clear H hR ht
  cases hq : pRank f 7 q with
  | bad l' =>
    rw [hq] at HC
    rw [PR.bind_bad]
    go_enter Tryd.func93, Tryd.ntmps93
    go_wp2_with fail
    refine (take_yes P L t q ⟨#[45]⟩ _ S0 HT.out).mono ?_
    rintro e w1 ⟨rfl, s1, b1⟩
    have S1 := hid s1
    have B1 := hid ((But.of (P := P) A.out).trans b1)
    have G1 := hid (blk_but G0.out b1 (by omega))
    have hg1 := blk_lt G1.out
    clear s1 b1 S0 A G0 HT
    go_wp2_with fail
    refine (HC.out _ S1).mono ?_
    rintro e w2 ⟨rfl, s2, b2⟩
    have S2 := hid s2
    have B2 := hid (B1.out.trans b2)
    clear s2 b2 S1 B1 G1 HC
    unfold gaveUp
    go_wp2_with fail
    exact ⟨rfl, rfl, S2.out, B2.out⟩
  | ok x b l' =>
    rw [hq] at HC
    rw [PR.bind_ok]
    go_enter Tryd.func93, Tryd.ntmps93
    go_wp2_with fail
    refine (take_yes P L t q ⟨#[45]⟩ _ S0 HT.out).mono ?_
    rintro e w1 ⟨rfl, s1, b1⟩
    have S1 := hid s1
    have B1 := hid ((But.of (P := P) A.out).trans b1)
    have G1 := hid (blk_but G0.out b1 (by omega))
    have hg1 := blk_lt G1.out
    clear s1 b1 S0 A G0 HT
    go_wp2_with fail
    refine (HC.out _ S1).mono ?_
    rintro e w2 ⟨⟨nv, kv, rfl, n2⟩, s2, b2⟩
    have S2 := hid s2
    have N2 := hid (ndR_low hg1 n2)
    have B2 := hid (B1.out.trans b2)
    have G2 := hid (blk_but G1.out b2 (by omega))
    have hg2 := blk_lt G2.out
    obtain ⟨r0, r1, r2, r3, r4, r5, r6⟩ := cells7 G2.out
    obtain ⟨u0, u1, u2, u3, u4, u5, u6⟩ := frees7 G2.out
    clear s2 b2 S1 B1 G1 HC n2
    unfold ndv
    go_wp2_with fail
    have Z := fin_new (fin_put hP (Nat.le_refl _) S2.out B2.out G2.out (.int .i64 9) (.int .i64 1) (.int .i64 0) (.string ⟨#[]⟩) (.slice none 0 0) (.slice (some ⟨w2.heap.size, 0, none⟩) 1 1) (.int .i64 0)) (.cells (ndc x nv kv) 26)
    have K := kid_new (g := w.heap.size) (T := 26) (Nat.lt_succ_self _) hg2 N2.out (.int .i64 9) (.int .i64 1) (.int .i64 0) (.string ⟨#[]⟩) (.slice none 0 0) (.slice (some ⟨w2.heap.size, 0, none⟩) 1 1) (.int .i64 0)
    exact bodyPost_ret (ret_nd rfl rfl Z.1) rfl ⟨⟨_, _, rfl, ndR_mk2 ⟨st_nil, kdR_low (Nat.le_succ _) K⟩⟩, Z.2.1, Z.2.2⟩

set_option maxHeartbeats 3200000 in
theorem un_not (f : Nat) (hR : RankC f) (P : Nat) (L : List Tok) (t : Tok) (q : List Tok) (w : World) (hf : 20 * q.length + 4 ≤ f) (H : Hid (PSt P L w (t :: q))) (hn : isT t [45] = false) (ht : isT t [33] = true) :
    Calls Tryd.prog 93 #[.pointer (some ⟨P, 0, none⟩)] w (Reads P L w ((pRank f 7 q).bind fun e _ l => .ok (ndO 9 2 [e]) false l)) := by
  have A := hid ((Below.refl _ w).alloc (Nat.le_refl _) (.cells znd 26))
  have S0 := hid (H.out.on A.out)
  have G0 := hid (blk_new w 26 znd)
  have hP := H.out.lt
  have HC := hid (fun w' S => hR 7 P L q w' (by omega) (by omega) (by omega) S)
  have HT := hid ht
  have HN := hid (show isH (t :: q) [45] = false from hn)
  unfold znd at *
  clear H hR ht hn
  cases hq : pRank f 7 q with
  | bad l' =>
    rw [hq] at HC
    rw [PR.bind_bad]
    go_enter Tryd.func93, Tryd.ntmps93
    go_wp2_with fail
    refine (take_no P L (t :: q) ⟨#[45]⟩ _ S0 HN.out).mono ?_
    rintro e wn ⟨rfl, bn⟩
    have Sn := hid (S0.out.on bn)
    have An := hid (below_in A.out (Nat.le_refl _) bn)
    have Gn := hid (blk_on G0.out bn)
    have hzn := bn.size
    simp only [World.size_alloc] at hzn
    clear bn S0 A G0 HN
    go_wp2_with fail
    refine (take_yes P L t q ⟨#[33]⟩ _ Sn HT.out).mono ?_
    rintro e w1 ⟨rfl, s1, b1⟩
    have S1 := hid s1
    have B1 := hid ((But.of (P := P) An.out).trans b1)
    have G1 := hid (blk_but Gn.out b1 (by omega))
    have hg1 := blk_lt G1.out
    clear s1 b1 Sn An Gn HT
    go_wp2_with fail
    refine (HC.out _ S1).mono ?_
    rintro e w2 ⟨rfl, s2, b2⟩
    have S2 := hid s2
    have B2 := hid (B1.out.trans b2)
    clear s2 b2 S1 B1 G1 HC
    unfold gaveUp
    go_wp2_with fail
    exact ⟨rfl, rfl, S2.out, B2.out⟩
  | ok x b l' =>
    rw [hq] at HC
    rw [PR.bind_ok]
    go_enter Tryd.func93, Tryd.ntmps93
    go_wp2_with fail
    refine (take_no P L (t :: q) ⟨#[45]⟩ _ S0 HN.out).mono ?_
    rintro e wn ⟨rfl, bn⟩
    have Sn := hid (S0.out.on bn)
    have An := hid (below_in A.out (Nat.le_refl _) bn)
    have Gn := hid (blk_on G0.out bn)
    have hzn := bn.size
    simp only [World.size_alloc] at hzn
    clear bn S0 A G0 HN
    go_wp2_with fail
    refine (take_yes P L t q ⟨#[33]⟩ _ Sn HT.out).mono ?_
    rintro e w1 ⟨rfl, s1, b1⟩
    have S1 := hid s1
    have B1 := hid ((But.of (P := P) An.out).trans b1)
    have G1 := hid (blk_but Gn.out b1 (by omega))
    have hg1 := blk_lt G1.out
    clear s1 b1 Sn An Gn HT
    go_wp2_with fail
    refine (HC.out _ S1).mono ?_
    rintro e w2 ⟨⟨nv, kv, rfl, n2⟩, s2, b2⟩
    have S2 := hid s2
    have N2 := hid (ndR_low hg1 n2)
    have B2 := hid (B1.out.trans b2)
    have G2 := hid (blk_but G1.out b2 (by omega))
    have hg2 := blk_lt G2.out
    obtain ⟨r0, r1, r2, r3, r4, r5, r6⟩ := cells7 G2.out
    obtain ⟨u0, u1, u2, u3, u4, u5, u6⟩ := frees7 G2.out
    clear s2 b2 S1 B1 G1 HC n2
    unfold ndv
    go_wp2_with fail
    have Z := fin_new (fin_put hP (Nat.le_refl _) S2.out B2.out G2.out (.int .i64 9) (.int .i64 2) (.int .i64 0) (.string ⟨#[]⟩) (.slice none 0 0) (.slice (some ⟨w2.heap.size, 0, none⟩) 1 1) (.int .i64 0)) (.cells (ndc x nv kv) 26)
    have K := kid_new (g := w.heap.size) (T := 26) (Nat.lt_succ_self _) hg2 N2.out (.int .i64 9) (.int .i64 2) (.int .i64 0) (.string ⟨#[]⟩) (.slice none 0 0) (.slice (some ⟨w2.heap.size, 0, none⟩) 1 1) (.int .i64 0)
    exact bodyPost_ret (ret_nd rfl rfl Z.1) rfl ⟨⟨_, _, rfl, ndR_mk2 ⟨st_nil, kdR_low (Nat.le_succ _) K⟩⟩, Z.2.1, Z.2.2⟩

set_option maxHeartbeats 3200000 in
theorem un_post (f : Nat) (hR : PostC f) (P : Nat) (L l : List Tok) (w : World) (hf : 20 * l.length + 3 ≤ f) (H : Hid (PSt P L w l)) (h1 : isH l [45] = false) (h2 : isH l [33] = false) :
    Calls Tryd.prog 93 #[.pointer (some ⟨P, 0, none⟩)] w (Reads P L w (pPost f l)) := by
  have A := hid ((Below.refl _ w).alloc (Nat.le_refl _) (.cells znd 26))
  have S0 := hid (H.out.on A.out)
  have G0 := hid (blk_new w 26 znd)
  have hP := H.out.lt
  have HC := hid (fun w' S => hR P L l w' hf S)
  have H1 := hid h1
  have H2 := hid h2
  unfold znd at *
  clear H hR h1 h2
  cases hq : pPost f l with
  | bad l' =>
    rw [hq] at HC
    go_enter Tryd.func93, Tryd.ntmps93
    go_wp2_with fail
    refine (take_no P L l ⟨#[45]⟩ _ S0 H1.out).mono ?_
    rintro e wn ⟨rfl, bn⟩
    have Sn := hid (S0.out.on bn)
    have An := hid (below_in A.out (Nat.le_refl _) bn)
    have Gn := hid (blk_on G0.out bn)
    clear bn S0 A G0 H1
    go_wp2_with fail
    refine (take_no P L l ⟨#[33]⟩ _ Sn H2.out).mono ?_
    rintro e wm ⟨rfl, bm⟩
    have S2 := hid (Sn.out.on bm)
    have A2 := hid (below_in An.out (Nat.le_refl _) bm)
    have G2 := hid (blk_on Gn.out bm)
    clear bm Sn An Gn H2
    go_wp2_with fail
    refine (HC.out _ S2).mono ?_
    rintro e w2 ⟨rfl, s2, b2⟩
    have S3 := hid s2
    have B3 := hid ((But.of A2.out).trans b2)
    clear s2 b2 S2 A2 G2 HC
    unfold gaveUp
    go_wp2_with fail
    exact ⟨rfl, rfl, S3.out, B3.out⟩
  | ok x b l' =>
    rw [hq] at HC
    go_enter Tryd.func93, Tryd.ntmps93
    go_wp2_with fail
    refine (take_no P L l ⟨#[45]⟩ _ S0 H1.out).mono ?_
    rintro e wn ⟨rfl, bn⟩
    have Sn := hid (S0.out.on bn)
    have An := hid (below_in A.out (Nat.le_refl _) bn)
    have Gn := hid (blk_on G0.out bn)
    clear bn S0 A G0 H1
    go_wp2_with fail
    refine (take_no P L l ⟨#[33]⟩ _ Sn H2.out).mono ?_
    rintro e wm ⟨rfl, bm⟩
    have S2 := hid (Sn.out.on bm)
    have A2 := hid (below_in An.out (Nat.le_refl _) bm)
    have G2 := hid (blk_on Gn.out bm)
    clear bm Sn An Gn H2
    go_wp2_with fail
    refine (HC.out _ S2).mono ?_
    rintro e w2 ⟨⟨nv, kv, rfl, n2⟩, s2, b2⟩
    obtain ⟨a1, q1, a2, q2, rfl, rfl⟩ := ndR_shape n2
    have S3 := hid s2
    have hg2 := blk_lt G2.out
    have N3 := hid (ndR_low hg2 n2)
    have B3 := hid ((But.of A2.out).trans b2)
    have G3 := hid (blk_but G2.out b2 (by omega))
    have hg3 := blk_lt G3.out
    obtain ⟨r0, r1, r2, r3, r4, r5, r6⟩ := cells7 G3.out
    obtain ⟨u0, u1, u2, u3, u4, u5, u6⟩ := frees7 G3.out
    clear s2 b2 S2 A2 G2 HC n2
    unfold ndv
    go_wp2_with fail
    have Z := fin_put hP (Nat.le_refl _) S3.out B3.out G3.out (.int .i64 x.kind) (.int .i64 x.op) (.int .i64 x.num) (.string x.str) (.slice a1 x.names.length q1) (.slice a2 x.kids.length q2) (.int .i64 x.pl)
    exact bodyPost_ret (ret_nd rfl rfl Z.1) rfl ⟨⟨_, _, rfl, ndR_low (Nat.le_succ _) (ndR_aft (put7_aft w2 (Nat.lt_succ_self _) _ _ _ _ _ _ _) N3.out)⟩, Z.2.1, Z.2.2⟩

end Go.Proofs.YtijbiedblahmhaaDoor

namespace Go.Proofs.YtijbiedblahmhaaDoor
open Go.RowKit

theorem sign_apart {i j : Nat} (h1 : 1 ≤ i) (h2 : i < j) (h3 : j ≤ 11) : (signT (i : Int) == signT (j : Int)) = false := by
  have key : ∀ j : Nat, j ≤ 11 → ∀ i : Nat, i < j → 1 ≤ i → (signT (i : Int) == signT (j : Int)) = false := by
    intro j hj
    obtain rfl | rfl | rfl | rfl | rfl | rfl | rfl | rfl | rfl | rfl | rfl | rfl : j = 0 ∨ j = 1 ∨ j = 2 ∨ j = 3 ∨ j = 4 ∨ j = 5 ∨ j = 6 ∨ j = 7 ∨ j = 8 ∨ j = 9 ∨ j = 10 ∨ j = 11 := by omega
    all_goals decide
  exact key j h3 i h2 h1

set_option maxHeartbeats 3200000 in
theorem number_calls (o : Nat) (h1 : 1 ≤ o) (h11 : o ≤ 11) (s : ByteArray) (hs : s.data.toList = signT (o : Int)) (B : Nat) (w : World) (hO : Hid (Ok B w)) :
    Calls Tryd.prog 74 #[.string s] w fun e w' => e = .returned (.int .i64 (o : Int)) ∧ w = w' := by
  have HS := hid hs
  clear hs
  go_enter Tryd.func74, Tryd.ntmps74
  go_wp2_with fail
  go_loopw [3] (fun i wr => ∃ j : Nat, 1 ≤ j ∧ j ≤ o ∧ i = .int .i64 j ∧ w = wr) (fun i _ => 12 - (intOf i).toNat)
  case atStart => exact ⟨1, Nat.le_refl _, h1, rfl, rfl⟩
  case round =>
    obtain ⟨j, hj1, hjo, rfl, rfl⟩ := hrel
    by_cases h : (j : Int) < 11
    · have hd : decide ((j : Int) < 11) = true := decide_eq_true h
      rcases Nat.lt_or_ge j o with hlt | hge
      · have hne : (signT (j : Int) == s.toList) = false := by
          rw [Lib.toList_data, HS.out]
          exact sign_apart hj1 hlt h11
        go_wp2_with fail
        refine (sign_calls (j : Int) B _ hO).mono ?_
        rintro e w1 ⟨rfl, rfl⟩
        generalize signT (j : Int) = sj at *
        go_wp2_with fail
        go_roundw
        case rel => exact ⟨j + 1, by omega, by omega, by go_num, trivial⟩
        case measure => simp [intOf]; omega
      · have hjo' : j = o := by omega
        subst hjo'
        go_wp2_with fail
        refine (sign_calls (j : Int) B _ hO).mono ?_
        rintro e w1 ⟨rfl, rfl⟩
        have hne : (signT (j : Int) == s.toList) = true := by rw [Lib.toList_data, HS.out]; simp
        generalize signT (j : Int) = sj at *
        go_wp2_with fail
        go_ret
        exact ⟨rfl, rfl⟩
    · have hd : decide ((j : Int) < 11) = false := decide_eq_false h
      have hjo' : j = o := by omega
      subst hjo'
      go_wp2_with fail
      go_ret
      exact ⟨rfl, rfl⟩

theorem five_new (w : World) (o1 o2 o5 : Obj) (T T' : TypeId) (c3 c4 : Array Value) :
    Blk (w.heap.size + 1 + 1) T c3 (((((w.alloc o1).alloc o2).alloc (.cells c3 T)).alloc (.cells c4 T')).alloc o5) ∧ Blk (w.heap.size + 1 + 1 + 1) T' c4 (((((w.alloc o1).alloc o2).alloc (.cells c3 T)).alloc (.cells c4 T')).alloc o5) ∧
      Below w.heap.size w (((((w.alloc o1).alloc o2).alloc (.cells c3 T)).alloc (.cells c4 T')).alloc o5) ∧ w.heap.size + 1 + 1 + 1 < (((((w.alloc o1).alloc o2).alloc (.cells c3 T)).alloc (.cells c4 T')).alloc o5).heap.size := by
  have b1 := (Below.refl _ w).alloc (Nat.le_refl _) o1
  have b2 := (Below.refl _ (w.alloc o1)).alloc (Nat.le_refl _) o2
  have b3 := (Below.refl _ ((w.alloc o1).alloc o2)).alloc (Nat.le_refl _) (.cells c3 T)
  have b4 := (Below.refl _ (((w.alloc o1).alloc o2).alloc (.cells c3 T))).alloc (Nat.le_refl _) (.cells c4 T')
  have b5 := (Below.refl _ ((((w.alloc o1).alloc o2).alloc (.cells c3 T)).alloc (.cells c4 T'))).alloc (Nat.le_refl _) o5
  have h3 := blk_on (blk_on (blk_new ((w.alloc o1).alloc o2) T c3) b4) b5
  have h4 := blk_on (blk_new (((w.alloc o1).alloc o2).alloc (.cells c3 T)) T' c4) b5
  simp only [World.size_alloc] at h3 h4
  exact ⟨h3, h4, below_on (below_on (below_on (below_on b1 b2) b3) b4) b5, by simp⟩
theorem join_fin {ok : Nat → Prop} {x y : Nd} {nv kv nv' kv' : Value} {w W : World} (k o : Int) {g : Nat} {T : TypeId} (N1 : NdO ok w x nv kv) (N2 : NdO ok w y nv' kv') (hg : ok g) (hgW : g < W.heap.size) (b : Below w.heap.size w W)
    (hb : Blk g T #[.int .i64 x.kind, .int .i64 x.op, .int .i64 x.num, .string x.str, nv, kv, .int .i64 x.pl, .int .i64 y.kind, .int .i64 y.op, .int .i64 y.num, .string y.str, nv', kv', .int .i64 y.pl] W) :
    NdO ok W (ndO k o [x, y]) (.slice none 0 0) (.slice (some ⟨g, 0, none⟩) 2 2) :=
  ndO_mk2 ⟨.inl ⟨_, _, rfl, rfl⟩, kids_2 ⟨hg, hgW⟩ hb (ndO_aft (aftO_below b) N1) (ndO_aft (aftO_below b) N2)⟩

set_option maxHeartbeats 3200000 in
theorem join_or (ok : Nat → Prop) (x y : Nd) (nv kv nv' kv' : Value) (w : World) (hok : ∀ b, w.heap.size ≤ b → ok b) (N1 : Hid (NdO ok w x nv kv)) (N2 : Hid (NdO ok w y nv' kv')) :
    Calls Tryd.prog 64 #[ndv x nv kv, .string ⟨#[124, 124]⟩, ndv y nv' kv'] w fun e w' => (∃ nv'' kv'', e = .returned (ndv (ndO 12 0 [x, y]) nv'' kv'') ∧ NdO ok w' (ndO 12 0 [x, y]) nv'' kv'') ∧ Below w.heap.size w w' := by
  obtain ⟨a1, q1, a2, q2, rfl, rfl⟩ := ndO_shape N1.out
  obtain ⟨a3, q3, a4, q4, rfl, rfl⟩ := ndO_shape N2.out
  unfold ndv
  go_enter Tryd.func64, Tryd.ntmps64
  go_wp2_with fail
  obtain ⟨h3, h4, hb, hz⟩ := five_new w (.cells #[.int .i64 x.kind, .int .i64 x.op, .int .i64 x.num, .string x.str, .slice a1 x.names.length q1, .slice a2 x.kids.length q2, .int .i64 x.pl] 26) (.cells #[.int .i64 y.kind, .int .i64 y.op, .int .i64 y.num, .string y.str, .slice a3 y.names.length q3, .slice a4 y.kids.length q4, .int .i64 y.pl] 26) (.cells #[.int .i64 12, .int .i64 0, .int .i64 0, .string ⟨#[]⟩, .slice none 0 0, .slice (some ⟨w.heap.size + 1 + 1 + 1, 0, none⟩) 2 2, .int .i64 0] 26) 26 26 #[.int .i64 12, .int .i64 0, .int .i64 0, .string ⟨#[]⟩, .slice none 0 0, .slice (some ⟨w.heap.size + 1 + 1 + 1, 0, none⟩) 2 2, .int .i64 0] #[.int .i64 x.kind, .int .i64 x.op, .int .i64 x.num, .string x.str, .slice a1 x.names.length q1, .slice a2 x.kids.length q2, .int .i64 x.pl, .int .i64 y.kind, .int .i64 y.op, .int .i64 y.num, .string y.str, .slice a3 y.names.length q3, .slice a4 y.kids.length q4, .int .i64 y.pl]
  exact bodyPost_ret (ret_nd rfl rfl h3) rfl ⟨⟨_, _, rfl, join_fin 12 0 N1.out N2.out (hok _ (by omega)) hz hb h4⟩, hb⟩

set_option maxHeartbeats 3200000 in
theorem join_and (ok : Nat → Prop) (x y : Nd) (nv kv nv' kv' : Value) (w : World) (hok : ∀ b, w.heap.size ≤ b → ok b) (N1 : Hid (NdO ok w x nv kv)) (N2 : Hid (NdO ok w y nv' kv')) :
    Calls Tryd.prog 64 #[ndv x nv kv, .string ⟨#[38, 38]⟩, ndv y nv' kv'] w fun e w' => (∃ nv'' kv'', e = .returned (ndv (ndO 11 0 [x, y]) nv'' kv'') ∧ NdO ok w' (ndO 11 0 [x, y]) nv'' kv'') ∧ Below w.heap.size w w' := by
  obtain ⟨a1, q1, a2, q2, rfl, rfl⟩ := ndO_shape N1.out
  obtain ⟨a3, q3, a4, q4, rfl, rfl⟩ := ndO_shape N2.out
  unfold ndv
  go_enter Tryd.func64, Tryd.ntmps64
  go_wp2_with fail
  obtain ⟨h3, h4, hb, hz⟩ := five_new w (.cells #[.int .i64 x.kind, .int .i64 x.op, .int .i64 x.num, .string x.str, .slice a1 x.names.length q1, .slice a2 x.kids.length q2, .int .i64 x.pl] 26) (.cells #[.int .i64 y.kind, .int .i64 y.op, .int .i64 y.num, .string y.str, .slice a3 y.names.length q3, .slice a4 y.kids.length q4, .int .i64 y.pl] 26) (.cells #[.int .i64 11, .int .i64 0, .int .i64 0, .string ⟨#[]⟩, .slice none 0 0, .slice (some ⟨w.heap.size + 1 + 1 + 1, 0, none⟩) 2 2, .int .i64 0] 26) 26 26 #[.int .i64 11, .int .i64 0, .int .i64 0, .string ⟨#[]⟩, .slice none 0 0, .slice (some ⟨w.heap.size + 1 + 1 + 1, 0, none⟩) 2 2, .int .i64 0] #[.int .i64 x.kind, .int .i64 x.op, .int .i64 x.num, .string x.str, .slice a1 x.names.length q1, .slice a2 x.kids.length q2, .int .i64 x.pl, .int .i64 y.kind, .int .i64 y.op, .int .i64 y.num, .string y.str, .slice a3 y.names.length q3, .slice a4 y.kids.length q4, .int .i64 y.pl]
  exact bodyPost_ret (ret_nd rfl rfl h3) rfl ⟨⟨_, _, rfl, join_fin 11 0 N1.out N2.out (hok _ (by omega)) hz hb h4⟩, hb⟩

set_option maxHeartbeats 3200000 in
theorem join_sign (o : Nat) (h1 : 1 ≤ o) (h11 : o ≤ 11) (s : ByteArray) (hs : s.data.toList = signT (o : Int)) (B : Nat) (ok : Nat → Prop) (x y : Nd) (nv kv nv' kv' : Value) (w : World) (hO : Hid (Ok B w)) (hok : ∀ b, w.heap.size ≤ b → ok b) (N1 : Hid (NdO ok w x nv kv)) (N2 : Hid (NdO ok w y nv' kv')) :
    Calls Tryd.prog 64 #[ndv x nv kv, .string s, ndv y nv' kv'] w fun e w' => (∃ nv'' kv'', e = .returned (ndv (ndO 10 o [x, y]) nv'' kv'') ∧ NdO ok w' (ndO 10 o [x, y]) nv'' kv'') ∧ Below w.heap.size w w' := by
  obtain ⟨a1, q1, a2, q2, rfl, rfl⟩ := ndO_shape N1.out
  obtain ⟨a3, q3, a4, q4, rfl, rfl⟩ := ndO_shape N2.out
  have e1 : (s.toList == [124, 124]) = false := by
    rw [Lib.toList_data, hs]
    obtain rfl | rfl | rfl | rfl | rfl | rfl | rfl | rfl | rfl | rfl | rfl : o = 1 ∨ o = 2 ∨ o = 3 ∨ o = 4 ∨ o = 5 ∨ o = 6 ∨ o = 7 ∨ o = 8 ∨ o = 9 ∨ o = 10 ∨ o = 11 := by omega
    all_goals decide
  have e2 : (s.toList == [38, 38]) = false := by
    rw [Lib.toList_data, hs]
    obtain rfl | rfl | rfl | rfl | rfl | rfl | rfl | rfl | rfl | rfl | rfl : o = 1 ∨ o = 2 ∨ o = 3 ∨ o = 4 ∨ o = 5 ∨ o = 6 ∨ o = 7 ∨ o = 8 ∨ o = 9 ∨ o = 10 ∨ o = 11 := by omega
    all_goals decide
  have HS := hid hs
  clear hs
  unfold ndv
  have A1 := (Below.refl _ w).alloc (Nat.le_refl _) (.cells #[.int .i64 x.kind, .int .i64 x.op, .int .i64 x.num, .string x.str, .slice a1 x.names.length q1, .slice a2 x.kids.length q2, .int .i64 x.pl] 26)
  clear A1
  go_enter Tryd.func64, Tryd.ntmps64
  go_wp2_with fail
  refine (number_calls o h1 h11 s HS.out B _ (hid (ok_on hO.out ?_))).mono ?_
  · exact ((((((Below.refl B w).alloc hO.out.1 _).alloc (by simp; have := hO.out.1; omega) _).alloc (by simp; have := hO.out.1; omega) _).alloc (by simp; have := hO.out.1; omega) _).alloc (by simp; have := hO.out.1; omega) _)
  rintro e w1 ⟨rfl, rfl⟩
  go_wp2_with fail
  obtain ⟨h3, h4, hb, hz⟩ := five_new w (.cells #[.int .i64 x.kind, .int .i64 x.op, .int .i64 x.num, .string x.str, .slice a1 x.names.length q1, .slice a2 x.kids.length q2, .int .i64 x.pl] 26) (.cells #[.int .i64 y.kind, .int .i64 y.op, .int .i64 y.num, .string y.str, .slice a3 y.names.length q3, .slice a4 y.kids.length q4, .int .i64 y.pl] 26) (.cells #[.int .i64 10, .int .i64 o, .int .i64 0, .string ⟨#[]⟩, .slice none 0 0, .slice (some ⟨w.heap.size + 1 + 1 + 1, 0, none⟩) 2 2, .int .i64 0] 26) 26 26 #[.int .i64 10, .int .i64 o, .int .i64 0, .string ⟨#[]⟩, .slice none 0 0, .slice (some ⟨w.heap.size + 1 + 1 + 1, 0, none⟩) 2 2, .int .i64 0] #[.int .i64 x.kind, .int .i64 x.op, .int .i64 x.num, .string x.str, .slice a1 x.names.length q1, .slice a2 x.kids.length q2, .int .i64 x.pl, .int .i64 y.kind, .int .i64 y.op, .int .i64 y.num, .string y.str, .slice a3 y.names.length q3, .slice a4 y.kids.length q4, .int .i64 y.pl]
  exact bodyPost_ret (ret_nd rfl rfl h3) rfl ⟨⟨_, _, rfl, join_fin 10 o N1.out N2.out (hok _ (by omega)) hz hb h4⟩, hb⟩

end Go.Proofs.YtijbiedblahmhaaDoor
