/- Properties, indices and calls behind an atom. An atom, and what stands behind it. -/
import Derived.Test.YtijbiedblahmhaaDoorJoint4
namespace Go.Proofs.YtijbiedblahmhaaDoor
open Go.RowKit

/-- the same, with the blocks that may be used -/
def ReadsO (P : Nat) (L : List Tok) (ok : Nat → Prop) (w : World) (out : PR) (e : Ending) (w' : World) : Prop :=
  match out with
  | .ok t _ l => (∃ nv kv, e = .returned (ndv t nv kv) ∧ NdO ok w' t nv kv) ∧ PSt P L w' l ∧ But P w w'
  | .bad l => e = gaveUp ∧ PSt P L w' l ∧ But P w w'
def ReadsL (P : Nat) (L : List Tok) (ok : Nat → Prop) (w : World) (out : PL) (e : Ending) (w' : World) : Prop :=
  match out with
  | .ok _ ks l => (∃ kv, e = .returned kv ∧ KdO ok w' kv ks) ∧ PSt P L w' l ∧ But P w w'
  | .bad l => e = gaveUp ∧ PSt P L w' l ∧ But P w w'
/-- which blocks may be used: new ones, and not the parser's -/
structure Free (P : Nat) (ok : Nat → Prop) (w : World) : Prop where
  up : ∀ b, w.heap.size ≤ b → ok b
  no : ¬ ok P
theorem Free.on {P : Nat} {ok : Nat → Prop} {a c : World} (h : Free P ok a) (hs : a.heap.size ≤ c.heap.size) : Free P ok c := ⟨fun b hb => h.up b (by omega), h.no⟩
def CallC (f : Nat) : Prop := ∀ (P : Nat) (L l : List Tok) (ok : Nat → Prop) (x : Nd) (nv kv : Value) (w : World), 20 * l.length + 12 ≤ f → Free P ok w → Hid (PSt P L w l) → Hid (NdO ok w x nv kv) → Calls Tryd.prog 69 #[.pointer (some ⟨P, 0, none⟩), ndv x nv kv] w (ReadsL P L ok w (pArgs f [x] l))
/-- what stands behind a dot -/
def propP (f : Nat) (x : Nd) (l : List Tok) : PR :=
  wordP true l fun s l => if isH l [40] then (pArgs f [x] l.tail).bind fun _ ks l => .ok (ndS 16 s ks) false l else .ok (ndS 13 s [x]) true l

theorem kdO_shape {ok : Nat → Prop} {w : World} {kv : Value} {ks : List Nd} (h : KdO ok w kv ks) : ∃ a c, kv = .slice a ks.length c := by
  rcases h with ⟨ao, cap, e1, e2⟩ | ⟨b, off, cap, e, _, _, _⟩
  · subst e2; exact ⟨ao, cap, e1⟩
  · exact ⟨_, cap, e⟩
theorem prop_tok {P : Nat} {L : List Tok} {t : Tok} {r : List Tok} {w : World} (_h : PSt P L w (t :: r)) (hw : isW true (t :: r) = true) : t.kind = 1 ∨ t.kind = 2 := by
  unfold isW cur at hw
  simpa using hw
theorem ndO_mono {ok ok' : Nat → Prop} {a : World} {t : Nd} {nv kv : Value} (hn : NdO ok a t nv kv) (h : ∀ b, ok b → b < a.heap.size → ok' b) : NdO ok' a t nv kv :=
  ndW_keep (fun b hb => ⟨⟨h b hb.1 hb.2, hb.2⟩, rfl⟩) _ _ _ hn
theorem kdO_mono {ok ok' : Nat → Prop} {a : World} {kv : Value} {ks : List Nd} (hn : KdO ok a kv ks) (h : ∀ b, ok b → b < a.heap.size → ok' b) : KdO ok' a kv ks :=
  kidsW_keep (fun b hb => ⟨⟨h b hb.1 hb.2, hb.2⟩, rfl⟩) hn
theorem kid_newO {ok : Nat → Prop} {g : Nat} {w2 : World} {x : Nd} {nv kv : Value} (hg : ¬ ok g) (hl : ok w2.heap.size) (N : NdO ok w2 x nv kv) (a b c d e f p : Value) {T : TypeId} :
    KdO ok ((put7w w2 g a b c d e f p).alloc (.cells (ndc x nv kv) T)) (.slice (some ⟨w2.heap.size, 0, none⟩) 1 1) [x] := by
  have A := put7_aftO w2 hg a b c d e f p
  have hs : (put7w w2 g a b c d e f p).heap.size = w2.heap.size := by simp [put7w, World.setCell]
  have A2 := aftO_trans A (aftO_below (ok := ok) ((Below.refl _ (put7w w2 g a b c d e f p)).alloc (Nat.le_refl _) (.cells (ndc x nv kv) T)))
  have hb := blk_new (put7w w2 g a b c d e f p) T (ndc x nv kv)
  rw [hs] at hb
  exact kids_1 ⟨hl, by simp [hs]⟩ hb (ndO_aft A2 N)
theorem propP_no {f : Nat} {x : Nd} {l : List Tok} (h : isW true l = false) : propP f x l = .bad l := by unfold propP wordP; rw [h]; rfl
theorem propP_get {f : Nat} {x : Nd} {t : Tok} {q : List Tok} (h : isW true (t :: q) = true) (h2 : isH q [40] = false) : propP f x (t :: q) = .ok (ndS 13 t.text [x]) true q := by
  unfold propP wordP; rw [h, if_pos rfl]; show (if isH q [40] then _ else _) = _; rw [h2]; rfl
theorem propP_meth {f : Nat} {x : Nd} {t u : Tok} {q : List Tok} (h : isW true (t :: u :: q) = true) (h2 : isT u [40] = true) : propP f x (t :: u :: q) = (pArgs f [x] q).bind fun _ ks l => .ok (ndS 16 t.text ks) false l := by
  unfold propP wordP; rw [h, if_pos rfl]; show (if isH (u :: q) [40] then _ else _) = _; rw [isH_consT, h2]; rfl

set_option maxHeartbeats 3200000 in
theorem property_calls (f : Nat) (hC : CallC f) (P : Nat) (L l : List Tok) (ok : Nat → Prop) (x : Nd) (nv kv : Value) (w : World) (hf : 20 * l.length ≤ f) (F : Free P ok w) (H : Hid (PSt P L w l)) (N : Hid (NdO ok w x nv kv)) :
    Calls Tryd.prog 68 #[.pointer (some ⟨P, 0, none⟩), ndv x nv kv] w (ReadsO P L ok w (propP f x l)) := by
  obtain ⟨a1, q1, a2, q2, rfl, rfl⟩ := ndO_shape N.out
  have hP := H.out.lt
  have A1 := (Below.refl _ w).alloc (Nat.le_refl _) (.cells (ndc x (.slice a1 x.names.length q1) (.slice a2 x.kids.length q2)) 26)
  have A2 := (Below.refl _ (w.alloc (.cells (ndc x (.slice a1 x.names.length q1) (.slice a2 x.kids.length q2)) 26))).alloc (Nat.le_refl _) (.cells znd 26)
  have A := hid (below_on A1 A2)
  have S0 := hid (H.out.on A.out)
  have G0 := hid (show Blk (w.heap.size + 1) 26 znd ((w.alloc (.cells (ndc x (.slice a1 x.names.length q1) (.slice a2 x.kids.length q2)) 26)).alloc (.cells znd 26)) from by
    have := blk_new (w.alloc (.cells (ndc x (.slice a1 x.names.length q1) (.slice a2 x.kids.length q2)) 26)) 26 znd
    simpa using this)
  have X0 := hid (blk_on (blk_new w 26 (ndc x (.slice a1 x.names.length q1) (.slice a2 x.kids.length q2))) A2)
  have N0 := hid (ndO_aft (aftO_below A.out) (ndO_mono (ok' := (fun b => ok b ∧ b ≠ w.heap.size + 1)) N.out (fun b h1 h2 => ⟨h1, by omega⟩)))
  unfold znd at *
  unfold ndv
  cases hw : isW true l with
  | false =>
    rw [propP_no hw]
    have HW := hid hw
    clear H N hC hw X0 N0 G0
    unfold ndc at *
    go_enter Tryd.func68, Tryd.ntmps68
    go_wp2_with fail
    refine (prop_no P L l _ S0 HW.out).mono ?_
    rintro e w1 ⟨rfl, b1⟩
    have S1 := hid (S0.out.on b1)
    have B1 := hid (below_in A.out (Nat.le_refl _) b1)
    clear b1 S0 A HW
    unfold gaveUp
    go_wp2_with fail
    exact ⟨rfl, rfl, S1.out, But.of B1.out⟩
  | true =>
    obtain ⟨t, q, rfl⟩ : ∃ t q, l = t :: q := by
      cases l with
      | nil => cases hw
      | cons t q => exact ⟨t, q, rfl⟩
    have HK := hid (prop_tok H.out hw)
    cases hh : isH q [40] with
    | false =>
      rw [propP_get hw hh]
      have HH := hid hh
      clear H N hC hh hw
      unfold ndc at *
      go_enter Tryd.func68, Tryd.ntmps68
      go_wp2_with fail
      refine (prop_yes P L t q _ S0 HK.out).mono ?_
      rintro e w1 ⟨rfl, s1, b1⟩
      have S1 := hid s1
      have B1 := hid ((But.of (P := P) A.out).trans b1)
      have G1 := hid (blk_but G0.out b1 (by omega))
      have X1 := hid (blk_but X0.out b1 (by omega))
      have N1 := hid (ndO_aft (aftO_but b1 (fun h => F.no h.1)) N0.out)
      have hz1 := b1.size
      simp only [World.size_alloc] at hz1
      clear s1 b1 S0 A G0 X0 N0
      go_wp2_with fail
      refine (take_no P L q ⟨#[40]⟩ _ S1 HH.out).mono ?_
      rintro e w2 ⟨rfl, b2⟩
      have S2 := hid (S1.out.on b2)
      have B2 := hid (B1.out.trans (But.of b2))
      have G2 := hid (blk_on G1.out b2)
      have X2 := hid (blk_on X1.out b2)
      have N2 := hid (ndO_aft (aftO_below b2) N1.out)
      have hz2 := b2.size
      have hg2 := blk_lt G2.out
      obtain ⟨c0, c1, c2, c3, c4, c5, c6⟩ := cells7 X2.out
      obtain ⟨r0, r1, r2, r3, r4, r5, r6⟩ := cells7 G2.out
      obtain ⟨u0, u1, u2, u3, u4, u5, u6⟩ := frees7 G2.out
      clear b2 S1 B1 G1 X1 N1 HH
      go_wp2_with fail
      have Z := fin_new (fin_put hP (by omega) S2.out B2.out G2.out (.int .i64 13) (.int .i64 0) (.int .i64 0) (.string t.text) (.slice none 0 0) (.slice (some ⟨w2.heap.size, 0, none⟩) 1 1) (.int .i64 0)) (.cells (ndc x (.slice a1 x.names.length q1) (.slice a2 x.kids.length q2)) 26)
      have K := kid_newO (g := w.heap.size + 1) (T := 26) (by simp) ⟨F.up _ (by omega), by omega⟩ N2.out (.int .i64 13) (.int .i64 0) (.int .i64 0) (.string t.text) (.slice none 0 0) (.slice (some ⟨w2.heap.size, 0, none⟩) 1 1) (.int .i64 0)
      exact bodyPost_ret (ret_nd rfl rfl Z.1) rfl ⟨⟨_, _, rfl, ndO_mk2 ⟨.inl ⟨_, _, rfl, rfl⟩, kdO_mono K (fun b h1 _ => h1.1)⟩⟩, Z.2.1, Z.2.2⟩
    | true =>
      obtain ⟨u, q2', rfl, hu⟩ := isH_some hh
      rw [propP_meth hw hu]
      have HU := hid hu
      have HC := hid (fun w' F' S N' => hC P L q2' (fun b => ok b ∧ b ≠ w.heap.size + 1) x (.slice a1 x.names.length q1) (.slice a2 x.kids.length q2) w' (by simp at hf; omega) F' S N')
      clear H N hC hh hu hw
      unfold ndv at HC
      unfold ndc at *
      cases hq : pArgs f [x] q2' with
      | bad l' =>
        rw [hq] at HC
        rw [PL.bind_bad]
        go_enter Tryd.func68, Tryd.ntmps68
        go_wp2_with fail
        refine (prop_yes P L t (u :: q2') _ S0 HK.out).mono ?_
        rintro e w1 ⟨rfl, s1, b1⟩
        have S1 := hid s1
        have B1 := hid ((But.of (P := P) A.out).trans b1)
        have G1 := hid (blk_but G0.out b1 (by omega))
        have X1 := hid (blk_but X0.out b1 (by omega))
        have N1 := hid (ndO_aft (aftO_but b1 (fun h => F.no h.1)) N0.out)
        have hz1 := b1.size
        simp only [World.size_alloc] at hz1
        clear s1 b1 S0 A G0 X0 N0
        go_wp2_with fail
        refine (take_yes P L u q2' ⟨#[40]⟩ _ S1 HU.out).mono ?_
        rintro e w2 ⟨rfl, s2, b2⟩
        have S2 := hid s2
        have B2 := hid (B1.out.trans b2)
        have G2 := hid (blk_but G1.out b2 (by omega))
        have X2 := hid (blk_but X1.out b2 (by omega))
        have N2 := hid (ndO_aft (aftO_but b2 (fun h => F.no h.1)) N1.out)
        have hz2 := b2.size
        obtain ⟨c0, c1, c2, c3, c4, c5, c6⟩ := cells7 X2.out
        clear s2 b2 S1 B1 G1 X1 N1 HU
        go_wp2_with fail
        refine (HC.out _ ⟨fun b hb => ⟨F.up b (by omega), by omega⟩, fun h => F.no h.1⟩ S2 N2).mono ?_
        rintro e w3 ⟨rfl, s3, b3⟩
        have S3 := hid s3
        have B3 := hid (B2.out.trans b3)
        clear s3 b3 S2 B2 G2 X2 N2 HC
        unfold gaveUp
        go_wp2_with fail
        exact ⟨rfl, rfl, S3.out, B3.out⟩
      | ok ns ks l' =>
        rw [hq] at HC
        rw [PL.bind_ok]
        go_enter Tryd.func68, Tryd.ntmps68
        go_wp2_with fail
        refine (prop_yes P L t (u :: q2') _ S0 HK.out).mono ?_
        rintro e w1 ⟨rfl, s1, b1⟩
        have S1 := hid s1
        have B1 := hid ((But.of (P := P) A.out).trans b1)
        have G1 := hid (blk_but G0.out b1 (by omega))
        have X1 := hid (blk_but X0.out b1 (by omega))
        have N1 := hid (ndO_aft (aftO_but b1 (fun h => F.no h.1)) N0.out)
        have hz1 := b1.size
        simp only [World.size_alloc] at hz1
        clear s1 b1 S0 A G0 X0 N0
        go_wp2_with fail
        refine (take_yes P L u q2' ⟨#[40]⟩ _ S1 HU.out).mono ?_
        rintro e w2 ⟨rfl, s2, b2⟩
        have S2 := hid s2
        have B2 := hid (B1.out.trans b2)
        have G2 := hid (blk_but G1.out b2 (by omega))
        have X2 := hid (blk_but X1.out b2 (by omega))
        have N2 := hid (ndO_aft (aftO_but b2 (fun h => F.no h.1)) N1.out)
        have hz2 := b2.size
        obtain ⟨c0, c1, c2, c3, c4, c5, c6⟩ := cells7 X2.out
        clear s2 b2 S1 B1 G1 X1 N1 HU
        go_wp2_with fail
        refine (HC.out _ ⟨fun b hb => ⟨F.up b (by omega), by omega⟩, fun h => F.no h.1⟩ S2 N2).mono ?_
        rintro e w3 ⟨⟨kv3, rfl, k3⟩, s3, b3⟩
        obtain ⟨f1, g1, rfl⟩ := kdO_shape k3
        have S3 := hid s3
        have B3 := hid (B2.out.trans b3)
        have G3 := hid (blk_but G2.out b3 (by omega))
        have K3 := hid k3
        have hg3 := blk_lt G3.out
        obtain ⟨r0, r1, r2, r3, r4, r5, r6⟩ := cells7 G3.out
        obtain ⟨u0, u1, u2, u3, u4, u5, u6⟩ := frees7 G3.out
        clear s3 b3 k3 S2 B2 G2 X2 N2 HC
        go_wp2_with fail
        have Z := fin_put hP (by omega) S3.out B3.out G3.out (.int .i64 16) (.int .i64 0) (.int .i64 0) (.string t.text) (.slice none 0 0) (.slice f1 ks.length g1) (.int .i64 0)
        exact bodyPost_ret (ret_nd rfl rfl Z.1) rfl ⟨⟨_, _, rfl, ndO_mk2 ⟨.inl ⟨_, _, rfl, rfl⟩, kdO_mono (kdO_aft (put7_aftO _ (by simp) _ _ _ _ _ _ _) K3.out) (fun b h1 _ => h1.1)⟩⟩, Z.2.1, Z.2.2⟩

end Go.Proofs.YtijbiedblahmhaaDoor

namespace Go.Proofs.YtijbiedblahmhaaDoor
open Go.RowKit

theorem isT_two {t : Tok} {x y : List UInt8} (h : isT t x = true) (hn : (x == y) = false) : isT t y = false := by
  unfold isT at h ⊢
  rw [Bool.and_eq_true, beq_iff_eq] at h
  rw [h.2, hn, Bool.and_false]
def postW : List ByteArray := [⟨#[46]⟩, ⟨#[91]⟩, ⟨#[40]⟩]
theorem post_dot {t : Tok} {q : List Tok} (h : isT t [46] = true) : firstW postW (t :: q) = some ⟨#[46]⟩ := by
  unfold firstW postW; simp [isH_consT, h]
theorem post_ix {t : Tok} {q : List Tok} (h : isT t [91] = true) : firstW postW (t :: q) = some ⟨#[91]⟩ := by
  unfold firstW postW; simp [isH_consT, h, isT_two h (y := [46]) (by decide)]
theorem post_call {t : Tok} {q : List Tok} (h : isT t [40] = true) : firstW postW (t :: q) = some ⟨#[40]⟩ := by
  unfold firstW postW; simp [isH_consT, h, isT_two h (y := [46]) (by decide), isT_two h (y := [91]) (by decide)]
theorem post_none {l : List Tok} (h1 : isH l [46] = false) (h2 : isH l [91] = false) (h3 : isH l [40] = false) : firstW postW l = none := by
  unfold firstW postW; simp [h1, h2, h3]
theorem words_new (w : World) : StrsIn (w.heap.size + 1) (.slice (some ⟨w.heap.size, 0, none⟩) 3 3) postW (w.alloc (.cells #[.string ⟨#[46]⟩, .string ⟨#[91]⟩, .string ⟨#[40]⟩] 9)) := by
  have hb := blk_new w 9 #[.string ⟨#[46]⟩, .string ⟨#[91]⟩, .string ⟨#[40]⟩]
  refine .inr ⟨w.heap.size, 0, 3, rfl, by omega, fun i hi => ?_, Nat.le_refl _⟩
  rw [blk_cell hb]
  have hi' : i < 3 := hi
  rcases (show i = 0 ∨ i = 1 ∨ i = 2 by omega) with rfl | rfl | rfl <;> rfl
theorem tail_dot {g : Nat} {e : Nd} {c : Bool} {t : Tok} {q : List Tok} (h : isT t [46] = true) : pTail (g + 1) e c (t :: q) = (propP g e q).bind fun n b l => pTail g n b l := by
  rw [pTail, isH_consT, h, if_pos rfl]
  show wordP true q _ = _
  unfold propP wordP
  cases isW true q with
  | false => rfl
  | true =>
    rw [if_pos rfl, if_pos rfl]
    simp only []
    cases isH q.tail [40] with
    | false => rfl
    | true =>
      rw [if_pos rfl, if_pos rfl]
      cases pArgs g [e] q.tail.tail <;> rfl
theorem tail_ix {g : Nat} {e : Nd} {c : Bool} {t : Tok} {q : List Tok} (h : isT t [91] = true) : pTail (g + 1) e c (t :: q) = (pRank g 1 q).bind fun i _ l => must [93] l fun l => pTail g (ndK 14 [e, i]) true l := by
  rw [pTail, isH_consT, isH_consT, h, isT_two h (by decide)]; rfl
theorem tail_call {g : Nat} {e : Nd} {c : Bool} {t : Tok} {q : List Tok} (h : isT t [40] = true) : pTail (g + 1) e c (t :: q) = (pArgs g [e] q).bind fun _ ks l => pTail g (ndK 15 ks) false l := by
  rw [pTail, isH_consT, isH_consT, isH_consT, h, isT_two h (by decide), isT_two h (by decide)]; rfl
theorem tail_none {g : Nat} {e : Nd} {c : Bool} {l : List Tok} (h1 : isH l [46] = false) (h2 : isH l [91] = false) (h3 : isH l [40] = false) : pTail (g + 1) e c l = .ok e c l := by
  rw [pTail, h1, h2, h3]; rfl

/-- what a list of arguments tells -/
theorem args_ok {g : Nat} {e : Nd} {t : Tok} {q : List Tok} (hg : GT (t :: q)) (he : Rt 1 e) {ns : List ByteArray} {ks : List Nd} {l' : List Tok} (h : pArgs g [e] q = .ok ns ks l') :
    l'.length + 1 ≤ q.length ∧ Rt 1 (ndK 15 ks) ∧ ∀ s, propB s = true → Rt 1 (ndS 16 s ks) := by
  have hl0 : GT (List.replicate (countN e) t ++ q) := by
    intro u hu
    rcases List.mem_append.1 hu with h | h
    · rw [(List.mem_replicate.1 h).2]; exact hg t (by simp)
    · exact hg u (by simp [h])
  have M := (may g).args [e] (List.replicate (countN e) t ++ q) q hl0 (by simp) ⟨by simpa using he, by simp, List.replicate (countN e) t, rfl, by rw [countL_1]; simp⟩
  rw [h] at M
  obtain ⟨⟨m1, m7, _⟩, mh, pre, u, ep, mc⟩ := M
  have hh := mh (by simp)
  cases ks with
  | nil => cases hh
  | cons x xs =>
    injection hh with hh
    subst hh
    have hlen := congrArg List.length ep
    simp at hlen
    have hcx : countL (x :: xs) = countN x + countL xs := by rw [countL]
    refine ⟨by omega, .call x xs 0 (by simpa using m7) he (fun y hy => m1 y (by simp [hy])), fun s hs => .meth s x xs 0 hs (by simpa using m7) he (fun y hy => m1 y (by simp [hy]))⟩
theorem prop_ok {g : Nat} {e : Nd} {t : Tok} {q : List Tok} (hg : GT (t :: q)) (he : Rt 1 e) {n : Nd} {c : Bool} {l' : List Tok} (h : propP g e q = .ok n c l') : l'.length + 1 ≤ q.length ∧ Rt 1 n := by
  unfold propP wordP at h
  cases hw : isW true q with
  | false => rw [hw] at h; cases h
  | true =>
    rw [hw, if_pos rfl] at h
    obtain ⟨v, z, rfl, hv⟩ := isW_some hw
    have hp := word_prop (hg v (by simp)) hv
    change (if isH z [40] then (pArgs g [e] z.tail).bind fun _ ks l => PR.ok (ndS 16 v.text ks) false l else PR.ok (ndS 13 v.text [e]) true z) = _ at h
    cases h4 : isH z [40] with
    | false =>
      rw [h4] at h
      injection h with h1 h2 h3
      subst h1 h3
      exact ⟨by simp, .get v.text e 0 hp he⟩
    | true =>
      obtain ⟨u, z2, rfl, _⟩ := isH_some h4
      rw [h4, if_pos rfl] at h
      change (pArgs g [e] z2).bind _ = _ at h
      cases ha : pArgs g [e] z2 with
      | bad l2 => rw [ha] at h; cases h
      | ok ns ks l2 =>
        rw [ha] at h
        injection h with h1 h2 h3
        subst h1 h3
        obtain ⟨m1, _, m3⟩ := args_ok (t := u) (fun x hx => hg x (by rcases List.mem_cons.1 hx with rfl | hx <;> simp [*])) he ha
        exact ⟨by simp; omega, m3 v.text hp⟩

set_option linter.unusedSimpArgs false in
set_option maxRecDepth 100000 in
set_option maxHeartbeats 12800000 in
theorem post_calls (f : Nat) (hA : AtomC f) (hR : ∀ g, g ≤ f → RankC g) (hC : ∀ g, g ≤ f → CallC g) (P : Nat) (L l : List Tok) (w : World) (hf : 20 * l.length + 2 ≤ f) (H : Hid (PSt P L w l)) :
    Calls Tryd.prog 57 #[.pointer (some ⟨P, 0, none⟩)] w (Reads P L w ((pAtom f l).bind fun e b l => pTail f e b l)) := by
  have A := hid ((Below.refl _ w).alloc (Nat.le_refl _) (.cells znd 26))
  have S0 := hid (H.out.on A.out)
  have G0 := hid (blk_new w 26 znd)
  have hP := H.out.lt
  have HC := hid (fun w' S => hA P L l w' (by omega) S)
  have HM := hid ((may f).atom l (pst_gt H.out))
  unfold znd at *
  clear H hA
  cases hq : pAtom f l with
  | bad l' =>
    rw [hq] at HC
    rw [PR.bind_bad]
    clear HM hR hC
    go_enter Tryd.func57, Tryd.ntmps57
    go_wp2_with fail
    refine (HC.out _ S0).mono ?_
    rintro e w2 ⟨rfl, s2, b2⟩
    have S2 := hid s2
    have B2 := hid ((But.of A.out).trans b2)
    clear s2 b2 S0 A G0 HC
    unfold gaveUp
    go_wp2_with fail
    exact ⟨rfl, rfl, S2.out, B2.out⟩
  | ok x b l' =>
    rw [hq] at HC HM
    rw [PR.bind_ok]
    have hm : l'.length + 1 ≤ l.length := by
      obtain ⟨_, pre, u, e, _⟩ := HM.out
      rw [e]; simp
    have hx1 : Rt 1 x := HM.out.1
    have HX1 := hid hx1
    clear HM hx1
    go_enter Tryd.func57, Tryd.ntmps57
    go_wp2_with fail
    refine (HC.out _ S0).mono ?_
    rintro e1 w1 ⟨⟨nv, kv, rfl, n1⟩, s1, b1⟩
    obtain ⟨a1, q1, a2, q2, rfl, rfl⟩ := ndR_shape n1
    have hsz1 := b1.size
    simp only [World.size_alloc] at hsz1
    have AA := (Below.refl _ w1).alloc (Nat.le_refl _) (.cells (ndc x (.slice a1 x.names.length q1) (.slice a2 x.kids.length q2)) 26)
    have S1 := hid (s1.on AA)
    have B1 := hid (((But.of A.out).trans b1).trans (But.of AA))
    have Z1 := hid (blk_on (blk_but G0.out b1 (by omega)) AA)
    have G1 := hid (blk_new w1 26 (ndc x (.slice a1 x.names.length q1) (.slice a2 x.kids.length q2)))
    have N1 := hid (ndO_aft (aftO_below AA) (ndO_of (ok := (fun b => w.heap.size + 1 ≤ b ∧ b ≠ w1.heap.size)) n1 (fun b h1 h2 => ⟨by simpa using h1, by omega⟩)))
    clear b1 s1 n1 AA S0 A G0 HC hq
    unfold ndv
    unfold ndc at *
    go_wp2_with fail
    go_loopw [] (fun wr => ∃ (g : Nat) (e : Nd) (c : Bool) (m : List Tok) (nv kv : Value), Hid (pTail f x b l' = pTail g e c m) ∧ 20 * m.length + 5 ≤ g ∧ g ≤ f ∧ Hid (But P w wr) ∧ Hid (Blk w.heap.size 26 znd wr) ∧ Hid (Blk w1.heap.size 26 (ndc e nv kv) wr) ∧ Hid (NdO (fun b => w.heap.size + 1 ≤ b ∧ b ≠ w1.heap.size) wr e nv kv) ∧ Hid (PSt P L wr m) ∧ Hid (Rt 1 e)) (fun wr => leftAt P L wr)
    case atStart => exact ⟨f, x, b, l', _, _, (show Hid (_ = _) from rfl), by omega, Nat.le_refl _, B1.out, Z1.out, G1.out, N1.out, S1.out, HX1.out⟩
    case round =>
      obtain ⟨g, e, c, m, nv, kv, hpe, hgm, hgf, hB, hZ, hG, hN, hS, hRt⟩ := hrel
      clear B1 Z1 G1 N1 S1 HX1
      obtain ⟨g, rfl⟩ : ∃ g', g = g' + 1 := ⟨g - 1, by omega⟩
      obtain ⟨b1, p1, b2, p2, rfl, rfl⟩ := ndO_shape hN.out
      have hg0 := blk_lt hZ.out
      have hg1 := blk_lt hG.out
      unfold znd ndc at *
      cases h46 : isH m [46] with
      | true =>
        obtain ⟨t, q, rfl, ht⟩ := isH_some h46
        have HT := hid ht
        clear ht h46
        have HE := hid (hpe.out.trans (tail_dot HT.out))
        have HCC := hid (fun w' F' S N' => property_calls g (hC g (by omega)) P L q (fun b => w.heap.size + 1 ≤ b ∧ b ≠ w1.heap.size) e (.slice b1 e.names.length p1) (.slice b2 e.kids.length p2) w' (by simp at hgm; omega) F' S N')
        have HGT := hid (pst_gt hS.out)
        clear hpe
        unfold ndv at HCC
        cases hq2 : propP g e q with
        | bad m2 =>
          rw [hq2] at HE HCC
          rw [PR.bind_bad] at HE
          have AW := (Below.refl wr.heap.size wr).alloc (Nat.le_refl _) (.cells #[.string ⟨#[46]⟩, .string ⟨#[91]⟩, .string ⟨#[40]⟩] 9)
          have S1 := hid (hS.out.on AW)
          have V1 := hid (words_new wr)
          have B1 := hid (hB.out.trans (But.of AW))
          have Z1 := hid (blk_on hZ.out AW)
          have G1 := hid (blk_on hG.out AW)
          have N1 := hid (ndO_aft (aftO_below AW) hN.out)
          have HLW := hid (left_is hS.out)
          have HFW := hid (post_dot (q := q) HT.out)
          clear AW hS hB hZ hG hN HT
          go_wp2_with fail
          refine (takeone_yes P L t q postW ⟨#[46]⟩ (wr.heap.size + 1) _ _ (by simp) S1 V1 (by decide) HFW.out).mono ?_
          rintro e2 w2 ⟨rfl, s2, b2⟩
          have S2 := hid s2
          have B2 := hid (B1.out.trans b2)
          have Z2 := hid (blk_but Z1.out b2 (by omega))
          have G2 := hid (blk_but G1.out b2 (by omega))
          have N2 := hid (ndO_aft (aftO_but b2 (by omega)) N1.out)
          have hz2 := b2.size
          simp only [World.size_alloc] at hz2
          have hg2 := blk_lt G2.out
          obtain ⟨r0, r1, r2, r3, r4, r5, r6⟩ := cells7 G2.out
          clear s2 b2 S1 V1 B1 Z1 G1 N1 HFW
          go_wp2_with fail
          refine (HCC.out _ ⟨fun b hb => by omega, by omega⟩ S2 N2).mono ?_
          rintro e3 w3 ⟨rfl, s3, b3⟩
          have S3 := hid s3
          have B3 := hid ((B2.out).trans b3)
          clear s3 b3
          unfold gaveUp
          go_wp2_with fail
          refine ⟨rfl, ?_⟩
          rw [HE.out]
          exact ⟨rfl, S3.out, B3.out⟩
        | ok x2 c2 m2 =>
          obtain ⟨hm2, hrx⟩ := prop_ok HGT.out hRt.out hq2
          have HRX := hid hrx
          clear hrx
          rw [hq2] at HE HCC
          rw [PR.bind_ok] at HE
          have AW := (Below.refl wr.heap.size wr).alloc (Nat.le_refl _) (.cells #[.string ⟨#[46]⟩, .string ⟨#[91]⟩, .string ⟨#[40]⟩] 9)
          have S1 := hid (hS.out.on AW)
          have V1 := hid (words_new wr)
          have B1 := hid (hB.out.trans (But.of AW))
          have Z1 := hid (blk_on hZ.out AW)
          have G1 := hid (blk_on hG.out AW)
          have N1 := hid (ndO_aft (aftO_below AW) hN.out)
          have HLW := hid (left_is hS.out)
          have HFW := hid (post_dot (q := q) HT.out)
          clear AW hS hB hZ hG hN HT
          go_wp2_with fail
          refine (takeone_yes P L t q postW ⟨#[46]⟩ (wr.heap.size + 1) _ _ (by simp) S1 V1 (by decide) HFW.out).mono ?_
          rintro e2 w2 ⟨rfl, s2, b2⟩
          have S2 := hid s2
          have B2 := hid (B1.out.trans b2)
          have Z2 := hid (blk_but Z1.out b2 (by omega))
          have G2 := hid (blk_but G1.out b2 (by omega))
          have N2 := hid (ndO_aft (aftO_but b2 (by omega)) N1.out)
          have hz2 := b2.size
          simp only [World.size_alloc] at hz2
          have hg2 := blk_lt G2.out
          obtain ⟨r0, r1, r2, r3, r4, r5, r6⟩ := cells7 G2.out
          clear s2 b2 S1 V1 B1 Z1 G1 N1 HFW
          go_wp2_with fail
          refine (HCC.out _ ⟨fun b hb => by omega, by omega⟩ S2 N2).mono ?_
          rintro e3 w3 ⟨⟨nv3, kv3, rfl, n3⟩, s3, b3⟩
          obtain ⟨c1, d1, c3, d3, rfl, rfl⟩ := ndO_shape n3
          have S3 := hid s3
          have B3 := hid (B2.out.trans b3)
          have Z3 := hid (blk_but Z2.out b3 (by omega))
          have G3 := hid (blk_but G2.out b3 (by omega))
          have N3 := hid n3
          have hg3 := blk_lt G3.out
          clear s3 b3 n3 S2 B2 Z2 G2 N2 r0 r1 r2 r3 r4 r5 r6 HCC HGT
          obtain ⟨s0, s1, s2, s3, s4, s5, s6⟩ := cells7 G3.out
          obtain ⟨u0, u1, u2, u3, u4, u5, u6⟩ := frees7 G3.out
          unfold ndv
          go_wp2_with fail
          have F := fin_put hP (by omega) S3.out B3.out G3.out (.int .i64 x2.kind) (.int .i64 x2.op) (.int .i64 x2.num) (.string x2.str) (.slice c1 x2.names.length d1) (.slice c3 x2.kids.length d3) (.int .i64 x2.pl)
          have Z5 := hid (blk_put7 (g := w1.heap.size) Z3.out (by omega) (.int .i64 x2.kind) (.int .i64 x2.op) (.int .i64 x2.num) (.string x2.str) (.slice c1 x2.names.length d1) (.slice c3 x2.kids.length d3) (.int .i64 x2.pl))
          have N5 := hid (ndO_aft (put7_aftO (g := w1.heap.size) w3 (by simp) (.int .i64 x2.kind) (.int .i64 x2.op) (.int .i64 x2.num) (.string x2.str) (.slice c1 x2.names.length d1) (.slice c3 x2.kids.length d3) (.int .i64 x2.pl)) N3.out)
          have G5 := hid F.1
          have S5 := hid F.2.1
          have B5 := hid F.2.2
          clear F S3 B3 Z3 G3 N3 s0 s1 s2 s3 s4 s5 s6 u0 u1 u2 u3 u4 u5 u6
          unfold put7w at Z5 N5 G5 S5 B5
          obtain ⟨w5, hw5⟩ : ∃ w5, (((((((w3.setCell ⟨w1.heap.size, 0, none⟩ (.int .i64 x2.kind)).setCell ⟨w1.heap.size, 1, none⟩ (.int .i64 x2.op)).setCell ⟨w1.heap.size, 2, none⟩ (.int .i64 x2.num)).setCell ⟨w1.heap.size, 3, none⟩ (.string x2.str)).setCell ⟨w1.heap.size, 4, none⟩ (.slice c1 x2.names.length d1)).setCell ⟨w1.heap.size, 5, none⟩ (.slice c3 x2.kids.length d3)).setCell ⟨w1.heap.size, 6, none⟩ (.int .i64 x2.pl)) = w5 := ⟨_, rfl⟩
          rw [hw5] at Z5 N5 G5 S5 B5 ⊢
          clear hw5
          have HLE := hid (show leftAt P L w5 < leftAt P L wr by rw [left_is S5.out, HLW.out]; simp; omega)
          go_roundw
          case rel => exact ⟨g, x2, c2, m2, _, _, HE.out, by simp at hgm; omega, by omega, B5.out, Z5.out, G5.out, N5.out, S5.out, HRX.out⟩
          case measure => exact HLE.out
      | false =>
      cases h91 : isH m [91] with
      | true =>
        obtain ⟨t, q, rfl, ht⟩ := isH_some h91
        have HT := hid ht
        clear ht h91 h46
        have HE := hid (hpe.out.trans (tail_ix HT.out))
        have HCC := hid (show ∀ w', Hid (PSt P L w' q) → Calls Tryd.prog 43 #[.pointer (some ⟨P, 0, none⟩)] w' (Reads P L w' (pRank g 1 q)) from fun w' S => hR g (by omega) 1 P L q w' (by omega) (by omega) (by simp at hgm; omega) S)
        have HMM := hid ((may g).rank 1 q (gt_suf (pst_gt hS.out) (List.suffix_cons t q)))
        clear hpe
        cases hq2 : pRank g 1 q with
        | bad m2 =>
          rw [hq2] at HE HCC
          rw [PR.bind_bad] at HE
          have AW := (Below.refl wr.heap.size wr).alloc (Nat.le_refl _) (.cells #[.string ⟨#[46]⟩, .string ⟨#[91]⟩, .string ⟨#[40]⟩] 9)
          have S1 := hid (hS.out.on AW)
          have V1 := hid (words_new wr)
          have B1 := hid (hB.out.trans (But.of AW))
          have Z1 := hid (blk_on hZ.out AW)
          have G1 := hid (blk_on hG.out AW)
          have N1 := hid (ndO_aft (aftO_below AW) hN.out)
          have HLW := hid (left_is hS.out)
          have HFW := hid (post_ix (q := q) HT.out)
          clear AW hS hB hZ hG hN HT
          go_wp2_with fail
          refine (takeone_yes P L t q postW ⟨#[91]⟩ (wr.heap.size + 1) _ _ (by simp) S1 V1 (by decide) HFW.out).mono ?_
          rintro e2 w2 ⟨rfl, s2, b2⟩
          have S2 := hid s2
          have B2 := hid (B1.out.trans b2)
          have Z2 := hid (blk_but Z1.out b2 (by omega))
          have G2 := hid (blk_but G1.out b2 (by omega))
          have N2 := hid (ndO_aft (aftO_but b2 (by omega)) N1.out)
          have hz2 := b2.size
          simp only [World.size_alloc] at hz2
          have hg2 := blk_lt G2.out
          obtain ⟨r0, r1, r2, r3, r4, r5, r6⟩ := cells7 G2.out
          clear s2 b2 S1 V1 B1 Z1 G1 N1 HFW
          go_wp2_with fail
          refine wp_region_held_drew (S := fun _ => True) (by kernel_rfl) trivial (fun hHeld => ?_)
          refine wpAnyH_take (i := 1) (v := ?vk1) rfl (by kernel_rfl) (by kernel_rfl) (by kernel_rfl) (fun _ _ _ h => h) (Or.inl ⟨by rfl, ?hyk1⟩) (by assumption) ?_
          case hyk1 => (intro w hSw; go_simp <;> (try with_reducible rfl))
          simp only [Act.put, List.setIfInBounds_toArray, List.set_cons_zero, List.set_cons_succ, List.getElem_toArray, List.getElem_cons_succ, List.getElem_cons_zero]
          refine wpAnyH_ready (rs := [0, 2]) (by kernel_rfl) (by simp) ?_
          refine AllReadyH.cons rfl (fun K hK => ?_) (AllReadyH.cons rfl (fun K hK => ?_) AllReadyH.nil)
          · go_simp
            refine hK.out _ _ trivial (fun hHeld => ?_)
            clear hK K
            refine wpAnyH_ready (rs := [2]) (by kernel_rfl) (by simp) ?_
            refine AllReadyH.cons rfl (fun K hK => ?_) AllReadyH.nil
            clear hK
            go_simp
            refine (HCC.out _ (hid (S2.out.on (Below.refl _ _).drew))).mono ?_
            rintro e3 w3 ⟨rfl, s3, b3⟩
            have S3 := hid s3
            have B3 := hid (((B2.out.trans (But.of (Below.refl _ _).drew))).trans b3)
            clear s3 b3
            unfold gaveUp
            go_wp2_with fail
            refine ⟨rfl, ?_⟩
            rw [HE.out]
            exact ⟨rfl, S3.out, B3.out⟩
          · clear hK
            go_simp
            refine (HCC.out _ (hid (S2.out.on (Below.refl _ _).drew))).mono ?_
            rintro e3 w3 ⟨rfl, s3, b3⟩
            have S3 := hid s3
            have B3 := hid (((B2.out.trans (But.of (Below.refl _ _).drew))).trans b3)
            clear s3 b3
            unfold gaveUp
            go_wp2_with fail
            refine ⟨rfl, ?_⟩
            rw [HE.out]
            exact ⟨rfl, S3.out, B3.out⟩
        | ok x2 c2 m2 =>
          rw [hq2] at HE HCC HMM
          rw [PR.bind_ok] at HE
          have hm2 : m2.length + 1 ≤ q.length := by
            obtain ⟨_, pre, u, e, _⟩ := HMM.out
            rw [e]; simp
          have HRX := hid (show Rt 1 (ndK 14 [e, x2]) from .index e x2 0 hRt.out HMM.out.1)
          clear HMM
          cases hb3 : isH m2 [93] with
          | true =>
            obtain ⟨t3, q3, rfl, ht3⟩ := isH_some hb3
            have HB3 := hid ht3
            have HE := hid (HE.out.trans (show must [93] (t3 :: q3) (fun l => pTail g (ndK 14 [e, x2]) true l) = pTail g (ndK 14 [e, x2]) true q3 by unfold must; rw [isH_consT, ht3]; rfl))
            clear ht3 hb3
            have AW := (Below.refl wr.heap.size wr).alloc (Nat.le_refl _) (.cells #[.string ⟨#[46]⟩, .string ⟨#[91]⟩, .string ⟨#[40]⟩] 9)
            have S1 := hid (hS.out.on AW)
            have V1 := hid (words_new wr)
            have B1 := hid (hB.out.trans (But.of AW))
            have Z1 := hid (blk_on hZ.out AW)
            have G1 := hid (blk_on hG.out AW)
            have N1 := hid (ndO_aft (aftO_below AW) hN.out)
            have HLW := hid (left_is hS.out)
            have HFW := hid (post_ix (q := q) HT.out)
            clear AW hS hB hZ hG hN HT
            go_wp2_with fail
            refine (takeone_yes P L t q postW ⟨#[91]⟩ (wr.heap.size + 1) _ _ (by simp) S1 V1 (by decide) HFW.out).mono ?_
            rintro e2 w2 ⟨rfl, s2, b2⟩
            have S2 := hid s2
            have B2 := hid (B1.out.trans b2)
            have Z2 := hid (blk_but Z1.out b2 (by omega))
            have G2 := hid (blk_but G1.out b2 (by omega))
            have N2 := hid (ndO_aft (aftO_but b2 (by omega)) N1.out)
            have hz2 := b2.size
            simp only [World.size_alloc] at hz2
            have hg2 := blk_lt G2.out
            obtain ⟨r0, r1, r2, r3, r4, r5, r6⟩ := cells7 G2.out
            clear s2 b2 S1 V1 B1 Z1 G1 N1 HFW
            go_wp2_with fail
            refine wp_region_held_drew (S := fun _ => True) (by kernel_rfl) trivial (fun hHeld => ?_)
            refine wpAnyH_take (i := 1) (v := ?vk2) rfl (by kernel_rfl) (by kernel_rfl) (by kernel_rfl) (fun _ _ _ h => h) (Or.inl ⟨by rfl, ?hyk2⟩) (by assumption) ?_
            case hyk2 => (intro w hSw; go_simp <;> (try with_reducible rfl))
            simp only [Act.put, List.setIfInBounds_toArray, List.set_cons_zero, List.set_cons_succ, List.getElem_toArray, List.getElem_cons_succ, List.getElem_cons_zero]
            refine wpAnyH_ready (rs := [0, 2]) (by kernel_rfl) (by simp) ?_
            refine AllReadyH.cons rfl (fun K hK => ?_) (AllReadyH.cons rfl (fun K hK => ?_) AllReadyH.nil)
            · go_simp
              refine hK.out _ _ trivial (fun hHeld => ?_)
              clear hK K
              refine wpAnyH_ready (rs := [2]) (by kernel_rfl) (by simp) ?_
              refine AllReadyH.cons rfl (fun K hK => ?_) AllReadyH.nil
              have HK := hid hK
              clear hK
              go_simp
              refine (HCC.out _ (hid (S2.out.on (Below.refl _ _).drew))).mono ?_
              rintro e3 w3 ⟨⟨nv3, kv3, rfl, n3⟩, s3, b3⟩
              obtain ⟨f1, g1, f2, g2, rfl, rfl⟩ := ndR_shape n3
              have DR := (Below.refl w2.heap.size w2).drew
              have S3 := hid s3
              have B3 := hid ((B2.out.trans (But.of DR)).trans b3)
              have Z3 := hid (blk_but (blk_on Z2.out DR) b3 (by omega))
              have G3 := hid (blk_but (blk_on G2.out DR) b3 (by omega))
              have N3 := hid (ndO_aft (aftO_but b3 (by omega)) (ndO_aft (aftO_below DR) N2.out))
              have M3 := hid (ndO_of (ok := (fun b => w.heap.size + 1 ≤ b ∧ b ≠ w1.heap.size)) n3 (fun b h1 h2 => by simp at h1; omega))
              have hz3 := b3.size
              simp at hz3
              have hg3 := blk_lt G3.out
              clear s3 b3 n3 DR
              unfold ndv
              simp only
              refine HK.out.out _ _ trivial (fun hHeld => ?_)
              clear HK K
              refine wpAnyH_ready (rs := [3]) (by kernel_rfl) (by simp) ?_
              refine AllReadyH.cons rfl (fun K hK => ?_) AllReadyH.nil
              have HK := hid hK
              clear hK
              go_simp
              refine HK.out.out _ _ trivial (fun hHeld => ?_)
              clear HK K
              refine wpAnyH_take (i := 4) (v := ?vk3) rfl (by kernel_rfl) (by kernel_rfl) (by kernel_rfl) (fun _ _ _ h => h) (Or.inl ⟨by rfl, ?hyk3⟩) (by assumption) ?_
              case hyk3 => (intro w hSw; go_simp <;> (try with_reducible rfl))
              simp only [Act.put, List.setIfInBounds_toArray, List.set_cons_zero, List.set_cons_succ, List.getElem_toArray, List.getElem_cons_succ, List.getElem_cons_zero]
              refine wpAnyH_ready (rs := [5]) (by kernel_rfl) (by simp) ?_
              refine AllReadyH.cons rfl (fun K hK => ?_) AllReadyH.nil
              have HK := hid hK
              clear hK
              obtain ⟨s0, s1, s2, s3, s4, s5, s6⟩ := cells7 G3.out
              obtain ⟨u0, u1, u2, u3, u4, u5, u6⟩ := frees7 G3.out
              go_simp
              refine HK.out.out _ _ trivial (fun hHeld => ?_)
              clear HK K
              refine wpAnyH_done (by kernel_rfl) ?_ _
              have F := fin_new (fin_put hP (by omega) S3.out B3.out G3.out (.int .i64 14) (.int .i64 0) (.int .i64 0) (.string ⟨#[]⟩) (.slice none 0 0) (.slice (some ⟨w3.heap.size, 0, none⟩) 2 2) (.int .i64 0)) (.cells #[.int .i64 e.kind, .int .i64 e.op, .int .i64 e.num, .string e.str, .slice b1 e.names.length p1, .slice b2 e.kids.length p2, .int .i64 e.pl, .int .i64 x2.kind, .int .i64 x2.op, .int .i64 x2.num, .string x2.str, .slice f1 x2.names.length g1, .slice f2 x2.kids.length g2, .int .i64 x2.pl] 26)
              have hs7 : (put7w w3 w1.heap.size (.int .i64 14) (.int .i64 0) (.int .i64 0) (.string ⟨#[]⟩) (.slice none 0 0) (.slice (some ⟨w3.heap.size, 0, none⟩) 2 2) (.int .i64 0)).heap.size = w3.heap.size := by simp [put7w, World.setCell]
              have AL := (Below.refl _ (put7w w3 w1.heap.size (.int .i64 14) (.int .i64 0) (.int .i64 0) (.string ⟨#[]⟩) (.slice none 0 0) (.slice (some ⟨w3.heap.size, 0, none⟩) 2 2) (.int .i64 0))).alloc (Nat.le_refl _) (.cells #[.int .i64 e.kind, .int .i64 e.op, .int .i64 e.num, .string e.str, .slice b1 e.names.length p1, .slice b2 e.kids.length p2, .int .i64 e.pl, .int .i64 x2.kind, .int .i64 x2.op, .int .i64 x2.num, .string x2.str, .slice f1 x2.names.length g1, .slice f2 x2.kids.length g2, .int .i64 x2.pl] 26)
              have Z5 := hid (blk_on (blk_put7 (g := w1.heap.size) Z3.out (by omega) (.int .i64 14) (.int .i64 0) (.int .i64 0) (.string ⟨#[]⟩) (.slice none 0 0) (.slice (some ⟨w3.heap.size, 0, none⟩) 2 2) (.int .i64 0)) AL)
              have N5 := hid (show NdO (fun b => w.heap.size + 1 ≤ b ∧ b ≠ w1.heap.size) ((put7w w3 w1.heap.size (.int .i64 14) (.int .i64 0) (.int .i64 0) (.string ⟨#[]⟩) (.slice none 0 0) (.slice (some ⟨w3.heap.size, 0, none⟩) 2 2) (.int .i64 0)).alloc (.cells #[.int .i64 e.kind, .int .i64 e.op, .int .i64 e.num, .string e.str, .slice b1 e.names.length p1, .slice b2 e.kids.length p2, .int .i64 e.pl, .int .i64 x2.kind, .int .i64 x2.op, .int .i64 x2.num, .string x2.str, .slice f1 x2.names.length g1, .slice f2 x2.kids.length g2, .int .i64 x2.pl] 26)) (ndK 14 [e, x2]) (.slice none 0 0) (.slice (some ⟨w3.heap.size, 0, none⟩) 2 2) from by
                have hb := blk_new (put7w w3 w1.heap.size (.int .i64 14) (.int .i64 0) (.int .i64 0) (.string ⟨#[]⟩) (.slice none 0 0) (.slice (some ⟨w3.heap.size, 0, none⟩) 2 2) (.int .i64 0)) 26 #[.int .i64 e.kind, .int .i64 e.op, .int .i64 e.num, .string e.str, .slice b1 e.names.length p1, .slice b2 e.kids.length p2, .int .i64 e.pl, .int .i64 x2.kind, .int .i64 x2.op, .int .i64 x2.num, .string x2.str, .slice f1 x2.names.length g1, .slice f2 x2.kids.length g2, .int .i64 x2.pl]
                rw [hs7] at hb
                have AO := aftO_trans (put7_aftO (ok := (fun b => w.heap.size + 1 ≤ b ∧ b ≠ w1.heap.size)) (g := w1.heap.size) w3 (by simp) (.int .i64 14) (.int .i64 0) (.int .i64 0) (.string ⟨#[]⟩) (.slice none 0 0) (.slice (some ⟨w3.heap.size, 0, none⟩) 2 2) (.int .i64 0)) (aftO_below AL)
                exact ndO_mk2 ⟨.inl ⟨_, _, rfl, rfl⟩, kids_2 ⟨by omega, by simp [hs7]⟩ hb (ndO_aft AO N3.out) (ndO_aft AO M3.out)⟩)
              have G5 := hid F.1
              have S5 := hid F.2.1
              have B5 := hid F.2.2
              clear F hs7 AL S3 B3 Z3 G3 N3 M3 s0 s1 s2 s3 s4 s5 s6 u0 u1 u2 u3 u4 u5 u6 hHeld
              unfold put7w at Z5 N5 G5 S5 B5
              obtain ⟨w5, hw5⟩ : ∃ w5, ((((((((w3.setCell ⟨w1.heap.size, 0, none⟩ (.int .i64 14)).setCell ⟨w1.heap.size, 1, none⟩ (.int .i64 0)).setCell ⟨w1.heap.size, 2, none⟩ (.int .i64 0)).setCell ⟨w1.heap.size, 3, none⟩ (.string ⟨#[]⟩)).setCell ⟨w1.heap.size, 4, none⟩ (.slice none 0 0)).setCell ⟨w1.heap.size, 5, none⟩ (.slice (some ⟨w3.heap.size, 0, none⟩) 2 2)).setCell ⟨w1.heap.size, 6, none⟩ (.int .i64 0)).alloc (.cells #[.int .i64 e.kind, .int .i64 e.op, .int .i64 e.num, .string e.str, .slice b1 e.names.length p1, .slice b2 e.kids.length p2, .int .i64 e.pl, .int .i64 x2.kind, .int .i64 x2.op, .int .i64 x2.num, .string x2.str, .slice f1 x2.names.length g1, .slice f2 x2.kids.length g2, .int .i64 x2.pl] 26)) = w5 := ⟨_, rfl⟩
              rw [hw5] at Z5 N5 G5 S5 B5 ⊢
              clear hw5
              go_wp2_with fail
              refine (must_yes P L t3 q3 ⟨#[93]⟩ _ S5 HB3.out).mono ?_
              rintro e6 w6 ⟨rfl, s6, b6⟩
              have S6 := hid s6
              have B6 := hid (B5.out.trans b6)
              have Z6 := hid (blk_but Z5.out b6 (by omega))
              have G6 := hid (blk_but G5.out b6 (by omega))
              have N6 := hid (ndO_aft (aftO_but b6 (by omega)) N5.out)
              have HLE := hid (show leftAt P L w6 < leftAt P L wr by rw [left_is s6, HLW.out]; simp at hm2 ⊢; omega)
              clear s6 b6 S5 B5 Z5 G5 N5
              go_wp2_with fail
              go_roundw
              case rel => exact ⟨g, ndK 14 [e, x2], true, q3, _, _, HE.out, by simp at hgm hm2; omega, by omega, B6.out, Z6.out, G6.out, N6.out, S6.out, HRX.out⟩
              case measure => exact HLE.out
            · have HK := hid hK
              clear hK
              go_simp
              refine (HCC.out _ (hid (S2.out.on (Below.refl _ _).drew))).mono ?_
              rintro e3 w3 ⟨⟨nv3, kv3, rfl, n3⟩, s3, b3⟩
              obtain ⟨f1, g1, f2, g2, rfl, rfl⟩ := ndR_shape n3
              have DR := (Below.refl w2.heap.size w2).drew
              have S3 := hid s3
              have B3 := hid ((B2.out.trans (But.of DR)).trans b3)
              have Z3 := hid (blk_but (blk_on Z2.out DR) b3 (by omega))
              have G3 := hid (blk_but (blk_on G2.out DR) b3 (by omega))
              have N3 := hid (ndO_aft (aftO_but b3 (by omega)) (ndO_aft (aftO_below DR) N2.out))
              have M3 := hid (ndO_of (ok := (fun b => w.heap.size + 1 ≤ b ∧ b ≠ w1.heap.size)) n3 (fun b h1 h2 => by simp at h1; omega))
              have hz3 := b3.size
              simp at hz3
              have hg3 := blk_lt G3.out
              clear s3 b3 n3 DR
              unfold ndv
              simp only
              refine HK.out.out _ _ trivial (fun hHeld => ?_)
              clear HK K
              obtain ⟨t0, t1, t2, t3', t4, t5, t6⟩ := cells7 G3.out
              refine wpAnyH_ready (rs := [0]) (by kernel_rfl) (by simp) ?_
              refine AllReadyH.cons rfl (fun K hK => ?_) AllReadyH.nil
              have HK := hid hK
              clear hK
              go_simp
              refine HK.out.out _ _ trivial (fun hHeld => ?_)
              clear HK K t0 t1 t2 t3' t4 t5 t6
              refine wpAnyH_ready (rs := [3]) (by kernel_rfl) (by simp) ?_
              refine AllReadyH.cons rfl (fun K hK => ?_) AllReadyH.nil
              have HK := hid hK
              clear hK
              go_simp
              refine HK.out.out _ _ trivial (fun hHeld => ?_)
              clear HK K
              refine wpAnyH_take (i := 4) (v := ?vk4) rfl (by kernel_rfl) (by kernel_rfl) (by kernel_rfl) (fun _ _ _ h => h) (Or.inl ⟨by rfl, ?hyk4⟩) (by assumption) ?_
              case hyk4 => (intro w hSw; go_simp <;> (try with_reducible rfl))
              simp only [Act.put, List.setIfInBounds_toArray, List.set_cons_zero, List.set_cons_succ, List.getElem_toArray, List.getElem_cons_succ, List.getElem_cons_zero]
              refine wpAnyH_ready (rs := [5]) (by kernel_rfl) (by simp) ?_
              refine AllReadyH.cons rfl (fun K hK => ?_) AllReadyH.nil
              have HK := hid hK
              clear hK
              obtain ⟨s0, s1, s2, s3, s4, s5, s6⟩ := cells7 G3.out
              obtain ⟨u0, u1, u2, u3, u4, u5, u6⟩ := frees7 G3.out
              go_simp
              refine HK.out.out _ _ trivial (fun hHeld => ?_)
              clear HK K
              refine wpAnyH_done (by kernel_rfl) ?_ _
              have F := fin_new (fin_put hP (by omega) S3.out B3.out G3.out (.int .i64 14) (.int .i64 0) (.int .i64 0) (.string ⟨#[]⟩) (.slice none 0 0) (.slice (some ⟨w3.heap.size, 0, none⟩) 2 2) (.int .i64 0)) (.cells #[.int .i64 e.kind, .int .i64 e.op, .int .i64 e.num, .string e.str, .slice b1 e.names.length p1, .slice b2 e.kids.length p2, .int .i64 e.pl, .int .i64 x2.kind, .int .i64 x2.op, .int .i64 x2.num, .string x2.str, .slice f1 x2.names.length g1, .slice f2 x2.kids.length g2, .int .i64 x2.pl] 26)
              have hs7 : (put7w w3 w1.heap.size (.int .i64 14) (.int .i64 0) (.int .i64 0) (.string ⟨#[]⟩) (.slice none 0 0) (.slice (some ⟨w3.heap.size, 0, none⟩) 2 2) (.int .i64 0)).heap.size = w3.heap.size := by simp [put7w, World.setCell]
              have AL := (Below.refl _ (put7w w3 w1.heap.size (.int .i64 14) (.int .i64 0) (.int .i64 0) (.string ⟨#[]⟩) (.slice none 0 0) (.slice (some ⟨w3.heap.size, 0, none⟩) 2 2) (.int .i64 0))).alloc (Nat.le_refl _) (.cells #[.int .i64 e.kind, .int .i64 e.op, .int .i64 e.num, .string e.str, .slice b1 e.names.length p1, .slice b2 e.kids.length p2, .int .i64 e.pl, .int .i64 x2.kind, .int .i64 x2.op, .int .i64 x2.num, .string x2.str, .slice f1 x2.names.length g1, .slice f2 x2.kids.length g2, .int .i64 x2.pl] 26)
              have Z5 := hid (blk_on (blk_put7 (g := w1.heap.size) Z3.out (by omega) (.int .i64 14) (.int .i64 0) (.int .i64 0) (.string ⟨#[]⟩) (.slice none 0 0) (.slice (some ⟨w3.heap.size, 0, none⟩) 2 2) (.int .i64 0)) AL)
              have N5 := hid (show NdO (fun b => w.heap.size + 1 ≤ b ∧ b ≠ w1.heap.size) ((put7w w3 w1.heap.size (.int .i64 14) (.int .i64 0) (.int .i64 0) (.string ⟨#[]⟩) (.slice none 0 0) (.slice (some ⟨w3.heap.size, 0, none⟩) 2 2) (.int .i64 0)).alloc (.cells #[.int .i64 e.kind, .int .i64 e.op, .int .i64 e.num, .string e.str, .slice b1 e.names.length p1, .slice b2 e.kids.length p2, .int .i64 e.pl, .int .i64 x2.kind, .int .i64 x2.op, .int .i64 x2.num, .string x2.str, .slice f1 x2.names.length g1, .slice f2 x2.kids.length g2, .int .i64 x2.pl] 26)) (ndK 14 [e, x2]) (.slice none 0 0) (.slice (some ⟨w3.heap.size, 0, none⟩) 2 2) from by
                have hb := blk_new (put7w w3 w1.heap.size (.int .i64 14) (.int .i64 0) (.int .i64 0) (.string ⟨#[]⟩) (.slice none 0 0) (.slice (some ⟨w3.heap.size, 0, none⟩) 2 2) (.int .i64 0)) 26 #[.int .i64 e.kind, .int .i64 e.op, .int .i64 e.num, .string e.str, .slice b1 e.names.length p1, .slice b2 e.kids.length p2, .int .i64 e.pl, .int .i64 x2.kind, .int .i64 x2.op, .int .i64 x2.num, .string x2.str, .slice f1 x2.names.length g1, .slice f2 x2.kids.length g2, .int .i64 x2.pl]
                rw [hs7] at hb
                have AO := aftO_trans (put7_aftO (ok := (fun b => w.heap.size + 1 ≤ b ∧ b ≠ w1.heap.size)) (g := w1.heap.size) w3 (by simp) (.int .i64 14) (.int .i64 0) (.int .i64 0) (.string ⟨#[]⟩) (.slice none 0 0) (.slice (some ⟨w3.heap.size, 0, none⟩) 2 2) (.int .i64 0)) (aftO_below AL)
                exact ndO_mk2 ⟨.inl ⟨_, _, rfl, rfl⟩, kids_2 ⟨by omega, by simp [hs7]⟩ hb (ndO_aft AO N3.out) (ndO_aft AO M3.out)⟩)
              have G5 := hid F.1
              have S5 := hid F.2.1
              have B5 := hid F.2.2
              clear F hs7 AL S3 B3 Z3 G3 N3 M3 s0 s1 s2 s3 s4 s5 s6 u0 u1 u2 u3 u4 u5 u6 hHeld
              unfold put7w at Z5 N5 G5 S5 B5
              obtain ⟨w5, hw5⟩ : ∃ w5, ((((((((w3.setCell ⟨w1.heap.size, 0, none⟩ (.int .i64 14)).setCell ⟨w1.heap.size, 1, none⟩ (.int .i64 0)).setCell ⟨w1.heap.size, 2, none⟩ (.int .i64 0)).setCell ⟨w1.heap.size, 3, none⟩ (.string ⟨#[]⟩)).setCell ⟨w1.heap.size, 4, none⟩ (.slice none 0 0)).setCell ⟨w1.heap.size, 5, none⟩ (.slice (some ⟨w3.heap.size, 0, none⟩) 2 2)).setCell ⟨w1.heap.size, 6, none⟩ (.int .i64 0)).alloc (.cells #[.int .i64 e.kind, .int .i64 e.op, .int .i64 e.num, .string e.str, .slice b1 e.names.length p1, .slice b2 e.kids.length p2, .int .i64 e.pl, .int .i64 x2.kind, .int .i64 x2.op, .int .i64 x2.num, .string x2.str, .slice f1 x2.names.length g1, .slice f2 x2.kids.length g2, .int .i64 x2.pl] 26)) = w5 := ⟨_, rfl⟩
              rw [hw5] at Z5 N5 G5 S5 B5 ⊢
              clear hw5
              go_wp2_with fail
              refine (must_yes P L t3 q3 ⟨#[93]⟩ _ S5 HB3.out).mono ?_
              rintro e6 w6 ⟨rfl, s6, b6⟩
              have S6 := hid s6
              have B6 := hid (B5.out.trans b6)
              have Z6 := hid (blk_but Z5.out b6 (by omega))
              have G6 := hid (blk_but G5.out b6 (by omega))
              have N6 := hid (ndO_aft (aftO_but b6 (by omega)) N5.out)
              have HLE := hid (show leftAt P L w6 < leftAt P L wr by rw [left_is s6, HLW.out]; simp at hm2 ⊢; omega)
              clear s6 b6 S5 B5 Z5 G5 N5
              go_wp2_with fail
              go_roundw
              case rel => exact ⟨g, ndK 14 [e, x2], true, q3, _, _, HE.out, by simp at hgm hm2; omega, by omega, B6.out, Z6.out, G6.out, N6.out, S6.out, HRX.out⟩
              case measure => exact HLE.out
          | false =>
            have HB3 := hid hb3
            have HE := hid (HE.out.trans (show must [93] m2 (fun l => pTail g (ndK 14 [e, x2]) true l) = .bad m2 by unfold must; rw [hb3]; rfl))
            clear hb3
            have AW := (Below.refl wr.heap.size wr).alloc (Nat.le_refl _) (.cells #[.string ⟨#[46]⟩, .string ⟨#[91]⟩, .string ⟨#[40]⟩] 9)
            have S1 := hid (hS.out.on AW)
            have V1 := hid (words_new wr)
            have B1 := hid (hB.out.trans (But.of AW))
            have Z1 := hid (blk_on hZ.out AW)
            have G1 := hid (blk_on hG.out AW)
            have N1 := hid (ndO_aft (aftO_below AW) hN.out)
            have HLW := hid (left_is hS.out)
            have HFW := hid (post_ix (q := q) HT.out)
            clear AW hS hB hZ hG hN HT
            go_wp2_with fail
            refine (takeone_yes P L t q postW ⟨#[91]⟩ (wr.heap.size + 1) _ _ (by simp) S1 V1 (by decide) HFW.out).mono ?_
            rintro e2 w2 ⟨rfl, s2, b2⟩
            have S2 := hid s2
            have B2 := hid (B1.out.trans b2)
            have Z2 := hid (blk_but Z1.out b2 (by omega))
            have G2 := hid (blk_but G1.out b2 (by omega))
            have N2 := hid (ndO_aft (aftO_but b2 (by omega)) N1.out)
            have hz2 := b2.size
            simp only [World.size_alloc] at hz2
            have hg2 := blk_lt G2.out
            obtain ⟨r0, r1, r2, r3, r4, r5, r6⟩ := cells7 G2.out
            clear s2 b2 S1 V1 B1 Z1 G1 N1 HFW
            go_wp2_with fail
            refine wp_region_held_drew (S := fun _ => True) (by kernel_rfl) trivial (fun hHeld => ?_)
            refine wpAnyH_take (i := 1) (v := ?vk5) rfl (by kernel_rfl) (by kernel_rfl) (by kernel_rfl) (fun _ _ _ h => h) (Or.inl ⟨by rfl, ?hyk5⟩) (by assumption) ?_
            case hyk5 => (intro w hSw; go_simp <;> (try with_reducible rfl))
            simp only [Act.put, List.setIfInBounds_toArray, List.set_cons_zero, List.set_cons_succ, List.getElem_toArray, List.getElem_cons_succ, List.getElem_cons_zero]
            refine wpAnyH_ready (rs := [0, 2]) (by kernel_rfl) (by simp) ?_
            refine AllReadyH.cons rfl (fun K hK => ?_) (AllReadyH.cons rfl (fun K hK => ?_) AllReadyH.nil)
            · go_simp
              refine hK.out _ _ trivial (fun hHeld => ?_)
              clear hK K
              refine wpAnyH_ready (rs := [2]) (by kernel_rfl) (by simp) ?_
              refine AllReadyH.cons rfl (fun K hK => ?_) AllReadyH.nil
              have HK := hid hK
              clear hK
              go_simp
              refine (HCC.out _ (hid (S2.out.on (Below.refl _ _).drew))).mono ?_
              rintro e3 w3 ⟨⟨nv3, kv3, rfl, n3⟩, s3, b3⟩
              obtain ⟨f1, g1, f2, g2, rfl, rfl⟩ := ndR_shape n3
              have DR := (Below.refl w2.heap.size w2).drew
              have S3 := hid s3
              have B3 := hid ((B2.out.trans (But.of DR)).trans b3)
              have Z3 := hid (blk_but (blk_on Z2.out DR) b3 (by omega))
              have G3 := hid (blk_but (blk_on G2.out DR) b3 (by omega))
              have N3 := hid (ndO_aft (aftO_but b3 (by omega)) (ndO_aft (aftO_below DR) N2.out))
              have M3 := hid (ndO_of (ok := (fun b => w.heap.size + 1 ≤ b ∧ b ≠ w1.heap.size)) n3 (fun b h1 h2 => by simp at h1; omega))
              have hz3 := b3.size
              simp at hz3
              have hg3 := blk_lt G3.out
              clear s3 b3 n3 DR
              unfold ndv
              simp only
              refine HK.out.out _ _ trivial (fun hHeld => ?_)
              clear HK K
              refine wpAnyH_ready (rs := [3]) (by kernel_rfl) (by simp) ?_
              refine AllReadyH.cons rfl (fun K hK => ?_) AllReadyH.nil
              have HK := hid hK
              clear hK
              go_simp
              refine HK.out.out _ _ trivial (fun hHeld => ?_)
              clear HK K
              refine wpAnyH_take (i := 4) (v := ?vk6) rfl (by kernel_rfl) (by kernel_rfl) (by kernel_rfl) (fun _ _ _ h => h) (Or.inl ⟨by rfl, ?hyk6⟩) (by assumption) ?_
              case hyk6 => (intro w hSw; go_simp <;> (try with_reducible rfl))
              simp only [Act.put, List.setIfInBounds_toArray, List.set_cons_zero, List.set_cons_succ, List.getElem_toArray, List.getElem_cons_succ, List.getElem_cons_zero]
              refine wpAnyH_ready (rs := [5]) (by kernel_rfl) (by simp) ?_
              refine AllReadyH.cons rfl (fun K hK => ?_) AllReadyH.nil
              have HK := hid hK
              clear hK
              obtain ⟨s0, s1, s2, s3, s4, s5, s6⟩ := cells7 G3.out
              obtain ⟨u0, u1, u2, u3, u4, u5, u6⟩ := frees7 G3.out
              go_simp
              refine HK.out.out _ _ trivial (fun hHeld => ?_)
              clear HK K
              refine wpAnyH_done (by kernel_rfl) ?_ _
              have F := fin_new (fin_put hP (by omega) S3.out B3.out G3.out (.int .i64 14) (.int .i64 0) (.int .i64 0) (.string ⟨#[]⟩) (.slice none 0 0) (.slice (some ⟨w3.heap.size, 0, none⟩) 2 2) (.int .i64 0)) (.cells #[.int .i64 e.kind, .int .i64 e.op, .int .i64 e.num, .string e.str, .slice b1 e.names.length p1, .slice b2 e.kids.length p2, .int .i64 e.pl, .int .i64 x2.kind, .int .i64 x2.op, .int .i64 x2.num, .string x2.str, .slice f1 x2.names.length g1, .slice f2 x2.kids.length g2, .int .i64 x2.pl] 26)
              have hs7 : (put7w w3 w1.heap.size (.int .i64 14) (.int .i64 0) (.int .i64 0) (.string ⟨#[]⟩) (.slice none 0 0) (.slice (some ⟨w3.heap.size, 0, none⟩) 2 2) (.int .i64 0)).heap.size = w3.heap.size := by simp [put7w, World.setCell]
              have AL := (Below.refl _ (put7w w3 w1.heap.size (.int .i64 14) (.int .i64 0) (.int .i64 0) (.string ⟨#[]⟩) (.slice none 0 0) (.slice (some ⟨w3.heap.size, 0, none⟩) 2 2) (.int .i64 0))).alloc (Nat.le_refl _) (.cells #[.int .i64 e.kind, .int .i64 e.op, .int .i64 e.num, .string e.str, .slice b1 e.names.length p1, .slice b2 e.kids.length p2, .int .i64 e.pl, .int .i64 x2.kind, .int .i64 x2.op, .int .i64 x2.num, .string x2.str, .slice f1 x2.names.length g1, .slice f2 x2.kids.length g2, .int .i64 x2.pl] 26)
              have Z5 := hid (blk_on (blk_put7 (g := w1.heap.size) Z3.out (by omega) (.int .i64 14) (.int .i64 0) (.int .i64 0) (.string ⟨#[]⟩) (.slice none 0 0) (.slice (some ⟨w3.heap.size, 0, none⟩) 2 2) (.int .i64 0)) AL)
              have N5 := hid (show NdO (fun b => w.heap.size + 1 ≤ b ∧ b ≠ w1.heap.size) ((put7w w3 w1.heap.size (.int .i64 14) (.int .i64 0) (.int .i64 0) (.string ⟨#[]⟩) (.slice none 0 0) (.slice (some ⟨w3.heap.size, 0, none⟩) 2 2) (.int .i64 0)).alloc (.cells #[.int .i64 e.kind, .int .i64 e.op, .int .i64 e.num, .string e.str, .slice b1 e.names.length p1, .slice b2 e.kids.length p2, .int .i64 e.pl, .int .i64 x2.kind, .int .i64 x2.op, .int .i64 x2.num, .string x2.str, .slice f1 x2.names.length g1, .slice f2 x2.kids.length g2, .int .i64 x2.pl] 26)) (ndK 14 [e, x2]) (.slice none 0 0) (.slice (some ⟨w3.heap.size, 0, none⟩) 2 2) from by
                have hb := blk_new (put7w w3 w1.heap.size (.int .i64 14) (.int .i64 0) (.int .i64 0) (.string ⟨#[]⟩) (.slice none 0 0) (.slice (some ⟨w3.heap.size, 0, none⟩) 2 2) (.int .i64 0)) 26 #[.int .i64 e.kind, .int .i64 e.op, .int .i64 e.num, .string e.str, .slice b1 e.names.length p1, .slice b2 e.kids.length p2, .int .i64 e.pl, .int .i64 x2.kind, .int .i64 x2.op, .int .i64 x2.num, .string x2.str, .slice f1 x2.names.length g1, .slice f2 x2.kids.length g2, .int .i64 x2.pl]
                rw [hs7] at hb
                have AO := aftO_trans (put7_aftO (ok := (fun b => w.heap.size + 1 ≤ b ∧ b ≠ w1.heap.size)) (g := w1.heap.size) w3 (by simp) (.int .i64 14) (.int .i64 0) (.int .i64 0) (.string ⟨#[]⟩) (.slice none 0 0) (.slice (some ⟨w3.heap.size, 0, none⟩) 2 2) (.int .i64 0)) (aftO_below AL)
                exact ndO_mk2 ⟨.inl ⟨_, _, rfl, rfl⟩, kids_2 ⟨by omega, by simp [hs7]⟩ hb (ndO_aft AO N3.out) (ndO_aft AO M3.out)⟩)
              have G5 := hid F.1
              have S5 := hid F.2.1
              have B5 := hid F.2.2
              clear F hs7 AL S3 B3 Z3 G3 N3 M3 s0 s1 s2 s3 s4 s5 s6 u0 u1 u2 u3 u4 u5 u6 hHeld
              unfold put7w at Z5 N5 G5 S5 B5
              obtain ⟨w5, hw5⟩ : ∃ w5, ((((((((w3.setCell ⟨w1.heap.size, 0, none⟩ (.int .i64 14)).setCell ⟨w1.heap.size, 1, none⟩ (.int .i64 0)).setCell ⟨w1.heap.size, 2, none⟩ (.int .i64 0)).setCell ⟨w1.heap.size, 3, none⟩ (.string ⟨#[]⟩)).setCell ⟨w1.heap.size, 4, none⟩ (.slice none 0 0)).setCell ⟨w1.heap.size, 5, none⟩ (.slice (some ⟨w3.heap.size, 0, none⟩) 2 2)).setCell ⟨w1.heap.size, 6, none⟩ (.int .i64 0)).alloc (.cells #[.int .i64 e.kind, .int .i64 e.op, .int .i64 e.num, .string e.str, .slice b1 e.names.length p1, .slice b2 e.kids.length p2, .int .i64 e.pl, .int .i64 x2.kind, .int .i64 x2.op, .int .i64 x2.num, .string x2.str, .slice f1 x2.names.length g1, .slice f2 x2.kids.length g2, .int .i64 x2.pl] 26)) = w5 := ⟨_, rfl⟩
              rw [hw5] at Z5 N5 G5 S5 B5 ⊢
              clear hw5
              go_wp2_with fail
              refine (must_no P L m2 ⟨#[93]⟩ _ S5 HB3.out).mono ?_
              rintro e6 w6 ⟨rfl, b6⟩
              have S6 := hid (S5.out.on b6)
              have B6 := hid (B5.out.trans (But.of b6))
              clear b6 S5 B5 Z5 G5 N5
              unfold gaveUp
              go_wp2_with fail
              refine ⟨rfl, ?_⟩
              rw [HE.out]
              exact ⟨rfl, S6.out, B6.out⟩
            · have HK := hid hK
              clear hK
              go_simp
              refine (HCC.out _ (hid (S2.out.on (Below.refl _ _).drew))).mono ?_
              rintro e3 w3 ⟨⟨nv3, kv3, rfl, n3⟩, s3, b3⟩
              obtain ⟨f1, g1, f2, g2, rfl, rfl⟩ := ndR_shape n3
              have DR := (Below.refl w2.heap.size w2).drew
              have S3 := hid s3
              have B3 := hid ((B2.out.trans (But.of DR)).trans b3)
              have Z3 := hid (blk_but (blk_on Z2.out DR) b3 (by omega))
              have G3 := hid (blk_but (blk_on G2.out DR) b3 (by omega))
              have N3 := hid (ndO_aft (aftO_but b3 (by omega)) (ndO_aft (aftO_below DR) N2.out))
              have M3 := hid (ndO_of (ok := (fun b => w.heap.size + 1 ≤ b ∧ b ≠ w1.heap.size)) n3 (fun b h1 h2 => by simp at h1; omega))
              have hz3 := b3.size
              simp at hz3
              have hg3 := blk_lt G3.out
              clear s3 b3 n3 DR
              unfold ndv
              simp only
              refine HK.out.out _ _ trivial (fun hHeld => ?_)
              clear HK K
              obtain ⟨t0, t1, t2, t3', t4, t5, t6⟩ := cells7 G3.out
              refine wpAnyH_ready (rs := [0]) (by kernel_rfl) (by simp) ?_
              refine AllReadyH.cons rfl (fun K hK => ?_) AllReadyH.nil
              have HK := hid hK
              clear hK
              go_simp
              refine HK.out.out _ _ trivial (fun hHeld => ?_)
              clear HK K t0 t1 t2 t3' t4 t5 t6
              refine wpAnyH_ready (rs := [3]) (by kernel_rfl) (by simp) ?_
              refine AllReadyH.cons rfl (fun K hK => ?_) AllReadyH.nil
              have HK := hid hK
              clear hK
              go_simp
              refine HK.out.out _ _ trivial (fun hHeld => ?_)
              clear HK K
              refine wpAnyH_take (i := 4) (v := ?vk7) rfl (by kernel_rfl) (by kernel_rfl) (by kernel_rfl) (fun _ _ _ h => h) (Or.inl ⟨by rfl, ?hyk7⟩) (by assumption) ?_
              case hyk7 => (intro w hSw; go_simp <;> (try with_reducible rfl))
              simp only [Act.put, List.setIfInBounds_toArray, List.set_cons_zero, List.set_cons_succ, List.getElem_toArray, List.getElem_cons_succ, List.getElem_cons_zero]
              refine wpAnyH_ready (rs := [5]) (by kernel_rfl) (by simp) ?_
              refine AllReadyH.cons rfl (fun K hK => ?_) AllReadyH.nil
              have HK := hid hK
              clear hK
              obtain ⟨s0, s1, s2, s3, s4, s5, s6⟩ := cells7 G3.out
              obtain ⟨u0, u1, u2, u3, u4, u5, u6⟩ := frees7 G3.out
              go_simp
              refine HK.out.out _ _ trivial (fun hHeld => ?_)
              clear HK K
              refine wpAnyH_done (by kernel_rfl) ?_ _
              have F := fin_new (fin_put hP (by omega) S3.out B3.out G3.out (.int .i64 14) (.int .i64 0) (.int .i64 0) (.string ⟨#[]⟩) (.slice none 0 0) (.slice (some ⟨w3.heap.size, 0, none⟩) 2 2) (.int .i64 0)) (.cells #[.int .i64 e.kind, .int .i64 e.op, .int .i64 e.num, .string e.str, .slice b1 e.names.length p1, .slice b2 e.kids.length p2, .int .i64 e.pl, .int .i64 x2.kind, .int .i64 x2.op, .int .i64 x2.num, .string x2.str, .slice f1 x2.names.length g1, .slice f2 x2.kids.length g2, .int .i64 x2.pl] 26)
              have hs7 : (put7w w3 w1.heap.size (.int .i64 14) (.int .i64 0) (.int .i64 0) (.string ⟨#[]⟩) (.slice none 0 0) (.slice (some ⟨w3.heap.size, 0, none⟩) 2 2) (.int .i64 0)).heap.size = w3.heap.size := by simp [put7w, World.setCell]
              have AL := (Below.refl _ (put7w w3 w1.heap.size (.int .i64 14) (.int .i64 0) (.int .i64 0) (.string ⟨#[]⟩) (.slice none 0 0) (.slice (some ⟨w3.heap.size, 0, none⟩) 2 2) (.int .i64 0))).alloc (Nat.le_refl _) (.cells #[.int .i64 e.kind, .int .i64 e.op, .int .i64 e.num, .string e.str, .slice b1 e.names.length p1, .slice b2 e.kids.length p2, .int .i64 e.pl, .int .i64 x2.kind, .int .i64 x2.op, .int .i64 x2.num, .string x2.str, .slice f1 x2.names.length g1, .slice f2 x2.kids.length g2, .int .i64 x2.pl] 26)
              have Z5 := hid (blk_on (blk_put7 (g := w1.heap.size) Z3.out (by omega) (.int .i64 14) (.int .i64 0) (.int .i64 0) (.string ⟨#[]⟩) (.slice none 0 0) (.slice (some ⟨w3.heap.size, 0, none⟩) 2 2) (.int .i64 0)) AL)
              have N5 := hid (show NdO (fun b => w.heap.size + 1 ≤ b ∧ b ≠ w1.heap.size) ((put7w w3 w1.heap.size (.int .i64 14) (.int .i64 0) (.int .i64 0) (.string ⟨#[]⟩) (.slice none 0 0) (.slice (some ⟨w3.heap.size, 0, none⟩) 2 2) (.int .i64 0)).alloc (.cells #[.int .i64 e.kind, .int .i64 e.op, .int .i64 e.num, .string e.str, .slice b1 e.names.length p1, .slice b2 e.kids.length p2, .int .i64 e.pl, .int .i64 x2.kind, .int .i64 x2.op, .int .i64 x2.num, .string x2.str, .slice f1 x2.names.length g1, .slice f2 x2.kids.length g2, .int .i64 x2.pl] 26)) (ndK 14 [e, x2]) (.slice none 0 0) (.slice (some ⟨w3.heap.size, 0, none⟩) 2 2) from by
                have hb := blk_new (put7w w3 w1.heap.size (.int .i64 14) (.int .i64 0) (.int .i64 0) (.string ⟨#[]⟩) (.slice none 0 0) (.slice (some ⟨w3.heap.size, 0, none⟩) 2 2) (.int .i64 0)) 26 #[.int .i64 e.kind, .int .i64 e.op, .int .i64 e.num, .string e.str, .slice b1 e.names.length p1, .slice b2 e.kids.length p2, .int .i64 e.pl, .int .i64 x2.kind, .int .i64 x2.op, .int .i64 x2.num, .string x2.str, .slice f1 x2.names.length g1, .slice f2 x2.kids.length g2, .int .i64 x2.pl]
                rw [hs7] at hb
                have AO := aftO_trans (put7_aftO (ok := (fun b => w.heap.size + 1 ≤ b ∧ b ≠ w1.heap.size)) (g := w1.heap.size) w3 (by simp) (.int .i64 14) (.int .i64 0) (.int .i64 0) (.string ⟨#[]⟩) (.slice none 0 0) (.slice (some ⟨w3.heap.size, 0, none⟩) 2 2) (.int .i64 0)) (aftO_below AL)
                exact ndO_mk2 ⟨.inl ⟨_, _, rfl, rfl⟩, kids_2 ⟨by omega, by simp [hs7]⟩ hb (ndO_aft AO N3.out) (ndO_aft AO M3.out)⟩)
              have G5 := hid F.1
              have S5 := hid F.2.1
              have B5 := hid F.2.2
              clear F hs7 AL S3 B3 Z3 G3 N3 M3 s0 s1 s2 s3 s4 s5 s6 u0 u1 u2 u3 u4 u5 u6 hHeld
              unfold put7w at Z5 N5 G5 S5 B5
              obtain ⟨w5, hw5⟩ : ∃ w5, ((((((((w3.setCell ⟨w1.heap.size, 0, none⟩ (.int .i64 14)).setCell ⟨w1.heap.size, 1, none⟩ (.int .i64 0)).setCell ⟨w1.heap.size, 2, none⟩ (.int .i64 0)).setCell ⟨w1.heap.size, 3, none⟩ (.string ⟨#[]⟩)).setCell ⟨w1.heap.size, 4, none⟩ (.slice none 0 0)).setCell ⟨w1.heap.size, 5, none⟩ (.slice (some ⟨w3.heap.size, 0, none⟩) 2 2)).setCell ⟨w1.heap.size, 6, none⟩ (.int .i64 0)).alloc (.cells #[.int .i64 e.kind, .int .i64 e.op, .int .i64 e.num, .string e.str, .slice b1 e.names.length p1, .slice b2 e.kids.length p2, .int .i64 e.pl, .int .i64 x2.kind, .int .i64 x2.op, .int .i64 x2.num, .string x2.str, .slice f1 x2.names.length g1, .slice f2 x2.kids.length g2, .int .i64 x2.pl] 26)) = w5 := ⟨_, rfl⟩
              rw [hw5] at Z5 N5 G5 S5 B5 ⊢
              clear hw5
              go_wp2_with fail
              refine (must_no P L m2 ⟨#[93]⟩ _ S5 HB3.out).mono ?_
              rintro e6 w6 ⟨rfl, b6⟩
              have S6 := hid (S5.out.on b6)
              have B6 := hid (B5.out.trans (But.of b6))
              clear b6 S5 B5 Z5 G5 N5
              unfold gaveUp
              go_wp2_with fail
              refine ⟨rfl, ?_⟩
              rw [HE.out]
              exact ⟨rfl, S6.out, B6.out⟩
      | false =>
      cases h40 : isH m [40] with
      | true =>
        obtain ⟨t, q, rfl, ht⟩ := isH_some h40
        have HT := hid ht
        clear ht h40 h46 h91
        have HE := hid (hpe.out.trans (tail_call HT.out))
        have HCC := hid (fun w' F' S N' => hC g (by omega) P L q (fun b => w.heap.size + 1 ≤ b ∧ b ≠ w1.heap.size) e (.slice b1 e.names.length p1) (.slice b2 e.kids.length p2) w' (by simp at hgm; omega) F' S N')
        have HGT := hid (pst_gt hS.out)
        clear hpe
        unfold ndv at HCC
        cases hq2 : pArgs g [e] q with
        | bad m2 =>
          rw [hq2] at HE HCC
          rw [PL.bind_bad] at HE
          have AW := (Below.refl wr.heap.size wr).alloc (Nat.le_refl _) (.cells #[.string ⟨#[46]⟩, .string ⟨#[91]⟩, .string ⟨#[40]⟩] 9)
          have S1 := hid (hS.out.on AW)
          have V1 := hid (words_new wr)
          have B1 := hid (hB.out.trans (But.of AW))
          have Z1 := hid (blk_on hZ.out AW)
          have G1 := hid (blk_on hG.out AW)
          have N1 := hid (ndO_aft (aftO_below AW) hN.out)
          have HLW := hid (left_is hS.out)
          have HFW := hid (post_call (q := q) HT.out)
          clear AW hS hB hZ hG hN HT
          go_wp2_with fail
          refine (takeone_yes P L t q postW ⟨#[40]⟩ (wr.heap.size + 1) _ _ (by simp) S1 V1 (by decide) HFW.out).mono ?_
          rintro e2 w2 ⟨rfl, s2, b2⟩
          have S2 := hid s2
          have B2 := hid (B1.out.trans b2)
          have Z2 := hid (blk_but Z1.out b2 (by omega))
          have G2 := hid (blk_but G1.out b2 (by omega))
          have N2 := hid (ndO_aft (aftO_but b2 (by omega)) N1.out)
          have hz2 := b2.size
          simp only [World.size_alloc] at hz2
          have hg2 := blk_lt G2.out
          obtain ⟨r0, r1, r2, r3, r4, r5, r6⟩ := cells7 G2.out
          clear s2 b2 S1 V1 B1 Z1 G1 N1 HFW
          go_wp2_with fail
          refine (HCC.out _ ⟨fun b hb => by omega, by omega⟩ S2 N2).mono ?_
          rintro e3 w3 ⟨rfl, s3, b3⟩
          have S3 := hid s3
          have B3 := hid ((B2.out).trans b3)
          clear s3 b3
          unfold gaveUp
          go_wp2_with fail
          refine ⟨rfl, ?_⟩
          rw [HE.out]
          exact ⟨rfl, S3.out, B3.out⟩
        | ok ns2 ks2 m2 =>
          obtain ⟨hm2, hrx, _⟩ := args_ok HGT.out hRt.out hq2
          have HRX := hid hrx
          clear hrx
          rw [hq2] at HE HCC
          rw [PL.bind_ok] at HE
          have AW := (Below.refl wr.heap.size wr).alloc (Nat.le_refl _) (.cells #[.string ⟨#[46]⟩, .string ⟨#[91]⟩, .string ⟨#[40]⟩] 9)
          have S1 := hid (hS.out.on AW)
          have V1 := hid (words_new wr)
          have B1 := hid (hB.out.trans (But.of AW))
          have Z1 := hid (blk_on hZ.out AW)
          have G1 := hid (blk_on hG.out AW)
          have N1 := hid (ndO_aft (aftO_below AW) hN.out)
          have HLW := hid (left_is hS.out)
          have HFW := hid (post_call (q := q) HT.out)
          clear AW hS hB hZ hG hN HT
          go_wp2_with fail
          refine (takeone_yes P L t q postW ⟨#[40]⟩ (wr.heap.size + 1) _ _ (by simp) S1 V1 (by decide) HFW.out).mono ?_
          rintro e2 w2 ⟨rfl, s2, b2⟩
          have S2 := hid s2
          have B2 := hid (B1.out.trans b2)
          have Z2 := hid (blk_but Z1.out b2 (by omega))
          have G2 := hid (blk_but G1.out b2 (by omega))
          have N2 := hid (ndO_aft (aftO_but b2 (by omega)) N1.out)
          have hz2 := b2.size
          simp only [World.size_alloc] at hz2
          have hg2 := blk_lt G2.out
          obtain ⟨r0, r1, r2, r3, r4, r5, r6⟩ := cells7 G2.out
          clear s2 b2 S1 V1 B1 Z1 G1 N1 HFW
          go_wp2_with fail
          refine (HCC.out _ ⟨fun b hb => by omega, by omega⟩ S2 N2).mono ?_
          rintro e3 w3 ⟨⟨kv3, rfl, k3⟩, s3, b3⟩
          obtain ⟨c3, d3, rfl⟩ := kdO_shape k3
          have S3 := hid s3
          have B3 := hid (B2.out.trans b3)
          have Z3 := hid (blk_but Z2.out b3 (by omega))
          have G3 := hid (blk_but G2.out b3 (by omega))
          have N3 := hid (show NdO (fun b => w.heap.size + 1 ≤ b ∧ b ≠ w1.heap.size) w3 (ndK 15 ks2) (.slice none 0 0) (.slice c3 ks2.length d3) from ndO_mk2 ⟨.inl ⟨_, _, rfl, rfl⟩, k3⟩)
          have hg3 := blk_lt G3.out
          clear s3 b3 k3 S2 B2 Z2 G2 N2 r0 r1 r2 r3 r4 r5 r6 HCC HGT
          obtain ⟨s0, s1, s2, s3, s4, s5, s6⟩ := cells7 G3.out
          obtain ⟨u0, u1, u2, u3, u4, u5, u6⟩ := frees7 G3.out
          go_wp2_with fail
          have F := fin_put hP (by omega) S3.out B3.out G3.out (.int .i64 15) (.int .i64 0) (.int .i64 0) (.string ⟨#[]⟩) (.slice none 0 0) (.slice c3 ks2.length d3) (.int .i64 0)
          have Z5 := hid (blk_put7 (g := w1.heap.size) Z3.out (by omega) (.int .i64 15) (.int .i64 0) (.int .i64 0) (.string ⟨#[]⟩) (.slice none 0 0) (.slice c3 ks2.length d3) (.int .i64 0))
          have N5 := hid (ndO_aft (put7_aftO (g := w1.heap.size) w3 (by simp) (.int .i64 15) (.int .i64 0) (.int .i64 0) (.string ⟨#[]⟩) (.slice none 0 0) (.slice c3 ks2.length d3) (.int .i64 0)) N3.out)
          have G5 := hid F.1
          have S5 := hid F.2.1
          have B5 := hid F.2.2
          clear F S3 B3 Z3 G3 N3 s0 s1 s2 s3 s4 s5 s6 u0 u1 u2 u3 u4 u5 u6
          unfold put7w at Z5 N5 G5 S5 B5
          obtain ⟨w5, hw5⟩ : ∃ w5, (((((((w3.setCell ⟨w1.heap.size, 0, none⟩ (.int .i64 15)).setCell ⟨w1.heap.size, 1, none⟩ (.int .i64 0)).setCell ⟨w1.heap.size, 2, none⟩ (.int .i64 0)).setCell ⟨w1.heap.size, 3, none⟩ (.string ⟨#[]⟩)).setCell ⟨w1.heap.size, 4, none⟩ (.slice none 0 0)).setCell ⟨w1.heap.size, 5, none⟩ (.slice c3 ks2.length d3)).setCell ⟨w1.heap.size, 6, none⟩ (.int .i64 0)) = w5 := ⟨_, rfl⟩
          rw [hw5] at Z5 N5 G5 S5 B5 ⊢
          clear hw5
          have HLE := hid (show leftAt P L w5 < leftAt P L wr by rw [left_is S5.out, HLW.out]; simp; omega)
          go_roundw
          case rel => exact ⟨g, ndK 15 ks2, false, m2, _, _, HE.out, by simp at hgm; omega, by omega, B5.out, Z5.out, G5.out, N5.out, S5.out, HRX.out⟩
          case measure => exact HLE.out
      | false =>
        have HE := hid (hpe.out.trans (tail_none h46 h91 h40))
        have HFW := hid (post_none h46 h91 h40)
        have AW := (Below.refl wr.heap.size wr).alloc (Nat.le_refl _) (.cells #[.string ⟨#[46]⟩, .string ⟨#[91]⟩, .string ⟨#[40]⟩] 9)
        have S1 := hid (hS.out.on AW)
        have V1 := hid (words_new wr)
        have B1 := hid (hB.out.trans (But.of AW))
        have Z1 := hid (blk_on hZ.out AW)
        have G1 := hid (blk_on hG.out AW)
        have N1 := hid (ndO_aft (aftO_below AW) hN.out)
        clear AW hS hB hZ hG hN hpe h46 h91 h40
        go_wp2_with fail
        refine (takeone_no P L m postW (wr.heap.size + 1) _ _ (by simp) S1 V1 (by decide) HFW.out).mono ?_
        rintro e2 w2 ⟨rfl, b2⟩
        have S2 := hid (S1.out.on b2)
        have B2 := hid (B1.out.trans (But.of b2))
        have Z2 := hid (blk_on Z1.out b2)
        have G2 := hid (blk_on G1.out b2)
        have N2 := hid (ndO_aft (aftO_below b2) N1.out)
        have hg0 := blk_lt Z2.out
        have hg2 := blk_lt G2.out
        obtain ⟨r0, r1, r2, r3, r4, r5, r6⟩ := cells7 G2.out
        obtain ⟨z0, z1, z2, z3, z4, z5, z6⟩ := cells7 Z2.out
        obtain ⟨u0, u1, u2, u3, u4, u5, u6⟩ := frees7 Z2.out
        clear b2 S1 V1 B1 Z1 G1 N1 HFW
        go_wp2_with fail
        have Z := fin_put hP (Nat.le_refl _) S2.out B2.out Z2.out (.int .i64 e.kind) (.int .i64 e.op) (.int .i64 e.num) (.string e.str) (.slice b1 e.names.length p1) (.slice b2 e.kids.length p2) (.int .i64 e.pl)
        refine bodyPost_ret (ret_nd rfl rfl Z.1) rfl ?_
        rw [HE.out]
        exact ⟨⟨_, _, rfl, ndR_of (ndO_aft (put7_aftO _ (by omega) _ _ _ _ _ _ _) N2.out) (fun b h => by omega)⟩, Z.2.1, Z.2.2⟩

end Go.Proofs.YtijbiedblahmhaaDoor
