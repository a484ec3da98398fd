/- A let behind its key. Statements. -/
import Derived.Test.YtijbiedblahmhaaDoorJoint5
import Derived.Test.YtijbiedblahmhaaDoorJoint6
import Derived.Test.YtijbiedblahmhaaDoorJoint8
namespace Go.Proofs.YtijbiedblahmhaaDoor
open Go.RowKit

theorem field_pl (t : Tok) (w : World) : (Instr.field 41 (.agg #[.int .i64 t.kind, .string t.text, .int .i64 t.num, .int .i64 t.pl]) 3).run Tryd.prog w = .ok (.int .i64 t.pl) w := by kernel_rfl
theorem field_kind (t : Tok) (w : World) : (Instr.field 41 (.agg #[.int .i64 t.kind, .string t.text, .int .i64 t.num, .int .i64 t.pl]) 0).run Tryd.prog w = .ok (.int .i64 t.kind) w := by kernel_rfl
/-- a let behind its key -/
def pLet (f : Nat) (l : List Tok) : PR := wordP false l fun s l' => must [61] l' fun l' => (pRank f 1 l').bind fun e _ l' => .ok (.mk 21 0 0 s [] [e] (cur l).pl) false l'

set_option maxRecDepth 100000 in
set_option maxHeartbeats 3200000 in
theorem let_no (P : Nat) (L l : List Tok) (w : World) (H : Hid (PSt P L w l)) (hh : isW false l = false) :
    Calls Tryd.prog 44 #[.pointer (some ⟨P, 0, none⟩)] w (Reads P L w (.bad l)) := by
  have A := hid ((Below.refl _ w).alloc (Nat.le_refl _) (.cells znd 26))
  have S0 := hid (H.out.on A.out)
  have G0 := hid (blk_new w 26 znd)
  have hP := H.out.lt
  have HN := hid hh
  unfold znd at *
  clear H hh
  go_enter Tryd.func44, Tryd.ntmps44
  go_wp2_with fail
  refine (here_calls P L l _ S0).mono ?_
  rintro e wh ⟨rfl, bh⟩
  have Sh := hid (S0.out.on bh)
  have Ah := hid (below_in A.out (Nat.le_refl _) bh)
  have Gh := hid (blk_on G0.out bh)
  have hzh := bh.size
  simp only [World.size_alloc] at hzh
  clear bh S0 A G0
  have hfd := fun (w : World) => field_pl (cur l) w
  unfold Tok.val
  go_wp2_with fail
  clear hfd
  refine (name_no P L l _ Sh HN.out).mono ?_
  rintro e w1 ⟨rfl, b1⟩
  have S9 := hid (Sh.out.on b1)
  have B9 := hid (But.of (P := P) (below_in Ah.out (Nat.le_refl _) b1))
  clear b1 Sh Ah Gh HN
  unfold gaveUp
  go_wp2_with fail
  exact ⟨rfl, rfl, S9.out, B9.out⟩

set_option maxRecDepth 100000 in
set_option maxHeartbeats 3200000 in
theorem let_bare (P : Nat) (L : List Tok) (t : Tok) (q : List Tok) (w : World) (H : Hid (PSt P L w (t :: q))) (ht : t.kind = 1) (hh : isH q [61] = false) :
    Calls Tryd.prog 44 #[.pointer (some ⟨P, 0, none⟩)] w (Reads P L w (.bad q)) := by
  have A := hid ((Below.refl _ w).alloc (Nat.le_refl _) (.cells znd 26))
  have S0 := hid (H.out.on A.out)
  have G0 := hid (blk_new w 26 znd)
  have hP := H.out.lt
  have HN := hid hh
  have HT := hid ht
  unfold znd at *
  clear H hh ht
  go_enter Tryd.func44, Tryd.ntmps44
  go_wp2_with fail
  refine (here_calls P L (t :: q) _ S0).mono ?_
  rintro e wh ⟨rfl, bh⟩
  have Sh := hid (S0.out.on bh)
  have Ah := hid (below_in A.out (Nat.le_refl _) bh)
  have Gh := hid (blk_on G0.out bh)
  have hzh := bh.size
  simp only [World.size_alloc] at hzh
  clear bh S0 A G0
  have hfd := fun (w : World) => field_pl (cur (t :: q)) w
  unfold Tok.val
  go_wp2_with fail
  clear hfd
  refine (name_yes P L t q _ Sh HT.out).mono ?_
  rintro e w1 ⟨rfl, s1, b1⟩
  have S1 := hid s1
  have B1 := hid ((But.of (P := P) Ah.out).trans b1)
  have G1 := hid (blk_but Gh.out b1 (by omega))
  have hg1 := blk_lt G1.out
  clear s1 b1 Sh Ah Gh HT
  go_wp2_with fail
  refine (must_no P L q ⟨#[61]⟩ _ S1 HN.out).mono ?_
  rintro e w2 ⟨rfl, b2⟩
  have S9 := hid (S1.out.on b2)
  have B9 := hid (B1.out.trans (But.of b2))
  clear b2 S1 B1 G1 HN
  unfold gaveUp
  go_wp2_with fail
  exact ⟨rfl, rfl, S9.out, B9.out⟩

set_option maxRecDepth 100000 in
set_option maxHeartbeats 3200000 in
theorem let_yes (f : Nat) (hR : RankC f) (P : Nat) (L : List Tok) (t u : Tok) (z : List Tok) (w : World) (hf : 20 * z.length + 10 ≤ f) (H : Hid (PSt P L w (t :: u :: z))) (ht : t.kind = 1) (hu : isT u [61] = true) :
    Calls Tryd.prog 44 #[.pointer (some ⟨P, 0, none⟩)] w (Reads P L w ((pRank f 1 z).bind fun e _ l' => .ok (.mk 21 0 0 t.text [] [e] t.pl) false l')) := by
  have A := hid ((Below.refl _ w).alloc (Nat.le_refl _) (.cells znd 26))
  have S0 := hid (H.out.on A.out)
  have G0 := hid (blk_new w 26 znd)
  have hP := H.out.lt
  have HC := hid (show ∀ w', Hid (PSt P L w' z) → Calls Tryd.prog 43 #[.pointer (some ⟨P, 0, none⟩)] w' (Reads P L w' (pRank f 1 z)) from fun w' S => hR 1 P L z w' (by omega) (by omega) (by omega) S)
  have HT := hid ht
  have HU := hid hu
  unfold znd at *
  clear H hR ht hu
  cases hq : pRank f 1 z with
  | bad l' =>
    rw [hq] at HC
    rw [PR.bind_bad]
    go_enter Tryd.func44, Tryd.ntmps44
    go_wp2_with fail
    refine (here_calls P L (t :: u :: z) _ S0).mono ?_
    rintro e wh ⟨rfl, bh⟩
    have Sh := hid (S0.out.on bh)
    have Ah := hid (below_in A.out (Nat.le_refl _) bh)
    have Gh := hid (blk_on G0.out bh)
    have hzh := bh.size
    simp only [World.size_alloc] at hzh
    clear bh S0 A G0
    have hfd := fun (w : World) => field_pl (cur (t :: u :: z)) w
    unfold Tok.val
    go_wp2_with fail
    clear hfd
    refine (name_yes P L t (u :: z) _ Sh HT.out).mono ?_
    rintro e w1 ⟨rfl, s1, b1⟩
    have S1 := hid s1
    have B1 := hid ((But.of (P := P) Ah.out).trans b1)
    have G1 := hid (blk_but Gh.out b1 (by omega))
    have hg1 := blk_lt G1.out
    clear s1 b1 Sh Ah Gh HT
    go_wp2_with fail
    refine (must_yes P L u z ⟨#[61]⟩ _ S1 HU.out).mono ?_
    rintro e w2 ⟨rfl, s2, b2⟩
    have S2 := hid s2
    have B2 := hid (B1.out.trans b2)
    have G2 := hid (blk_but G1.out b2 (by omega))
    have hg2 := blk_lt G2.out
    clear s2 b2 S1 B1 G1 HU hg1
    go_wp2_with fail
    refine (HC.out _ S2).mono ?_
    rintro e w3 ⟨rfl, s3, b3⟩
    have S9 := hid s3
    have B9 := hid (B2.out.trans b3)
    clear s3 b3 S2 B2 G2 HC
    unfold gaveUp
    go_wp2_with fail
    exact ⟨rfl, rfl, S9.out, B9.out⟩
  | ok x b l' =>
    rw [hq] at HC
    rw [PR.bind_ok]
    go_enter Tryd.func44, Tryd.ntmps44
    go_wp2_with fail
    refine (here_calls P L (t :: u :: z) _ S0).mono ?_
    rintro e wh ⟨rfl, bh⟩
    have Sh := hid (S0.out.on bh)
    have Ah := hid (below_in A.out (Nat.le_refl _) bh)
    have Gh := hid (blk_on G0.out bh)
    have hzh := bh.size
    simp only [World.size_alloc] at hzh
    clear bh S0 A G0
    have hfd := fun (w : World) => field_pl (cur (t :: u :: z)) w
    unfold Tok.val
    go_wp2_with fail
    clear hfd
    refine (name_yes P L t (u :: z) _ Sh HT.out).mono ?_
    rintro e w1 ⟨rfl, s1, b1⟩
    have S1 := hid s1
    have B1 := hid ((But.of (P := P) Ah.out).trans b1)
    have G1 := hid (blk_but Gh.out b1 (by omega))
    have hg1 := blk_lt G1.out
    clear s1 b1 Sh Ah Gh HT
    go_wp2_with fail
    refine (must_yes P L u z ⟨#[61]⟩ _ S1 HU.out).mono ?_
    rintro e w2 ⟨rfl, s2, b2⟩
    have S2 := hid s2
    have B2 := hid (B1.out.trans b2)
    have G2 := hid (blk_but G1.out b2 (by omega))
    have hg2 := blk_lt G2.out
    clear s2 b2 S1 B1 G1 HU hg1
    go_wp2_with fail
    refine (HC.out _ S2).mono ?_
    rintro e w3 ⟨⟨nv, kv, rfl, n3⟩, s3, b3⟩
    have S3 := hid s3
    have N3 := hid (ndR_low hg2 n3)
    have B3 := hid (B2.out.trans b3)
    have G3 := hid (blk_but G2.out b3 (by omega))
    have hg3 := blk_lt G3.out
    obtain ⟨r0, r1, r2, r3, r4, r5, r6⟩ := cells7 G3.out
    obtain ⟨u0, u1, u2, u3, u4, u5, u6⟩ := frees7 G3.out
    clear s3 b3 S2 B2 G2 HC n3
    unfold ndv
    go_wp2_with fail
    have Z := fin_new (fin_put hP (Nat.le_refl _) S3.out B3.out G3.out (.int .i64 21) (.int .i64 0) (.int .i64 0) (.string t.text) (.slice none 0 0) (.slice (some ⟨w3.heap.size, 0, none⟩) 1 1) (.int .i64 t.pl)) (.cells (ndc x nv kv) 26)
    have K := kid_new (g := w.heap.size) (T := 26) (Nat.lt_succ_self _) hg3 N3.out (.int .i64 21) (.int .i64 0) (.int .i64 0) (.string t.text) (.slice none 0 0) (.slice (some ⟨w3.heap.size, 0, none⟩) 1 1) (.int .i64 t.pl)
    exact bodyPost_ret (ret_nd rfl rfl Z.1) rfl ⟨⟨_, _, rfl, ndR_mk2 ⟨st_nil, kdR_low (Nat.le_succ _) K⟩⟩, Z.2.1, Z.2.2⟩

theorem let_calls (f : Nat) (hR : RankC f) (P : Nat) (L l : List Tok) (w : World) (hf : 20 * l.length ≤ f + 30) (H : Hid (PSt P L w l)) :
    Calls Tryd.prog 44 #[.pointer (some ⟨P, 0, none⟩)] w (Reads P L w (pLet f l)) := by
  unfold pLet wordP
  by_cases hh : isW false l = true
  · obtain ⟨t, q, rfl, ht⟩ := isW_some hh
    have ht1 : t.kind = 1 := by rcases ht with h | ⟨h, _⟩; exact h; cases h
    rw [if_pos hh]
    unfold Go.Proofs.YtijbiedblahmhaaDoor.must
    by_cases h2 : isH q [61] = true
    · obtain ⟨u, z, rfl, hu⟩ := isH_some h2
      show Calls Tryd.prog _ _ w (Reads P L w (if isH (u :: z) [61] = true then (pRank f 1 z).bind (fun e _ l' => .ok (.mk 21 0 0 t.text [] [e] t.pl) false l') else .bad (u :: z)))
      rw [if_pos h2]
      exact let_yes f hR P L t u z w (by simp at hf; omega) H ht1 hu
    · show Calls Tryd.prog _ _ w (Reads P L w (if isH q [61] = true then (pRank f 1 q.tail).bind (fun e _ l' => .ok (.mk 21 0 0 t.text [] [e] t.pl) false l') else .bad q))
      rw [if_neg h2]
      exact let_bare P L t q w H ht1 (by simpa using h2)
  · rw [if_neg hh]
    exact let_no P L l w H (by simpa using hh)

end Go.Proofs.YtijbiedblahmhaaDoor

namespace Go.Proofs.YtijbiedblahmhaaDoor
open Go.RowKit

theorem krow_own {lo : Nat} {ok : Nat → Prop} {w : World} {v : Value} {ks : List Nd} (h : KRow lo ok w v ks) : ∀ g, v.ownBlock = some g → ok g ∧ lo ≤ g ∧ g < w.heap.size := by
  obtain ⟨cs, hown, hr, hg⟩ := h
  intro g hv
  exact ⟨hg g hv, (hown.lt g hv).1, (hown.lt g hv).2⟩
theorem stmts_stop {g : Nat} {ks : List Nd} {m : List Tok} (h : ¬ (ks.length < 40 ∧ isH m [125] = false ∧ (cur m).kind ≠ 6)) : pStmts (g + 1) ks m = .ok [] ks m := by rw [pStmts, if_neg h]
theorem stmts_more {g : Nat} {ks : List Nd} {m : List Tok} (h : ks.length < 40 ∧ isH m [125] = false ∧ (cur m).kind ≠ 6) : pStmts (g + 1) ks m = (pStmt g m).bindL fun e _ l => pStmts g (ks ++ [e]) l := by rw [pStmts, if_pos h]
theorem stmt_less {f : Nat} {l : List Tok} {P : Nat} {L : List Tok} {w : World} (H : PSt P L w l) {x : Nd} {b : Bool} {l' : List Tok} (h : pStmt f l = .ok x b l') : l'.length + 1 ≤ l.length := by
  have := (may f).stmt l (pst_gt H)
  rw [h] at this
  obtain ⟨_, pre, u, e, _⟩ := this
  rw [e]; simp

set_option maxRecDepth 100000 in
set_option maxHeartbeats 12800000 in
theorem stmts_calls (f : Nat) (hC : ∀ g, g ≤ f → StmtC g) : StmtsC f := by
  intro P L l w hf H
  have hP := H.out.lt
  have R0 := hid (show KRow w.heap.size (fun b => w.heap.size ≤ b) w (.slice none 0 0) [] from ⟨[], ⟨rfl, .inl ⟨rfl, rfl⟩⟩, rfl, fun g h => by cases h⟩)
  have B0 := hid (But.of (P := P) (Below.refl w.heap.size w))
  go_enter Tryd.func14, Tryd.ntmps14
  go_wp2_with fail
  go_loopw [3] (fun v wr => ∃ (g : Nat) (ks : List Nd) (m : List Tok), Hid (pStmts f [] l = pStmts g ks m) ∧ 20 * m.length + 14 ≤ g ∧ g ≤ f ∧ ks.length ≤ 40 ∧ Hid (KRow w.heap.size (fun b => w.heap.size ≤ b) wr v ks) ∧ Hid (PSt P L wr m) ∧ Hid (But P w wr)) (fun _ wr => leftAt P L wr)
  case atStart => exact ⟨f, [], l, (show Hid (_ = _) from rfl), hf, Nat.le_refl _, by simp, R0.out, H.out, B0.out⟩
  case round =>
    obtain ⟨g, ks, m, hE, hgm, hgf, hk40, hK, hS, hB⟩ := hrel
    obtain ⟨ao, cap, rfl⟩ := krow_shape hK.out
    clear R0 B0 H
    obtain ⟨g, rfl⟩ : ∃ g', g = g' + 1 := ⟨g - 1, by omega⟩
    have hsz := hB.out.size
    have LW := hid (left_is hS.out)
    by_cases hk : ks.length < 40
    · cases hh : isH m [125] with
      | true =>
        have HE := hid (hE.out.trans (stmts_stop (by rw [hh]; simp)))
        have HH := hid (show isH m (⟨#[125]⟩ : ByteArray).data.toList = true from hh)
        clear hE hh hC
        go_wp2_with fail
        refine (is_calls P L m ⟨#[125]⟩ _ hS).mono ?_
        rintro e w1 ⟨he1, b1⟩
        rw [HH.out] at he1
        subst he1
        have S1 := hid (hS.out.on b1)
        have B1 := hid (hB.out.trans (But.of b1))
        have K1 := hid (krow_below hK.out b1)
        have L1 := hid (show leftAt P L w1 = m.length from left_is S1.out)
        clear b1 hS hB hK HH
        go_wp2_with fail
        go_ret
        rw [HE.out]
        exact ⟨⟨_, rfl, krow_kids K1.out⟩, S1.out, B1.out⟩
      | false =>
        have HH := hid (show isH m (⟨#[125]⟩ : ByteArray).data.toList = false from hh)
        by_cases h6 : (cur m).kind = 6
        · have HE := hid (hE.out.trans (stmts_stop (by rw [h6]; simp)))
          have h6b : ((cur m).kind != 6) = false := by simp [h6]
          clear hE hh hC h6
          go_wp2_with fail
          refine (is_calls P L m ⟨#[125]⟩ _ hS).mono ?_
          rintro e w1 ⟨he1, b1⟩
          rw [HH.out] at he1
          subst he1
          have S1 := hid (hS.out.on b1)
          have B1 := hid (hB.out.trans (But.of b1))
          have K1 := hid (krow_below hK.out b1)
          have L1 := hid (show leftAt P L w1 = m.length from left_is S1.out)
          clear b1 hS hB hK HH
          go_wp2_with fail
          refine (here_calls P L m _ S1).mono ?_
          rintro e w2 ⟨rfl, b2⟩
          have S2 := hid (S1.out.on b2)
          have B2 := hid (B1.out.trans (But.of b2))
          have K2 := hid (krow_below K1.out b2)
          have hfd := fun (w : World) => field_kind (cur m) w
          clear b2 S1 B1 K1
          unfold Tok.val
          go_wp2_with fail
          clear hfd
          go_ret
          rw [HE.out]
          exact ⟨⟨_, rfl, krow_kids K2.out⟩, S2.out, B2.out⟩
        · have HE := hid (hE.out.trans (stmts_more ⟨hk, hh, h6⟩))
          have h6b : ((cur m).kind != 6) = true := by simp [h6]
          have HC := hid (fun w' S => hC g (by omega) P L m w' (by omega) S)
          have HL := hid (fun (w' : World) (S : PSt P L w' m) (x : Nd) (b : Bool) (l' : List Tok) (h : pStmt g m = .ok x b l') => stmt_less S h)
          clear hE hh hC h6
          cases hq : pStmt g m with
          | bad l' =>
            rw [hq] at HC HE
            clear HL
            go_wp2_with fail
            refine (is_calls P L m ⟨#[125]⟩ _ hS).mono ?_
            rintro e w1 ⟨he1, b1⟩
            rw [HH.out] at he1
            subst he1
            have S1 := hid (hS.out.on b1)
            have B1 := hid (hB.out.trans (But.of b1))
            have K1 := hid (krow_below hK.out b1)
            have L1 := hid (show leftAt P L w1 = m.length from left_is S1.out)
            clear b1 hS hB hK HH
            go_wp2_with fail
            refine (here_calls P L m _ S1).mono ?_
            rintro e w2 ⟨rfl, b2⟩
            have S2 := hid (S1.out.on b2)
            have B2 := hid (B1.out.trans (But.of b2))
            have K2 := hid (krow_below K1.out b2)
            have hfd := fun (w : World) => field_kind (cur m) w
            clear b2 S1 B1 K1
            unfold Tok.val
            go_wp2_with fail
            clear hfd
            refine (HC.out _ S2).mono ?_
            rintro e w3 ⟨rfl, s3, b3⟩
            have S3 := hid s3
            have B3 := hid (B2.out.trans b3)
            clear s3 b3 S2 B2 K2 HC
            unfold gaveUp
            go_wp2_with fail
            refine ⟨rfl, ?_⟩
            rw [HE.out]
            exact ⟨rfl, S3.out, B3.out⟩
          | ok x b l' =>
            have hl := HL.out _ hS.out x b l' hq
            rw [hq] at HC HE
            clear HL
            go_wp2_with fail
            refine (is_calls P L m ⟨#[125]⟩ _ hS).mono ?_
            rintro e w1 ⟨he1, b1⟩
            rw [HH.out] at he1
            subst he1
            have S1 := hid (hS.out.on b1)
            have B1 := hid (hB.out.trans (But.of b1))
            have K1 := hid (krow_below hK.out b1)
            have L1 := hid (show leftAt P L w1 = m.length from left_is S1.out)
            clear b1 hS hB hK HH
            go_wp2_with fail
            refine (here_calls P L m _ S1).mono ?_
            rintro e w2 ⟨rfl, b2⟩
            have S2 := hid (S1.out.on b2)
            have B2 := hid (B1.out.trans (But.of b2))
            have K2 := hid (krow_below K1.out b2)
            have hfd := fun (w : World) => field_kind (cur m) w
            clear b2 S1 B1 K1
            unfold Tok.val
            go_wp2_with fail
            clear hfd
            refine (HC.out _ S2).mono ?_
            rintro e w3 ⟨⟨nv, kv, rfl, n3⟩, s3, b3⟩
            obtain ⟨b1, p1, b2, p2, rfl, rfl⟩ := ndR_shape n3
            have S3 := hid s3
            have B3 := hid (B2.out.trans b3)
            have K3 := hid (krow_but K2.out b3 (by omega))
            have hz3 := b3.size
            have hz2 := B2.out.size
            have HO := hid (krow_own K2.out)
            have Y3 := hid (show NdW (Els (fun b => w.heap.size ≤ b) (.slice ao ks.length cap) w3) w3 x (.slice b1 x.names.length p1) (.slice b2 x.kids.length p2) from ndW_keep (fun k hk => ⟨⟨by have := hk.1; omega, hk.2, fun e => by have := HO.out k e.symm; have := hk.1; omega⟩, rfl⟩) _ _ _ n3)
            clear s3 b3 n3 S2 B2 K2 HC
            have AL := (Below.refl _ w3).alloc (Nat.le_refl _) (.cells (ndc x (.slice b1 x.names.length p1) (.slice b2 x.kids.length p2)) 26)
            have S3' := hid (S3.out.on AL)
            have B3' := hid (B3.out.trans (But.of AL))
            have HO3 := hid (krow_own K3.out)
            clear AL S3 B3
            unfold ndv
            unfold ndc at S3' B3'
            go_wp2_with (at_builtin; refine wp_napp rfl _ _ rfl w.heap.size (fun b => w.heap.size ≤ b) ks x b1 b2 p1 p2 _ rfl _ (by rfl) K3.out Y3.out _ (by rfl) (by simp) (by omega) (by omega) (fun k hk => by omega) ?_)
            intro v4 w4 k4 gr4
            have hPz : P + 1 ≤ w3.heap.size + 1 := by omega
            have S4 := hid (pst_low S3'.out (grown_low gr4 (by simp; omega) (fun k hk => by have := (HO3.out k hk).2.1; omega)))
            have B4 := hid (show But P w w4 from ⟨gr4.os.trans B3'.out.os, gr4.tape.trans B3'.out.tape, gr4.output.trans B3'.out.output, Nat.le_trans B3'.out.size gr4.size, fun k h1 h2 => (gr4.block k (by have := B3'.out.size; omega) (fun e => by have := (HO3.out k e.symm).2.1; omega)).trans (B3'.out.block k h1 h2)⟩)
            have K4 := hid k4
            have HLE := hid (show leftAt P L w4 < leftAt P L wr by rw [left_is S4.out, LW.out]; omega)
            have HE4 := hid (HE.out.trans (PR.bindL_ok x b l' _))
            clear k4 gr4 S3' B3' K3 Y3 HO3 HO HE LW L1
            go_wp2_with fail
            go_roundw
            case rel => exact ⟨g, ks ++ [x], l', HE4.out, by omega, by omega, by simp; omega, K4.out, S4.out, B4.out⟩
            case measure => exact HLE.out
    · have HE := hid (hE.out.trans (stmts_stop (fun h => hk h.1)))
      clear hE hC
      go_wp2_with fail
      go_ret
      rw [HE.out]
      exact ⟨⟨_, rfl, krow_kids hK.out⟩, hS.out, hB.out⟩

end Go.Proofs.YtijbiedblahmhaaDoor
