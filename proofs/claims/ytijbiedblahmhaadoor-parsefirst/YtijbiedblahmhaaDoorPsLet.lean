/- A let behind its key. -/
import Derived.Test.YtijbiedblahmhaaDoorJoint3
namespace Go.Proofs.YtijbiedblahmhaaDoor
open Go.RowKit

theorem field_pl (t : Tok) (w : World) : (Instr.field 41 (.agg #[.int .i64 t.kind, .string t.text, .int .i64 t.num, .int .i64 t.pl]) 3).run Tryd.prog w = .ok (.int .i64 t.pl) w := by kernel_rfl
theorem field_kind (t : Tok) (w : World) : (Instr.field 41 (.agg #[.int .i64 t.kind, .string t.text, .int .i64 t.num, .int .i64 t.pl]) 0).run Tryd.prog w = .ok (.int .i64 t.kind) w := by kernel_rfl
/-- a let behind its key -/
def pLet (f : Nat) (l : List Tok) : PR := wordP false l fun s l' => must [61] l' fun l' => (pRank f 1 l').bind fun e _ l' => .ok (.mk 21 0 0 s [] [e] (cur l).pl) false l'

set_option maxRecDepth 100000 in
set_option maxHeartbeats 3200000 in
theorem let_no (P : Nat) (L l : List Tok) (w : World) (H : Hid (PSt P L w l)) (hh : isW false l = false) :
    Calls Tryd.prog 44 #[.pointer (some ⟨P, 0, none⟩)] w (Reads P L w (.bad l)) := by
  have A := hid ((Below.refl _ w).alloc (Nat.le_refl _) (.cells znd 26))
  have S0 := hid (H.out.on A.out)
  have G0 := hid (blk_new w 26 znd)
  have hP := H.out.lt
  have HN := hid hh
  unfold znd at *
  clear H hh
  go_enter Tryd.func44, Tryd.ntmps44
  go_wp2_with fail
  refine (here_calls P L l _ S0).mono ?_
  rintro e wh ⟨rfl, bh⟩
  have Sh := hid (S0.out.on bh)
  have Ah := hid (below_in A.out (Nat.le_refl _) bh)
  have Gh := hid (blk_on G0.out bh)
  have hzh := bh.size
  simp only [World.size_alloc] at hzh
  clear bh S0 A G0
  have hfd := fun (w : World) => field_pl (cur l) w
  unfold Tok.val
  go_wp2_with fail
  clear hfd
  refine (name_no P L l _ Sh HN.out).mono ?_
  rintro e w1 ⟨rfl, b1⟩
  have S9 := hid (Sh.out.on b1)
  have B9 := hid (But.of (P := P) (below_in Ah.out (Nat.le_refl _) b1))
  clear b1 Sh Ah Gh HN
  unfold gaveUp
  go_wp2_with fail
  exact ⟨rfl, rfl, S9.out, B9.out⟩

set_option maxRecDepth 100000 in
set_option maxHeartbeats 3200000 in
theorem let_bare (P : Nat) (L : List Tok) (t : Tok) (q : List Tok) (w : World) (H : Hid (PSt P L w (t :: q))) (ht : t.kind = 1) (hh : isH q [61] = false) :
    Calls Tryd.prog 44 #[.pointer (some ⟨P, 0, none⟩)] w (Reads P L w (.bad q)) := by
  have A := hid ((Below.refl _ w).alloc (Nat.le_refl _) (.cells znd 26))
  have S0 := hid (H.out.on A.out)
  have G0 := hid (blk_new w 26 znd)
  have hP := H.out.lt
  have HN := hid hh
  have HT := hid ht
  unfold znd at *
  clear H hh ht
  go_enter Tryd.func44, Tryd.ntmps44
  go_wp2_with fail
  refine (here_calls P L (t :: q) _ S0).mono ?_
  rintro e wh ⟨rfl, bh⟩
  have Sh := hid (S0.out.on bh)
  have Ah := hid (below_in A.out (Nat.le_refl _) bh)
  have Gh := hid (blk_on G0.out bh)
  have hzh := bh.size
  simp only [World.size_alloc] at hzh
  clear bh S0 A G0
  have hfd := fun (w : World) => field_pl (cur (t :: q)) w
  unfold Tok.val
  go_wp2_with fail
  clear hfd
  refine (name_yes P L t q _ Sh HT.out).mono ?_
  rintro e w1 ⟨rfl, s1, b1⟩
  have S1 := hid s1
  have B1 := hid ((But.of (P := P) Ah.out).trans b1)
  have G1 := hid (blk_but Gh.out b1 (by omega))
  have hg1 := blk_lt G1.out
  clear s1 b1 Sh Ah Gh HT
  go_wp2_with fail
  refine (must_no P L q ⟨#[61]⟩ _ S1 HN.out).mono ?_
  rintro e w2 ⟨rfl, b2⟩
  have S9 := hid (S1.out.on b2)
  have B9 := hid (B1.out.trans (But.of b2))
  clear b2 S1 B1 G1 HN
  unfold gaveUp
  go_wp2_with fail
  exact ⟨rfl, rfl, S9.out, B9.out⟩

set_option maxRecDepth 100000 in
set_option maxHeartbeats 3200000 in
theorem let_yes (f : Nat) (hR : RankC f) (P : Nat) (L : List Tok) (t u : Tok) (z : List Tok) (w : World) (hf : 20 * z.length + 10 ≤ f) (H : Hid (PSt P L w (t :: u :: z))) (ht : t.kind = 1) (hu : isT u [61] = true) :
    Calls Tryd.prog 44 #[.pointer (some ⟨P, 0, none⟩)] w (Reads P L w ((pRank f 1 z).bind fun e _ l' => .ok (.mk 21 0 0 t.text [] [e] t.pl) false l')) := by
  have A := hid ((Below.refl _ w).alloc (Nat.le_refl _) (.cells znd 26))
  have S0 := hid (H.out.on A.out)
  have G0 := hid (blk_new w 26 znd)
  have hP := H.out.lt
  have HC := hid (show ∀ w', Hid (PSt P L w' z) → Calls Tryd.prog 43 #[.pointer (some ⟨P, 0, none⟩)] w' (Reads P L w' (pRank f 1 z)) from fun w' S => hR 1 P L z w' (by omega) (by omega) (by omega) S)
  have HT := hid ht
  have HU := hid hu
  unfold znd at *
  clear H hR ht hu
  cases hq : pRank f 1 z with
  | bad l' =>
    rw [hq] at HC
    rw [PR.bind_bad]
    go_enter Tryd.func44, Tryd.ntmps44
    go_wp2_with fail
    refine (here_calls P L (t :: u :: z) _ S0).mono ?_
    rintro e wh ⟨rfl, bh⟩
    have Sh := hid (S0.out.on bh)
    have Ah := hid (below_in A.out (Nat.le_refl _) bh)
    have Gh := hid (blk_on G0.out bh)
    have hzh := bh.size
    simp only [World.size_alloc] at hzh
    clear bh S0 A G0
    have hfd := fun (w : World) => field_pl (cur (t :: u :: z)) w
    unfold Tok.val
    go_wp2_with fail
    clear hfd
    refine (name_yes P L t (u :: z) _ Sh HT.out).mono ?_
    rintro e w1 ⟨rfl, s1, b1⟩
    have S1 := hid s1
    have B1 := hid ((But.of (P := P) Ah.out).trans b1)
    have G1 := hid (blk_but Gh.out b1 (by omega))
    have hg1 := blk_lt G1.out
    clear s1 b1 Sh Ah Gh HT
    go_wp2_with fail
    refine (must_yes P L u z ⟨#[61]⟩ _ S1 HU.out).mono ?_
    rintro e w2 ⟨rfl, s2, b2⟩
    have S2 := hid s2
    have B2 := hid (B1.out.trans b2)
    have G2 := hid (blk_but G1.out b2 (by omega))
    have hg2 := blk_lt G2.out
    clear s2 b2 S1 B1 G1 HU hg1
    go_wp2_with fail
    refine (HC.out _ S2).mono ?_
    rintro e w3 ⟨rfl, s3, b3⟩
    have S9 := hid s3
    have B9 := hid (B2.out.trans b3)
    clear s3 b3 S2 B2 G2 HC
    unfold gaveUp
    go_wp2_with fail
    exact ⟨rfl, rfl, S9.out, B9.out⟩
  | ok x b l' =>
    rw [hq] at HC
    rw [PR.bind_ok]
    go_enter Tryd.func44, Tryd.ntmps44
    go_wp2_with fail
    refine (here_calls P L (t :: u :: z) _ S0).mono ?_
    rintro e wh ⟨rfl, bh⟩
    have Sh := hid (S0.out.on bh)
    have Ah := hid (below_in A.out (Nat.le_refl _) bh)
    have Gh := hid (blk_on G0.out bh)
    have hzh := bh.size
    simp only [World.size_alloc] at hzh
    clear bh S0 A G0
    have hfd := fun (w : World) => field_pl (cur (t :: u :: z)) w
    unfold Tok.val
    go_wp2_with fail
    clear hfd
    refine (name_yes P L t (u :: z) _ Sh HT.out).mono ?_
    rintro e w1 ⟨rfl, s1, b1⟩
    have S1 := hid s1
    have B1 := hid ((But.of (P := P) Ah.out).trans b1)
    have G1 := hid (blk_but Gh.out b1 (by omega))
    have hg1 := blk_lt G1.out
    clear s1 b1 Sh Ah Gh HT
    go_wp2_with fail
    refine (must_yes P L u z ⟨#[61]⟩ _ S1 HU.out).mono ?_
    rintro e w2 ⟨rfl, s2, b2⟩
    have S2 := hid s2
    have B2 := hid (B1.out.trans b2)
    have G2 := hid (blk_but G1.out b2 (by omega))
    have hg2 := blk_lt G2.out
    clear s2 b2 S1 B1 G1 HU hg1
    go_wp2_with fail
    refine (HC.out _ S2).mono ?_
    rintro e w3 ⟨⟨nv, kv, rfl, n3⟩, s3, b3⟩
    have S3 := hid s3
    have N3 := hid (ndR_low hg2 n3)
    have B3 := hid (B2.out.trans b3)
    have G3 := hid (blk_but G2.out b3 (by omega))
    have hg3 := blk_lt G3.out
    obtain ⟨r0, r1, r2, r3, r4, r5, r6⟩ := cells7 G3.out
    obtain ⟨u0, u1, u2, u3, u4, u5, u6⟩ := frees7 G3.out
    clear s3 b3 S2 B2 G2 HC n3
    unfold ndv
    go_wp2_with fail
    have Z := fin_new (fin_put hP (Nat.le_refl _) S3.out B3.out G3.out (.int .i64 21) (.int .i64 0) (.int .i64 0) (.string t.text) (.slice none 0 0) (.slice (some ⟨w3.heap.size, 0, none⟩) 1 1) (.int .i64 t.pl)) (.cells (ndc x nv kv) 26)
    have K := kid_new (g := w.heap.size) (T := 26) (Nat.lt_succ_self _) hg3 N3.out (.int .i64 21) (.int .i64 0) (.int .i64 0) (.string t.text) (.slice none 0 0) (.slice (some ⟨w3.heap.size, 0, none⟩) 1 1) (.int .i64 t.pl)
    exact bodyPost_ret (ret_nd rfl rfl Z.1) rfl ⟨⟨_, _, rfl, ndR_mk2 ⟨st_nil, kdR_low (Nat.le_succ _) K⟩⟩, Z.2.1, Z.2.2⟩

theorem let_calls (f : Nat) (hR : RankC f) (P : Nat) (L l : List Tok) (w : World) (hf : 20 * l.length ≤ f + 30) (H : Hid (PSt P L w l)) :
    Calls Tryd.prog 44 #[.pointer (some ⟨P, 0, none⟩)] w (Reads P L w (pLet f l)) := by
  unfold pLet wordP
  by_cases hh : isW false l = true
  · obtain ⟨t, q, rfl, ht⟩ := isW_some hh
    have ht1 : t.kind = 1 := by rcases ht with h | ⟨h, _⟩; exact h; cases h
    rw [if_pos hh]
    unfold Go.Proofs.YtijbiedblahmhaaDoor.must
    by_cases h2 : isH q [61] = true
    · obtain ⟨u, z, rfl, hu⟩ := isH_some h2
      show Calls Tryd.prog _ _ w (Reads P L w (if isH (u :: z) [61] = true then (pRank f 1 z).bind (fun e _ l' => .ok (.mk 21 0 0 t.text [] [e] t.pl) false l') else .bad (u :: z)))
      rw [if_pos h2]
      exact let_yes f hR P L t u z w (by simp at hf; omega) H ht1 hu
    · show Calls Tryd.prog _ _ w (Reads P L w (if isH q [61] = true then (pRank f 1 q.tail).bind (fun e _ l' => .ok (.mk 21 0 0 t.text [] [e] t.pl) false l') else .bad q))
      rw [if_neg h2]
      exact let_bare P L t q w H ht1 (by simpa using h2)
  · rw [if_neg hh]
    exact let_no P L l w H (by simpa using hh)

end Go.Proofs.YtijbiedblahmhaaDoor
