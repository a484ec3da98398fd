/- A short statement by which a name or a place becomes a value. A list with any closure. -/
import Derived.Test.YtijbiedblahmhaaDoorPsBec
import Derived.Test.YtijbiedblahmhaaDoorJoint9
namespace Go.Proofs.YtijbiedblahmhaaDoor
open Go.RowKit

theorem become_calls (lo : Nat) (x y : Nd) (a1 a2 b1 b2 : Option Addr) (q1 p1 p2 : Nat) (w : World) (hlo : lo ≤ w.heap.size) (hk : bareK x) (hkl : x.kids.length ≤ 1000) (N : Hid (NdR lo w x (.slice a1 x.names.length q1) (.slice a2 x.kids.length x.kids.length))) (M : Hid (NdR lo w y (.slice b1 y.names.length p1) (.slice b2 y.kids.length p2))) :
    Calls Tryd.prog 47 #[ndv x (.slice a1 x.names.length q1) (.slice a2 x.kids.length x.kids.length), ndv y (.slice b1 y.names.length p1) (.slice b2 y.kids.length p2)] w (Becomes lo w (becomeN x y)) := by
  unfold becomeN
  rcases hk with h | h | h
  · rw [if_neg (by omega), if_neg (by omega)]
    exact become_5 lo x y a1 a2 b1 b2 q1 p1 p2 w hlo h hkl N M
  · rw [if_pos h]
    exact become_13 lo x y a1 a2 b1 b2 q1 p1 p2 w hlo h hkl N M
  · rw [if_neg (by omega), if_pos h]
    exact become_14 lo x y a1 a2 b1 b2 q1 p1 p2 w hlo h hkl N M
theorem kids_few {P : Nat} {L l l' : List Tok} {w : World} {x : Nd} {b : Bool} (H : PSt P L w l) (h : Q1 l x b l') : x.kids.length ≤ 1000 := by
  obtain ⟨_, pre, u, e, hc, _⟩ := h
  have h1 := H.ok.few
  have h2 := H.suf.length_le
  rw [e] at h2
  simp at h2
  obtain ⟨k, o, n, s, ns, ks, p⟩ := x
  have h3 := length_count ks
  simp only [countN] at hc
  show ks.length ≤ 1000
  omega

set_option linter.unusedVariables false in
set_option maxRecDepth 100000 in
set_option maxHeartbeats 6400000 in
theorem short_setbad (f : Nat) (hR : RankC f) (P : Nat) (L l : List Tok) (w : World) (hf : 20 * l.length + 10 ≤ f) (H : Hid (PSt P L w l)) (h1 : isH l [108, 101, 116] = false) (h2 : isH l [112, 114, 105, 110, 116] = false) (h3 : isH l [114, 101, 116, 117, 114, 110] = false) (h4 : isH l [100, 101, 108, 101, 116, 101] = false) (x : Nd) (t : Tok) (q l' : List Tok) (hl' : l' = t :: q) (hq : pRank f 1 l = .ok x true l') (hn : isT t [61] = true) (l3 : List Tok) (hr : pRank f 1 q = .bad l3) :
    Calls Tryd.prog 33 #[.pointer (some ⟨P, 0, none⟩)] w (Reads P L w (.bad l3)) := by
  have A := hid ((Below.refl _ w).alloc (Nat.le_refl _) (.cells znd 26))
  have S0 := hid (H.out.on A.out)
  have G0 := hid (blk_new w 26 znd)
  have hP := H.out.lt
  have HC := hid (show ∀ w', Hid (PSt P L w' l) → Calls Tryd.prog 43 #[.pointer (some ⟨P, 0, none⟩)] w' (Reads P L w' (pRank f 1 l)) from fun w' S => hR 1 P L l w' (by omega) (by omega) (by omega) S)
  have HM := (may f).rank 1 l (pst_gt H.out)
  rw [hq] at HM
  have hlq : q.length + 1 ≤ l.length := by
    obtain ⟨_, pre, u, e, _⟩ := HM
    rw [e, hl']; simp; omega
  have HBK := hid (HM.2.elim fun _ h => h.elim fun _ h => h.2.2.2 rfl)
  have HB2 := hid HBK.out
  have HKL := hid (kids_few H.out HM)
  have HC2 := hid (show ∀ w', Hid (PSt P L w' q) → Calls Tryd.prog 43 #[.pointer (some ⟨P, 0, none⟩)] w' (Reads P L w' (pRank f 1 q)) from fun w' S => hR 1 P L q w' (by omega) (by omega) (by omega) S)
  obtain ⟨pre, u, he, _, hp⟩ := last_of H.out HM
  have HE := hid he
  have H1 := hid h1
  have H2 := hid h2
  have H3 := hid h3
  have H4 := hid h4
  rw [hq] at HC
  rw [hr] at HC2
  unfold znd at *
  have HP := hid hp
  have HX := hid (show isT t (⟨#[61]⟩ : ByteArray).data.toList = true from hn)
  clear H hR h1 h2 h3 h4 HM he hp hn hlq
  have HL := hid hl'
  clear hl' hq hr
  go_enter Tryd.func33, Tryd.ntmps33
  go_wp2_with fail
  refine (take_no P L l ⟨#[108, 101, 116]⟩ _ S0 H1.out).mono ?_
  rintro e wn0 ⟨rfl, bn⟩
  have S1 := hid (S0.out.on bn)
  have A1 := hid (below_in A.out (Nat.le_refl _) bn)
  have G1 := hid (blk_on G0.out bn)
  have hzn0 := bn.size
  try simp only [World.size_alloc] at hzn0
  clear bn S0 A G0 H1
  go_wp2_with fail
  refine (take_no P L l ⟨#[112, 114, 105, 110, 116]⟩ _ S1 H2.out).mono ?_
  rintro e wn1 ⟨rfl, bn⟩
  have S2 := hid (S1.out.on bn)
  have A2 := hid (below_in A1.out (Nat.le_refl _) bn)
  have G2 := hid (blk_on G1.out bn)
  have hzn1 := bn.size
  try simp only [World.size_alloc] at hzn1
  clear bn S1 A1 G1 H2
  go_wp2_with fail
  refine (take_no P L l ⟨#[114, 101, 116, 117, 114, 110]⟩ _ S2 H3.out).mono ?_
  rintro e wn2 ⟨rfl, bn⟩
  have S3 := hid (S2.out.on bn)
  have A3 := hid (below_in A2.out (Nat.le_refl _) bn)
  have G3 := hid (blk_on G2.out bn)
  have hzn2 := bn.size
  try simp only [World.size_alloc] at hzn2
  clear bn S2 A2 G2 H3
  go_wp2_with fail
  refine (take_no P L l ⟨#[100, 101, 108, 101, 116, 101]⟩ _ S3 H4.out).mono ?_
  rintro e wn3 ⟨rfl, bn⟩
  have S4 := hid (S3.out.on bn)
  have A4 := hid (below_in A3.out (Nat.le_refl _) bn)
  have G4 := hid (blk_on G3.out bn)
  have hzn3 := bn.size
  try simp only [World.size_alloc] at hzn3
  clear bn S3 A3 G3 H4
  go_wp2_with fail
  refine (HC.out _ S4).mono ?_
  rintro e w2 ⟨⟨nv, kv, rfl, n2⟩, s2, b2⟩
  obtain ⟨a1, q1, a2, q2, rfl, rfl⟩ := ndR_shape n2
  obtain ⟨ao, hao⟩ := ndR_tight n2 HBK.out
  injection hao with hao1 _ hq2
  subst hao1 hq2
  clear HBK
  have hz2 := b2.size
  have hg4 := blk_lt G4.out
  have AA := (Below.refl _ w2).alloc (Nat.le_refl _) (.cells (ndc x (.slice a1 x.names.length q1) (.slice a2 x.kids.length x.kids.length)) 26)
  have S5 := hid (s2.on AA)
  have B5 := hid (((But.of (P := P) A4.out).trans b2).trans (But.of AA))
  have G5 := hid (blk_on (blk_but G4.out b2 (by omega)) AA)
  have V5 := hid (blk_new w2 26 (ndc x (.slice a1 x.names.length q1) (.slice a2 x.kids.length x.kids.length)))
  have N5 := hid (ndR_aft (aft_below AA) (ndR_low hg4 n2))
  have HQ := hid (fun w' (S : Hid (PSt P L w' l')) => can_calls P L l' pre u x a1 a2 q1 x.kids.length w' S HE.out)
  rw [HP.out] at HQ
  clear s2 b2 n2 AA S4 A4 G4 HC HE HP
  unfold ndv at *
  unfold ndc at *
  obtain ⟨c0, c1, c2, c3, c4, c5, c6⟩ := cells7 V5.out
  go_wp2_with fail
  refine (HQ.out _ S5).mono ?_
  rintro e w3 ⟨rfl, b3⟩
  have S6 := hid (S5.out.on b3)
  have B6 := hid (B5.out.trans (But.of b3))
  have G6 := hid (blk_on G5.out b3)
  have V6 := hid (blk_on V5.out b3)
  have N6 := hid (ndR_aft (aft_below b3) N5.out)
  have hz3 := b3.size
  simp only [World.size_alloc] at hz3
  clear b3 S5 B5 G5 V5 N5 HQ c0 c1 c2 c3 c4 c5 c6
  have hl' := HL.out
  subst hl'
  clear HL
  go_wp2_with fail
  refine (take_yes P L t q ⟨#[61]⟩ _ S6 HX.out).mono ?_
  rintro e w4 ⟨rfl, s4, b4⟩
  have DR := (Below.refl w4.heap.size w4).drew
  have S7 := hid (s4.on DR)
  have B7 := hid ((B6.out.trans b4).trans (But.of DR))
  have G7 := hid (blk_on (blk_but G6.out b4 (by omega)) DR)
  have V7 := hid (blk_on (blk_but V6.out b4 (by omega)) DR)
  have N7 := hid (ndR_aft (aft_below DR) (ndR_aft (aft_but b4 (by omega)) N6.out))
  have hz4 := b4.size
  clear s4 b4 S6 B6 G6 V6 N6 HX DR
  go_wp2_with fail
  refine wp_region_held_drew (S := fun _ => True) (by kernel_rfl) trivial (fun hHeld => ?_)
  obtain ⟨w5, hw5⟩ : ∃ w5, w4.drew = w5 := ⟨_, rfl⟩
  rw [hw5] at S7 B7 G7 V7 N7 ⊢
  have hz5 : w5.heap.size = w4.heap.size := by rw [← hw5]; rfl
  clear hw5
  refine wpAnyH_take (i := 1) (v := ?vk1) rfl (by kernel_rfl) (by kernel_rfl) (by kernel_rfl) (fun _ _ _ h => h) (Or.inl ⟨by rfl, ?hyk1⟩) (by assumption) ?_
  case hyk1 => (intro w hSw; go_simp <;> (try with_reducible rfl))
  simp only [Act.put, List.setIfInBounds_toArray, List.set_cons_zero, List.set_cons_succ, List.getElem_toArray, List.getElem_cons_succ, List.getElem_cons_zero]
  refine wpAnyH_ready (rs := [0, 2]) (by kernel_rfl) (by simp) ?_
  refine AllReadyH.cons rfl (fun K hK => ?_) (AllReadyH.cons rfl (fun K hK => ?_) AllReadyH.nil)
  · have HK := hid hK
    clear hK
    obtain ⟨c0, c1, c2, c3, c4, c5, c6⟩ := cells7 V7.out
    go_simp
    refine HK.out.out _ _ trivial (fun hHeld => ?_)
    clear HK K c0 c1 c2 c3 c4 c5 c6
    refine wpAnyH_ready (rs := [2]) (by kernel_rfl) (by simp) ?_
    refine AllReadyH.cons rfl (fun K hK => ?_) AllReadyH.nil
    clear hK
    go_simp
    refine (HC2.out _ S7).mono ?_
    rintro e w6 ⟨rfl, s6, b6⟩
    have S8 := hid s6
    have B8 := hid (B7.out.trans b6)
    clear s6 b6
    unfold gaveUp
    go_wp2_with fail
    exact ⟨rfl, rfl, S8.out, B8.out⟩
  · clear hK
    go_simp
    refine (HC2.out _ S7).mono ?_
    rintro e w6 ⟨rfl, s6, b6⟩
    have S8 := hid s6
    have B8 := hid (B7.out.trans b6)
    clear s6 b6
    unfold gaveUp
    go_wp2_with fail
    exact ⟨rfl, rfl, S8.out, B8.out⟩

set_option linter.unusedVariables false in
set_option maxRecDepth 100000 in
set_option maxHeartbeats 6400000 in
theorem short_set (f : Nat) (hR : RankC f) (P : Nat) (L l : List Tok) (w : World) (hf : 20 * l.length + 10 ≤ f) (H : Hid (PSt P L w l)) (h1 : isH l [108, 101, 116] = false) (h2 : isH l [112, 114, 105, 110, 116] = false) (h3 : isH l [114, 101, 116, 117, 114, 110] = false) (h4 : isH l [100, 101, 108, 101, 116, 101] = false) (x : Nd) (t : Tok) (q l' : List Tok) (hl' : l' = t :: q) (hq : pRank f 1 l = .ok x true l') (hn : isT t [61] = true) (y : Nd) (b : Bool) (l3 : List Tok) (hr : pRank f 1 q = .ok y b l3) :
    Calls Tryd.prog 33 #[.pointer (some ⟨P, 0, none⟩)] w (Reads P L w (.ok (becomeN x y) false l3)) := by
  have A := hid ((Below.refl _ w).alloc (Nat.le_refl _) (.cells znd 26))
  have S0 := hid (H.out.on A.out)
  have G0 := hid (blk_new w 26 znd)
  have hP := H.out.lt
  have HC := hid (show ∀ w', Hid (PSt P L w' l) → Calls Tryd.prog 43 #[.pointer (some ⟨P, 0, none⟩)] w' (Reads P L w' (pRank f 1 l)) from fun w' S => hR 1 P L l w' (by omega) (by omega) (by omega) S)
  have HM := (may f).rank 1 l (pst_gt H.out)
  rw [hq] at HM
  have hlq : q.length + 1 ≤ l.length := by
    obtain ⟨_, pre, u, e, _⟩ := HM
    rw [e, hl']; simp; omega
  have HBK := hid (HM.2.elim fun _ h => h.elim fun _ h => h.2.2.2 rfl)
  have HB2 := hid HBK.out
  have HKL := hid (kids_few H.out HM)
  have HC2 := hid (show ∀ w', Hid (PSt P L w' q) → Calls Tryd.prog 43 #[.pointer (some ⟨P, 0, none⟩)] w' (Reads P L w' (pRank f 1 q)) from fun w' S => hR 1 P L q w' (by omega) (by omega) (by omega) S)
  obtain ⟨pre, u, he, _, hp⟩ := last_of H.out HM
  have HE := hid he
  have H1 := hid h1
  have H2 := hid h2
  have H3 := hid h3
  have H4 := hid h4
  rw [hq] at HC
  rw [hr] at HC2
  unfold znd at *
  have HP := hid hp
  have HX := hid (show isT t (⟨#[61]⟩ : ByteArray).data.toList = true from hn)
  clear H hR h1 h2 h3 h4 HM he hp hn hlq
  have HL := hid hl'
  clear hl' hq hr
  go_enter Tryd.func33, Tryd.ntmps33
  go_wp2_with fail
  refine (take_no P L l ⟨#[108, 101, 116]⟩ _ S0 H1.out).mono ?_
  rintro e wn0 ⟨rfl, bn⟩
  have S1 := hid (S0.out.on bn)
  have A1 := hid (below_in A.out (Nat.le_refl _) bn)
  have G1 := hid (blk_on G0.out bn)
  have hzn0 := bn.size
  try simp only [World.size_alloc] at hzn0
  clear bn S0 A G0 H1
  go_wp2_with fail
  refine (take_no P L l ⟨#[112, 114, 105, 110, 116]⟩ _ S1 H2.out).mono ?_
  rintro e wn1 ⟨rfl, bn⟩
  have S2 := hid (S1.out.on bn)
  have A2 := hid (below_in A1.out (Nat.le_refl _) bn)
  have G2 := hid (blk_on G1.out bn)
  have hzn1 := bn.size
  try simp only [World.size_alloc] at hzn1
  clear bn S1 A1 G1 H2
  go_wp2_with fail
  refine (take_no P L l ⟨#[114, 101, 116, 117, 114, 110]⟩ _ S2 H3.out).mono ?_
  rintro e wn2 ⟨rfl, bn⟩
  have S3 := hid (S2.out.on bn)
  have A3 := hid (below_in A2.out (Nat.le_refl _) bn)
  have G3 := hid (blk_on G2.out bn)
  have hzn2 := bn.size
  try simp only [World.size_alloc] at hzn2
  clear bn S2 A2 G2 H3
  go_wp2_with fail
  refine (take_no P L l ⟨#[100, 101, 108, 101, 116, 101]⟩ _ S3 H4.out).mono ?_
  rintro e wn3 ⟨rfl, bn⟩
  have S4 := hid (S3.out.on bn)
  have A4 := hid (below_in A3.out (Nat.le_refl _) bn)
  have G4 := hid (blk_on G3.out bn)
  have hzn3 := bn.size
  try simp only [World.size_alloc] at hzn3
  clear bn S3 A3 G3 H4
  go_wp2_with fail
  refine (HC.out _ S4).mono ?_
  rintro e w2 ⟨⟨nv, kv, rfl, n2⟩, s2, b2⟩
  obtain ⟨a1, q1, a2, q2, rfl, rfl⟩ := ndR_shape n2
  obtain ⟨ao, hao⟩ := ndR_tight n2 HBK.out
  injection hao with hao1 _ hq2
  subst hao1 hq2
  clear HBK
  have hz2 := b2.size
  have hg4 := blk_lt G4.out
  have AA := (Below.refl _ w2).alloc (Nat.le_refl _) (.cells (ndc x (.slice a1 x.names.length q1) (.slice a2 x.kids.length x.kids.length)) 26)
  have S5 := hid (s2.on AA)
  have B5 := hid (((But.of (P := P) A4.out).trans b2).trans (But.of AA))
  have G5 := hid (blk_on (blk_but G4.out b2 (by omega)) AA)
  have V5 := hid (blk_new w2 26 (ndc x (.slice a1 x.names.length q1) (.slice a2 x.kids.length x.kids.length)))
  have N5 := hid (ndR_aft (aft_below AA) (ndR_low hg4 n2))
  have HQ := hid (fun w' (S : Hid (PSt P L w' l')) => can_calls P L l' pre u x a1 a2 q1 x.kids.length w' S HE.out)
  rw [HP.out] at HQ
  clear s2 b2 n2 AA S4 A4 G4 HC HE HP
  unfold ndv at *
  unfold ndc at *
  obtain ⟨c0, c1, c2, c3, c4, c5, c6⟩ := cells7 V5.out
  go_wp2_with fail
  refine (HQ.out _ S5).mono ?_
  rintro e w3 ⟨rfl, b3⟩
  have S6 := hid (S5.out.on b3)
  have B6 := hid (B5.out.trans (But.of b3))
  have G6 := hid (blk_on G5.out b3)
  have V6 := hid (blk_on V5.out b3)
  have N6 := hid (ndR_aft (aft_below b3) N5.out)
  have hz3 := b3.size
  simp only [World.size_alloc] at hz3
  clear b3 S5 B5 G5 V5 N5 HQ c0 c1 c2 c3 c4 c5 c6
  have hl' := HL.out
  subst hl'
  clear HL
  go_wp2_with fail
  refine (take_yes P L t q ⟨#[61]⟩ _ S6 HX.out).mono ?_
  rintro e w4 ⟨rfl, s4, b4⟩
  have DR := (Below.refl w4.heap.size w4).drew
  have S7 := hid (s4.on DR)
  have B7 := hid ((B6.out.trans b4).trans (But.of DR))
  have G7 := hid (blk_on (blk_but G6.out b4 (by omega)) DR)
  have V7 := hid (blk_on (blk_but V6.out b4 (by omega)) DR)
  have N7 := hid (ndR_aft (aft_below DR) (ndR_aft (aft_but b4 (by omega)) N6.out))
  have hz4 := b4.size
  clear s4 b4 S6 B6 G6 V6 N6 HX DR
  go_wp2_with fail
  refine wp_region_held_drew (S := fun _ => True) (by kernel_rfl) trivial (fun hHeld => ?_)
  obtain ⟨w5, hw5⟩ : ∃ w5, w4.drew = w5 := ⟨_, rfl⟩
  rw [hw5] at S7 B7 G7 V7 N7 ⊢
  have hz5 : w5.heap.size = w4.heap.size := by rw [← hw5]; rfl
  clear hw5
  refine wpAnyH_take (i := 1) (v := ?vk1) rfl (by kernel_rfl) (by kernel_rfl) (by kernel_rfl) (fun _ _ _ h => h) (Or.inl ⟨by rfl, ?hyk1⟩) (by assumption) ?_
  case hyk1 => (intro w hSw; go_simp <;> (try with_reducible rfl))
  simp only [Act.put, List.setIfInBounds_toArray, List.set_cons_zero, List.set_cons_succ, List.getElem_toArray, List.getElem_cons_succ, List.getElem_cons_zero]
  refine wpAnyH_ready (rs := [0, 2]) (by kernel_rfl) (by simp) ?_
  refine AllReadyH.cons rfl (fun K hK => ?_) (AllReadyH.cons rfl (fun K hK => ?_) AllReadyH.nil)
  · have HK := hid hK
    clear hK
    obtain ⟨c0, c1, c2, c3, c4, c5, c6⟩ := cells7 V7.out
    go_simp
    refine HK.out.out _ _ trivial (fun hHeld => ?_)
    clear HK K c0 c1 c2 c3 c4 c5 c6
    refine wpAnyH_ready (rs := [2]) (by kernel_rfl) (by simp) ?_
    refine AllReadyH.cons rfl (fun K hK => ?_) AllReadyH.nil
    have HK := hid hK
    clear hK
    go_simp
    refine (HC2.out _ S7).mono ?_
    rintro e w6 ⟨⟨nv6, kv6, rfl, n6⟩, s6, b6⟩
    obtain ⟨f1, g1, f2, g2, rfl, rfl⟩ := ndR_shape n6
    have hz6 := b6.size
    have S8 := hid s6
    have B8 := hid (B7.out.trans b6)
    have G8 := hid (blk_but G7.out b6 (by omega))
    have V8 := hid (blk_but V7.out b6 (by omega))
    have N8 := hid (ndR_aft (aft_but b6 (by omega)) N7.out)
    have M8 := hid (ndR_low (lo' := w.heap.size + 1) (by omega) n6)
    clear s6 b6 n6 S7 B7 G7 V7 N7 HC2
    unfold ndv
    simp only
    refine HK.out.out _ _ trivial (fun hHeld => ?_)
    clear HK K
    refine wpAnyH_ready (rs := [3]) (by kernel_rfl) (by simp) ?_
    refine AllReadyH.cons rfl (fun K hK => ?_) AllReadyH.nil
    have HK := hid hK
    clear hK
    have hl8 : w.heap.size + 1 ≤ w6.heap.size := by omega
    have BC := become_calls (w.heap.size + 1) x y a1 a2 f1 f2 q1 g1 g2 w6 hl8 HB2.out HKL.out N8 M8
    unfold ndv at BC
    go_simp
    refine BC.mono ?_
    rintro e w7 ⟨⟨nv7, kv7, rfl, n7⟩, b7⟩
    obtain ⟨h1, j1, h2, j2, rfl, rfl⟩ := ndR_shape n7
    have S9 := hid (S8.out.on b7)
    have B9 := hid (B8.out.trans (But.of b7))
    have G9 := hid (blk_on G8.out b7)
    have N9 := hid n7
    clear b7 n7 BC S8 B8 G8 V8 N8 M8
    unfold ndv
    simp only
    refine HK.out.out _ _ trivial (fun hHeld => ?_)
    clear HK K
    refine wpAnyH_ready (rs := [4]) (by kernel_rfl) (by simp) ?_
    refine AllReadyH.cons rfl (fun K hK => ?_) AllReadyH.nil
    have HK := hid hK
    clear hK
    obtain ⟨r0, r1, r2, r3, r4, r5, r6⟩ := cells7 G9.out
    obtain ⟨u0, u1, u2, u3, u4, u5, u6⟩ := frees7 G9.out
    generalize becomeN x y = z at *
    go_simp
    refine HK.out.out _ _ trivial (fun hHeld => ?_)
    clear HK K
    refine wpAnyH_done (by kernel_rfl) ?_ _
    have Z := fin_put hP (Nat.le_refl _) S9.out B9.out G9.out (.int .i64 z.kind) (.int .i64 z.op) (.int .i64 z.num) (.string z.str) (.slice h1 z.names.length j1) (.slice h2 z.kids.length j2) (.int .i64 z.pl)
    have NN := ndR_low (Nat.le_succ _) (ndR_aft (put7_aft w7 (Nat.lt_succ_self _) (.int .i64 z.kind) (.int .i64 z.op) (.int .i64 z.num) (.string z.str) (.slice h1 z.names.length j1) (.slice h2 z.kids.length j2) (.int .i64 z.pl)) N9.out)
    go_wp2_with fail
    exact bodyPost_ret (ret_nd rfl rfl Z.1) rfl ⟨⟨_, _, rfl, NN⟩, Z.2.1, Z.2.2⟩
  · have HK := hid hK
    clear hK
    go_simp
    refine (HC2.out _ S7).mono ?_
    rintro e w6 ⟨⟨nv6, kv6, rfl, n6⟩, s6, b6⟩
    obtain ⟨f1, g1, f2, g2, rfl, rfl⟩ := ndR_shape n6
    have hz6 := b6.size
    have S8 := hid s6
    have B8 := hid (B7.out.trans b6)
    have G8 := hid (blk_but G7.out b6 (by omega))
    have V8 := hid (blk_but V7.out b6 (by omega))
    have N8 := hid (ndR_aft (aft_but b6 (by omega)) N7.out)
    have M8 := hid (ndR_low (lo' := w.heap.size + 1) (by omega) n6)
    clear s6 b6 n6 S7 B7 G7 V7 N7 HC2
    unfold ndv
    simp only
    refine HK.out.out _ _ trivial (fun hHeld => ?_)
    clear HK K
    refine wpAnyH_ready (rs := [0]) (by kernel_rfl) (by simp) ?_
    refine AllReadyH.cons rfl (fun K hK => ?_) AllReadyH.nil
    have HK := hid hK
    clear hK
    obtain ⟨c0, c1, c2, c3, c4, c5, c6⟩ := cells7 V8.out
    go_simp
    refine HK.out.out _ _ trivial (fun hHeld => ?_)
    clear HK K c0 c1 c2 c3 c4 c5 c6
    refine wpAnyH_ready (rs := [3]) (by kernel_rfl) (by simp) ?_
    refine AllReadyH.cons rfl (fun K hK => ?_) AllReadyH.nil
    have HK := hid hK
    clear hK
    have hl8 : w.heap.size + 1 ≤ w6.heap.size := by omega
    have BC := become_calls (w.heap.size + 1) x y a1 a2 f1 f2 q1 g1 g2 w6 hl8 HB2.out HKL.out N8 M8
    unfold ndv at BC
    go_simp
    refine BC.mono ?_
    rintro e w7 ⟨⟨nv7, kv7, rfl, n7⟩, b7⟩
    obtain ⟨h1, j1, h2, j2, rfl, rfl⟩ := ndR_shape n7
    have S9 := hid (S8.out.on b7)
    have B9 := hid (B8.out.trans (But.of b7))
    have G9 := hid (blk_on G8.out b7)
    have N9 := hid n7
    clear b7 n7 BC S8 B8 G8 V8 N8 M8
    unfold ndv
    simp only
    refine HK.out.out _ _ trivial (fun hHeld => ?_)
    clear HK K
    refine wpAnyH_ready (rs := [4]) (by kernel_rfl) (by simp) ?_
    refine AllReadyH.cons rfl (fun K hK => ?_) AllReadyH.nil
    have HK := hid hK
    clear hK
    obtain ⟨r0, r1, r2, r3, r4, r5, r6⟩ := cells7 G9.out
    obtain ⟨u0, u1, u2, u3, u4, u5, u6⟩ := frees7 G9.out
    generalize becomeN x y = z at *
    go_simp
    refine HK.out.out _ _ trivial (fun hHeld => ?_)
    clear HK K
    refine wpAnyH_done (by kernel_rfl) ?_ _
    have Z := fin_put hP (Nat.le_refl _) S9.out B9.out G9.out (.int .i64 z.kind) (.int .i64 z.op) (.int .i64 z.num) (.string z.str) (.slice h1 z.names.length j1) (.slice h2 z.kids.length j2) (.int .i64 z.pl)
    have NN := ndR_low (Nat.le_succ _) (ndR_aft (put7_aft w7 (Nat.lt_succ_self _) (.int .i64 z.kind) (.int .i64 z.op) (.int .i64 z.num) (.string z.str) (.slice h1 z.names.length j1) (.slice h2 z.kids.length j2) (.int .i64 z.pl)) N9.out)
    go_wp2_with fail
    exact bodyPost_ret (ret_nd rfl rfl Z.1) rfl ⟨⟨_, _, rfl, NN⟩, Z.2.1, Z.2.2⟩

end Go.Proofs.YtijbiedblahmhaaDoor

namespace Go.Proofs.YtijbiedblahmhaaDoor
open Go.RowKit

/-- what comes of a part: a state and the tokens left, or those at which it is given up -/
inductive PG (σ : Type) where
  | ok : σ → List Tok → PG σ
  | bad : List Tok → PG σ
def PG.bind {σ τ : Type} : PG σ → (σ → List Tok → PG τ) → PG τ
  | .ok s l, k => k s l
  | .bad l, _ => .bad l
theorem PG.bind_ok {σ τ : Type} (s : σ) (l : List Tok) (k : σ → List Tok → PG τ) : (PG.ok s l).bind k = k s l := rfl
theorem PG.bind_bad {σ τ : Type} (l : List Tok) (k : σ → List Tok → PG τ) : (PG.bad l : PG σ).bind k = .bad l := rfl
/-- the sign that ends a list -/
def gEnd {σ : Type} (en : UInt8) (s : σ) (l : List Tok) : PG σ := if isH l [en] then .ok s l.tail else .bad l
/-- parts behind commas, and the sign behind them -/
def gMore {σ : Type} (step : Nat → σ → List Tok → PG σ) (cnt : σ → Nat) (most : Nat) (en : UInt8) : Nat → σ → List Tok → PG σ
  | 0, _, l => .bad l
  | 1, s, l => if cnt s < most ∧ isH l [44] = true then .bad l.tail else gEnd en s l
  | f + 2, s, l => if cnt s < most ∧ isH l [44] = true then (step f s l.tail).bind fun s l => gMore step cnt most en f s l else gEnd en s l
def gList {σ : Type} (step : Nat → σ → List Tok → PG σ) (cnt : σ → Nat) (most : Nat) (en : UInt8) (f : Nat) (s : σ) (l : List Tok) : PG σ :=
  if isH l [en] then .ok s l.tail else (step f s l).bind fun s l => gMore step cnt most en f s l
def ReadsG {σ : Type} (I : σ → World → Prop) (lo P : Nat) (L : List Tok) (w : World) (out : PG σ) (e : Ending) (w' : World) : Prop :=
  match out with
  | .ok s l => e = .returned (.tuple #[]) ∧ I s w' ∧ PSt P L w' l ∧ ButLo lo P w w'
  | .bad l => e = gaveUp ∧ PSt P L w' l ∧ ButLo lo P w w'
/-- what is known of a closure -/
def PartC {σ : Type} (N : Nat) (c1 c2 : Value) (I : σ → World → Prop) (cnt : σ → Nat) (most : Nat) (step : Nat → σ → List Tok → PG σ) (lo P : Nat) (L : List Tok) (g : Nat) : Prop :=
  ∀ (s : σ) (l : List Tok) (w : World), 20 * l.length + 10 ≤ g → cnt s < most → lo ≤ w.heap.size → Hid (PSt P L w l) → Hid (I s w) → Calls Tryd.prog N #[c1, c2] w (ReadsG I lo P L w (step g s l))
theorem gMore_more {σ : Type} {step : Nat → σ → List Tok → PG σ} {cnt : σ → Nat} {most : Nat} {en : UInt8} {g : Nat} {s : σ} {t : Tok} {z : List Tok} (h : cnt s < most ∧ isH (t :: z) [44] = true) : gMore step cnt most en (g + 2) s (t :: z) = (step g s z).bind fun s l => gMore step cnt most en g s l := by rw [gMore, if_pos h]; rfl
theorem gMore_stop {σ : Type} {step : Nat → σ → List Tok → PG σ} {cnt : σ → Nat} {most : Nat} {en : UInt8} {g : Nat} {s : σ} {m : List Tok} (h : ¬ (cnt s < most ∧ isH m [44] = true)) : gMore step cnt most en (g + 2) s m = gEnd en s m := by rw [gMore, if_neg h]
theorem gEnd_yes {σ : Type} {en : UInt8} {s : σ} {u : Tok} {z : List Tok} (h : isH (u :: z) [en] = true) : gEnd en s (u :: z) = .ok s z := by unfold gEnd; rw [if_pos h]; rfl
theorem gEnd_no {σ : Type} {en : UInt8} {s : σ} {m : List Tok} (h : ¬ isH m [en] = true) : gEnd en s m = .bad m := by unfold gEnd; rw [if_neg h]

end Go.Proofs.YtijbiedblahmhaaDoor
