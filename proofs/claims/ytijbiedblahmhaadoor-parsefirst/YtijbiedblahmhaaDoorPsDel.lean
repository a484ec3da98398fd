/- A delete behind its key. -/
import Derived.Test.YtijbiedblahmhaaDoorPsPlace
import Derived.Test.YtijbiedblahmhaaDoorJoint4
namespace Go.Proofs.YtijbiedblahmhaaDoor
open Go.RowKit

theorem ndR_kids {lo : Nat} {w : World} {x : Nd} {nv kv : Value} (h : NdR lo w x nv kv) : KdR lo w kv x.kids := by
  obtain ⟨k, o, n, s, ns, ks, p⟩ := x
  exact (ndR_mk1 h).2
/-- what was read last, in the whole row -/
theorem last_of {P : Nat} {L l l' : List Tok} {w : World} {x : Nd} {b : Bool} (H : PSt P L w l) (h : Q1 l x b l') : ∃ pre u, pre ++ u :: l' = L ∧ plB x u = decide (b = true ∧ x.kind ≠ 5) ∧ caB x u = b := by
  obtain ⟨_, pre, u, rfl, _, h1, h2⟩ := h
  obtain ⟨p0, hp0⟩ := H.suf
  refine ⟨p0 ++ pre, u, by rw [← hp0]; simp, ?_, ?_⟩
  · unfold plB
    cases b with
    | true =>
      have hb := h2 rfl
      have ht : u.text.data.toList ≠ [41] := (h1 hb).1 rfl
      have ht' : (u.text.data.toList == [41]) = false := by simpa using ht
      rw [ht']
      rcases hb with h | h | h <;> simp [h]
    | false =>
      by_cases hb : bareK x
      · have ht : u.text.data.toList = [41] := by
          apply Classical.byContradiction
          intro hn
          cases (h1 hb).2 hn
        simp [ht]
      · unfold bareK at hb
        simp only [not_or] at hb
        simp [hb.2.1, hb.2.2]
  · unfold caB plB
    cases b with
    | true =>
      have hb := h2 rfl
      have ht : u.text.data.toList ≠ [41] := (h1 hb).1 rfl
      have ht' : (u.text.data.toList == [41]) = false := by simpa using ht
      rw [ht']
      rcases hb with h | h | h <;> simp [h]
    | false =>
      by_cases hb : bareK x
      · have ht : u.text.data.toList = [41] := by
          apply Classical.byContradiction
          intro hn
          cases (h1 hb).2 hn
        simp [ht]
      · unfold bareK at hb
        simp only [not_or] at hb
        simp [hb.1, hb.2.1, hb.2.2]

/-- a delete behind its key -/
def pDel (f : Nat) (l : List Tok) : PR := (pPost f l).bind fun e b l => if b = true ∧ e.kind ≠ 5 then .ok (if e.kind = 13 then ndS 25 e.str e.kids else ndK 26 e.kids) false l else .bad l

set_option maxRecDepth 100000 in
set_option maxHeartbeats 3200000 in
theorem del_calls (f : Nat) (hR : PostC f) (P : Nat) (L l : List Tok) (w : World) (hf : 20 * l.length + 3 ≤ f) (H : Hid (PSt P L w l)) :
    Calls Tryd.prog 45 #[.pointer (some ⟨P, 0, none⟩)] w (Reads P L w (pDel f l)) := by
  have A := hid ((Below.refl _ w).alloc (Nat.le_refl _) (.cells znd 26))
  have S0 := hid (H.out.on A.out)
  have G0 := hid (blk_new w 26 znd)
  have hP := H.out.lt
  have HC := hid (fun w' S => hR P L l w' hf S)
  have HM := hid ((may f).post l (pst_gt H.out))
  have HL := hid (fun (x : Nd) (b : Bool) (l' : List Tok) (h : Q1 l x b l') => last_of H.out h)
  unfold znd at *
  unfold pDel
  clear H hR
  cases hq : pPost f l with
  | bad l' =>
    rw [hq] at HC
    rw [PR.bind_bad]
    clear HM HL
    go_enter Tryd.func45, Tryd.ntmps45
    go_wp2_with fail
    refine (HC.out _ S0).mono ?_
    rintro e w2 ⟨rfl, s2, b2⟩
    have S9 := hid s2
    have B9 := hid ((But.of A.out).trans b2)
    clear s2 b2 S0 A G0 HC
    unfold gaveUp
    go_wp2_with fail
    exact ⟨rfl, rfl, S9.out, B9.out⟩
  | ok x b l' =>
    rw [hq] at HC HM
    rw [PR.bind_ok]
    obtain ⟨pre, u, he, hp, _⟩ := HL.out x b l' HM.out
    have HE := hid he
    clear he HL HM
    by_cases hb : b = true ∧ x.kind ≠ 5
    · rw [if_pos hb]
      have hp' : plB x u = true := by rw [hp]; simpa using hb
      have HP := hid hp'
      have hbk := hb.2
      have h34 : x.kind = 13 ∨ x.kind = 14 := by
        unfold plB at hp'
        simp at hp'
        exact hp'.1
      clear hp hp' hb hbk
      by_cases h13 : x.kind = 13
      · rw [if_pos h13]
        have H13 := hid h13
        have h13b : (x.kind == 13) = true := by simp [h13]
        clear h13 h34
        go_enter Tryd.func45, Tryd.ntmps45
        go_wp2_with fail
        refine (HC.out _ S0).mono ?_
        rintro e w1 ⟨⟨nv, kv, rfl, n1⟩, s1, b1⟩
        obtain ⟨a1, q1, a2, q2, rfl, rfl⟩ := ndR_shape n1
        have hz1 := b1.size
        simp only [World.size_alloc] at hz1
        have AA := (Below.refl _ w1).alloc (Nat.le_refl _) (.cells (ndc x (.slice a1 x.names.length q1) (.slice a2 x.kids.length q2)) 26)
        have S1 := hid (s1.on AA)
        have B1 := hid (((But.of (P := P) A.out).trans b1).trans (But.of AA))
        have G1 := hid (blk_on (blk_but G0.out b1 (by omega)) AA)
        have V1 := hid (blk_new w1 26 (ndc x (.slice a1 x.names.length q1) (.slice a2 x.kids.length q2)))
        have N1 := hid (ndR_aft (aft_below AA) (ndR_low (lo' := w.heap.size + 1) (by simp) n1))
        have HQ := hid (fun w' (S : Hid (PSt P L w' l')) => place_calls P L l' pre u x a1 a2 q1 q2 w' S HE.out)
        rw [HP.out] at HQ
        clear s1 b1 n1 AA S0 A G0 HC HE HP
        unfold ndv at *
        unfold ndc at *
        obtain ⟨c0, c1, c2, c3, c4, c5, c6⟩ := cells7 V1.out
        go_wp2_with fail
        refine (HQ.out _ S1).mono ?_
        rintro e w2 ⟨rfl, b2⟩
        have S2 := hid (S1.out.on b2)
        have B2 := hid (B1.out.trans (But.of b2))
        have G2 := hid (blk_on G1.out b2)
        have V2 := hid (blk_on V1.out b2)
        have N2 := hid (ndR_aft (aft_below b2) N1.out)
        have hz2 := b2.size
        simp only [World.size_alloc] at hz2
        clear b2 S1 B1 G1 V1 N1 HQ c0 c1 c2 c3 c4 c5 c6
        obtain ⟨c0, c1, c2, c3, c4, c5, c6⟩ := cells7 V2.out
        obtain ⟨r0, r1, r2, r3, r4, r5, r6⟩ := cells7 G2.out
        obtain ⟨u0, u1, u2, u3, u4, u5, u6⟩ := frees7 G2.out
        have hg2 := blk_lt G2.out
        have hv2 := blk_lt V2.out
        go_wp2_with fail
        have Z := fin_put hP (Nat.le_refl _) S2.out B2.out G2.out (.int .i64 25) (.int .i64 0) (.int .i64 0) (.string x.str) (.slice none 0 0) (.slice a2 x.kids.length q2) (.int .i64 0)
        exact bodyPost_ret (ret_nd rfl rfl Z.1) rfl ⟨⟨_, _, rfl, ndR_mk2 ⟨st_nil, kdR_low (Nat.le_succ _) (kdR_aft (put7_aft w2 (Nat.lt_succ_self _) _ _ _ _ _ _ _) (ndR_kids N2.out))⟩⟩, Z.2.1, Z.2.2⟩
      · rw [if_neg h13]
        have h13b : (x.kind == 13) = false := by simp [h13]
        clear h13 h34
        go_enter Tryd.func45, Tryd.ntmps45
        go_wp2_with fail
        refine (HC.out _ S0).mono ?_
        rintro e w1 ⟨⟨nv, kv, rfl, n1⟩, s1, b1⟩
        obtain ⟨a1, q1, a2, q2, rfl, rfl⟩ := ndR_shape n1
        have hz1 := b1.size
        simp only [World.size_alloc] at hz1
        have AA := (Below.refl _ w1).alloc (Nat.le_refl _) (.cells (ndc x (.slice a1 x.names.length q1) (.slice a2 x.kids.length q2)) 26)
        have S1 := hid (s1.on AA)
        have B1 := hid (((But.of (P := P) A.out).trans b1).trans (But.of AA))
        have G1 := hid (blk_on (blk_but G0.out b1 (by omega)) AA)
        have V1 := hid (blk_new w1 26 (ndc x (.slice a1 x.names.length q1) (.slice a2 x.kids.length q2)))
        have N1 := hid (ndR_aft (aft_below AA) (ndR_low (lo' := w.heap.size + 1) (by simp) n1))
        have HQ := hid (fun w' (S : Hid (PSt P L w' l')) => place_calls P L l' pre u x a1 a2 q1 q2 w' S HE.out)
        rw [HP.out] at HQ
        clear s1 b1 n1 AA S0 A G0 HC HE HP
        unfold ndv at *
        unfold ndc at *
        obtain ⟨c0, c1, c2, c3, c4, c5, c6⟩ := cells7 V1.out
        go_wp2_with fail
        refine (HQ.out _ S1).mono ?_
        rintro e w2 ⟨rfl, b2⟩
        have S2 := hid (S1.out.on b2)
        have B2 := hid (B1.out.trans (But.of b2))
        have G2 := hid (blk_on G1.out b2)
        have V2 := hid (blk_on V1.out b2)
        have N2 := hid (ndR_aft (aft_below b2) N1.out)
        have hz2 := b2.size
        simp only [World.size_alloc] at hz2
        clear b2 S1 B1 G1 V1 N1 HQ c0 c1 c2 c3 c4 c5 c6
        obtain ⟨c0, c1, c2, c3, c4, c5, c6⟩ := cells7 V2.out
        obtain ⟨r0, r1, r2, r3, r4, r5, r6⟩ := cells7 G2.out
        obtain ⟨u0, u1, u2, u3, u4, u5, u6⟩ := frees7 G2.out
        have hg2 := blk_lt G2.out
        have hv2 := blk_lt V2.out
        go_wp2_with fail
        have Z := fin_put hP (Nat.le_refl _) S2.out B2.out G2.out (.int .i64 26) (.int .i64 0) (.int .i64 0) (.string ⟨#[]⟩) (.slice none 0 0) (.slice a2 x.kids.length q2) (.int .i64 0)
        exact bodyPost_ret (ret_nd rfl rfl Z.1) rfl ⟨⟨_, _, rfl, ndR_mk2 ⟨st_nil, kdR_low (Nat.le_succ _) (kdR_aft (put7_aft w2 (Nat.lt_succ_self _) _ _ _ _ _ _ _) (ndR_kids N2.out))⟩⟩, Z.2.1, Z.2.2⟩
    · rw [if_neg hb]
      have HP := hid (show plB x u = false by rw [hp]; simpa using hb)
      clear hp hb
      go_enter Tryd.func45, Tryd.ntmps45
      go_wp2_with fail
      refine (HC.out _ S0).mono ?_
      rintro e w1 ⟨⟨nv, kv, rfl, n1⟩, s1, b1⟩
      obtain ⟨a1, q1, a2, q2, rfl, rfl⟩ := ndR_shape n1
      have hz1 := b1.size
      simp only [World.size_alloc] at hz1
      have AA := (Below.refl _ w1).alloc (Nat.le_refl _) (.cells (ndc x (.slice a1 x.names.length q1) (.slice a2 x.kids.length q2)) 26)
      have S1 := hid (s1.on AA)
      have B1 := hid (((But.of (P := P) A.out).trans b1).trans (But.of AA))
      have G1 := hid (blk_on (blk_but G0.out b1 (by omega)) AA)
      have V1 := hid (blk_new w1 26 (ndc x (.slice a1 x.names.length q1) (.slice a2 x.kids.length q2)))
      have N1 := hid (ndR_aft (aft_below AA) (ndR_low (lo' := w.heap.size + 1) (by simp) n1))
      have HQ := hid (fun w' (S : Hid (PSt P L w' l')) => place_calls P L l' pre u x a1 a2 q1 q2 w' S HE.out)
      rw [HP.out] at HQ
      clear s1 b1 n1 AA S0 A G0 HC HE HP
      unfold ndv at *
      unfold ndc at *
      obtain ⟨c0, c1, c2, c3, c4, c5, c6⟩ := cells7 V1.out
      go_wp2_with fail
      refine (HQ.out _ S1).mono ?_
      rintro e w2 ⟨rfl, b2⟩
      have S2 := hid (S1.out.on b2)
      have B2 := hid (B1.out.trans (But.of b2))
      have G2 := hid (blk_on G1.out b2)
      have V2 := hid (blk_on V1.out b2)
      have N2 := hid (ndR_aft (aft_below b2) N1.out)
      have hz2 := b2.size
      simp only [World.size_alloc] at hz2
      clear b2 S1 B1 G1 V1 N1 HQ c0 c1 c2 c3 c4 c5 c6
      obtain ⟨c0, c1, c2, c3, c4, c5, c6⟩ := cells7 V2.out
      obtain ⟨r0, r1, r2, r3, r4, r5, r6⟩ := cells7 G2.out
      obtain ⟨u0, u1, u2, u3, u4, u5, u6⟩ := frees7 G2.out
      have hg2 := blk_lt G2.out
      have hv2 := blk_lt V2.out
      go_wp2_with fail
      refine (giveup_calls P w2).mono ?_
      rintro e w3 ⟨rfl, rfl⟩
      unfold gaveUp
      go_wp2_with fail
      exact ⟨rfl, rfl, S2.out, B2.out⟩

end Go.Proofs.YtijbiedblahmhaaDoor
