/- Parts with signs of one rank between them. -/
import Derived.Test.YtijbiedblahmhaaDoorPsBetw
namespace Go.Proofs.YtijbiedblahmhaaDoor
open Go.RowKit

set_option linter.unusedSimpArgs false in
set_option maxHeartbeats 6400000 in
theorem between_4 (f : Nat) (hR : ∀ g, g ≤ f → RankC g) (lo P : Nat) (L l : List Tok) (sv : Value) (w : World) (hf : 20 * l.length + (10 - 4) ≤ f) (hlo : P < lo) (H : Hid (PSt P L w l)) (HV : Hid (StR lo w sv [⟨#[60]⟩, ⟨#[60, 61]⟩, ⟨#[62]⟩, ⟨#[62, 61]⟩])) :
    Calls Tryd.prog 54 #[.pointer (some ⟨P, 0, none⟩), .func (.func 85) #[.pointer (some ⟨P, 0, none⟩)] #[], sv] w (Reads P L w ((pRank f (4 + 1) l).bind fun e b l => pMore f 4 e b l)) := by
  have A := hid ((Below.refl _ w).alloc (Nat.le_refl _) (.cells znd 26))
  have S0 := hid (H.out.on A.out)
  have G0 := hid (blk_new w 26 znd)
  have hP := H.out.lt
  have HC := hid (show ∀ w', Hid (PSt P L w' l) → Calls Tryd.prog 85 #[.pointer (some ⟨P, 0, none⟩)] w' (Reads P L w' (pRank f (4 + 1) l)) from fun w' S => hR f (Nat.le_refl _) (4 + 1) P L l w' (by omega) (by omega) (by omega) S)
  have HM := hid ((may f).rank (4 + 1) l (pst_gt H.out))
  have HR := hid (show ∀ g, g ≤ f → ∀ (q : List Tok) (w' : World), 20 * q.length + (10 - 4) ≤ g → Hid (PSt P L w' q) → Calls Tryd.prog 85 #[.pointer (some ⟨P, 0, none⟩)] w' (Reads P L w' (pRank g (4 + 1) q)) from fun g hg q w' hq S => hR g hg (4 + 1) P L q w' (by omega) (by omega) (by omega) S)
  unfold znd at *
  clear H hR
  cases hq : pRank f (4 + 1) l with
  | bad l' =>
    rw [hq] at HC
    rw [PR.bind_bad]
    clear HM HR
    go_enter Tryd.func54, Tryd.ntmps54
    go_wp2_with fail
    refine (HC.out _ S0).mono ?_
    rintro e w2 ⟨rfl, s2, b2⟩
    have S2 := hid s2
    have B2 := hid ((But.of A.out).trans b2)
    clear s2 b2 S0 A G0 HC
    unfold gaveUp
    go_wp2_with fail
    exact ⟨rfl, rfl, S2.out, B2.out⟩
  | ok x b l' =>
    rw [hq] at HC HM
    rw [PR.bind_ok]
    have hm : l'.length + 1 ≤ l.length := by
      obtain ⟨_, pre, u, e, _⟩ := HM.out
      rw [e]; simp
    clear HM
    go_enter Tryd.func54, Tryd.ntmps54
    go_wp2_with fail
    refine (HC.out _ S0).mono ?_
    rintro e1 w1 ⟨⟨nv, kv, rfl, n1⟩, s1, b1⟩
    obtain ⟨a1, q1, a2, q2, rfl, rfl⟩ := ndR_shape n1
    have hsz1 := b1.size
    simp only [World.size_alloc] at hsz1
    have AA := (Below.refl _ w1).alloc (Nat.le_refl _) (.cells (ndc x (.slice a1 x.names.length q1) (.slice a2 x.kids.length q2)) 26)
    have S1 := hid (s1.on AA)
    have B1 := hid (((But.of A.out).trans b1).trans (But.of AA))
    have Z1 := hid (blk_on (blk_but G0.out b1 (by omega)) AA)
    have G1 := hid (blk_new w1 26 (ndc x (.slice a1 x.names.length q1) (.slice a2 x.kids.length q2)))
    have N1 := hid (ndO_aft (aftO_below AA) (ndO_of (ok := fun b => w.heap.size + 1 ≤ b ∧ b ≠ w1.heap.size) n1 (fun b h1 h2 => ⟨by simpa using h1, by omega⟩)))
    clear b1 s1 n1 AA S0 A G0 HC hq
    unfold ndv
    unfold ndc at *
    have V1 := hid (words_on HV.out B1.out hlo)
    have hl1 : w.heap.size + 1 ≤ w1.heap.size := hsz1
    go_wp2_with fail
    refine (takeone_bt 4 (by decide) P L l' w.heap.size sv _ (by simp; omega) S1 V1).mono ?_
    rintro e3 w3 ⟨sv0, rfl, hbt, b3⟩
    have BT := hid hbt
    have B3 := hid (B1.out.trans b3)
    have Z3 := hid (blk_but Z1.out b3 (by omega))
    have G3 := hid (blk_but G1.out b3 (by omega))
    have N3 := hid (ndO_aft (aftO_but b3 (by omega)) N1.out)
    clear hbt b3 S1 B1 Z1 G1 N1 V1
    go_wp2_with fail
    go_loopw [8] (fun s wr => ∃ (g : Nat) (e : Nd) (c : Bool) (m : List Tok) (nv kv : Value), Hid (pMore f 4 x b l' = pMore g 4 e c m) ∧ 20 * m.length + 5 ≤ g ∧ g ≤ f ∧ Hid (But P w wr) ∧ Hid (Blk w.heap.size 26 znd wr) ∧ Hid (Blk w1.heap.size 26 (ndc e nv kv) wr) ∧ Hid (NdO (fun b => w.heap.size + 1 ≤ b ∧ b ≠ w1.heap.size) wr e nv kv) ∧ Hid (BtS P L 4 m s wr)) (fun _ wr => leftAt P L wr)
    case atStart => exact ⟨f, x, b, l', _, _, (show Hid (_ = _) from rfl), by omega, Nat.le_refl _, B3.out, Z3.out, G3.out, N3.out, BT.out⟩
    case round =>
      obtain ⟨g, e, c, m, nv, kv, hpe, hgm, hgf, hB, hZ, hG, hN, hS⟩ := hrel
      clear B3 Z3 G3 N3 BT
      obtain ⟨g, rfl⟩ : ∃ g', g = g' + 1 := ⟨g - 1, by omega⟩
      obtain ⟨b1, p1, b2, p2, rfl, rfl⟩ := ndO_shape hN.out
      have hg0 := blk_lt hZ.out
      have hg1 := blk_lt hG.out
      unfold znd ndc at *
      rcases hS.out with ⟨rfl, hsn, hst⟩ | ⟨t, q, k, o, sx, rfl, rfl, hst, hrt, hsn, hin, hpq⟩
      · have HE := hid (hpe.out.trans (show pMore (g + 1) 4 e c m = .ok e c m by rw [pMore, hsn]))
        have S4 := hid hst
        obtain ⟨r0, r1, r2, r3, r4, r5, r6⟩ := cells7 hG.out
        obtain ⟨z0, z1, z2, z3, z4, z5, z6⟩ := cells7 hZ.out
        obtain ⟨u0, u1, u2, u3, u4, u5, u6⟩ := frees7 hZ.out
        clear hpe hsn hst hS HR
        go_wp2_with fail
        have Z := fin_put hP (Nat.le_refl _) S4.out hB.out hZ.out (.int .i64 e.kind) (.int .i64 e.op) (.int .i64 e.num) (.string e.str) (.slice b1 e.names.length p1) (.slice b2 e.kids.length p2) (.int .i64 e.pl)
        refine bodyPost_ret (ret_nd rfl rfl Z.1) rfl ?_
        rw [HE.out]
        exact ⟨⟨_, _, rfl, ndR_of (ndO_aft (put7_aftO _ (by omega) _ _ _ _ _ _ _) hN.out) (fun b h => by omega)⟩, Z.2.1, Z.2.2⟩
      · have hxe := isT_ne hst hrt
        obtain ⟨oo, ho1, ho2, rfl, rfl, hsx⟩ : ∃ oo : Nat, 1 ≤ oo ∧ oo ≤ 11 ∧ k = 10 ∧ o = (oo : Int) ∧ sx.data.toList = signT (oo : Int) := by
          simp [sgR] at hin
          rcases hin with ⟨h1, rfl, rfl⟩ | ⟨h1, rfl, rfl⟩ | ⟨h1, rfl, rfl⟩ | ⟨h1, rfl, rfl⟩
          · exact ⟨6, by omega, by omega, rfl, rfl, h1⟩
          · exact ⟨7, by omega, by omega, rfl, rfl, h1⟩
          · exact ⟨8, by omega, by omega, rfl, rfl, h1⟩
          · exact ⟨9, by omega, by omega, rfl, rfl, h1⟩
        have HSX := hid hsx
        clear hsx
        have HE := hid (hpe.out.trans (show pMore (g + 1) 4 e c (t :: q) = (pRank g (4 + 1) q).bind fun e' _ l => pMore g 4 (ndO 10 oo [e, e']) false l by rw [pMore, hsn]; rfl))
        have HMq := hid ((may g).rank (4 + 1) q (pst_gt hpq))
        have HCq := hid (fun w' S => HR.out g (by omega) q w' (by simp at hgm; omega) S)
        have S2 := hid hpq
        clear hpe hsn hst hrt hS HR hin hpq
        cases hqq : pRank g (4 + 1) q with
        | bad m' =>
          rw [hqq] at HE HCq
          rw [PR.bind_bad] at HE
          obtain ⟨r0, r1, r2, r3, r4, r5, r6⟩ := cells7 hG.out
          go_wp2_with fail
          refine wp_region_held_drew (S := fun _ => True) (by kernel_rfl) trivial (fun hHeld => ?_)
          refine wpAnyH_take (i := 1) (v := ?v1) rfl (by kernel_rfl) (by kernel_rfl) (by kernel_rfl) (fun _ _ _ h => h) (Or.inl ⟨by rfl, ?hy1⟩) (by assumption) ?_
          case hy1 => (intro w hSw; go_simp <;> (try with_reducible rfl))
          simp only [Act.put, List.setIfInBounds_toArray, List.set_cons_zero, List.set_cons_succ, List.getElem_toArray, List.getElem_cons_succ, List.getElem_cons_zero]
          refine wpAnyH_take (i := 2) (v := ?v2) rfl (by kernel_rfl) (by kernel_rfl) (by kernel_rfl) (fun _ _ _ h => h) (Or.inl ⟨by rfl, ?hy2⟩) (by assumption) ?_
          case hy2 => (intro w hSw; go_simp <;> (try with_reducible rfl))
          simp only [Act.put, List.setIfInBounds_toArray, List.set_cons_zero, List.set_cons_succ, List.getElem_toArray, List.getElem_cons_succ, List.getElem_cons_zero]
          refine wpAnyH_ready (rs := [0, 3]) (by kernel_rfl) (by simp) ?_
          refine AllReadyH.cons rfl (fun K hK => ?_) (AllReadyH.cons rfl (fun K hK => ?_) AllReadyH.nil)
          · go_simp
            refine hK.out _ _ trivial (fun hHeld => ?_)
            clear hK K
            refine wpAnyH_ready (rs := [3]) (by kernel_rfl) (by simp) ?_
            refine AllReadyH.cons rfl (fun K hK => ?_) AllReadyH.nil
            have HK := hid hK
            clear hK
            go_simp
            refine (HCq.out _ (hid (S2.out.on (Below.refl _ _).drew))).mono ?_
            rintro e5 w5 ⟨rfl, s5, b5⟩
            have S5 := hid s5
            have B5 := hid ((hB.out.trans (But.of (Below.refl _ _).drew)).trans b5)
            clear s5 b5 HK
            unfold gaveUp
            go_wp2_with fail
            refine ⟨rfl, ?_⟩
            rw [HE.out]
            exact ⟨rfl, S5.out, B5.out⟩
          · have HK := hid hK
            clear hK
            go_simp
            refine (HCq.out _ (hid (S2.out.on (Below.refl _ _).drew))).mono ?_
            rintro e5 w5 ⟨rfl, s5, b5⟩
            have S5 := hid s5
            have B5 := hid ((hB.out.trans (But.of (Below.refl _ _).drew)).trans b5)
            clear s5 b5 HK
            unfold gaveUp
            go_wp2_with fail
            refine ⟨rfl, ?_⟩
            rw [HE.out]
            exact ⟨rfl, S5.out, B5.out⟩
        | ok x2 c2 m' =>
          rw [hqq] at HE HCq HMq
          rw [PR.bind_ok] at HE
          have hm2 : m'.length + 1 ≤ q.length := by
            obtain ⟨_, pre, u, e, _⟩ := HMq.out
            rw [e]; simp
          clear HMq
          obtain ⟨r0, r1, r2, r3, r4, r5, r6⟩ := cells7 hG.out
          go_wp2_with fail
          refine wp_region_held_drew (S := fun _ => True) (by kernel_rfl) trivial (fun hHeld => ?_)
          refine wpAnyH_take (i := 1) (v := ?v1) rfl (by kernel_rfl) (by kernel_rfl) (by kernel_rfl) (fun _ _ _ h => h) (Or.inl ⟨by rfl, ?hy1⟩) (by assumption) ?_
          case hy1 => (intro w hSw; go_simp <;> (try with_reducible rfl))
          simp only [Act.put, List.setIfInBounds_toArray, List.set_cons_zero, List.set_cons_succ, List.getElem_toArray, List.getElem_cons_succ, List.getElem_cons_zero]
          refine wpAnyH_take (i := 2) (v := ?v2) rfl (by kernel_rfl) (by kernel_rfl) (by kernel_rfl) (fun _ _ _ h => h) (Or.inl ⟨by rfl, ?hy2⟩) (by assumption) ?_
          case hy2 => (intro w hSw; go_simp <;> (try with_reducible rfl))
          simp only [Act.put, List.setIfInBounds_toArray, List.set_cons_zero, List.set_cons_succ, List.getElem_toArray, List.getElem_cons_succ, List.getElem_cons_zero]
          refine wpAnyH_ready (rs := [0, 3]) (by kernel_rfl) (by simp) ?_
          refine AllReadyH.cons rfl (fun K hK => ?_) (AllReadyH.cons rfl (fun K hK => ?_) AllReadyH.nil)
          · go_simp
            refine hK.out _ _ trivial (fun hHeld => ?_)
            clear hK K
            refine wpAnyH_ready (rs := [3]) (by kernel_rfl) (by simp) ?_
            refine AllReadyH.cons rfl (fun K hK => ?_) AllReadyH.nil
            have HK := hid hK
            clear hK
            go_simp
            refine (HCq.out _ (hid (S2.out.on (Below.refl _ _).drew))).mono ?_
            rintro e3 w3 ⟨⟨nv3, kv3, rfl, n3⟩, s3, b3⟩
            obtain ⟨f1, g1, f2, g2, rfl, rfl⟩ := ndR_shape n3
            have DR := (Below.refl wr.heap.size wr).drew
            have S3 := hid s3
            have B3 := hid ((hB.out.trans (But.of DR)).trans b3)
            have Z3 := hid (blk_but (blk_on hZ.out DR) b3 (by omega))
            have G3 := hid (blk_but (blk_on hG.out DR) b3 (by omega))
            have N3 := hid (ndO_aft (aftO_but b3 (by omega)) (ndO_aft (aftO_below DR) hN.out))
            have M3 := hid (ndO_of (ok := fun b => w.heap.size + 1 ≤ b ∧ b ≠ w1.heap.size) n3 (fun b h1 h2 => by simp at h1; omega))
            have hz3 := b3.size
            have hl3 : ∀ b, w3.heap.size ≤ b → w.heap.size + 1 ≤ b ∧ b ≠ w1.heap.size := by intro b hb; simp at hz3; omega
            clear s3 b3 n3 DR
            unfold ndv
            simp only
            refine HK.out.out _ _ trivial (fun hHeld => ?_)
            clear HK K
            refine wpAnyH_ready (rs := [4]) (by kernel_rfl) (by simp) ?_
            refine AllReadyH.cons rfl (fun K hK => ?_) AllReadyH.nil
            have HK := hid hK
            clear hK
            go_simp
            refine (join_sign oo ho1 ho2 sx HSX.out P _ e x2 _ _ _ _ _ (hid S3.out.sg) hl3 (hid N3.out) (hid M3.out)).mono ?_
            rintro e4 w4 ⟨⟨nv4, kv4, rfl, n4⟩, b4⟩
            obtain ⟨c1, d1, c3, d3, rfl, rfl⟩ := ndO_shape n4
            have S4 := hid (S3.out.on b4)
            have B4 := hid (B3.out.trans (But.of b4))
            have Z4 := hid (blk_on Z3.out b4)
            have G4 := hid (blk_on G3.out b4)
            have N4 := hid n4
            have hg4 := blk_lt G4.out
            obtain ⟨s0, s1, s2, s3, s4, s5, s6⟩ := cells7 G4.out
            obtain ⟨u0, u1, u2, u3, u4, u5, u6⟩ := frees7 G4.out
            clear b4 n4 S3 B3 Z3 G3 N3 M3
            unfold ndv
            simp only
            refine HK.out.out _ _ trivial (fun hHeld => ?_)
            clear HK K
            refine wpAnyH_ready (rs := [5]) (by kernel_rfl) (by simp) ?_
            refine AllReadyH.cons rfl (fun K hK => ?_) AllReadyH.nil
            have HK := hid hK
            clear hK
            go_simp
            refine HK.out.out _ _ trivial (fun hHeld => ?_)
            clear HK K
            refine wpAnyH_done (by kernel_rfl) ?_ _
            have F := fin_put hP (by omega) S4.out B4.out G4.out (.int .i64 (ndO 10 oo [e, x2]).kind) (.int .i64 (ndO 10 oo [e, x2]).op) (.int .i64 (ndO 10 oo [e, x2]).num) (.string (ndO 10 oo [e, x2]).str) (.slice c1 (ndO 10 oo [e, x2]).names.length d1) (.slice c3 (ndO 10 oo [e, x2]).kids.length d3) (.int .i64 (ndO 10 oo [e, x2]).pl)
            have Z5 := hid (blk_put7 (g := w1.heap.size) Z4.out (by omega) (.int .i64 (ndO 10 oo [e, x2]).kind) (.int .i64 (ndO 10 oo [e, x2]).op) (.int .i64 (ndO 10 oo [e, x2]).num) (.string (ndO 10 oo [e, x2]).str) (.slice c1 (ndO 10 oo [e, x2]).names.length d1) (.slice c3 (ndO 10 oo [e, x2]).kids.length d3) (.int .i64 (ndO 10 oo [e, x2]).pl))
            have N5 := hid (ndO_aft (put7_aftO (g := w1.heap.size) w4 (by simp) (.int .i64 (ndO 10 oo [e, x2]).kind) (.int .i64 (ndO 10 oo [e, x2]).op) (.int .i64 (ndO 10 oo [e, x2]).num) (.string (ndO 10 oo [e, x2]).str) (.slice c1 (ndO 10 oo [e, x2]).names.length d1) (.slice c3 (ndO 10 oo [e, x2]).kids.length d3) (.int .i64 (ndO 10 oo [e, x2]).pl)) N4.out)
            have G5 := hid F.1
            have S5 := hid F.2.1
            have B5 := hid F.2.2
            have V5 := hid (words_on HV.out F.2.2 hlo)
            have hz5 := F.2.2.size
            clear F S4 B4 Z4 G4 N4 s0 s1 s2 s3 s4 s5 s6 u0 u1 u2 u3 u4 u5 u6 hHeld r0 r1 r2 r3 r4 r5 r6
            unfold put7w at Z5 N5 G5 S5 B5 V5 hz5
            obtain ⟨w5, hw5⟩ : ∃ w5, (((((((w4.setCell ⟨w1.heap.size, 0, none⟩ (.int .i64 (ndO 10 oo [e, x2]).kind)).setCell ⟨w1.heap.size, 1, none⟩ (.int .i64 (ndO 10 oo [e, x2]).op)).setCell ⟨w1.heap.size, 2, none⟩ (.int .i64 (ndO 10 oo [e, x2]).num)).setCell ⟨w1.heap.size, 3, none⟩ (.string (ndO 10 oo [e, x2]).str)).setCell ⟨w1.heap.size, 4, none⟩ (.slice c1 (ndO 10 oo [e, x2]).names.length d1)).setCell ⟨w1.heap.size, 5, none⟩ (.slice c3 (ndO 10 oo [e, x2]).kids.length d3)).setCell ⟨w1.heap.size, 6, none⟩ (.int .i64 (ndO 10 oo [e, x2]).pl)) = w5 := ⟨_, rfl⟩
            rw [hw5] at Z5 N5 G5 S5 B5 V5 hz5 ⊢
            clear hw5 hg4
            go_wp2_with fail
            refine (takeone_bt 4 (by decide) P L m' w.heap.size sv _ hz5 S5 V5).mono ?_
            rintro e6 w6 ⟨sv6, rfl, hbt, b6⟩
            have BT6 := hid hbt
            have B6 := hid (B5.out.trans b6)
            have Z6 := hid (blk_but Z5.out b6 (by omega))
            have G6 := hid (blk_but G5.out b6 (by omega))
            have N6 := hid (ndO_aft (aftO_but b6 (by omega)) N5.out)
            have HLE := hid (show leftAt P L w6 < leftAt P L wr by
              have h1 := left_is S2.out
              have h2 : leftAt P L w6 ≤ m'.length := by
                rcases hbt with ⟨_, _, h⟩ | ⟨_, _, _, _, _, e, _, _, _, _, _, h⟩
                · exact Nat.le_of_eq (left_is h)
                · rw [left_is h, e]; simp
              omega)
            clear hbt b6 S5 B5 Z5 G5 N5 V5 S2 hB hZ hG hN
            go_wp2_with fail
            go_roundw
            case rel => exact ⟨g, _, false, m', _, _, HE.out, by simp at hgm; omega, by omega, B6.out, Z6.out, G6.out, N6.out, BT6.out⟩
            case measure => exact HLE.out
          · have HK := hid hK
            clear hK
            go_simp
            refine (HCq.out _ (hid (S2.out.on (Below.refl _ _).drew))).mono ?_
            rintro e3 w3 ⟨⟨nv3, kv3, rfl, n3⟩, s3, b3⟩
            obtain ⟨f1, g1, f2, g2, rfl, rfl⟩ := ndR_shape n3
            have DR := (Below.refl wr.heap.size wr).drew
            have S3 := hid s3
            have B3 := hid ((hB.out.trans (But.of DR)).trans b3)
            have Z3 := hid (blk_but (blk_on hZ.out DR) b3 (by omega))
            have G3 := hid (blk_but (blk_on hG.out DR) b3 (by omega))
            have N3 := hid (ndO_aft (aftO_but b3 (by omega)) (ndO_aft (aftO_below DR) hN.out))
            have M3 := hid (ndO_of (ok := fun b => w.heap.size + 1 ≤ b ∧ b ≠ w1.heap.size) n3 (fun b h1 h2 => by simp at h1; omega))
            have hz3 := b3.size
            have hl3 : ∀ b, w3.heap.size ≤ b → w.heap.size + 1 ≤ b ∧ b ≠ w1.heap.size := by intro b hb; simp at hz3; omega
            clear s3 b3 n3 DR
            unfold ndv
            simp only
            refine HK.out.out _ _ trivial (fun hHeld => ?_)
            clear HK K
            obtain ⟨t0, t1, t2, t3, t4, t5, t6⟩ := cells7 G3.out
            refine wpAnyH_ready (rs := [0]) (by kernel_rfl) (by simp) ?_
            refine AllReadyH.cons rfl (fun K hK => ?_) AllReadyH.nil
            have HK := hid hK
            clear hK
            go_simp
            refine HK.out.out _ _ trivial (fun hHeld => ?_)
            clear HK K t0 t1 t2 t3 t4 t5 t6
            refine wpAnyH_ready (rs := [4]) (by kernel_rfl) (by simp) ?_
            refine AllReadyH.cons rfl (fun K hK => ?_) AllReadyH.nil
            have HK := hid hK
            clear hK
            go_simp
            refine (join_sign oo ho1 ho2 sx HSX.out P _ e x2 _ _ _ _ _ (hid S3.out.sg) hl3 (hid N3.out) (hid M3.out)).mono ?_
            rintro e4 w4 ⟨⟨nv4, kv4, rfl, n4⟩, b4⟩
            obtain ⟨c1, d1, c3, d3, rfl, rfl⟩ := ndO_shape n4
            have S4 := hid (S3.out.on b4)
            have B4 := hid (B3.out.trans (But.of b4))
            have Z4 := hid (blk_on Z3.out b4)
            have G4 := hid (blk_on G3.out b4)
            have N4 := hid n4
            have hg4 := blk_lt G4.out
            obtain ⟨s0, s1, s2, s3, s4, s5, s6⟩ := cells7 G4.out
            obtain ⟨u0, u1, u2, u3, u4, u5, u6⟩ := frees7 G4.out
            clear b4 n4 S3 B3 Z3 G3 N3 M3
            unfold ndv
            simp only
            refine HK.out.out _ _ trivial (fun hHeld => ?_)
            clear HK K
            refine wpAnyH_ready (rs := [5]) (by kernel_rfl) (by simp) ?_
            refine AllReadyH.cons rfl (fun K hK => ?_) AllReadyH.nil
            have HK := hid hK
            clear hK
            go_simp
            refine HK.out.out _ _ trivial (fun hHeld => ?_)
            clear HK K
            refine wpAnyH_done (by kernel_rfl) ?_ _
            have F := fin_put hP (by omega) S4.out B4.out G4.out (.int .i64 (ndO 10 oo [e, x2]).kind) (.int .i64 (ndO 10 oo [e, x2]).op) (.int .i64 (ndO 10 oo [e, x2]).num) (.string (ndO 10 oo [e, x2]).str) (.slice c1 (ndO 10 oo [e, x2]).names.length d1) (.slice c3 (ndO 10 oo [e, x2]).kids.length d3) (.int .i64 (ndO 10 oo [e, x2]).pl)
            have Z5 := hid (blk_put7 (g := w1.heap.size) Z4.out (by omega) (.int .i64 (ndO 10 oo [e, x2]).kind) (.int .i64 (ndO 10 oo [e, x2]).op) (.int .i64 (ndO 10 oo [e, x2]).num) (.string (ndO 10 oo [e, x2]).str) (.slice c1 (ndO 10 oo [e, x2]).names.length d1) (.slice c3 (ndO 10 oo [e, x2]).kids.length d3) (.int .i64 (ndO 10 oo [e, x2]).pl))
            have N5 := hid (ndO_aft (put7_aftO (g := w1.heap.size) w4 (by simp) (.int .i64 (ndO 10 oo [e, x2]).kind) (.int .i64 (ndO 10 oo [e, x2]).op) (.int .i64 (ndO 10 oo [e, x2]).num) (.string (ndO 10 oo [e, x2]).str) (.slice c1 (ndO 10 oo [e, x2]).names.length d1) (.slice c3 (ndO 10 oo [e, x2]).kids.length d3) (.int .i64 (ndO 10 oo [e, x2]).pl)) N4.out)
            have G5 := hid F.1
            have S5 := hid F.2.1
            have B5 := hid F.2.2
            have V5 := hid (words_on HV.out F.2.2 hlo)
            have hz5 := F.2.2.size
            clear F S4 B4 Z4 G4 N4 s0 s1 s2 s3 s4 s5 s6 u0 u1 u2 u3 u4 u5 u6 hHeld r0 r1 r2 r3 r4 r5 r6
            unfold put7w at Z5 N5 G5 S5 B5 V5 hz5
            obtain ⟨w5, hw5⟩ : ∃ w5, (((((((w4.setCell ⟨w1.heap.size, 0, none⟩ (.int .i64 (ndO 10 oo [e, x2]).kind)).setCell ⟨w1.heap.size, 1, none⟩ (.int .i64 (ndO 10 oo [e, x2]).op)).setCell ⟨w1.heap.size, 2, none⟩ (.int .i64 (ndO 10 oo [e, x2]).num)).setCell ⟨w1.heap.size, 3, none⟩ (.string (ndO 10 oo [e, x2]).str)).setCell ⟨w1.heap.size, 4, none⟩ (.slice c1 (ndO 10 oo [e, x2]).names.length d1)).setCell ⟨w1.heap.size, 5, none⟩ (.slice c3 (ndO 10 oo [e, x2]).kids.length d3)).setCell ⟨w1.heap.size, 6, none⟩ (.int .i64 (ndO 10 oo [e, x2]).pl)) = w5 := ⟨_, rfl⟩
            rw [hw5] at Z5 N5 G5 S5 B5 V5 hz5 ⊢
            clear hw5 hg4
            go_wp2_with fail
            refine (takeone_bt 4 (by decide) P L m' w.heap.size sv _ hz5 S5 V5).mono ?_
            rintro e6 w6 ⟨sv6, rfl, hbt, b6⟩
            have BT6 := hid hbt
            have B6 := hid (B5.out.trans b6)
            have Z6 := hid (blk_but Z5.out b6 (by omega))
            have G6 := hid (blk_but G5.out b6 (by omega))
            have N6 := hid (ndO_aft (aftO_but b6 (by omega)) N5.out)
            have HLE := hid (show leftAt P L w6 < leftAt P L wr by
              have h1 := left_is S2.out
              have h2 : leftAt P L w6 ≤ m'.length := by
                rcases hbt with ⟨_, _, h⟩ | ⟨_, _, _, _, _, e, _, _, _, _, _, h⟩
                · exact Nat.le_of_eq (left_is h)
                · rw [left_is h, e]; simp
              omega)
            clear hbt b6 S5 B5 Z5 G5 N5 V5 S2 hB hZ hG hN
            go_wp2_with fail
            go_roundw
            case rel => exact ⟨g, _, false, m', _, _, HE.out, by simp at hgm; omega, by omega, B6.out, Z6.out, G6.out, N6.out, BT6.out⟩
            case measure => exact HLE.out

set_option maxHeartbeats 3200000 in
theorem rank_4 (f : Nat) (hR : ∀ g, g ≤ f → RankC g) (P : Nat) (L l : List Tok) (w : World) (hf : 20 * l.length + (10 - 4) ≤ f) (H : Hid (PSt P L w l)) :
    Calls Tryd.prog 75 #[.pointer (some ⟨P, 0, none⟩)] w (Reads P L w ((pRank f (4 + 1) l).bind fun e b l => pMore f 4 e b l)) := by
  have hP := H.out.lt
  have A1 := (Below.refl _ w).alloc (Nat.le_refl _) (.cells znd 26)
  have A2 := (Below.refl _ (w.alloc (.cells znd 26))).alloc (Nat.le_refl _) (.cells #[.string ⟨#[60]⟩, .string ⟨#[60, 61]⟩, .string ⟨#[62]⟩, .string ⟨#[62, 61]⟩] 9)
  have A := hid (below_on A1 A2)
  have S0 := hid (H.out.on A.out)
  have G0 := hid (blk_on (blk_new w 26 znd) A2)
  have V0 := hid (show StR (w.heap.size + 1) ((w.alloc (.cells znd 26)).alloc (.cells #[.string ⟨#[60]⟩, .string ⟨#[60, 61]⟩, .string ⟨#[62]⟩, .string ⟨#[62, 61]⟩] 9)) (.slice (some ⟨w.heap.size + 1, 0, none⟩) 4 4) [⟨#[60]⟩, ⟨#[60, 61]⟩, ⟨#[62]⟩, ⟨#[62, 61]⟩] from by
    have hb := blk_new (w.alloc (.cells znd 26)) 9 #[.string ⟨#[60]⟩, .string ⟨#[60, 61]⟩, .string ⟨#[62]⟩, .string ⟨#[62, 61]⟩]
    simp only [World.size_alloc] at hb
    refine .inr ⟨w.heap.size + 1, 0, 4, rfl, ⟨Nat.le_refl _, by simp⟩, fun i hi => ?_, Nat.le_refl _⟩
    rw [blk_cell hb]
    simp only [List.length_cons, List.length_nil] at hi
    rcases (show i = 0 ∨ i = 1 ∨ i = 2 ∨ i = 3 by omega) with rfl | rfl | rfl | rfl <;> rfl)
  have HC := hid (fun w' S V => between_4 f hR (w.heap.size + 1) P L l (.slice (some ⟨w.heap.size + 1, 0, none⟩) 4 4) w' hf (by omega) S V)
  unfold znd at *
  clear H hR A1 A2
  cases hq : (pRank f (4 + 1) l).bind fun e b l => pMore f 4 e b l with
  | bad l' =>
    simp only [hq] at HC
    go_enter Tryd.func75, Tryd.ntmps75
    go_wp2_with fail
    refine (HC.out _ S0 V0).mono ?_
    rintro e w2 ⟨rfl, s2, b2⟩
    have S2 := hid s2
    have B2 := hid ((But.of A.out).trans b2)
    clear s2 b2 S0 A G0 HC V0
    unfold gaveUp
    go_wp2_with fail
    exact ⟨rfl, rfl, S2.out, B2.out⟩
  | ok x b l' =>
    simp only [hq] at HC
    go_enter Tryd.func75, Tryd.ntmps75
    go_wp2_with fail
    refine (HC.out _ S0 V0).mono ?_
    rintro e w2 ⟨⟨nv, kv, rfl, n2⟩, s2, b2⟩
    obtain ⟨a1, q1, a2, q2, rfl, rfl⟩ := ndR_shape n2
    have S3 := hid s2
    have N3 := hid (ndR_low (lo' := w.heap.size + 1) (by simp) n2)
    have B3 := hid ((But.of A.out).trans b2)
    have G3 := hid (blk_but G0.out b2 (by omega))
    have hg3 := blk_lt G3.out
    obtain ⟨r0, r1, r2, r3, r4, r5, r6⟩ := cells7 G3.out
    obtain ⟨u0, u1, u2, u3, u4, u5, u6⟩ := frees7 G3.out
    clear s2 b2 S0 A G0 HC n2 V0
    unfold ndv
    go_wp2_with fail
    have Z := fin_put hP (Nat.le_refl _) S3.out B3.out G3.out (.int .i64 x.kind) (.int .i64 x.op) (.int .i64 x.num) (.string x.str) (.slice a1 x.names.length q1) (.slice a2 x.kids.length q2) (.int .i64 x.pl)
    exact bodyPost_ret (ret_nd rfl rfl Z.1) rfl ⟨⟨_, _, rfl, ndR_low (Nat.le_succ _) (ndR_aft (put7_aft w2 (Nat.lt_succ_self _) _ _ _ _ _ _ _) N3.out)⟩, Z.2.1, Z.2.2⟩

end Go.Proofs.YtijbiedblahmhaaDoor
