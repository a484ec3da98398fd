/- The plain parser's lists as lists with a closure. A list with a closure. -/
import Derived.Test.YtijbiedblahmhaaDoorPsObj1
import Derived.Test.YtijbiedblahmhaaDoorJoint11
import Derived.Test.YtijbiedblahmhaaDoorJoint15
namespace Go.Proofs.YtijbiedblahmhaaDoor
open Go.RowKit

/-- as the plain parser tells it -/
def PG.toL : PG (List ByteArray × List Nd) → PL
  | .ok s l => .ok s.1 s.2 l
  | .bad l => .bad l
theorem gEnd_toL (en : UInt8) (ns : List ByteArray) (ks : List Nd) (l : List Tok) : PG.toL (gEnd en (ns, ks) l) = mustL [en] l fun l => .ok ns ks l := by
  unfold gEnd Go.Proofs.YtijbiedblahmhaaDoor.mustL
  split <;> rfl
theorem field_step (f : Nat) (ns : List ByteArray) (ks : List Nd) (l : List Tok) (k : List ByteArray × List Nd → List Tok → PG (List ByteArray × List Nd)) (h : ∀ ns ks l, pObjM f ns ks l = PG.toL (k (ns, ks) l)) :
    pField (f + 1) ns ks l = PG.toL ((obStep f (ns, ks) l).bind k) := by
  rw [pField]
  unfold Go.Proofs.YtijbiedblahmhaaDoor.wordL Go.Proofs.YtijbiedblahmhaaDoor.mustL obStep
  by_cases hw : isW true l = true
  · simp only [if_pos hw]
    by_cases hh : isH l.tail [58] = true
    · simp only [if_pos hh]
      cases pRank f 1 l.tail.tail with
      | bad m => rfl
      | ok x b m => rw [PR.bindL_ok, h]; rfl
    · simp only [if_neg hh]; rfl
  · simp only [if_neg hw]; rfl
theorem objM_is : ∀ (f : Nat) (ns : List ByteArray) (ks : List Nd) (l : List Tok), pObjM f ns ks l = PG.toL (gMore obStep (fun s => s.2.length) 40 125 f (ns, ks) l)
  | 0, ns, ks, l => by rw [pObjM, gMore]; rfl
  | 1, ns, ks, l => by
    rw [pObjM, gMore]
    split
    · rw [pField]; rfl
    · rw [gEnd_toL]
  | f + 2, ns, ks, l => by
    rw [pObjM, gMore]
    split
    · exact field_step f ns ks _ _ (fun ns ks l => objM_is f ns ks l)
    · rw [gEnd_toL]
theorem obj_is (f : Nat) (l : List Tok) : pObj (f + 2) l = PG.toL (gList obStep (fun s => s.2.length) 40 125 f ([], []) l) := by
  rw [pObj]
  unfold gList
  split
  · rfl
  · exact field_step f [] [] l _ (fun ns ks l => objM_is f ns ks l)
theorem par_is : ∀ (k : Nat) (ns : List ByteArray) (l : List Tok) (f : Nat), ns.length + (k + 1) = 6 → 2 * k + 1 ≤ f →
    pPar (k + 1) ns l = PG.toL ((nmStep f (ns, []) l).bind fun s l => gMore nmStep (fun s => s.1.length) 6 41 f s l)
  | 0, ns, l, f, hn, hf => by
    rw [pPar]
    unfold Go.Proofs.YtijbiedblahmhaaDoor.wordL
    by_cases hw : isW false l = true
    · have e : nmStep f (ns, []) l = .ok (ns ++ [(cur l).text], []) l.tail := by unfold nmStep; rw [if_pos hw]
      simp only [if_pos hw]
      rw [e, PG.bind_ok]
      obtain ⟨f, rfl⟩ : ∃ g, f = g + 1 := ⟨f - 1, by omega⟩
      rw [if_neg (by simp)]
      have hc : ¬ ((ns ++ [(cur l).text]).length < 6 ∧ isH l.tail [44] = true) := by simp; omega
      cases f with
      | zero => rw [gMore, if_neg hc, gEnd_toL]
      | succ f => rw [gMore, if_neg hc, gEnd_toL]
    · have e : nmStep f (ns, []) l = .bad l := by unfold nmStep; rw [if_neg hw]
      rw [if_neg hw, e]; rfl
  | k + 1, ns, l, f, hn, hf => by
    rw [pPar]
    unfold Go.Proofs.YtijbiedblahmhaaDoor.wordL
    by_cases hw : isW false l = true
    · have e : nmStep f (ns, []) l = .ok (ns ++ [(cur l).text], []) l.tail := by unfold nmStep; rw [if_pos hw]
      simp only [if_pos hw]
      rw [e, PG.bind_ok]
      obtain ⟨f, rfl⟩ : ∃ g, f = g + 2 := ⟨f - 2, by omega⟩
      by_cases hh : isH l.tail [44] = true
      · rw [if_pos ⟨by omega, hh⟩, gMore, if_pos ⟨by simp; omega, hh⟩]
        exact par_is k _ _ f (by simp; omega) (by omega)
      · rw [if_neg (fun h => hh h.2), gMore, if_neg (fun h => hh h.2), gEnd_toL]
    · rw [if_neg hw]
      have e : nmStep f (ns, []) l = .bad l := by unfold nmStep; rw [if_neg hw]
      rw [e]; rfl
theorem pars_is (f : Nat) (hf : 11 ≤ f) (l : List Tok) : pPars l = PG.toL (gList nmStep (fun s => s.1.length) 6 41 f ([], []) l) := by
  unfold pPars gList
  split
  · rfl
  · exact par_is 5 [] l f (by simp) (by omega)

end Go.Proofs.YtijbiedblahmhaaDoor

namespace Go.Proofs.YtijbiedblahmhaaDoor
open Go.RowKit

set_option maxRecDepth 100000 in
set_option maxHeartbeats 12800000 in
theorem glist_emptyO (most : Nat) (en : UInt8) (c1 c2 : Value) (σ : Type) (I : σ → World → Prop) (P lo : Nat) (L : List Tok) (hI : ∀ (s : σ) (a b : World), I s a → But P a b → I s b) (t : Tok) (q : List Tok) (s : σ) (w : World) (hlw : lo ≤ w.heap.size)
    (H : Hid (PSt P L w (t :: q))) (HS : Hid (I s w)) (ht : isT t [en] = true) :
    Calls Tryd.prog 80 #[.pointer (some ⟨P, 0, none⟩), .int .i64 most, .string ⟨#[en]⟩, .func (.func 86) #[] #[c1, c2]] w (ReadsG I lo P L w (.ok s q)) := by
  have HT := hid (show isT t (⟨#[en]⟩ : ByteArray).data.toList = true from ht)
  have HI := hid hI
  clear ht hI
  go_enter Tryd.func80, Tryd.ntmps80
  go_wp2_with fail
  refine (take_yes P L t q ⟨#[en]⟩ _ H HT.out).mono ?_
  rintro e w1 ⟨rfl, s1, b1⟩
  have S1 := hid s1
  have I1 := hid (HI.out _ _ _ HS.out b1)
  have B1 := hid (ButLo.of (lo := lo) b1 hlw)
  clear s1 b1 H HS HT HI
  go_wp2_with fail
  go_end0
  exact ⟨rfl, I1.out, S1.out, B1.out⟩

set_option maxRecDepth 100000 in
set_option maxHeartbeats 12800000 in
theorem glist_oneO (most : Nat) (en : UInt8) (c1 c2 : Value) (σ : Type) (I : σ → World → Prop) (P lo : Nat) (L : List Tok) (hI : ∀ (s : σ) (a b : World), I s a → But P a b → I s b) (cnt : σ → Nat) (step : Nat → σ → List Tok → PG σ) (f : Nat) (hC : PartC 86 c1 c2 I cnt most step lo P L f) (l : List Tok) (s : σ) (w : World) (hf : 20 * l.length + 10 ≤ f) (hk : cnt s < most) (hlw : lo ≤ w.heap.size)
    (H : Hid (PSt P L w l)) (HS : Hid (I s w)) (hn : isH l [en] = false) (l1 : List Tok) (hq : step f s l = .bad l1) :
    Calls Tryd.prog 80 #[.pointer (some ⟨P, 0, none⟩), .int .i64 most, .string ⟨#[en]⟩, .func (.func 86) #[] #[c1, c2]] w (ReadsG I lo P L w (.bad l1)) := by
  have HN := hid (show isH l (⟨#[en]⟩ : ByteArray).data.toList = false from hn)
  have HC := hid hC
  have HI := hid hI
  clear hC hn hI
  go_enter Tryd.func80, Tryd.ntmps80
  go_wp2_with fail
  refine (take_no P L l ⟨#[en]⟩ _ H HN.out).mono ?_
  rintro e w1 ⟨rfl, b1⟩
  have S1 := hid (H.out.on b1)
  have I1 := hid (HI.out _ _ _ HS.out (But.of b1))
  have B1 := hid (ButLo.of (lo := lo) (But.of (P := P) b1) hlw)
  have hz1 := b1.size
  clear b1 H HS HN
  go_wp2_with fail
  have CC := HC.out s l w1 hf hk (by omega) S1 I1
  rw [hq] at CC
  refine CC.mono ?_
  rintro e w2 ⟨rfl, s2, b2⟩
  have S2 := hid s2
  have B2 := hid (B1.out.trans b2)
  clear s2 b2 CC S1 I1 B1 HC HI
  unfold gaveUp
  go_wp2_with fail
  exact ⟨rfl, rfl, S2.out, B2.out⟩

set_option maxRecDepth 100000 in
set_option maxHeartbeats 12800000 in
theorem glist_moreO (most : Nat) (en : UInt8) (c1 c2 : Value) (σ : Type) (I : σ → World → Prop) (P lo : Nat) (L : List Tok) (hI : ∀ (s : σ) (a b : World), I s a → But P a b → I s b) (cnt : σ → Nat) (step : Nat → σ → List Tok → PG σ) (f : Nat) (hmo : most ≤ 40) (hC : ∀ g, g ≤ f → PartC 86 c1 c2 I cnt most step lo P L g) (hL : ∀ (g : Nat) (s s' : σ) (l l' : List Tok) (w : World), PSt P L w l → step g s l = .ok s' l' → l'.length + 1 ≤ l.length ∧ cnt s' = cnt s + 1)
    (l : List Tok) (s : σ) (w : World) (hf : 20 * l.length + 10 ≤ f) (hk : cnt s = 0) (hm0 : 0 < most) (hlw : lo ≤ w.heap.size)
    (H : Hid (PSt P L w l)) (HS : Hid (I s w)) (hn : isH l [en] = false) (s1 : σ) (l1 : List Tok) (hq : step f s l = .ok s1 l1) :
    Calls Tryd.prog 80 #[.pointer (some ⟨P, 0, none⟩), .int .i64 most, .string ⟨#[en]⟩, .func (.func 86) #[] #[c1, c2]] w (ReadsG I lo P L w (gMore step cnt most en f s1 l1)) := by
  have HN := hid (show isH l (⟨#[en]⟩ : ByteArray).data.toList = false from hn)
  have HC := hid hC
  have HI := hid hI
  have HL := hid hL
  obtain ⟨hl1, hc1⟩ := hL f s s1 l l1 w H.out hq
  clear hC hn hI hL
  go_enter Tryd.func80, Tryd.ntmps80
  go_wp2_with fail
  refine (take_no P L l ⟨#[en]⟩ _ H HN.out).mono ?_
  rintro e w1 ⟨rfl, b1⟩
  have S1 := hid (H.out.on b1)
  have I1 := hid (HI.out _ _ _ HS.out (But.of b1))
  have B1 := hid (ButLo.of (lo := lo) (But.of (P := P) b1) hlw)
  have hz1 := b1.size
  clear b1 H HS HN
  go_wp2_with fail
  have CC := HC.out f (Nat.le_refl _) s l w1 hf (by omega) (by omega) S1 I1
  rw [hq] at CC
  refine CC.mono ?_
  rintro e w2 ⟨rfl, i2, s2, b2⟩
  have I2 := hid i2
  have S2 := hid s2
  have B2 := hid (B1.out.trans b2)
  clear i2 s2 b2 CC S1 I1 B1
  go_wp2_with fail
  go_loopw [8] (fun i wr => ∃ (g : Nat) (s' : σ) (m : List Tok) (n : Nat), Hid (gMore step cnt most en f s1 l1 = gMore step cnt most en g s' m) ∧ i = .int .i64 n ∧ n = cnt s' ∧ n ≤ most ∧ 20 * m.length + 25 ≤ g ∧ g ≤ f ∧ Hid (PSt P L wr m) ∧ Hid (I s' wr) ∧ Hid (ButLo lo P w wr)) (fun _ wr => leftAt P L wr)
  case atStart => exact ⟨f, s1, l1, 1, (show Hid (_ = _) from rfl), rfl, by omega, by omega, by omega, Nat.le_refl _, S2.out, I2.out, B2.out⟩
  case round =>
    obtain ⟨g, s', m, n, hE, rfl, hn, hnm, hgm, hgf, hS, hII, hB⟩ := hrel
    clear S2 I2 B2
    obtain ⟨g, rfl⟩ : ∃ g', g = g' + 2 := ⟨g - 2, by omega⟩
    have hzr := hB.out.size
    have LW := hid (left_is hS.out)
    by_cases h7 : n < most
    · by_cases h44 : isH m [44] = true
      · obtain ⟨u, z, rfl, hu⟩ := isH_some h44
        have HE := hid (hE.out.trans (gMore_more ⟨hn ▸ h7, h44⟩))
        have HU := hid hu
        have hzl : 20 * z.length + 10 ≤ g := by simp at hgm; omega
        clear hE h44 hu
        cases hq2 : step g s' z with
        | bad l3 =>
          rw [hq2] at HE
          go_wp2_with fail
          refine (take_yes P L u z ⟨#[44]⟩ _ hS HU.out).mono ?_
          rintro e w3 ⟨rfl, s3, b3⟩
          have S3 := hid s3
          have I3 := hid (HI.out _ _ _ hII.out b3)
          have B3 := hid (hB.out.trans (ButLo.of b3 (by omega)))
          have hz3 := b3.size
          clear s3 b3 hS hII hB HU LW
          go_wp2_with fail
          have CC := HC.out g (by omega) s' z w3 hzl (by omega) (by omega) S3 I3
          rw [hq2] at CC
          refine CC.mono ?_
          rintro e w4 ⟨rfl, s4, b4⟩
          have S4 := hid s4
          have B4 := hid (B3.out.trans b4)
          clear s4 b4 CC S3 I3 B3 HC
          unfold gaveUp
          go_wp2_with fail
          refine ⟨rfl, ?_⟩
          rw [HE.out]
          exact ⟨rfl, S4.out, B4.out⟩
        | ok s3' l3 =>
          have HL3 := hid (fun (w' : World) (S : PSt P L w' z) => HL.out g s' s3' z l3 w' S hq2)
          rw [hq2] at HE
          go_wp2_with fail
          refine (take_yes P L u z ⟨#[44]⟩ _ hS HU.out).mono ?_
          rintro e w3 ⟨rfl, s3, b3⟩
          obtain ⟨hl3, hc3⟩ := HL3.out w3 s3
          have S3 := hid s3
          have I3 := hid (HI.out _ _ _ hII.out b3)
          have B3 := hid (hB.out.trans (ButLo.of b3 (by omega)))
          have hz3 := b3.size
          clear s3 b3 hS hII hB HU HL3
          go_wp2_with fail
          have CC := HC.out g (by omega) s' z w3 hzl (by omega) (by omega) S3 I3
          rw [hq2] at CC
          refine CC.mono ?_
          rintro e w4 ⟨rfl, i4, s4, b4⟩
          have I4 := hid i4
          have S4 := hid s4
          have B4 := hid (B3.out.trans b4)
          have HLE := hid (show leftAt P L w4 < leftAt P L wr by rw [left_is s4, LW.out]; simp; omega)
          have HE4 := hid (HE.out.trans (PG.bind_ok s3' l3 _))
          clear i4 s4 b4 CC S3 I3 B3 HE LW
          go_wp2_with fail
          go_roundw
          case rel => exact ⟨g, s3', l3, n + 1, HE4.out, by go_num, by omega, by omega, by simp at hgm; omega, by omega, S4.out, I4.out, B4.out⟩
          case measure => exact HLE.out
      · have hE' := hE.out.trans (gMore_stop (fun h => h44 h.2))
        have H44 := hid (show isH m (⟨#[44]⟩ : ByteArray).data.toList = false by simpa using h44)
        clear hE h44 HC LW HL
        by_cases he : isH m [en] = true
        · obtain ⟨u, z, rfl, hu⟩ := isH_some he
          have HE := hid (hE'.trans (gEnd_yes he))
          have HU := hid (show isT u (⟨#[en]⟩ : ByteArray).data.toList = true from hu)
          clear hE' he hu
          go_wp2_with fail
          refine (take_no P L (u :: z) ⟨#[44]⟩ _ hS H44.out).mono ?_
          rintro e w4 ⟨rfl, b4⟩
          have S4 := hid (hS.out.on b4)
          have I4 := hid (HI.out _ _ _ hII.out (But.of b4))
          have B4 := hid (hB.out.trans (ButLo.of (But.of (P := P) b4) (by omega)))
          have hz4 := b4.size
          clear b4 H44
          go_wp2_with fail
          refine (must_yes P L u z ⟨#[en]⟩ _ S4 HU.out).mono ?_
          rintro e w5 ⟨rfl, s5, b5⟩
          have S5 := hid s5
          have I5 := hid (HI.out _ _ _ I4.out b5)
          have B5 := hid (B4.out.trans (ButLo.of b5 (by omega)))
          clear s5 b5
          go_wp2_with fail
          go_end0
          rw [HE.out]
          exact ⟨rfl, I5.out, S5.out, B5.out⟩
        · have HE := hid (hE'.trans (gEnd_no he))
          have HN := hid (show isH m (⟨#[en]⟩ : ByteArray).data.toList = false by simpa using he)
          clear hE' he
          go_wp2_with fail
          refine (take_no P L m ⟨#[44]⟩ _ hS H44.out).mono ?_
          rintro e w4 ⟨rfl, b4⟩
          have S4 := hid (hS.out.on b4)
          have I4 := hid (HI.out _ _ _ hII.out (But.of b4))
          have B4 := hid (hB.out.trans (ButLo.of (But.of (P := P) b4) (by omega)))
          have hz4 := b4.size
          clear b4 H44
          go_wp2_with fail
          refine (must_no P L m ⟨#[en]⟩ _ S4 HN.out).mono ?_
          rintro e w5 ⟨rfl, b5⟩
          have S5 := hid (S4.out.on b5)
          have B5 := hid (B4.out.trans (ButLo.of (But.of (P := P) b5) (by omega)))
          clear b5
          unfold gaveUp
          go_wp2_with fail
          refine ⟨rfl, ?_⟩
          rw [HE.out]
          exact ⟨rfl, S5.out, B5.out⟩
    · have hE' := hE.out.trans (gMore_stop (fun h => h7 (hn ▸ h.1)))
      clear hE HC LW HL
      by_cases he : isH m [en] = true
      · obtain ⟨u, z, rfl, hu⟩ := isH_some he
        have HE := hid (hE'.trans (gEnd_yes he))
        have HU := hid (show isT u (⟨#[en]⟩ : ByteArray).data.toList = true from hu)
        clear hE' he hu
        go_wp2_with fail
        refine (must_yes P L u z ⟨#[en]⟩ _ hS HU.out).mono ?_
        rintro e w5 ⟨rfl, s5, b5⟩
        have S5 := hid s5
        have I5 := hid (HI.out _ _ _ hII.out b5)
        have B5 := hid (hB.out.trans (ButLo.of b5 (by omega)))
        clear s5 b5
        go_wp2_with fail
        go_end0
        rw [HE.out]
        exact ⟨rfl, I5.out, S5.out, B5.out⟩
      · have HE := hid (hE'.trans (gEnd_no he))
        have HN := hid (show isH m (⟨#[en]⟩ : ByteArray).data.toList = false by simpa using he)
        clear hE' he
        go_wp2_with fail
        refine (must_no P L m ⟨#[en]⟩ _ hS HN.out).mono ?_
        rintro e w5 ⟨rfl, b5⟩
        have S5 := hid (hS.out.on b5)
        have B5 := hid (hB.out.trans (ButLo.of (But.of (P := P) b5) (by omega)))
        clear b5
        unfold gaveUp
        go_wp2_with fail
        refine ⟨rfl, ?_⟩
        rw [HE.out]
        exact ⟨rfl, S5.out, B5.out⟩

/-- a list as the document says -/
theorem glist_callsO (most : Nat) (en : UInt8) (c1 c2 : Value) (σ : Type) (I : σ → World → Prop) (P lo : Nat) (L : List Tok) (hI : ∀ (s : σ) (a b : World), I s a → But P a b → I s b) (cnt : σ → Nat) (step : Nat → σ → List Tok → PG σ) (f : Nat) (hmo : most ≤ 40) (hm0 : 0 < most) (hC : ∀ g, g ≤ f → PartC 86 c1 c2 I cnt most step lo P L g) (hL : ∀ (g : Nat) (s s' : σ) (l l' : List Tok) (w : World), PSt P L w l → step g s l = .ok s' l' → l'.length + 1 ≤ l.length ∧ cnt s' = cnt s + 1)
    (l : List Tok) (s : σ) (w : World) (hf : 20 * l.length + 10 ≤ f) (hk : cnt s = 0) (hlw : lo ≤ w.heap.size) (H : Hid (PSt P L w l)) (HS : Hid (I s w)) :
    Calls Tryd.prog 80 #[.pointer (some ⟨P, 0, none⟩), .int .i64 most, .string ⟨#[en]⟩, .func (.func 86) #[] #[c1, c2]] w (ReadsG I lo P L w (gList step cnt most en f s l)) := by
  unfold gList
  by_cases he : isH l [en] = true
  · obtain ⟨t, q, rfl, ht⟩ := isH_some he
    rw [if_pos he]
    exact glist_emptyO most en c1 c2 σ I P lo L hI t q s w hlw H HS ht
  · rw [if_neg he]
    cases hq : step f s l with
    | bad l1 =>
      rw [PG.bind_bad]
      exact glist_oneO most en c1 c2 σ I P lo L hI cnt step f (hC f (Nat.le_refl _)) l s w hf (by omega) hlw H HS (by simpa using he) l1 hq
    | ok s1 l1 =>
      rw [PG.bind_ok]
      exact glist_moreO most en c1 c2 σ I P lo L hI cnt step f hmo hC hL l s w hf hk hm0 hlw H HS (by simpa using he) s1 l1 hq

end Go.Proofs.YtijbiedblahmhaaDoor
