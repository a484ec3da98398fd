/- May a code be, may a program be, and its depths: the document's word. -/
import Derived.Test.YtnojlfdojmkonaaGreatDoorCdRDp
import Derived.Test.YtnojlfdojmkonaaGreatDoorCdArg
import Derived.Test.YtnojlfdojmkonaaGreatDoorJoint9
namespace Go.Proofs.YtnojlfdojmkonaaGreatDoor
set_option linter.unusedSimpArgs false
set_option linter.unusedVariables false
set_option maxRecDepth 100000
open Go.RowKit

theorem bool_of (Q : Prop) : ∃ r : Bool, (r = true ↔ Q) := by
  by_cases h : Q
  · exact ⟨true, by simp [h]⟩
  · exact ⟨false, by simp [h]⟩
def BoolIff (Q : Prop) (e : Ending) : Prop := ∃ r, e = .returned (.bool r) ∧ (r = true ↔ Q)
theorem okAll_of {G P C : Int} {c : Cd} : ∀ (r : List In) (k : Nat), (∀ (i : Nat) x, r[i]? = some x → okI G P C c (k + i) x = true) → okAll G P C c k r = true
  | [], _, _ => rfl
  | y :: r, k, h => by
    unfold okAll
    rw [Bool.and_eq_true]
    refine ⟨h 0 y rfl, okAll_of r (k + 1) fun i x hx => ?_⟩
    have := h (i + 1) x (by simpa using hx)
    rwa [show k + (i + 1) = k + 1 + i by omega] at this
theorem rightC_iff {G P C : Int} {c : Cd} : rightC G P C c = true ↔ ((0 ≤ c.p ∧ c.p ≤ 6) ∧ (c.p ≤ c.l ∧ c.l ≤ 24) ∧ (0 ≤ c.s ∧ c.s ≤ 4000) ∧ (0 ≤ c.d ∧ c.d ≤ 64) ∧ (1 ≤ c.ins.length ∧ c.ins.length ≤ 4000)) ∧ ∀ (k : Nat) x, c.ins[k]? = some x → okI G P C c k x = true := by
  constructor
  · intro h
    have hp := rightC_parts h
    unfold rightC at h
    simp only [Bool.and_eq_true] at h
    obtain ⟨h1, h2, h3, h4, h5, h6⟩ := h
    exact ⟨⟨inZ_iff.1 h1, inZ_iff.1 h2, inZ_iff.1 h3, inZ_iff.1 h4, hp.1⟩, hp.2.2⟩
  · rintro ⟨⟨h1, h2, h3, h4, h5⟩, h6⟩
    unfold rightC
    simp only [Bool.and_eq_true]
    exact ⟨inZ_iff.2 h1, inZ_iff.2 h2, inZ_iff.2 h3, inZ_iff.2 h4, inZ_iff.2 (by omega), okAll_of _ _ fun i x hx => by rw [Nat.zero_add]; exact h6 i x hx⟩
theorem okI_iff {G P C : Int} {c : Cd} {k : Nat} {x : In} : okI G P C c k x = true ↔ (argB G P C c.l c.ins.length x.1 x.2.1 = true ∧ (siteB x.1 = true → 0 ≤ x.2.2 ∧ x.2.2 < c.s) ∧ (siteB x.1 = false → x.2.2 = 0)) ∧ (goB x.1 = true → x.2.1 ≤ k → opA c.ins x.2.1.toNat = 1) := by
  have h2 : ∀ s b : Int, inZ b 0 (s - 1) = true ↔ 0 ≤ b ∧ b < s := fun s b => by rw [inZ_iff]; omega
  unfold okI rightI argB
  cases hs : siteB x.1 <;> cases hg : goB x.1 <;> by_cases ha : x.2.1 ≤ k <;> simp [ha, h2, and_assoc]
theorem argB_goes {G P C l n o a : Int} (h : argB G P C l n o a = true) (hg : goB o = true) : 0 ≤ a ∧ a ≤ n - 1 := by
  unfold argB at h
  rw [span_goes hg, Bool.and_eq_true] at h
  exact inZ_iff.1 h.2
set_option maxHeartbeats 12800000 in
theorem dright_calls (B : Nat) (P : Pg) (pv cv : Value) (j : Nat) (c : Cd) (w : World) (hB : B ≤ w.heap.size) (hP : PgIn B w P pv cv) (hc : P.codes[j]? = some c) (hG : 0 ≤ P.g ∧ P.g ≤ 1000) :
    Calls Tryz.prog 26 #[pgV P pv cv, .int .i64 j] w fun e w' => BoolIff (rightC P.g P.pool.length P.codes.length c = true ∧ (j = 0 → c.l ≤ 0) ∧ ∃ ds, Flow c ds) e ∧ Below w.heap.size w w' := by
  obtain ⟨G, ss, cs⟩ := P
  simp only [pgV] at *
  have hci := hP.ins c (List.mem_of_getElem? hc)
  obtain ⟨pa, pc, rfl⟩ := plIn_shape hP.pool
  obtain ⟨ca, cc, rfl⟩ := cdsIn_shape hP.codes
  have hfew := hP.few
  simp only at hfew
  have hjl : j < cs.length := (List.getElem?_eq_some_iff.1 hc).1
  have hjl' : (j : Int) < (cs.length : Int) := by omega
  have OUT := hid (show rightC G ss.length cs.length c = true ↔ _ from rightC_iff)
  have DP := hid (fun iv W hW hI h1 h2 h3 h4 => ddepths_calls B c iv W hW hI h1 h2 h3 h4)
  have OKX := hid (fun (k : Nat) (x : In) => okI_iff (G := G) (P := ss.length) (C := cs.length) (c := c) (k := k) (x := x))
  generalize okI G ss.length cs.length c = OKF at *
  have GQ := hid (show (rightC G ss.length cs.length c = true ∧ (j = 0 → c.l ≤ 0) ∧ ∃ ds, Flow c ds) ↔ _ from Iff.rfl)
  generalize hQ : (rightC G ss.length cs.length c = true ∧ (j = 0 → c.l ≤ 0) ∧ ∃ ds, Flow c ds) = Q at *
  have QF := hid (show Q ↔ (rightC G ss.length cs.length c = true ∧ (j = 0 → c.l ≤ 0) ∧ ∃ ds, Flow c ds) by rw [hQ])
  clear hQ GQ
  generalize rightC G ss.length cs.length c = RC at *
  obtain ⟨cb, off, hca, hcb, iv, d0, d1, d2, d3, d4, hI⟩ := cdsIn_at hP.codes hc
  subst hca
  have HIv := hid hI
  obtain ⟨ia, ic, rfl⟩ := insIn_shape hI
  clear hI hP hc
  have FLQ := hid (show (∃ ds, Flow c ds) ↔ (∃ ds, Flow c ds) from Iff.rfl)
  obtain ⟨p, l, s, d, is⟩ := c
  simp only at d0 d1 d2 d3 d4 hci HIv OUT OKX
  simp only [cdV] at DP
  have AL := hid (box_below w (.cells #[.int .i64 G, .slice pa ss.length pc, .slice (some ⟨cb, off, none⟩) cs.length cc] 25))
  have BL := hid (blk_new w 25 #[.int .i64 G, .slice pa ss.length pc, .slice (some ⟨cb, off, none⟩) cs.length cc])
  have hsz : (w.alloc (.cells #[.int .i64 G, .slice pa ss.length pc, .slice (some ⟨cb, off, none⟩) cs.length cc] 25)).heap.size = w.heap.size + 1 := by simp
  replace d0 := cellB (AL.out.mono hB) (by simp only; omega) d0
  replace d1 := cellB (AL.out.mono hB) (by simp only; omega) d1
  replace d2 := cellB (AL.out.mono hB) (by simp only; omega) d2
  replace d3 := cellB (AL.out.mono hB) (by simp only; omega) d3
  replace d4 := cellB (AL.out.mono hB) (by simp only; omega) d4
  generalize hW : w.alloc (.cells #[.int .i64 G, .slice pa ss.length pc, .slice (some ⟨cb, off, none⟩) cs.length cc] 25) = w1 at *
  have p2 : w1.cell? ⟨w.heap.size, 2, none⟩ = some (.slice (some ⟨cb, off, none⟩) cs.length cc) := blk_cellZ BL.out 2 rfl
  have X2 := hid (box_below w1 (.cells #[.int .i64 p, .int .i64 l, .int .i64 s, .int .i64 d, .slice ia is.length ic] 45))
  have BC := hid (blk_new w1 45 #[.int .i64 p, .int .i64 l, .int .i64 s, .int .i64 d, .slice ia is.length ic])
  have BL2 := hid (blk_on BL.out X2.out)
  have AL2 := hid (AL.out.trans (X2.out.mono (by omega)))
  have hsz2 : (w1.alloc (.cells #[.int .i64 p, .int .i64 l, .int .i64 s, .int .i64 d, .slice ia is.length ic] 45)).heap.size = w.heap.size + 2 := by simp; omega
  rw [hsz] at BC
  go_enter Tryz.func26, Tryz.ntmps26
  go_upto_region 2 with fail
  generalize hW2 : w1.alloc (.cells #[.int .i64 p, .int .i64 l, .int .i64 s, .int .i64 d, .slice ia is.length ic] 45) = w2 at *
  clear d0 d1 d2 d3 d4 p2 BL AL X2
  replace HIv := hid (insIn_on HIv.out (AL2.out.mono hB))
  have CELLS := hid (fun (W : World) (q : Below w2.heap.size w2 W) => (show (W.cell? ⟨w.heap.size, 0, none⟩ = some (.int .i64 G) ∧ W.cell? ⟨w.heap.size, 1, none⟩ = some (.slice pa ss.length pc) ∧ W.cell? ⟨w.heap.size, 2, none⟩ = some (.slice (some ⟨cb, off, none⟩) cs.length cc)) ∧ W.cell? ⟨w.heap.size + 1, 0, none⟩ = some (.int .i64 p) ∧ W.cell? ⟨w.heap.size + 1, 1, none⟩ = some (.int .i64 l) ∧ W.cell? ⟨w.heap.size + 1, 2, none⟩ = some (.int .i64 s) ∧ W.cell? ⟨w.heap.size + 1, 3, none⟩ = some (.int .i64 d) ∧ W.cell? ⟨w.heap.size + 1, 4, none⟩ = some (.slice ia is.length ic) from
    have h := blk_on BL2.out q
    have k := blk_on BC.out q
    ⟨⟨blk_cellZ h 0 rfl, blk_cellZ h 1 rfl, blk_cellZ h 2 rfl⟩, blk_cellZ k 0 rfl, blk_cellZ k 1 rfl, blk_cellZ k 2 rfl, blk_cellZ k 3 rfl, blk_cellZ k 4 rfl⟩))
  have LOW := hid (fun (W : World) (q : Below w2.heap.size w2 W) => AL2.out.trans (q.mono (by omega)))
  have INS := hid (fun (W : World) (q : Below w2.heap.size w2 W) => insIn_on HIv.out (q.mono (by omega)))
  obtain ⟨⟨p0, p1, p2⟩, c0, c1, c2, c3, c4⟩ := CELLS.out w2 (Below.refl _ _)
  clear BL2 BC
  obtain ⟨hd, hhd⟩ := bool_of (((0 ≤ p ∧ p ≤ 6) ∧ (p ≤ l ∧ l ≤ 24) ∧ (0 ≤ s ∧ s ≤ 4000) ∧ (0 ≤ d ∧ d ≤ 64) ∧ (1 ≤ is.length ∧ is.length ≤ 4000)) ∧ (j = 0 → l ≤ 0))
  have HD := hid hhd
  clear hhd
  go_cut [76] (fun v wx => v = .bool (!hd) ∧ wx = w2)
  case first =>
    by_cases k0 : p < 0
    · have hf : hd = false := Bool.eq_false_iff.2 fun h => by
        have := HD.out.1 h
        omega
      subst hf
      as_aux_lemma =>
        go_wp2_with fail
        go_meet
        exact ⟨rfl, rfl⟩
    by_cases k1 : 6 < p
    · have hf : hd = false := Bool.eq_false_iff.2 fun h => by
        have := HD.out.1 h
        omega
      subst hf
      as_aux_lemma =>
        go_wp2_with fail
        go_meet
        exact ⟨rfl, rfl⟩
    by_cases k2 : l < p
    · have hf : hd = false := Bool.eq_false_iff.2 fun h => by
        have := HD.out.1 h
        omega
      subst hf
      as_aux_lemma =>
        go_wp2_with fail
        go_meet
        exact ⟨rfl, rfl⟩
    by_cases k3 : 24 < l
    · have hf : hd = false := Bool.eq_false_iff.2 fun h => by
        have := HD.out.1 h
        omega
      subst hf
      as_aux_lemma =>
        go_wp2_with fail
        go_meet
        exact ⟨rfl, rfl⟩
    by_cases k4 : s < 0
    · have hf : hd = false := Bool.eq_false_iff.2 fun h => by
        have := HD.out.1 h
        omega
      subst hf
      as_aux_lemma =>
        go_wp2_with fail
        go_meet
        exact ⟨rfl, rfl⟩
    by_cases k5 : 4000 < s
    · have hf : hd = false := Bool.eq_false_iff.2 fun h => by
        have := HD.out.1 h
        omega
      subst hf
      as_aux_lemma =>
        go_wp2_with fail
        go_meet
        exact ⟨rfl, rfl⟩
    by_cases k6 : d < 0
    · have hf : hd = false := Bool.eq_false_iff.2 fun h => by
        have := HD.out.1 h
        omega
      subst hf
      as_aux_lemma =>
        go_wp2_with fail
        go_meet
        exact ⟨rfl, rfl⟩
    by_cases k7 : 64 < d
    · have hf : hd = false := Bool.eq_false_iff.2 fun h => by
        have := HD.out.1 h
        omega
      subst hf
      as_aux_lemma =>
        go_wp2_with fail
        go_meet
        exact ⟨rfl, rfl⟩
    by_cases k8 : (is.length : Int) < 1
    · have hf : hd = false := Bool.eq_false_iff.2 fun h => by
        have := HD.out.1 h
        omega
      subst hf
      as_aux_lemma =>
        go_wp2_with fail
        go_meet
        exact ⟨rfl, rfl⟩
    by_cases k9 : (4000 : Int) < (is.length : Int)
    · have hf : hd = false := Bool.eq_false_iff.2 fun h => by
        have := HD.out.1 h
        omega
      subst hf
      as_aux_lemma =>
        go_wp2_with fail
        go_meet
        exact ⟨rfl, rfl⟩
    by_cases j0 : j = 0
    · have b0 : ((j : Int) == 0) = true := by rw [j0]; rfl
      by_cases kl : 0 < l
      · have hf : hd = false := Bool.eq_false_iff.2 fun h => by
          have := (HD.out.1 h).2 j0
          omega
        subst hf
        clear j0
        as_aux_lemma =>
          go_wp2_with fail
          go_meet
          exact ⟨rfl, rfl⟩
      · have ht : hd = true := HD.out.2 ⟨by omega, fun _ => by omega⟩
        subst ht
        clear j0
        as_aux_lemma =>
          go_wp2_with fail
          go_meet
          exact ⟨rfl, rfl⟩
    · have b0 : ((j : Int) == 0) = false := beq_eq_false_iff_ne.2 (by omega)
      have ht : hd = true := HD.out.2 ⟨by omega, fun h => absurd h j0⟩
      subst ht
      clear j0
      as_aux_lemma =>
        go_wp2_with fail
        go_meet
        exact ⟨rfl, rfl⟩
  case rest =>
    obtain ⟨rfl, rfl⟩ := hcut
    rename World => w2
    clear p0 p1 p2 c0 c1 c2 c3 c4
    cases hd with
    | false =>
      have NO := hid (show ¬ Q from fun h => by
        obtain ⟨h1, h2, _⟩ := QF.out.1 h
        have := HD.out.2 ⟨(OUT.out.1 h1).1, h2⟩
        cases this)
      have AX := hid (LOW.out _ (Below.refl _ _))
      as_aux_lemma =>
        go_wp2_with fail
        go_ret
        exact ⟨⟨false, rfl, by simp [NO.out]⟩, AX.out⟩
    | true =>
    obtain ⟨⟨hp6, hl24, hs4, hd64, hn4⟩, hz⟩ := HD.out.1 rfl
    have HZ := hid hz
    clear hz HD
    replace OUT := hid (show RC = true ↔ ∀ (k : Nat) x, is[k]? = some x → OKF k x = true from OUT.out.trans ⟨fun h => h.2, fun h => ⟨⟨hp6, hl24, hs4, hd64, hn4⟩, h⟩⟩)
    go_wp2_with fail
    go_loopw [6] (fun kV wr => ∃ k : Nat, k ≤ is.length ∧ kV = .int .i64 k ∧ Hid (∀ (i : Nat) x, i < k → is[i]? = some x → OKF i x = true) ∧ Hid (Below w2.heap.size w2 wr)) (fun kV _ => is.length - (intOf kV).toNat)
    case atStart => exact ⟨0, by omega, rfl, hid (fun i x hi => absurd hi (Nat.not_lt_zero _)), hid (Below.refl _ _)⟩
    case round =>
      obtain ⟨k, hk, rfl, hA, hL⟩ := hrel
      rename World => wr
      obtain ⟨⟨p0, p1, p2⟩, c0, c1, c2, c3, c4⟩ := CELLS.out wr hL.out
      by_cases hkl : k < is.length
      rotate_left 1
      · have hke : k = is.length := by omega
        subst hke
        have YES := hid (show RC = true from OUT.out.2 fun i x hx => hA.out i x (List.getElem?_eq_some_iff.1 hx).1 hx)
        have GE := hid (show ∀ (k : Nat) (x : In), is[k]? = some x → goB x.1 = true → 0 ≤ x.2.1 from fun k x hx hg => (argB_goes ((OKX.out k x).1 (OUT.out.1 YES.out k x hx)).1.1 hg).1)
        have hss := hL.out.size
        as_aux_lemma =>
          go_wp2_with fail
          refine (DP.out _ _ (by omega) (INS.out _ hL.out) hn4.1 hn4.2 hd64 GE.out).mono ?_
          rintro e w6 ⟨ho, b6⟩
          have L6 := hid (LOW.out _ (below_in hL.out (Nat.le_refl _) b6))
          clear b6
          rcases ho with ⟨ds, v, rfl, hF, hN⟩ | ⟨rfl, hF⟩
          · have T := hid (show Q from QF.out.2 ⟨YES.out, HZ.out, ds, hF⟩)
            clear hF hN
            go_wp2_with fail
            go_ret
            exact ⟨⟨true, rfl, by simp [T.out]⟩, L6.out⟩
          · have T := hid (show ¬ Q from fun h => by
              obtain ⟨ds, h1⟩ := (QF.out.1 h).2.2
              exact hF ds h1)
            clear hF
            go_wp2_with fail
            go_ret
            exact ⟨⟨false, rfl, by simp [T.out]⟩, L6.out⟩
      have hkl' : (k : Int) < (is.length : Int) := by omega
      obtain ⟨x, hx⟩ : ∃ x, is[k]? = some x := ⟨_, List.getElem?_eq_getElem hkl⟩
      have IAT := hid (fun (W : World) (q : Below w2.heap.size w2 W) (k : Nat) x (hk : is[k]? = some x) => insIn_at (INS.out W q) hk)
      obtain ⟨ib, iof, hia, hib, x0, x1, x2⟩ := IAT.out wr hL.out k x hx
      subst hia
      obtain ⟨o, a, b⟩ := x
      simp only at x0 x1 x2
      have OKK := hid (OKX.out k (o, a, b))
      have HX := hid hx
      clear hx
      simp only at OKK
      have NOK := hid (show ¬ (OKF k (o, a, b) = true) → ¬ Q from fun h hq => h (OUT.out.1 (QF.out.1 hq).1 k _ HX.out))
      have YOK := hid (show OKF k (o, a, b) = true → ∀ (i : Nat) x, i < k + 1 → is[i]? = some x → OKF i x = true from fun h i x hi hx => by
        by_cases hik : i = k
        · subst hik
          rw [HX.out] at hx
          obtain rfl := Option.some.inj hx
          exact h
        · exact hA.out i x (by omega) hx)
      have AG := hid (fun (W : World) => darg_calls G p l s d o a b pa (some ⟨cb, off, none⟩) (some ⟨ib, iof, none⟩) ss.length pc cs.length cc is.length ic W hG (by omega) hfew.1 hfew.2 hci)
      have AGO := hid (fun (h : argB G ss.length cs.length l is.length o a = true) (hg : goB o = true) => argB_goes h hg)
      have GC := hid (dgoes_calls o)
      have X4 := hid (box_below wr (.cells #[.int .i64 o, .int .i64 a, .int .i64 b] 67))
      have B4 := hid (blk_new wr 67 #[.int .i64 o, .int .i64 a, .int .i64 b])
      have L4 := hid (hL.out.trans (X4.out.mono hL.out.size))
      have hs4' : (wr.alloc (.cells #[.int .i64 o, .int .i64 a, .int .i64 b] 67)).heap.size = wr.heap.size + 1 := by simp
      have hsr := hL.out.size
      generalize OKF k (o, a, b) = okk at *
      generalize argB G ss.length cs.length l is.length o a = ab at *
      go_upto_region 8 with fail
      generalize hW4 : wr.alloc (.cells #[.int .i64 o, .int .i64 a, .int .i64 b] 67) = w4 at *
      clear x0 x1 x2 p0 p1 p2 c0 c1 c2 c3 c4
      have BIN := hid (fun (W : World) (q : Below w4.heap.size w4 W) => (show W.cell? ⟨wr.heap.size, 0, none⟩ = some (.int .i64 o) ∧ W.cell? ⟨wr.heap.size, 1, none⟩ = some (.int .i64 a) ∧ W.cell? ⟨wr.heap.size, 2, none⟩ = some (.int .i64 b) from
        have h := blk_on B4.out q
        ⟨blk_cellZ h 0 rfl, blk_cellZ h 1 rfl, blk_cellZ h 2 rfl⟩))
      obtain ⟨x0, x1, x2⟩ := BIN.out w4 (Below.refl _ _)
      have SB := hid (show siteB o = ((o == 13) || ((o == 14) || ((o == 15) || (o == 27)))) from rfl)
      generalize siteB o = sb at *
      go_cut [8] (fun v wx => v = .bool sb ∧ wx = w4)
      case first =>
        by_cases h13 : o = 13
        · have hs : sb = true := by rw [SB.out, h13]; rfl
          subst hs
          subst h13
          as_aux_lemma =>
            go_wp2_with fail
            go_meet
            exact ⟨rfl, rfl⟩
        have b13 : (o == 13) = false := beq_eq_false_iff_ne.2 h13
        by_cases h14 : o = 14
        · have hs : sb = true := by rw [SB.out, h14]; rfl
          subst hs
          subst h14
          as_aux_lemma =>
            go_wp2_with fail
            go_meet
            exact ⟨rfl, rfl⟩
        have b14 : (o == 14) = false := beq_eq_false_iff_ne.2 h14
        by_cases h15 : o = 15
        · have hs : sb = true := by rw [SB.out, h15]; rfl
          subst hs
          subst h15
          as_aux_lemma =>
            go_wp2_with fail
            go_meet
            exact ⟨rfl, rfl⟩
        have b15 : (o == 15) = false := beq_eq_false_iff_ne.2 h15
        by_cases h27 : o = 27
        · have hs : sb = true := by rw [SB.out, h27]; rfl
          subst hs
          subst h27
          as_aux_lemma =>
            go_wp2_with fail
            go_meet
            exact ⟨rfl, rfl⟩
        have b27 : (o == 27) = false := beq_eq_false_iff_ne.2 h27
        have hs : sb = false := by rw [SB.out, b13, b14, b15, b27]; rfl
        subst hs
        clear h13 h14 h15 h27
        as_aux_lemma =>
          go_wp2_with fail
          go_meet
          exact ⟨rfl, rfl⟩
      case rest =>
        obtain ⟨rfl, rfl⟩ := hcut
        rename World => w4
        clear SB
        obtain ⟨r1, hr1⟩ := bool_of (ab = true ∧ (sb = true → 0 ≤ b ∧ b < s) ∧ (sb = false → b = 0))
        have R1 := hid hr1
        clear hr1
        obtain ⟨⟨p0, p1, p2⟩, c0, c1, c2, c3, c4⟩ := CELLS.out w4 L4.out
        go_upto_region 9 with fail
        go_cut [135] (fun v wx => v = .bool (!r1) ∧ Hid (Below w4.heap.size w4 wx))
        case first =>
          go_wp2_with fail
          refine (AG.out _).mono ?_
          rintro e w5 ⟨rfl, b5⟩
          have L5 := hid b5
          clear b5 p0 p1 p2 c0 c1 c2 c3 c4 x0 x1 x2
          obtain ⟨x0, x1, x2⟩ := BIN.out w5 L5.out
          obtain ⟨⟨p0, p1, p2⟩, c0, c1, c2, c3, c4⟩ := CELLS.out w5 (below_in L4.out (Nat.le_refl _) L5.out)
          cases ab with
          | false =>
            have hr : r1 = false := Bool.eq_false_iff.2 fun h => by
              have := R1.out.1 h
              simp at this
              try omega
            subst hr
            as_aux_lemma =>
              go_wp2_with fail
              go_meet
              exact ⟨rfl, L5⟩
          | true =>
            cases sb with
            | false =>
              by_cases hb : b = 0
              · have hr : r1 = true := R1.out.2 ⟨rfl, (fun h => by cases h), fun _ => hb⟩
                subst hr hb
                as_aux_lemma =>
                  go_wp2_with fail
                  go_meet
                  exact ⟨rfl, L5⟩
              · have hr : r1 = false := Bool.eq_false_iff.2 fun h => hb ((R1.out.1 h).2.2 rfl)
                have hne : (b != 0) = true := by simpa using hb
                subst hr
                clear hb
                as_aux_lemma =>
                  go_wp2_with fail
                  go_meet
                  exact ⟨rfl, L5⟩
            | true =>
              by_cases hb : b < 0
              · have hr : r1 = false := Bool.eq_false_iff.2 fun h => by have := (R1.out.1 h).2.1 rfl; omega
                subst hr
                as_aux_lemma =>
                  go_wp2_with fail
                  go_meet
                  exact ⟨rfl, L5⟩
              by_cases hb2 : s ≤ b
              · have hr : r1 = false := Bool.eq_false_iff.2 fun h => by have := (R1.out.1 h).2.1 rfl; omega
                subst hr
                as_aux_lemma =>
                  go_wp2_with fail
                  go_meet
                  exact ⟨rfl, L5⟩
              have hr : r1 = true := R1.out.2 ⟨rfl, (fun _ => ⟨by omega, by omega⟩), fun h => by cases h⟩
              subst hr
              as_aux_lemma =>
                go_wp2_with fail
                go_meet
                exact ⟨by first | rfl | (rw [show decide (b < 0) = false from decide_eq_false (by omega), show decide (s ≤ b) = false from decide_eq_false (by omega)]; rfl), L5⟩
        case rest =>
          obtain ⟨rfl, L5⟩ := hcut
          rename World => w5
          clear p0 p1 p2 c0 c1 c2 c3 c4 x0 x1 x2
          have R5 := hid (below_in L4.out (Nat.le_refl _) L5.out)
          cases r1 with
          | false =>
            have NO := hid (NOK.out fun h => by
              have := R1.out.2 (OKK.out.1 h).1
              cases this)
            have AX := hid (LOW.out _ R5.out)
            as_aux_lemma =>
              go_wp2_with fail
              go_ret
              exact ⟨⟨false, rfl, by simp [NO.out]⟩, AX.out⟩
          | true =>
          have R1T := R1.out.1 rfl
          have GA := hid (AGO.out R1T.1)
          have OK2 := hid (show okk = true ↔ (goB o = true → a ≤ (k : Int) → opA is a.toNat = 1) from OKK.out.trans ⟨fun h => h.2, fun h => ⟨R1T, h⟩⟩)
          clear R1T R1 OKK
          obtain ⟨x0, x1, x2⟩ := BIN.out w5 L5.out
          obtain ⟨⟨p0, p1, p2⟩, c0, c1, c2, c3, c4⟩ := CELLS.out w5 R5.out
          generalize goB o = gb at *
          go_upto_region 11 with fail
          go_cut [154] (fun v wx => v = .bool (!okk) ∧ wx = w5)
          case first =>
            go_wp2_with fail
            refine (GC.out _).mono ?_
            rintro e w6 ⟨rfl, hw6⟩
            subst hw6
            cases gb with
            | false =>
              have hkk : okk = true := OK2.out.2 fun h => by cases h
              subst hkk
              go_wp2_with fail
              go_meet
              exact ⟨rfl, rfl⟩
            | true =>
              by_cases hak : a ≤ (k : Int)
              rotate_left 1
              · have hkk : okk = true := OK2.out.2 fun _ h => absurd h hak
                subst hkk
                go_wp2_with fail
                go_meet
                exact ⟨rfl, rfl⟩
              have hga := GA.out rfl
              obtain ⟨aj, rfl⟩ : ∃ aj : Nat, a = (aj : Int) := ⟨a.toNat, by omega⟩
              obtain ⟨⟨yo, ya, yb⟩, hy⟩ : ∃ y, is[aj]? = some y := ⟨_, List.getElem?_eq_getElem (by omega)⟩
              obtain ⟨ib', iof', he, _, y0, _, _⟩ := IAT.out _ R5.out aj _ hy
              obtain ⟨rfl, rfl⟩ : ib' = ib ∧ iof' = iof := by
                injection he with he
                injection he with he1 he2
                exact ⟨he1.symm, he2.symm⟩
              simp only at y0
              have OP := hid (show opA is (aj : Int).toNat = yo by unfold opA; rw [Int.toNat_natCast, hy])
              have hajl : (aj : Int) < (is.length : Int) := by omega
              clear he hy
              by_cases hyo : yo = 1
              · have hkk : okk = true := OK2.out.2 fun _ _ => OP.out.trans hyo
                subst hkk hyo
                go_wp2_with fail
                go_meet
                exact ⟨rfl, rfl⟩
              · have hkk : okk = false := Bool.eq_false_iff.2 fun h => hyo (OP.out.symm.trans (OK2.out.1 h rfl hak))
                have hne : (yo != 1) = true := by simpa using hyo
                subst hkk
                clear hyo
                go_wp2_with fail
                go_meet
                exact ⟨rfl, rfl⟩
          case rest =>
            obtain ⟨rfl, rfl⟩ := hcut
            rename World => w5
            cases okk with
            | false =>
              have NO := hid (NOK.out (by decide))
              have AX := hid (LOW.out _ R5.out)
              as_aux_lemma =>
                go_wp2_with fail
                go_ret
                exact ⟨⟨false, rfl, by simp [NO.out]⟩, AX.out⟩
            | true =>
              have Y := hid (YOK.out rfl)
              as_aux_lemma =>
                go_wp2_with fail
                exact ⟨⟨k + 1, by omega, by simp, Y, R5⟩, by simp [intOf]; omega⟩

end Go.Proofs.YtnojlfdojmkonaaGreatDoor
