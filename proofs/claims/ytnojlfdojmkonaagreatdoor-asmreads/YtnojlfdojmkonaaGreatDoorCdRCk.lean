/- May a program be, and its depths: the document's word. -/
import Derived.Test.YtnojlfdojmkonaaGreatDoorCdRgt
namespace Go.Proofs.YtnojlfdojmkonaaGreatDoor
set_option linter.unusedSimpArgs false
set_option linter.unusedVariables false
set_option maxRecDepth 100000
open Go.RowKit

theorem strsB_iff {ss : List ByteArray} : strsB ss = true ↔ ∀ (i : Nat) s, ss[i]? = some s → s.size ≤ 256 := by
  unfold strsB
  rw [List.all_eq_true]
  constructor
  · intro h i s hs
    exact of_decide_eq_true (h s (List.mem_of_getElem? hs))
  · intro h s hs
    obtain ⟨i, hi⟩ := List.getElem?_of_mem hs
    exact decide_eq_true (h i s hi)
theorem check_iff {P : Pg} : checkP P ↔ ((0 ≤ P.g ∧ P.g ≤ 24) ∧ (1 ≤ P.codes.length ∧ P.codes.length ≤ 32) ∧ P.pool.length ≤ 120) ∧ (∀ (i : Nat) s, P.pool[i]? = some s → s.size ≤ 256) ∧ ∀ (j : Nat) c, P.codes[j]? = some c → rightC P.g P.pool.length P.codes.length c = true ∧ (j = 0 → c.l ≤ 0) ∧ ∃ ds, Flow c ds := by
  unfold checkP sizesB
  simp only [Bool.and_eq_true, strsB_iff, decide_eq_true_eq]
  rw [inZ_iff, inZ_iff]
  constructor
  · rintro ⟨⟨h1, h2, h3, h4, h5⟩, h6⟩
    refine ⟨⟨h1, by omega, h3⟩, h4, fun j c hc => ?_⟩
    obtain ⟨h7, h8⟩ := h6 c (List.mem_of_getElem? hc)
    refine ⟨h7, fun hj => ?_, h8⟩
    subst hj
    unfold zeroC at h5
    split at h5
    · cases h5
    · rename_i e
      rw [e] at hc
      simp at hc
      subst hc
      simp at h5
      omega
  · rintro ⟨⟨h1, h2, h3⟩, h4, h5⟩
    refine ⟨⟨h1, by omega, h3, h4, ?_⟩, fun c hc => ?_⟩
    · unfold zeroC
      split
      · rename_i e
        rw [e] at h2
        simp at h2
      · rename_i c r e
        obtain ⟨h6, h7, _⟩ := h5 0 c (by rw [e]; rfl)
        have h8 := (rightC_iff.1 h6).1
        have h9 := h7 rfl
        have e1 : c.p = 0 := by omega
        have e2 : c.l = 0 := by omega
        rw [e1, e2]
        rfl
    · obtain ⟨j, hj⟩ := List.getElem?_of_mem hc
      exact ⟨(h5 j c hj).1, (h5 j c hj).2.2⟩
def CkOut (Q : Prop) (e : Ending) : Prop := ∃ r, e = .returned (.int .i64 r) ∧ ((r = 0 ∧ Q) ∨ (r = 16 ∧ ¬ Q))
set_option maxHeartbeats 6400000 in
theorem dcheck_calls (B : Nat) (P : Pg) (pv cv : Value) (w : World) (hB : B ≤ w.heap.size) (hP : PgIn B w P pv cv) :
    Calls Tryz.prog 16 #[pgV P pv cv] w fun e w' => CkOut (checkP P) e ∧ Below w.heap.size w w' := by
  have CK := hid (check_iff (P := P))
  have RG := hid (fun (j : Nat) (c : Cd) W (q : Below B w W) (hc : P.codes[j]? = some c) (hG : 0 ≤ P.g ∧ P.g ≤ 1000) => dright_calls B P pv cv j c W (Nat.le_trans hB q.size) (hP.on q) hc hG)
  generalize checkP P = CP at *
  obtain ⟨G, ss, cs⟩ := P
  simp only [pgV] at *
  generalize hgd : (fun (j : Nat) (c : Cd) => rightC G ss.length cs.length c = true ∧ (j = 0 → c.l ≤ 0) ∧ ∃ ds, Flow c ds) = GD at *
  replace CK := hid (show CP ↔ ((0 ≤ G ∧ G ≤ 24) ∧ (1 ≤ cs.length ∧ cs.length ≤ 32) ∧ ss.length ≤ 120) ∧ (∀ (i : Nat) s, ss[i]? = some s → s.size ≤ 256) ∧ ∀ (j : Nat) c, cs[j]? = some c → GD j c by rw [← hgd]; exact CK.out)
  replace RG := hid (show ∀ (j : Nat) (c : Cd) W (q : Below B w W) (hc : cs[j]? = some c) (hG : 0 ≤ G ∧ G ≤ 1000), Calls Tryz.prog 26 #[.agg #[.int .i64 G, pv, cv], .int .i64 j] W fun e w' => BoolIff (GD j c) e ∧ Below W.heap.size W w' by rw [← hgd]; exact RG.out)
  clear hgd
  obtain ⟨pa, pc, rfl⟩ := plIn_shape hP.pool
  obtain ⟨ca, cc, rfl⟩ := cdsIn_shape hP.codes
  have hfew := hP.few
  have HP := hid hP
  simp only at hfew
  clear hP
  have AL := hid (box_below w (.cells #[.int .i64 G, .slice pa ss.length pc, .slice ca cs.length cc] 25))
  have BL := hid (blk_new w 25 #[.int .i64 G, .slice pa ss.length pc, .slice ca cs.length cc])
  have hsz : (w.alloc (.cells #[.int .i64 G, .slice pa ss.length pc, .slice ca cs.length cc] 25)).heap.size = w.heap.size + 1 := by simp
  generalize hW : w.alloc (.cells #[.int .i64 G, .slice pa ss.length pc, .slice ca cs.length cc] 25) = w1 at *
  have CELLS := hid (fun (W : World) (q : Below w1.heap.size w1 W) => (show W.cell? ⟨w.heap.size, 0, none⟩ = some (.int .i64 G) ∧ W.cell? ⟨w.heap.size, 1, none⟩ = some (.slice pa ss.length pc) ∧ W.cell? ⟨w.heap.size, 2, none⟩ = some (.slice ca cs.length cc) from
    have h := blk_on BL.out q
    ⟨blk_cellZ h 0 rfl, blk_cellZ h 1 rfl, blk_cellZ h 2 rfl⟩))
  have LOW := hid (fun (W : World) (q : Below w1.heap.size w1 W) => AL.out.trans (q.mono (by omega)))
  have POOL := hid (plIn_on HP.out.pool (AL.out.mono hB))
  simp only at POOL
  obtain ⟨p0, p1, p2⟩ := CELLS.out w1 (Below.refl _ _)
  obtain ⟨hd, hhd⟩ := bool_of ((0 ≤ G ∧ G ≤ 24) ∧ (1 ≤ cs.length ∧ cs.length ≤ 32) ∧ ss.length ≤ 120)
  have HD := hid hhd
  clear hhd
  go_enter Tryz.func16, Tryz.ntmps16
  go_upto_region 1 with fail
  go_cut [30] (fun v wx => v = .bool (!hd) ∧ wx = w1)
  case first =>
    by_cases k0 : G < 0
    · have hf : hd = false := Bool.eq_false_iff.2 fun h => by
        have := HD.out.1 h
        omega
      subst hf
      go_wp2_with fail
      go_meet
      exact ⟨rfl, rfl⟩
    by_cases k1 : 24 < G
    · have hf : hd = false := Bool.eq_false_iff.2 fun h => by
        have := HD.out.1 h
        omega
      subst hf
      go_wp2_with fail
      go_meet
      exact ⟨rfl, rfl⟩
    by_cases k2 : (cs.length : Int) < 1
    · have hf : hd = false := Bool.eq_false_iff.2 fun h => by
        have := HD.out.1 h
        omega
      subst hf
      go_wp2_with fail
      go_meet
      exact ⟨rfl, rfl⟩
    by_cases k3 : (32 : Int) < (cs.length : Int)
    · have hf : hd = false := Bool.eq_false_iff.2 fun h => by
        have := HD.out.1 h
        omega
      subst hf
      go_wp2_with fail
      go_meet
      exact ⟨rfl, rfl⟩
    by_cases k4 : (120 : Int) < (ss.length : Int)
    · have hf : hd = false := Bool.eq_false_iff.2 fun h => by
        have := HD.out.1 h
        omega
      subst hf
      go_wp2_with fail
      go_meet
      exact ⟨rfl, rfl⟩
    have ht : hd = true := HD.out.2 (by omega)
    subst ht
    go_wp2_with fail
    go_meet
    exact ⟨rfl, rfl⟩
  case rest =>
    obtain ⟨rfl, rfl⟩ := hcut
    rename World => w1
    cases hd with
    | false =>
      have NO := hid (show ¬ CP from fun h => by
        have := HD.out.2 (CK.out.1 h).1
        cases this)
      clear p0 p1 p2
      go_wp2_with fail
      go_ret
      exact ⟨⟨16, rfl, .inr ⟨rfl, NO.out⟩⟩, AL.out⟩
    | true =>
    have hG := HD.out.1 rfl
    replace CK := hid (show CP ↔ (∀ (i : Nat) s, ss[i]? = some s → s.size ≤ 256) ∧ ∀ (j : Nat) c, cs[j]? = some c → GD j c from CK.out.trans ⟨fun h => h.2, fun h => ⟨hG, h⟩⟩)
    clear HD
    go_wp2_with fail
    clear p0 p1 p2
    go_loopw [3] (fun iV wr => ∃ i : Nat, i ≤ ss.length ∧ iV = .int .i64 i ∧ Hid (∀ (k : Nat) s, k < i → ss[k]? = some s → s.size ≤ 256) ∧ w1 = wr) (fun iV _ => ss.length - (intOf iV).toNat)
    case atStart => exact ⟨0, by omega, rfl, hid (fun k c hk => absurd hk (Nat.not_lt_zero _)), rfl⟩
    case round =>
      obtain ⟨i, hi, rfl, hA, rfl⟩ := hrel
      obtain ⟨p0, p1, p2⟩ := CELLS.out w1 (Below.refl _ _)
      by_cases hil : i < ss.length
      · obtain ⟨z, hz⟩ : ∃ z, ss[i]? = some z := ⟨_, List.getElem?_eq_getElem hil⟩
        have hil' : (i : Int) < (ss.length : Int) := by omega
        obtain ⟨pb, pof, hpa, hpb, z0⟩ := plIn_at POOL.out hz
        subst hpa
        by_cases hzl : 256 < z.size
        · have NO := hid (show ¬ CP from fun h => by
            have := (CK.out.1 h).1 i z hz
            omega)
          have hzl' : (256 : Int) < (z.size : Int) := by omega
          as_aux_lemma =>
            go_wp2_with fail
            go_ret
            exact ⟨⟨16, rfl, .inr ⟨rfl, NO.out⟩⟩, AL.out⟩
        · have hzl' : ¬ (256 : Int) < (z.size : Int) := by omega
          have A2 := hid (show ∀ (k : Nat) s, k < i + 1 → ss[k]? = some s → s.size ≤ 256 from fun k c' hk hc' => by
            by_cases hki : k = i
            · subst hki
              rw [hz] at hc'
              obtain rfl := Option.some.inj hc'
              omega
            · exact hA.out k c' (by omega) hc')
          as_aux_lemma =>
            go_wp2_with fail
            exact ⟨⟨i + 1, by omega, by simp, A2, by first | rfl | trivial⟩, by simp [intOf]; omega⟩
      have hie : i = ss.length := by omega
      subst hie
      replace CK := hid (show CP ↔ ∀ (j : Nat) c, cs[j]? = some c → GD j c from CK.out.trans ⟨fun h => h.2, fun h => ⟨fun k s hs => hA.out k s (List.getElem?_eq_some_iff.1 hs).1 hs, h⟩⟩)
      clear hA hi hil
      go_wp2_with fail
      clear p0 p1 p2
      go_loopw [4] (fun iV wr => ∃ i : Nat, i ≤ cs.length ∧ iV = .int .i64 i ∧ Hid (∀ (k : Nat) c, k < i → cs[k]? = some c → GD k c) ∧ Hid (Below w1.heap.size w1 wr)) (fun iV _ => cs.length - (intOf iV).toNat)
      case atStart => exact ⟨0, by omega, rfl, hid (fun k c hk => absurd hk (Nat.not_lt_zero _)), hid (Below.refl _ _)⟩
      case round =>
        obtain ⟨i, hi, rfl, hA, hL⟩ := hrel
        rename World => wq
        obtain ⟨p0, p1, p2⟩ := CELLS.out wq hL.out
        have AX := hid (LOW.out _ hL.out)
        by_cases hil : i < cs.length
        · obtain ⟨c, hc⟩ : ∃ c, cs[i]? = some c := ⟨_, List.getElem?_eq_getElem hil⟩
          have hil' : (i : Int) < (cs.length : Int) := by omega
          have R := hid (RG.out i c wq (AX.out.mono hB) hc (by omega))
          as_aux_lemma =>
            go_wp2_with fail
            refine R.out.mono ?_
            rintro e w6 ⟨⟨r, rfl, hr⟩, b6⟩
            have L6 := hid (below_in hL.out (Nat.le_refl _) b6)
            clear b6
            cases r with
            | false =>
              have NO := hid (show ¬ CP from fun h => by
                have := hr.2 (CK.out.1 h i c hc)
                cases this)
              have AY := hid (LOW.out _ L6.out)
              clear hr
              go_wp2_with fail
              go_ret
              exact ⟨⟨16, rfl, .inr ⟨rfl, NO.out⟩⟩, AY.out⟩
            | true =>
              have A2 := hid (show ∀ (k : Nat) c, k < i + 1 → cs[k]? = some c → GD k c from fun k c' hk hc' => by
                by_cases hki : k = i
                · subst hki
                  rw [hc] at hc'
                  obtain rfl := Option.some.inj hc'
                  exact hr.1 rfl
                · exact hA.out k c' (by omega) hc')
              clear hr
              go_wp2_with fail
              exact ⟨⟨i + 1, by omega, by simp, A2, L6⟩, by simp [intOf]; omega⟩
        have hie : i = cs.length := by omega
        subst hie
        have YES := hid (show CP from CK.out.2 fun k c hk => hA.out k c (List.getElem?_eq_some_iff.1 hk).1 hk)
        as_aux_lemma =>
          go_wp2_with fail
          go_ret
          exact ⟨⟨0, rfl, .inl ⟨rfl, YES.out⟩⟩, AX.out⟩
end Go.Proofs.YtnojlfdojmkonaaGreatDoor
