/- Whether a unit may be: the whole of Check. -/
import Derived.Test.YtgdbaceehpcgbaaDoorScIsRight
import Derived.Test.YtgdbaceehpcgbaaDoorScDeep
import Derived.Test.YtgdbaceehpcgbaaDoorScFine
namespace Go.Proofs.YtgdbaceehpcgbaaDoor
set_option linter.unusedSimpArgs false
open Go.RowKit

/-- functions with few nodes -/
def FewU (fs : List Fq) : Prop := fs.length ≤ 1000000 ∧ ∀ f ∈ fs, smallL f.2.2 = true ∧ countL f.2.2 ≤ 399999
theorem body_calls (b : Bds) (hb : BdsOk b) (l : List Nd) (B : Nat) (w : World) (kv : Value) (hO : Hid (Ok B w)) (hK : Hid (KidsIn B w kv l)) (hs : smallL l = true) (hc : countL l ≤ 399999) :
    Calls Tryd.prog 51 #[.agg #[.int .i64 b.1, .int .i64 b.2.1, .int .i64 b.2.2], kv] w fun e w' => e = .returned (.bool (bodyU b l)) ∧ Below w.heap.size w w' := by
  obtain ⟨ka, kc, rfl, _⟩ := kidsIn_cases hK.out
  have A := (Below.refl w.heap.size w).alloc (Nat.le_refl _) (.cells #[.int .i64 b.1, .int .i64 b.2.1, .int .i64 b.2.2] 98)
  have hB := hO.out.1
  have HR := hid (isRight_calls (.mk 29 0 0 ⟨#[]⟩ [] l 0) b B _ (.slice none 0 0) (.slice ka l.length kc) hb (hid (ok_on hO.out (A.mono hB))) (hid (ndIn_mk.2 ⟨.inl ⟨none, 0, rfl, rfl⟩, kidsIn_on (A.mono hB) hK.out⟩)) (small_bare 29 0 0 0 hs) (by rw [countN]; omega))
  have HA := hid A
  clear A hK hO
  go_enter Tryd.func51, Tryd.ntmps51
  go_wp2_with fail
  refine HR.out.mono ?_
  rintro e1 w1 ⟨rfl, b1⟩
  have B1 := hid (below_on HA.out b1)
  clear b1 HR
  go_wp2_with fail
  go_ret
  exact ⟨rfl, B1.out⟩
theorem isDeep_calls (p q : Int) (l : List Nd) (B : Nat) (w : World) (kv : Value) (hO : Hid (Ok B w)) (hK : Hid (KidsIn B w kv l)) (hs : smallL l = true) (hc : countL l ≤ 399999) :
    Calls Tryd.prog 29 #[.agg #[.int .i64 p, .int .i64 q, kv]] w fun e w' => e = .returned (.bool (deepF l)) ∧ Below w.heap.size w w' := by
  obtain ⟨ka, kc, rfl, _⟩ := kidsIn_cases hK.out
  have A := (Below.refl w.heap.size w).alloc (Nat.le_refl _) (.cells #[.int .i64 p, .int .i64 q, .slice ka l.length kc] 44)
  have hB := hO.out.1
  have hlen := countL_len l
  have HR := hid (Dp_contains (fun x => checkN x == 13) B (w.alloc (.cells #[.int .i64 p, .int .i64 q, .slice ka l.length kc] 44)) (.slice ka l.length kc) l (by simp; omega) (hid (kidsIn_on (A.mono hB) hK.out)) (by omega) (hid (fun x hx w' nv' kv' q' hq =>
    deep1_calls x B w' nv' kv' (hid (ok_on hO.out ((below_on A q').mono hB))) hq (smallL_mem hs x hx) (by have := count_mem hx; omega))))
  have HA := hid A
  clear A hK hO
  go_enter Tryd.func29, Tryd.ntmps29
  go_wp2_with fail
  refine HR.out.mono ?_
  rintro e1 w1 ⟨rfl, b1⟩
  have B1 := hid (below_on HA.out b1)
  clear b1 HR
  go_wp2_with fail
  go_ret
  exact ⟨rfl, B1.out⟩
set_option maxHeartbeats 1600000 in
theorem fdeep_index (fs : List Fq) (B : Nat) (w : World) (fv : Value) (hO : Hid (Ok B w)) (hF : Hid (FnsIn B w fv fs)) (hU : Hid (FewU fs)) :
    Calls Tryd.prog 45 #[fv, .func (.func 29) #[] #[]] w fun e w' => (∃ r : Int, e = .returned (.int .i64 r) ∧ decide (0 ≤ r) = fs.any (fun f => deepF f.2.2)) ∧ Below w.heap.size w w' := by
  obtain ⟨ao, cp, rfl⟩ := fnsIn_shape hF.out
  have hB := hO.out.1
  have hl := hU.out.1
  go_enter Tryd.func45, Tryd.ntmps45
  go_wp2_with fail
  go_loopw [8] (fun i wr => ∃ j : Nat, j ≤ fs.length ∧ i = .int .i64 j ∧ Hid (∀ (q : Nat) (hq : q < fs.length), q < j → deepF fs[q].2.2 = false) ∧ Hid (Below w.heap.size w wr)) (fun i _ => fs.length - (intOf i).toNat)
  case atStart => exact ⟨0, Nat.zero_le _, rfl, hid (fun q _ h => absurd h (Nat.not_lt_zero _)), hid (Below.refl _ _)⟩
  case round =>
    obtain ⟨j, hj, rfl, hq, BB⟩ := hrel
    by_cases hjl : j < fs.length
    · obtain ⟨b, off, hao, hbB, kv, d0, d1, d2, hk⟩ := fnsIn_at hF.out (List.getElem?_eq_getElem hjl)
      subst hao
      have hb' := BB.out.mono hB
      have c0 := cell_keep hb' hbB d0
      have c1 := cell_keep hb' hbB d1
      have c2 := cell_keep hb' hbB d2
      obtain ⟨u1, u2⟩ := hU.out.2 fs[j] (List.getElem_mem hjl)
      obtain ⟨ka, kc, rfl, _⟩ := kidsIn_cases hk
      have cl := hid (isDeep_calls fs[j].1 fs[j].2.1 fs[j].2.2 B wr (.slice ka fs[j].2.2.length kc) (hid (ok_on hO.out hb')) (hid (kidsIn_on hb' hk)) u1 u2)
      have HY := hid (fun h => any_yes (fun f : Fq => deepF f.2.2) fs hjl h)
      have HQ := hid (fun (he : deepF fs[j].2.2 = false) => show ∀ (q : Nat) (hq : q < fs.length), q < j + 1 → deepF fs[q].2.2 = false from fun q h1 h3 => by
        rcases Nat.lt_or_ge q j with h4 | h4
        · exact hq.out q h1 h4
        · obtain rfl : q = j := by omega
          exact he)
      generalize fs[j] = f at *
      obtain ⟨p, q, l⟩ := f
      dsimp only at *
      clear hk hb' hq u1 u2 d0 d1 d2
      go_wp2_with fail
      refine cl.out.mono ?_
      rintro e w1 ⟨rfl, b1⟩
      have B1 := hid (below_in BB.out (Nat.le_refl _) b1)
      clear b1 BB cl
      generalize deepF l = sb at *
      cases sb
      · have H := hid (HQ.out rfl)
        clear HY HQ
        go_wp2_with fail
        go_roundw
        case rel => exact ⟨j + 1, by omega, by go_num, H, B1⟩
        case measure => simp [intOf]; omega
      · have H := hid (HY.out rfl)
        clear HY HQ
        go_wp2_with fail
        go_ret
        exact ⟨⟨j, rfl, by rw [H.out]; simp⟩, B1.out⟩
    · have H := hid (any_no (fun f : Fq => deepF f.2.2) fs (fun q h1 => hq.out q h1 (by omega)))
      clear hq
      go_wp2_with fail
      go_ret
      exact ⟨⟨-1, rfl, by rw [H.out]; rfl⟩, BB.out⟩
theorem fdeep_contains (fs : List Fq) (B : Nat) (w : World) (fv : Value) (hO : Hid (Ok B w)) (hF : Hid (FnsIn B w fv fs)) (hU : Hid (FewU fs)) :
    Calls Tryd.prog 28 #[fv, .func (.func 29) #[] #[]] w fun e w' => e = .returned (.bool (fs.any (fun f => deepF f.2.2))) ∧ Below w.heap.size w w' := by
  go_enter Tryd.func28, Tryd.ntmps28
  go_wp2_with fail
  refine (fdeep_index fs B w fv hO hF hU).mono ?_
  rintro e w1 ⟨⟨r, rfl, hr⟩, b1⟩
  have B1 := hid b1
  have HR := hid hr
  clear b1 hr
  go_wp2_with fail
  go_ret
  exact ⟨by rw [← HR.out]; rfl, B1.out⟩
theorem room_ok {i : Nat} {p l : Int} (h : roomB i p l = true) : 0 ≤ l ∧ l ≤ 24 := by
  unfold roomB at h
  split at h
  · simp at h; omega
  · simp [withB] at h; omega
set_option maxHeartbeats 4000000 in
theorem isUnit_calls (G : Int) (fs : List Fq) (B : Nat) (w : World) (fv : Value) (hO : Hid (Ok B w)) (hF : Hid (FnsIn B w fv fs)) (hU : Hid (FewU fs)) :
    Calls Tryd.prog 30 #[.agg #[.int .i64 G, fv]] w fun e w' => e = .returned (.bool (unitB G fs)) ∧ Below w.heap.size w w' := by
  obtain ⟨ao, cp, rfl⟩ := fnsIn_shape hF.out
  have hB := hO.out.1
  have hl := hU.out.1
  have A := (Below.refl w.heap.size w).alloc (Nat.le_refl _) (.cells #[.int .i64 G, .slice ao fs.length cp] 24)
  have X := hid (blk_new w 24 #[.int .i64 G, .slice ao fs.length cp])
  have HA := hid A
  have H := hid (show unitB G fs = ((withB G 0 24 && withB (fs.length : Int) 1 32) && fnsB G (fs.length : Int) fs 0) from rfl)
  clear A
  go_enter Tryd.func30, Tryd.ntmps30
  go_wp2_with fail
  refine (within_calls _ _ _ _).mono ?_
  rintro e1 w1 ⟨rfl, b1⟩
  have B1 := hid (below_on HA.out b1)
  have x1 := blk_on X.out b1
  have c0 : w1.cell? ⟨w.heap.size, 0, none⟩ = some (.int .i64 G) := (blk_cell x1 0).trans rfl
  have c1 : w1.cell? ⟨w.heap.size, 1, none⟩ = some (.slice ao fs.length cp) := (blk_cell x1 1).trans rfl
  have X1 := hid x1
  clear b1 x1 X HA
  cases hg : withB G 0 24
  · rw [hg] at H
    go_wp2_with fail
    go_ret
    exact ⟨by rw [H.out]; rfl, B1.out⟩
  · rw [hg] at H
    go_wp2_with fail
    refine (within_calls _ _ _ _).mono ?_
    rintro e2 w2 ⟨rfl, b2⟩
    have B2 := hid (below_on B1.out b2)
    have x2 := blk_on X1.out b2
    have c0 : w2.cell? ⟨w.heap.size, 0, none⟩ = some (.int .i64 G) := (blk_cell x2 0).trans rfl
    have c1 : w2.cell? ⟨w.heap.size, 1, none⟩ = some (.slice ao fs.length cp) := (blk_cell x2 1).trans rfl
    have X2 := hid x2
    clear b2 x2 X1 B1
    cases hf : withB (fs.length : Int) 1 32
    · rw [hf] at H
      go_wp2_with fail
      go_ret
      exact ⟨by rw [H.out]; rfl, B2.out⟩
    · rw [hf] at H
      have hG : 0 ≤ G ∧ G ≤ 24 := by simpa [withB] using hg
      have hFl : 1 ≤ (fs.length : Int) ∧ (fs.length : Int) ≤ 32 := by simpa [withB] using hf
      have HGF := hid (And.intro hG hFl)
      clear hg hf hG hFl
      go_wp2_with fail
      go_loopw [19] (fun i wr => ∃ j : Nat, j ≤ fs.length ∧ i = .int .i64 j ∧ Hid (unitB G fs = fnsB G (fs.length : Int) (fs.drop j) j) ∧ Hid (Below w2.heap.size w2 wr)) (fun i _ => fs.length - (intOf i).toNat)
      case atStart => exact ⟨0, Nat.zero_le _, rfl, hid (by rw [H.out]; rfl), hid (Below.refl _ _)⟩
      case round =>
        obtain ⟨j, hj, rfl, hq, BB⟩ := hrel
        have y := blk_on X2.out BB.out
        have c0 : wr.cell? ⟨w.heap.size, 0, none⟩ = some (.int .i64 G) := (blk_cell y 0).trans rfl
        have c1 : wr.cell? ⟨w.heap.size, 1, none⟩ = some (.slice ao fs.length cp) := (blk_cell y 1).trans rfl
        have Y := hid y
        have hly := blk_lt y
        clear y
        by_cases hjl : j < fs.length
        · obtain ⟨b, off, hao, hbB, kv, d0, d1, d2, hk⟩ := fnsIn_at hF.out (List.getElem?_eq_getElem hjl)
          subst hao
          have hb0 := below_on B2.out BB.out
          have hb' := hb0.mono hB
          have e0 := cell_keep hb' hbB d0
          have e1 := cell_keep hb' hbB d1
          have e2 := cell_keep hb' hbB d2
          obtain ⟨u1, u2⟩ := hU.out.2 fs[j] (List.getElem_mem hjl)
          obtain ⟨ka, kc, rfl, _⟩ := kidsIn_cases hk
          have HS := hid (show fnsB G (fs.length : Int) (fs.drop j) j = ((roomB j fs[j].1 fs[j].2.1 && bodyU (fs[j].2.1, G, (fs.length : Int)) fs[j].2.2) && fnsB G (fs.length : Int) (fs.drop (j + 1)) (j + 1)) by rw [List.drop_eq_getElem_cons hjl, fnsB])
          generalize fs[j] = f at *
          obtain ⟨p, q, l⟩ := f
          dsimp only at *
          have A5 := (Below.refl wr.heap.size wr).alloc (Nat.le_refl _) (.cells #[.int .i64 p, .int .i64 q, .slice ka l.length kc] 44)
          have HR := hid (hasRoom_calls j (by omega) p q ka l.length kc (wr.alloc (.cells #[.int .i64 p, .int .i64 q, .slice ka l.length kc] 44)))
          have X5 := hid (blk_new wr 44 #[.int .i64 p, .int .i64 q, .slice ka l.length kc])
          have HA5 := hid A5
          have HK := hid hk
          have HU1 := hid u1
          have HU2 := hid u2
          have HB0 := hid hb0
          clear A5 hk hb' hb0 u1 u2 d0 d1 d2
          go_wp2_with fail
          refine HR.out.mono ?_
          rintro e w6 ⟨rfl, b6⟩
          have BX := below_on HA5.out b6
          have B6 := hid (below_on BB.out BX)
          have Z6 := hid (below_on HB0.out BX)
          have z1 := blk_on Y.out BX
          have z2 := blk_on X5.out b6
          have c0 : w6.cell? ⟨w.heap.size, 0, none⟩ = some (.int .i64 G) := (blk_cell z1 0).trans rfl
          have c1 : w6.cell? ⟨w.heap.size, 1, none⟩ = some (.slice (some ⟨b, off, none⟩) fs.length cp) := (blk_cell z1 1).trans rfl
          have g0 : w6.cell? ⟨wr.heap.size, 0, none⟩ = some (.int .i64 p) := (blk_cell z2 0).trans rfl
          have g1 : w6.cell? ⟨wr.heap.size, 1, none⟩ = some (.int .i64 q) := (blk_cell z2 1).trans rfl
          have g2 : w6.cell? ⟨wr.heap.size, 2, none⟩ = some (.slice ka l.length kc) := (blk_cell z2 2).trans rfl
          clear b6 BX z1 z2 HR X5 HA5 Y
          cases hr : roomB j p q
          · rw [hr] at HS
            have HE := hid (hq.out.trans HS.out)
            clear hq HS
            go_wp2_with fail
            go_ret
            exact ⟨by rw [HE.out]; rfl, Z6.out⟩
          · rw [hr] at HS
            have hro := room_ok hr
            have HB := hid (body_calls (q, G, (fs.length : Int)) ⟨by dsimp only; omega, by have := HGF.out; dsimp only; omega, by have := HGF.out; dsimp only; omega⟩ l B w6 (.slice ka l.length kc) (hid (ok_on hO.out (Z6.out.mono hB))) (hid (kidsIn_on (Z6.out.mono hB) HK.out)) HU1.out HU2.out)
            have HE := hid (hq.out.trans HS.out)
            clear hq HS hr
            go_wp2_with fail
            refine HB.out.mono ?_
            rintro e w7 ⟨rfl, b7⟩
            have B7 := hid (below_on B6.out b7)
            have Z7 := hid (below_on Z6.out b7)
            clear b7 HB B6 Z6
            cases hbo : bodyU (q, G, (fs.length : Int)) l
            · rw [hbo] at HE
              go_wp2_with fail
              go_ret
              exact ⟨by rw [HE.out]; rfl, Z7.out⟩
            · rw [hbo] at HE
              go_wp2_with fail
              go_roundw
              case rel => exact ⟨j + 1, by omega, by go_num, hid (by rw [HE.out]; rfl), B7⟩
              case measure => simp [intOf]; omega
        · have hje : j = fs.length := by omega
          subst hje
          rw [List.drop_length] at hq
          go_wp2_with fail
          go_ret
          exact ⟨by rw [hq.out]; rfl, below_on B2.out BB.out⟩
theorem check_calls8 (G : Int) (fs : List Fq) (B : Nat) (w : World) (fv : Value) (hO : Hid (Ok B w)) (hF : Hid (FnsIn B w fv fs)) (hU : Hid (FewU fs)) :
    Calls Tryd.prog 18 #[.agg #[.int .i64 G, fv]] w fun e w' => e = .returned (.int .i64 (checkU G fs)) ∧ Below w.heap.size w w' := by
  obtain ⟨ao, cp, rfl⟩ := fnsIn_shape hF.out
  have hB := hO.out.1
  have A := (Below.refl w.heap.size w).alloc (Nat.le_refl _) (.cells #[.int .i64 G, .slice ao fs.length cp] 24)
  have X := hid (blk_new w 24 #[.int .i64 G, .slice ao fs.length cp])
  have HD := hid (fdeep_contains fs B _ (.slice ao fs.length cp) (hid (ok_on hO.out (A.mono hB))) (hid (fnsIn_on hF.out (A.mono hB))) hU)
  have HA := hid A
  have H := hid (show checkU G fs = if fs.any (fun f => deepF f.2.2) then 13 else if unitB G fs then 0 else 2 from rfl)
  clear A
  go_enter Tryd.func18, Tryd.ntmps18
  go_wp2_with fail
  refine HD.out.mono ?_
  rintro e1 w1 ⟨rfl, b1⟩
  have B1 := hid (below_on HA.out b1)
  have x1 := blk_on X.out b1
  have c0 : w1.cell? ⟨w.heap.size, 0, none⟩ = some (.int .i64 G) := (blk_cell x1 0).trans rfl
  have c1 : w1.cell? ⟨w.heap.size, 1, none⟩ = some (.slice ao fs.length cp) := (blk_cell x1 1).trans rfl
  clear b1 x1 X HA HD
  cases hd : fs.any (fun f => deepF f.2.2)
  · rw [hd] at H
    have HU2 := hid (isUnit_calls G fs B w1 (.slice ao fs.length cp) (hid (ok_on hO.out (B1.out.mono hB))) (hid (fnsIn_on hF.out (B1.out.mono hB))) hU)
    go_wp2_with fail
    refine HU2.out.mono ?_
    rintro e2 w2 ⟨rfl, b2⟩
    have B2 := hid (below_on B1.out b2)
    clear b2 HU2 B1
    cases hu : unitB G fs
    · rw [hu] at H
      go_wp2_with fail
      go_ret
      exact ⟨by rw [H.out]; rfl, B2.out⟩
    · rw [hu] at H
      go_wp2_with fail
      go_ret
      exact ⟨by rw [H.out]; rfl, B2.out⟩
  · rw [hd] at H
    go_wp2_with fail
    go_ret
    exact ⟨by rw [H.out]; rfl, B1.out⟩

end Go.Proofs.YtgdbaceehpcgbaaDoor
