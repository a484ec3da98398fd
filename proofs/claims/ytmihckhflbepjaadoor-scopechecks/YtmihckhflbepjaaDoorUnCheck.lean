/- Which units may be, as the document checks them. -/
import Derived.Test.YtmihckhflbepjaaDoorTk
import Derived.Test.YtmihckhflbepjaaDoorUnRight
import Derived.Test.YtmihckhflbepjaaDoorJoint12
import Derived.Test.YtmihckhflbepjaaDoorScDeep
namespace Go.Proofs.YtmihckhflbepjaaDoor
set_option linter.unusedSimpArgs false
set_option linter.unusedVariables false
open Go.RowKit

theorem check_13 (t : Nd) : (checkN t == 13) = decide (12 < highN t) := by
  unfold checkN
  by_cases h : 12 < highN t
  · simp [h]
  · rw [if_neg h, decide_eq_false h]
    split <;> rfl
theorem deepF_yes {l : List Nd} {i : Nat} (hi : i < l.length) (h : 12 < highN l[i]) : deepF l = true := by
  unfold deepF
  rw [List.any_eq_true]
  exact ⟨l[i], List.getElem_mem hi, by rw [check_13]; exact decide_eq_true h⟩
theorem deepF_no {l : List Nd} (h : ∀ (q : Nat) (hq : q < l.length), highN l[q] ≤ 12) : deepF l = false := by
  unfold deepF
  rw [List.any_eq_false]
  intro x hx
  obtain ⟨q, hq, rfl⟩ := List.getElem_of_mem hx
  rw [check_13, decide_eq_false (by have := h q hq; omega)]
  decide
/-- what is known of the document's Right, at all nodes -/
def URightAll : Prop := ∀ (G L : Int) (fa : Option Addr) (fn fc : Nat) (x : Nd), 0 ≤ L → L ≤ 24 → 0 ≤ G → G ≤ 24 → fn ≤ 40 → URightAt G L fa fn fc x
theorem all_right {b : Bds} {l : List Nd} (h : ∀ (q : Nat) (hq : q < l.length), rightD b l[q] 2 = true) : (l.all fun x => rightD b x 2) = true := by
  rw [List.all_eq_true]
  intro x hx
  obtain ⟨q, hq, rfl⟩ := List.getElem_of_mem hx
  exact h q hq
theorem all_wrong {b : Bds} {l : List Nd} {i : Nat} (hi : i < l.length) (h : rightD b l[i] 2 = false) : (l.all fun x => rightD b x 2) = false := by
  rw [List.all_eq_false]
  exact ⟨l[i], List.getElem_mem hi, by rw [h]; decide⟩
theorem fns_step (G : Int) (fs : List Fq) {j : Nat} (hj : j < fs.length) : fnsB G (fs.length : Int) (fs.drop j) j = (((roomD j fs[j].1 fs[j].2.1 && decide (fs[j].2.2.length ≤ 40)) && fs[j].2.2.all fun x => rightD (fs[j].2.1, G, (fs.length : Int)) x 2) && fnsB G (fs.length : Int) (fs.drop (j + 1)) (j + 1)) := by
  rw [List.drop_eq_getElem_cons hj, fnsB, ← room_same, ← body_same]
  unfold bodyD
  simp only [Bool.and_assoc]
theorem room_24 {i : Nat} {p l : Int} (h : roomD i p l = true) : 0 ≤ l ∧ l ≤ 24 := by
  unfold roomD at h
  simp at h
  omega
set_option maxRecDepth 100000 in
set_option maxHeartbeats 12800000 in
theorem rcheckU_calls (G : Int) (fv : Value) (fs : List Fq) (B : Nat) (w : World) (hB : B ≤ w.heap.size) (h1 : Hid (FnsIn B w fv fs)) (hV : Hid (FewV fs)) (RT : Hid URightAll) :
    Calls Tryd.prog 14 #[.agg #[.int .i64 G, fv]] w fun e w' => e = .returned (.int .i64 (checkU G fs)) ∧ Below w.heap.size w w' := by
  obtain ⟨fa, fc, rfl⟩ := fnsIn_shape h1.out
  have A := (Below.refl w.heap.size w).alloc (Nat.le_refl _) (.cells #[.int .i64 G, .slice fa fs.length fc] 30)
  have X := hid (blk_new w 30 #[.int .i64 G, .slice fa fs.length fc])
  have HA := hid A
  have hl40 := hV.out.1
  have H := hid (show checkU G fs = if fs.any (fun f => deepF f.2.2) then 13 else if unitB G fs then 0 else 2 from rfl)
  clear A
  generalize checkU G fs = F at *
  go_enter Tryd.func14, Tryd.ntmps14
  go_wp2_with fail
  generalize hW : w.alloc (.cells #[.int .i64 G, .slice fa fs.length fc] 30) = w2 at *
  clear hW
  have hz2 := HA.out.size
  have hx2 := blk_lt X.out
  go_loopw [3] (fun i wr => ∃ j : Nat, j ≤ fs.length ∧ i = .int .i64 j ∧ Hid (∀ (q : Nat) (hq : q < fs.length), q < j → deepF fs[q].2.2 = false) ∧ Hid (Below w2.heap.size w2 wr)) (fun i _ => fs.length - (intOf i).toNat)
  case atStart => exact ⟨0, Nat.zero_le _, rfl, hid (fun q _ h => absurd h (Nat.not_lt_zero _)), hid (Below.refl _ _)⟩
  case round =>
    obtain ⟨j, hj, rfl, hq, BB⟩ := hrel
    have c1 : wr.cell? ⟨w.heap.size, 1, none⟩ = some (.slice fa fs.length fc) := (blk_cell (blk_on X.out BB.out) 1).trans rfl
    by_cases hjl : j < fs.length
    · obtain ⟨b, off, hao, hbB, kv, d0, d1, d2, hk⟩ := fnsIn_at h1.out (List.getElem?_eq_getElem hjl)
      subst hao
      have hb0 := below_on HA.out BB.out
      have hb' := hb0.mono hB
      have e2 := cell_keep hb' hbB d2
      obtain ⟨ka, kc, rfl, hks⟩ := kidsIn_cases hk
      have K1 := hid hks
      have HFE := hid (hV.out.2 fs[j] (List.getElem_mem hjl))
      have HD := hid (fun h2 => all_more (P := fun f : Fq => deepF f.2.2 = false) hjl hq.out h2)
      have HY := hid (fun h => any_yes (fun f : Fq => deepF f.2.2) fs hjl h)
      generalize fs[j] = f at *
      obtain ⟨p, q, l⟩ := f
      dsimp only at *
      have HB0 := hid hb0
      have D2 := hid d2
      have hl60 : l.length ≤ 60 := HFE.out.1
      clear hk hks hb' hb0 hq d0 d1 d2
      as_aux_lemma =>
        go_wp2_with fail
        clear c1 e2
        generalize wr = w3 at *
        go_loopw [4] (fun i wr' => ∃ i' : Nat, i' ≤ l.length ∧ i = .int .i64 i' ∧ Hid (∀ (q : Nat) (hq : q < l.length), q < i' → highN l[q] ≤ 12) ∧ Hid (Below w3.heap.size w3 wr')) (fun i _ => l.length - (intOf i).toNat)
        case atStart => exact ⟨0, Nat.zero_le _, rfl, hid (fun q _ h => absurd h (Nat.not_lt_zero _)), hid (Below.refl _ _)⟩
        case round =>
          obtain ⟨i', hi, rfl, hq', BI⟩ := hrel
          have hbI := below_on HB0.out BI.out
          have HBI := hid hbI
          have hszI := hbI.size
          have c1 : wr.cell? ⟨w.heap.size, 1, none⟩ = some (.slice (some ⟨b, off, none⟩) fs.length fc) := (blk_cell (blk_on X.out (below_on BB.out BI.out)) 1).trans rfl
          have e2 := cell_keep (hbI.mono hB) hbB D2.out
          by_cases hil : i' < l.length
          · obtain ⟨b2, off2, rfl, hb2, hat⟩ := K1.out.resolve_left (fun h => by rw [h] at hil; cases hil)
            obtain ⟨nv1, kv1, hnode, hin⟩ := ndsAt_get hat i' hil
            obtain ⟨g0, g1, g2, g3, g4, g5, g6⟩ := nodeAt_on hnode hb2 (hbI.mono hB)
            have cl := hid (refheight_calls l[i'] B wr nv1 kv1 (by omega) (hid (ndIn_on (hbI.mono hB) _ _ _ hin)) (by have := (HFE.out.2 l[i'] (List.getElem_mem hil)).2; omega))
            have HQ2 := hid (fun h2 => all_more (P := fun x : Nd => highN x ≤ 12) hil hq'.out h2)
            have HY2 := hid (fun h => deepF_yes hil h)
            generalize l[i'] = x at *
            obtain ⟨a1, z1, a2, z2, rfl, rfl⟩ := ndIn_shape hin
            clear hin hnode hat hq' hbI
            go_wp2_with fail
            refine cl.out.mono ?_
            rintro e4 w4 ⟨rfl, b4⟩
            have B4 := hid (below_on BI.out b4)
            have HB4 := hid (below_on HBI.out b4)
            clear b4 cl c1 e2 g0 g1 g2 g3 g4 g5 g6
            generalize highN x = hx at *
            by_cases hh : 12 < hx
            · have d : decide ((12 : Int) < (hx : Int)) = true := decide_eq_true (by omega)
              have HE := hid (show F = 13 by rw [H.out, HY.out (HY2.out hh)]; rfl)
              clear hh
              go_wp2_with fail
              go_ret
              exact ⟨by rw [HE.out]; rfl, HB4.out⟩
            · have d : decide ((12 : Int) < (hx : Int)) = false := decide_eq_false (by omega)
              have H3 := hid (HQ2.out (by omega))
              clear hh
              go_wp2_with fail
              go_roundw
              case rel => first | exact ⟨i' + 1, by omega, by go_num, H3, B4⟩ | ((repeat apply Exists.intro); refine ⟨?r1, rfl⟩; exact ⟨i' + 1, by omega, by go_num, H3, B4⟩)
              case measure => simp [intOf]; omega
          · have hie : i' = l.length := by omega
            have H2 := hid (HD.out (deepF_no (fun q h1 => hq'.out q h1 (by omega))))
            clear hbI hq'
            subst hie
            go_wp2_with fail
            go_roundw
            case rel => first | exact ⟨j + 1, by omega, by go_num, H2, hid (below_on BB.out BI.out)⟩ | ((repeat apply Exists.intro); refine ⟨?r1, rfl⟩; exact ⟨j + 1, by omega, by go_num, H2, hid (below_on BB.out BI.out)⟩)
            case measure => simp [intOf]; omega
    · have HN := hid (any_no (fun f : Fq => deepF f.2.2) fs (fun q h1 => hq.out q h1 (by omega)))
      replace H := hid (show F = if unitB G fs then 0 else 2 by rw [H.out, HN.out]; rfl)
      have hje : j = fs.length := by omega
      clear hq HN hjl hj
      subst hje
      have c0 : wr.cell? ⟨w.heap.size, 0, none⟩ = some (.int .i64 G) := (blk_cell (blk_on X.out BB.out) 0).trans rfl
      have HU := hid (show unitB G fs = ((withB G 0 24 && withB (fs.length : Int) 1 32) && fnsB G (fs.length : Int) fs 0) from rfl)
      obtain ⟨rb, hrb⟩ : ∃ b, b = (withB G 0 24 && withB (fs.length : Int) 1 32) := ⟨_, rfl⟩
      rw [← hrb] at HU
      have RB := hid (show rb = ((decide (0 ≤ G) && decide (G ≤ 24)) && (decide (1 ≤ (fs.length : Int)) && decide ((fs.length : Int) ≤ 32))) from hrb)
      clear hrb
      generalize unitB G fs = U at *
      go_upto_region 9 with fail
      generalize wr = w3 at *
      go_cut [56] (fun v wx => v = .bool (!rb) ∧ wx = w3)
      case first =>
        clear H HU
        by_cases g1 : 0 ≤ G
        rotate_left 1
        · have e : rb = false := by rw [RB.out, decide_eq_false g1]; rfl
          have d : decide (G < 0) = true := decide_eq_true (by omega)
          subst e
          clear g1
          as_aux_lemma =>
            go_wp2_with fail
            go_meet
            exact ⟨rfl, rfl⟩
        have d1 : decide (G < 0) = false := decide_eq_false (by omega)
        by_cases g2 : G ≤ 24
        rotate_left 1
        · have e : rb = false := by rw [RB.out, decide_eq_false g2]; simp
          have d : decide (24 < G) = true := decide_eq_true (by omega)
          subst e
          clear g1 g2
          as_aux_lemma =>
            go_wp2_with fail
            go_meet
            exact ⟨rfl, rfl⟩
        have d2 : decide (24 < G) = false := decide_eq_false (by omega)
        by_cases g3 : 1 ≤ (fs.length : Int)
        rotate_left 1
        · have e : rb = false := by rw [RB.out, decide_eq_false g3]; simp
          have d : decide ((fs.length : Int) < 1) = true := decide_eq_true (by omega)
          subst e
          clear g1 g2 g3
          as_aux_lemma =>
            go_wp2_with fail
            go_meet
            exact ⟨rfl, rfl⟩
        have d3 : decide ((fs.length : Int) < 1) = false := decide_eq_false (by omega)
        by_cases g4 : (fs.length : Int) ≤ 32
        rotate_left 1
        · have e : rb = false := by rw [RB.out, decide_eq_false g4]; simp
          have d : decide (32 < (fs.length : Int)) = true := decide_eq_true (by omega)
          subst e
          clear g1 g2 g3 g4
          as_aux_lemma =>
            go_wp2_with fail
            go_meet
            exact ⟨rfl, rfl⟩
        have d4 : decide (32 < (fs.length : Int)) = false := decide_eq_false (by omega)
        have e : rb = true := by rw [RB.out, decide_eq_true g1, decide_eq_true g2, decide_eq_true g3, decide_eq_true g4]; rfl
        subst e
        clear g1 g2 g3 g4
        as_aux_lemma =>
          go_wp2_with fail
          go_meet
          exact ⟨rfl, rfl⟩
      case rest =>
      obtain ⟨rfl, rfl⟩ := hcut
      rename World => w3
      have BX := hid (below_on HA.out BB.out)
      cases rb with
      | false =>
        have HE := hid (show F = 2 by rw [H.out, HU.out]; rfl)
        as_aux_lemma =>
          go_wp2_with fail
          go_ret
          exact ⟨by rw [HE.out]; rfl, BX.out⟩
      | true =>
      replace HU := hid (show U = fnsB G (fs.length : Int) fs 0 by rw [HU.out]; rfl)
      have GB := hid (show (0 ≤ G ∧ G ≤ 24) ∧ 1 ≤ (fs.length : Int) ∧ (fs.length : Int) ≤ 32 by have h := RB.out.symm; simp at h; omega)
      clear RB
      have hx3 := BB.out.size
      go_wp2_with fail
      clear c0 c1
      go_loopw [5] (fun i wr => ∃ j : Nat, j ≤ fs.length ∧ i = .int .i64 j ∧ Hid (U = fnsB G (fs.length : Int) (fs.drop j) j) ∧ Hid (Below w3.heap.size w3 wr)) (fun i _ => fs.length - (intOf i).toNat)
      case atStart => exact ⟨0, Nat.zero_le _, rfl, hid (by rw [HU.out]; rfl), hid (Below.refl _ _)⟩
      case round =>
        clear HU
        obtain ⟨j, hj, rfl, hq, BR⟩ := hrel
        have hb0 := below_on BX.out BR.out
        have c1 : wr.cell? ⟨w.heap.size, 1, none⟩ = some (.slice fa fs.length fc) := (blk_cell (blk_on X.out (below_on BB.out BR.out)) 1).trans rfl
        by_cases hjl : j < fs.length
        rotate_left 1
        · have hje : j = fs.length := by omega
          have HE := hid (show F = 0 by rw [H.out, hq.out, hje, List.drop_length]; rfl)
          have HB0 := hid hb0
          clear hq hb0 hjl hj
          subst hje
          as_aux_lemma =>
            go_wp2_with fail
            go_ret
            exact ⟨by rw [HE.out]; rfl, HB0.out⟩
        obtain ⟨b, off, hao, hbB, kv, d0, d1, d2, hk⟩ := fnsIn_at h1.out (List.getElem?_eq_getElem hjl)
        subst hao
        have hb' := hb0.mono hB
        have e0 := cell_keep hb' hbB d0
        have e1 := cell_keep hb' hbB d1
        have e2 := cell_keep hb' hbB d2
        obtain ⟨ka, kc, rfl, hks⟩ := kidsIn_cases hk
        have HFE := hid (hV.out.2 fs[j] (List.getElem_mem hjl))
        have HS := hid (hq.out.trans (fns_step G fs hjl))
        generalize fs[j] = f at *
        obtain ⟨p, q, l⟩ := f
        dsimp only at *
        have K1 := hid hks
        have hl60 : l.length ≤ 60 := HFE.out.1
        have HB0 := hid hb0
        clear hk hks hb' hb0 hq d0 d1 d2
        obtain ⟨tb, htb⟩ : ∃ t, t = (roomD j p q && decide (l.length ≤ 40)) := ⟨_, rfl⟩
        rw [← htb] at HS
        have TB := hid htb
        clear htb
        have A5 := (Below.refl wr.heap.size wr).alloc (Nat.le_refl _) (.cells #[.int .i64 p, .int .i64 q, .slice ka l.length kc] 45)
        have X5 := hid (blk_new wr 45 #[.int .i64 p, .int .i64 q, .slice ka l.length kc])
        have B5 := hid (below_on BR.out A5)
        have Z5 := hid (below_on HB0.out A5)
        clear A5
        go_upto_region 15 with fail
        generalize hW5 : wr.alloc (.cells #[.int .i64 p, .int .i64 q, .slice ka l.length kc] 45) = w5 at *
        clear hW5 c1 e0 e1 e2
        have t0 : w5.cell? ⟨wr.heap.size, 0, none⟩ = some (.int .i64 p) := (blk_cell X5.out 0).trans rfl
        have t1 : w5.cell? ⟨wr.heap.size, 1, none⟩ = some (.int .i64 q) := (blk_cell X5.out 1).trans rfl
        have t2 : w5.cell? ⟨wr.heap.size, 2, none⟩ = some (.slice ka l.length kc) := (blk_cell X5.out 2).trans rfl
        generalize wr.heap.size = g at *
        go_cut [103] (fun v wx => v = .bool (!tb) ∧ wx = w5)
        case first =>
          clear H HS HFE K1
          have TV := hid (show tb = ((decide (0 ≤ p) && (decide (p ≤ 6) && (decide (p ≤ q) && (decide (q ≤ 24) && !(decide (j = 0) && decide (0 < q)))))) && decide (l.length ≤ 40)) from TB.out)
          clear TB
          by_cases g1 : 0 ≤ p
          rotate_left 1
          · have e : tb = false := by rw [TV.out, decide_eq_false g1]; rfl
            have d : decide (p < 0) = true := decide_eq_true (by omega)
            subst e
            clear g1
            as_aux_lemma =>
              go_wp2_with fail
              go_meet
              exact ⟨rfl, rfl⟩
          have d1 : decide (p < 0) = false := decide_eq_false (by omega)
          by_cases g2 : p ≤ 6
          rotate_left 1
          · have e : tb = false := by rw [TV.out, decide_eq_false g2]; simp
            have d : decide (6 < p) = true := decide_eq_true (by omega)
            subst e
            clear g1 g2
            as_aux_lemma =>
              go_wp2_with fail
              go_meet
              exact ⟨rfl, rfl⟩
          have d2 : decide (6 < p) = false := decide_eq_false (by omega)
          by_cases g3 : p ≤ q
          rotate_left 1
          · have e : tb = false := by rw [TV.out, decide_eq_false g3]; simp
            have d : decide (q < p) = true := decide_eq_true (by omega)
            subst e
            clear g1 g2 g3
            as_aux_lemma =>
              go_wp2_with fail
              go_meet
              exact ⟨rfl, rfl⟩
          have d3 : decide (q < p) = false := decide_eq_false (by omega)
          by_cases g4 : q ≤ 24
          rotate_left 1
          · have e : tb = false := by rw [TV.out, decide_eq_false g4]; simp
            have d : decide (24 < q) = true := decide_eq_true (by omega)
            subst e
            clear g1 g2 g3 g4
            as_aux_lemma =>
              go_wp2_with fail
              go_meet
              exact ⟨rfl, rfl⟩
          have d4 : decide (24 < q) = false := decide_eq_false (by omega)
          by_cases g6 : l.length ≤ 40
          rotate_left 1
          · have e : tb = false := by rw [TV.out, decide_eq_false g6]; simp
            have d : decide ((40 : Int) < (l.length : Int)) = true := decide_eq_true (by omega)
            subst e
            clear g1 g2 g3 g4 g6
            by_cases h0 : j = 0
            · subst h0
              by_cases h5 : 0 < q
              · have d5 : decide (0 < q) = true := decide_eq_true h5
                as_aux_lemma =>
                  go_wp2_with fail
                  go_meet
                  exact ⟨rfl, rfl⟩
              · have d5 : decide (0 < q) = false := decide_eq_false h5
                as_aux_lemma =>
                  go_wp2_with fail
                  go_meet
                  exact ⟨rfl, rfl⟩
            · have b0 : ((j : Int) == 0) = false := beq_eq_false_iff_ne.2 (by omega)
              clear h0
              as_aux_lemma =>
                go_wp2_with fail
                go_meet
                exact ⟨rfl, rfl⟩
          have d6 : decide ((40 : Int) < (l.length : Int)) = false := decide_eq_false (by omega)
          by_cases h0 : j = 0
          · by_cases h5 : 0 < q
            · have e : tb = false := by rw [TV.out, decide_eq_true h0, decide_eq_true h5]; simp
              have d5 : decide (0 < q) = true := decide_eq_true h5
              subst e h0
              clear g1 g2 g3 g4 g6
              as_aux_lemma =>
                go_wp2_with fail
                go_meet
                exact ⟨rfl, rfl⟩
            · have e : tb = true := by rw [TV.out, decide_eq_true g1, decide_eq_true g2, decide_eq_true g3, decide_eq_true g4, decide_eq_false h5, decide_eq_true g6]; simp
              have d5 : decide (0 < q) = false := decide_eq_false h5
              subst e h0
              clear g1 g2 g3 g4 g6
              as_aux_lemma =>
                go_wp2_with fail
                go_meet
                exact ⟨rfl, rfl⟩
          · have e : tb = true := by rw [TV.out, decide_eq_true g1, decide_eq_true g2, decide_eq_true g3, decide_eq_true g4, decide_eq_false h0, decide_eq_true g6]; simp
            have b0 : ((j : Int) == 0) = false := beq_eq_false_iff_ne.2 (by omega)
            subst e
            clear g1 g2 g3 g4 g6 h0
            as_aux_lemma =>
              go_wp2_with fail
              go_meet
              exact ⟨rfl, rfl⟩
        case rest =>
        obtain ⟨rfl, rfl⟩ := hcut
        rename World => w5
        clear t0 t1 t2
        cases tb with
        | false =>
          have HE := hid (show F = 2 by rw [H.out, HS.out]; rfl)
          clear HS
          as_aux_lemma =>
            go_wp2_with fail
            go_ret
            exact ⟨by rw [HE.out]; rfl, Z5.out⟩
        | true =>
        have hq24 := room_24 (show roomD j p q = true by have h := TB.out.symm; rw [Bool.and_eq_true] at h; exact h.1)
        clear TB
        go_wp2_with fail
        have hg5 : g < w5.heap.size := blk_lt X5.out
        go_loopw [7] (fun i wr' => ∃ i' : Nat, i' ≤ l.length ∧ i = .int .i64 i' ∧ Hid (∀ (m : Nat) (hm : m < l.length), m < i' → rightD (q, G, (fs.length : Int)) l[m] 2 = true) ∧ Hid (Below w5.heap.size w5 wr')) (fun i _ => l.length - (intOf i).toNat)
        case atStart => exact ⟨0, Nat.zero_le _, rfl, hid (fun q _ h => absurd h (Nat.not_lt_zero _)), hid (Below.refl _ _)⟩
        case round =>
          obtain ⟨i', hi, rfl, hq', BI⟩ := hrel
          rename World => wz
          have hbI := below_on Z5.out BI.out
          have HBI := hid hbI
          have hszI := hbI.size
          have hzI := BI.out.size
          have t2 : wz.cell? ⟨g, 2, none⟩ = some (.slice ka l.length kc) := (blk_cell (blk_on X5.out BI.out) 2).trans rfl
          by_cases hil : i' < l.length
          rotate_left 1
          · have hie : i' = l.length := by omega
            have H2 := hid (show U = fnsB G (fs.length : Int) (fs.drop (j + 1)) (j + 1) by rw [HS.out, all_right (fun m hm => hq'.out m hm (by omega))]; rfl)
            clear hbI hq' HS
            subst hie
            as_aux_lemma =>
              go_wp2_with fail
              go_roundw
              case rel => first | exact ⟨j + 1, by omega, by go_num, H2, hid (below_on B5.out BI.out)⟩ | ((repeat apply Exists.intro); refine ⟨?r1, rfl⟩; exact ⟨j + 1, by omega, by go_num, H2, hid (below_on B5.out BI.out)⟩)
              case measure => simp [intOf]; omega
          have t1 : wz.cell? ⟨g, 1, none⟩ = some (.int .i64 q) := (blk_cell (blk_on X5.out BI.out) 1).trans rfl
          have hbu := below_on (below_on BB.out B5.out) BI.out
          have u0 : wz.cell? ⟨w.heap.size, 0, none⟩ = some (.int .i64 G) := (blk_cell (blk_on X.out hbu) 0).trans rfl
          have u1 : wz.cell? ⟨w.heap.size, 1, none⟩ = some (.slice (some ⟨b, off, none⟩) fs.length fc) := (blk_cell (blk_on X.out hbu) 1).trans rfl
          obtain ⟨b2, off2, rfl, hb2, hat⟩ := K1.out.resolve_left (fun h => by rw [h] at hil; cases hil)
          obtain ⟨nv1, kv1, hnode, hin⟩ := ndsAt_get hat i' hil
          obtain ⟨y0, y1, y2, y3, y4, y5, y6⟩ := nodeAt_on hnode hb2 (hbI.mono hB)
          have hx := HFE.out.2 l[i'] (List.getElem_mem hil)
          have hinz := ndIn_on (hbI.mono hB) _ _ _ hin
          have RC := hid (fun (W : World) (hW : B ≤ W.heap.size) (hN : Hid (NdIn B W (l[i']'hil) nv1 kv1)) => RT.out G q (some ⟨b, off, none⟩) fs.length fc l[i'] hq24.1 hq24.2 GB.out.1.1 GB.out.1.2 hl40 2 B W nv1 kv1 (by decide) (by decide) hW hN hx.1 (by have := hx.2; omega))
          have HQ2 := hid (fun h2 => all_more (P := fun x : Nd => rightD (q, G, (fs.length : Int)) x 2 = true) hil hq'.out h2)
          have HN2 := hid (fun h => all_wrong (b := (q, G, (fs.length : Int))) hil h)
          generalize l[i'] = x at *
          obtain ⟨a1, z1, a2, z2, rfl, rfl⟩ := ndIn_shape hin
          have HIN := hid hinz
          have hb2z : b2 < wz.heap.size := by omega
          have hgz : g < wz.heap.size := by omega
          have hwz : w.heap.size < wz.heap.size := by have := hbu.size; omega
          have hBz : B ≤ wz.heap.size := by omega
          have ALL := hid (show wz.cell? ⟨g, 2, none⟩ = some (.slice (some ⟨b2, off2, none⟩) l.length kc) ∧ wz.cell? ⟨b2, off2 + i' * 7, none⟩ = some (.int .i64 x.kind) ∧ wz.cell? ⟨b2, off2 + i' * 7 + 1, none⟩ = some (.int .i64 x.op) ∧ wz.cell? ⟨b2, off2 + i' * 7 + 2, none⟩ = some (.int .i64 x.num) ∧ wz.cell? ⟨b2, off2 + i' * 7 + 3, none⟩ = some (.string x.str) ∧ wz.cell? ⟨b2, off2 + i' * 7 + 4, none⟩ = some (.slice a1 x.names.length z1) ∧ wz.cell? ⟨b2, off2 + i' * 7 + 5, none⟩ = some (.slice a2 x.kids.length z2) ∧ wz.cell? ⟨b2, off2 + i' * 7 + 6, none⟩ = some (.int .i64 x.pl) ∧ wz.cell? ⟨w.heap.size, 0, none⟩ = some (.int .i64 G) ∧ wz.cell? ⟨w.heap.size, 1, none⟩ = some (.slice (some ⟨b, off, none⟩) fs.length fc) ∧ wz.cell? ⟨g, 1, none⟩ = some (.int .i64 q) from ⟨t2, y0, y1, y2, y3, y4, y5, y6, u0, u1, t1⟩)
          generalize rightD (q, G, (fs.length : Int)) x 2 = sb at *
          clear hin hnode hat hq' hbI hbu hinz hx
          go_upto_region 20 with fail
          refine wp_region_held_drew (S := fun aZ => aZ.cell? ⟨g, 2, none⟩ = some (.slice (some ⟨b2, off2, none⟩) l.length kc) ∧ aZ.cell? ⟨b2, off2 + i' * 7, none⟩ = some (.int .i64 x.kind) ∧ aZ.cell? ⟨b2, off2 + i' * 7 + 1, none⟩ = some (.int .i64 x.op) ∧ aZ.cell? ⟨b2, off2 + i' * 7 + 2, none⟩ = some (.int .i64 x.num) ∧ aZ.cell? ⟨b2, off2 + i' * 7 + 3, none⟩ = some (.string x.str) ∧ aZ.cell? ⟨b2, off2 + i' * 7 + 4, none⟩ = some (.slice a1 x.names.length z1) ∧ aZ.cell? ⟨b2, off2 + i' * 7 + 5, none⟩ = some (.slice a2 x.kids.length z2) ∧ aZ.cell? ⟨b2, off2 + i' * 7 + 6, none⟩ = some (.int .i64 x.pl) ∧ aZ.cell? ⟨w.heap.size, 0, none⟩ = some (.int .i64 G) ∧ aZ.cell? ⟨w.heap.size, 1, none⟩ = some (.slice (some ⟨b, off, none⟩) fs.length fc) ∧ aZ.cell? ⟨g, 1, none⟩ = some (.int .i64 q)) (by kernel_rfl) ?_ (fun hHeld => ?_)
          · (refine ⟨?_, ?_, ?_, ?_, ?_, ?_, ?_, ?_, ?_, ?_, ?_⟩ <;> go_simp)
          refine tkk 0 ?_
          refine tkk 1 ?_
          refine tkk 2 ?_
          refine tkk 3 ?_
          refine tkk 4 ?_
          refine tkk 5 ?_
          refine tkk 6 ?_
          refine tkk 7 ?_
          refine rdy 8 (fun K hK => ?_)
          go_simp
          refine (RC.out _ (by first | exact hBz | (simp; exact hBz)) (by first | exact HIN | exact hid (ndIn_on (Below.refl _ _).drew _ _ _ HIN.out))).mono ?_
          rintro e w6 ⟨rfl, b6⟩
          have b7 : Below wz.heap.size wz w6 := below_in (show Below wz.heap.size wz _ by first | exact Below.refl _ _ | exact (Below.refl _ _).drew) (Nat.le_refl _) b6
          have L6 := hid (below_on BI.out b7)
          have M6 := hid (below_on HBI.out b7)
          obtain ⟨v0, v1, v2, v3, v4, v5, v6, v7, v8, v9, v10⟩ := ALL.out
          have Q6 := hid (And.intro (cell_keep b7 hgz v0) (And.intro (cell_keep b7 hb2z v1) (And.intro (cell_keep b7 hb2z v2) (And.intro (cell_keep b7 hb2z v3) (And.intro (cell_keep b7 hb2z v4) (And.intro (cell_keep b7 hb2z v5) (And.intro (cell_keep b7 hb2z v6) (And.intro (cell_keep b7 hb2z v7) (And.intro (cell_keep b7 hwz v8) (And.intro (cell_keep b7 hwz v9) (cell_keep b7 hgz v10)))))))))))
          clear b6 b7 v0 v1 v2 v3 v4 v5 v6 v7 v8 v9 v10
          go_simp
          refine hK.out _ _ Q6.out (fun _ => ?_)
          clear hK K
          try simp only [Act.put, List.setIfInBounds_toArray, List.set_cons_zero, List.set_cons_succ, List.getElem_toArray, List.getElem_cons_succ, List.getElem_cons_zero]
          cases sb with
          | false =>
            have HE := hid (show F = 2 by rw [H.out, HS.out, HN2.out rfl]; rfl)
            clear HQ2 HN2 HS
            refine tkk 9 ?_
            refine wpAnyH_done (by kernel_rfl) ?_ _
            go_wp2_with fail
            go_ret
            exact ⟨by rw [HE.out]; rfl, by first | exact M6.out | exact M6.out.drew⟩
          | true =>
            have H3 := hid (HQ2.out rfl)
            clear HQ2 HN2
            refine tkk 9 ?_
            refine wpAnyH_done (by kernel_rfl) ?_ _
            go_wp2_with fail
            go_roundw
            case rel => first | exact ⟨i' + 1, by omega, by go_num, H3, hid (by first | exact L6.out | exact L6.out.drew)⟩ | ((repeat apply Exists.intro); refine ⟨?r1, rfl⟩; exact ⟨i' + 1, by omega, by go_num, H3, hid (by first | exact L6.out | exact L6.out.drew)⟩)
            case measure => simp [intOf]; omega

end Go.Proofs.YtmihckhflbepjaaDoor
