/- Whether a node is right as an expression. -/
import Derived.Test.YtgdbaceehpcgbaaDoorTreeLike
namespace Go.Proofs.YtgdbaceehpcgbaaDoor
open Go.RowKit

theorem right_bare {k o n : Int} {s : ByteArray} {ns : List ByteArray} {ks : List Nd} {p : Int} {a : Nat} (h : bareB k o n s ns ks.length = false) : rightN (.mk k o n s ns ks p) a = false := by
  rw [rightN_mk]
  have : okB k o n s ns ks.length = false := by
    cases hq : okB k o n s ns ks.length with
    | false => rfl
    | true =>
      exfalso
      rw [bareB_eq] at h
      unfold okB at hq
      simp only [Bool.and_eq_true] at hq
      obtain ⟨h1, h2, h3, h4, h5⟩ := hq
      have g1 : cond (hasOpK k) true (decide (o = 0)) = true := by unfold opOk at h1; unfold hasOpK; grind
      have g2 : cond (hasNumK k) true (decide (n = 0)) = true := by unfold numOk at h2; unfold hasNumK; grind
      have g3 : cond (hasStrK k) true (decide (s.size = 0)) = true := by unfold strOk at h3; unfold hasStrK; grind
      have g4 : cond (hasNsK k) true (decide (ns.length = 0)) = true := by unfold nsOk at h4; unfold hasNsK; grind
      have g5 : cond (leafK k) (decide (ks.length = 0)) true = true := by unfold cntOk at h5; unfold leafK; grind
      rw [g1, g2, g3, g4, g5] at h
      cases h
  rw [this]; simp

set_option maxHeartbeats 6400000 in
set_option maxRecDepth 100000 in
theorem expr_step (k o n : Int) (s : ByteArray) (ns : List ByteArray) (ks : List Nd) (p : Int) (ihe : ∀ x ∈ ks, ExprAt x) (ihs : ∀ x ∈ ks, StmtAt x) : ExprAt (.mk k o n s ns ks p) := by
  intro B w nv kv hO hN hsm hc
  obtain ⟨hs6, hns, _, hsk⟩ := small_mk hsm
  simp only [countN] at hc
  obtain ⟨hs1, hk1⟩ := ndIn_mk.1 hN.out
  obtain ⟨a1, q1, a2, q2, rfl, rfl⟩ := ndIn_shape hN.out
  simp only [Nd.kind, Nd.op, Nd.num, Nd.str, Nd.pl, Nd.names, Nd.kids] at *
  have NEW := hid (held7_new (k := k) (o := o) (n := n) (s := s) (p := p) hO.out hs1 hk1)
  have IE := hid ihe
  have IS := hid ihs
  have SK := hid hsk
  have hlen := length_count ks
  clear hO hN hs1 hk1 hsm ihe ihs hsk
  cases hbb : bareB k o n s ns ks.length with
  | false =>
    have HB := hid hbb
    have H := hid (right_bare (a := 1) (p := p) hbb)
    clear hbb
    go_enter Tryd.func102, Tryd.ntmps102
    go_wp2_with fail
    go_region_held3 (fun a => (Below w.heap.size w a ∧ Box w.heap.size k o n s (.slice a1 ns.length q1) (.slice a2 ks.length q2) p a ∧ Ok B a ∧ StrsIn B (.slice a1 ns.length q1) ns a ∧ KidsIn B a (.slice a2 ks.length q2) ks) ∧ a.cell? ⟨w.heap.size, 0, none⟩ = some (.int .i64 k) ∧ a.cell? ⟨w.heap.size, 1, none⟩ = some (.int .i64 o) ∧ a.cell? ⟨w.heap.size, 2, none⟩ = some (.int .i64 n) ∧ a.cell? ⟨w.heap.size, 3, none⟩ = some (.string s) ∧
          a.cell? ⟨w.heap.size, 4, none⟩ = some (.slice a1 ns.length q1) ∧ a.cell? ⟨w.heap.size, 5, none⟩ = some (.slice a2 ks.length q2) ∧ a.cell? ⟨w.heap.size, 6, none⟩ = some (.int .i64 p))
      (first | exact held7_on (by assumption) bb | exact held7_on NEW.out (Below.refl _ _).drew | exact held7_on (by assumption) (Below.refl _ _).drew)
      (first
        | (go_at_call 80; refine (bare2_calls B _ k o n s ns a1 q1 a2 ks.length q2 p (h7_size (by assumption)) (hid (h7_strs (by assumption)))).mono ?_; rintro e wx ⟨x1, y1, z1, x2, z2, rfl, hst, bb⟩)
        | (go_at_call 79; refine (like_calls B _ k o n s ns a1 q1 a2 ks.length q2 p _ _ _ _ _ (h7_size (by assumption)) (h7_strs (by assumption)) hst.out (by omega)).mono ?_; rintro e wx ⟨he, bb⟩; rw [HB.out] at he; subst he))
    rename_i hz
    have Z := hid hz.1.1
    clear hz
    go_wp2_with fail
    go_ret
    exact ⟨by rw [H.out]; rfl, Z.out⟩
  | true =>
    have HB := hid hbb
    clear hbb
    go_enter Tryd.func102, Tryd.ntmps102
    go_wp2_with fail
    go_region_held3 (fun a => (Below w.heap.size w a ∧ Box w.heap.size k o n s (.slice a1 ns.length q1) (.slice a2 ks.length q2) p a ∧ Ok B a ∧ StrsIn B (.slice a1 ns.length q1) ns a ∧ KidsIn B a (.slice a2 ks.length q2) ks) ∧ a.cell? ⟨w.heap.size, 0, none⟩ = some (.int .i64 k) ∧ a.cell? ⟨w.heap.size, 1, none⟩ = some (.int .i64 o) ∧ a.cell? ⟨w.heap.size, 2, none⟩ = some (.int .i64 n) ∧ a.cell? ⟨w.heap.size, 3, none⟩ = some (.string s) ∧
          a.cell? ⟨w.heap.size, 4, none⟩ = some (.slice a1 ns.length q1) ∧ a.cell? ⟨w.heap.size, 5, none⟩ = some (.slice a2 ks.length q2) ∧ a.cell? ⟨w.heap.size, 6, none⟩ = some (.int .i64 p))
      (first | exact held7_on (by assumption) bb | exact held7_on NEW.out (Below.refl _ _).drew | exact held7_on (by assumption) (Below.refl _ _).drew)
      (first
        | (go_at_call 80; refine (bare2_calls B _ k o n s ns a1 q1 a2 ks.length q2 p (h7_size (by assumption)) (hid (h7_strs (by assumption)))).mono ?_; rintro e wx ⟨x1, y1, z1, x2, z2, rfl, hst, bb⟩)
        | (go_at_call 79; refine (like_calls B _ k o n s ns a1 q1 a2 ks.length q2 p _ _ _ _ _ (h7_size (by assumption)) (h7_strs (by assumption)) hst.out (by omega)).mono ?_; rintro e wx ⟨he, bb⟩; rw [HB.out] at he; subst he))
    rename_i hz
    obtain ⟨⟨zb, zx, zo, zs, zk⟩, c0, c1, c2, c3, c4, c5, c6⟩ := hz
    have Z := hid zb
    have ZX := hid zx
    have ZO := hid zo
    have ZS := hid zs
    have ZK := hid zk
    clear zb zx zo zs zk NEW
    by_cases hk1 : k = 1
    · subst hk1
      have H := hid (show rightN (.mk 1 o n s ns ks p) 1 = true by rw [right1 o n s ns ks p, HB.out, Bool.true_and])
      go_wp2_with fail
      go_ret
      exact ⟨by rw [H.out]; rfl, Z.out⟩
    by_cases hk2 : k = 2
    · subst hk2
      have H := hid (show rightN (.mk 2 o n s ns ks p) 1 = (decide (n = 0) || decide (n = 1)) by rw [right2 o n s ns ks p, HB.out, Bool.true_and])
      rcases (show n = 0 ∨ n = 1 ∨ (n ≠ 0 ∧ n ≠ 1) from by omega) with rfl | rfl | ⟨h0, h1⟩
      · go_wp2_with fail
        go_ret
        exact ⟨by rw [H.out]; rfl, Z.out⟩
      · go_wp2_with fail
        go_ret
        exact ⟨by rw [H.out]; rfl, Z.out⟩
      · have e0 : (n == 0) = false := beq_eq_false_iff_ne.2 h0
        have e1 : (n == 1) = false := beq_eq_false_iff_ne.2 h1
        rw [decide_eq_false h0, decide_eq_false h1] at H
        clear h0 h1
        go_wp2_with fail
        go_ret
        exact ⟨by rw [H.out]; rfl, Z.out⟩
    by_cases hk3 : k = 3
    · subst hk3
      have H := hid (show rightN (.mk 3 o n s ns ks p) 1 = (decide (0 ≤ n) && decide (n ≤ 4611686018427387903)) by rw [right3 o n s ns ks p, HB.out, Bool.true_and])
      by_cases h0 : 0 ≤ n
      · have d0 : decide (0 ≤ n) = true := decide_eq_true h0
        rw [d0] at H
        go_wp2_with fail
        go_ret
        exact ⟨by rw [H.out]; rfl, Z.out⟩
      · have d0 : decide (0 ≤ n) = false := decide_eq_false h0
        rw [d0] at H
        go_wp2_with fail
        go_ret
        exact ⟨by rw [H.out]; rfl, Z.out⟩
    by_cases hk4 : k = 4
    · subst hk4
      have H := hid (show rightN (.mk 4 o n s ns ks p) 1 = decide (s.size ≤ 256) by rw [right4 o n s ns ks p, HB.out, Bool.true_and])
      by_cases h0 : s.size ≤ 256
      · rw [decide_eq_true h0] at H
        have d4 : decide ((s.size : Int) ≤ 256) = true := decide_eq_true (by omega)
        go_wp2_with fail
        go_ret
        exact ⟨by rw [H.out]; rfl, Z.out⟩
      · rw [decide_eq_false h0] at H
        have d4 : decide ((s.size : Int) ≤ 256) = false := decide_eq_false (by omega)
        go_wp2_with fail
        go_ret
        exact ⟨by rw [H.out]; rfl, Z.out⟩
    by_cases hk5 : k = 5
    · subst hk5
      have H := hid (show rightN (.mk 5 o n s ns ks p) 1 = properB s by rw [right5 o n s ns ks p, HB.out, Bool.true_and])
      go_wp2_with fail
      refine (isname2_calls s _).mono ?_
      rintro e wz ⟨rfl, rfl⟩
      go_wp2_with fail
      go_ret
      exact ⟨by rw [H.out]; rfl, Z.out⟩
    by_cases hk6 : k = 6
    · subst hk6
      have H := hid (show rightN (.mk 6 o n s ns ks p) 1 = true by rw [right6 o n s ns ks p, HB.out, Bool.true_and])
      go_wp2_with fail
      go_ret
      exact ⟨by rw [H.out]; rfl, Z.out⟩
    by_cases hk7 : k = 7
    · subst hk7
      have H := hid (show rightN (.mk 7 o n s ns ks p) 1 = (decide (ns.length = ks.length) && ((decide (ns.length ≤ 40) && ns.all propB) && (decide (ks.length ≤ 40) && (!ks.any fun x => !rightN x 1)))) by rw [right7 o n s ns ks p, HB.out, Bool.true_and])
      by_cases hl : ns.length = ks.length
      · have e0 : ((ns.length : Int) == (ks.length : Int)) = true := beq_iff_eq.2 (by omega)
        rw [decide_eq_true hl, Bool.true_and] at H
        clear hl
        go_wp2_with fail
        refine (allstr_prop B _ _ ns 40 ZO.out.1 ZS (by omega)).mono ?_
        rintro e wy ⟨rfl, b1⟩
        have Z1 := hid (below_in Z.out (Nat.le_refl _) b1)
        have bq := b1.mono ZO.out.1
        have X1 := box_on ZX.out b1
        obtain ⟨d0, d1, d2, d3, d4, d5, d6⟩ := box_cells X1
        have O1 := hid (ok_on ZO.out bq)
        have K1 := hid (kidsIn_on bq ZK.out)
        clear b1 bq X1
        generalize (decide (ns.length ≤ 40) && ns.all propB) = nb at *
        cases nb
        · go_wp2_with fail
          go_ret
          exact ⟨by rw [H.out]; rfl, Z1.out⟩
        · go_wp2_with fail
          refine (Expr_all B _ _ ks 40 O1 K1 SK.out (by omega) IE.out).mono ?_
          rintro e wz ⟨rfl, bz⟩
          have ZZ := hid (below_in Z1.out (Nat.le_refl _) bz)
          clear bz
          go_wp2_with fail
          go_ret
          exact ⟨by rw [H.out]; rfl, ZZ.out⟩
      · have e0 : ((ns.length : Int) == (ks.length : Int)) = false := beq_eq_false_iff_ne.2 (by omega)
        rw [decide_eq_false hl, Bool.false_and] at H
        clear hl
        go_wp2_with fail
        go_ret
        exact ⟨by rw [H.out]; rfl, Z.out⟩
    by_cases hk8 : k = 8
    · subst hk8
      have H := hid (show rightN (.mk 8 o n s ns ks p) 1 = ((decide (ns.length ≤ 6) && ns.all properB) && (decide (ks.length ≤ 40) && (!ks.any fun x => !rightN x 2))) by rw [right8 o n s ns ks p, HB.out, Bool.true_and])
      go_wp2_with fail
      refine (allstr_proper B _ _ ns 6 ZO.out.1 ZS (by omega)).mono ?_
      rintro e wy ⟨rfl, b1⟩
      have Z1 := hid (below_in Z.out (Nat.le_refl _) b1)
      have bq := b1.mono ZO.out.1
      have X1 := box_on ZX.out b1
      obtain ⟨d0, d1, d2, d3, d4, d5, d6⟩ := box_cells X1
      have O1 := hid (ok_on ZO.out bq)
      have K1 := hid (kidsIn_on bq ZK.out)
      clear b1 bq X1
      generalize (decide (ns.length ≤ 6) && ns.all properB) = nb at *
      cases nb
      · go_wp2_with fail
        go_ret
        exact ⟨by rw [H.out]; rfl, Z1.out⟩
      · go_wp2_with fail
        refine (arestmts_calls B _ _ ks O1 K1 SK.out (by omega) IS.out).mono ?_
        rintro e wz ⟨rfl, bz⟩
        have ZZ := hid (below_in Z1.out (Nat.le_refl _) bz)
        clear bz
        go_wp2_with fail
        go_ret
        exact ⟨by rw [H.out]; rfl, ZZ.out⟩
    by_cases hk9 : k = 9
    · subst hk9
      have H := hid (show rightN (.mk 9 o n s ns ks p) 1 = ((decide (o = 1) || decide (o = 2)) && (decide (ks.length = 1) && (!ks.any fun x => !rightN x 1))) by rw [right9 o n s ns ks p, HB.out, Bool.true_and])
      rcases (show o = 1 ∨ o = 2 ∨ (o ≠ 1 ∧ o ≠ 2) from by omega) with rfl | rfl | ⟨h0, h1⟩
      · go_wp2_with fail
        refine (areexprs_calls B _ _ ks 1 ZO ZK SK.out (by omega) IE.out).mono ?_
        rintro e wz ⟨rfl, bz⟩
        have ZZ := hid (below_in Z.out (Nat.le_refl _) bz)
        clear bz
        go_wp2_with fail
        go_ret
        exact ⟨by rw [H.out]; rfl, ZZ.out⟩
      · go_wp2_with fail
        refine (areexprs_calls B _ _ ks 1 ZO ZK SK.out (by omega) IE.out).mono ?_
        rintro e wz ⟨rfl, bz⟩
        have ZZ := hid (below_in Z.out (Nat.le_refl _) bz)
        clear bz
        go_wp2_with fail
        go_ret
        exact ⟨by rw [H.out]; rfl, ZZ.out⟩
      · have e0 : (o == 1) = false := beq_eq_false_iff_ne.2 h0
        have e1 : (o == 2) = false := beq_eq_false_iff_ne.2 h1
        rw [decide_eq_false h0, decide_eq_false h1] at H
        clear h0 h1
        go_wp2_with fail
        go_ret
        exact ⟨by rw [H.out]; rfl, Z.out⟩
    by_cases hk10 : k = 10
    · subst hk10
      have H := hid (show rightN (.mk 10 o n s ns ks p) 1 = ((signT o != []) && (decide (ks.length = 2) && (!ks.any fun x => !rightN x 1))) by rw [right10 o n s ns ks p, HB.out, Bool.true_and])
      go_wp2_with fail
      refine (sign_calls o B _ ZO).mono ?_
      rintro e wz ⟨rfl, rfl⟩
      generalize signT o = sg at *
      cases sg with
      | nil =>
        go_wp2_with fail
        go_ret
        exact ⟨by rw [H.out]; rfl, Z.out⟩
      | cons x r =>
        have hne : ((x :: r) != ([] : List UInt8)) = true := rfl
        rw [hne, Bool.true_and] at H
        go_wp2_with fail
        refine (areexprs_calls B _ _ ks 2 ZO ZK SK.out (by omega) IE.out).mono ?_
        rintro e wz ⟨rfl, bz⟩
        have ZZ := hid (below_in Z.out (Nat.le_refl _) bz)
        clear bz
        go_wp2_with fail
        go_ret
        exact ⟨by rw [H.out]; rfl, ZZ.out⟩
    by_cases hk11 : k = 11
    · subst hk11
      have H := hid (show rightN (.mk 11 o n s ns ks p) 1 = (decide (ks.length = 2) && (!ks.any fun x => !rightN x 1)) by rw [right11 o n s ns ks p, HB.out, Bool.true_and])
      go_wp2_with fail
      refine (areexprs_calls B _ _ ks 2 ZO ZK SK.out (by omega) IE.out).mono ?_
      rintro e wz ⟨rfl, bz⟩
      have ZZ := hid (below_in Z.out (Nat.le_refl _) bz)
      clear bz
      go_wp2_with fail
      go_ret
      exact ⟨by rw [H.out]; rfl, ZZ.out⟩
    by_cases hk12 : k = 12
    · subst hk12
      have H := hid (show rightN (.mk 12 o n s ns ks p) 1 = (decide (ks.length = 2) && (!ks.any fun x => !rightN x 1)) by rw [right12 o n s ns ks p, HB.out, Bool.true_and])
      go_wp2_with fail
      refine (areexprs_calls B _ _ ks 2 ZO ZK SK.out (by omega) IE.out).mono ?_
      rintro e wz ⟨rfl, bz⟩
      have ZZ := hid (below_in Z.out (Nat.le_refl _) bz)
      clear bz
      go_wp2_with fail
      go_ret
      exact ⟨by rw [H.out]; rfl, ZZ.out⟩
    by_cases hk13 : k = 13
    · subst hk13
      have H := hid (show rightN (.mk 13 o n s ns ks p) 1 = (propB s && (decide (ks.length = 1) && (!ks.any fun x => !rightN x 1))) by rw [right13 o n s ns ks p, HB.out, Bool.true_and])
      go_wp2_with fail
      refine (isname_calls s _).mono ?_
      rintro e wz ⟨rfl, rfl⟩
      have HP := hid (show propB s = nameB s.data.toList from rfl)
      rw [HP.out] at H
      clear HP
      generalize nameB s.data.toList = nb at *
      cases nb
      · go_wp2_with fail
        go_ret
        exact ⟨by rw [H.out]; rfl, Z.out⟩
      · go_wp2_with fail
        refine (areexprs_calls B _ _ ks 1 ZO ZK SK.out (by omega) IE.out).mono ?_
        rintro e wz ⟨rfl, bz⟩
        have ZZ := hid (below_in Z.out (Nat.le_refl _) bz)
        clear bz
        go_wp2_with fail
        go_ret
        exact ⟨by rw [H.out]; rfl, ZZ.out⟩
    by_cases hk14 : k = 14
    · subst hk14
      have H := hid (show rightN (.mk 14 o n s ns ks p) 1 = (decide (ks.length = 2) && (!ks.any fun x => !rightN x 1)) by rw [right14 o n s ns ks p, HB.out, Bool.true_and])
      go_wp2_with fail
      refine (areexprs_calls B _ _ ks 2 ZO ZK SK.out (by omega) IE.out).mono ?_
      rintro e wz ⟨rfl, bz⟩
      have ZZ := hid (below_in Z.out (Nat.le_refl _) bz)
      clear bz
      go_wp2_with fail
      go_ret
      exact ⟨by rw [H.out]; rfl, ZZ.out⟩
    by_cases hk15 : k = 15
    · subst hk15
      have H := hid (show rightN (.mk 15 o n s ns ks p) 1 = (decide (1 ≤ ks.length ∧ ks.length ≤ 7) && (!ks.any fun x => !rightN x 1)) by rw [right15 o n s ns ks p, HB.out, Bool.true_and])
      go_wp2_with fail
      refine (iscall_calls B _ _ ks ZO ZK SK.out (by omega) IE.out).mono ?_
      rintro e wz ⟨rfl, bz⟩
      have ZZ := hid (below_in Z.out (Nat.le_refl _) bz)
      clear bz
      generalize (decide (1 ≤ ks.length ∧ ks.length ≤ 7) && !ks.any fun x => !rightN x 1) = rb at *
      go_wp2_with fail
      go_ret
      exact ⟨by rw [H.out]; rfl, ZZ.out⟩
    by_cases hk16 : k = 16
    · subst hk16
      have H := hid (show rightN (.mk 16 o n s ns ks p) 1 = (propB s && (decide (1 ≤ ks.length ∧ ks.length ≤ 7) && (!ks.any fun x => !rightN x 1))) by rw [right16 o n s ns ks p, HB.out, Bool.true_and])
      go_wp2_with fail
      refine (isname_calls s _).mono ?_
      rintro e wz ⟨rfl, rfl⟩
      have HP := hid (show propB s = nameB s.data.toList from rfl)
      rw [HP.out] at H
      clear HP
      generalize nameB s.data.toList = nb at *
      cases nb
      · go_wp2_with fail
        go_ret
        exact ⟨by rw [H.out]; rfl, Z.out⟩
      · go_wp2_with fail
        refine (iscall_calls B _ _ ks ZO ZK SK.out (by omega) IE.out).mono ?_
        rintro e wz ⟨rfl, bz⟩
        have ZZ := hid (below_in Z.out (Nat.le_refl _) bz)
        clear bz
        generalize (decide (1 ≤ ks.length ∧ ks.length ≤ 7) && !ks.any fun x => !rightN x 1) = rb at *
        go_wp2_with fail
        go_ret
        exact ⟨by rw [H.out]; rfl, ZZ.out⟩
    by_cases hk17 : k = 17
    · subst hk17
      have H := hid (show rightN (.mk 17 o n s ns ks p) 1 = (decide (0 < (builtT o).2) && (decide (ks.length = (builtT o).2) && (!ks.any fun x => !rightN x 1))) by rw [right17 o n s ns ks p, HB.out, Bool.true_and])
      go_wp2_with fail
      refine (built_calls o _).mono ?_
      rintro e wz ⟨rfl, rfl⟩
      generalize builtT o = bt at *
      obtain ⟨bn, m⟩ := bt
      simp only at H
      by_cases hm : 0 < m
      · rw [decide_eq_true hm, Bool.true_and] at H
        go_wp2_with fail
        refine (areexprs_calls B _ _ ks m ZO ZK SK.out (by omega) IE.out).mono ?_
        rintro e wz ⟨rfl, bz⟩
        have ZZ := hid (below_in Z.out (Nat.le_refl _) bz)
        clear bz
        go_wp2_with fail
        go_ret
        exact ⟨by rw [H.out]; rfl, ZZ.out⟩
      · rw [decide_eq_false hm, Bool.false_and] at H
        go_wp2_with fail
        go_ret
        exact ⟨by rw [H.out]; rfl, Z.out⟩
    have H := hid (show rightN (.mk k o n s ns ks p) 1 = false by rw [rightN_mk, isK_not1 (by omega)]; rfl)
    have e1 : (k == 1) = false := beq_eq_false_iff_ne.2 hk1
    have e2 : (k == 2) = false := beq_eq_false_iff_ne.2 hk2
    have e3 : (k == 3) = false := beq_eq_false_iff_ne.2 hk3
    have e4 : (k == 4) = false := beq_eq_false_iff_ne.2 hk4
    have e5 : (k == 5) = false := beq_eq_false_iff_ne.2 hk5
    have e6 : (k == 6) = false := beq_eq_false_iff_ne.2 hk6
    have e7 : (k == 7) = false := beq_eq_false_iff_ne.2 hk7
    have e8 : (k == 8) = false := beq_eq_false_iff_ne.2 hk8
    have e9 : (k == 9) = false := beq_eq_false_iff_ne.2 hk9
    have e10 : (k == 10) = false := beq_eq_false_iff_ne.2 hk10
    have e11 : (k == 11) = false := beq_eq_false_iff_ne.2 hk11
    have e12 : (k == 12) = false := beq_eq_false_iff_ne.2 hk12
    have e13 : (k == 13) = false := beq_eq_false_iff_ne.2 hk13
    have e14 : (k == 14) = false := beq_eq_false_iff_ne.2 hk14
    have e15 : (k == 15) = false := beq_eq_false_iff_ne.2 hk15
    have e16 : (k == 16) = false := beq_eq_false_iff_ne.2 hk16
    have e17 : (k == 17) = false := beq_eq_false_iff_ne.2 hk17
    clear hk1 hk2 hk3 hk4 hk5 hk6 hk7 hk8 hk9 hk10 hk11 hk12 hk13 hk14 hk15 hk16 hk17
    go_wp2_with fail
    go_ret
    exact ⟨by rw [H.out]; rfl, Z.out⟩

end Go.Proofs.YtgdbaceehpcgbaaDoor
