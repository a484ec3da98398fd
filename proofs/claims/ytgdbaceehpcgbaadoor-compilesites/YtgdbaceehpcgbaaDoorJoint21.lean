/- Whether a node is right as a statement. Whether a tree may be a program. A tree that lies below a place lies below any later one. -/
import Derived.Test.YtgdbaceehpcgbaaDoorTreeExpr
import Derived.Test.YtgdbaceehpcgbaaDoorJoint4
namespace Go.Proofs.YtgdbaceehpcgbaaDoor
open Go.RowKit

theorem right28 (o n : Int) (s : ByteArray) (ns : List ByteArray) (u v t : Nd) (p : Int) : rightN (.mk 28 o n s ns [u, v, t] p) 2 = (bareB 28 o n s ns 3 && (rightN u 1 && (rightN v 3 && rightN t 3))) := by
  rw [rightN_mk, bareB_eq]
  simp [rightL, wantK, isK, okB, opOk, numOk, strOk, nsOk, cntOk, hasOpK, hasNumK, hasStrK, hasNsK, leafK]
theorem right28_no {o n : Int} {s : ByteArray} {ns : List ByteArray} {ks : List Nd} {p : Int} (h : ks.length ≠ 3) : rightN (.mk 28 o n s ns ks p) 2 = false := by
  rw [rightN_mk]
  simp [okB, cntOk, h]
theorem right30 (o n : Int) (s : ByteArray) (ns : List ByteArray) (u v : Nd) (p : Int) : rightN (.mk 30 o n s ns [u, v] p) 2 = (bareB 30 o n s ns 2 && (rightN u 1 && rightN v 3)) := by
  rw [rightN_mk, bareB_eq]
  simp [rightL, wantK, isK, okB, opOk, numOk, strOk, nsOk, cntOk, hasOpK, hasNumK, hasStrK, hasNsK, leafK]
theorem right30_no {o n : Int} {s : ByteArray} {ns : List ByteArray} {ks : List Nd} {p : Int} (h : ks.length ≠ 2) : rightN (.mk 30 o n s ns ks p) 2 = false := by
  rw [rightN_mk]
  simp [okB, cntOk, h]

set_option maxHeartbeats 6400000 in
set_option maxRecDepth 100000 in
theorem stmt_step (k o n : Int) (s : ByteArray) (ns : List ByteArray) (ks : List Nd) (p : Int) (ihe : ∀ x ∈ ks, ExprAt x) (ihs : ∀ x ∈ ks, BlockAt x) : StmtAt (.mk k o n s ns ks p) := by
  intro B w nv kv hO hN hsm hc
  obtain ⟨hs6, hns, _, hsk⟩ := small_mk hsm
  simp only [countN] at hc
  obtain ⟨hs1, hk1⟩ := ndIn_mk.1 hN.out
  obtain ⟨a1, q1, a2, q2, rfl, rfl⟩ := ndIn_shape hN.out
  simp only [Nd.kind, Nd.op, Nd.num, Nd.str, Nd.pl, Nd.names, Nd.kids] at *
  have NEW := hid (held7_new (k := k) (o := o) (n := n) (s := s) (p := p) hO.out hs1 hk1)
  have IE := hid ihe
  have IB := hid ihs
  have SK := hid hsk
  have hlen := length_count ks
  clear hO hN hs1 hk1 hsm ihe ihs hsk
  cases hbb : bareB k o n s ns ks.length with
  | false =>
    have HB := hid hbb
    have H := hid (right_bare (a := 2) (p := p) hbb)
    clear hbb
    go_enter Tryd.func92, Tryd.ntmps92
    go_wp2_with fail
    go_region_held3 (fun a => (Below w.heap.size w a ∧ Box w.heap.size k o n s (.slice a1 ns.length q1) (.slice a2 ks.length q2) p a ∧ Ok B a ∧ StrsIn B (.slice a1 ns.length q1) ns a ∧ KidsIn B a (.slice a2 ks.length q2) ks) ∧ a.cell? ⟨w.heap.size, 0, none⟩ = some (.int .i64 k) ∧ a.cell? ⟨w.heap.size, 1, none⟩ = some (.int .i64 o) ∧ a.cell? ⟨w.heap.size, 2, none⟩ = some (.int .i64 n) ∧ a.cell? ⟨w.heap.size, 3, none⟩ = some (.string s) ∧
          a.cell? ⟨w.heap.size, 4, none⟩ = some (.slice a1 ns.length q1) ∧ a.cell? ⟨w.heap.size, 5, none⟩ = some (.slice a2 ks.length q2) ∧ a.cell? ⟨w.heap.size, 6, none⟩ = some (.int .i64 p))
      (first | exact held7_on (by assumption) bb | exact held7_on NEW.out (Below.refl _ _).drew | exact held7_on (by assumption) (Below.refl _ _).drew)
      (first
        | (go_at_call 80; refine (bare2_calls B _ k o n s ns a1 q1 a2 ks.length q2 p (h7_size (by assumption)) (hid (h7_strs (by assumption)))).mono ?_; rintro e wx ⟨x1, y1, z1, x2, z2, rfl, hst, bb⟩)
        | (go_at_call 79; refine (like_calls B _ k o n s ns a1 q1 a2 ks.length q2 p _ _ _ _ _ (h7_size (by assumption)) (h7_strs (by assumption)) hst.out (by omega)).mono ?_; rintro e wx ⟨he, bb⟩; rw [HB.out] at he; subst he))
    rename_i hz
    have Z := hid hz.1.1
    clear hz
    go_wp2_with fail
    go_ret
    exact ⟨by rw [H.out]; rfl, Z.out⟩
  | true =>
    have HB := hid hbb
    clear hbb
    go_enter Tryd.func92, Tryd.ntmps92
    go_wp2_with fail
    go_region_held3 (fun a => (Below w.heap.size w a ∧ Box w.heap.size k o n s (.slice a1 ns.length q1) (.slice a2 ks.length q2) p a ∧ Ok B a ∧ StrsIn B (.slice a1 ns.length q1) ns a ∧ KidsIn B a (.slice a2 ks.length q2) ks) ∧ a.cell? ⟨w.heap.size, 0, none⟩ = some (.int .i64 k) ∧ a.cell? ⟨w.heap.size, 1, none⟩ = some (.int .i64 o) ∧ a.cell? ⟨w.heap.size, 2, none⟩ = some (.int .i64 n) ∧ a.cell? ⟨w.heap.size, 3, none⟩ = some (.string s) ∧
          a.cell? ⟨w.heap.size, 4, none⟩ = some (.slice a1 ns.length q1) ∧ a.cell? ⟨w.heap.size, 5, none⟩ = some (.slice a2 ks.length q2) ∧ a.cell? ⟨w.heap.size, 6, none⟩ = some (.int .i64 p))
      (first | exact held7_on (by assumption) bb | exact held7_on NEW.out (Below.refl _ _).drew | exact held7_on (by assumption) (Below.refl _ _).drew)
      (first
        | (go_at_call 80; refine (bare2_calls B _ k o n s ns a1 q1 a2 ks.length q2 p (h7_size (by assumption)) (hid (h7_strs (by assumption)))).mono ?_; rintro e wx ⟨x1, y1, z1, x2, z2, rfl, hst, bb⟩)
        | (go_at_call 79; refine (like_calls B _ k o n s ns a1 q1 a2 ks.length q2 p _ _ _ _ _ (h7_size (by assumption)) (h7_strs (by assumption)) hst.out (by omega)).mono ?_; rintro e wx ⟨he, bb⟩; rw [HB.out] at he; subst he))
    rename_i hz
    obtain ⟨⟨zb, zx, zo, zs, zk⟩, c0, c1, c2, c3, c4, c5, c6⟩ := hz
    have Z := hid zb
    have ZX := hid zx
    have ZO := hid zo
    have ZS := hid zs
    have ZK := hid zk
    clear zb zx zo zs zk NEW
    by_cases hk21 : k = 21
    · subst hk21
      have H := hid (show rightN (.mk 21 o n s ns ks p) 2 = (properB s && (decide (ks.length = 1) && (!ks.any fun x => !rightN x 1))) by rw [right21 o n s ns ks p, HB.out, Bool.true_and])
      go_wp2_with fail
      refine (isname2_calls s _).mono ?_
      rintro e wz ⟨rfl, rfl⟩
      generalize properB s = nb at *
      cases nb
      · go_wp2_with fail
        go_ret
        exact ⟨by rw [H.out]; rfl, Z.out⟩
      · go_wp2_with fail
        refine (areexprs_calls B _ _ ks 1 ZO ZK SK.out (by omega) IE.out).mono ?_
        rintro e wz ⟨rfl, bz⟩
        have ZZ := hid (below_in Z.out (Nat.le_refl _) bz)
        clear bz
        go_wp2_with fail
        go_ret
        exact ⟨by rw [H.out]; rfl, ZZ.out⟩
    by_cases hk22 : k = 22
    · subst hk22
      have H := hid (show rightN (.mk 22 o n s ns ks p) 2 = (properB s && (decide (ks.length = 1) && (!ks.any fun x => !rightN x 1))) by rw [right22 o n s ns ks p, HB.out, Bool.true_and])
      go_wp2_with fail
      refine (isname2_calls s _).mono ?_
      rintro e wz ⟨rfl, rfl⟩
      generalize properB s = nb at *
      cases nb
      · go_wp2_with fail
        go_ret
        exact ⟨by rw [H.out]; rfl, Z.out⟩
      · go_wp2_with fail
        refine (areexprs_calls B _ _ ks 1 ZO ZK SK.out (by omega) IE.out).mono ?_
        rintro e wz ⟨rfl, bz⟩
        have ZZ := hid (below_in Z.out (Nat.le_refl _) bz)
        clear bz
        go_wp2_with fail
        go_ret
        exact ⟨by rw [H.out]; rfl, ZZ.out⟩
    by_cases hk23 : k = 23
    · subst hk23
      have H := hid (show rightN (.mk 23 o n s ns ks p) 2 = (propB s && (decide (ks.length = 2) && (!ks.any fun x => !rightN x 1))) by rw [right23 o n s ns ks p, HB.out, Bool.true_and])
      go_wp2_with fail
      refine (isname_calls s _).mono ?_
      rintro e wz ⟨rfl, rfl⟩
      have HP := hid (show propB s = nameB s.data.toList from rfl)
      rw [HP.out] at H
      clear HP
      generalize nameB s.data.toList = nb at *
      cases nb
      · go_wp2_with fail
        go_ret
        exact ⟨by rw [H.out]; rfl, Z.out⟩
      · go_wp2_with fail
        refine (areexprs_calls B _ _ ks 2 ZO ZK SK.out (by omega) IE.out).mono ?_
        rintro e wz ⟨rfl, bz⟩
        have ZZ := hid (below_in Z.out (Nat.le_refl _) bz)
        clear bz
        go_wp2_with fail
        go_ret
        exact ⟨by rw [H.out]; rfl, ZZ.out⟩
    by_cases hk24 : k = 24
    · subst hk24
      have H := hid (show rightN (.mk 24 o n s ns ks p) 2 = (decide (ks.length = 3) && (!ks.any fun x => !rightN x 1)) by rw [right24 o n s ns ks p, HB.out, Bool.true_and])
      go_wp2_with fail
      refine (areexprs_calls B _ _ ks 3 ZO ZK SK.out (by omega) IE.out).mono ?_
      rintro e wz ⟨rfl, bz⟩
      have ZZ := hid (below_in Z.out (Nat.le_refl _) bz)
      clear bz
      go_wp2_with fail
      go_ret
      exact ⟨by rw [H.out]; rfl, ZZ.out⟩
    by_cases hk25 : k = 25
    · subst hk25
      have H := hid (show rightN (.mk 25 o n s ns ks p) 2 = (propB s && (decide (ks.length = 1) && (!ks.any fun x => !rightN x 1))) by rw [right25 o n s ns ks p, HB.out, Bool.true_and])
      go_wp2_with fail
      refine (isname_calls s _).mono ?_
      rintro e wz ⟨rfl, rfl⟩
      have HP := hid (show propB s = nameB s.data.toList from rfl)
      rw [HP.out] at H
      clear HP
      generalize nameB s.data.toList = nb at *
      cases nb
      · go_wp2_with fail
        go_ret
        exact ⟨by rw [H.out]; rfl, Z.out⟩
      · go_wp2_with fail
        refine (areexprs_calls B _ _ ks 1 ZO ZK SK.out (by omega) IE.out).mono ?_
        rintro e wz ⟨rfl, bz⟩
        have ZZ := hid (below_in Z.out (Nat.le_refl _) bz)
        clear bz
        go_wp2_with fail
        go_ret
        exact ⟨by rw [H.out]; rfl, ZZ.out⟩
    by_cases hk26 : k = 26
    · subst hk26
      have H := hid (show rightN (.mk 26 o n s ns ks p) 2 = (decide (ks.length = 2) && (!ks.any fun x => !rightN x 1)) by rw [right26 o n s ns ks p, HB.out, Bool.true_and])
      go_wp2_with fail
      refine (areexprs_calls B _ _ ks 2 ZO ZK SK.out (by omega) IE.out).mono ?_
      rintro e wz ⟨rfl, bz⟩
      have ZZ := hid (below_in Z.out (Nat.le_refl _) bz)
      clear bz
      go_wp2_with fail
      go_ret
      exact ⟨by rw [H.out]; rfl, ZZ.out⟩
    by_cases hk27 : k = 27
    · subst hk27
      have H := hid (show rightN (.mk 27 o n s ns ks p) 2 = (decide (ks.length = 1) && (!ks.any fun x => !rightN x 1)) by rw [right27 o n s ns ks p, HB.out, Bool.true_and])
      go_wp2_with fail
      refine (areexprs_calls B _ _ ks 1 ZO ZK SK.out (by omega) IE.out).mono ?_
      rintro e wz ⟨rfl, bz⟩
      have ZZ := hid (below_in Z.out (Nat.le_refl _) bz)
      clear bz
      go_wp2_with fail
      go_ret
      exact ⟨by rw [H.out]; rfl, ZZ.out⟩
    by_cases hk28 : k = 28
    · subst hk28
      by_cases hl : ks.length = 3
      · obtain ⟨u, v, t, rfl⟩ := list_three hl
        have H := hid (show rightN (.mk 28 o n s ns [u, v, t] p) 2 = (rightN u 1 && (rightN v 3 && rightN t 3)) by rw [right28, show bareB 28 o n s ns 3 = true from HB.out, Bool.true_and])
        have hcu : countN u ≤ 1000000 ∧ countN v ≤ 1000000 ∧ countN t ≤ 1000000 := by simp only [countL] at hc; omega
        obtain ⟨hcu, hcv, hct⟩ := hcu
        clear hl hc hlen HB
        simp only [List.length_cons, List.length_nil, Nat.zero_add, Nat.reduceAdd] at *
        obtain ⟨b, off, rfl, hbB, hat⟩ := kids_at ZK.out (by simp)
        obtain ⟨nu, ku, hnu, hiu⟩ := ndsAt_get hat 0 (by simp)
        simp only [List.getElem_cons_zero, Nat.zero_mul, Nat.add_zero] at hnu hiu
        obtain ⟨gu0, gu1, gu2, gu3, rfl, rfl⟩ := ndIn_shape hiu
        obtain ⟨mu0, mu1, mu2, mu3, mu4, mu5, mu6⟩ := hnu
        have Nu := hid hiu
        have HAT0 := hid hat
        clear hiu hat
        go_wp2_with fail
        refine (IE.out u (by simp) B _ _ _ ZO Nu (SK.out u (by simp)) (by omega)).mono ?_
        rintro e wz0 ⟨rfl, bz0⟩
        have Z0 := hid (below_in Z.out (Nat.le_refl _) bz0)
        have bq := bz0.mono ZO.out.1
        have X0 := hid (box_on ZX.out bz0)
        have c5_0 := (box_cells X0.out).2.2.2.2.2.1
        have O0 := hid (ok_on ZO.out bq)
        have hat0 := ndsAt_on bq hbB _ _ HAT0.out
        clear bz0 bq Nu HAT0
        generalize rightN u 1 = r0 at *
        cases r0
        · go_wp2_with fail
          go_ret
          exact ⟨by rw [H.out]; rfl, Z0.out⟩
        · clear c5
          obtain ⟨nv, kv, hnv, hiv⟩ := ndsAt_get hat0 1 (by simp)
          simp only [List.getElem_cons_succ, List.getElem_cons_zero, Nat.one_mul] at hnv hiv
          obtain ⟨gv0, gv1, gv2, gv3, rfl, rfl⟩ := ndIn_shape hiv
          obtain ⟨mv0, mv1, mv2, mv3, mv4, mv5, mv6⟩ := hnv
          have Nv := hid hiv
          have HAT1 := hid hat0
          clear hiv hat0
          go_wp2_with fail
          refine (IB.out v (by simp) B _ _ _ O0 Nv (SK.out v (by simp)) (by omega)).mono ?_
          rintro e wz1 ⟨rfl, bz1⟩
          have Z1 := hid (below_in Z0.out (Nat.le_refl _) bz1)
          have bq := bz1.mono O0.out.1
          have X1 := hid (box_on X0.out bz1)
          have c5_1 := (box_cells X1.out).2.2.2.2.2.1
          have O1 := hid (ok_on O0.out bq)
          have hat1 := ndsAt_on bq hbB _ _ HAT1.out
          clear bz1 bq Nv HAT1
          generalize rightN v 3 = r1 at *
          cases r1
          · go_wp2_with fail
            go_ret
            exact ⟨by rw [H.out]; rfl, Z1.out⟩
          · clear c5_0
            obtain ⟨nt, kt, hnt, hit⟩ := ndsAt_get hat1 2 (by simp)
            simp only [List.getElem_cons_succ, List.getElem_cons_zero, Nat.reduceMul] at hnt hit
            obtain ⟨gt0, gt1, gt2, gt3, rfl, rfl⟩ := ndIn_shape hit
            obtain ⟨mt0, mt1, mt2, mt3, mt4, mt5, mt6⟩ := hnt
            have Nt := hid hit
            have HAT2 := hid hat1
            clear hit hat1
            go_wp2_with fail
            refine (IB.out t (by simp) B _ _ _ O1 Nt (SK.out t (by simp)) (by omega)).mono ?_
            rintro e wz2 ⟨rfl, bz2⟩
            have Z2 := hid (below_in Z1.out (Nat.le_refl _) bz2)
            have bq := bz2.mono O1.out.1
            have X2 := hid (box_on X1.out bz2)
            have c5_2 := (box_cells X2.out).2.2.2.2.2.1
            have O2 := hid (ok_on O1.out bq)
            have hat2 := ndsAt_on bq hbB _ _ HAT2.out
            clear bz2 bq Nt HAT2
            generalize rightN t 3 = r2 at *
            cases r2
            · go_wp2_with fail
              go_ret
              exact ⟨by rw [H.out]; rfl, Z2.out⟩
            · clear hat2
              go_wp2_with fail
              go_ret
              exact ⟨by rw [H.out]; rfl, Z2.out⟩
      · have H := hid (show rightN (.mk 28 o n s ns ks p) 2 = false from right28_no hl)
        have e0 : ((ks.length : Int) == 3) = false := beq_eq_false_iff_ne.2 (by omega)
        clear hl
        go_wp2_with fail
        go_ret
        exact ⟨by rw [H.out]; rfl, Z.out⟩
    by_cases hk30 : k = 30
    · subst hk30
      by_cases hl : ks.length = 2
      · obtain ⟨u, v, rfl⟩ := list_two hl
        have H := hid (show rightN (.mk 30 o n s ns [u, v] p) 2 = (rightN u 1 && rightN v 3) by rw [right30, show bareB 30 o n s ns 2 = true from HB.out, Bool.true_and])
        have hcu : countN u ≤ 1000000 ∧ countN v ≤ 1000000 := by simp only [countL] at hc; omega
        obtain ⟨hcu, hcv⟩ := hcu
        clear hl hc hlen HB
        simp only [List.length_cons, List.length_nil, Nat.zero_add, Nat.reduceAdd] at *
        obtain ⟨b, off, rfl, hbB, hat⟩ := kids_at ZK.out (by simp)
        obtain ⟨nu, ku, hnu, hiu⟩ := ndsAt_get hat 0 (by simp)
        simp only [List.getElem_cons_zero, Nat.zero_mul, Nat.add_zero] at hnu hiu
        obtain ⟨gu0, gu1, gu2, gu3, rfl, rfl⟩ := ndIn_shape hiu
        obtain ⟨mu0, mu1, mu2, mu3, mu4, mu5, mu6⟩ := hnu
        have Nu := hid hiu
        have HAT0 := hid hat
        clear hiu hat
        go_wp2_with fail
        refine (IE.out u (by simp) B _ _ _ ZO Nu (SK.out u (by simp)) (by omega)).mono ?_
        rintro e wz0 ⟨rfl, bz0⟩
        have Z0 := hid (below_in Z.out (Nat.le_refl _) bz0)
        have bq := bz0.mono ZO.out.1
        have X0 := hid (box_on ZX.out bz0)
        have c5_0 := (box_cells X0.out).2.2.2.2.2.1
        have O0 := hid (ok_on ZO.out bq)
        have hat0 := ndsAt_on bq hbB _ _ HAT0.out
        clear bz0 bq Nu HAT0
        generalize rightN u 1 = r0 at *
        cases r0
        · go_wp2_with fail
          go_ret
          exact ⟨by rw [H.out]; rfl, Z0.out⟩
        · clear c5
          obtain ⟨nv, kv, hnv, hiv⟩ := ndsAt_get hat0 1 (by simp)
          simp only [List.getElem_cons_succ, List.getElem_cons_zero, Nat.one_mul] at hnv hiv
          obtain ⟨gv0, gv1, gv2, gv3, rfl, rfl⟩ := ndIn_shape hiv
          obtain ⟨mv0, mv1, mv2, mv3, mv4, mv5, mv6⟩ := hnv
          have Nv := hid hiv
          have HAT1 := hid hat0
          clear hiv hat0
          go_wp2_with fail
          refine (IB.out v (by simp) B _ _ _ O0 Nv (SK.out v (by simp)) (by omega)).mono ?_
          rintro e wz1 ⟨rfl, bz1⟩
          have Z1 := hid (below_in Z0.out (Nat.le_refl _) bz1)
          have bq := bz1.mono O0.out.1
          have X1 := hid (box_on X0.out bz1)
          have c5_1 := (box_cells X1.out).2.2.2.2.2.1
          have O1 := hid (ok_on O0.out bq)
          have hat1 := ndsAt_on bq hbB _ _ HAT1.out
          clear bz1 bq Nv HAT1
          generalize rightN v 3 = r1 at *
          cases r1
          · go_wp2_with fail
            go_ret
            exact ⟨by rw [H.out]; rfl, Z1.out⟩
          · clear hat1
            go_wp2_with fail
            go_ret
            exact ⟨by rw [H.out]; rfl, Z1.out⟩
      · have H := hid (show rightN (.mk 30 o n s ns ks p) 2 = false from right30_no hl)
        have e0 : ((ks.length : Int) == 2) = false := beq_eq_false_iff_ne.2 (by omega)
        clear hl
        go_wp2_with fail
        go_ret
        exact ⟨by rw [H.out]; rfl, Z.out⟩
    by_cases hk31 : k = 31
    · subst hk31
      have H := hid (show rightN (.mk 31 o n s ns ks p) 2 = (decide (ks.length = 1) && (!ks.any fun x => !rightN x 1)) by rw [right31 o n s ns ks p, HB.out, Bool.true_and])
      go_wp2_with fail
      refine (areexprs_calls B _ _ ks 1 ZO ZK SK.out (by omega) IE.out).mono ?_
      rintro e wz ⟨rfl, bz⟩
      have ZZ := hid (below_in Z.out (Nat.le_refl _) bz)
      clear bz
      go_wp2_with fail
      go_ret
      exact ⟨by rw [H.out]; rfl, ZZ.out⟩
    by_cases hk32 : k = 32
    · subst hk32
      have H := hid (show rightN (.mk 32 o n s ns ks p) 2 = (decide (ks.length = 1) && (!ks.any fun x => !rightN x 1)) by rw [right32 o n s ns ks p, HB.out, Bool.true_and])
      go_wp2_with fail
      refine (areexprs_calls B _ _ ks 1 ZO ZK SK.out (by omega) IE.out).mono ?_
      rintro e wz ⟨rfl, bz⟩
      have ZZ := hid (below_in Z.out (Nat.le_refl _) bz)
      clear bz
      go_wp2_with fail
      go_ret
      exact ⟨by rw [H.out]; rfl, ZZ.out⟩
    have H := hid (show rightN (.mk k o n s ns ks p) 2 = false by rw [rightN_mk, isK_not2 (by omega)]; rfl)
    have e21 : (k == 21) = false := beq_eq_false_iff_ne.2 hk21
    have e22 : (k == 22) = false := beq_eq_false_iff_ne.2 hk22
    have e23 : (k == 23) = false := beq_eq_false_iff_ne.2 hk23
    have e24 : (k == 24) = false := beq_eq_false_iff_ne.2 hk24
    have e25 : (k == 25) = false := beq_eq_false_iff_ne.2 hk25
    have e26 : (k == 26) = false := beq_eq_false_iff_ne.2 hk26
    have e27 : (k == 27) = false := beq_eq_false_iff_ne.2 hk27
    have e28 : (k == 28) = false := beq_eq_false_iff_ne.2 hk28
    have e30 : (k == 30) = false := beq_eq_false_iff_ne.2 hk30
    have e31 : (k == 31) = false := beq_eq_false_iff_ne.2 hk31
    have e32 : (k == 32) = false := beq_eq_false_iff_ne.2 hk32
    clear hk21 hk22 hk23 hk24 hk25 hk26 hk27 hk28 hk30 hk31 hk32
    go_wp2_with fail
    go_ret
    exact ⟨by rw [H.out]; rfl, Z.out⟩

/-- all three -/
theorem right_calls (x : Nd) : ExprAt x ∧ StmtAt x ∧ BlockAt x := by
  refine Nd.ind (P := fun x => ExprAt x ∧ StmtAt x ∧ BlockAt x) ?_ x
  intro k o n s ns ks p ih
  exact ⟨expr_step k o n s ns ks p (fun x hx => (ih x hx).1) (fun x hx => (ih x hx).2.1), stmt_step k o n s ns ks p (fun x hx => (ih x hx).1) (fun x hx => (ih x hx).2.2), block_step k o n s ns ks p (fun x hx => (ih x hx).2.1)⟩

end Go.Proofs.YtgdbaceehpcgbaaDoor

namespace Go.Proofs.YtgdbaceehpcgbaaDoor
open Go.RowKit

set_option maxHeartbeats 1600000 in
theorem check_tree (x : Nd) (B : Nat) (w : World) (nv kv : Value) (hO : Hid (Ok B w)) (hN : Hid (NdIn B w x nv kv)) (hs : smallN x = true) (hc : countN x ≤ 1000000) :
    Calls Tryd.prog 48 #[.agg #[.int .i64 x.kind, .int .i64 x.op, .int .i64 x.num, .string x.str, nv, kv, .int .i64 x.pl]] w fun e w' =>
      e = .returned (.int .i64 (checkN x)) ∧ Below w.heap.size w w' := by
  obtain ⟨a1, q1, a2, q2, rfl, rfl⟩ := ndIn_shape hN.out
  have hal := (Below.refl w.heap.size w).alloc (Nat.le_refl _) (.cells #[.int .i64 x.kind, .int .i64 x.op, .int .i64 x.num, .string x.str, .slice a1 x.names.length q1, .slice a2 x.kids.length q2, .int .i64 x.pl] 47)
  have hB := hO.out.1
  have AL := hid hal
  have N := hid (ndIn_on (hal.mono hB) _ _ _ hN.out)
  have O := hid (ok_on hO.out (hal.mono hB))
  have X := hid (box_new w x.kind x.op x.num x.str (.slice a1 x.names.length q1) (.slice a2 x.kids.length q2) x.pl)
  have HS := hid hs
  have H := hid (show checkN x = if decide (12 < highN x) then 13 else if rightN x 3 then 0 else 2 by unfold checkN; simp only [decide_eq_true_eq])
  clear hal hN hO hs
  go_enter Tryd.func48, Tryd.ntmps48
  go_wp2_with fail
  refine (higher_calls x B _ _ _ 12 (by simp; omega) N hc (by omega)).mono ?_
  rintro e w1 ⟨rfl, b1⟩
  have B1 := hid (below_in AL.out (by simp) b1)
  have bq : Below B _ w1 := b1.mono (by simp; omega)
  have N1 := hid (ndIn_on bq _ _ _ N.out)
  have O1 := hid (ok_on O.out bq)
  obtain ⟨c0, c1, c2, c3, c4, c5, c6⟩ := box_cells (box_on X.out b1)
  clear b1 bq N O X AL
  generalize decide (12 < highN x) = hb at *
  cases hb
  · go_wp2_with fail
    refine ((right_calls x).2.2 B _ _ _ O1 N1 HS.out hc).mono ?_
    rintro e w2 ⟨rfl, b2⟩
    have B2 := hid (below_in B1.out (Nat.le_refl _) b2)
    clear b2 B1 N1 O1
    generalize rightN x 3 = rb at *
    cases rb
    · go_wp2_with fail
      go_ret
      exact ⟨by rw [H.out]; rfl, B2.out⟩
    · go_wp2_with fail
      go_ret
      exact ⟨by rw [H.out]; rfl, B2.out⟩
  · go_wp2_with fail
    go_ret
    exact ⟨by rw [H.out]; rfl, B1.out⟩

end Go.Proofs.YtgdbaceehpcgbaaDoor

namespace Go.Proofs.YtgdbaceehpcgbaaDoor
open Go.RowKit

theorem strsIn_up {B B' : Nat} {w : World} {v : Value} {l : List ByteArray} (hB : B ≤ B') (h : StrsIn B v l w) : StrsIn B' v l w := by
  rcases h with h | ⟨b, off, cap, h1, h2, h3, h4⟩
  · exact .inl h
  · exact .inr ⟨b, off, cap, h1, Nat.lt_of_lt_of_le h2 hB, h3, h4⟩
mutual
theorem ndIn_up {B B' : Nat} {w : World} (hB : B ≤ B') : ∀ (t : Nd) (nv kv : Value), NdIn B w t nv kv → NdIn B' w t nv kv
  | .mk _ _ _ _ ns ks _, nv, kv, h => by
    rw [NdIn] at h ⊢
    obtain ⟨h1, h2⟩ := h
    refine ⟨strsIn_up hB h1, ?_⟩
    rcases h2 with h2 | ⟨b, off, cap, e, hb, h3, h4⟩
    · exact .inl h2
    · exact .inr ⟨b, off, cap, e, Nat.lt_of_lt_of_le hb hB, ndsAt_up hB ks off h3, h4⟩
theorem ndsAt_up {B B' : Nat} {w : World} {b : Nat} (hB : B ≤ B') : ∀ (ks : List Nd) (off : Nat), NdsAt B w b ks off → NdsAt B' w b ks off
  | [], _, _ => by rw [NdsAt]; trivial
  | .mk k op n s ns ks p :: r, off, h => by
    rw [NdsAt] at h ⊢
    obtain ⟨⟨nv, kv, h1, h2⟩, h3⟩ := h
    exact ⟨⟨nv, kv, h1, ndIn_up hB _ _ _ h2⟩, ndsAt_up hB r _ h3⟩
end
theorem kidsIn_up {B B' : Nat} {w : World} {kv : Value} {ks : List Nd} (hB : B ≤ B') (h : KidsIn B w kv ks) : KidsIn B' w kv ks := by
  rcases h with h2 | ⟨b, off, cap, e, hb, h3, h4⟩
  · exact .inl h2
  · exact .inr ⟨b, off, cap, e, Nat.lt_of_lt_of_le hb hB, ndsAt_up hB ks off h3, h4⟩
theorem ok_up {B B' : Nat} {w : World} (hB : B ≤ B') (hw : B' ≤ w.heap.size) (h : Ok B w) : Ok B' w := ⟨hw, Nat.lt_of_lt_of_le h.2.1 hB, h.2.2⟩

end Go.Proofs.YtgdbaceehpcgbaaDoor
