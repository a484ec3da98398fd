/- The document's function. -/
import Derived.Test.YtenpldenhgpneaaDoorJoint9
namespace Go.Proofs.YtenpldenhgpneaaDoor
set_option linter.unusedSimpArgs false
set_option linter.unusedVariables false
open Go.RowKit

theorem row_someD {T : TypeId} {z n : Nat} {v : Value} {xs : List Value} {w : World} (h : w.ownsRow 0 T z v n xs) (hn : 0 < n) : ∃ g cap, v = .slice (some ⟨g, 0, none⟩) n cap := by
  rcases h.2 with ⟨h1, h2⟩ | ⟨g, cap, cur, h1, _⟩
  · omega
  · exact ⟨g, cap, h1⟩
theorem resN_8 (gl : List ByteArray) (o n : Int) (s : ByteArray) (ns : List ByteArray) (ks : List Nd) (p : Int) (lo : List ByteArray) (fs : List Fp) : resN gl (.mk 8 o n s ns ks p) lo fs = if fs.length = 32 then .bad p 5 else
        (parP p ns []).bind fun own1 => (letL ks own1).bind fun own => (resL gl ks own (fs ++ [(ns.length, own.length, [])])).bind fun q =>
          .ok (.mk 20 0 fs.length ⟨#[]⟩ [] [] 0, q.2.set fs.length (ns.length, own.length, q.1)) := by
  rw [resN]; rfl
theorem parP_drop {p : Int} {ns : List ByteArray} {j : Nat} {x : ByteArray} {acc : List ByteArray} (h : ns[j]? = some x) : parP p (ns.drop j) acc = (declR acc x p).bind fun acc' => parP p (ns.drop (j + 1)) acc' := by
  obtain ⟨hl, he⟩ := List.getElem?_eq_some_iff.1 h
  rw [List.drop_eq_getElem_cons hl, he, parP]

set_option maxRecDepth 100000 in
set_option maxHeartbeats 16000000 in
theorem funD_of (o n : Int) (z : ByteArray) (ns : List ByteArray) (ks : List Nd) (p : Int) (hKids0 : NodesD ks) (hLets0 : LetsD ks) : FunD o n z ns ks p := by
  intro s G fv wv at_ gl lo fs ok nv kv B w hS hD hgl hN hB hBs hfB hokB hsm hc h32
  obtain ⟨hs1, hns1, hnz, hks0⟩ := small_mk hsm
  have hck : countL ks ≤ 1000000 := by rw [countN] at hc; omega
  have hlen := countL_len ks
  obtain ⟨h1, h2⟩ := ndIn_mk.1 hN.out
  obtain ⟨na, nc, rfl, _⟩ := strsIn_cases h1
  obtain ⟨ka, kc, rfl, _⟩ := kidsIn_cases h2
  obtain ⟨fa, fc, rfl⟩ := fnsS_shape hD.out.fn
  have hKd := hid h2
  have hNm := hid h1
  have hKids := hid hKids0
  have hLets := hid hLets0
  have hks := hid hks0
  have hsl := blk_lt hS.out
  have hfl := hid (show ∀ g, (Value.slice fa fs.length fc).ownBlock = some g → g < w.heap.size from fun g hg => by obtain ⟨cur, hc⟩ := fnsS_lt hD.out.fn hg; exact blk_lt hc)
  have HRE := hid (resN_8 gl o n z ns ks p lo fs)
  obtain ⟨R, hR⟩ : ∃ R, resN gl (.mk 8 o n z ns ks p) lo fs = R := ⟨_, rfl⟩
  rw [hR] at HRE ⊢
  clear h1 h2 hKids0 hLets0 hks0 hR
  unfold ndV
  simp only [Nd.kind, Nd.op, Nd.num, Nd.str, Nd.pl]
  have TF := two_nd w #[.int .i64 8, .int .i64 o, .int .i64 n, .string z, .slice na ns.length nc, .slice ka ks.length kc, .int .i64 p] #[.int .i64 0, .int .i64 0, .int .i64 0, .string ⟨#[]⟩, .slice none 0 0, .slice none 0 0, .int .i64 0]
  have BXQ := hid TF.1
  have SLQ := hid TF.2.1
  have LQ := hid TF.2.2.1
  have ZQ := hid TF.2.2.2
  have SQ := hid (blk_on hS.out LQ.out)
  have DQ := hid (dst_on hD.out LQ.out)
  obtain ⟨c1, c2, c3, c4⟩ := stD_cells SQ.out
  clear TF
  by_cases hf32 : fs.length = 32
  · have q32 : ((fs.length : Int) == 32) = true := by simp; omega
    have HRB := hid (show R = .bad p 5 by rw [HRE.out, if_pos hf32])
    have FF := hid (rfail_first _ SQ.out 5 p)
    clear hf32 HRE
    go_enter Tryd.func64, Tryd.ntmps64
    go_wp2_with fail
    refine FF.out.mono ?_
    rintro e1 wt ⟨rfl, st, kt⟩
    have TST := hid st
    have TBX := hid (blk_keep BXQ.out kt (by omega))
    have TSL := hid (blk_keep SLQ.out kt (by omega))
    have TDS := hid (dst_st SQ.out DQ.out kt)
    have TK := hid ((Keep.of (S := fun b => b = s) LQ.out).trans kt (fun _ _ h => h))
    have TOV := hid (txR_nil wt)
    have te3 : wt.cell? ⟨s, 3, none⟩ = some (.int .i64 5) := (blk_cell st 3).trans rfl
    have hzt := kt.size
    clear st kt FF c1 c2 c3 c4
    have LE := hid (lets_err wt TST.out (by decide) ka ks.length kc none 0 0 (by omega))
    have tb5 : wt.cell? ⟨w.heap.size, 5, none⟩ = some (.slice ka ks.length kc) := (blk_cell TBX.out 5).trans rfl
    have tb4' : wt.cell? ⟨w.heap.size, 4, none⟩ = some (.slice na ns.length nc) := (blk_cell TBX.out 4).trans rfl
    go_wp2_with fail
    go_loopw [6, 7] (fun u i wr => u = .slice none 0 0 ∧ i = .int .i64 0 ∧ wr = wt) (fun _ _ _ => 0)
    case atStart => exact ⟨rfl, rfl, rfl⟩
    case round =>
      obtain ⟨rfl, rfl, rfl⟩ := hrel
      go_wp2_with fail
      all_goals
        refine LE.out.mono ?_
        rintro e2 w2 ⟨rfl, rfl⟩
        clear LE te3
        obtain ⟨cs, hownF, hrowF, hnkF⟩ := TDS.out.fn
        have HOF := hid hownF
        have HRF := hid hrowF
        have tb4 : w2.cell? ⟨w.heap.size, 4, none⟩ = some (.slice na ns.length nc) := (blk_cell TBX.out 4).trans rfl
        have ts1 : w2.cell? ⟨s, 1, none⟩ = some (.slice fa fs.length fc) := (blk_cell TST.out 1).trans rfl
        have hswt : s < w2.heap.size := blk_lt TST.out
        have hbwt : w.heap.size < w2.heap.size := blk_lt TBX.out
        have hsb : s ≠ w.heap.size := by omega
        clear hownF hrowF hnkF
        go_wp2_with fail
        refine wp_region_held_drew (S := fun a => a.cell? ⟨w.heap.size, 4, none⟩ = some (.slice na ns.length nc)) (by kernel_rfl) tb4 (fun hHeld => ?_)
        refine wpAnyH_take (i := 0) (v := ?_) rfl (by kernel_rfl) (by kernel_rfl) (by kernel_rfl) (fun _ _ _ h => h) (Or.inl ⟨by rfl, ?_⟩) (by assumption) ?_
        rotate_left 1
        · (intro w hSw; go_simp <;> (try with_reducible rfl))
        simp only [Act.put, List.setIfInBounds_toArray, List.set_cons_zero, List.set_cons_succ, List.getElem_toArray, List.getElem_cons_succ, List.getElem_cons_zero]
        refine wpAnyH_take (i := 1) (v := ?_) rfl (by kernel_rfl) (by kernel_rfl) (by kernel_rfl) (fun _ _ _ h => h) (Or.inl ⟨by rfl, ?_⟩) (by assumption) ?_
        rotate_left 1
        · (intro w hSw; go_simp <;> (try with_reducible rfl))
        simp only [Act.put, List.setIfInBounds_toArray, List.set_cons_zero, List.set_cons_succ, List.getElem_toArray, List.getElem_cons_succ, List.getElem_cons_zero]
        refine wpAnyH_take (i := 2) (v := ?_) rfl (by kernel_rfl) (by kernel_rfl) (by kernel_rfl) (fun _ _ _ h => h) (Or.inl ⟨by rfl, ?_⟩) (by assumption) ?_
        rotate_left 1
        · (intro w hSw; go_simp <;> (try with_reducible rfl))
        simp only [Act.put, List.setIfInBounds_toArray, List.set_cons_zero, List.set_cons_succ, List.getElem_toArray, List.getElem_cons_succ, List.getElem_cons_zero]
        refine wpAnyH_take (i := 3) (v := ?_) rfl (by kernel_rfl) (by kernel_rfl) (by kernel_rfl) (fun _ _ _ h => h) (Or.inl ⟨by rfl, ?_⟩) (by assumption) ?_
        rotate_left 1
        · (intro w hSw; go_simp <;> (try with_reducible rfl))
        simp only [Act.put, List.setIfInBounds_toArray, List.set_cons_zero, List.set_cons_succ, List.getElem_toArray, List.getElem_cons_succ, List.getElem_cons_zero]
        refine wpAnyH_take (i := 4) (v := ?_) rfl (by kernel_rfl) (by kernel_rfl) (by kernel_rfl) (fun _ _ _ h => h) (Or.inl ⟨by rfl, ?_⟩) (by assumption) ?_
        rotate_left 1
        · (intro w hSw; go_simp <;> (try with_reducible rfl))
        simp only [Act.put, List.setIfInBounds_toArray, List.set_cons_zero, List.set_cons_succ, List.getElem_toArray, List.getElem_cons_succ, List.getElem_cons_zero]
        refine wpAnyH_take (i := 6) (v := ?_) rfl (by kernel_rfl) (by kernel_rfl) (by kernel_rfl) (fun _ _ _ h => h) (Or.inl ⟨by rfl, ?_⟩) (by assumption) ?_
        rotate_left 1
        · (intro w hSw; go_simp <;> (try with_reducible rfl))
        simp only [Act.put, List.setIfInBounds_toArray, List.set_cons_zero, List.set_cons_succ, List.getElem_toArray, List.getElem_cons_succ, List.getElem_cons_zero]
        refine wpAnyH_take (i := 7) (v := ?_) rfl (by kernel_rfl) (by kernel_rfl) (by kernel_rfl) (fun _ _ _ h => h) (Or.inl ⟨by rfl, ?_⟩) (by assumption) ?_
        rotate_left 1
        · (intro w hSw; go_simp <;> (try with_reducible rfl))
        simp only [Act.put, List.setIfInBounds_toArray, List.set_cons_zero, List.set_cons_succ, List.getElem_toArray, List.getElem_cons_succ, List.getElem_cons_zero]
        refine wpAnyH_take (i := 8) (v := ?_) rfl (by kernel_rfl) (by kernel_rfl) (by kernel_rfl) (fun _ _ _ h => h) (Or.inl ⟨by rfl, ?_⟩) (by assumption) ?_
        rotate_left 1
        · (intro w hSw; go_simp <;> (try with_reducible rfl))
        simp only [Act.put, List.setIfInBounds_toArray, List.set_cons_zero, List.set_cons_succ, List.getElem_toArray, List.getElem_cons_succ, List.getElem_cons_zero]
        refine wpAnyH_take (i := 9) (v := ?_) rfl (by kernel_rfl) (by kernel_rfl) (by kernel_rfl) (fun _ _ _ h => h) (Or.inl ⟨by rfl, ?_⟩) (by assumption) ?_
        rotate_left 1
        · (intro w hSw; go_simp <;> (try with_reducible rfl))
        simp only [Act.put, List.setIfInBounds_toArray, List.set_cons_zero, List.set_cons_succ, List.getElem_toArray, List.getElem_cons_succ, List.getElem_cons_zero]
        refine wpAnyH_take (i := 10) (v := ?_) rfl (by kernel_rfl) (by kernel_rfl) (by kernel_rfl) (fun _ _ _ h => h) (Or.inl ⟨by rfl, ?_⟩) (by assumption) ?_
        rotate_left 1
        · (intro w hSw; go_simp <;> (try with_reducible rfl))
        simp only [Act.put, List.setIfInBounds_toArray, List.set_cons_zero, List.set_cons_succ, List.getElem_toArray, List.getElem_cons_succ, List.getElem_cons_zero]
        refine wpAnyH_take (i := 11) (v := ?_) rfl (by kernel_rfl) (by kernel_rfl) (by kernel_rfl) (fun _ _ _ h => h) (Or.inl ⟨by rfl, ?_⟩) (by assumption) ?_
        rotate_left 1
        · (intro w hSw; go_simp <;> (try with_reducible rfl))
        simp only [Act.put, List.setIfInBounds_toArray, List.set_cons_zero, List.set_cons_succ, List.getElem_toArray, List.getElem_cons_succ, List.getElem_cons_zero]
        refine wpAnyH_ready (rs := [5, 12]) (by kernel_rfl) (by simp) ?_
        refine AllReadyH.cons rfl (fun K hK => ?_) (AllReadyH.cons rfl (fun K hK => ?_) AllReadyH.nil)
        go_simp
        refine hK.out _ _ hHeld (fun _ => ?_)
        clear hK K
        refine wpAnyH_ready (rs := [12]) (by kernel_rfl) (by simp) ?_
        refine AllReadyH.cons rfl (fun K hK => ?_) AllReadyH.nil
        go_simp
        refine hK.out _ _ (by go_simp) (fun _ => ?_)
        clear hK K
        rotate_left 1
        go_simp
        refine hK.out _ _ (by go_simp) (fun _ => ?_)
        clear hK K
        refine wpAnyH_ready (rs := [5]) (by kernel_rfl) (by simp) ?_
        refine AllReadyH.cons rfl (fun K hK => ?_) AllReadyH.nil
        go_simp
        refine hK.out _ _ (by go_simp) (fun _ => ?_)
        clear hK K
        rotate_left 1
        all_goals
          refine wpAnyH_ready (rs := [13]) (by kernel_rfl) (by simp) ?_
          refine AllReadyH.cons rfl (fun K hK => ?_) AllReadyH.nil
          refine row_app_step elFnD (by decide) (by decide) rfl _ _ rfl fs.length cs [.int .i64 ((ns.length : Nat) : Int), .int .i64 ((0 : Nat) : Int), .slice none 0 0] rfl (by intro u hu; simp at hu; rcases hu with rfl | rfl | rfl <;> rfl) (.slice fa fs.length fc) (by rfl) HOF.out w2.heap.size (by rfl) rfl (by omega) (.inr (.inr rfl)) ?_
          intro g cp w3 hown hgrow hat
          have MO := dst_more (P := ns.length) (L := 0) TST.out TDS.out HRF.out hgrow hown hat
          have KW := (TK.out.mono (T := FD s (.slice fa fs.length fc)) (fun b _ e => .inl e)).trans MO.2.2.2 (fun _ _ h => h)
          have hBX3 : Blk w.heap.size 25 #[.int .i64 8, .int .i64 o, .int .i64 n, .string z, .slice na ns.length nc, .slice ka ks.length kc, .int .i64 p] w3 := blk_keep TBX.out (Keep.grown (S := fun b => (Value.slice fa fs.length fc).ownBlock = some b) hgrow (fun k e => e)) (fun e => by have := hfl.out _ e; omega)
          have u4 : w3.cell? ⟨w.heap.size, 4, none⟩ = some (.slice na ns.length nc) := (blk_cell hBX3 4).trans rfl
          have u1 : w3.cell? ⟨s, 1, none⟩ = some (.slice fa fs.length fc) := (blk_cell MO.1 1).trans rfl
          have uf : w3.frozen? ⟨s, 1, none⟩ = false := blk_free MO.1 1
          have hz3 := hgrow.size
          have nfd : ∀ b, w.heap.size ≤ b → b < w2.heap.size → ¬ FD s (.slice fa fs.length fc) b := fun b hb hb2 e => by
            rcases e with e | e
            · omega
            · have := hfl.out b e; omega
          have ST4 := hid MO.2.1
          have DS4 := hid MO.2.2.1
          have K4 := hid MO.2.2.2
          have KW4 := hid KW
          have BX4 := hid (blk_keep TBX.out MO.2.2.2 (nfd _ (by omega) (by omega)))
          have SL4 := hid (blk_keep TSL.out MO.2.2.2 (nfd _ (by omega) (blk_lt TSL.out)))
          have OV4 := hid (txR_fd TOV.out TST.out TDS.out.fn MO.2.2.2)
          have G4 := hid (show (Value.slice fa fs.length fc).ownBlock = some g ∨ w.heap.size ≤ g by
            rcases hat with h | h
            · exact .inl h
            · exact .inr (by omega))
          have HW3 := hid hown
          refine hK.out _ _ u4 (fun _ => ?_)
          clear hK K hown hgrow hat MO KW nfd hBX3
          simp only [Act.put, List.setIfInBounds_toArray, List.set_cons_zero, List.set_cons_succ, List.getElem_toArray, List.getElem_cons_succ, List.getElem_cons_zero]
          refine wpAnyH_take (i := 14) (v := ?_) rfl (by kernel_rfl) (by kernel_rfl) (by kernel_rfl) (fun _ _ _ h => h) (Or.inl ⟨by rfl, ?_⟩) (by assumption) ?_
          rotate_left 1
          · (intro w hSw; go_simp <;> (try with_reducible rfl))
          simp only [Act.put, List.setIfInBounds_toArray, List.set_cons_zero, List.set_cons_succ, List.getElem_toArray, List.getElem_cons_succ, List.getElem_cons_zero]
          refine wpAnyH_take (i := 15) (v := ?_) rfl (by kernel_rfl) (by kernel_rfl) (by kernel_rfl) (fun _ _ _ h => h) (Or.inl ⟨by rfl, ?_⟩) (by assumption) ?_
          rotate_left 1
          · (intro w hSw; go_simp <;> (try with_reducible rfl))
          simp only [Act.put, List.setIfInBounds_toArray, List.set_cons_zero, List.set_cons_succ, List.getElem_toArray, List.getElem_cons_succ, List.getElem_cons_zero]
          refine wpAnyH_take (i := 16) (v := ?_) rfl (by kernel_rfl) (by kernel_rfl) (by kernel_rfl) (fun _ _ _ h => h) (Or.inl ⟨by rfl, ?_⟩) (by assumption) ?_
          rotate_left 1
          · (intro w hSw; go_simp <;> (try with_reducible rfl))
          simp only [Act.put, List.setIfInBounds_toArray, List.set_cons_zero, List.set_cons_succ, List.getElem_toArray, List.getElem_cons_succ, List.getElem_cons_zero]
          refine wpAnyH_ready (rs := [17]) (by kernel_rfl) (by simp) ?_
          refine AllReadyH.cons rfl (fun K hK => ?_) AllReadyH.nil
          go_simp
          refine hK.out _ _ (by go_simp) (fun _ => ?_)
          clear hK K hHeld
          refine wpAnyH_done (by kernel_rfl) ?_ _
          generalize w3.setCell ⟨s, 1, none⟩ (.slice (some ⟨g, 0, none⟩) (fs.length + 1) cp) = w4 at *
          have kb5 : w4.cell? ⟨w.heap.size, 5, none⟩ = some (.slice ka ks.length kc) := (blk_cell BX4.out 5).trans rfl
          have NE := hid (nodes_err w4 ST4.out (by decide) ka ks.length kc (.slice none 0 0) (by omega) ⟨_, _, _, rfl⟩)
          go_wp2_with fail
          refine NE.out.mono ?_
          rintro r5 w5 ⟨rfl, rfl⟩
          obtain ⟨cs4, hown4, _⟩ := DS4.out.fn
          have ST5 := ST4
          have ROW5 := hid (show w5.ownsRow 0 45 3 (.slice (some ⟨g, 0, none⟩) (fs.length + 1) cp) (fs.length + 1) cs4 by have := hown4; rw [List.length_append] at this; exact this)
          have SL5 := SL4
          have KW5 := KW4
          have G5 := G4
          have HL8 := hid (show fs.length < fs.length + 1 by omega)
          have HL9 := hid (show fs.length + 1 ≤ 1000000 by omega)
          clear hown4 NE
          obtain ⟨cur8, hc8⟩ := row_lt ROW5.out (g := g) rfl
          have n8s : g ≠ s := fun e => by
            rw [e] at hc8
            exact blkD_not ST5.out (by decide) _ hc8
          have n8b : g ≠ w.heap.size + 1 := fun e => by
            rw [e] at hc8
            exact blkD_not SL5.out (by decide) _ hc8
          have n8b' : w.heap.size + 1 ≠ g := Ne.symm n8b
          obtain ⟨y8, hy8⟩ : ∃ y, (cs4)[fs.length * 3 + 2]? = some y := ⟨_, List.getElem?_eq_getElem (by have := ROW5.out.1; have := HL8.out; omega)⟩
          have xs1 : w5.cell? ⟨s, 1, none⟩ = some (.slice (some ⟨g, 0, none⟩) (fs.length + 1) cp) := (blk_cell ST5.out 1).trans rfl
          have xc : w5.cell? ⟨g, fs.length * 3 + 2, none⟩ = some y8 := row_cell ROW5.out hy8
          have xf : w5.frozen? ⟨g, fs.length * 3 + 2, none⟩ = false := row_free ROW5.out _
          have hlI : (fs.length : Int) < (((fs.length + 1) : Nat) : Int) := by have := HL8.out; omega
          obtain ⟨z40, z41, z42, z43, z44, z45, z46⟩ := box_cells (show Box (w.heap.size + 1) 0 0 0 ⟨#[]⟩ (.slice none 0 0) (.slice none 0 0) 0 w5 from SL5.out)
          have g40 : w5.frozen? ⟨w.heap.size + 1, 0, none⟩ = false := blk_free SL5.out 0
          have g41 : w5.frozen? ⟨w.heap.size + 1, 1, none⟩ = false := blk_free SL5.out 1
          have g42 : w5.frozen? ⟨w.heap.size + 1, 2, none⟩ = false := blk_free SL5.out 2
          have g43 : w5.frozen? ⟨w.heap.size + 1, 3, none⟩ = false := blk_free SL5.out 3
          have g44 : w5.frozen? ⟨w.heap.size + 1, 4, none⟩ = false := blk_free SL5.out 4
          have g45 : w5.frozen? ⟨w.heap.size + 1, 5, none⟩ = false := blk_free SL5.out 5
          have g46 : w5.frozen? ⟨w.heap.size + 1, 6, none⟩ = false := blk_free SL5.out 6
          clear hy8 hc8
          go_wp2_with fail
          have KX := Keep.set (S := fun b => b = g) rfl w5 (fs.length * 3 + 2) (.slice none 0 0)
          have SL6 := blk_keep SL5.out KX n8b'
          have P := putD7 SL6 (.int .i64 20) (.int .i64 0) (.int .i64 (fs.length : Int)) (.string ⟨#[]⟩) (.slice none 0 0) (.slice none 0 0) (.int .i64 0)
          refine bodyPost_ret (ret_ndD rfl rfl P.1) rfl ?_
          rw [HRB.out]
          exact ⟨_, _, _, _, _, _, _, _, _, _, _, rfl, (BadD.body (n := fs.length) (j := fs.length * 3 + 2) (u := .slice none 0 0) KW5.out (by decide) ST5.out (by have := HL8.out; omega) HL9.out ROW5.out G5.out).past P.2 SL6 (by omega)⟩
  · have q32 : ((fs.length : Int) == 32) = false := by simp; omega
    rw [if_neg hf32] at HRE
    have hf31 : fs.length < 32 := by omega
    clear hf32
    go_enter Tryd.func64, Tryd.ntmps64
    go_wp2_with fail
    generalize (w.alloc (.cells #[.int .i64 8, .int .i64 o, .int .i64 n, .string z, .slice na ns.length nc, .slice ka ks.length kc, .int .i64 p] 25)).alloc (.cells #[.int .i64 0, .int .i64 0, .int .i64 0, .string ⟨#[]⟩, .slice none 0 0, .slice none 0 0, .int .i64 0] 25) = wq at *
    have hzq := ZQ.out
    have hlq := LQ.out.size
    clear c1 c2 c3 c4
    go_loopw [6, 7] (fun u i wr => ∃ j : Nat, j ≤ ns.length ∧ (∃ ua un uc, u = .slice ua un uc) ∧ i = .int .i64 j ∧ Hid (Keep (fun b => b = s) wq wr) ∧ Hid (∀ g, u.ownBlock = some g → wq.heap.size ≤ g) ∧
      ((∃ acc, Hid (TxR u acc wr) ∧ acc.length ≤ 24 ∧ Hid (StD s G (.slice fa fs.length fc) wv 0 at_ wr) ∧ Hid (parP p ns [] = parP p (ns.drop j) acc)) ∨ (∃ pp e l, e ≠ 0 ∧ Hid (parP p ns [] = .bad pp e) ∧ Hid (TxR u l wr) ∧ l.length ≤ 1000000 ∧ Hid (StD s G (.slice fa fs.length fc) wv e pp wr)))) (fun _ i _ => ns.length - (intOf i).toNat)
    case atStart => exact ⟨0, by omega, ⟨_, _, _, rfl⟩, rfl, hid (Keep.refl _ _), hid (fun g h => by simp [Value.ownBlock] at h), .inl ⟨[], hid (txR_nil _), by simp, SQ, hid (by rw [List.drop_zero])⟩⟩
    case round =>
      obtain ⟨j, hj, ⟨ua, un, uc, rfl⟩, rfl, hKq, hO, hAB⟩ := hrel
      have hzr := hKq.out.size
      have BXR := hid (blk_keep BXQ.out hKq.out (by omega))
      have SLR := hid (blk_keep SLQ.out hKq.out (by omega))
      have DSR := hid (dst_st SQ.out DQ.out hKq.out)
      have KWR := hid ((Keep.of (S := fun b => b = s) LQ.out).trans hKq.out (fun _ _ h => h))
      have xb4 : wr.cell? ⟨w.heap.size, 4, none⟩ = some (.slice na ns.length nc) := (blk_cell BXR.out 4).trans rfl
      have xb5 : wr.cell? ⟨w.heap.size, 5, none⟩ = some (.slice ka ks.length kc) := (blk_cell BXR.out 5).trans rfl
      have xb6 : wr.cell? ⟨w.heap.size, 6, none⟩ = some (.int .i64 p) := (blk_cell BXR.out 6).trans rfl
      have hBW : Below B w wr := KWR.out.below hB (fun b e => by have : b = s := e; omega)
      have HBW := hid hBW
      have hsr : s < wr.heap.size := by omega
      have hbr0 : w.heap.size < wr.heap.size := by omega
      clear hBW
      rcases hAB with ⟨acc, hT, hl24, hSt, hE⟩ | ⟨pp, e, l, he, hE, hT, hll, hSt⟩
      · have xs3 : wr.cell? ⟨s, 3, none⟩ = some (.int .i64 0) := (blk_cell hSt.out 3).trans rfl
        by_cases hjl : j < ns.length
        · obtain ⟨x, hx⟩ : ∃ e, ns[j]? = some e := ⟨ns[j], List.getElem?_eq_getElem hjl⟩
          obtain ⟨b, off, rfl, hb, cw⟩ := strs_cellAt (strsIn_on hNm.out HBW.out) hx
          have hbr : b < wr.heap.size := by omega
          have HED := hid (hE.out.trans (parP_drop hx))
          have hS0 : wr.cell? ⟨w.heap.size, 4, none⟩ = some (.slice (some ⟨b, off, none⟩) ns.length nc) ∧ wr.cell? ⟨b, off + j, none⟩ = some (.string x) ∧ wr.cell? ⟨w.heap.size, 6, none⟩ = some (.int .i64 p) := ⟨xb4, cw, xb6⟩
          have RD := hid (rdeclare_calls wr.drew (blk_on hSt.out (Below.refl _ _).drew) (txR_on hT.out (Below.refl _ _).drew) hl24 x p)
          have hun := hid (show ¬ (Value.slice ua un uc).ownBlock = some b from fun e => by have := hO.out b e; omega)
          have hun2 := hid (show ¬ (Value.slice ua un uc).ownBlock = some w.heap.size from fun e => by have := hO.out _ e; omega)
          clear hx hE
          go_wp2_with fail
          refine wp_region_held_drew (S := fun a => a.cell? ⟨w.heap.size, 4, none⟩ = some (.slice (some ⟨b, off, none⟩) ns.length nc) ∧ a.cell? ⟨b, off + j, none⟩ = some (.string x) ∧ a.cell? ⟨w.heap.size, 6, none⟩ = some (.int .i64 p)) (by kernel_rfl) hS0 (fun hHeld => ?_)
          refine wpAnyH_take (i := 0) (v := ?_) rfl (by kernel_rfl) (by kernel_rfl) (by kernel_rfl) (fun _ _ _ h => h) (Or.inl ⟨by rfl, ?_⟩) (by assumption) ?_
          rotate_left 1
          · (intro w hSw; go_simp <;> (try with_reducible rfl))
          simp only [Act.put, List.setIfInBounds_toArray, List.set_cons_zero, List.set_cons_succ, List.getElem_toArray, List.getElem_cons_succ, List.getElem_cons_zero]
          refine wpAnyH_take (i := 1) (v := ?_) rfl (by kernel_rfl) (by kernel_rfl) (by kernel_rfl) (fun _ _ _ h => h) (Or.inl ⟨by rfl, ?_⟩) (by assumption) ?_
          rotate_left 1
          · (intro w hSw; go_simp <;> (try with_reducible rfl))
          simp only [Act.put, List.setIfInBounds_toArray, List.set_cons_zero, List.set_cons_succ, List.getElem_toArray, List.getElem_cons_succ, List.getElem_cons_zero]
          refine wpAnyH_take (i := 2) (v := ?_) rfl (by kernel_rfl) (by kernel_rfl) (by kernel_rfl) (fun _ _ _ h => h) (Or.inl ⟨by rfl, ?_⟩) (by assumption) ?_
          rotate_left 1
          · (intro w hSw; go_simp <;> (try with_reducible rfl))
          simp only [Act.put, List.setIfInBounds_toArray, List.set_cons_zero, List.set_cons_succ, List.getElem_toArray, List.getElem_cons_succ, List.getElem_cons_zero]
          refine wpAnyH_take (i := 3) (v := ?_) rfl (by kernel_rfl) (by kernel_rfl) (by kernel_rfl) (fun _ _ _ h => h) (Or.inl ⟨by rfl, ?_⟩) (by assumption) ?_
          rotate_left 1
          · (intro w hSw; go_simp <;> (try with_reducible rfl))
          simp only [Act.put, List.setIfInBounds_toArray, List.set_cons_zero, List.set_cons_succ, List.getElem_toArray, List.getElem_cons_succ, List.getElem_cons_zero]
          refine wpAnyH_take (i := 4) (v := ?_) rfl (by kernel_rfl) (by kernel_rfl) (by kernel_rfl) (fun _ _ _ h => h) (Or.inl ⟨by rfl, ?_⟩) (by assumption) ?_
          rotate_left 1
          · (intro w hSw; go_simp <;> (try with_reducible rfl))
          simp only [Act.put, List.setIfInBounds_toArray, List.set_cons_zero, List.set_cons_succ, List.getElem_toArray, List.getElem_cons_succ, List.getElem_cons_zero]
          refine wpAnyH_take (i := 5) (v := ?_) rfl (by kernel_rfl) (by kernel_rfl) (by kernel_rfl) (fun _ _ _ h => h) (Or.inl ⟨by rfl, ?_⟩) (by assumption) ?_
          rotate_left 1
          · (intro w hSw; go_simp <;> (try with_reducible rfl))
          simp only [Act.put, List.setIfInBounds_toArray, List.set_cons_zero, List.set_cons_succ, List.getElem_toArray, List.getElem_cons_succ, List.getElem_cons_zero]
          refine wpAnyH_take (i := 6) (v := ?_) rfl (by kernel_rfl) (by kernel_rfl) (by kernel_rfl) (fun _ _ _ h => h) (Or.inl ⟨by rfl, ?_⟩) (by assumption) ?_
          rotate_left 1
          · (intro w hSw; go_simp <;> (try with_reducible rfl))
          simp only [Act.put, List.setIfInBounds_toArray, List.set_cons_zero, List.set_cons_succ, List.getElem_toArray, List.getElem_cons_succ, List.getElem_cons_zero]
          refine wpAnyH_take (i := 7) (v := ?_) rfl (by kernel_rfl) (by kernel_rfl) (by kernel_rfl) (fun _ _ _ h => h) (Or.inl ⟨by rfl, ?_⟩) (by assumption) ?_
          rotate_left 1
          · (intro w hSw; go_simp <;> (try with_reducible rfl))
          simp only [Act.put, List.setIfInBounds_toArray, List.set_cons_zero, List.set_cons_succ, List.getElem_toArray, List.getElem_cons_succ, List.getElem_cons_zero]
          refine wpAnyH_take (i := 8) (v := ?_) rfl (by kernel_rfl) (by kernel_rfl) (by kernel_rfl) (fun _ _ _ h => h) (Or.inl ⟨by rfl, ?_⟩) (by assumption) ?_
          rotate_left 1
          · (intro w hSw; go_simp <;> (try with_reducible rfl))
          simp only [Act.put, List.setIfInBounds_toArray, List.set_cons_zero, List.set_cons_succ, List.getElem_toArray, List.getElem_cons_succ, List.getElem_cons_zero]
          refine wpAnyH_ready (rs := [9]) (by kernel_rfl) (by simp) ?_
          refine AllReadyH.cons rfl (fun K hK => ?_) AllReadyH.nil
          go_simp
          refine RD.out.mono ?_
          rintro e2 w2 ⟨v2, rfl, t2, s2, k2, o2⟩
          obtain ⟨ta, tc, et⟩ := row_shape t2
          rw [List.length_append] at et
          replace et : v2 = .slice ta (acc.length + 1) tc := et
          subst et
          have kd : Keep (WS s (.slice ua un uc)) wr w2 := (Keep.drew _ wr).trans k2 (fun _ _ h => h)
          have bb := blk_keep BXR.out kd (fun e => by
            rcases e with e | e
            · omega
            · exact hun2.out e)
          have hS2 : w2.cell? ⟨w.heap.size, 4, none⟩ = some (.slice (some ⟨b, off, none⟩) ns.length nc) ∧ w2.cell? ⟨b, off + j, none⟩ = some (.string x) ∧ w2.cell? ⟨w.heap.size, 6, none⟩ = some (.int .i64 p) :=
            ⟨(blk_cell bb 4).trans rfl, (World.cell?_of_block (w := wr) (kd.block b hbr (fun e => by
              rcases e with e | e
              · omega
              · exact hun.out e))).trans cw, (blk_cell bb 6).trans rfl⟩
          have T2 := hid t2
          have S2 := hid s2
          have K2 := hid (hKq.out.trans kd (fun i hi e => by
            rcases e with e | e
            · exact e
            · have := hO.out i e; omega))
          have O2 := hid (show ∀ g, (Value.slice ta (acc.length + 1) tc).ownBlock = some g → wq.heap.size ≤ g from fun g hg => by
            rcases o2 g hg with h | h
            · exact hO.out g h
            · have h' : wr.heap.size ≤ g := h
              omega)
          go_simp
          refine hK.out _ _ hS2 (fun _ => ?_)
          clear hK K t2 s2 k2 o2 kd bb RD hHeld
          try simp only [Act.put, List.setIfInBounds_toArray, List.set_cons_zero, List.set_cons_succ, List.getElem_toArray, List.getElem_cons_succ, List.getElem_cons_zero]
          refine wpAnyH_take (i := 10) (v := ?_) rfl (by kernel_rfl) (by kernel_rfl) (by kernel_rfl) (fun _ _ _ h => h) (Or.inl ⟨by rfl, ?_⟩) (by assumption) ?_
          rotate_left 1
          · (intro w hSw; go_simp <;> (try with_reducible rfl))
          simp only [Act.put, List.setIfInBounds_toArray, List.set_cons_zero, List.set_cons_succ, List.getElem_toArray, List.getElem_cons_succ, List.getElem_cons_zero]
          refine wpAnyH_done (by kernel_rfl) ?_ _
          go_wp2_with fail
          refine ⟨⟨j + 1, by omega, ⟨_, _, _, rfl⟩, by simp, K2, O2, ?_⟩, by simp [intOf]; omega⟩
          by_cases hDc : declE acc x = 0
          · refine .inl ⟨acc ++ [x], T2, ?_, hid (by have := S2.out; unfold declA at this; rw [if_pos hDc, hDc] at this; exact this), hid (by rw [HED.out, declR_of, if_pos hDc]; rfl)⟩
            exact declR_len (p := p) hl24 (by rw [declR_of, if_pos hDc])
          · refine .inr ⟨p, declE acc x, acc ++ [x], hDc, hid (by rw [HED.out, declR_of, if_neg hDc]; rfl), T2, by simp; omega, hid (by have := S2.out; unfold declA at this; rw [if_neg hDc] at this; exact this)⟩
        · have hje : j = ns.length := by omega
          subst hje
          have HE2 := hid (hE.out.trans (by rw [List.drop_length, parP] : _ = Rz.ok acc))
          obtain ⟨va0, vc0, ev⟩ := row_shape hT.out
          injection ev with ev1 ev2 ev3
          subst ev1 ev2 ev3
          have LC := hid (hLets.out s G (.slice fa fs.length fc) wv at_ (.slice ua acc.length uc) acc (.slice ka ks.length kc) B wr hSt hT hl24 (hid (kidsIn_on HBW.out hKd.out)) (by omega) hBs (hid (fun g hg => by have := hO.out g hg; omega)) (by omega))
          clear hE hj hjl
          go_wp2_with fail
          refine LC.out.mono ?_
          rintro e2 wt ⟨v2, rfl, hp2, k2, o2⟩
          have kk2 : Keep (fun b => b = s) wq wt := hKq.out.trans k2 (fun i hi e => by
            rcases e with e | e
            · exact e
            · have := hO.out i e; omega)
          have TBX := hid (blk_keep BXQ.out kk2 (by omega))
          have TSL := hid (blk_keep SLQ.out kk2 (by omega))
          have TDS := hid (dst_st SQ.out DQ.out kk2)
          have TK := hid ((Keep.of (S := fun b => b = s) LQ.out).trans kk2 (fun _ _ h => h))
          have hzt := kk2.size
          cases hl2 : letL ks acc with
          | bad p2 e2 =>
            rw [hl2] at hp2
            obtain ⟨he2, ⟨l2, hTl, hll2⟩, st⟩ := hp2
            obtain ⟨va, vc, rfl⟩ := row_shape hTl
            have TST := hid st
            have TOV := hid hTl
            have HER2 := hid he2
            have HRB := hid (show R = .bad p2 e2 by rw [HRE.out, HE2.out, Rz.bind_ok, hl2]; rfl)
            clear st hTl he2 k2 o2 kk2 hl2 LC HRE HE2 xb4 xb5 xb6 xs3
            obtain ⟨cs, hownF, hrowF, hnkF⟩ := TDS.out.fn
            have HOF := hid hownF
            have HRF := hid hrowF
            have tb4 : wt.cell? ⟨w.heap.size, 4, none⟩ = some (.slice na ns.length nc) := (blk_cell TBX.out 4).trans rfl
            have ts1 : wt.cell? ⟨s, 1, none⟩ = some (.slice fa fs.length fc) := (blk_cell TST.out 1).trans rfl
            have hswt : s < wt.heap.size := blk_lt TST.out
            have hbwt : w.heap.size < wt.heap.size := blk_lt TBX.out
            have hsb : s ≠ w.heap.size := by omega
            clear hownF hrowF hnkF
            go_wp2_with fail
            refine wp_region_held_drew (S := fun a => a.cell? ⟨w.heap.size, 4, none⟩ = some (.slice na ns.length nc)) (by kernel_rfl) tb4 (fun hHeld => ?_)
            refine wpAnyH_take (i := 0) (v := ?_) rfl (by kernel_rfl) (by kernel_rfl) (by kernel_rfl) (fun _ _ _ h => h) (Or.inl ⟨by rfl, ?_⟩) (by assumption) ?_
            rotate_left 1
            · (intro w hSw; go_simp <;> (try with_reducible rfl))
            simp only [Act.put, List.setIfInBounds_toArray, List.set_cons_zero, List.set_cons_succ, List.getElem_toArray, List.getElem_cons_succ, List.getElem_cons_zero]
            refine wpAnyH_take (i := 1) (v := ?_) rfl (by kernel_rfl) (by kernel_rfl) (by kernel_rfl) (fun _ _ _ h => h) (Or.inl ⟨by rfl, ?_⟩) (by assumption) ?_
            rotate_left 1
            · (intro w hSw; go_simp <;> (try with_reducible rfl))
            simp only [Act.put, List.setIfInBounds_toArray, List.set_cons_zero, List.set_cons_succ, List.getElem_toArray, List.getElem_cons_succ, List.getElem_cons_zero]
            refine wpAnyH_take (i := 2) (v := ?_) rfl (by kernel_rfl) (by kernel_rfl) (by kernel_rfl) (fun _ _ _ h => h) (Or.inl ⟨by rfl, ?_⟩) (by assumption) ?_
            rotate_left 1
            · (intro w hSw; go_simp <;> (try with_reducible rfl))
            simp only [Act.put, List.setIfInBounds_toArray, List.set_cons_zero, List.set_cons_succ, List.getElem_toArray, List.getElem_cons_succ, List.getElem_cons_zero]
            refine wpAnyH_take (i := 3) (v := ?_) rfl (by kernel_rfl) (by kernel_rfl) (by kernel_rfl) (fun _ _ _ h => h) (Or.inl ⟨by rfl, ?_⟩) (by assumption) ?_
            rotate_left 1
            · (intro w hSw; go_simp <;> (try with_reducible rfl))
            simp only [Act.put, List.setIfInBounds_toArray, List.set_cons_zero, List.set_cons_succ, List.getElem_toArray, List.getElem_cons_succ, List.getElem_cons_zero]
            refine wpAnyH_take (i := 4) (v := ?_) rfl (by kernel_rfl) (by kernel_rfl) (by kernel_rfl) (fun _ _ _ h => h) (Or.inl ⟨by rfl, ?_⟩) (by assumption) ?_
            rotate_left 1
            · (intro w hSw; go_simp <;> (try with_reducible rfl))
            simp only [Act.put, List.setIfInBounds_toArray, List.set_cons_zero, List.set_cons_succ, List.getElem_toArray, List.getElem_cons_succ, List.getElem_cons_zero]
            refine wpAnyH_take (i := 6) (v := ?_) rfl (by kernel_rfl) (by kernel_rfl) (by kernel_rfl) (fun _ _ _ h => h) (Or.inl ⟨by rfl, ?_⟩) (by assumption) ?_
            rotate_left 1
            · (intro w hSw; go_simp <;> (try with_reducible rfl))
            simp only [Act.put, List.setIfInBounds_toArray, List.set_cons_zero, List.set_cons_succ, List.getElem_toArray, List.getElem_cons_succ, List.getElem_cons_zero]
            refine wpAnyH_take (i := 7) (v := ?_) rfl (by kernel_rfl) (by kernel_rfl) (by kernel_rfl) (fun _ _ _ h => h) (Or.inl ⟨by rfl, ?_⟩) (by assumption) ?_
            rotate_left 1
            · (intro w hSw; go_simp <;> (try with_reducible rfl))
            simp only [Act.put, List.setIfInBounds_toArray, List.set_cons_zero, List.set_cons_succ, List.getElem_toArray, List.getElem_cons_succ, List.getElem_cons_zero]
            refine wpAnyH_take (i := 8) (v := ?_) rfl (by kernel_rfl) (by kernel_rfl) (by kernel_rfl) (fun _ _ _ h => h) (Or.inl ⟨by rfl, ?_⟩) (by assumption) ?_
            rotate_left 1
            · (intro w hSw; go_simp <;> (try with_reducible rfl))
            simp only [Act.put, List.setIfInBounds_toArray, List.set_cons_zero, List.set_cons_succ, List.getElem_toArray, List.getElem_cons_succ, List.getElem_cons_zero]
            refine wpAnyH_take (i := 9) (v := ?_) rfl (by kernel_rfl) (by kernel_rfl) (by kernel_rfl) (fun _ _ _ h => h) (Or.inl ⟨by rfl, ?_⟩) (by assumption) ?_
            rotate_left 1
            · (intro w hSw; go_simp <;> (try with_reducible rfl))
            simp only [Act.put, List.setIfInBounds_toArray, List.set_cons_zero, List.set_cons_succ, List.getElem_toArray, List.getElem_cons_succ, List.getElem_cons_zero]
            refine wpAnyH_take (i := 10) (v := ?_) rfl (by kernel_rfl) (by kernel_rfl) (by kernel_rfl) (fun _ _ _ h => h) (Or.inl ⟨by rfl, ?_⟩) (by assumption) ?_
            rotate_left 1
            · (intro w hSw; go_simp <;> (try with_reducible rfl))
            simp only [Act.put, List.setIfInBounds_toArray, List.set_cons_zero, List.set_cons_succ, List.getElem_toArray, List.getElem_cons_succ, List.getElem_cons_zero]
            refine wpAnyH_take (i := 11) (v := ?_) rfl (by kernel_rfl) (by kernel_rfl) (by kernel_rfl) (fun _ _ _ h => h) (Or.inl ⟨by rfl, ?_⟩) (by assumption) ?_
            rotate_left 1
            · (intro w hSw; go_simp <;> (try with_reducible rfl))
            simp only [Act.put, List.setIfInBounds_toArray, List.set_cons_zero, List.set_cons_succ, List.getElem_toArray, List.getElem_cons_succ, List.getElem_cons_zero]
            refine wpAnyH_ready (rs := [5, 12]) (by kernel_rfl) (by simp) ?_
            refine AllReadyH.cons rfl (fun K hK => ?_) (AllReadyH.cons rfl (fun K hK => ?_) AllReadyH.nil)
            go_simp
            refine hK.out _ _ hHeld (fun _ => ?_)
            clear hK K
            refine wpAnyH_ready (rs := [12]) (by kernel_rfl) (by simp) ?_
            refine AllReadyH.cons rfl (fun K hK => ?_) AllReadyH.nil
            go_simp
            refine hK.out _ _ (by go_simp) (fun _ => ?_)
            clear hK K
            rotate_left 1
            go_simp
            refine hK.out _ _ (by go_simp) (fun _ => ?_)
            clear hK K
            refine wpAnyH_ready (rs := [5]) (by kernel_rfl) (by simp) ?_
            refine AllReadyH.cons rfl (fun K hK => ?_) AllReadyH.nil
            go_simp
            refine hK.out _ _ (by go_simp) (fun _ => ?_)
            clear hK K
            rotate_left 1
            all_goals
              refine wpAnyH_ready (rs := [13]) (by kernel_rfl) (by simp) ?_
              refine AllReadyH.cons rfl (fun K hK => ?_) AllReadyH.nil
              refine row_app_step elFnD (by decide) (by decide) rfl _ _ rfl fs.length cs [.int .i64 ((ns.length : Nat) : Int), .int .i64 ((l2.length : Nat) : Int), .slice none 0 0] rfl (by intro u hu; simp at hu; rcases hu with rfl | rfl | rfl <;> rfl) (.slice fa fs.length fc) (by rfl) HOF.out wt.heap.size (by rfl) rfl (by omega) (.inr (.inr rfl)) ?_
              intro g cp w3 hown hgrow hat
              have MO := dst_more (P := ns.length) (L := l2.length) TST.out TDS.out HRF.out hgrow hown hat
              have KW := (TK.out.mono (T := FD s (.slice fa fs.length fc)) (fun b _ e => .inl e)).trans MO.2.2.2 (fun _ _ h => h)
              have hBX3 : Blk w.heap.size 25 #[.int .i64 8, .int .i64 o, .int .i64 n, .string z, .slice na ns.length nc, .slice ka ks.length kc, .int .i64 p] w3 := blk_keep TBX.out (Keep.grown (S := fun b => (Value.slice fa fs.length fc).ownBlock = some b) hgrow (fun k e => e)) (fun e => by have := hfl.out _ e; omega)
              have u4 : w3.cell? ⟨w.heap.size, 4, none⟩ = some (.slice na ns.length nc) := (blk_cell hBX3 4).trans rfl
              have u1 : w3.cell? ⟨s, 1, none⟩ = some (.slice fa fs.length fc) := (blk_cell MO.1 1).trans rfl
              have uf : w3.frozen? ⟨s, 1, none⟩ = false := blk_free MO.1 1
              have hz3 := hgrow.size
              have nfd : ∀ b, w.heap.size ≤ b → b < wt.heap.size → ¬ FD s (.slice fa fs.length fc) b := fun b hb hb2 e => by
                rcases e with e | e
                · omega
                · have := hfl.out b e; omega
              have ST4 := hid MO.2.1
              have DS4 := hid MO.2.2.1
              have K4 := hid MO.2.2.2
              have KW4 := hid KW
              have BX4 := hid (blk_keep TBX.out MO.2.2.2 (nfd _ (by omega) (by omega)))
              have SL4 := hid (blk_keep TSL.out MO.2.2.2 (nfd _ (by omega) (blk_lt TSL.out)))
              have OV4 := hid (txR_fd TOV.out TST.out TDS.out.fn MO.2.2.2)
              have G4 := hid (show (Value.slice fa fs.length fc).ownBlock = some g ∨ w.heap.size ≤ g by
                rcases hat with h | h
                · exact .inl h
                · exact .inr (by omega))
              have HW3 := hid hown
              refine hK.out _ _ u4 (fun _ => ?_)
              clear hK K hown hgrow hat MO KW nfd hBX3
              simp only [Act.put, List.setIfInBounds_toArray, List.set_cons_zero, List.set_cons_succ, List.getElem_toArray, List.getElem_cons_succ, List.getElem_cons_zero]
              refine wpAnyH_take (i := 14) (v := ?_) rfl (by kernel_rfl) (by kernel_rfl) (by kernel_rfl) (fun _ _ _ h => h) (Or.inl ⟨by rfl, ?_⟩) (by assumption) ?_
              rotate_left 1
              · (intro w hSw; go_simp <;> (try with_reducible rfl))
              simp only [Act.put, List.setIfInBounds_toArray, List.set_cons_zero, List.set_cons_succ, List.getElem_toArray, List.getElem_cons_succ, List.getElem_cons_zero]
              refine wpAnyH_take (i := 15) (v := ?_) rfl (by kernel_rfl) (by kernel_rfl) (by kernel_rfl) (fun _ _ _ h => h) (Or.inl ⟨by rfl, ?_⟩) (by assumption) ?_
              rotate_left 1
              · (intro w hSw; go_simp <;> (try with_reducible rfl))
              simp only [Act.put, List.setIfInBounds_toArray, List.set_cons_zero, List.set_cons_succ, List.getElem_toArray, List.getElem_cons_succ, List.getElem_cons_zero]
              refine wpAnyH_take (i := 16) (v := ?_) rfl (by kernel_rfl) (by kernel_rfl) (by kernel_rfl) (fun _ _ _ h => h) (Or.inl ⟨by rfl, ?_⟩) (by assumption) ?_
              rotate_left 1
              · (intro w hSw; go_simp <;> (try with_reducible rfl))
              simp only [Act.put, List.setIfInBounds_toArray, List.set_cons_zero, List.set_cons_succ, List.getElem_toArray, List.getElem_cons_succ, List.getElem_cons_zero]
              refine wpAnyH_ready (rs := [17]) (by kernel_rfl) (by simp) ?_
              refine AllReadyH.cons rfl (fun K hK => ?_) AllReadyH.nil
              go_simp
              refine hK.out _ _ (by go_simp) (fun _ => ?_)
              clear hK K hHeld
              refine wpAnyH_done (by kernel_rfl) ?_ _
              generalize w3.setCell ⟨s, 1, none⟩ (.slice (some ⟨g, 0, none⟩) (fs.length + 1) cp) = w4 at *
              have kb5 : w4.cell? ⟨w.heap.size, 5, none⟩ = some (.slice ka ks.length kc) := (blk_cell BX4.out 5).trans rfl
              have NE := hid (nodes_err w4 ST4.out HER2.out ka ks.length kc (.slice va l2.length vc) (by omega) ⟨_, _, _, rfl⟩)
              go_wp2_with fail
              refine NE.out.mono ?_
              rintro r5 w5 ⟨rfl, rfl⟩
              obtain ⟨cs4, hown4, _⟩ := DS4.out.fn
              have ST5 := ST4
              have ROW5 := hid (show w5.ownsRow 0 45 3 (.slice (some ⟨g, 0, none⟩) (fs.length + 1) cp) (fs.length + 1) cs4 by have := hown4; rw [List.length_append] at this; exact this)
              have SL5 := SL4
              have KW5 := KW4
              have G5 := G4
              have HL8 := hid (show fs.length < fs.length + 1 by omega)
              have HL9 := hid (show fs.length + 1 ≤ 1000000 by omega)
              clear hown4 NE
              obtain ⟨cur8, hc8⟩ := row_lt ROW5.out (g := g) rfl
              have n8s : g ≠ s := fun e => by
                rw [e] at hc8
                exact blkD_not ST5.out (by decide) _ hc8
              have n8b : g ≠ w.heap.size + 1 := fun e => by
                rw [e] at hc8
                exact blkD_not SL5.out (by decide) _ hc8
              have n8b' : w.heap.size + 1 ≠ g := Ne.symm n8b
              obtain ⟨y8, hy8⟩ : ∃ y, (cs4)[fs.length * 3 + 2]? = some y := ⟨_, List.getElem?_eq_getElem (by have := ROW5.out.1; have := HL8.out; omega)⟩
              have xs1 : w5.cell? ⟨s, 1, none⟩ = some (.slice (some ⟨g, 0, none⟩) (fs.length + 1) cp) := (blk_cell ST5.out 1).trans rfl
              have xc : w5.cell? ⟨g, fs.length * 3 + 2, none⟩ = some y8 := row_cell ROW5.out hy8
              have xf : w5.frozen? ⟨g, fs.length * 3 + 2, none⟩ = false := row_free ROW5.out _
              have hlI : (fs.length : Int) < (((fs.length + 1) : Nat) : Int) := by have := HL8.out; omega
              obtain ⟨z40, z41, z42, z43, z44, z45, z46⟩ := box_cells (show Box (w.heap.size + 1) 0 0 0 ⟨#[]⟩ (.slice none 0 0) (.slice none 0 0) 0 w5 from SL5.out)
              have g40 : w5.frozen? ⟨w.heap.size + 1, 0, none⟩ = false := blk_free SL5.out 0
              have g41 : w5.frozen? ⟨w.heap.size + 1, 1, none⟩ = false := blk_free SL5.out 1
              have g42 : w5.frozen? ⟨w.heap.size + 1, 2, none⟩ = false := blk_free SL5.out 2
              have g43 : w5.frozen? ⟨w.heap.size + 1, 3, none⟩ = false := blk_free SL5.out 3
              have g44 : w5.frozen? ⟨w.heap.size + 1, 4, none⟩ = false := blk_free SL5.out 4
              have g45 : w5.frozen? ⟨w.heap.size + 1, 5, none⟩ = false := blk_free SL5.out 5
              have g46 : w5.frozen? ⟨w.heap.size + 1, 6, none⟩ = false := blk_free SL5.out 6
              clear hy8 hc8
              go_wp2_with fail
              have KX := Keep.set (S := fun b => b = g) rfl w5 (fs.length * 3 + 2) (.slice none 0 0)
              have SL6 := blk_keep SL5.out KX n8b'
              have P := putD7 SL6 (.int .i64 20) (.int .i64 0) (.int .i64 (fs.length : Int)) (.string ⟨#[]⟩) (.slice none 0 0) (.slice none 0 0) (.int .i64 0)
              refine bodyPost_ret (ret_ndD rfl rfl P.1) rfl ?_
              rw [HRB.out]
              exact ⟨_, _, _, _, _, _, _, _, _, _, _, rfl, (BadD.body (n := fs.length) (j := fs.length * 3 + 2) (u := .slice none 0 0) KW5.out HER2.out ST5.out (by have := HL8.out; omega) HL9.out ROW5.out G5.out).past P.2 SL6 (by omega)⟩
          | ok own =>
            rw [hl2] at hp2
            obtain ⟨hTl, hown24, st⟩ := hp2
            obtain ⟨va, vc, rfl⟩ := row_shape hTl
            have TST := hid st
            have TOV := hid hTl
            have HPP := hid (show R = (resL gl ks own (fs ++ [(ns.length, own.length, [])])).bind fun q => .ok (.mk 20 0 fs.length ⟨#[]⟩ [] [] 0, q.2.set fs.length (ns.length, own.length, q.1)) by rw [HRE.out, HE2.out, Rz.bind_ok, hl2]; rfl)
            clear st hTl k2 o2 kk2 hl2 LC HRE HE2 xb4 xb5 xb6 xs3
            obtain ⟨cs, hownF, hrowF, hnkF⟩ := TDS.out.fn
            have HOF := hid hownF
            have HRF := hid hrowF
            have tb4 : wt.cell? ⟨w.heap.size, 4, none⟩ = some (.slice na ns.length nc) := (blk_cell TBX.out 4).trans rfl
            have ts1 : wt.cell? ⟨s, 1, none⟩ = some (.slice fa fs.length fc) := (blk_cell TST.out 1).trans rfl
            have hswt : s < wt.heap.size := blk_lt TST.out
            have hbwt : w.heap.size < wt.heap.size := blk_lt TBX.out
            have hsb : s ≠ w.heap.size := by omega
            clear hownF hrowF hnkF
            go_wp2_with fail
            refine wp_region_held_drew (S := fun a => a.cell? ⟨w.heap.size, 4, none⟩ = some (.slice na ns.length nc)) (by kernel_rfl) tb4 (fun hHeld => ?_)
            refine wpAnyH_take (i := 0) (v := ?_) rfl (by kernel_rfl) (by kernel_rfl) (by kernel_rfl) (fun _ _ _ h => h) (Or.inl ⟨by rfl, ?_⟩) (by assumption) ?_
            rotate_left 1
            · (intro w hSw; go_simp <;> (try with_reducible rfl))
            simp only [Act.put, List.setIfInBounds_toArray, List.set_cons_zero, List.set_cons_succ, List.getElem_toArray, List.getElem_cons_succ, List.getElem_cons_zero]
            refine wpAnyH_take (i := 1) (v := ?_) rfl (by kernel_rfl) (by kernel_rfl) (by kernel_rfl) (fun _ _ _ h => h) (Or.inl ⟨by rfl, ?_⟩) (by assumption) ?_
            rotate_left 1
            · (intro w hSw; go_simp <;> (try with_reducible rfl))
            simp only [Act.put, List.setIfInBounds_toArray, List.set_cons_zero, List.set_cons_succ, List.getElem_toArray, List.getElem_cons_succ, List.getElem_cons_zero]
            refine wpAnyH_take (i := 2) (v := ?_) rfl (by kernel_rfl) (by kernel_rfl) (by kernel_rfl) (fun _ _ _ h => h) (Or.inl ⟨by rfl, ?_⟩) (by assumption) ?_
            rotate_left 1
            · (intro w hSw; go_simp <;> (try with_reducible rfl))
            simp only [Act.put, List.setIfInBounds_toArray, List.set_cons_zero, List.set_cons_succ, List.getElem_toArray, List.getElem_cons_succ, List.getElem_cons_zero]
            refine wpAnyH_take (i := 3) (v := ?_) rfl (by kernel_rfl) (by kernel_rfl) (by kernel_rfl) (fun _ _ _ h => h) (Or.inl ⟨by rfl, ?_⟩) (by assumption) ?_
            rotate_left 1
            · (intro w hSw; go_simp <;> (try with_reducible rfl))
            simp only [Act.put, List.setIfInBounds_toArray, List.set_cons_zero, List.set_cons_succ, List.getElem_toArray, List.getElem_cons_succ, List.getElem_cons_zero]
            refine wpAnyH_take (i := 4) (v := ?_) rfl (by kernel_rfl) (by kernel_rfl) (by kernel_rfl) (fun _ _ _ h => h) (Or.inl ⟨by rfl, ?_⟩) (by assumption) ?_
            rotate_left 1
            · (intro w hSw; go_simp <;> (try with_reducible rfl))
            simp only [Act.put, List.setIfInBounds_toArray, List.set_cons_zero, List.set_cons_succ, List.getElem_toArray, List.getElem_cons_succ, List.getElem_cons_zero]
            refine wpAnyH_take (i := 6) (v := ?_) rfl (by kernel_rfl) (by kernel_rfl) (by kernel_rfl) (fun _ _ _ h => h) (Or.inl ⟨by rfl, ?_⟩) (by assumption) ?_
            rotate_left 1
            · (intro w hSw; go_simp <;> (try with_reducible rfl))
            simp only [Act.put, List.setIfInBounds_toArray, List.set_cons_zero, List.set_cons_succ, List.getElem_toArray, List.getElem_cons_succ, List.getElem_cons_zero]
            refine wpAnyH_take (i := 7) (v := ?_) rfl (by kernel_rfl) (by kernel_rfl) (by kernel_rfl) (fun _ _ _ h => h) (Or.inl ⟨by rfl, ?_⟩) (by assumption) ?_
            rotate_left 1
            · (intro w hSw; go_simp <;> (try with_reducible rfl))
            simp only [Act.put, List.setIfInBounds_toArray, List.set_cons_zero, List.set_cons_succ, List.getElem_toArray, List.getElem_cons_succ, List.getElem_cons_zero]
            refine wpAnyH_take (i := 8) (v := ?_) rfl (by kernel_rfl) (by kernel_rfl) (by kernel_rfl) (fun _ _ _ h => h) (Or.inl ⟨by rfl, ?_⟩) (by assumption) ?_
            rotate_left 1
            · (intro w hSw; go_simp <;> (try with_reducible rfl))
            simp only [Act.put, List.setIfInBounds_toArray, List.set_cons_zero, List.set_cons_succ, List.getElem_toArray, List.getElem_cons_succ, List.getElem_cons_zero]
            refine wpAnyH_take (i := 9) (v := ?_) rfl (by kernel_rfl) (by kernel_rfl) (by kernel_rfl) (fun _ _ _ h => h) (Or.inl ⟨by rfl, ?_⟩) (by assumption) ?_
            rotate_left 1
            · (intro w hSw; go_simp <;> (try with_reducible rfl))
            simp only [Act.put, List.setIfInBounds_toArray, List.set_cons_zero, List.set_cons_succ, List.getElem_toArray, List.getElem_cons_succ, List.getElem_cons_zero]
            refine wpAnyH_take (i := 10) (v := ?_) rfl (by kernel_rfl) (by kernel_rfl) (by kernel_rfl) (fun _ _ _ h => h) (Or.inl ⟨by rfl, ?_⟩) (by assumption) ?_
            rotate_left 1
            · (intro w hSw; go_simp <;> (try with_reducible rfl))
            simp only [Act.put, List.setIfInBounds_toArray, List.set_cons_zero, List.set_cons_succ, List.getElem_toArray, List.getElem_cons_succ, List.getElem_cons_zero]
            refine wpAnyH_take (i := 11) (v := ?_) rfl (by kernel_rfl) (by kernel_rfl) (by kernel_rfl) (fun _ _ _ h => h) (Or.inl ⟨by rfl, ?_⟩) (by assumption) ?_
            rotate_left 1
            · (intro w hSw; go_simp <;> (try with_reducible rfl))
            simp only [Act.put, List.setIfInBounds_toArray, List.set_cons_zero, List.set_cons_succ, List.getElem_toArray, List.getElem_cons_succ, List.getElem_cons_zero]
            refine wpAnyH_ready (rs := [5, 12]) (by kernel_rfl) (by simp) ?_
            refine AllReadyH.cons rfl (fun K hK => ?_) (AllReadyH.cons rfl (fun K hK => ?_) AllReadyH.nil)
            go_simp
            refine hK.out _ _ hHeld (fun _ => ?_)
            clear hK K
            refine wpAnyH_ready (rs := [12]) (by kernel_rfl) (by simp) ?_
            refine AllReadyH.cons rfl (fun K hK => ?_) AllReadyH.nil
            go_simp
            refine hK.out _ _ (by go_simp) (fun _ => ?_)
            clear hK K
            rotate_left 1
            go_simp
            refine hK.out _ _ (by go_simp) (fun _ => ?_)
            clear hK K
            refine wpAnyH_ready (rs := [5]) (by kernel_rfl) (by simp) ?_
            refine AllReadyH.cons rfl (fun K hK => ?_) AllReadyH.nil
            go_simp
            refine hK.out _ _ (by go_simp) (fun _ => ?_)
            clear hK K
            rotate_left 1
            all_goals
              refine wpAnyH_ready (rs := [13]) (by kernel_rfl) (by simp) ?_
              refine AllReadyH.cons rfl (fun K hK => ?_) AllReadyH.nil
              refine row_app_step elFnD (by decide) (by decide) rfl _ _ rfl fs.length cs [.int .i64 ((ns.length : Nat) : Int), .int .i64 ((own.length : Nat) : Int), .slice none 0 0] rfl (by intro u hu; simp at hu; rcases hu with rfl | rfl | rfl <;> rfl) (.slice fa fs.length fc) (by rfl) HOF.out wt.heap.size (by rfl) rfl (by omega) (.inr (.inr rfl)) ?_
              intro g cp w3 hown hgrow hat
              have MO := dst_more (P := ns.length) (L := own.length) TST.out TDS.out HRF.out hgrow hown hat
              have KW := (TK.out.mono (T := FD s (.slice fa fs.length fc)) (fun b _ e => .inl e)).trans MO.2.2.2 (fun _ _ h => h)
              have hBX3 : Blk w.heap.size 25 #[.int .i64 8, .int .i64 o, .int .i64 n, .string z, .slice na ns.length nc, .slice ka ks.length kc, .int .i64 p] w3 := blk_keep TBX.out (Keep.grown (S := fun b => (Value.slice fa fs.length fc).ownBlock = some b) hgrow (fun k e => e)) (fun e => by have := hfl.out _ e; omega)
              have u4 : w3.cell? ⟨w.heap.size, 4, none⟩ = some (.slice na ns.length nc) := (blk_cell hBX3 4).trans rfl
              have u1 : w3.cell? ⟨s, 1, none⟩ = some (.slice fa fs.length fc) := (blk_cell MO.1 1).trans rfl
              have uf : w3.frozen? ⟨s, 1, none⟩ = false := blk_free MO.1 1
              have hz3 := hgrow.size
              have nfd : ∀ b, w.heap.size ≤ b → b < wt.heap.size → ¬ FD s (.slice fa fs.length fc) b := fun b hb hb2 e => by
                rcases e with e | e
                · omega
                · have := hfl.out b e; omega
              have ST4 := hid MO.2.1
              have DS4 := hid MO.2.2.1
              have K4 := hid MO.2.2.2
              have KW4 := hid KW
              have BX4 := hid (blk_keep TBX.out MO.2.2.2 (nfd _ (by omega) (by omega)))
              have SL4 := hid (blk_keep TSL.out MO.2.2.2 (nfd _ (by omega) (blk_lt TSL.out)))
              have OV4 := hid (txR_fd TOV.out TST.out TDS.out.fn MO.2.2.2)
              have G4 := hid (show (Value.slice fa fs.length fc).ownBlock = some g ∨ w.heap.size ≤ g by
                rcases hat with h | h
                · exact .inl h
                · exact .inr (by omega))
              have HW3 := hid hown
              refine hK.out _ _ u4 (fun _ => ?_)
              clear hK K hown hgrow hat MO KW nfd hBX3
              simp only [Act.put, List.setIfInBounds_toArray, List.set_cons_zero, List.set_cons_succ, List.getElem_toArray, List.getElem_cons_succ, List.getElem_cons_zero]
              refine wpAnyH_take (i := 14) (v := ?_) rfl (by kernel_rfl) (by kernel_rfl) (by kernel_rfl) (fun _ _ _ h => h) (Or.inl ⟨by rfl, ?_⟩) (by assumption) ?_
              rotate_left 1
              · (intro w hSw; go_simp <;> (try with_reducible rfl))
              simp only [Act.put, List.setIfInBounds_toArray, List.set_cons_zero, List.set_cons_succ, List.getElem_toArray, List.getElem_cons_succ, List.getElem_cons_zero]
              refine wpAnyH_take (i := 15) (v := ?_) rfl (by kernel_rfl) (by kernel_rfl) (by kernel_rfl) (fun _ _ _ h => h) (Or.inl ⟨by rfl, ?_⟩) (by assumption) ?_
              rotate_left 1
              · (intro w hSw; go_simp <;> (try with_reducible rfl))
              simp only [Act.put, List.setIfInBounds_toArray, List.set_cons_zero, List.set_cons_succ, List.getElem_toArray, List.getElem_cons_succ, List.getElem_cons_zero]
              refine wpAnyH_take (i := 16) (v := ?_) rfl (by kernel_rfl) (by kernel_rfl) (by kernel_rfl) (fun _ _ _ h => h) (Or.inl ⟨by rfl, ?_⟩) (by assumption) ?_
              rotate_left 1
              · (intro w hSw; go_simp <;> (try with_reducible rfl))
              simp only [Act.put, List.setIfInBounds_toArray, List.set_cons_zero, List.set_cons_succ, List.getElem_toArray, List.getElem_cons_succ, List.getElem_cons_zero]
              refine wpAnyH_ready (rs := [17]) (by kernel_rfl) (by simp) ?_
              refine AllReadyH.cons rfl (fun K hK => ?_) AllReadyH.nil
              go_simp
              refine hK.out _ _ (by go_simp) (fun _ => ?_)
              clear hK K hHeld
              refine wpAnyH_done (by kernel_rfl) ?_ _
              generalize w3.setCell ⟨s, 1, none⟩ (.slice (some ⟨g, 0, none⟩) (fs.length + 1) cp) = w4 at *
              have kb5 : w4.cell? ⟨w.heap.size, 5, none⟩ = some (.slice ka ks.length kc) := (blk_cell BX4.out 5).trans rfl
              have hKB4 : Below B w w4 := KW4.out.below hB (fun b e => by
                rcases e with e | e
                · omega
                · exact hfB.out b e)
              have hz4 := KW4.out.size
              have NC := hid (hKids.out s G (.slice (some ⟨g, 0, none⟩) (fs.length + 1) cp) wv at_ gl own (.slice va own.length vc) (fs ++ [(ns.length, own.length, [])]) ok (.slice ka ks.length kc) B w4 ST4 DS4 OV4 hown24 hgl (hid (kidsIn_on hKB4 hKd.out)) (by omega) hBs (hid (fun g' hg' => by
                simp [Value.ownBlock] at hg'
                subst hg'
                rcases G4.out with h | h
                · exact hfB.out g h
                · omega)) hokB hks.out hck (by rw [List.length_append]; simp; omega))
              clear hKB4
              go_wp2_with fail
              refine NC.out.mono ?_
              intro r5 w5 h5
              have SL5 := hid (show Blk (w.heap.size + 1) 25 #[.int .i64 0, .int .i64 0, .int .i64 0, .string ⟨#[]⟩, .slice none 0 0, .slice none 0 0, .int .i64 0] w5 from blk_keep SL4.out (nodesOut_keep h5) (fun e => by
                rcases e with e | e
                · omega
                · simp [Value.ownBlock] at e
                  obtain ⟨cur, hc⟩ := fnsS_lt DS4.out.fn (g := g) rfl
                  rw [e] at hc
                  exact blkD_not SL4.out (by decide) _ hc))
              cases hR3 : resL gl ks own (fs ++ [(ns.length, own.length, [])]) with
              | bad p3 e3 =>
                rw [hR3] at h5
                obtain ⟨b5, m5, d5, rfl, hb5⟩ := h5
                have HRB := hid (HPP.out.trans (by rw [hR3]; rfl : _ = Rz.bad p3 e3))
                obtain ⟨fv5, L5, cs5, s5, l5, l6, r5', o5⟩ := hb5.left
                rw [List.length_append] at l5
                replace l5 : fs.length + 1 ≤ L5 := l5
                obtain ⟨g8, c8, rfl⟩ := row_someD r5' (by omega)
                have ST5 := hid s5
                have ROW5 := hid r5'
                have HER := hid hb5.er
                have KW5 := hid (fd_trans KW4.out hb5.keep (fun g' hg' => by
                  simp [Value.ownBlock] at hg'
                  subst hg'
                  exact G4.out))
                have G5 := hid (show (Value.slice fa fs.length fc).ownBlock = some g8 ∨ w.heap.size ≤ g8 by
                  rcases o5 g8 rfl with h | h
                  · simp [Value.ownBlock] at h
                    subst h
                    exact G4.out
                  · exact .inr (by omega))
                have HL8 := hid (show fs.length < L5 by omega)
                have HL9 := hid l6
                clear s5 r5' hb5 o5 l5 l6 hR3 NC
                obtain ⟨cur8, hc8⟩ := row_lt ROW5.out (g := g8) rfl
                have n8s : g8 ≠ s := fun e => by
                  rw [e] at hc8
                  exact blkD_not ST5.out (by decide) _ hc8
                have n8b : g8 ≠ w.heap.size + 1 := fun e => by
                  rw [e] at hc8
                  exact blkD_not SL5.out (by decide) _ hc8
                have n8b' : w.heap.size + 1 ≠ g8 := Ne.symm n8b
                obtain ⟨y8, hy8⟩ : ∃ y, (cs5)[fs.length * 3 + 2]? = some y := ⟨_, List.getElem?_eq_getElem (by have := ROW5.out.1; have := HL8.out; omega)⟩
                have xs1 : w5.cell? ⟨s, 1, none⟩ = some (.slice (some ⟨g8, 0, none⟩) L5 c8) := (blk_cell ST5.out 1).trans rfl
                have xc : w5.cell? ⟨g8, fs.length * 3 + 2, none⟩ = some y8 := row_cell ROW5.out hy8
                have xf : w5.frozen? ⟨g8, fs.length * 3 + 2, none⟩ = false := row_free ROW5.out _
                have hlI : (fs.length : Int) < ((L5 : Nat) : Int) := by have := HL8.out; omega
                obtain ⟨z40, z41, z42, z43, z44, z45, z46⟩ := box_cells (show Box (w.heap.size + 1) 0 0 0 ⟨#[]⟩ (.slice none 0 0) (.slice none 0 0) 0 w5 from SL5.out)
                have g40 : w5.frozen? ⟨w.heap.size + 1, 0, none⟩ = false := blk_free SL5.out 0
                have g41 : w5.frozen? ⟨w.heap.size + 1, 1, none⟩ = false := blk_free SL5.out 1
                have g42 : w5.frozen? ⟨w.heap.size + 1, 2, none⟩ = false := blk_free SL5.out 2
                have g43 : w5.frozen? ⟨w.heap.size + 1, 3, none⟩ = false := blk_free SL5.out 3
                have g44 : w5.frozen? ⟨w.heap.size + 1, 4, none⟩ = false := blk_free SL5.out 4
                have g45 : w5.frozen? ⟨w.heap.size + 1, 5, none⟩ = false := blk_free SL5.out 5
                have g46 : w5.frozen? ⟨w.heap.size + 1, 6, none⟩ = false := blk_free SL5.out 6
                clear hy8 hc8
                go_wp2_with fail
                have KX := Keep.set (S := fun b => b = g8) rfl w5 (fs.length * 3 + 2) (.slice b5 m5 d5)
                have SL6 := blk_keep SL5.out KX n8b'
                have P := putD7 SL6 (.int .i64 20) (.int .i64 0) (.int .i64 (fs.length : Int)) (.string ⟨#[]⟩) (.slice none 0 0) (.slice none 0 0) (.int .i64 0)
                refine bodyPost_ret (ret_ndD rfl rfl P.1) rfl ?_
                rw [HRB.out]
                exact ⟨_, _, _, _, _, _, _, _, _, _, _, rfl, (BadD.body (n := fs.length) (j := fs.length * 3 + 2) (u := .slice b5 m5 d5) KW5.out HER.out ST5.out (by have := HL8.out; omega) HL9.out ROW5.out G5.out).past P.2 SL6 (by omega)⟩
              | ok q3 =>
                obtain ⟨l3, fs3⟩ := q3
                rw [hR3] at h5
                obtain ⟨kv5, fv5, ok5, rfl, hk5, hw5⟩ := h5
                have HRB := hid (HPP.out.trans (by rw [hR3]; rfl : _ = Rz.ok (Nd.mk 20 0 (fs.length : Int) ⟨#[]⟩ [] [] 0, fs3.set fs.length (ns.length, own.length, l3))))
                obtain ⟨q, hq⟩ := resL_pre ks hR3
                simp only at hq
                have HI3 := hid (show fs3[fs.length]? = some (ns.length, own.length, []) by rw [hq]; simp)
                have HL8 := hid (show fs.length < fs3.length by rw [hq]; simp)
                obtain ⟨cs5, r5', _, _⟩ := hw5.ds.fn
                obtain ⟨g8, c8, rfl⟩ := row_someD r5' (by have := HL8.out; omega)
                obtain ⟨b5, d5, rfl⟩ := kidsS_shape hk5
                have ST5 := hid hw5.st
                have ROW5 := hid r5'
                have HW5 := hid hw5
                have HK5 := hid hk5
                clear r5' hw5 hk5 hq hR3 NC
                obtain ⟨cur8, hc8⟩ := row_lt ROW5.out (g := g8) rfl
                have n8s : g8 ≠ s := fun e => by
                  rw [e] at hc8
                  exact blkD_not ST5.out (by decide) _ hc8
                have n8b : g8 ≠ w.heap.size + 1 := fun e => by
                  rw [e] at hc8
                  exact blkD_not SL5.out (by decide) _ hc8
                have n8b' : w.heap.size + 1 ≠ g8 := Ne.symm n8b
                obtain ⟨y8, hy8⟩ : ∃ y, (cs5)[fs.length * 3 + 2]? = some y := ⟨_, List.getElem?_eq_getElem (by have := ROW5.out.1; have := HL8.out; omega)⟩
                have xs1 : w5.cell? ⟨s, 1, none⟩ = some (.slice (some ⟨g8, 0, none⟩) fs3.length c8) := (blk_cell ST5.out 1).trans rfl
                have xc : w5.cell? ⟨g8, fs.length * 3 + 2, none⟩ = some y8 := row_cell ROW5.out hy8
                have xf : w5.frozen? ⟨g8, fs.length * 3 + 2, none⟩ = false := row_free ROW5.out _
                have hlI : (fs.length : Int) < ((fs3.length : Nat) : Int) := by have := HL8.out; omega
                obtain ⟨z40, z41, z42, z43, z44, z45, z46⟩ := box_cells (show Box (w.heap.size + 1) 0 0 0 ⟨#[]⟩ (.slice none 0 0) (.slice none 0 0) 0 w5 from SL5.out)
                have g40 : w5.frozen? ⟨w.heap.size + 1, 0, none⟩ = false := blk_free SL5.out 0
                have g41 : w5.frozen? ⟨w.heap.size + 1, 1, none⟩ = false := blk_free SL5.out 1
                have g42 : w5.frozen? ⟨w.heap.size + 1, 2, none⟩ = false := blk_free SL5.out 2
                have g43 : w5.frozen? ⟨w.heap.size + 1, 3, none⟩ = false := blk_free SL5.out 3
                have g44 : w5.frozen? ⟨w.heap.size + 1, 4, none⟩ = false := blk_free SL5.out 4
                have g45 : w5.frozen? ⟨w.heap.size + 1, 5, none⟩ = false := blk_free SL5.out 5
                have g46 : w5.frozen? ⟨w.heap.size + 1, 6, none⟩ = false := blk_free SL5.out 6
                clear hy8 hc8
                go_wp2_with fail
                have KX := Keep.set (S := fun b => b = g8) rfl w5 (fs.length * 3 + 2) (.slice b5 l3.length d5)
                have SL6 := blk_keep SL5.out KX n8b'
                have P := putD7 SL6 (.int .i64 20) (.int .i64 0) (.int .i64 (fs.length : Int)) (.string ⟨#[]⟩) (.slice none 0 0) (.slice none 0 0) (.int .i64 0)
                refine bodyPost_ret (ret_ndD rfl rfl P.1) rfl ?_
                rw [HRB.out]
                have WB := HW5.out.body HK5.out HI3.out
                have WP := WentD.pre KW4.out (fun g' hg' => by
                  simp [Value.ownBlock] at hg'
                  subst hg'
                  exact G4.out) WB
                refine ⟨.slice none 0 0, .slice none 0 0, _, ok5, rfl, ndS_mk.2 ⟨.inl ⟨none, 0, rfl, rfl⟩, .inl ⟨none, 0, rfl, rfl⟩⟩, WP.past P.2 SL6 (by omega) (fun hb => ?_)⟩
                rcases HW5.out.only _ hb with h | h
                · have := hD.out.lt _ h; omega
                · have := blk_lt SL4.out; omega
      · have xs3 : wr.cell? ⟨s, 3, none⟩ = some (.int .i64 e) := (blk_cell hSt.out 3).trans rfl
        have hne : (e == 0) = false := by simpa using he
        obtain ⟨va, vc, ev⟩ := row_shape hT.out
        injection ev with ev1 ev2 ev3
        subst ev1 ev2 ev3
        have HER := hid he
        have HRB := hid (show R = .bad pp e by rw [HRE.out, hE.out]; rfl)
        have LE := hid (lets_err wr hSt.out he ka ks.length kc ua l.length uc (by omega))
        have TST := hSt
        have TOV := hT
        have TBX := BXR
        have TSL := SLR
        have TDS := DSR
        have TK := KWR
        clear he hSt hT BXR SLR DSR KWR hE
        by_cases hjl : j < ns.length
        · go_wp2_with fail
          refine LE.out.mono ?_
          rintro e2 wt ⟨rfl, rfl⟩
          clear LE xb4 xb5 xb6 xs3
          obtain ⟨cs, hownF, hrowF, hnkF⟩ := TDS.out.fn
          have HOF := hid hownF
          have HRF := hid hrowF
          have tb4 : wt.cell? ⟨w.heap.size, 4, none⟩ = some (.slice na ns.length nc) := (blk_cell TBX.out 4).trans rfl
          have ts1 : wt.cell? ⟨s, 1, none⟩ = some (.slice fa fs.length fc) := (blk_cell TST.out 1).trans rfl
          have hswt : s < wt.heap.size := blk_lt TST.out
          have hbwt : w.heap.size < wt.heap.size := blk_lt TBX.out
          have hsb : s ≠ w.heap.size := by omega
          clear hownF hrowF hnkF
          go_wp2_with fail
          refine wp_region_held_drew (S := fun a => a.cell? ⟨w.heap.size, 4, none⟩ = some (.slice na ns.length nc)) (by kernel_rfl) tb4 (fun hHeld => ?_)
          refine wpAnyH_take (i := 0) (v := ?_) rfl (by kernel_rfl) (by kernel_rfl) (by kernel_rfl) (fun _ _ _ h => h) (Or.inl ⟨by rfl, ?_⟩) (by assumption) ?_
          rotate_left 1
          · (intro w hSw; go_simp <;> (try with_reducible rfl))
          simp only [Act.put, List.setIfInBounds_toArray, List.set_cons_zero, List.set_cons_succ, List.getElem_toArray, List.getElem_cons_succ, List.getElem_cons_zero]
          refine wpAnyH_take (i := 1) (v := ?_) rfl (by kernel_rfl) (by kernel_rfl) (by kernel_rfl) (fun _ _ _ h => h) (Or.inl ⟨by rfl, ?_⟩) (by assumption) ?_
          rotate_left 1
          · (intro w hSw; go_simp <;> (try with_reducible rfl))
          simp only [Act.put, List.setIfInBounds_toArray, List.set_cons_zero, List.set_cons_succ, List.getElem_toArray, List.getElem_cons_succ, List.getElem_cons_zero]
          refine wpAnyH_take (i := 2) (v := ?_) rfl (by kernel_rfl) (by kernel_rfl) (by kernel_rfl) (fun _ _ _ h => h) (Or.inl ⟨by rfl, ?_⟩) (by assumption) ?_
          rotate_left 1
          · (intro w hSw; go_simp <;> (try with_reducible rfl))
          simp only [Act.put, List.setIfInBounds_toArray, List.set_cons_zero, List.set_cons_succ, List.getElem_toArray, List.getElem_cons_succ, List.getElem_cons_zero]
          refine wpAnyH_take (i := 3) (v := ?_) rfl (by kernel_rfl) (by kernel_rfl) (by kernel_rfl) (fun _ _ _ h => h) (Or.inl ⟨by rfl, ?_⟩) (by assumption) ?_
          rotate_left 1
          · (intro w hSw; go_simp <;> (try with_reducible rfl))
          simp only [Act.put, List.setIfInBounds_toArray, List.set_cons_zero, List.set_cons_succ, List.getElem_toArray, List.getElem_cons_succ, List.getElem_cons_zero]
          refine wpAnyH_take (i := 4) (v := ?_) rfl (by kernel_rfl) (by kernel_rfl) (by kernel_rfl) (fun _ _ _ h => h) (Or.inl ⟨by rfl, ?_⟩) (by assumption) ?_
          rotate_left 1
          · (intro w hSw; go_simp <;> (try with_reducible rfl))
          simp only [Act.put, List.setIfInBounds_toArray, List.set_cons_zero, List.set_cons_succ, List.getElem_toArray, List.getElem_cons_succ, List.getElem_cons_zero]
          refine wpAnyH_take (i := 6) (v := ?_) rfl (by kernel_rfl) (by kernel_rfl) (by kernel_rfl) (fun _ _ _ h => h) (Or.inl ⟨by rfl, ?_⟩) (by assumption) ?_
          rotate_left 1
          · (intro w hSw; go_simp <;> (try with_reducible rfl))
          simp only [Act.put, List.setIfInBounds_toArray, List.set_cons_zero, List.set_cons_succ, List.getElem_toArray, List.getElem_cons_succ, List.getElem_cons_zero]
          refine wpAnyH_take (i := 7) (v := ?_) rfl (by kernel_rfl) (by kernel_rfl) (by kernel_rfl) (fun _ _ _ h => h) (Or.inl ⟨by rfl, ?_⟩) (by assumption) ?_
          rotate_left 1
          · (intro w hSw; go_simp <;> (try with_reducible rfl))
          simp only [Act.put, List.setIfInBounds_toArray, List.set_cons_zero, List.set_cons_succ, List.getElem_toArray, List.getElem_cons_succ, List.getElem_cons_zero]
          refine wpAnyH_take (i := 8) (v := ?_) rfl (by kernel_rfl) (by kernel_rfl) (by kernel_rfl) (fun _ _ _ h => h) (Or.inl ⟨by rfl, ?_⟩) (by assumption) ?_
          rotate_left 1
          · (intro w hSw; go_simp <;> (try with_reducible rfl))
          simp only [Act.put, List.setIfInBounds_toArray, List.set_cons_zero, List.set_cons_succ, List.getElem_toArray, List.getElem_cons_succ, List.getElem_cons_zero]
          refine wpAnyH_take (i := 9) (v := ?_) rfl (by kernel_rfl) (by kernel_rfl) (by kernel_rfl) (fun _ _ _ h => h) (Or.inl ⟨by rfl, ?_⟩) (by assumption) ?_
          rotate_left 1
          · (intro w hSw; go_simp <;> (try with_reducible rfl))
          simp only [Act.put, List.setIfInBounds_toArray, List.set_cons_zero, List.set_cons_succ, List.getElem_toArray, List.getElem_cons_succ, List.getElem_cons_zero]
          refine wpAnyH_take (i := 10) (v := ?_) rfl (by kernel_rfl) (by kernel_rfl) (by kernel_rfl) (fun _ _ _ h => h) (Or.inl ⟨by rfl, ?_⟩) (by assumption) ?_
          rotate_left 1
          · (intro w hSw; go_simp <;> (try with_reducible rfl))
          simp only [Act.put, List.setIfInBounds_toArray, List.set_cons_zero, List.set_cons_succ, List.getElem_toArray, List.getElem_cons_succ, List.getElem_cons_zero]
          refine wpAnyH_take (i := 11) (v := ?_) rfl (by kernel_rfl) (by kernel_rfl) (by kernel_rfl) (fun _ _ _ h => h) (Or.inl ⟨by rfl, ?_⟩) (by assumption) ?_
          rotate_left 1
          · (intro w hSw; go_simp <;> (try with_reducible rfl))
          simp only [Act.put, List.setIfInBounds_toArray, List.set_cons_zero, List.set_cons_succ, List.getElem_toArray, List.getElem_cons_succ, List.getElem_cons_zero]
          refine wpAnyH_ready (rs := [5, 12]) (by kernel_rfl) (by simp) ?_
          refine AllReadyH.cons rfl (fun K hK => ?_) (AllReadyH.cons rfl (fun K hK => ?_) AllReadyH.nil)
          go_simp
          refine hK.out _ _ hHeld (fun _ => ?_)
          clear hK K
          refine wpAnyH_ready (rs := [12]) (by kernel_rfl) (by simp) ?_
          refine AllReadyH.cons rfl (fun K hK => ?_) AllReadyH.nil
          go_simp
          refine hK.out _ _ (by go_simp) (fun _ => ?_)
          clear hK K
          rotate_left 1
          go_simp
          refine hK.out _ _ (by go_simp) (fun _ => ?_)
          clear hK K
          refine wpAnyH_ready (rs := [5]) (by kernel_rfl) (by simp) ?_
          refine AllReadyH.cons rfl (fun K hK => ?_) AllReadyH.nil
          go_simp
          refine hK.out _ _ (by go_simp) (fun _ => ?_)
          clear hK K
          rotate_left 1
          all_goals
            refine wpAnyH_ready (rs := [13]) (by kernel_rfl) (by simp) ?_
            refine AllReadyH.cons rfl (fun K hK => ?_) AllReadyH.nil
            refine row_app_step elFnD (by decide) (by decide) rfl _ _ rfl fs.length cs [.int .i64 ((ns.length : Nat) : Int), .int .i64 ((l.length : Nat) : Int), .slice none 0 0] rfl (by intro u hu; simp at hu; rcases hu with rfl | rfl | rfl <;> rfl) (.slice fa fs.length fc) (by rfl) HOF.out wt.heap.size (by rfl) rfl (by omega) (.inr (.inr rfl)) ?_
            intro g cp w3 hown hgrow hat
            have MO := dst_more (P := ns.length) (L := l.length) TST.out TDS.out HRF.out hgrow hown hat
            have KW := (TK.out.mono (T := FD s (.slice fa fs.length fc)) (fun b _ e => .inl e)).trans MO.2.2.2 (fun _ _ h => h)
            have hBX3 : Blk w.heap.size 25 #[.int .i64 8, .int .i64 o, .int .i64 n, .string z, .slice na ns.length nc, .slice ka ks.length kc, .int .i64 p] w3 := blk_keep TBX.out (Keep.grown (S := fun b => (Value.slice fa fs.length fc).ownBlock = some b) hgrow (fun k e => e)) (fun e => by have := hfl.out _ e; omega)
            have u4 : w3.cell? ⟨w.heap.size, 4, none⟩ = some (.slice na ns.length nc) := (blk_cell hBX3 4).trans rfl
            have u1 : w3.cell? ⟨s, 1, none⟩ = some (.slice fa fs.length fc) := (blk_cell MO.1 1).trans rfl
            have uf : w3.frozen? ⟨s, 1, none⟩ = false := blk_free MO.1 1
            have hz3 := hgrow.size
            have nfd : ∀ b, w.heap.size ≤ b → b < wt.heap.size → ¬ FD s (.slice fa fs.length fc) b := fun b hb hb2 e => by
              rcases e with e | e
              · omega
              · have := hfl.out b e; omega
            have ST4 := hid MO.2.1
            have DS4 := hid MO.2.2.1
            have K4 := hid MO.2.2.2
            have KW4 := hid KW
            have BX4 := hid (blk_keep TBX.out MO.2.2.2 (nfd _ (by omega) (by omega)))
            have SL4 := hid (blk_keep TSL.out MO.2.2.2 (nfd _ (by omega) (blk_lt TSL.out)))
            have OV4 := hid (txR_fd TOV.out TST.out TDS.out.fn MO.2.2.2)
            have G4 := hid (show (Value.slice fa fs.length fc).ownBlock = some g ∨ w.heap.size ≤ g by
              rcases hat with h | h
              · exact .inl h
              · exact .inr (by omega))
            have HW3 := hid hown
            refine hK.out _ _ u4 (fun _ => ?_)
            clear hK K hown hgrow hat MO KW nfd hBX3
            simp only [Act.put, List.setIfInBounds_toArray, List.set_cons_zero, List.set_cons_succ, List.getElem_toArray, List.getElem_cons_succ, List.getElem_cons_zero]
            refine wpAnyH_take (i := 14) (v := ?_) rfl (by kernel_rfl) (by kernel_rfl) (by kernel_rfl) (fun _ _ _ h => h) (Or.inl ⟨by rfl, ?_⟩) (by assumption) ?_
            rotate_left 1
            · (intro w hSw; go_simp <;> (try with_reducible rfl))
            simp only [Act.put, List.setIfInBounds_toArray, List.set_cons_zero, List.set_cons_succ, List.getElem_toArray, List.getElem_cons_succ, List.getElem_cons_zero]
            refine wpAnyH_take (i := 15) (v := ?_) rfl (by kernel_rfl) (by kernel_rfl) (by kernel_rfl) (fun _ _ _ h => h) (Or.inl ⟨by rfl, ?_⟩) (by assumption) ?_
            rotate_left 1
            · (intro w hSw; go_simp <;> (try with_reducible rfl))
            simp only [Act.put, List.setIfInBounds_toArray, List.set_cons_zero, List.set_cons_succ, List.getElem_toArray, List.getElem_cons_succ, List.getElem_cons_zero]
            refine wpAnyH_take (i := 16) (v := ?_) rfl (by kernel_rfl) (by kernel_rfl) (by kernel_rfl) (fun _ _ _ h => h) (Or.inl ⟨by rfl, ?_⟩) (by assumption) ?_
            rotate_left 1
            · (intro w hSw; go_simp <;> (try with_reducible rfl))
            simp only [Act.put, List.setIfInBounds_toArray, List.set_cons_zero, List.set_cons_succ, List.getElem_toArray, List.getElem_cons_succ, List.getElem_cons_zero]
            refine wpAnyH_ready (rs := [17]) (by kernel_rfl) (by simp) ?_
            refine AllReadyH.cons rfl (fun K hK => ?_) AllReadyH.nil
            go_simp
            refine hK.out _ _ (by go_simp) (fun _ => ?_)
            clear hK K hHeld
            refine wpAnyH_done (by kernel_rfl) ?_ _
            generalize w3.setCell ⟨s, 1, none⟩ (.slice (some ⟨g, 0, none⟩) (fs.length + 1) cp) = w4 at *
            have kb5 : w4.cell? ⟨w.heap.size, 5, none⟩ = some (.slice ka ks.length kc) := (blk_cell BX4.out 5).trans rfl
            have NE := hid (nodes_err w4 ST4.out HER.out ka ks.length kc (.slice ua l.length uc) (by omega) ⟨_, _, _, rfl⟩)
            go_wp2_with fail
            refine NE.out.mono ?_
            rintro r5 w5 ⟨rfl, rfl⟩
            obtain ⟨cs4, hown4, _⟩ := DS4.out.fn
            have ST5 := ST4
            have ROW5 := hid (show w5.ownsRow 0 45 3 (.slice (some ⟨g, 0, none⟩) (fs.length + 1) cp) (fs.length + 1) cs4 by have := hown4; rw [List.length_append] at this; exact this)
            have SL5 := SL4
            have KW5 := KW4
            have G5 := G4
            have HL8 := hid (show fs.length < fs.length + 1 by omega)
            have HL9 := hid (show fs.length + 1 ≤ 1000000 by omega)
            clear hown4 NE
            obtain ⟨cur8, hc8⟩ := row_lt ROW5.out (g := g) rfl
            have n8s : g ≠ s := fun e => by
              rw [e] at hc8
              exact blkD_not ST5.out (by decide) _ hc8
            have n8b : g ≠ w.heap.size + 1 := fun e => by
              rw [e] at hc8
              exact blkD_not SL5.out (by decide) _ hc8
            have n8b' : w.heap.size + 1 ≠ g := Ne.symm n8b
            obtain ⟨y8, hy8⟩ : ∃ y, (cs4)[fs.length * 3 + 2]? = some y := ⟨_, List.getElem?_eq_getElem (by have := ROW5.out.1; have := HL8.out; omega)⟩
            have xs1 : w5.cell? ⟨s, 1, none⟩ = some (.slice (some ⟨g, 0, none⟩) (fs.length + 1) cp) := (blk_cell ST5.out 1).trans rfl
            have xc : w5.cell? ⟨g, fs.length * 3 + 2, none⟩ = some y8 := row_cell ROW5.out hy8
            have xf : w5.frozen? ⟨g, fs.length * 3 + 2, none⟩ = false := row_free ROW5.out _
            have hlI : (fs.length : Int) < (((fs.length + 1) : Nat) : Int) := by have := HL8.out; omega
            obtain ⟨z40, z41, z42, z43, z44, z45, z46⟩ := box_cells (show Box (w.heap.size + 1) 0 0 0 ⟨#[]⟩ (.slice none 0 0) (.slice none 0 0) 0 w5 from SL5.out)
            have g40 : w5.frozen? ⟨w.heap.size + 1, 0, none⟩ = false := blk_free SL5.out 0
            have g41 : w5.frozen? ⟨w.heap.size + 1, 1, none⟩ = false := blk_free SL5.out 1
            have g42 : w5.frozen? ⟨w.heap.size + 1, 2, none⟩ = false := blk_free SL5.out 2
            have g43 : w5.frozen? ⟨w.heap.size + 1, 3, none⟩ = false := blk_free SL5.out 3
            have g44 : w5.frozen? ⟨w.heap.size + 1, 4, none⟩ = false := blk_free SL5.out 4
            have g45 : w5.frozen? ⟨w.heap.size + 1, 5, none⟩ = false := blk_free SL5.out 5
            have g46 : w5.frozen? ⟨w.heap.size + 1, 6, none⟩ = false := blk_free SL5.out 6
            clear hy8 hc8
            go_wp2_with fail
            have KX := Keep.set (S := fun b => b = g) rfl w5 (fs.length * 3 + 2) (.slice none 0 0)
            have SL6 := blk_keep SL5.out KX n8b'
            have P := putD7 SL6 (.int .i64 20) (.int .i64 0) (.int .i64 (fs.length : Int)) (.string ⟨#[]⟩) (.slice none 0 0) (.slice none 0 0) (.int .i64 0)
            refine bodyPost_ret (ret_ndD rfl rfl P.1) rfl ?_
            rw [HRB.out]
            exact ⟨_, _, _, _, _, _, _, _, _, _, _, rfl, (BadD.body (n := fs.length) (j := fs.length * 3 + 2) (u := .slice none 0 0) KW5.out HER.out ST5.out (by have := HL8.out; omega) HL9.out ROW5.out G5.out).past P.2 SL6 (by omega)⟩
        · have hje : j = ns.length := by omega
          subst hje
          go_wp2_with fail
          refine LE.out.mono ?_
          rintro e2 wt ⟨rfl, rfl⟩
          clear LE xb4 xb5 xb6 xs3
          obtain ⟨cs, hownF, hrowF, hnkF⟩ := TDS.out.fn
          have HOF := hid hownF
          have HRF := hid hrowF
          have tb4 : wt.cell? ⟨w.heap.size, 4, none⟩ = some (.slice na ns.length nc) := (blk_cell TBX.out 4).trans rfl
          have ts1 : wt.cell? ⟨s, 1, none⟩ = some (.slice fa fs.length fc) := (blk_cell TST.out 1).trans rfl
          have hswt : s < wt.heap.size := blk_lt TST.out
          have hbwt : w.heap.size < wt.heap.size := blk_lt TBX.out
          have hsb : s ≠ w.heap.size := by omega
          clear hownF hrowF hnkF
          go_wp2_with fail
          refine wp_region_held_drew (S := fun a => a.cell? ⟨w.heap.size, 4, none⟩ = some (.slice na ns.length nc)) (by kernel_rfl) tb4 (fun hHeld => ?_)
          refine wpAnyH_take (i := 0) (v := ?_) rfl (by kernel_rfl) (by kernel_rfl) (by kernel_rfl) (fun _ _ _ h => h) (Or.inl ⟨by rfl, ?_⟩) (by assumption) ?_
          rotate_left 1
          · (intro w hSw; go_simp <;> (try with_reducible rfl))
          simp only [Act.put, List.setIfInBounds_toArray, List.set_cons_zero, List.set_cons_succ, List.getElem_toArray, List.getElem_cons_succ, List.getElem_cons_zero]
          refine wpAnyH_take (i := 1) (v := ?_) rfl (by kernel_rfl) (by kernel_rfl) (by kernel_rfl) (fun _ _ _ h => h) (Or.inl ⟨by rfl, ?_⟩) (by assumption) ?_
          rotate_left 1
          · (intro w hSw; go_simp <;> (try with_reducible rfl))
          simp only [Act.put, List.setIfInBounds_toArray, List.set_cons_zero, List.set_cons_succ, List.getElem_toArray, List.getElem_cons_succ, List.getElem_cons_zero]
          refine wpAnyH_take (i := 2) (v := ?_) rfl (by kernel_rfl) (by kernel_rfl) (by kernel_rfl) (fun _ _ _ h => h) (Or.inl ⟨by rfl, ?_⟩) (by assumption) ?_
          rotate_left 1
          · (intro w hSw; go_simp <;> (try with_reducible rfl))
          simp only [Act.put, List.setIfInBounds_toArray, List.set_cons_zero, List.set_cons_succ, List.getElem_toArray, List.getElem_cons_succ, List.getElem_cons_zero]
          refine wpAnyH_take (i := 3) (v := ?_) rfl (by kernel_rfl) (by kernel_rfl) (by kernel_rfl) (fun _ _ _ h => h) (Or.inl ⟨by rfl, ?_⟩) (by assumption) ?_
          rotate_left 1
          · (intro w hSw; go_simp <;> (try with_reducible rfl))
          simp only [Act.put, List.setIfInBounds_toArray, List.set_cons_zero, List.set_cons_succ, List.getElem_toArray, List.getElem_cons_succ, List.getElem_cons_zero]
          refine wpAnyH_take (i := 4) (v := ?_) rfl (by kernel_rfl) (by kernel_rfl) (by kernel_rfl) (fun _ _ _ h => h) (Or.inl ⟨by rfl, ?_⟩) (by assumption) ?_
          rotate_left 1
          · (intro w hSw; go_simp <;> (try with_reducible rfl))
          simp only [Act.put, List.setIfInBounds_toArray, List.set_cons_zero, List.set_cons_succ, List.getElem_toArray, List.getElem_cons_succ, List.getElem_cons_zero]
          refine wpAnyH_take (i := 6) (v := ?_) rfl (by kernel_rfl) (by kernel_rfl) (by kernel_rfl) (fun _ _ _ h => h) (Or.inl ⟨by rfl, ?_⟩) (by assumption) ?_
          rotate_left 1
          · (intro w hSw; go_simp <;> (try with_reducible rfl))
          simp only [Act.put, List.setIfInBounds_toArray, List.set_cons_zero, List.set_cons_succ, List.getElem_toArray, List.getElem_cons_succ, List.getElem_cons_zero]
          refine wpAnyH_take (i := 7) (v := ?_) rfl (by kernel_rfl) (by kernel_rfl) (by kernel_rfl) (fun _ _ _ h => h) (Or.inl ⟨by rfl, ?_⟩) (by assumption) ?_
          rotate_left 1
          · (intro w hSw; go_simp <;> (try with_reducible rfl))
          simp only [Act.put, List.setIfInBounds_toArray, List.set_cons_zero, List.set_cons_succ, List.getElem_toArray, List.getElem_cons_succ, List.getElem_cons_zero]
          refine wpAnyH_take (i := 8) (v := ?_) rfl (by kernel_rfl) (by kernel_rfl) (by kernel_rfl) (fun _ _ _ h => h) (Or.inl ⟨by rfl, ?_⟩) (by assumption) ?_
          rotate_left 1
          · (intro w hSw; go_simp <;> (try with_reducible rfl))
          simp only [Act.put, List.setIfInBounds_toArray, List.set_cons_zero, List.set_cons_succ, List.getElem_toArray, List.getElem_cons_succ, List.getElem_cons_zero]
          refine wpAnyH_take (i := 9) (v := ?_) rfl (by kernel_rfl) (by kernel_rfl) (by kernel_rfl) (fun _ _ _ h => h) (Or.inl ⟨by rfl, ?_⟩) (by assumption) ?_
          rotate_left 1
          · (intro w hSw; go_simp <;> (try with_reducible rfl))
          simp only [Act.put, List.setIfInBounds_toArray, List.set_cons_zero, List.set_cons_succ, List.getElem_toArray, List.getElem_cons_succ, List.getElem_cons_zero]
          refine wpAnyH_take (i := 10) (v := ?_) rfl (by kernel_rfl) (by kernel_rfl) (by kernel_rfl) (fun _ _ _ h => h) (Or.inl ⟨by rfl, ?_⟩) (by assumption) ?_
          rotate_left 1
          · (intro w hSw; go_simp <;> (try with_reducible rfl))
          simp only [Act.put, List.setIfInBounds_toArray, List.set_cons_zero, List.set_cons_succ, List.getElem_toArray, List.getElem_cons_succ, List.getElem_cons_zero]
          refine wpAnyH_take (i := 11) (v := ?_) rfl (by kernel_rfl) (by kernel_rfl) (by kernel_rfl) (fun _ _ _ h => h) (Or.inl ⟨by rfl, ?_⟩) (by assumption) ?_
          rotate_left 1
          · (intro w hSw; go_simp <;> (try with_reducible rfl))
          simp only [Act.put, List.setIfInBounds_toArray, List.set_cons_zero, List.set_cons_succ, List.getElem_toArray, List.getElem_cons_succ, List.getElem_cons_zero]
          refine wpAnyH_ready (rs := [5, 12]) (by kernel_rfl) (by simp) ?_
          refine AllReadyH.cons rfl (fun K hK => ?_) (AllReadyH.cons rfl (fun K hK => ?_) AllReadyH.nil)
          go_simp
          refine hK.out _ _ hHeld (fun _ => ?_)
          clear hK K
          refine wpAnyH_ready (rs := [12]) (by kernel_rfl) (by simp) ?_
          refine AllReadyH.cons rfl (fun K hK => ?_) AllReadyH.nil
          go_simp
          refine hK.out _ _ (by go_simp) (fun _ => ?_)
          clear hK K
          rotate_left 1
          go_simp
          refine hK.out _ _ (by go_simp) (fun _ => ?_)
          clear hK K
          refine wpAnyH_ready (rs := [5]) (by kernel_rfl) (by simp) ?_
          refine AllReadyH.cons rfl (fun K hK => ?_) AllReadyH.nil
          go_simp
          refine hK.out _ _ (by go_simp) (fun _ => ?_)
          clear hK K
          rotate_left 1
          all_goals
            refine wpAnyH_ready (rs := [13]) (by kernel_rfl) (by simp) ?_
            refine AllReadyH.cons rfl (fun K hK => ?_) AllReadyH.nil
            refine row_app_step elFnD (by decide) (by decide) rfl _ _ rfl fs.length cs [.int .i64 ((ns.length : Nat) : Int), .int .i64 ((l.length : Nat) : Int), .slice none 0 0] rfl (by intro u hu; simp at hu; rcases hu with rfl | rfl | rfl <;> rfl) (.slice fa fs.length fc) (by rfl) HOF.out wt.heap.size (by rfl) rfl (by omega) (.inr (.inr rfl)) ?_
            intro g cp w3 hown hgrow hat
            have MO := dst_more (P := ns.length) (L := l.length) TST.out TDS.out HRF.out hgrow hown hat
            have KW := (TK.out.mono (T := FD s (.slice fa fs.length fc)) (fun b _ e => .inl e)).trans MO.2.2.2 (fun _ _ h => h)
            have hBX3 : Blk w.heap.size 25 #[.int .i64 8, .int .i64 o, .int .i64 n, .string z, .slice na ns.length nc, .slice ka ks.length kc, .int .i64 p] w3 := blk_keep TBX.out (Keep.grown (S := fun b => (Value.slice fa fs.length fc).ownBlock = some b) hgrow (fun k e => e)) (fun e => by have := hfl.out _ e; omega)
            have u4 : w3.cell? ⟨w.heap.size, 4, none⟩ = some (.slice na ns.length nc) := (blk_cell hBX3 4).trans rfl
            have u1 : w3.cell? ⟨s, 1, none⟩ = some (.slice fa fs.length fc) := (blk_cell MO.1 1).trans rfl
            have uf : w3.frozen? ⟨s, 1, none⟩ = false := blk_free MO.1 1
            have hz3 := hgrow.size
            have nfd : ∀ b, w.heap.size ≤ b → b < wt.heap.size → ¬ FD s (.slice fa fs.length fc) b := fun b hb hb2 e => by
              rcases e with e | e
              · omega
              · have := hfl.out b e; omega
            have ST4 := hid MO.2.1
            have DS4 := hid MO.2.2.1
            have K4 := hid MO.2.2.2
            have KW4 := hid KW
            have BX4 := hid (blk_keep TBX.out MO.2.2.2 (nfd _ (by omega) (by omega)))
            have SL4 := hid (blk_keep TSL.out MO.2.2.2 (nfd _ (by omega) (blk_lt TSL.out)))
            have OV4 := hid (txR_fd TOV.out TST.out TDS.out.fn MO.2.2.2)
            have G4 := hid (show (Value.slice fa fs.length fc).ownBlock = some g ∨ w.heap.size ≤ g by
              rcases hat with h | h
              · exact .inl h
              · exact .inr (by omega))
            have HW3 := hid hown
            refine hK.out _ _ u4 (fun _ => ?_)
            clear hK K hown hgrow hat MO KW nfd hBX3
            simp only [Act.put, List.setIfInBounds_toArray, List.set_cons_zero, List.set_cons_succ, List.getElem_toArray, List.getElem_cons_succ, List.getElem_cons_zero]
            refine wpAnyH_take (i := 14) (v := ?_) rfl (by kernel_rfl) (by kernel_rfl) (by kernel_rfl) (fun _ _ _ h => h) (Or.inl ⟨by rfl, ?_⟩) (by assumption) ?_
            rotate_left 1
            · (intro w hSw; go_simp <;> (try with_reducible rfl))
            simp only [Act.put, List.setIfInBounds_toArray, List.set_cons_zero, List.set_cons_succ, List.getElem_toArray, List.getElem_cons_succ, List.getElem_cons_zero]
            refine wpAnyH_take (i := 15) (v := ?_) rfl (by kernel_rfl) (by kernel_rfl) (by kernel_rfl) (fun _ _ _ h => h) (Or.inl ⟨by rfl, ?_⟩) (by assumption) ?_
            rotate_left 1
            · (intro w hSw; go_simp <;> (try with_reducible rfl))
            simp only [Act.put, List.setIfInBounds_toArray, List.set_cons_zero, List.set_cons_succ, List.getElem_toArray, List.getElem_cons_succ, List.getElem_cons_zero]
            refine wpAnyH_take (i := 16) (v := ?_) rfl (by kernel_rfl) (by kernel_rfl) (by kernel_rfl) (fun _ _ _ h => h) (Or.inl ⟨by rfl, ?_⟩) (by assumption) ?_
            rotate_left 1
            · (intro w hSw; go_simp <;> (try with_reducible rfl))
            simp only [Act.put, List.setIfInBounds_toArray, List.set_cons_zero, List.set_cons_succ, List.getElem_toArray, List.getElem_cons_succ, List.getElem_cons_zero]
            refine wpAnyH_ready (rs := [17]) (by kernel_rfl) (by simp) ?_
            refine AllReadyH.cons rfl (fun K hK => ?_) AllReadyH.nil
            go_simp
            refine hK.out _ _ (by go_simp) (fun _ => ?_)
            clear hK K hHeld
            refine wpAnyH_done (by kernel_rfl) ?_ _
            generalize w3.setCell ⟨s, 1, none⟩ (.slice (some ⟨g, 0, none⟩) (fs.length + 1) cp) = w4 at *
            have kb5 : w4.cell? ⟨w.heap.size, 5, none⟩ = some (.slice ka ks.length kc) := (blk_cell BX4.out 5).trans rfl
            have NE := hid (nodes_err w4 ST4.out HER.out ka ks.length kc (.slice ua l.length uc) (by omega) ⟨_, _, _, rfl⟩)
            go_wp2_with fail
            refine NE.out.mono ?_
            rintro r5 w5 ⟨rfl, rfl⟩
            obtain ⟨cs4, hown4, _⟩ := DS4.out.fn
            have ST5 := ST4
            have ROW5 := hid (show w5.ownsRow 0 45 3 (.slice (some ⟨g, 0, none⟩) (fs.length + 1) cp) (fs.length + 1) cs4 by have := hown4; rw [List.length_append] at this; exact this)
            have SL5 := SL4
            have KW5 := KW4
            have G5 := G4
            have HL8 := hid (show fs.length < fs.length + 1 by omega)
            have HL9 := hid (show fs.length + 1 ≤ 1000000 by omega)
            clear hown4 NE
            obtain ⟨cur8, hc8⟩ := row_lt ROW5.out (g := g) rfl
            have n8s : g ≠ s := fun e => by
              rw [e] at hc8
              exact blkD_not ST5.out (by decide) _ hc8
            have n8b : g ≠ w.heap.size + 1 := fun e => by
              rw [e] at hc8
              exact blkD_not SL5.out (by decide) _ hc8
            have n8b' : w.heap.size + 1 ≠ g := Ne.symm n8b
            obtain ⟨y8, hy8⟩ : ∃ y, (cs4)[fs.length * 3 + 2]? = some y := ⟨_, List.getElem?_eq_getElem (by have := ROW5.out.1; have := HL8.out; omega)⟩
            have xs1 : w5.cell? ⟨s, 1, none⟩ = some (.slice (some ⟨g, 0, none⟩) (fs.length + 1) cp) := (blk_cell ST5.out 1).trans rfl
            have xc : w5.cell? ⟨g, fs.length * 3 + 2, none⟩ = some y8 := row_cell ROW5.out hy8
            have xf : w5.frozen? ⟨g, fs.length * 3 + 2, none⟩ = false := row_free ROW5.out _
            have hlI : (fs.length : Int) < (((fs.length + 1) : Nat) : Int) := by have := HL8.out; omega
            obtain ⟨z40, z41, z42, z43, z44, z45, z46⟩ := box_cells (show Box (w.heap.size + 1) 0 0 0 ⟨#[]⟩ (.slice none 0 0) (.slice none 0 0) 0 w5 from SL5.out)
            have g40 : w5.frozen? ⟨w.heap.size + 1, 0, none⟩ = false := blk_free SL5.out 0
            have g41 : w5.frozen? ⟨w.heap.size + 1, 1, none⟩ = false := blk_free SL5.out 1
            have g42 : w5.frozen? ⟨w.heap.size + 1, 2, none⟩ = false := blk_free SL5.out 2
            have g43 : w5.frozen? ⟨w.heap.size + 1, 3, none⟩ = false := blk_free SL5.out 3
            have g44 : w5.frozen? ⟨w.heap.size + 1, 4, none⟩ = false := blk_free SL5.out 4
            have g45 : w5.frozen? ⟨w.heap.size + 1, 5, none⟩ = false := blk_free SL5.out 5
            have g46 : w5.frozen? ⟨w.heap.size + 1, 6, none⟩ = false := blk_free SL5.out 6
            clear hy8 hc8
            go_wp2_with fail
            have KX := Keep.set (S := fun b => b = g) rfl w5 (fs.length * 3 + 2) (.slice none 0 0)
            have SL6 := blk_keep SL5.out KX n8b'
            have P := putD7 SL6 (.int .i64 20) (.int .i64 0) (.int .i64 (fs.length : Int)) (.string ⟨#[]⟩) (.slice none 0 0) (.slice none 0 0) (.int .i64 0)
            refine bodyPost_ret (ret_ndD rfl rfl P.1) rfl ?_
            rw [HRB.out]
            exact ⟨_, _, _, _, _, _, _, _, _, _, _, rfl, (BadD.body (n := fs.length) (j := fs.length * 3 + 2) (u := .slice none 0 0) KW5.out HER.out ST5.out (by have := HL8.out; omega) HL9.out ROW5.out G5.out).past P.2 SL6 (by omega)⟩


end Go.Proofs.YtenpldenhgpneaaDoor
