/- Pressing, and a property that is let go. -/
import Derived.Test.YtimhgbcanmgajaaGreatJoint2
import Derived.Test.YtimhgbcanmgajaaGreatJoint9
namespace Go.Proofs.YtimhgbcanmgajaaGreat
set_option linter.unusedSimpArgs false
set_option maxRecDepth 100000
open Go.RowKit

set_option maxHeartbeats 2000000 in
theorem pressed_calls {p m : Nat} {v : Value} {L : Pls} (w : World) (h : PlAt p v m L w) (hf : L.length ≤ 1000000) :
    Calls Tryz.prog 171 #[.pointer (some ⟨p, 0, none⟩)] w fun e w' => ∃ q u k, e = .returned (.pointer (some ⟨q, 0, none⟩)) ∧ PlAt q u k ((live L).map some) w' ∧ Below w.heap.size w w' ∧ ∀ b, FtP q u k b → w.heap.size ≤ b := by
  have H := hid h
  have hll := live_len L
  obtain ⟨ao, cap, rfl⟩ := row_shape h.row
  have hpm := h.lt (.inl rfl)
  clear h
  go_enter Tryz.func171, Tryz.ntmps171
  go_wp2_with fail
  refine (dccount_calls _ H.out).mono ?_
  rintro e1 w1 ⟨rfl, rfl⟩
  go_wp2_with fail
  refine (noPlaces_calls (live L).length (by omega) _).mono ?_
  rintro e2 w2 ⟨q, u, k, rfl, h1, h2, h3⟩
  have Q0 := hid h1
  have B0 := hid h2
  have H2 := hid (H.out.on h2)
  obtain ⟨d0, d1⟩ := H2.out.cells
  have hqs := h1.lt (.inl rfl)
  have hq0 := h3 q (.inl rfl)
  have FT := hid h3
  clear h1 h2 h3
  go_wp2_with fail
  go_loopw [14] (fun i wr => ∃ (j : Nat) (u' : Value), j ≤ L.length ∧ i = .int .i64 j ∧ Hid (PlAt q u' k ((live (L.take j)).map some) wr) ∧ Hid (Below w1.heap.size w1 wr) ∧ Hid (∀ b, FtP q u' k b → w1.heap.size ≤ b)) (fun i _ => L.length - (intOf i).toNat)
  case atStart => exact ⟨0, u, Nat.zero_le _, rfl, Q0, B0, FT⟩
  case round =>
    obtain ⟨j, u', hj, rfl, hQ, hB, hF⟩ := hrel
    by_cases hjl : j < L.length
    · have hL := H.out.on hB.out
      obtain ⟨o, ho⟩ : ∃ o, L[j]? = some o := ⟨L[j], List.getElem?_eq_getElem hjl⟩
      obtain ⟨g, cap', he, hgs, hc, _⟩ := hL.place ho
      injection he with he1 he2 he3
      subst he1 he3
      have hLT := hid (live_take ho)
      cases o with
      | none =>
        have c0 : wr.cell? ⟨g, j * 5, none⟩ = some (.bool false) := hc 0 (by omega)
        have c1 : wr.cell? ⟨g, j * 5 + 1, none⟩ = some (.string ⟨#[]⟩) := hc 1 (by omega)
        have c2 : wr.cell? ⟨g, j * 5 + 2, none⟩ = some (.int .i64 0) := hc 2 (by omega)
        have c3 : wr.cell? ⟨g, j * 5 + 3, none⟩ = some (.int .i64 0) := hc 3 (by omega)
        have c4 : wr.cell? ⟨g, j * 5 + 4, none⟩ = some (.string ⟨#[]⟩) := hc 4 (by omega)
        clear hc hL
        go_wp2_with fail
        have A := (Below.refl wr.heap.size wr).alloc (Nat.le_refl _) (Obj.cells #[.bool false, .string ⟨#[]⟩, .int .i64 0, .int .i64 0, .string ⟨#[]⟩] 272)
        refine ⟨⟨j + 1, u', by omega, by simp, ?_, hid (below_on hB.out A), hF⟩, by simp [intOf]; omega⟩
        rw [hLT.out, show live [none] = [] from rfl, List.append_nil]
        exact hid (hQ.out.on A)
      | some e =>
        have c0 : wr.cell? ⟨g, j * 5, none⟩ = some (.bool true) := hc 0 (by omega)
        have c1 : wr.cell? ⟨g, j * 5 + 1, none⟩ = some (.string e.1) := hc 1 (by omega)
        have c2 : wr.cell? ⟨g, j * 5 + 2, none⟩ = some (.int .i64 e.2.1) := hc 2 (by omega)
        have c3 : wr.cell? ⟨g, j * 5 + 3, none⟩ = some (.int .i64 e.2.2.1) := hc 3 (by omega)
        have c4 : wr.cell? ⟨g, j * 5 + 4, none⟩ = some (.string e.2.2.2) := hc 4 (by omega)
        have A := (Below.refl wr.heap.size wr).alloc (Nat.le_refl _) (Obj.cells #[.bool true, .string e.1, .int .i64 e.2.1, .int .i64 e.2.2.1, .string e.2.2.2] 272)
        have HB2 := hid (below_on hB.out A)
        have HSZ := hid HB2.out.size
        have hem : e ∈ live L := List.mem_filterMap.2 ⟨some e, List.mem_of_getElem? ho, rfl⟩
        have hl2 : (live (L.take j)).length ≤ 1000000 := by have := live_len (L.take j); rw [List.length_take] at this; omega
        have HS := hid (set_new _ (hQ.out.on A) e.1 (H.out.once.2 e hem) e.2 (posL_map (live_no H.out.once.1 ho)) (by rw [List.length_map]; exact hl2))
        unfold vlV at HS
        clear hc hL A
        go_wp2_with fail
        refine HS.out.mono ?_
        rintro e3 w3 ⟨rfl, u3, k1, k2, k3⟩
        have hz := hB.out.size
        have K1 := hid k1
        have B3 := hid (HB2.out.trans ((k2.below HSZ.out (fun b hb => hF.out b hb))))
        have F3 := hid (show ∀ b, FtP q u3 k b → w1.heap.size ≤ b from fun b hb => by
          rcases k3 b hb with h | h
          · exact hF.out b h
          · exact Nat.le_trans HSZ.out h)
        clear k1 k2 k3 HS hB hF hQ
        go_wp2_with fail
        refine ⟨⟨j + 1, u3, by omega, by simp, ?_, B3, F3⟩, by simp [intOf]; omega⟩
        rw [hLT.out, show live [some e] = [e] from rfl, List.map_append]
        exact K1
    · have hje : j = L.length := by omega
      subst hje
      rw [List.take_length] at hQ
      go_wp2_with fail
      go_ret
      exact ⟨q, u', k, rfl, hQ.out, hB.out, hF.out⟩

/-- a hole, in memory -/
theorem PlAt.hole {p m i g cap : Nat} {L : Pls} {s : ByteArray} {w w1 : World} (h : PlAt p (.slice (some ⟨g, 0, none⟩) L.length cap) m L w) (hp : posL L s = some i) (hM : MapN m (delF (posF L) s) (if (posF L s).isSome then (live L).length - 1 else (live L).length) w1) (g1 : w.grownBy w1 (some m)) :
    PlAt p (.slice (some ⟨g, 0, none⟩) L.length cap) m (L.set i none) (((((w1.setCell ⟨g, i * 5, none⟩ (.bool false)).setCell ⟨g, i * 5 + 1, none⟩ (.string ⟨#[]⟩)).setCell ⟨g, i * 5 + 2, none⟩ (.int .i64 0)).setCell ⟨g, i * 5 + 3, none⟩ (.int .i64 0)).setCell ⟨g, i * 5 + 4, none⟩ (.string ⟨#[]⟩)) ∧ Keep (FtP p (.slice (some ⟨g, 0, none⟩) L.length cap) m) w (((((w1.setCell ⟨g, i * 5, none⟩ (.bool false)).setCell ⟨g, i * 5 + 1, none⟩ (.string ⟨#[]⟩)).setCell ⟨g, i * 5 + 2, none⟩ (.int .i64 0)).setCell ⟨g, i * 5 + 3, none⟩ (.int .i64 0)).setCell ⟨g, i * 5 + 4, none⟩ (.string ⟨#[]⟩)) := by
  obtain ⟨h1, h2⟩ := posL_drop h.once.1 hp
  obtain ⟨n1, n2⟩ := h.ne
  obtain ⟨n3, n4⟩ := n2 g rfl
  have hil := posL_lt hp
  have k0 : Keep (fun b => b = m) w w1 := Keep.grown g1 (fun k e => by injection e with e; exact e.symm)
  have ks : ∀ (W : World) (j : Nat) (u : Value), Keep (fun b => b = g) W (W.setCell ⟨g, j, none⟩ u) := fun W j u => Keep.set (S := fun b => b = g) rfl W j u
  have K : Keep (fun b => b = g) w1 (((((w1.setCell ⟨g, i * 5, none⟩ (.bool false)).setCell ⟨g, i * 5 + 1, none⟩ (.string ⟨#[]⟩)).setCell ⟨g, i * 5 + 2, none⟩ (.int .i64 0)).setCell ⟨g, i * 5 + 3, none⟩ (.int .i64 0)).setCell ⟨g, i * 5 + 4, none⟩ (.string ⟨#[]⟩)) := ((((ks _ _ _).trans (ks _ _ _) (fun _ _ h => h)).trans (ks _ _ _) (fun _ _ h => h)).trans (ks _ _ _) (fun _ _ h => h)).trans (ks _ _ _) (fun _ _ h => h)
  have hg1 : w1.ownsRow 0 272 5 (.slice (some ⟨g, 0, none⟩) L.length cap) L.length (cellsP L) := row_keep h.row (fun b hb => by
    simp [Value.ownBlock] at hb
    subst hb
    exact k0.block g (h.lt (.inr (.inr rfl))) n4)
  have hmw : m < w1.heap.size := mapN_lt hM
  refine ⟨⟨blk_keep (blk_keep h.blk k0 (fun e => n1 e.symm)) K (fun e => n3 e.symm), ?_, ?_, ?_⟩, ?_⟩
  · have r := row_set (row_set (row_set (row_set (row_set hg1 (i * 5) (.bool false)) (i * 5 + 1) (.string ⟨#[]⟩)) (i * 5 + 2) (.int .i64 0)) (i * 5 + 3) (.int .i64 0)) (i * 5 + 4) (.string ⟨#[]⟩)
    rw [cellsP_set none hil rfl] at r
    rw [List.length_set]
    exact r
  · have hl := live_drop_len h.once.1 hp
    have := mapN_keep hM (K.block m hmw (fun e => n4 e.symm))
    rw [show (posF L s).isSome = true from by unfold posF; rw [hp]; rfl, if_pos rfl, show (live L).length - 1 = (live (L.set i none)).length by omega] at this
    refine mapN_ext this (fun y => ?_)
    unfold delF posF
    rw [h2]
    by_cases hy : y = s <;> simp [hy]
  · rw [h1]; exact ok_drop h.once
  · exact (k0.mono (fun b _ e => .inr (.inl e))).trans (K.mono (T := (FtP p (.slice (some ⟨g, 0, none⟩) L.length cap) m)) (fun b _ e => .inr (.inr (by rw [e]; rfl)))) (fun _ _ h => h)
theorem PlAt.hole1 {p m i g cap : Nat} {L : Pls} {e : Ent} {w w1 : World} (h : PlAt p (.slice (some ⟨g, 0, none⟩) L.length cap) m L w) (hu : L[i]? = some (some e)) (g1 : w.grownBy w1 (some m)) :
    w1.cell? ⟨p, 0, none⟩ = some (.slice (some ⟨g, 0, none⟩) L.length cap) ∧ w1.cell? ⟨g, i * 5, none⟩ = some (.bool true) ∧ w1.cell? ⟨g, i * 5 + 1, none⟩ = some (.string e.1) ∧ w1.cell? ⟨g, i * 5 + 2, none⟩ = some (.int .i64 e.2.1) ∧ w1.cell? ⟨g, i * 5 + 3, none⟩ = some (.int .i64 e.2.2.1) ∧ w1.cell? ⟨g, i * 5 + 4, none⟩ = some (.string e.2.2.2) ∧
      w1.frozen? ⟨g, i * 5, none⟩ = false ∧ w1.frozen? ⟨g, i * 5 + 1, none⟩ = false ∧ w1.frozen? ⟨g, i * 5 + 2, none⟩ = false ∧ w1.frozen? ⟨g, i * 5 + 3, none⟩ = false ∧ w1.frozen? ⟨g, i * 5 + 4, none⟩ = false := by
  obtain ⟨n1, n2⟩ := h.ne
  obtain ⟨n3, n4⟩ := n2 g rfl
  obtain ⟨g', cap', he, hgs, hc, fz⟩ := h.place hu
  injection he with he1 he2 he3
  injection he1 with he1
  injection he1 with he1
  subst he1
  have hp := h.lt (b := p) (.inl rfl)
  have cp : ∀ j, w1.cell? ⟨p, j, none⟩ = w.cell? ⟨p, j, none⟩ := fun j => World.cell?_of_block (g1.block p hp (by simpa using fun e => n1 e.symm))
  have cg : ∀ j, w1.cell? ⟨g, j, none⟩ = w.cell? ⟨g, j, none⟩ := fun j => World.cell?_of_block (g1.block g hgs (by simpa using n4))
  have fg : ∀ j, w1.frozen? ⟨g, j, none⟩ = false := fun j => (World.frozen?_of_block (g1.block g hgs (by simpa using n4))).trans (fz j)
  refine ⟨(cp 0).trans h.cells.1, (cg _).trans (hc 0 (by omega)), (cg _).trans (hc 1 (by omega)), (cg _).trans (hc 2 (by omega)), (cg _).trans (hc 3 (by omega)), (cg _).trans (hc 4 (by omega)), fg _, fg _, fg _, fg _, fg _⟩
/-- places are laid over others -/
theorem PlAt.over {p q m k : Nat} {v u : Value} {L M : Pls} {w : World} (hq : PlAt q u k M w) (h : PlAt p v m L w) (hd : ∀ b, FtP q u k b → ¬ FtP p v m b) :
    PlAt p u k M ((w.setCell ⟨p, 0, none⟩ u).setCell ⟨p, 1, none⟩ (.map (some k))) ∧ Keep (fun b => b = p) w ((w.setCell ⟨p, 0, none⟩ u).setCell ⟨p, 1, none⟩ (.map (some k))) := by
  have K := (Keep.set (S := fun b => b = p) rfl w 0 u).trans (Keep.set (S := fun b => b = p) rfl (w.setCell ⟨p, 0, none⟩ u) 1 (.map (some k))) (fun _ _ h => h)
  refine ⟨⟨blk_set (blk_set h.blk 0 u) 1 (.map (some k)), ?_, ?_, hq.once⟩, K⟩
  · exact row_keep hq.row (fun g hg => K.block g (hq.lt (.inr (.inr hg))) (fun e => hd g (.inr (.inr hg)) (.inl e)))
  · exact mapN_keep hq.map (K.block k (hq.lt (.inr (.inl rfl))) (fun e => hd k (.inr (.inl rfl)) (.inl e)))

theorem drop_none {p m : Nat} {v : Value} {L : Pls} (w : World) (h : PlAt p v m L w) (s : ByteArray) (hs : s.size ≤ 1000000) (hp : posL L s = none) :
    Calls Tryz.prog 154 #[.pointer (some ⟨p, 0, none⟩), .string s] w fun e w' => e = .returned (.bool false) ∧ w' = w := by
  obtain ⟨d0, d1⟩ := h.cells
  have hsl : s.size ≤ maxLen := by unfold maxLen; omega
  have hF : posF L s = none := by unfold posF; rw [hp]; rfl
  have HM := hid h.map
  clear h
  go_enter Tryz.func154, Tryz.ntmps154
  go_wp2_with (first | (at_lookup; refine wp_mlook rfl _ _ rfl m _ _ s rfl HM.out rfl hsl ?_; rw [hF]) | fail)
  go_ret
  exact ⟨rfl, rfl⟩

set_option maxHeartbeats 2000000 in
theorem drop_has {p m i : Nat} {v : Value} {L : Pls} (w : World) (h : PlAt p v m L w) (s : ByteArray) (hs : s.size ≤ 1000000) (hp : posL L s = some i) (hf : L.length ≤ 1000000) :
    Calls Tryz.prog 154 #[.pointer (some ⟨p, 0, none⟩), .string s] w fun e w' => e = .returned (.bool true) ∧
      ∃ v' m' L', PlAt p v' m' L' w' ∧ live L' = dropL (live L) s ∧ L'.length ≤ L.length ∧ Keep (FtP p v m) w w' ∧ ∀ b, FtP p v' m' b → FtP p v m b ∨ w.heap.size ≤ b := by
  obtain ⟨u, hu, hlk⟩ := posL_at hp
  have hil := posL_lt hp
  obtain ⟨g, cap, rfl, hgs, hc, fz⟩ := h.place hu
  obtain ⟨d0, d1⟩ := h.cells
  have hsl : s.size ≤ maxLen := by unfold maxLen; omega
  have hpm := h.lt (.inl rfl)
  have hF : posF L s = some (i : Int) := by unfold posF; rw [hp]; rfl
  have HM := hid h.map
  have HP := hid h
  clear h hlk
  go_enter Tryz.func154, Tryz.ntmps154
  go_wp2_with (first | (at_lookup; refine wp_mlook rfl _ _ rfl m _ _ s rfl HM.out rfl hsl ?_; rw [hF]) | fail | (at_delete; refine wp_mdel rfl _ _ rfl m _ _ s rfl HM.out rfl hsl ?_; intro w1 hM1 g1; obtain ⟨a0, a1, a2, a3, a4, a5, f1, f2, f3, f4, f5⟩ := HP.out.hole1 hu g1; have HH := hid (HP.out.hole hp hM1 g1); clear hM1 g1))
  clear a0 a1 a2 a3 a4 a5 f1 f2 f3 f4 f5 hc fz
  generalize (((((w1.setCell ⟨g, i * 5, none⟩ (.bool false)).setCell ⟨g, i * 5 + 1, none⟩ (.string ⟨#[]⟩)).setCell ⟨g, i * 5 + 2, none⟩ (.int .i64 0)).setCell ⟨g, i * 5 + 3, none⟩ (.int .i64 0)).setCell ⟨g, i * 5 + 4, none⟩ (.string ⟨#[]⟩)) = w2 at *
  obtain ⟨P2, K2⟩ := HH.out
  have hD := hid (posL_drop HP.out.once.1 hp).1
  have hlen : (L.set i none).length = L.length := List.length_set
  have hll := live_len (L.set i none)
  generalize hL' : L.set i none = L' at *
  have P2' : PlAt p (.slice (some ⟨g, 0, none⟩) L'.length cap) m L' w2 := by rw [hlen]; exact P2
  obtain ⟨b0, b1⟩ := P2.cells
  have HP2 := hid P2'
  have HK2 := hid K2
  have hpw2 := P2.lt (b := p) (.inl rfl)
  clear HH P2 K2 P2'
  have HO := hid (holes_calls _ HP2.out.drew (by omega))
  have hlf : L'.length ≤ 1000000 := by omega
  obtain ⟨N, hN⟩ : ∃ N, L'.length - (live L').length = N := ⟨_, rfl⟩
  rw [hN] at HO
  have hN2 : N ≤ 1000000 := by omega
  have e1 : IntKind.i64.wrap (2 * (N : Int)) = 2 * (N : Int) := by rw [IntKind.wrap_i64]; omega
  have HLN := hid hlen
  clear hlen hN hll
  refine wp_region_held_drew (S := fun a => a.cell? ⟨p, 0, none⟩ = some (.slice (some ⟨g, 0, none⟩) L.length cap)) (by kernel_rfl) b0 (fun hHeld => ?_)
  refine tkk 0 ?_
  refine tkk 3 ?_
  refine tkk 4 ?_
  refine tkk 5 ?_
  refine tkk 6 ?_
  refine tkk 7 ?_
  refine rdy 1 (fun K hK => ?_)
  go_simp
  refine HO.out.mono ?_
  rintro e3 w3 ⟨rfl, B3⟩
  have c3 : w3.cell? ⟨p, 0, none⟩ = some (.slice (some ⟨g, 0, none⟩) L.length cap) := (B3.cell (p := ⟨p, 0, none⟩) hpw2).trans b0
  have c4 : w3.cell? ⟨p, 1, none⟩ = some (.map (some m)) := (B3.cell (p := ⟨p, 1, none⟩) hpw2).trans b1
  have HP3 := hid (HP2.out.drew.on B3)
  have HK3 := hid (HK2.out.trans (Keep.of (S := FtP p (.slice (some ⟨g, 0, none⟩) L.length cap) m) ((Below.refl _ _).drew.trans B3)) (fun _ _ h => h))
  refine hK.out _ _ c3 (fun _ => ?_)
  clear hK K HO HP2 HK2 B3 hHeld
  try simp only [Act.put, List.setIfInBounds_toArray, List.set_cons_zero, List.set_cons_succ, List.getElem_toArray, List.getElem_cons_succ, List.getElem_cons_zero]
  refine tkk 2 ?_
  refine tkk 8 ?_
  refine wpAnyH_done (by kernel_rfl) ?_ _
  by_cases hbig : L.length ≤ 2 * N
  · have d : decide ((L.length : Int) ≤ 2 * (N : Int)) = true := decide_eq_true (by omega)
    go_wp2_with fail
    refine (pressed_calls _ HP3.out hlf).mono ?_
    rintro e4 w4 ⟨q, u4, k4, rfl, h1, h2, h3⟩
    obtain ⟨a4, q4, rfl⟩ := row_shape h1.row
    simp only [List.length_map] at h1 h3
    have P4 := HP3.out.on h2
    have hpq : ∀ b, FtP q (.slice a4 (live L').length q4) k4 b → ¬ FtP p (.slice (some ⟨g, 0, none⟩) L'.length cap) m b := fun b hb h => by
      have := h3 b hb
      have := HP3.out.lt h
      omega
    have OV := hid (h1.over P4 hpq)
    obtain ⟨c5, c6⟩ := h1.cells
    obtain ⟨c7, c8⟩ := P4.cells
    have f7 : w4.frozen? ⟨p, 0, none⟩ = false := blk_free P4.blk 0
    have f8 : w4.frozen? ⟨p, 1, none⟩ = false := blk_free P4.blk 1
    have hqp : q ≠ p := fun e => hpq q (.inl rfl) (.inl e)
    have HK4 := hid (HK3.out.trans (Keep.of (S := FtP p (.slice (some ⟨g, 0, none⟩) L.length cap) m) h2) (fun _ _ h => h))
    have H3 := hid h3
    have hs3 := HK3.out.size
    clear h1 h2 h3 P4 hpq
    go_wp2_with fail
    go_ret
    refine ⟨rfl, _, k4, (live L').map some, OV.out.1, (live_some _).trans hD.out, ?_, HK4.out.trans (OV.out.2.mono (T := FtP p (.slice (some ⟨g, 0, none⟩) L.length cap) m) (fun b _ e => .inl e)) (fun _ _ h => h), ?_⟩
    · rw [List.length_map]
      exact Nat.le_trans (live_len L') (Nat.le_of_eq HLN.out)
    · rintro b (rfl | h)
      · exact .inl (.inl rfl)
      · exact .inr (Nat.le_trans hs3 (H3.out b (.inr h)))
  · have d : decide ((L.length : Int) ≤ 2 * (N : Int)) = false := decide_eq_false (by omega)
    go_wp2_with fail
    go_ret
    refine ⟨rfl, _, m, L', HP3.out, hD.out, Nat.le_of_eq HLN.out, HK3.out, fun b hb => .inl ?_⟩
    rcases hb with h | h | h
    · exact .inl h
    · exact .inr (.inl h)
    · exact .inr (.inr h)
theorem drop_calls {p m : Nat} {v : Value} {L : Pls} (w : World) (h : PlAt p v m L w) (s : ByteArray) (hs : s.size ≤ 1000000) (hf : L.length ≤ 1000000) :
    Calls Tryz.prog 154 #[.pointer (some ⟨p, 0, none⟩), .string s] w fun e w' => e = .returned (.bool (hasL (live L) s)) ∧
      ∃ v' m' L', PlAt p v' m' L' w' ∧ live L' = dropL (live L) s ∧ L'.length ≤ L.length ∧ Keep (FtP p v m) w w' ∧ ∀ b, FtP p v' m' b → FtP p v m b ∨ w.heap.size ≤ b := by
  cases hp : posL L s with
  | some i =>
    rw [show hasL (live L) s = true from by rw [← posL_has, hp]; rfl]
    exact drop_has w h s hs hp hf
  | none =>
    have hh : hasL (live L) s = false := by rw [← posL_has, hp]; rfl
    rw [hh]
    refine (drop_none w h s hs hp).mono ?_
    rintro e w' ⟨rfl, rfl⟩
    exact ⟨rfl, v, m, L, h, (dropL_none hh).symm, Nat.le_refl _, Keep.refl _ _, fun b hb => .inl hb⟩

end Go.Proofs.YtimhgbcanmgajaaGreat
