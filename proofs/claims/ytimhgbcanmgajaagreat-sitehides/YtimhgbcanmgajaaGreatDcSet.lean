/- A property is set. -/
import Derived.Test.YtimhgbcanmgajaaGreatJoint2
import Derived.Test.YtimhgbcanmgajaaGreatJoint8
namespace Go.Proofs.YtimhgbcanmgajaaGreat
set_option linter.unusedSimpArgs false
set_option maxRecDepth 100000
open Go.RowKit

abbrev boxV (w : World) (k n : Int) (s : ByteArray) : World := w.alloc (Obj.cells #[.int .i64 k, .int .i64 n, .string s] 37)
/-- a value that is set again, in memory -/
theorem PlAt.put {p m i g cap : Nat} {L : Pls} {s : ByteArray} {u x : Vl} {w : World} (h : PlAt p (.slice (some ⟨g, 0, none⟩) L.length cap) m L w) (hs : s.size ≤ 1000000) (hp : posL L s = some i) (hu : L[i]? = some (some (s, u))) :
    PlAt p (.slice (some ⟨g, 0, none⟩) L.length cap) m (L.set i (some (s, x))) (((w.setCell ⟨g, i * 5 + 2, none⟩ (.int .i64 x.1)).setCell ⟨g, i * 5 + 2 + 1, none⟩ (.int .i64 x.2.1)).setCell ⟨g, i * 5 + 2 + 2, none⟩ (.string x.2.2)) ∧
      Keep (fun b => b = g) w (((w.setCell ⟨g, i * 5 + 2, none⟩ (.int .i64 x.1)).setCell ⟨g, i * 5 + 2 + 1, none⟩ (.int .i64 x.2.1)).setCell ⟨g, i * 5 + 2 + 2, none⟩ (.string x.2.2)) := by
  obtain ⟨h1, h2⟩ := posL_set x hp
  obtain ⟨n1, n2⟩ := h.ne
  obtain ⟨n3, n4⟩ := n2 g rfl
  have k1 := Keep.set (S := fun b => b = g) rfl w (i * 5 + 2) (.int .i64 x.1)
  have k2 := Keep.set (S := fun b => b = g) rfl (w.setCell ⟨g, i * 5 + 2, none⟩ (.int .i64 x.1)) (i * 5 + 2 + 1) (.int .i64 x.2.1)
  have k3 := Keep.set (S := fun b => b = g) rfl ((w.setCell ⟨g, i * 5 + 2, none⟩ (.int .i64 x.1)).setCell ⟨g, i * 5 + 2 + 1, none⟩ (.int .i64 x.2.1)) (i * 5 + 2 + 2) (.string x.2.2)
  have K := (k1.trans k2 (fun _ _ h => h)).trans k3 (fun _ _ h => h)
  refine ⟨⟨blk_keep h.blk K (fun e => n3 e.symm), ?_, ?_, ?_⟩, K⟩
  · have r := row_set (row_set (row_set h.row (i * 5 + 2) (.int .i64 x.1)) (i * 5 + 2 + 1) (.int .i64 x.2.1)) (i * 5 + 2 + 2) (.string x.2.2)
    rw [cellsP_set3 hu] at r
    rw [List.length_set]
    exact r
  · have hl : (live (L.set i (some (s, x)))).length = (live L).length := by
      rw [h1, setL_len, show hasL (live L) s = true from by rw [← posL_has, hp]; rfl]; rfl
    rw [hl]
    refine mapN_ext (mapN_keep h.map (K.block m (mapN_lt h.map) (fun e => n4 e.symm))) (fun y => ?_)
    unfold posF; rw [h2]
  · rw [h1]; exact ok_set x hs h.once

set_option maxHeartbeats 1000000 in
theorem set_has {p m i : Nat} {v : Value} {L : Pls} (w : World) (h : PlAt p v m L w) (s : ByteArray) (hs : s.size ≤ 1000000) (x : Vl) (hp : posL L s = some i) :
    Calls Tryz.prog 153 #[.pointer (some ⟨p, 0, none⟩), .string s, vlV x] w fun e w' => e = .returned (.bool false) ∧
      PlAt p v m (L.set i (some (s, x))) w' ∧ Keep (FtP p v m) w w' := by
  obtain ⟨u, hu, hlk⟩ := posL_at hp
  have hil := posL_lt hp
  obtain ⟨g, cap, rfl, hgs, hc, fz⟩ := h.place hu
  obtain ⟨d0, d1⟩ := h.cells
  have hsl : s.size ≤ maxLen := by unfold maxLen; omega
  have hpm := h.lt (.inl rfl)
  have hgp := ((h.ne).2 g rfl).1
  have hF : posF L s = some (i : Int) := by unfold posF; rw [hp]; rfl
  have A := (Below.refl w.heap.size w).alloc (Nat.le_refl _) (Obj.cells #[.int .i64 x.1, .int .i64 x.2.1, .string x.2.2] 37)
  have HM := hid (h.on A).map
  have HP := hid (h.put (x := x) hs hp hu)
  have v2 : w.cell? ⟨g, i * 5 + 2, none⟩ = some (.int .i64 u.1) := hc 2 (by omega)
  have v3 : w.cell? ⟨g, i * 5 + 2 + 1, none⟩ = some (.int .i64 u.2.1) := hc 3 (by omega)
  have v4 : w.cell? ⟨g, i * 5 + 2 + 2, none⟩ = some (.string u.2.2) := hc 4 (by omega)
  have f2 := fz (i * 5 + 2)
  have f3 := fz (i * 5 + 2 + 1)
  have f4 := fz (i * 5 + 2 + 2)
  clear h A hc hlk hu fz
  unfold vlV
  go_enter Tryz.func153, Tryz.ntmps153
  go_wp2_with (first | (at_lookup; refine wp_mlook rfl _ _ rfl m _ _ s rfl HM.out rfl hsl ?_; rw [hF]) | fail)
  refine wp_region_held_drew (S := fun a => a.cell? ⟨p, 0, none⟩ = some (.slice (some ⟨g, 0, none⟩) L.length cap) ∧ a.cell? ⟨w.heap.size, 0, none⟩ = some (.int .i64 x.1) ∧ a.cell? ⟨w.heap.size, 1, none⟩ = some (.int .i64 x.2.1) ∧ a.cell? ⟨w.heap.size, 2, none⟩ = some (.string x.2.2)) (by kernel_rfl) ?_ (fun hHeld => ?_)
  · refine ⟨?_, ?_, ?_, ?_⟩ <;> go_simp
  refine tkk 0 ?_
  refine tkk 1 ?_
  refine tkk 2 ?_
  refine tkk 3 ?_
  refine tkk 4 ?_
  refine tkk 5 ?_
  refine tkk 6 ?_
  refine tkk 7 ?_
  refine rdy 8 (fun K hK => ?_)
  go_simp
  refine hK.out _ _ ?_ (fun _ => ?_)
  · refine ⟨?_, ?_, ?_, ?_⟩ <;> go_simp
  clear hK K
  refine wpAnyH_done (by kernel_rfl) ?_ _
  go_wp2_with fail
  go_ret
  exact ⟨rfl, HP.out.1.on (((Below.refl _ _).alloc (Nat.le_refl _) _).drew), (HP.out.2.mono (T := FtP p (.slice (some ⟨g, 0, none⟩) L.length cap) m) (fun b _ e => .inr (.inr (by rw [e]; rfl)))).trans (Keep.of (S := FtP p (.slice (some ⟨g, 0, none⟩) L.length cap) m) (((Below.refl _ _).alloc (Nat.le_refl _) _).drew)) (fun _ _ h => h)⟩

theorem posF_snoc {L : Pls} {s : ByteArray} (x : Vl) (hp : posL L s = none) (y : ByteArray) : putF (posF L) s (L.length : Int) y = posF (L ++ [some (s, x)]) y := by
  unfold putF posF
  rw [posL_snoc]
  by_cases hy : y = s
  · subst hy
    rw [if_pos rfl, hp]
    simp
  · rw [if_neg hy]
    rcases Option.eq_none_or_eq_some (posL L y) with h1 | ⟨j, h1⟩
    · rw [h1]; simp [show ¬ s = y from fun e => hy e.symm]
    · rw [h1]; simp
theorem live_snoc (L : Pls) (e : Ent) : live (L ++ [some e]) = live L ++ [e] := by rw [live_append]; rfl
/-- one place more, in memory -/
theorem PlAt.more1 {p m : Nat} {v : Value} {L : Pls} {w a w2 b w3 : World} (h : PlAt p v m L w) (hB : Below w.heap.size w a) (g2 : a.grownBy w2 (some m)) (hb : Below w2.heap.size w2 b) (g3 : b.grownBy w3 v.ownBlock) :
    Blk p 269 #[v, .map (some m)] w2 ∧ w2.ownsRow 0 272 5 v L.length (cellsP L) ∧ Blk p 269 #[v, .map (some m)] w3 ∧ w3.heap[m]? = w2.heap[m]? ∧ Keep (FtP p v m) w w3 ∧ w.heap.size ≤ b.heap.size := by
  obtain ⟨n1, n2⟩ := h.ne
  have hs1 := hB.size
  have hs2 := g2.size
  have hs3 := hb.size
  have hp := h.lt (b := p) (.inl rfl)
  have hm := h.lt (b := m) (.inr (.inl rfl))
  have e2 : ∀ k, k < w.heap.size → k ≠ m → w2.heap[k]? = w.heap[k]? := fun k hk hn => (g2.block k (by omega) (by simpa using hn)).trans (hB.block k hk)
  have e3 : ∀ k, k < w2.heap.size → some k ≠ v.ownBlock → w3.heap[k]? = w2.heap[k]? := fun k hk hn => (g3.block k (by omega) hn).trans (hb.block k hk)
  have hpb : some p ≠ v.ownBlock := fun e => (n2 p e.symm).1 rfl
  have b2 : Blk p 269 #[v, .map (some m)] w2 := (e2 p hp (fun e => n1 e.symm)).trans h.blk
  refine ⟨b2, row_keep h.row (fun g hg => e2 g (h.lt (.inr (.inr hg))) (n2 g hg).2), (e3 p (by omega) hpb).trans b2, e3 m (by omega) (fun e => (n2 m e.symm).2 rfl), ?_, by omega⟩
  refine ⟨g3.os.trans (hb.os.trans (g2.os.trans hB.os)), g3.tape.trans (hb.tape.trans (g2.tape.trans hB.tape)), g3.output.trans (hb.output.trans (g2.output.trans hB.output)), by have := g3.size; omega, fun k hk hn => ?_⟩
  rw [e3 k (by omega) (fun e => hn (.inr (.inr e.symm))), e2 k hk (fun e => hn (.inr (.inl e)))]
theorem PlAt.more2 {p m g cap H : Nat} {v : Value} {L : Pls} {s : ByteArray} {x : Vl} {w w2 w3 : World} (h : PlAt p v m L w) (hs : s.size ≤ 1000000) (hp : posL L s = none) (hM : MapN m (putF (posF L) s (L.length : Int)) (if (posF L s).isSome then (live L).length else (live L).length + 1) w2)
    (hb3 : Blk p 269 #[v, .map (some m)] w3) (hm3 : w3.heap[m]? = w2.heap[m]?) (hK : Keep (FtP p v m) w w3) (hat : v.ownBlock = some g ∨ g = H) (hH : w.heap.size ≤ H)
    (hown : w3.ownsRow 0 272 5 (.slice (some ⟨g, 0, none⟩) (L.length + 1) cap) (L.length + 1) (cellsP L ++ cellsO (some (s, x)))) :
    PlAt p (.slice (some ⟨g, 0, none⟩) (L.length + 1) cap) m (L ++ [some (s, x)]) (w3.setCell ⟨p, 0, none⟩ (.slice (some ⟨g, 0, none⟩) (L.length + 1) cap)) ∧
      Keep (FtP p v m) w (w3.setCell ⟨p, 0, none⟩ (.slice (some ⟨g, 0, none⟩) (L.length + 1) cap)) ∧ ∀ b, FtP p (.slice (some ⟨g, 0, none⟩) (L.length + 1) cap) m b → FtP p v m b ∨ w.heap.size ≤ b := by
  obtain ⟨n1, n2⟩ := h.ne
  have hpl := h.lt (b := p) (.inl rfl)
  have hgp : g ≠ p := by
    rcases hat with h1 | h1
    · exact (n2 g h1).1
    · omega
  have K3 := Keep.set (S := fun b => b = p) rfl w3 0 (.slice (some ⟨g, 0, none⟩) (L.length + 1) cap)
  have hh : hasL (live L) s = false := by rw [← posL_has, hp]; rfl
  have hm3' : m < w3.heap.size := Nat.lt_of_lt_of_le (h.lt (b := m) (.inr (.inl rfl))) hK.size
  refine ⟨⟨blk_set hb3 0 _, ?_, ?_, ?_⟩, hK.trans K3 (fun b _ e => .inl e), ?_⟩
  · rw [cellsP_append, List.length_append]
    have := row_keep (c := w3.setCell ⟨p, 0, none⟩ (.slice (some ⟨g, 0, none⟩) (L.length + 1) cap)) hown (fun k hk => by
      simp [Value.ownBlock] at hk
      subst hk
      obtain ⟨cur, hc⟩ := row_lt hown (g := g) rfl
      exact K3.block g (blk_lt hc) hgp)
    simpa [cellsP] using this
  · rw [live_snoc, List.length_append]
    have := mapN_keep (mapN_keep hM hm3) (K3.block m hm3' (fun e => n1 e))
    rw [posF_some, hh] at this
    exact mapN_ext this (posF_snoc x hp)
  · rw [live_snoc]
    have := ok_set (s := s) x hs h.once
    rwa [setL_new x hh] at this
  · rintro b (rfl | rfl | hb)
    · exact .inl (.inl rfl)
    · exact .inl (.inr (.inl rfl))
    · simp [Value.ownBlock] at hb
      subst hb
      rcases hat with h1 | h1
      · exact .inl (.inr (.inr h1))
      · exact .inr (by omega)

set_option maxHeartbeats 2000000 in
theorem set_new {p m : Nat} {v : Value} {L : Pls} (w : World) (h : PlAt p v m L w) (s : ByteArray) (hs : s.size ≤ 1000000) (x : Vl) (hp : posL L s = none) (hf : L.length ≤ 1000000) :
    Calls Tryz.prog 153 #[.pointer (some ⟨p, 0, none⟩), .string s, vlV x] w fun e w' => e = .returned (.bool true) ∧
      ∃ v', PlAt p v' m (L ++ [some (s, x)]) w' ∧ Keep (FtP p v m) w w' ∧ ∀ b, FtP p v' m b → FtP p v m b ∨ w.heap.size ≤ b := by
  obtain ⟨i0, hi, hz0, hz1, hz2⟩ := infoP
  obtain ⟨ao, cap, rfl⟩ := row_shape h.row
  obtain ⟨d0, d1⟩ := h.cells
  have hsl : s.size ≤ maxLen := by unfold maxLen; omega
  have hpm := h.lt (.inl rfl)
  have hF : posF L s = none := by unfold posF; rw [hp]; rfl
  have hll := live_len L
  have hcl : (live L).length < maxLen := by unfold maxLen; omega
  have hwf : (Lit.int .i64 (L.length : Int)).wf = true := WalkArith.wf_i64 (by omega)
  have A := (Below.refl w.heap.size w).alloc (Nat.le_refl _) (Obj.cells #[.int .i64 x.1, .int .i64 x.2.1, .string x.2.2] 37)
  have HM := hid (h.on A).map
  have HA := hid A
  have HP := hid h
  clear h A
  unfold vlV
  go_enter Tryz.func153, Tryz.ntmps153
  go_wp2_with (first | (at_lookup; refine wp_mlook rfl _ _ rfl m _ _ s rfl HM.out rfl hsl ?_; rw [hF]) | fail)
  refine wp_region_held_drew (S := fun a => a.cell? ⟨p, 0, none⟩ = some (.slice ao L.length cap) ∧ a.cell? ⟨p, 1, none⟩ = some (.map (some m))) (by kernel_rfl) ?_ (fun hHeld => ?_)
  · refine ⟨?_, ?_⟩ <;> go_simp
  refine tkk 0 ?_
  refine tkk 1 ?_
  refine tkk 2 ?_
  refine tkk 3 ?_
  refine tkk 4 ?_
  refine tkk 5 ?_
  refine tkk 6 ?_
  refine tkk 7 ?_
  refine tkk 8 ?_
  refine tkk 9 ?_
  refine rdy 10 (fun K hK => ?_)
  refine step_mput rfl _ _ _ rfl m _ _ s (L.length : Int) rfl (mapN_keep HM.out rfl) hcl rfl hsl rfl hwf ?_
  intro w2 hM2 g2
  have e2 := HP.out.more1 HA.out.drew g2 (Below.refl _ _).drew (World.grownBy_alloc _ (Obj.cells #[] 0) _)
  have HM2 := hid hM2
  have G2 := hid g2
  have E2 := hid e2
  obtain ⟨c0, c1⟩ : w2.cell? ⟨p, 0, none⟩ = some (.slice ao L.length cap) ∧ w2.cell? ⟨p, 1, none⟩ = some (.map (some m)) := ⟨by rw [blk_cell e2.1]; rfl, by rw [blk_cell e2.1]; rfl⟩
  obtain ⟨x0, x1, x2⟩ : w2.cell? ⟨w.heap.size, 0, none⟩ = some (.int .i64 x.1) ∧ w2.cell? ⟨w.heap.size, 1, none⟩ = some (.int .i64 x.2.1) ∧ w2.cell? ⟨w.heap.size, 2, none⟩ = some (.string x.2.2) := by
    have hmn : w.heap.size ≠ m := fun e => by have := HP.out.lt (b := m) (.inr (.inl rfl)); omega
    refine ⟨?_, ?_, ?_⟩ <;> rw [World.cell?_of_block (g2.block w.heap.size (by simp) (by simpa using hmn))] <;> simp
  refine hK.out _ _ ⟨c0, c1⟩ (fun _ => ?_)
  clear hK K g2 hM2 hHeld e2
  refine wpAnyH_done (by kernel_rfl) ?_ _
  go_wp2_with fail
  have hsz2 : w.heap.size < w2.heap.size := by
    have := G2.out.size
    simp at this
    omega
  have hp2 : p < w2.heap.size := by omega
  have RW := hid (show World.ownsRow (w2.alloc (Obj.cells #[.bool true, .string s, .int .i64 x.1, .int .i64 x.2.1, .string x.2.2] 272)).drew 0 272 5 (.slice ao L.length cap) L.length (cellsP L) from row_keep E2.out.2.1 (fun g hg => ((Below.refl w2.heap.size w2).alloc (Nat.le_refl _) (Obj.cells #[.bool true, .string s, .int .i64 x.1, .int .i64 x.2.1, .string x.2.2] 272)).drew.block g (by
    obtain ⟨cur, hc⟩ := row_lt E2.out.2.1 hg
    exact blk_lt hc)))
  have NW := hid (World.news_of_block (w := (w2.alloc (Obj.cells #[.bool true, .string s, .int .i64 x.1, .int .i64 x.2.1, .string x.2.2] 272)).drew) (show (w2.alloc (Obj.cells #[.bool true, .string s, .int .i64 x.1, .int .i64 x.2.1, .string x.2.2] 272)).drew.heap[w2.heap.size]? = _ from heap_alloc_new w2 (Obj.cells #[.bool true, .string s, .int .i64 x.1, .int .i64 x.2.1, .string x.2.2] 272)))
  have BL := hid (((Below.refl w2.heap.size w2).alloc (Nat.le_refl _) (Obj.cells #[.bool true, .string s, .int .i64 x.1, .int .i64 x.2.1, .string x.2.2] 272)).drew)
  have HLT := hid (show w.heap.size < (w2.alloc (Obj.cells #[.bool true, .string s, .int .i64 x.1, .int .i64 x.2.1, .string x.2.2] 272)).drew.heap.size from Nat.lt_of_lt_of_le hsz2 BL.out.size)
  have NE := hid (show some w.heap.size ≠ (Value.slice ao L.length cap).ownBlock from fun e => by have := HP.out.lt (b := w.heap.size) (.inr (.inr e.symm)); omega)
  refine wp_region_held_drew (S := (fun a => a.cell? ⟨w.heap.size, 0, none⟩ = some (.int .i64 x.1) ∧ a.cell? ⟨w.heap.size, 1, none⟩ = some (.int .i64 x.2.1) ∧ a.cell? ⟨w.heap.size, 2, none⟩ = some (.string x.2.2))) (by kernel_rfl) ⟨x0, x1, x2⟩ (fun hHeld => ?_)
  refine tkk 0 ?_
  refine tkk 1 ?_
  refine tkk 2 ?_
  refine tkk 3 ?_
  refine tkk 5 ?_
  refine tkk 6 ?_
  refine tkk 7 ?_
  refine wpAnyH_ready (rs := [4, 8]) (by kernel_rfl) (by simp) ?_
  refine AllReadyH.cons rfl (fun K hK => ?_) (AllReadyH.cons rfl (fun K hK => ?_) AllReadyH.nil)
  · go_simp
    refine hK.out _ _ ⟨x0, x1, x2⟩ (fun _ => ?_)
    clear hK K
    refine rdy 8 (fun K hK => ?_)
    go_simp
    refine hK.out _ _ ?_ (fun _ => ?_)
    · refine ⟨?_, ?_, ?_⟩ <;> go_simp
    clear hK K
    refine rdy 9 (fun K hK => ?_)
    refine step_append_lies _ rfl _ _ 267 rfl 0 272 i0 _ 5 56 underP hi hz0 hz1 hz2 rfl (by decide) (.slice ao L.length cap) L.length (cellsP L) rfl RW.out ⟨w2.heap.size, 0, none⟩ 1 1 (cellsO (some (s, x))) rfl rfl NW.out (cellsO_one _) (by decide) (by unfold maxLen; omega) (by omega) (Nat.zero_le _) (w2.heap.size + 1) (by simp) ?_
    intro g cp w3 hown hgrow hat hlt
    have q := HP.out.more1 HA.out.drew G2.out BL.out hgrow
    have W := hid (HP.out.more2 (x := x) hs hp HM2.out q.2.2.1 q.2.2.2.1 q.2.2.2.2.1 hat (by have := q.2.2.2.2.2; simpa using this) hown)
    have q0 : w3.cell? ⟨p, 0, none⟩ = some (.slice ao L.length cap) := by rw [blk_cell q.2.2.1]; rfl
    have q1 : w3.frozen? ⟨p, 0, none⟩ = false := blk_free q.2.2.1 0
    have y0 : w3.cell? ⟨w.heap.size, 0, none⟩ = some (.int .i64 x.1) := (hgrow.cell_far ⟨w.heap.size, 0, none⟩ HLT.out NE.out).trans (by go_simp)
    have y1 : w3.cell? ⟨w.heap.size, 1, none⟩ = some (.int .i64 x.2.1) := (hgrow.cell_far ⟨w.heap.size, 1, none⟩ HLT.out NE.out).trans (by go_simp)
    have y2 : w3.cell? ⟨w.heap.size, 2, none⟩ = some (.string x.2.2) := (hgrow.cell_far ⟨w.heap.size, 2, none⟩ HLT.out NE.out).trans (by go_simp)
    refine hK.out _ _ ⟨y0, y1, y2⟩ (fun _ => ?_)
    clear hK K hown hgrow q
    simp only [Act.put, List.setIfInBounds_toArray, List.set_cons_zero, List.set_cons_succ, List.getElem_toArray, List.getElem_cons_succ, List.getElem_cons_zero]
    refine tkk 10 ?_
    refine tkk 11 ?_
    refine rdy 12 (fun K hK => ?_)
    go_simp
    refine hK.out _ _ ?_ (fun _ => ?_)
    · have hne : p ≠ w.heap.size := by omega
      refine ⟨?_, ?_, ?_⟩ <;> go_simp
    clear hK K
    refine wpAnyH_done (by kernel_rfl) ?_ _
    go_wp2_with fail
    go_ret
    exact ⟨rfl, _, W.out⟩
  · go_simp
    refine hK.out _ _ ?_ (fun _ => ?_)
    · refine ⟨?_, ?_, ?_⟩ <;> go_simp
    clear hK K
    refine rdy 4 (fun K hK => ?_)
    go_simp
    refine hK.out _ _ ?_ (fun _ => ?_)
    · refine ⟨?_, ?_, ?_⟩ <;> go_simp
    clear hK K
    refine rdy 9 (fun K hK => ?_)
    refine step_append_lies _ rfl _ _ 267 rfl 0 272 i0 _ 5 56 underP hi hz0 hz1 hz2 rfl (by decide) (.slice ao L.length cap) L.length (cellsP L) rfl RW.out ⟨w2.heap.size, 0, none⟩ 1 1 (cellsO (some (s, x))) rfl rfl NW.out (cellsO_one _) (by decide) (by unfold maxLen; omega) (by omega) (Nat.zero_le _) (w2.heap.size + 1) (by simp) ?_
    intro g cp w3 hown hgrow hat hlt
    have q := HP.out.more1 HA.out.drew G2.out BL.out hgrow
    have W := hid (HP.out.more2 (x := x) hs hp HM2.out q.2.2.1 q.2.2.2.1 q.2.2.2.2.1 hat (by have := q.2.2.2.2.2; simpa using this) hown)
    have q0 : w3.cell? ⟨p, 0, none⟩ = some (.slice ao L.length cap) := by rw [blk_cell q.2.2.1]; rfl
    have q1 : w3.frozen? ⟨p, 0, none⟩ = false := blk_free q.2.2.1 0
    have y0 : w3.cell? ⟨w.heap.size, 0, none⟩ = some (.int .i64 x.1) := (hgrow.cell_far ⟨w.heap.size, 0, none⟩ HLT.out NE.out).trans (by go_simp)
    have y1 : w3.cell? ⟨w.heap.size, 1, none⟩ = some (.int .i64 x.2.1) := (hgrow.cell_far ⟨w.heap.size, 1, none⟩ HLT.out NE.out).trans (by go_simp)
    have y2 : w3.cell? ⟨w.heap.size, 2, none⟩ = some (.string x.2.2) := (hgrow.cell_far ⟨w.heap.size, 2, none⟩ HLT.out NE.out).trans (by go_simp)
    refine hK.out _ _ ⟨y0, y1, y2⟩ (fun _ => ?_)
    clear hK K hown hgrow q
    simp only [Act.put, List.setIfInBounds_toArray, List.set_cons_zero, List.set_cons_succ, List.getElem_toArray, List.getElem_cons_succ, List.getElem_cons_zero]
    refine tkk 10 ?_
    refine tkk 11 ?_
    refine rdy 12 (fun K hK => ?_)
    go_simp
    refine hK.out _ _ ?_ (fun _ => ?_)
    · have hne : p ≠ w.heap.size := by omega
      refine ⟨?_, ?_, ?_⟩ <;> go_simp
    clear hK K
    refine wpAnyH_done (by kernel_rfl) ?_ _
    go_wp2_with fail
    go_ret
    exact ⟨rfl, _, W.out⟩

end Go.Proofs.YtimhgbcanmgajaaGreat
