/- The document's dict: what is set, and let go. -/
import Derived.Test.YtphniknckmfilaaDcRef
namespace Go.Proofs.Ytphniknckmfilaa
set_option linter.unusedSimpArgs false
open Go.RowKit

theorem infoVl : ∃ i0, Try.prog.info? 32 = some i0 ∧ i0.zero = some (.agg #[.int .i64 0, .int .i64 0, .string ⟨#[]⟩]) ∧ i0.size = 3 ∧ i0.bytes = 32 :=
  info_parts (show (Try.prog.info? 32).map (fun i => (i.zero, i.size, i.bytes)) = some (some (.agg #[.int .i64 0, .int .i64 0, .string ⟨#[]⟩]), 3, 32) by kernel_rfl)
theorem underVl : Try.prog.underlying 27 = some (.slice 32) := by kernel_rfl
theorem namesC_len (l : List Ent) : (namesC l).length = l.length := by simp [namesC]
theorem names_strs {lo : Nat} {v : Value} {l : List Ent} {w : World} (h : w.ownsRow 0 9 1 v l.length (namesC l)) (hv : ∀ g, v.ownBlock = some g → lo ≤ g) : StrsOwn lo v (l.map (·.1)) w :=
  ⟨by rw [List.length_map, List.map_map]; exact h, hv⟩
theorem strs_names {lo : Nat} {v : Value} {l : List Ent} {w : World} (h : StrsOwn lo v (l.map (·.1)) w) : w.ownsRow 0 9 1 v l.length (namesC l) := by
  have := h.1
  rw [List.length_map, List.map_map] at this
  exact this
theorem strs_names1 {lo : Nat} {v : Value} {l : List Ent} {s : ByteArray} {w : World} (h : StrsOwn lo v (l.map (·.1) ++ [s]) w) : w.ownsRow 0 9 1 v (l.length + 1) (namesC l ++ [.string s]) := by
  have := h.1
  rw [List.length_append, List.length_map, List.map_append, List.map_map] at this
  exact this
theorem namesC_set {l : List Ent} {i : Nat} {s : ByteArray} {u : Vl} (v : Vl) (h : l[i]? = some (s, u)) : namesC (l.set i (s, v)) = namesC l := by
  unfold namesC
  rw [List.map_set]
  exact set_same (by simp [h])

theorem RfAt.put {r i g cap : Nat} {nv : Value} {l : List Ent} {s : ByteArray} {u x : Vl} {w : World} (h : RfAt r nv (.slice (some ⟨g, 0, none⟩) l.length cap) l w) (hu : l[i]? = some (s, u)) :
    RfAt r nv (.slice (some ⟨g, 0, none⟩) l.length cap) (l.set i (s, x)) (((w.setCell ⟨g, i * 3, none⟩ (.int .i64 x.1)).setCell ⟨g, i * 3 + 1, none⟩ (.int .i64 x.2.1)).setCell ⟨g, i * 3 + 2, none⟩ (.string x.2.2)) ∧
      Keep (fun b => b = g) w (((w.setCell ⟨g, i * 3, none⟩ (.int .i64 x.1)).setCell ⟨g, i * 3 + 1, none⟩ (.int .i64 x.2.1)).setCell ⟨g, i * 3 + 2, none⟩ (.string x.2.2)) := by
  obtain ⟨n1, n2⟩ := h.ne
  obtain ⟨n3, n4⟩ := n2 g rfl
  have hil : i < l.length := (List.getElem?_eq_some_iff.1 hu).1
  have ks : ∀ (W : World) (j : Nat) (u : Value), Keep (fun b => b = g) W (W.setCell ⟨g, j, none⟩ u) := fun W j u => Keep.set (S := fun b => b = g) rfl W j u
  have K : Keep (fun b => b = g) w (((w.setCell ⟨g, i * 3, none⟩ (.int .i64 x.1)).setCell ⟨g, i * 3 + 1, none⟩ (.int .i64 x.2.1)).setCell ⟨g, i * 3 + 2, none⟩ (.string x.2.2)) := ((ks _ _ _).trans (ks _ _ _) (fun _ _ h => h)).trans (ks _ _ _) (fun _ _ h => h)
  refine ⟨⟨blk_keep h.blk K (fun e => n3 e.symm), ?_, ?_⟩, K⟩
  · rw [namesC_set x hu, List.length_set]
    exact row_keep h.nam (fun b hb => K.block b (h.lt (.inr (.inl hb))) (fun e => (n1 b hb).2 (by rw [e]; rfl)))
  · have rr := row_set (row_set (row_set h.val (i * 3) (.int .i64 x.1)) (i * 3 + 1) (.int .i64 x.2.1)) (i * 3 + 2) (.string x.2.2)
    rw [valsC_set (s := s) x hil] at rr
    rw [List.length_set]
    exact rr

set_option maxHeartbeats 1000000 in
theorem rset_has {r i : Nat} {nv vv : Value} {l : List Ent} (w : World) (h : RfAt r nv vv l w) (s : ByteArray) (x : Vl) (hat : atN l s = some i) (hf : l.length ≤ 1000000) :
    Calls Try.prog 20 #[.pointer (some ⟨r, 0, none⟩), .string s, vlV x] w fun e w' => e = .returned (.bool false) ∧ RfAt r nv vv (setL l s x) w' ∧ Keep (FtR r nv vv) w w' := by
  obtain ⟨u, hu, hlk⟩ := atN_at hat
  have hil : i < l.length := (List.getElem?_eq_some_iff.1 hu).1
  obtain ⟨g, cap, rfl, hgs, v0, v1, v2, fz⟩ := h.value hu
  obtain ⟨d0, d1⟩ := h.cells
  have hr := h.lt (.inl rfl)
  have hgr := (h.ne.2 g rfl).1
  have A := (Below.refl w.heap.size w).alloc (Nat.le_refl _) (Obj.cells #[.int .i64 x.1, .int .i64 x.2.1, .string x.2.2] 32)
  have HA := hid (at_calls _ (h.on A) s hf)
  rw [show atV l s = (i : Int) from by unfold atV; rw [hat]] at HA
  have HP := hid (h.put (x := x) hu)
  rw [atN_set x hat] at HP
  have f0 := fz (i * 3)
  have f1 := fz (i * 3 + 1)
  have f2 := fz (i * 3 + 2)
  clear h A hlk hu fz hat
  unfold vlV
  go_enter Try.func20, Try.ntmps20
  go_wp2_with fail
  refine HA.out.mono ?_
  rintro e1 w1 ⟨rfl, rfl⟩
  go_wp2_with fail
  refine wp_region_held_drew (S := fun a => a.cell? ⟨r, 1, none⟩ = some (.slice (some ⟨g, 0, none⟩) l.length cap) ∧ a.cell? ⟨w.heap.size, 0, none⟩ = some (.int .i64 x.1) ∧ a.cell? ⟨w.heap.size, 1, none⟩ = some (.int .i64 x.2.1) ∧ a.cell? ⟨w.heap.size, 2, none⟩ = some (.string x.2.2)) (by kernel_rfl) ?_ (fun hHeld => ?_)
  · refine ⟨?_, ?_, ?_, ?_⟩ <;> go_simp
  refine wpAnyH_take (i := 0) (v := ?v1) rfl (by kernel_rfl) (by kernel_rfl) (by kernel_rfl) (fun _ _ _ h => h) (Or.inl ⟨by rfl, ?hy1⟩) (by assumption) ?_
  case hy1 => (intro w hSw; go_simp <;> (try with_reducible rfl))
  simp only [Act.put, List.setIfInBounds_toArray, List.set_cons_zero, List.set_cons_succ, List.getElem_toArray, List.getElem_cons_succ, List.getElem_cons_zero]
  refine wpAnyH_take (i := 1) (v := ?v2) rfl (by kernel_rfl) (by kernel_rfl) (by kernel_rfl) (fun _ _ _ h => h) (Or.inl ⟨by rfl, ?hy2⟩) (by assumption) ?_
  case hy2 => (intro w hSw; go_simp <;> (try with_reducible rfl))
  simp only [Act.put, List.setIfInBounds_toArray, List.set_cons_zero, List.set_cons_succ, List.getElem_toArray, List.getElem_cons_succ, List.getElem_cons_zero]
  refine wpAnyH_take (i := 2) (v := ?v3) rfl (by kernel_rfl) (by kernel_rfl) (by kernel_rfl) (fun _ _ _ h => h) (Or.inl ⟨by rfl, ?hy3⟩) (by assumption) ?_
  case hy3 => (intro w hSw; go_simp <;> (try with_reducible rfl))
  simp only [Act.put, List.setIfInBounds_toArray, List.set_cons_zero, List.set_cons_succ, List.getElem_toArray, List.getElem_cons_succ, List.getElem_cons_zero]
  refine wpAnyH_take (i := 3) (v := ?v4) rfl (by kernel_rfl) (by kernel_rfl) (by kernel_rfl) (fun _ _ _ h => h) (Or.inl ⟨by rfl, ?hy4⟩) (by assumption) ?_
  case hy4 => (intro w hSw; go_simp <;> (try with_reducible rfl))
  simp only [Act.put, List.setIfInBounds_toArray, List.set_cons_zero, List.set_cons_succ, List.getElem_toArray, List.getElem_cons_succ, List.getElem_cons_zero]
  refine wpAnyH_take (i := 4) (v := ?v5) rfl (by kernel_rfl) (by kernel_rfl) (by kernel_rfl) (fun _ _ _ h => h) (Or.inl ⟨by rfl, ?hy5⟩) (by assumption) ?_
  case hy5 => (intro w hSw; go_simp <;> (try with_reducible rfl))
  simp only [Act.put, List.setIfInBounds_toArray, List.set_cons_zero, List.set_cons_succ, List.getElem_toArray, List.getElem_cons_succ, List.getElem_cons_zero]
  refine wpAnyH_take (i := 5) (v := ?v6) rfl (by kernel_rfl) (by kernel_rfl) (by kernel_rfl) (fun _ _ _ h => h) (Or.inl ⟨by rfl, ?hy6⟩) (by assumption) ?_
  case hy6 => (intro w hSw; go_simp <;> (try with_reducible rfl))
  simp only [Act.put, List.setIfInBounds_toArray, List.set_cons_zero, List.set_cons_succ, List.getElem_toArray, List.getElem_cons_succ, List.getElem_cons_zero]
  refine wpAnyH_take (i := 6) (v := ?v7) rfl (by kernel_rfl) (by kernel_rfl) (by kernel_rfl) (fun _ _ _ h => h) (Or.inl ⟨by rfl, ?hy7⟩) (by assumption) ?_
  case hy7 => (intro w hSw; go_simp <;> (try with_reducible rfl))
  simp only [Act.put, List.setIfInBounds_toArray, List.set_cons_zero, List.set_cons_succ, List.getElem_toArray, List.getElem_cons_succ, List.getElem_cons_zero]
  refine wpAnyH_ready (rs := [7]) (by kernel_rfl) (by simp) ?_
  refine AllReadyH.cons rfl (fun K hK => ?_) AllReadyH.nil
  go_simp
  refine hK.out _ _ ?_ (fun _ => ?_)
  · refine ⟨?_, ?_, ?_, ?_⟩ <;> go_simp
  clear hK K
  refine wpAnyH_done (by kernel_rfl) ?_ _
  go_wp2_with fail
  go_ret
  exact ⟨rfl, HP.out.1.on (((Below.refl _ _).alloc (Nat.le_refl _) _).drew), (HP.out.2.mono (T := FtR r nv (.slice (some ⟨g, 0, none⟩) l.length cap)) (fun b _ e => .inr (.inr (by rw [e]; rfl)))).trans (Keep.of (S := FtR r nv (.slice (some ⟨g, 0, none⟩) l.length cap)) (((Below.refl _ _).alloc (Nat.le_refl _) _).drew)) (fun _ _ h => h)⟩

/-- a name more, in memory -/
theorem RfAt.more1 {r g cap : Nat} {nv vv : Value} {l : List Ent} {s : ByteArray} {w a w3 : World} (h : RfAt r nv vv l w) (hB : Below w.heap.size w a) (g3 : a.grownBy w3 nv.ownBlock) (hat : nv.ownBlock = some g ∨ a.heap.size ≤ g)
    (hown : w3.ownsRow 0 9 1 (.slice (some ⟨g, 0, none⟩) (l.length + 1) cap) (l.length + 1) (namesC l ++ [.string s])) :
    Blk r 29 #[nv, vv] w3 ∧ Blk r 29 #[.slice (some ⟨g, 0, none⟩) (l.length + 1) cap, vv] (w3.setCell ⟨r, 0, none⟩ (.slice (some ⟨g, 0, none⟩) (l.length + 1) cap)) ∧
      (w3.setCell ⟨r, 0, none⟩ (.slice (some ⟨g, 0, none⟩) (l.length + 1) cap)).ownsRow 0 9 1 (.slice (some ⟨g, 0, none⟩) (l.length + 1) cap) (l.length + 1) (namesC l ++ [.string s]) ∧
      (w3.setCell ⟨r, 0, none⟩ (.slice (some ⟨g, 0, none⟩) (l.length + 1) cap)).ownsRow 0 32 3 vv l.length (valsC l) ∧
      Keep (FtR r nv vv) w (w3.setCell ⟨r, 0, none⟩ (.slice (some ⟨g, 0, none⟩) (l.length + 1) cap)) ∧ (FtR r nv vv g ∨ w.heap.size ≤ g) := by
  obtain ⟨n1, n2⟩ := h.ne
  have hs1 := hB.size
  have hs2 := g3.size
  have hr := h.lt (b := r) (.inl rfl)
  have e3 : ∀ k, k < w.heap.size → nv.ownBlock ≠ some k → w3.heap[k]? = w.heap[k]? := fun k hk hn => (g3.block k (by omega) (fun e => hn e.symm)).trans (hB.block k hk)
  have b3 : Blk r 29 #[nv, vv] w3 := (e3 r hr (fun e => (n1 r e).1 rfl)).trans h.blk
  have K3 := Keep.set (S := fun b => b = r) rfl w3 0 (.slice (some ⟨g, 0, none⟩) (l.length + 1) cap)
  obtain ⟨cur, hcur⟩ := row_lt hown (g := g) rfl
  have hgr : g ≠ r := fun e => by
    have hb : w3.heap[r]? = _ := b3
    rw [← e, hcur] at hb; cases hb
  refine ⟨b3, blk_set b3 0 _, row_keep hown (fun k hk => ?_), row_keep h.val (fun k hk => ?_), ?_, ?_⟩
  · simp [Value.ownBlock] at hk
    subst hk
    exact K3.block g (blk_lt hcur) hgr
  · rw [K3.block k (Nat.lt_of_lt_of_le (h.lt (.inr (.inr hk))) (by omega)) (n2 k hk).1]
    exact e3 k (h.lt (.inr (.inr hk))) (n2 k hk).2
  · refine Keep.trans (S := FtR r nv vv) (b := w3) ⟨g3.os.trans hB.os, g3.tape.trans hB.tape, g3.output.trans hB.output, by omega, fun k hk hn => e3 k hk (fun e => hn (.inr (.inl e)))⟩ K3 (fun k _ e => .inl e)
  · rcases hat with h1 | h1
    · exact .inl (.inr (.inl h1))
    · exact .inr (by omega)
theorem RfAt.more2 {r g g' cap cap' H : Nat} {nv vv : Value} {l : List Ent} {s : ByteArray} {x : Vl} {w w4 b w5 : World} (h : RfAt r nv vv l w) (hg' : FtR r nv vv g' ∨ w.heap.size ≤ g')
    (h2 : Blk r 29 #[.slice (some ⟨g', 0, none⟩) (l.length + 1) cap', vv] w4) (h3 : w4.ownsRow 0 9 1 (.slice (some ⟨g', 0, none⟩) (l.length + 1) cap') (l.length + 1) (namesC l ++ [.string s])) (h3v : w4.ownsRow 0 32 3 vv l.length (valsC l))
    (h4 : Keep (FtR r nv vv) w w4) (hb : Below w4.heap.size w4 b) (g5 : b.grownBy w5 vv.ownBlock) (hat : vv.ownBlock = some g ∨ g = H) (hH : w.heap.size ≤ H)
    (hown : w5.ownsRow 0 32 3 (.slice (some ⟨g, 0, none⟩) (l.length + 1) cap) (l.length + 1) (valsC l ++ valC x)) :
    Blk r 29 #[.slice (some ⟨g', 0, none⟩) (l.length + 1) cap', vv] w5 ∧ RfAt r (.slice (some ⟨g', 0, none⟩) (l.length + 1) cap') (.slice (some ⟨g, 0, none⟩) (l.length + 1) cap) (l ++ [(s, x)]) (w5.setCell ⟨r, 1, none⟩ (.slice (some ⟨g, 0, none⟩) (l.length + 1) cap)) ∧
      Keep (FtR r nv vv) w (w5.setCell ⟨r, 1, none⟩ (.slice (some ⟨g, 0, none⟩) (l.length + 1) cap)) ∧ ∀ k, FtR r (.slice (some ⟨g', 0, none⟩) (l.length + 1) cap') (.slice (some ⟨g, 0, none⟩) (l.length + 1) cap) k → FtR r nv vv k ∨ w.heap.size ≤ k := by
  obtain ⟨n1, n2⟩ := h.ne
  have hs1 := hb.size
  have hs2 := g5.size
  have hs3 := h4.size
  have hr4 := blk_lt h2
  have e5 : ∀ k, k < w4.heap.size → vv.ownBlock ≠ some k → w5.heap[k]? = w4.heap[k]? := fun k hk hn => (g5.block k (by omega) (fun e => hn e.symm)).trans (hb.block k hk)
  have b5 : Blk r 29 #[.slice (some ⟨g', 0, none⟩) (l.length + 1) cap', vv] w5 := (e5 r hr4 (fun e => (n2 r e).1 rfl)).trans h2
  have K5 := Keep.set (S := fun b => b = r) rfl w5 1 (.slice (some ⟨g, 0, none⟩) (l.length + 1) cap)
  obtain ⟨cur, hcur⟩ := row_lt hown (g := g) rfl
  obtain ⟨cn, hcn⟩ := row_lt h3 (g := g') rfl
  have hgr : g ≠ r := fun e => by
    have hb : w5.heap[r]? = _ := b5
    rw [← e, hcur] at hb; cases hb
  have hgr' : g' ≠ r := fun e => by
    have hb : w4.heap[r]? = _ := h2
    rw [← e, hcn] at hb; cases hb
  have hne : vv.ownBlock ≠ some g' := fun e => by
    obtain ⟨c, hc⟩ := row_lt h3v e
    have hb : w4.heap[g']? = _ := hcn
    rw [hc] at hb; cases hb
  refine ⟨b5, ⟨blk_set b5 1 _, ?_, ?_⟩, ?_, ?_⟩
  · have := row_keep (c := w5.setCell ⟨r, 1, none⟩ (.slice (some ⟨g, 0, none⟩) (l.length + 1) cap)) h3 (fun k hk => by
      simp [Value.ownBlock] at hk
      subst hk
      have h1 := e5 g' (blk_lt hcn) hne
      have h2 : g' < w5.heap.size := by have := blk_lt hcn; omega
      exact (K5.block g' h2 hgr').trans h1)
    simpa [namesC] using this
  · have := row_keep (c := w5.setCell ⟨r, 1, none⟩ (.slice (some ⟨g, 0, none⟩) (l.length + 1) cap)) hown (fun k hk => by
      simp [Value.ownBlock] at hk
      subst hk
      exact K5.block g (blk_lt hcur) hgr)
    rw [valsC_append, List.length_append]
    simpa [valsC] using this
  · refine Keep.trans (S := FtR r nv vv) (b := w5) ?_ K5 (fun k _ e => .inl e)
    exact ⟨g5.os.trans (hb.os.trans h4.os), g5.tape.trans (hb.tape.trans h4.tape), g5.output.trans (hb.output.trans h4.output), by omega, fun k hk hn => (e5 k (by omega) (fun e => hn (.inr (.inr e)))).trans (h4.block k hk hn)⟩
  · rintro k (rfl | hk | hk)
    · exact .inl (.inl rfl)
    · simp [Value.ownBlock] at hk
      subst hk
      exact hg'
    · simp [Value.ownBlock] at hk
      subst hk
      rcases hat with h1 | h1
      · exact .inl (.inr (.inr h1))
      · exact .inr (by omega)

set_option maxHeartbeats 2000000 in
theorem rset_new {r : Nat} {nv vv : Value} {l : List Ent} (w : World) (h : RfAt r nv vv l w) (s : ByteArray) (x : Vl) (hat : atN l s = none) (hf : l.length ≤ 1000000) :
    Calls Try.prog 20 #[.pointer (some ⟨r, 0, none⟩), .string s, vlV x] w fun e w' => e = .returned (.bool true) ∧
      ∃ nv' vv', RfAt r nv' vv' (l ++ [(s, x)]) w' ∧ Keep (FtR r nv vv) w w' ∧ ∀ k, FtR r nv' vv' k → FtR r nv vv k ∨ w.heap.size ≤ k := by
  obtain ⟨i0, hi, hz0, hz1, hz2⟩ := infoVl
  obtain ⟨na, nc, rfl⟩ := row_shape h.nam
  obtain ⟨va, vc, rfl⟩ := row_shape h.val
  obtain ⟨d0, d1⟩ := h.cells
  have hr := h.lt (.inl rfl)
  have A := (Below.refl w.heap.size w).alloc (Nat.le_refl _) (Obj.cells #[.int .i64 x.1, .int .i64 x.2.1, .string x.2.2] 32)
  have HA := hid (at_calls _ (h.on A) s hf)
  rw [show atV l s = -1 from by unfold atV; rw [hat]] at HA
  have HB := hid A
  have HP := hid h
  have HN := hid (show StrsOwn 0 (.slice na l.length nc) (l.map (·.1)) (w.alloc (Obj.cells #[.int .i64 x.1, .int .i64 x.2.1, .string x.2.2] 32)) from names_strs (h.on A).nam (fun g _ => Nat.zero_le _))
  have hfl : (l.map (·.1)).length ≤ 1000000 := by rw [List.length_map]; exact hf
  clear h A hat
  unfold vlV
  go_enter Try.func20, Try.ntmps20
  go_wp2_with fail
  refine HA.out.mono ?_
  rintro e1 w1 ⟨rfl, rfl⟩
  go_wp2_with (first | (at_builtin; refine strs_app rfl _ _ rfl 0 _ s _ (by rfl) HN.out _ (by rfl) (by simp) hfl (Nat.zero_le _) ?_; intro g cp w3 hS3 hg3 hat3; simp only [List.length_map] at hS3; have M1 := HP.out.more1 (s := s) HB.out hg3 hat3 (strs_names1 hS3); have q0 : w3.cell? ⟨r, 0, none⟩ = some (.slice na l.length nc) := (by rw [blk_cell M1.1]; rfl); have q1 : w3.frozen? ⟨r, 0, none⟩ = false := blk_free M1.1 0; have HM1 := hid M1; have HG3 := hid hg3; clear hS3 M1 hat3 hg3) | fail)
  have hbx : Blk w.heap.size 32 #[.int .i64 x.1, .int .i64 x.2.1, .string x.2.2] (w3.setCell ⟨r, 0, none⟩ (.slice (some ⟨g, 0, none⟩) (l.length + 1) cp)) := by
    refine blk_keep (S := fun b => b = r) ?_ (Keep.set (S := fun b => b = r) rfl w3 0 _) (by omega)
    refine (HG3.out.block w.heap.size (by simp) (fun e => ?_)).trans (blk_new w _ _)
    have := HP.out.lt (b := w.heap.size) (.inr (.inl e.symm))
    omega
  obtain ⟨m1, m2, m3, m4, m5, m6⟩ := HM1.out
  generalize w3.setCell ⟨r, 0, none⟩ (.slice (some ⟨g, 0, none⟩) (l.length + 1) cp) = w4 at *
  have HM2 := hid m2
  have HM3 := hid m3
  have HM4 := hid m4
  have HM5 := hid m5
  have HFG := hid m6
  have hz5 := m5.size
  have hsz2 : w.heap.size < w4.heap.size := blk_lt hbx
  obtain ⟨x0, x1, x2⟩ : w4.cell? ⟨w.heap.size, 0, none⟩ = some (.int .i64 x.1) ∧ w4.cell? ⟨w.heap.size, 1, none⟩ = some (.int .i64 x.2.1) ∧ w4.cell? ⟨w.heap.size, 2, none⟩ = some (.string x.2.2) := ⟨by rw [blk_cell hbx]; rfl, by rw [blk_cell hbx]; rfl, by rw [blk_cell hbx]; rfl⟩
  have c1 : w4.cell? ⟨r, 1, none⟩ = some (.slice va l.length vc) := by rw [blk_cell m2]; rfl
  clear HM1 m1 m2 m3 m4 m5 m6 hbx q0 q1 HA HG3
  have hp2 : r < w4.heap.size := by omega
  have RW := hid (show World.ownsRow (w4.alloc (Obj.cells #[.int .i64 x.1, .int .i64 x.2.1, .string x.2.2] 32)).drew 0 32 3 (.slice va l.length vc) l.length (valsC l) from row_keep HM4.out (fun g hg => ((Below.refl w4.heap.size w4).alloc (Nat.le_refl _) (Obj.cells #[.int .i64 x.1, .int .i64 x.2.1, .string x.2.2] 32)).drew.block g (by
    obtain ⟨cur, hc⟩ := row_lt HM4.out hg
    exact blk_lt hc)))
  have NW := hid (World.news_of_block (w := (w4.alloc (Obj.cells #[.int .i64 x.1, .int .i64 x.2.1, .string x.2.2] 32)).drew) (show (w4.alloc (Obj.cells #[.int .i64 x.1, .int .i64 x.2.1, .string x.2.2] 32)).drew.heap[w4.heap.size]? = _ from heap_alloc_new w4 (Obj.cells #[.int .i64 x.1, .int .i64 x.2.1, .string x.2.2] 32)))
  have BL := hid (((Below.refl w4.heap.size w4).alloc (Nat.le_refl _) (Obj.cells #[.int .i64 x.1, .int .i64 x.2.1, .string x.2.2] 32)).drew)
  have HLT := hid (show w.heap.size < (w4.alloc (Obj.cells #[.int .i64 x.1, .int .i64 x.2.1, .string x.2.2] 32)).drew.heap.size from Nat.lt_of_lt_of_le hsz2 BL.out.size)
  have NE := hid (show some w.heap.size ≠ (Value.slice va l.length vc).ownBlock from fun e => by have := HP.out.lt (b := w.heap.size) (.inr (.inr e.symm)); omega)
  refine wp_region_held_drew (S := (fun a => a.cell? ⟨w.heap.size, 0, none⟩ = some (.int .i64 x.1) ∧ a.cell? ⟨w.heap.size, 1, none⟩ = some (.int .i64 x.2.1) ∧ a.cell? ⟨w.heap.size, 2, none⟩ = some (.string x.2.2))) (by kernel_rfl) ⟨x0, x1, x2⟩ (fun hHeld => ?_)
  refine wpAnyH_take (i := 0) (v := ?v9) rfl (by kernel_rfl) (by kernel_rfl) (by kernel_rfl) (fun _ _ _ h => h) (Or.inl ⟨by rfl, ?hy9⟩) (by assumption) ?_
  case hy9 => (intro w hSw; go_simp <;> (try with_reducible rfl))
  simp only [Act.put, List.setIfInBounds_toArray, List.set_cons_zero, List.set_cons_succ, List.getElem_toArray, List.getElem_cons_succ, List.getElem_cons_zero]
  refine wpAnyH_take (i := 1) (v := ?v10) rfl (by kernel_rfl) (by kernel_rfl) (by kernel_rfl) (fun _ _ _ h => h) (Or.inl ⟨by rfl, ?hy10⟩) (by assumption) ?_
  case hy10 => (intro w hSw; go_simp <;> (try with_reducible rfl))
  simp only [Act.put, List.setIfInBounds_toArray, List.set_cons_zero, List.set_cons_succ, List.getElem_toArray, List.getElem_cons_succ, List.getElem_cons_zero]
  refine wpAnyH_take (i := 2) (v := ?v11) rfl (by kernel_rfl) (by kernel_rfl) (by kernel_rfl) (fun _ _ _ h => h) (Or.inl ⟨by rfl, ?hy11⟩) (by assumption) ?_
  case hy11 => (intro w hSw; go_simp <;> (try with_reducible rfl))
  simp only [Act.put, List.setIfInBounds_toArray, List.set_cons_zero, List.set_cons_succ, List.getElem_toArray, List.getElem_cons_succ, List.getElem_cons_zero]
  refine wpAnyH_take (i := 3) (v := ?v12) rfl (by kernel_rfl) (by kernel_rfl) (by kernel_rfl) (fun _ _ _ h => h) (Or.inl ⟨by rfl, ?hy12⟩) (by assumption) ?_
  case hy12 => (intro w hSw; go_simp <;> (try with_reducible rfl))
  simp only [Act.put, List.setIfInBounds_toArray, List.set_cons_zero, List.set_cons_succ, List.getElem_toArray, List.getElem_cons_succ, List.getElem_cons_zero]
  refine wpAnyH_take (i := 5) (v := ?v13) rfl (by kernel_rfl) (by kernel_rfl) (by kernel_rfl) (fun _ _ _ h => h) (Or.inl ⟨by rfl, ?hy13⟩) (by assumption) ?_
  case hy13 => (intro w hSw; go_simp <;> (try with_reducible rfl))
  simp only [Act.put, List.setIfInBounds_toArray, List.set_cons_zero, List.set_cons_succ, List.getElem_toArray, List.getElem_cons_succ, List.getElem_cons_zero]
  refine wpAnyH_ready (rs := [4, 6]) (by kernel_rfl) (by simp) ?_
  refine AllReadyH.cons rfl (fun K hK => ?_) (AllReadyH.cons rfl (fun K hK => ?_) AllReadyH.nil)
  · go_simp
    refine hK.out _ _ ⟨x0, x1, x2⟩ (fun _ => ?_)
    clear hK K
    refine wpAnyH_ready (rs := [6]) (by kernel_rfl) (by simp) ?_
    refine AllReadyH.cons rfl (fun K hK => ?_) AllReadyH.nil
    go_simp
    refine hK.out _ _ ?_ (fun _ => ?_)
    · refine ⟨?_, ?_, ?_⟩ <;> go_simp
    clear hK K
    refine wpAnyH_ready (rs := [7]) (by kernel_rfl) (by simp) ?_
    refine AllReadyH.cons rfl (fun K hK => ?_) AllReadyH.nil
    refine step_append_lies _ rfl _ _ 27 rfl 0 32 i0 _ 3 32 underVl hi hz0 hz1 hz2 rfl (by decide) (.slice va l.length vc) l.length (valsC l) rfl RW.out ⟨w4.heap.size, 0, none⟩ 1 1 (valC x) rfl rfl NW.out (valC_one _) (by decide) (by unfold maxLen; omega) (by omega) (Nat.zero_le _) (w4.heap.size + 1) (by simp) ?_
    intro g5 c5 w5 hown hgrow hat hlt
    have q := HP.out.more2 (x := x) HFG.out HM2.out HM3.out HM4.out HM5.out BL.out hgrow hat (by omega) hown
    have W := hid q.2
    have q0 : w5.cell? ⟨r, 1, none⟩ = some (.slice va l.length vc) := by rw [blk_cell q.1]; rfl
    have q1 : w5.frozen? ⟨r, 1, none⟩ = false := blk_free q.1 1
    have y0 : w5.cell? ⟨w.heap.size, 0, none⟩ = some (.int .i64 x.1) := (hgrow.cell_far ⟨w.heap.size, 0, none⟩ HLT.out NE.out).trans (by go_simp)
    have y1 : w5.cell? ⟨w.heap.size, 1, none⟩ = some (.int .i64 x.2.1) := (hgrow.cell_far ⟨w.heap.size, 1, none⟩ HLT.out NE.out).trans (by go_simp)
    have y2 : w5.cell? ⟨w.heap.size, 2, none⟩ = some (.string x.2.2) := (hgrow.cell_far ⟨w.heap.size, 2, none⟩ HLT.out NE.out).trans (by go_simp)
    refine hK.out _ _ ⟨y0, y1, y2⟩ (fun _ => ?_)
    clear hK K hown hgrow q
    try simp only [Act.put, List.setIfInBounds_toArray, List.set_cons_zero, List.set_cons_succ, List.getElem_toArray, List.getElem_cons_succ, List.getElem_cons_zero]
    refine wpAnyH_take (i := 8) (v := ?v16) rfl (by kernel_rfl) (by kernel_rfl) (by kernel_rfl) (fun _ _ _ h => h) (Or.inl ⟨by rfl, ?hy16⟩) (by assumption) ?_
    case hy16 => (intro w hSw; go_simp <;> (try with_reducible rfl))
    simp only [Act.put, List.setIfInBounds_toArray, List.set_cons_zero, List.set_cons_succ, List.getElem_toArray, List.getElem_cons_succ, List.getElem_cons_zero]
    refine wpAnyH_take (i := 9) (v := ?v17) rfl (by kernel_rfl) (by kernel_rfl) (by kernel_rfl) (fun _ _ _ h => h) (Or.inl ⟨by rfl, ?hy17⟩) (by assumption) ?_
    case hy17 => (intro w hSw; go_simp <;> (try with_reducible rfl))
    simp only [Act.put, List.setIfInBounds_toArray, List.set_cons_zero, List.set_cons_succ, List.getElem_toArray, List.getElem_cons_succ, List.getElem_cons_zero]
    refine wpAnyH_ready (rs := [10]) (by kernel_rfl) (by simp) ?_
    refine AllReadyH.cons rfl (fun K hK => ?_) AllReadyH.nil
    go_simp
    refine hK.out _ _ ?_ (fun _ => ?_)
    · have hne : r ≠ w.heap.size := by omega
      refine ⟨?_, ?_, ?_⟩ <;> go_simp
    clear hK K
    refine wpAnyH_done (by kernel_rfl) ?_ _
    go_wp2_with fail
    go_ret
    exact ⟨rfl, _, _, W.out⟩
  · go_simp
    refine hK.out _ _ ?_ (fun _ => ?_)
    · refine ⟨?_, ?_, ?_⟩ <;> go_simp
    clear hK K
    refine wpAnyH_ready (rs := [4]) (by kernel_rfl) (by simp) ?_
    refine AllReadyH.cons rfl (fun K hK => ?_) AllReadyH.nil
    go_simp
    refine hK.out _ _ ?_ (fun _ => ?_)
    · refine ⟨?_, ?_, ?_⟩ <;> go_simp
    clear hK K
    refine wpAnyH_ready (rs := [7]) (by kernel_rfl) (by simp) ?_
    refine AllReadyH.cons rfl (fun K hK => ?_) AllReadyH.nil
    refine step_append_lies _ rfl _ _ 27 rfl 0 32 i0 _ 3 32 underVl hi hz0 hz1 hz2 rfl (by decide) (.slice va l.length vc) l.length (valsC l) rfl RW.out ⟨w4.heap.size, 0, none⟩ 1 1 (valC x) rfl rfl NW.out (valC_one _) (by decide) (by unfold maxLen; omega) (by omega) (Nat.zero_le _) (w4.heap.size + 1) (by simp) ?_
    intro g5 c5 w5 hown hgrow hat hlt
    have q := HP.out.more2 (x := x) HFG.out HM2.out HM3.out HM4.out HM5.out BL.out hgrow hat (by omega) hown
    have W := hid q.2
    have q0 : w5.cell? ⟨r, 1, none⟩ = some (.slice va l.length vc) := by rw [blk_cell q.1]; rfl
    have q1 : w5.frozen? ⟨r, 1, none⟩ = false := blk_free q.1 1
    have y0 : w5.cell? ⟨w.heap.size, 0, none⟩ = some (.int .i64 x.1) := (hgrow.cell_far ⟨w.heap.size, 0, none⟩ HLT.out NE.out).trans (by go_simp)
    have y1 : w5.cell? ⟨w.heap.size, 1, none⟩ = some (.int .i64 x.2.1) := (hgrow.cell_far ⟨w.heap.size, 1, none⟩ HLT.out NE.out).trans (by go_simp)
    have y2 : w5.cell? ⟨w.heap.size, 2, none⟩ = some (.string x.2.2) := (hgrow.cell_far ⟨w.heap.size, 2, none⟩ HLT.out NE.out).trans (by go_simp)
    refine hK.out _ _ ⟨y0, y1, y2⟩ (fun _ => ?_)
    clear hK K hown hgrow q
    try simp only [Act.put, List.setIfInBounds_toArray, List.set_cons_zero, List.set_cons_succ, List.getElem_toArray, List.getElem_cons_succ, List.getElem_cons_zero]
    refine wpAnyH_take (i := 8) (v := ?v21) rfl (by kernel_rfl) (by kernel_rfl) (by kernel_rfl) (fun _ _ _ h => h) (Or.inl ⟨by rfl, ?hy21⟩) (by assumption) ?_
    case hy21 => (intro w hSw; go_simp <;> (try with_reducible rfl))
    simp only [Act.put, List.setIfInBounds_toArray, List.set_cons_zero, List.set_cons_succ, List.getElem_toArray, List.getElem_cons_succ, List.getElem_cons_zero]
    refine wpAnyH_take (i := 9) (v := ?v22) rfl (by kernel_rfl) (by kernel_rfl) (by kernel_rfl) (fun _ _ _ h => h) (Or.inl ⟨by rfl, ?hy22⟩) (by assumption) ?_
    case hy22 => (intro w hSw; go_simp <;> (try with_reducible rfl))
    simp only [Act.put, List.setIfInBounds_toArray, List.set_cons_zero, List.set_cons_succ, List.getElem_toArray, List.getElem_cons_succ, List.getElem_cons_zero]
    refine wpAnyH_ready (rs := [10]) (by kernel_rfl) (by simp) ?_
    refine AllReadyH.cons rfl (fun K hK => ?_) AllReadyH.nil
    go_simp
    refine hK.out _ _ ?_ (fun _ => ?_)
    · have hne : r ≠ w.heap.size := by omega
      refine ⟨?_, ?_, ?_⟩ <;> go_simp
    clear hK K
    refine wpAnyH_done (by kernel_rfl) ?_ _
    go_wp2_with fail
    go_ret
    exact ⟨rfl, _, _, W.out⟩

end Go.Proofs.Ytphniknckmfilaa
