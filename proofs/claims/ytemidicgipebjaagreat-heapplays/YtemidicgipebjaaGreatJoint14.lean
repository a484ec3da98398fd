/- The document's dict: what is set, and let go. The document's dict: Delete. -/
import Derived.Test.YtemidicgipebjaaGreatJoint2
import Derived.Test.YtemidicgipebjaaGreatRoRef
namespace Go.Proofs.YtemidicgipebjaaGreat
set_option linter.unusedSimpArgs false
set_option maxRecDepth 100000
open Go.RowKit

theorem infoVl : ∃ i0, Tryz.prog.info? 26 = some i0 ∧ i0.zero = some (.agg #[.int .i64 0, .int .i64 0, .string ⟨#[]⟩]) ∧ i0.size = 3 ∧ i0.bytes = 32 :=
  info_parts (show (Tryz.prog.info? 26).map (fun i => (i.zero, i.size, i.bytes)) = some (some (.agg #[.int .i64 0, .int .i64 0, .string ⟨#[]⟩]), 3, 32) by kernel_rfl)
theorem underVl : Tryz.prog.underlying 82 = some (.slice 26) := by kernel_rfl
theorem namesC_len (l : List Ent) : (namesC l).length = l.length := by simp [namesC]
theorem names_strs {lo : Nat} {v : Value} {l : List Ent} {w : World} (h : w.ownsRow 0 9 1 v l.length (namesC l)) (hv : ∀ g, v.ownBlock = some g → lo ≤ g) : StrsOwn lo v (l.map (·.1)) w :=
  ⟨by rw [List.length_map, List.map_map]; exact h, hv⟩
theorem strs_names {lo : Nat} {v : Value} {l : List Ent} {w : World} (h : StrsOwn lo v (l.map (·.1)) w) : w.ownsRow 0 9 1 v l.length (namesC l) := by
  have := h.1
  rw [List.length_map, List.map_map] at this
  exact this
theorem strs_names1 {lo : Nat} {v : Value} {l : List Ent} {s : ByteArray} {w : World} (h : StrsOwn lo v (l.map (·.1) ++ [s]) w) : w.ownsRow 0 9 1 v (l.length + 1) (namesC l ++ [.string s]) := by
  have := h.1
  rw [List.length_append, List.length_map, List.map_append, List.map_map] at this
  exact this
theorem namesC_set {l : List Ent} {i : Nat} {s : ByteArray} {u : Vl} (v : Vl) (h : l[i]? = some (s, u)) : namesC (l.set i (s, v)) = namesC l := by
  unfold namesC
  rw [List.map_set]
  exact set_same (by simp [h])

theorem RoAt.put {P E S : Value} {r i g cap : Nat} {nv : Value} {l : List Ent} {s : ByteArray} {u x : Vl} {w : World} (h : RoAt P E S r nv (.slice (some ⟨g, 0, none⟩) l.length cap) l w) (hu : l[i]? = some (s, u)) :
    RoAt P E S r nv (.slice (some ⟨g, 0, none⟩) l.length cap) (l.set i (s, x)) (((w.setCell ⟨g, i * 3, none⟩ (.int .i64 x.1)).setCell ⟨g, i * 3 + 1, none⟩ (.int .i64 x.2.1)).setCell ⟨g, i * 3 + 2, none⟩ (.string x.2.2)) ∧
      Keep (fun b => b = g) w (((w.setCell ⟨g, i * 3, none⟩ (.int .i64 x.1)).setCell ⟨g, i * 3 + 1, none⟩ (.int .i64 x.2.1)).setCell ⟨g, i * 3 + 2, none⟩ (.string x.2.2)) := by
  obtain ⟨n1, n2⟩ := h.ne
  obtain ⟨n3, n4⟩ := n2 g rfl
  have hil : i < l.length := (List.getElem?_eq_some_iff.1 hu).1
  have ks : ∀ (W : World) (j : Nat) (u : Value), Keep (fun b => b = g) W (W.setCell ⟨g, j, none⟩ u) := fun W j u => Keep.set (S := fun b => b = g) rfl W j u
  have K : Keep (fun b => b = g) w (((w.setCell ⟨g, i * 3, none⟩ (.int .i64 x.1)).setCell ⟨g, i * 3 + 1, none⟩ (.int .i64 x.2.1)).setCell ⟨g, i * 3 + 2, none⟩ (.string x.2.2)) := ((ks _ _ _).trans (ks _ _ _) (fun _ _ h => h)).trans (ks _ _ _) (fun _ _ h => h)
  refine ⟨⟨blk_keep h.blk K (fun e => n3 e.symm), ?_, ?_⟩, K⟩
  · rw [namesC_set x hu, List.length_set]
    exact row_keep h.nam (fun b hb => K.block b (h.lt (.inr (.inl hb))) (fun e => (n1 b hb).2 (by rw [e]; rfl)))
  · have rr := row_set (row_set (row_set h.val (i * 3) (.int .i64 x.1)) (i * 3 + 1) (.int .i64 x.2.1)) (i * 3 + 2) (.string x.2.2)
    rw [valsC_set (s := s) x hil] at rr
    rw [List.length_set]
    exact rr

set_option maxHeartbeats 1000000 in
theorem orset_has {P E S : Value} {r i : Nat} {nv vv : Value} {l : List Ent} (w : World) (h : RoAt P E S r nv vv l w) (s : ByteArray) (x : Vl) (hat : atN l s = some i) (hf : l.length ≤ 1000000) :
    Calls Tryz.prog 73 #[.pointer (some ⟨r, 1, none⟩), .string s, vlV x] w fun e w' => e = .returned (.bool false) ∧ RoAt P E S r nv vv (setL l s x) w' ∧ Keep (FtO r nv vv) w w' := by
  obtain ⟨u, hu, hlk⟩ := atN_at hat
  have hil : i < l.length := (List.getElem?_eq_some_iff.1 hu).1
  obtain ⟨g, cap, rfl, hgs, v0, v1, v2, fz⟩ := h.value hu
  obtain ⟨d0, d1⟩ := h.cells
  have hr := h.lt (.inl rfl)
  have hgr := (h.ne.2 g rfl).1
  have A := (Below.refl w.heap.size w).alloc (Nat.le_refl _) (Obj.cells #[.int .i64 x.1, .int .i64 x.2.1, .string x.2.2] 26)
  have HA := hid (oat_calls _ (h.on A) s hf)
  rw [show atV l s = (i : Int) from by unfold atV; rw [hat]] at HA
  have HP := hid (h.put (x := x) hu)
  rw [atN_set x hat] at HP
  have f0 := fz (i * 3)
  have f1 := fz (i * 3 + 1)
  have f2 := fz (i * 3 + 2)
  clear h A hlk hu fz hat
  unfold vlV
  go_enter Tryz.func73, Tryz.ntmps73
  go_wp2_with fail
  refine HA.out.mono ?_
  rintro e1 w1 ⟨rfl, rfl⟩
  go_wp2_with fail
  refine wp_region_held_drew (S := fun a => a.cell? ⟨r, 2, none⟩ = some (.slice (some ⟨g, 0, none⟩) l.length cap) ∧ a.cell? ⟨w.heap.size, 0, none⟩ = some (.int .i64 x.1) ∧ a.cell? ⟨w.heap.size, 1, none⟩ = some (.int .i64 x.2.1) ∧ a.cell? ⟨w.heap.size, 2, none⟩ = some (.string x.2.2)) (by kernel_rfl) ?_ (fun hHeld => ?_)
  · refine ⟨?_, ?_, ?_, ?_⟩ <;> go_simp
  refine tkk 0 ?_
  refine tkk 1 ?_
  refine tkk 2 ?_
  refine tkk 3 ?_
  refine tkk 4 ?_
  refine tkk 5 ?_
  refine tkk 6 ?_
  refine rdy 7 (fun K hK => ?_)
  go_simp
  refine hK.out _ _ ?_ (fun _ => ?_)
  · refine ⟨?_, ?_, ?_, ?_⟩ <;> go_simp
  clear hK K
  refine wpAnyH_done (by kernel_rfl) ?_ _
  go_wp2_with fail
  go_ret
  exact ⟨rfl, HP.out.1.on (((Below.refl _ _).alloc (Nat.le_refl _) _).drew), (HP.out.2.mono (T := FtO r nv (.slice (some ⟨g, 0, none⟩) l.length cap)) (fun b _ e => .inr (.inr (by rw [e]; rfl)))).trans (Keep.of (S := FtO r nv (.slice (some ⟨g, 0, none⟩) l.length cap)) (((Below.refl _ _).alloc (Nat.le_refl _) _).drew)) (fun _ _ h => h)⟩

/-- a name more, in memory -/
theorem RoAt.more1 {P E S : Value} {r g cap : Nat} {nv vv : Value} {l : List Ent} {s : ByteArray} {w a w3 : World} (h : RoAt P E S r nv vv l w) (hB : Below w.heap.size w a) (g3 : a.grownBy w3 nv.ownBlock) (hat : nv.ownBlock = some g ∨ a.heap.size ≤ g)
    (hown : w3.ownsRow 0 9 1 (.slice (some ⟨g, 0, none⟩) (l.length + 1) cap) (l.length + 1) (namesC l ++ [.string s])) :
    Blk r 86 #[P, nv, vv, E, S] w3 ∧ Blk r 86 #[P, .slice (some ⟨g, 0, none⟩) (l.length + 1) cap, vv, E, S] (w3.setCell ⟨r, 1, none⟩ (.slice (some ⟨g, 0, none⟩) (l.length + 1) cap)) ∧
      (w3.setCell ⟨r, 1, none⟩ (.slice (some ⟨g, 0, none⟩) (l.length + 1) cap)).ownsRow 0 9 1 (.slice (some ⟨g, 0, none⟩) (l.length + 1) cap) (l.length + 1) (namesC l ++ [.string s]) ∧
      (w3.setCell ⟨r, 1, none⟩ (.slice (some ⟨g, 0, none⟩) (l.length + 1) cap)).ownsRow 0 26 3 vv l.length (valsC l) ∧
      Keep (FtO r nv vv) w (w3.setCell ⟨r, 1, none⟩ (.slice (some ⟨g, 0, none⟩) (l.length + 1) cap)) ∧ (FtO r nv vv g ∨ w.heap.size ≤ g) := by
  obtain ⟨n1, n2⟩ := h.ne
  have hs1 := hB.size
  have hs2 := g3.size
  have hr := h.lt (b := r) (.inl rfl)
  have e3 : ∀ k, k < w.heap.size → nv.ownBlock ≠ some k → w3.heap[k]? = w.heap[k]? := fun k hk hn => (g3.block k (by omega) (fun e => hn e.symm)).trans (hB.block k hk)
  have b3 : Blk r 86 #[P, nv, vv, E, S] w3 := (e3 r hr (fun e => (n1 r e).1 rfl)).trans h.blk
  have K3 := Keep.set (S := fun b => b = r) rfl w3 1 (.slice (some ⟨g, 0, none⟩) (l.length + 1) cap)
  obtain ⟨cur, hcur⟩ := row_lt hown (g := g) rfl
  have hgr : g ≠ r := fun e => by
    have hb : w3.heap[r]? = _ := b3
    rw [← e, hcur] at hb; cases hb
  refine ⟨b3, blk_set b3 1 _, row_keep hown (fun k hk => ?_), row_keep h.val (fun k hk => ?_), ?_, ?_⟩
  · simp [Value.ownBlock] at hk
    subst hk
    exact K3.block g (blk_lt hcur) hgr
  · rw [K3.block k (Nat.lt_of_lt_of_le (h.lt (.inr (.inr hk))) (by omega)) (n2 k hk).1]
    exact e3 k (h.lt (.inr (.inr hk))) (n2 k hk).2
  · refine Keep.trans (S := FtO r nv vv) (b := w3) ⟨g3.os.trans hB.os, g3.tape.trans hB.tape, g3.output.trans hB.output, by omega, fun k hk hn => e3 k hk (fun e => hn (.inr (.inl e)))⟩ K3 (fun k _ e => .inl e)
  · rcases hat with h1 | h1
    · exact .inl (.inr (.inl h1))
    · exact .inr (by omega)
theorem RoAt.more2 {P E S : Value} {r g g' cap cap' H : Nat} {nv vv : Value} {l : List Ent} {s : ByteArray} {x : Vl} {w w4 b w5 : World} (h : RoAt P E S r nv vv l w) (hg' : FtO r nv vv g' ∨ w.heap.size ≤ g')
    (h2 : Blk r 86 #[P, .slice (some ⟨g', 0, none⟩) (l.length + 1) cap', vv, E, S] w4) (h3 : w4.ownsRow 0 9 1 (.slice (some ⟨g', 0, none⟩) (l.length + 1) cap') (l.length + 1) (namesC l ++ [.string s])) (h3v : w4.ownsRow 0 26 3 vv l.length (valsC l))
    (h4 : Keep (FtO r nv vv) w w4) (hb : Below w4.heap.size w4 b) (g5 : b.grownBy w5 vv.ownBlock) (hat : vv.ownBlock = some g ∨ g = H) (hH : w.heap.size ≤ H)
    (hown : w5.ownsRow 0 26 3 (.slice (some ⟨g, 0, none⟩) (l.length + 1) cap) (l.length + 1) (valsC l ++ valC x)) :
    Blk r 86 #[P, .slice (some ⟨g', 0, none⟩) (l.length + 1) cap', vv, E, S] w5 ∧ RoAt P E S r (.slice (some ⟨g', 0, none⟩) (l.length + 1) cap') (.slice (some ⟨g, 0, none⟩) (l.length + 1) cap) (l ++ [(s, x)]) (w5.setCell ⟨r, 2, none⟩ (.slice (some ⟨g, 0, none⟩) (l.length + 1) cap)) ∧
      Keep (FtO r nv vv) w (w5.setCell ⟨r, 2, none⟩ (.slice (some ⟨g, 0, none⟩) (l.length + 1) cap)) ∧ ∀ k, FtO r (.slice (some ⟨g', 0, none⟩) (l.length + 1) cap') (.slice (some ⟨g, 0, none⟩) (l.length + 1) cap) k → FtO r nv vv k ∨ w.heap.size ≤ k := by
  obtain ⟨n1, n2⟩ := h.ne
  have hs1 := hb.size
  have hs2 := g5.size
  have hs3 := h4.size
  have hr4 := blk_lt h2
  have e5 : ∀ k, k < w4.heap.size → vv.ownBlock ≠ some k → w5.heap[k]? = w4.heap[k]? := fun k hk hn => (g5.block k (by omega) (fun e => hn e.symm)).trans (hb.block k hk)
  have b5 : Blk r 86 #[P, .slice (some ⟨g', 0, none⟩) (l.length + 1) cap', vv, E, S] w5 := (e5 r hr4 (fun e => (n2 r e).1 rfl)).trans h2
  have K5 := Keep.set (S := fun b => b = r) rfl w5 2 (.slice (some ⟨g, 0, none⟩) (l.length + 1) cap)
  obtain ⟨cur, hcur⟩ := row_lt hown (g := g) rfl
  obtain ⟨cn, hcn⟩ := row_lt h3 (g := g') rfl
  have hgr : g ≠ r := fun e => by
    have hb : w5.heap[r]? = _ := b5
    rw [← e, hcur] at hb; cases hb
  have hgr' : g' ≠ r := fun e => by
    have hb : w4.heap[r]? = _ := h2
    rw [← e, hcn] at hb; cases hb
  have hne : vv.ownBlock ≠ some g' := fun e => by
    obtain ⟨c, hc⟩ := row_lt h3v e
    have hb : w4.heap[g']? = _ := hcn
    rw [hc] at hb; cases hb
  refine ⟨b5, ⟨blk_set b5 2 _, ?_, ?_⟩, ?_, ?_⟩
  · have := row_keep (c := w5.setCell ⟨r, 2, none⟩ (.slice (some ⟨g, 0, none⟩) (l.length + 1) cap)) h3 (fun k hk => by
      simp [Value.ownBlock] at hk
      subst hk
      have h1 := e5 g' (blk_lt hcn) hne
      have h2 : g' < w5.heap.size := by have := blk_lt hcn; omega
      exact (K5.block g' h2 hgr').trans h1)
    simpa [namesC] using this
  · have := row_keep (c := w5.setCell ⟨r, 2, none⟩ (.slice (some ⟨g, 0, none⟩) (l.length + 1) cap)) hown (fun k hk => by
      simp [Value.ownBlock] at hk
      subst hk
      exact K5.block g (blk_lt hcur) hgr)
    rw [valsC_append, List.length_append]
    simpa [valsC] using this
  · refine Keep.trans (S := FtO r nv vv) (b := w5) ?_ K5 (fun k _ e => .inl e)
    exact ⟨g5.os.trans (hb.os.trans h4.os), g5.tape.trans (hb.tape.trans h4.tape), g5.output.trans (hb.output.trans h4.output), by omega, fun k hk hn => (e5 k (by omega) (fun e => hn (.inr (.inr e)))).trans (h4.block k hk hn)⟩
  · rintro k (rfl | hk | hk)
    · exact .inl (.inl rfl)
    · simp [Value.ownBlock] at hk
      subst hk
      exact hg'
    · simp [Value.ownBlock] at hk
      subst hk
      rcases hat with h1 | h1
      · exact .inl (.inr (.inr h1))
      · exact .inr (by omega)

set_option maxHeartbeats 2000000 in
theorem orset_new {P E S : Value} {r : Nat} {nv vv : Value} {l : List Ent} (w : World) (h : RoAt P E S r nv vv l w) (s : ByteArray) (x : Vl) (hat : atN l s = none) (hf : l.length ≤ 1000000) :
    Calls Tryz.prog 73 #[.pointer (some ⟨r, 1, none⟩), .string s, vlV x] w fun e w' => e = .returned (.bool true) ∧
      ∃ nv' vv', RoAt P E S r nv' vv' (l ++ [(s, x)]) w' ∧ Keep (FtO r nv vv) w w' ∧ ∀ k, FtO r nv' vv' k → FtO r nv vv k ∨ w.heap.size ≤ k := by
  obtain ⟨i0, hi, hz0, hz1, hz2⟩ := infoVl
  obtain ⟨na, nc, rfl⟩ := row_shape h.nam
  obtain ⟨va, vc, rfl⟩ := row_shape h.val
  obtain ⟨d0, d1⟩ := h.cells
  have hr := h.lt (.inl rfl)
  have A := (Below.refl w.heap.size w).alloc (Nat.le_refl _) (Obj.cells #[.int .i64 x.1, .int .i64 x.2.1, .string x.2.2] 26)
  have HA := hid (oat_calls _ (h.on A) s hf)
  rw [show atV l s = -1 from by unfold atV; rw [hat]] at HA
  have HB := hid A
  have HP := hid h
  have HN := hid (show StrsOwn 0 (.slice na l.length nc) (l.map (·.1)) (w.alloc (Obj.cells #[.int .i64 x.1, .int .i64 x.2.1, .string x.2.2] 26)) from names_strs (h.on A).nam (fun g _ => Nat.zero_le _))
  have hfl : (l.map (·.1)).length ≤ 1000000 := by rw [List.length_map]; exact hf
  clear h A hat
  unfold vlV
  go_enter Tryz.func73, Tryz.ntmps73
  go_wp2_with fail
  refine HA.out.mono ?_
  rintro e1 w1 ⟨rfl, rfl⟩
  go_wp2_with (first | (at_builtin; refine strs_app rfl _ _ rfl 0 _ s _ (by rfl) HN.out _ (by rfl) (by simp) hfl (Nat.zero_le _) ?_; intro g cp w3 hS3 hg3 hat3; simp only [List.length_map] at hS3; have M1 := HP.out.more1 (s := s) HB.out hg3 hat3 (strs_names1 hS3); have q0 : w3.cell? ⟨r, 1, none⟩ = some (.slice na l.length nc) := (by rw [blk_cell M1.1]; rfl); have q1 : w3.frozen? ⟨r, 1, none⟩ = false := blk_free M1.1 1; have HM1 := hid M1; have HG3 := hid hg3; clear hS3 M1 hat3 hg3) | fail)
  have hbx : Blk w.heap.size 26 #[.int .i64 x.1, .int .i64 x.2.1, .string x.2.2] (w3.setCell ⟨r, 1, none⟩ (.slice (some ⟨g, 0, none⟩) (l.length + 1) cp)) := by
    refine blk_keep (S := fun b => b = r) ?_ (Keep.set (S := fun b => b = r) rfl w3 1 _) (by omega)
    refine (HG3.out.block w.heap.size (by simp) (fun e => ?_)).trans (blk_new w _ _)
    have := HP.out.lt (b := w.heap.size) (.inr (.inl e.symm))
    omega
  obtain ⟨m1, m2, m3, m4, m5, m6⟩ := HM1.out
  generalize w3.setCell ⟨r, 1, none⟩ (.slice (some ⟨g, 0, none⟩) (l.length + 1) cp) = w4 at *
  have HM2 := hid m2
  have HM3 := hid m3
  have HM4 := hid m4
  have HM5 := hid m5
  have HFG := hid m6
  have hz5 := m5.size
  have hsz2 : w.heap.size < w4.heap.size := blk_lt hbx
  obtain ⟨x0, x1, x2⟩ : w4.cell? ⟨w.heap.size, 0, none⟩ = some (.int .i64 x.1) ∧ w4.cell? ⟨w.heap.size, 1, none⟩ = some (.int .i64 x.2.1) ∧ w4.cell? ⟨w.heap.size, 2, none⟩ = some (.string x.2.2) := ⟨by rw [blk_cell hbx]; rfl, by rw [blk_cell hbx]; rfl, by rw [blk_cell hbx]; rfl⟩
  have c1 : w4.cell? ⟨r, 2, none⟩ = some (.slice va l.length vc) := by rw [blk_cell m2]; rfl
  clear HM1 m1 m2 m3 m4 m5 m6 hbx q0 q1 HA HG3
  have hp2 : r < w4.heap.size := by omega
  have RW := hid (show World.ownsRow (w4.alloc (Obj.cells #[.int .i64 x.1, .int .i64 x.2.1, .string x.2.2] 26)).drew 0 26 3 (.slice va l.length vc) l.length (valsC l) from row_keep HM4.out (fun g hg => ((Below.refl w4.heap.size w4).alloc (Nat.le_refl _) (Obj.cells #[.int .i64 x.1, .int .i64 x.2.1, .string x.2.2] 26)).drew.block g (by
    obtain ⟨cur, hc⟩ := row_lt HM4.out hg
    exact blk_lt hc)))
  have NW := hid (World.news_of_block (w := (w4.alloc (Obj.cells #[.int .i64 x.1, .int .i64 x.2.1, .string x.2.2] 26)).drew) (show (w4.alloc (Obj.cells #[.int .i64 x.1, .int .i64 x.2.1, .string x.2.2] 26)).drew.heap[w4.heap.size]? = _ from heap_alloc_new w4 (Obj.cells #[.int .i64 x.1, .int .i64 x.2.1, .string x.2.2] 26)))
  have BL := hid (((Below.refl w4.heap.size w4).alloc (Nat.le_refl _) (Obj.cells #[.int .i64 x.1, .int .i64 x.2.1, .string x.2.2] 26)).drew)
  have HLT := hid (show w.heap.size < (w4.alloc (Obj.cells #[.int .i64 x.1, .int .i64 x.2.1, .string x.2.2] 26)).drew.heap.size from Nat.lt_of_lt_of_le hsz2 BL.out.size)
  have NE := hid (show some w.heap.size ≠ (Value.slice va l.length vc).ownBlock from fun e => by have := HP.out.lt (b := w.heap.size) (.inr (.inr e.symm)); omega)
  refine wp_region_held_drew (S := (fun a => a.cell? ⟨w.heap.size, 0, none⟩ = some (.int .i64 x.1) ∧ a.cell? ⟨w.heap.size, 1, none⟩ = some (.int .i64 x.2.1) ∧ a.cell? ⟨w.heap.size, 2, none⟩ = some (.string x.2.2))) (by kernel_rfl) ⟨x0, x1, x2⟩ (fun hHeld => ?_)
  refine tkk 0 ?_
  refine tkk 1 ?_
  refine tkk 2 ?_
  refine tkk 3 ?_
  refine tkk 5 ?_
  refine wpAnyH_ready (rs := [4, 6]) (by kernel_rfl) (by simp) ?_
  refine AllReadyH.cons rfl (fun K hK => ?_) (AllReadyH.cons rfl (fun K hK => ?_) AllReadyH.nil)
  · go_simp
    refine hK.out _ _ ⟨x0, x1, x2⟩ (fun _ => ?_)
    clear hK K
    refine rdy 6 (fun K hK => ?_)
    go_simp
    refine hK.out _ _ ?_ (fun _ => ?_)
    · refine ⟨?_, ?_, ?_⟩ <;> go_simp
    clear hK K
    refine rdy 7 (fun K hK => ?_)
    refine step_append_lies _ rfl _ _ 82 rfl 0 26 i0 _ 3 32 underVl hi hz0 hz1 hz2 rfl (by decide) (.slice va l.length vc) l.length (valsC l) rfl RW.out ⟨w4.heap.size, 0, none⟩ 1 1 (valC x) rfl rfl NW.out (valC_one _) (by decide) (by unfold maxLen; omega) (by omega) (Nat.zero_le _) (w4.heap.size + 1) (by simp) ?_
    intro g5 c5 w5 hown hgrow hat hlt
    have q := HP.out.more2 (x := x) HFG.out HM2.out HM3.out HM4.out HM5.out BL.out hgrow hat (by omega) hown
    have W := hid q.2
    have q0 : w5.cell? ⟨r, 2, none⟩ = some (.slice va l.length vc) := by rw [blk_cell q.1]; rfl
    have q1 : w5.frozen? ⟨r, 2, none⟩ = false := blk_free q.1 2
    have y0 : w5.cell? ⟨w.heap.size, 0, none⟩ = some (.int .i64 x.1) := (hgrow.cell_far ⟨w.heap.size, 0, none⟩ HLT.out NE.out).trans (by go_simp)
    have y1 : w5.cell? ⟨w.heap.size, 1, none⟩ = some (.int .i64 x.2.1) := (hgrow.cell_far ⟨w.heap.size, 1, none⟩ HLT.out NE.out).trans (by go_simp)
    have y2 : w5.cell? ⟨w.heap.size, 2, none⟩ = some (.string x.2.2) := (hgrow.cell_far ⟨w.heap.size, 2, none⟩ HLT.out NE.out).trans (by go_simp)
    refine hK.out _ _ ⟨y0, y1, y2⟩ (fun _ => ?_)
    clear hK K hown hgrow q
    try simp only [Act.put, List.setIfInBounds_toArray, List.set_cons_zero, List.set_cons_succ, List.getElem_toArray, List.getElem_cons_succ, List.getElem_cons_zero]
    refine tkk 8 ?_
    refine tkk 9 ?_
    refine rdy 10 (fun K hK => ?_)
    go_simp
    refine hK.out _ _ ?_ (fun _ => ?_)
    · have hne : r ≠ w.heap.size := by omega
      refine ⟨?_, ?_, ?_⟩ <;> go_simp
    clear hK K
    refine wpAnyH_done (by kernel_rfl) ?_ _
    go_wp2_with fail
    go_ret
    exact ⟨rfl, _, _, W.out⟩
  · go_simp
    refine hK.out _ _ ?_ (fun _ => ?_)
    · refine ⟨?_, ?_, ?_⟩ <;> go_simp
    clear hK K
    refine rdy 4 (fun K hK => ?_)
    go_simp
    refine hK.out _ _ ?_ (fun _ => ?_)
    · refine ⟨?_, ?_, ?_⟩ <;> go_simp
    clear hK K
    refine rdy 7 (fun K hK => ?_)
    refine step_append_lies _ rfl _ _ 82 rfl 0 26 i0 _ 3 32 underVl hi hz0 hz1 hz2 rfl (by decide) (.slice va l.length vc) l.length (valsC l) rfl RW.out ⟨w4.heap.size, 0, none⟩ 1 1 (valC x) rfl rfl NW.out (valC_one _) (by decide) (by unfold maxLen; omega) (by omega) (Nat.zero_le _) (w4.heap.size + 1) (by simp) ?_
    intro g5 c5 w5 hown hgrow hat hlt
    have q := HP.out.more2 (x := x) HFG.out HM2.out HM3.out HM4.out HM5.out BL.out hgrow hat (by omega) hown
    have W := hid q.2
    have q0 : w5.cell? ⟨r, 2, none⟩ = some (.slice va l.length vc) := by rw [blk_cell q.1]; rfl
    have q1 : w5.frozen? ⟨r, 2, none⟩ = false := blk_free q.1 2
    have y0 : w5.cell? ⟨w.heap.size, 0, none⟩ = some (.int .i64 x.1) := (hgrow.cell_far ⟨w.heap.size, 0, none⟩ HLT.out NE.out).trans (by go_simp)
    have y1 : w5.cell? ⟨w.heap.size, 1, none⟩ = some (.int .i64 x.2.1) := (hgrow.cell_far ⟨w.heap.size, 1, none⟩ HLT.out NE.out).trans (by go_simp)
    have y2 : w5.cell? ⟨w.heap.size, 2, none⟩ = some (.string x.2.2) := (hgrow.cell_far ⟨w.heap.size, 2, none⟩ HLT.out NE.out).trans (by go_simp)
    refine hK.out _ _ ⟨y0, y1, y2⟩ (fun _ => ?_)
    clear hK K hown hgrow q
    try simp only [Act.put, List.setIfInBounds_toArray, List.set_cons_zero, List.set_cons_succ, List.getElem_toArray, List.getElem_cons_succ, List.getElem_cons_zero]
    refine tkk 8 ?_
    refine tkk 9 ?_
    refine rdy 10 (fun K hK => ?_)
    go_simp
    refine hK.out _ _ ?_ (fun _ => ?_)
    · have hne : r ≠ w.heap.size := by omega
      refine ⟨?_, ?_, ?_⟩ <;> go_simp
    clear hK K
    refine wpAnyH_done (by kernel_rfl) ?_ _
    go_wp2_with fail
    go_ret
    exact ⟨rfl, _, _, W.out⟩

end Go.Proofs.YtemidicgipebjaaGreat

namespace Go.Proofs.YtemidicgipebjaaGreat
set_option linter.unusedSimpArgs false
set_option maxRecDepth 100000
open Go.RowKit

theorem orset_calls {P E S : Value} {r : Nat} {nv vv : Value} {l : List Ent} (w : World) (h : RoAt P E S r nv vv l w) (s : ByteArray) (x : Vl) (hf : l.length ≤ 1000000) :
    Calls Tryz.prog 73 #[.pointer (some ⟨r, 1, none⟩), .string s, vlV x] w fun e w' => e = .returned (.bool (!hasL l s)) ∧
      ∃ nv' vv', RoAt P E S r nv' vv' (setL l s x) w' ∧ Keep (FtO r nv vv) w w' ∧ ∀ k, FtO r nv' vv' k → FtO r nv vv k ∨ w.heap.size ≤ k := by
  cases hat : atN l s with
  | some i =>
    rw [show hasL l s = true from by rw [← atN_has, hat]; rfl]
    refine (orset_has w h s x hat hf).mono ?_
    rintro e w' ⟨rfl, h1, h2⟩
    exact ⟨rfl, nv, vv, h1, h2, fun k hk => .inl hk⟩
  | none =>
    have hh : hasL l s = false := by rw [← atN_has, hat]; rfl
    rw [hh]
    refine (orset_new w h s x hat hf).mono ?_
    rintro e w' ⟨rfl, h1⟩
    exact ⟨rfl, by rw [setL_new x hh]; exact h1⟩
/-- values of one's own -/
def ValsOwn (lo : Nat) (v : Value) (l : List Ent) (w : World) : Prop := w.ownsRow 0 26 3 v l.length (valsC l) ∧ ∀ g, v.ownBlock = some g → lo ≤ g
theorem valsOwn_on {lo : Nat} {v : Value} {l : List Ent} {a c : World} (h : ValsOwn lo v l a) (k : Below a.heap.size a c) : ValsOwn lo v l c :=
  ⟨row_keep h.1 (fun g hg => k.block g (by obtain ⟨cur, hc⟩ := row_lt h.1 hg; exact blk_lt hc)), h.2⟩
theorem vals_app {ops : Array Oper} {rest : List Oper} {o : Oper} {a : Act} {Q : Exit → Act → World → Prop} {w : World} (hgd : o.guard = none) (s x : Operand)
    (ho : o.op = .call { callee := .builtin .append, args := #[s, x], argTypes := #[82, 82] })
    (lo : Nat) (l : List Ent) (t : Ent) (v : Value) (hs : a.eval s = v) (hown : ValsOwn lo v l w)
    (nb : Nat) (hx : a.eval x = .slice (some ⟨nb, 0, none⟩) 1 1) (hnb : nb = w.heap.size) (hlen : l.length ≤ 1000000) (hlo : lo ≤ w.heap.size)
    (h : ∀ g cap w', ValsOwn lo (.slice (some ⟨g, 0, none⟩) (l.length + 1) cap) (l ++ [t]) w' → w.grownBy w' v.ownBlock → wpList Tryz.prog ops Q rest (a.put o.dst (.slice (some ⟨g, 0, none⟩) (l.length + 1) cap)) w') :
    wpList Tryz.prog ops Q (o :: rest) a (w.alloc (.cells #[.int .i64 t.2.1, .int .i64 t.2.2.1, .string t.2.2.2] 26)) := by
  subst hnb
  obtain ⟨i0, hi, hz0, hz1, hz2⟩ := infoVl
  have A := (Below.refl w.heap.size w).alloc (Nat.le_refl _) (.cells #[.int .i64 t.2.1, .int .i64 t.2.2.1, .string t.2.2.2] 26)
  refine wpList_append_lies _ hgd s x 82 ho 0 26 i0 _ 3 32 underVl hi hz0 hz1 hz2 rfl (by decide) v l.length _ hs (valsOwn_on hown A).1 ⟨w.heap.size, 0, none⟩ 1 1 (valC t.2) hx rfl (World.news_of_block (heap_alloc_new w (.cells #[.int .i64 t.2.1, .int .i64 t.2.2.1, .string t.2.2.2] 26))) (valC_one _) (by decide) (by unfold maxLen; omega) (by omega) (Nat.zero_le _) (w.heap.size + 1) (by simp) ?_
  intro g cap w' hown' hgrow hat hlt
  refine h g cap w' ⟨?_, fun k hk => ?_⟩ ?_
  · rw [List.length_append, valsC_append]
    simpa [valsC] using hown'
  · simp [Value.ownBlock] at hk
    subst hk
    rcases hat with h1 | h1
    · exact hown.2 _ h1
    · omega
  · refine ⟨hgrow.os.trans A.os, hgrow.tape.trans A.tape, hgrow.output.trans A.output, Nat.le_trans A.size hgrow.size, fun k hk hne => ?_⟩
    rw [hgrow.block k (by simp; omega) hne, A.block k hk]

theorem drop_take {l : List Ent} {s : ByteArray} {j : Nat} {e : Ent} (h : l[j]? = some e) : dropL (l.take (j + 1)) s = dropL (l.take j) s ++ (if e.1 = s then [] else [e]) := by
  rw [List.take_add_one, h]
  unfold dropL
  rw [List.filter_append]
  by_cases he : e.1 = s <;> simp [he]
theorem atV_is {l : List Ent} {s : ByteArray} {j : Nat} {e : Ent} (ho : OnceL l) (h : l[j]? = some e) : (atV l s = (j : Int)) ↔ e.1 = s := by
  unfold atV
  constructor
  · intro hh
    cases hat : atN l s with
    | none => rw [hat] at hh; simp at hh
    | some i =>
      rw [hat] at hh
      have : i = j := by simp at hh; omega
      subst this
      obtain ⟨v, h1, _⟩ := atN_at hat
      rw [h] at h1
      cases h1; rfl
  · intro he
    cases hat : atN l s with
    | none =>
      have : hasL l s = false := by rw [← atN_has, hat]; rfl
      have h2 := hasL_iff.2 ⟨e, List.mem_of_getElem? h, he⟩
      rw [this] at h2; cases h2
    | some i =>
      obtain ⟨v, h1, _⟩ := atN_at hat
      have hi : i < l.length := (List.getElem?_eq_some_iff.1 h1).1
      have hnd : (l.map (fun e => e.1)).Nodup := ho
      have : i = j := (List.getElem?_inj (by rw [List.length_map]; exact hi) hnd).1 (by rw [List.getElem?_map, List.getElem?_map, h1, h]; simp [he])
      rw [this]

set_option maxHeartbeats 2000000 in
theorem ordel_calls {P E S : Value} {r : Nat} {nv vv : Value} {l : List Ent} (w : World) (h : RoAt P E S r nv vv l w) (hone : OnceL l) (s : ByteArray) (hf : l.length ≤ 1000000) :
    Calls Tryz.prog 74 #[.pointer (some ⟨r, 1, none⟩), .string s] w fun e w' => e = .returned (.bool (hasL l s)) ∧
      ∃ nv' vv', RoAt P E S r nv' vv' (dropL l s) w' ∧ Keep (FtO r nv vv) w w' ∧ ∀ k, FtO r nv' vv' k → FtO r nv vv k ∨ w.heap.size ≤ k := by
  obtain ⟨na, nc, rfl⟩ := row_shape h.nam
  obtain ⟨va, vc, rfl⟩ := row_shape h.val
  have HA := hid (oat_calls w h s hf)
  have H := hid h
  have hr := h.lt (.inl rfl)
  have HO := hid hone
  have HV := hid (show decide (0 ≤ atV l s) = hasL l s by
    rw [← atN_has]; unfold atV
    cases atN l s with
    | none => rfl
    | some i => exact decide_eq_true (Int.natCast_nonneg i))
  obtain ⟨V, hV⟩ : ∃ V, atV l s = V := ⟨_, rfl⟩
  have HVV := hid hV
  rw [hV] at HA HV
  clear h hone hV
  go_enter Tryz.func74, Tryz.ntmps74
  go_wp2_with fail
  refine HA.out.mono ?_
  rintro e1 w1 ⟨rfl, rfl⟩
  go_wp2_with fail
  go_loopw [6, 7, 8] (fun a b i wr => ∃ j : Nat, j ≤ l.length ∧ i = .int .i64 j ∧ Hid (StrsOwn w1.heap.size a ((dropL (l.take j) s).map (·.1)) wr) ∧ Hid (ValsOwn w1.heap.size b (dropL (l.take j) s) wr) ∧ Hid (Below w1.heap.size w1 wr)) (fun _ _ i _ => l.length - (intOf i).toNat)
  case atStart => exact ⟨0, by omega, rfl, hid ⟨⟨rfl, .inl ⟨rfl, rfl⟩⟩, fun g hg => by simp [Value.ownBlock] at hg⟩, hid ⟨⟨rfl, .inl ⟨rfl, rfl⟩⟩, fun g hg => by simp [Value.ownBlock] at hg⟩, hid (Below.refl _ _)⟩
  case round =>
    obtain ⟨j, hj, rfl, hN, hW, hB⟩ := hrel
    have hR := H.out.on hB.out
    obtain ⟨d0, d1⟩ := hR.cells
    have hz := hid hB.out.size
    by_cases hjl : j < l.length
    · obtain ⟨e, he⟩ : ∃ e, l[j]? = some e := ⟨l[j], List.getElem?_eq_getElem hjl⟩
      have hdt := hid (drop_take (s := s) he)
      have hV2 := atV_is (s := s) HO.out he
      rw [HVV.out] at hV2
      by_cases hes : e.1 = s
      · have hVj := hV2.2 hes
        subst hVj
        clear hV2 hR
        go_wp2_with fail
        refine ⟨⟨j + 1, by omega, by simp, ?_, ?_, hB⟩, by simp [intOf]; omega⟩
        · rw [hdt.out, if_pos hes, List.append_nil]; exact hN
        · rw [hdt.out, if_pos hes, List.append_nil]; exact hW
      · have hVj : ((j : Int) != V) = true := by rw [bne_iff_ne]; exact fun e => hes (hV2.1 e.symm)
        obtain ⟨g, cp, hg, hgl, c2⟩ := hR.name he
        injection hg with hg1 hg2 hg3
        subst hg1 hg3
        obtain ⟨g', cp', hg', hgl', v0, v1, v2, _⟩ := hR.value he
        injection hg' with hg1' hg2' hg3'
        subst hg1' hg3'
        have hl2 : (dropL (l.take j) s).length ≤ 1000000 := by
          have h1 := List.length_filter_le (fun e => decide (e.1 ≠ s)) (l.take j)
          rw [List.length_take] at h1
          unfold dropL
          omega
        have HL1 := hid (show ((dropL (l.take j) s).map (·.1)).length ≤ 1000000 by rw [List.length_map]; exact hl2)
        have HL2 := hid hl2
        clear hV2 hR hl2
        go_wp2_with (first
          | (at_builtin; refine strs_app rfl _ _ rfl w1.heap.size _ e.1 _ (by rfl) hN.out _ (by rfl) (by simp) HL1.out hz.out ?_; intro g2 cp2 w3 hS3 hg3 hat3; simp only [List.length_map] at hS3; have S3 := hid hS3; have B3 := hid (hB.out.grown hg3 hz.out (fun k hk => hN.out.2 k hk)); have W3 := hid (show ValsOwn w1.heap.size _ (dropL (l.take j) s) w3 from ⟨row_keep hW.out.1 (fun k hk => hg3.block k (by obtain ⟨cur, hc⟩ := row_lt hW.out.1 hk; exact blk_lt hc) (fun e2 => by obtain ⟨c3, hc3⟩ := row_lt hW.out.1 hk; obtain ⟨c4, hc4⟩ := row_lt hN.out.1 e2.symm; unfold Blk at hc3 hc4; rw [hc3] at hc4; cases hc4)), hW.out.2⟩); have z3 := hid B3.out.size; obtain ⟨d2, d3⟩ := (H.out.on B3.out).cells; obtain ⟨g6, cp6, hg6, hgl6, v3, v4, v5, _⟩ := (H.out.on B3.out).value he; injection hg6 with hg6a hg6b hg6c; injection hg6a with hg6a; injection hg6a with hg6a; subst hg6a; clear hS3 hg3 hat3 hg6b hg6c)
          | (at_builtin; refine vals_app rfl _ _ rfl w1.heap.size _ e _ (by rfl) W3.out _ (by rfl) (by simp) HL2.out z3.out ?_; intro g7 cp7 w7 hS7 hg7; have S7 := hid hS7; have B7 := hid (B3.out.grown hg7 z3.out (fun k hk => W3.out.2 k hk)); have N7 := hid (strsOwn_keep (S := fun b => Value.ownBlock _ = some b) S3.out (Keep.grown hg7 (fun k hk => hk)) (fun k hk e2 => by obtain ⟨c3, hc3⟩ := row_lt S3.out.1 hk; obtain ⟨c4, hc4⟩ := row_lt W3.out.1 e2; unfold Blk at hc3 hc4; rw [hc3] at hc4; cases hc4)); clear hS7 hg7)
          | fail)
        refine ⟨⟨j + 1, by omega, by simp, ?_, ?_, B7⟩, by simp [intOf]; omega⟩
        · rw [hdt.out, if_neg hes, List.map_append]; exact N7
        · rw [hdt.out, if_neg hes]; exact S7
    · have hje : j = l.length := by omega
      subst hje
      rw [List.take_length] at hN hW
      obtain ⟨na2, nc2, rfl⟩ := row_shape hN.out.1
      obtain ⟨va2, vc2, rfl⟩ := row_shape hW.out.1
      simp only [List.length_map] at hN
      have f0 := blk_free hR.blk 1
      have f1 := blk_free hR.blk 2
      have R2 := hid hR
      clear hR
      go_wp2_with fail
      go_ret
      have hrw : r < wr.heap.size := R2.out.lt (.inl rfl)
      have K := (Keep.set (S := fun b => b = r) rfl wr 1 (.slice na2 (dropL l s).length nc2)).trans (Keep.set (S := fun b => b = r) rfl (wr.setCell ⟨r, 1, none⟩ (.slice na2 (dropL l s).length nc2)) 2 (.slice va2 (dropL l s).length vc2)) (fun _ _ h => h)
      refine ⟨by rw [← HV.out]; rfl, .slice na2 (dropL l s).length nc2, .slice va2 (dropL l s).length vc2, ⟨blk_set (blk_set R2.out.blk 1 _) 2 _, ?_, ?_⟩, ?_, ?_⟩
      · exact row_keep (strs_names hN.out) (fun k hk => K.block k (by obtain ⟨cur, hc⟩ := row_lt (strs_names hN.out) hk; exact blk_lt hc) (fun e => by have := hN.out.2 k hk; omega))
      · exact row_keep hW.out.1 (fun k hk => K.block k (by obtain ⟨cur, hc⟩ := row_lt hW.out.1 hk; exact blk_lt hc) (fun e => by have := hW.out.2 k hk; omega))
      · exact (Keep.of (S := FtO r (.slice na l.length nc) (.slice va l.length vc)) hB.out).trans (K.mono (T := FtO r (.slice na l.length nc) (.slice va l.length vc)) (fun b _ e => .inl e)) (fun _ _ h => h)
      · rintro k (rfl | hk | hk)
        · exact .inl (.inl rfl)
        · exact .inr (hN.out.2 k hk)
        · exact .inr (hW.out.2 k hk)

end Go.Proofs.YtemidicgipebjaaGreat
