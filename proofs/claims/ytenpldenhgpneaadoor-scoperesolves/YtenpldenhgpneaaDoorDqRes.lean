/- The document's Resolve. -/
import Derived.Test.YtenpldenhgpneaaDoorDqFun
import Derived.Test.YtenpldenhgpneaaDoorScFine
import Derived.Test.YtenpldenhgpneaaDoorRfRight
import Derived.Laws.MakeOwn
namespace Go.Proofs.YtenpldenhgpneaaDoor
set_option linter.unusedSimpArgs false
set_option linter.unusedVariables false
open Go.RowKit

theorem nodeD_calls (t : Nd) : NodeD t := by
  refine Nd.ind (P := NodeD) ?_ t
  intro k o n s ns ks p ih
  refine nodeD_of k o n s ns ks p (nodesD_of ks ih) (fun h8 => ?_)
  subst h8
  intro s' G fv wv at_ gl lo ov fs ok nv kv B w hS hD hV hlo hgl hN hB hBs hfB hokB hsm hc h32
  exact nodeD_8 o n s ns ks p (funD_of o n s ns ks p (nodesD_of ks ih) (letsD_calls ks (by rw [countN] at hc; omega))) s' G fv wv at_ gl lo ov fs ok nv kv B w hS hD hV hlo hgl hN hB hBs hfB hokB hsm hc h32
theorem nodesD_calls (ks : List Nd) : NodesD ks := nodesD_of ks (fun x _ => nodeD_calls x)
def ResOutD (w : World) (x : Rz Up8) (e : Ending) (w' : World) : Prop :=
  Below w.heap.size w w' ∧ match x with
  | .bad p er => e = .returned (.tuple #[.agg #[.int .i64 0, .slice none 0 0], .int .i64 p, .int .i64 er])
  | .ok (G, fs) => ∃ fv, e = .returned (.tuple #[.agg #[.int .i64 (G : Int), fv], .int .i64 0, .int .i64 0]) ∧ FnsIn w'.heap.size w' fv (fqs fs)
theorem make_fn (w : World) : (Instr.makeSlice 28 (.int .i64 1) (.int .i64 1)).run Tryd.prog w = .ok (.slice (some ⟨w.heap.size, 0, none⟩) 1 1) (w.alloc (.cells #[.int .i64 0, .int .i64 0, .slice none 0 0] 45)) := by
  obtain ⟨hu, i, z0, hi, hz, hzc, hs, hb⟩ := elFnD
  obtain ⟨i', hi', hz', hs', hb'⟩ := info_parts (show (Tryd.prog.info? 45).map (fun i => (i.zero, i.size, i.bytes)) = some (some (.agg #[.int .i64 0, .int .i64 0, .slice none 0 0]), 3, 40) by kernel_rfl)
  have hr := run_make (P := Tryd.prog) w 28 45 i' _ hu hi' hz' .i64 .i64 1 1 (by decide) (by decide) (by rw [hb']; decide) (by decide)
  rw [hs'] at hr
  have hm : madeCells (Value.agg #[Value.int IntKind.i64 0, Value.int IntKind.i64 0, Value.slice none 0 0]).cells (Int.toNat 1 * 3) = #[Value.int IntKind.i64 0, Value.int IntKind.i64 0, Value.slice none 0 0] := by first | kernel_rfl | rfl | decide
  rw [hm] at hr
  exact hr

set_option maxRecDepth 100000 in
set_option maxHeartbeats 8000000 in
theorem dresolve_calls (t : Nd) (w : World) (nv kv : Value) (hN : Hid (NdIn w.heap.size w t nv kv)) (hs : smallN t = true) (hc : countN t ≤ 1000000) :
    Calls Tryd.prog 10 #[.agg #[.int .i64 t.kind, .int .i64 t.op, .int .i64 t.num, .string t.str, nv, kv, .int .i64 t.pl]] w (ResOutD w (resolveP t)) := by
  obtain ⟨a1, q1, a2, q2, rfl, rfl⟩ := ndIn_shape hN.out
  have hck : countL t.kids ≤ 1000000 := by
    obtain ⟨k, o, n, s, ns, ks, p⟩ := t
    rw [countN] at hc
    show countL ks ≤ 1000000
    omega
  have hlen := countL_len t.kids
  have A1 := (Below.refl w.heap.size w).alloc (Nat.le_refl _) (.cells #[.int .i64 t.kind, .int .i64 t.op, .int .i64 t.num, .string t.str, .slice a1 t.names.length q1, .slice a2 t.kids.length q2, .int .i64 t.pl] 25)
  have A2 := A1.alloc (by simp) (.cells #[.int .i64 0, .slice none 0 0] 30)
  have x1 := blk_on (blk_new w 25 #[.int .i64 t.kind, .int .i64 t.op, .int .i64 t.num, .string t.str, .slice a1 t.names.length q1, .slice a2 t.kids.length q2, .int .i64 t.pl]) ((Below.refl _ _).alloc (Nat.le_refl _) (.cells #[.int .i64 0, .slice none 0 0] 30))
  have x2 := blk_new (w.alloc (.cells #[.int .i64 t.kind, .int .i64 t.op, .int .i64 t.num, .string t.str, .slice a1 t.names.length q1, .slice a2 t.kids.length q2, .int .i64 t.pl] 25)) 30 #[.int .i64 0, .slice none 0 0]
  rw [World.size_alloc] at x2
  generalize hW2 : (w.alloc (.cells #[.int .i64 t.kind, .int .i64 t.op, .int .i64 t.num, .string t.str, .slice a1 t.names.length q1, .slice a2 t.kids.length q2, .int .i64 t.pl] 25)).alloc (.cells #[.int .i64 0, .slice none 0 0] 30) = w2 at *
  have HC := hid (refcheck_tree t w.heap.size w2 _ _ A2.size (hid (ndIn_on A2 _ _ _ hN.out)) hs hc)
  have HA2 := hid A2
  have X1 := hid x1
  have X2 := hid x2
  have hz2 : w2.heap.size = w.heap.size + 1 + 1 := by rw [← hW2]; simp
  have HP := hid (resolveP_mk t)
  obtain ⟨b0, b1, b2, b3, b4, b5, b6⟩ : w2.cell? ⟨w.heap.size, 0, none⟩ = some (.int .i64 t.kind) ∧ w2.cell? ⟨w.heap.size, 1, none⟩ = some (.int .i64 t.op) ∧ w2.cell? ⟨w.heap.size, 2, none⟩ = some (.int .i64 t.num) ∧ w2.cell? ⟨w.heap.size, 3, none⟩ = some (.string t.str) ∧ w2.cell? ⟨w.heap.size, 4, none⟩ = some (.slice a1 t.names.length q1) ∧ w2.cell? ⟨w.heap.size, 5, none⟩ = some (.slice a2 t.kids.length q2) ∧ w2.cell? ⟨w.heap.size, 6, none⟩ = some (.int .i64 t.pl) := by
    refine ⟨?_, ?_, ?_, ?_, ?_, ?_, ?_⟩ <;> rw [blk_cell x1] <;> rfl
  have hlw2 : w.heap.size + 1 < w2.heap.size := by omega
  clear A1 A2 x1 x2 hz2
  go_enter Tryd.func10, Tryd.ntmps10
  go_wp2_with fail
  refine HC.out.mono ?_
  rintro e3 w3 ⟨rfl, c3⟩
  have hs3 := c3.size
  have Y1 := hid (blk_on X1.out c3)
  have Y2 := hid (blk_on X2.out c3)
  have B3 := hid (below_on HA2.out c3)
  clear c3 HC X1 X2 b0 b1 b2 b3 b4 b5 b6
  by_cases hk : checkN t = 0
  · rw [if_pos hk] at HP
    rw [hk]
    have g5 := blk_on (blk_new w3 45 #[.int .i64 0, .int .i64 0, .slice none 0 0]) ((Below.refl _ _).alloc (Nat.le_refl _) (.cells #[.int .i64 0, .slice (some ⟨w3.heap.size, 0, none⟩) 1 1, .slice none 0 0, .int .i64 0, .int .i64 0] 57))
    have s5 := blk_new (w3.alloc (.cells #[.int .i64 0, .int .i64 0, .slice none 0 0] 45)) 57 #[.int .i64 0, .slice (some ⟨w3.heap.size, 0, none⟩) 1 1, .slice none 0 0, .int .i64 0, .int .i64 0]
    rw [World.size_alloc] at s5
    have A5 := ((Below.refl w3.heap.size w3).alloc (Nat.le_refl _) (.cells #[.int .i64 0, .int .i64 0, .slice none 0 0] 45)).alloc (by simp) (.cells #[.int .i64 0, .slice (some ⟨w3.heap.size, 0, none⟩) 1 1, .slice none 0 0, .int .i64 0, .int .i64 0] 57)
    have hkids : KidsIn w.heap.size w3 (.slice a2 t.kids.length q2) t.kids := by
      have := ndIn_on B3.out _ _ _ hN.out
      obtain ⟨k, o, n, s, ns, ks, p⟩ := t
      exact (ndIn_mk.1 this).2
    have hsk : ∀ x ∈ t.kids, smallN x = true := by
      obtain ⟨k, o, n, s, ns, ks, p⟩ := t
      exact (small_mk hs).2.2.2
    have HSK := hid hsk
    have x5 := blk_on Y1.out A5
    have X5 := hid x5
    have c5 : ((w3.alloc (.cells #[.int .i64 0, .int .i64 0, .slice none 0 0] 45)).alloc (.cells #[.int .i64 0, .slice (some ⟨w3.heap.size, 0, none⟩) 1 1, .slice none 0 0, .int .i64 0, .int .i64 0] 57)).cell? ⟨w.heap.size, 5, none⟩ = some (.slice a2 t.kids.length q2) := (blk_cell x5 5).trans rfl
    have U5 := hid (blk_on Y2.out A5)
    have B5 := hid (below_on B3.out A5)
    have HKI := hid hkids
    have HA5 := hid A5
    have hz5 : ((w3.alloc (.cells #[.int .i64 0, .int .i64 0, .slice none 0 0] 45)).alloc (.cells #[.int .i64 0, .slice (some ⟨w3.heap.size, 0, none⟩) 1 1, .slice none 0 0, .int .i64 0, .int .i64 0] 57)).heap.size = w3.heap.size + 1 + 1 := by simp
    have LC := hid (letsD_calls t.kids hck (w3.heap.size + 1) 0 (.slice (some ⟨w3.heap.size, 0, none⟩) 1 1) (.slice none 0 0) 0 (.slice none 0 0) [] (.slice a2 t.kids.length q2) w.heap.size ((w3.alloc (.cells #[.int .i64 0, .int .i64 0, .slice none 0 0] 45)).alloc (.cells #[.int .i64 0, .slice (some ⟨w3.heap.size, 0, none⟩) 1 1, .slice none 0 0, .int .i64 0, .int .i64 0] 57)) (hid s5) (hid (txR_nil _)) (by decide) (hid (kidsIn_on (A5.mono (by omega)) hkids)) (by omega) (by omega) (hid (fun g h => by simp [Value.ownBlock] at h)) (by omega))
    have FG5 := hid g5
    have hmk := make_fn
    clear g5 s5 A5 hkids hsk x5 hk hW2
    go_wp2_with fail
    refine LC.out.mono ?_
    rintro e6 w6 ⟨v6, rfl, hp6, k6, o6⟩
    generalize ((w3.alloc (.cells #[.int .i64 0, .int .i64 0, .slice none 0 0] 45)).alloc (.cells #[.int .i64 0, .slice (some ⟨w3.heap.size, 0, none⟩) 1 1, .slice none 0 0, .int .i64 0, .int .i64 0] 57)) = w5 at *
    have k6s : Keep (fun b => b = w3.heap.size + 1) w5 w6 := k6.mono (fun b _ e => by
      rcases e with e | e
      · exact e
      · simp [Value.ownBlock] at e)
    have X6 := hid (blk_keep X5.out k6s (by omega))
    have U6 := hid (blk_keep U5.out k6s (by omega))
    have FG6 := hid (blk_keep FG5.out k6s (by omega))
    have hz6 := k6s.size
    have B6 := hid (((Keep.of (S := fun b => w.heap.size ≤ b) B5.out).trans (k6s.mono (T := fun b => w.heap.size ≤ b) (fun b _ e => by have : b = w3.heap.size + 1 := e; omega)) (fun _ _ h => h)).below (Nat.le_refl _) (fun _ h => h))
    clear k6 X5 U5 FG5 c5
    cases hl : letL t.kids [] with
    | bad p2 e2 =>
      rw [hl] at hp6
      obtain ⟨he2, ⟨l2, hTl, hll⟩, st6⟩ := hp6
      obtain ⟨va, vc, rfl⟩ := row_shape hTl
      have S6 := hid st6
      have HER := hid he2
      have HRB := hid (show resolveP t = .bad p2 e2 by rw [HP.out]; unfold wholeP; rw [hl]; rfl)
      clear hTl st6 he2 hl LC o6
      obtain ⟨d0, d1, d2, d3⟩ : w6.cell? ⟨w3.heap.size + 1, 0, none⟩ = some (.int .i64 0) ∧ w6.cell? ⟨w3.heap.size + 1, 2, none⟩ = some (.slice none 0 0) ∧ w6.frozen? ⟨w3.heap.size + 1, 0, none⟩ = false ∧ w6.frozen? ⟨w3.heap.size + 1, 2, none⟩ = false :=
        ⟨(blk_cell S6.out 0).trans rfl, (blk_cell S6.out 2).trans rfl, blk_free S6.out 0, blk_free S6.out 2⟩
      have b65 : w6.cell? ⟨w.heap.size, 5, none⟩ = some (.slice a2 t.kids.length q2) := (blk_cell X6.out 5).trans rfl
      have hs6 : w3.heap.size + 1 < w6.heap.size := blk_lt S6.out
      have nsb : w3.heap.size + 1 ≠ w.heap.size := by omega
      have S8 := hid (show StD (w3.heap.size + 1) (l2.length : Int) (.slice (some ⟨w3.heap.size, 0, none⟩) 1 1) (.slice va l2.length vc) e2 p2 ((w6.setCell ⟨w3.heap.size + 1, 2, none⟩ (.slice va l2.length vc)).setCell ⟨w3.heap.size + 1, 0, none⟩ (.int .i64 (l2.length : Int))) by simpa using blk_set (blk_set S6.out 2 (.slice va l2.length vc)) 0 (.int .i64 (l2.length : Int)))
      have K8 := hid ((Keep.set (S := fun b => b = w3.heap.size + 1) rfl w6 2 (.slice va l2.length vc)).trans (Keep.set (S := fun b => b = w3.heap.size + 1) rfl (w6.setCell ⟨w3.heap.size + 1, 2, none⟩ (.slice va l2.length vc)) 0 (.int .i64 (l2.length : Int))) (fun _ _ h => h))
      have NE := hid (nodes_err ((w6.setCell ⟨w3.heap.size + 1, 2, none⟩ (.slice va l2.length vc)).setCell ⟨w3.heap.size + 1, 0, none⟩ (.int .i64 (l2.length : Int))) S8.out HER.out a2 t.kids.length q2 (.slice none 0 0) (by omega) ⟨_, _, _, rfl⟩)
      have U8 := hid (blk_keep U6.out K8.out (by omega))
      have B8 := hid (((Keep.of (S := fun b => w.heap.size ≤ b) B6.out).trans (K8.out.mono (T := fun b => w.heap.size ≤ b) (fun b _ e => by have : b = w3.heap.size + 1 := e; omega)) (fun _ _ h => h)).below (Nat.le_refl _) (fun _ h => h))
      go_wp2_with fail
      refine NE.out.mono ?_
      rintro e9 w9 ⟨rfl, rfl⟩
      generalize (w6.setCell ⟨w3.heap.size + 1, 2, none⟩ (.slice va l2.length vc)).setCell ⟨w3.heap.size + 1, 0, none⟩ (.int .i64 (l2.length : Int)) = w9 at *
      have S9 := S8
      have U9 := U8
      have B9 := B8
      clear NE S8 U8 B8 K8
      have hne9 : (e2 != 0) = true := by simpa using HER.out
      have e93 : w9.cell? ⟨w3.heap.size + 1, 3, none⟩ = some (.int .i64 e2) := (blk_cell S9.out 3).trans rfl
      have e94 : w9.cell? ⟨w3.heap.size + 1, 4, none⟩ = some (.int .i64 p2) := (blk_cell S9.out 4).trans rfl
      obtain ⟨u0, u1, u2, u3⟩ : w9.cell? ⟨w.heap.size + 1, 0, none⟩ = some (.int .i64 0) ∧ w9.cell? ⟨w.heap.size + 1, 1, none⟩ = some (.slice none 0 0) ∧ w9.frozen? ⟨w.heap.size + 1, 0, none⟩ = false ∧ w9.frozen? ⟨w.heap.size + 1, 1, none⟩ = false :=
        ⟨(blk_cell U9.out 0).trans rfl, (blk_cell U9.out 1).trans rfl, blk_free U9.out 0, blk_free U9.out 1⟩
      have hs9 : w3.heap.size + 1 < w9.heap.size := blk_lt S9.out
      have nsu : w3.heap.size + 1 ≠ w.heap.size + 1 := by omega
      go_wp2_with fail
      refine wp_region_held_drew (S := fun a => a.cell? ⟨w3.heap.size + 1, 3, none⟩ = some (.int .i64 e2) ∧ a.cell? ⟨w3.heap.size + 1, 4, none⟩ = some (.int .i64 p2)) (by kernel_rfl) ⟨e93, e94⟩ (fun hHeld => ?_)
      refine wpAnyH_take (i := 0) (v := ?_) rfl (by kernel_rfl) (by kernel_rfl) (by kernel_rfl) (fun _ _ _ h => h) (Or.inl ⟨by rfl, ?_⟩) (by assumption) ?_
      rotate_left 1
      · (intro w hSw; go_simp <;> (try with_reducible rfl))
      simp only [Act.put, List.setIfInBounds_toArray, List.set_cons_zero, List.set_cons_succ, List.getElem_toArray, List.getElem_cons_succ, List.getElem_cons_zero]
      refine wpAnyH_take (i := 1) (v := ?_) rfl (by kernel_rfl) (by kernel_rfl) (by kernel_rfl) (fun _ _ _ h => h) (Or.inl ⟨by rfl, ?_⟩) (by assumption) ?_
      rotate_left 1
      · (intro w hSw; go_simp <;> (try with_reducible rfl))
      simp only [Act.put, List.setIfInBounds_toArray, List.set_cons_zero, List.set_cons_succ, List.getElem_toArray, List.getElem_cons_succ, List.getElem_cons_zero]
      refine wpAnyH_take (i := 2) (v := ?_) rfl (by kernel_rfl) (by kernel_rfl) (by kernel_rfl) (fun _ _ _ h => h) (Or.inl ⟨by rfl, ?_⟩) (by assumption) ?_
      rotate_left 1
      · (intro w hSw; go_simp <;> (try with_reducible rfl))
      simp only [Act.put, List.setIfInBounds_toArray, List.set_cons_zero, List.set_cons_succ, List.getElem_toArray, List.getElem_cons_succ, List.getElem_cons_zero]
      refine wpAnyH_take (i := 3) (v := ?_) rfl (by kernel_rfl) (by kernel_rfl) (by kernel_rfl) (fun _ _ _ h => h) (Or.inl ⟨by rfl, ?_⟩) (by assumption) ?_
      rotate_left 1
      · (intro w hSw; go_simp <;> (try with_reducible rfl))
      simp only [Act.put, List.setIfInBounds_toArray, List.set_cons_zero, List.set_cons_succ, List.getElem_toArray, List.getElem_cons_succ, List.getElem_cons_zero]
      refine wpAnyH_take (i := 4) (v := ?_) rfl (by kernel_rfl) (by kernel_rfl) (by kernel_rfl) (fun _ _ _ h => h) (Or.inl ⟨by rfl, ?_⟩) (by assumption) ?_
      rotate_left 1
      · (intro w hSw; go_simp <;> (try with_reducible rfl))
      simp only [Act.put, List.setIfInBounds_toArray, List.set_cons_zero, List.set_cons_succ, List.getElem_toArray, List.getElem_cons_succ, List.getElem_cons_zero]
      refine wpAnyH_take (i := 5) (v := ?_) rfl (by kernel_rfl) (by kernel_rfl) (by kernel_rfl) (fun _ _ _ h => h) (Or.inl ⟨by rfl, ?_⟩) (by assumption) ?_
      rotate_left 1
      · (intro w hSw; go_simp <;> (try with_reducible rfl))
      simp only [Act.put, List.setIfInBounds_toArray, List.set_cons_zero, List.set_cons_succ, List.getElem_toArray, List.getElem_cons_succ, List.getElem_cons_zero]
      refine wpAnyH_take (i := 6) (v := ?_) rfl (by kernel_rfl) (by kernel_rfl) (by kernel_rfl) (fun _ _ _ h => h) (Or.inl ⟨by rfl, ?_⟩) (by assumption) ?_
      rotate_left 1
      · (intro w hSw; go_simp <;> (try with_reducible rfl))
      simp only [Act.put, List.setIfInBounds_toArray, List.set_cons_zero, List.set_cons_succ, List.getElem_toArray, List.getElem_cons_succ, List.getElem_cons_zero]
      refine wpAnyH_take (i := 7) (v := ?_) rfl (by kernel_rfl) (by kernel_rfl) (by kernel_rfl) (fun _ _ _ h => h) (Or.inl ⟨by rfl, ?_⟩) (by assumption) ?_
      rotate_left 1
      · (intro w hSw; go_simp <;> (try with_reducible rfl))
      simp only [Act.put, List.setIfInBounds_toArray, List.set_cons_zero, List.set_cons_succ, List.getElem_toArray, List.getElem_cons_succ, List.getElem_cons_zero]
      refine wpAnyH_take (i := 8) (v := ?_) rfl (by kernel_rfl) (by kernel_rfl) (by kernel_rfl) (fun _ _ _ h => h) (Or.inl ⟨by rfl, ?_⟩) (by assumption) ?_
      rotate_left 1
      · (intro w hSw; go_simp <;> (try with_reducible rfl))
      simp only [Act.put, List.setIfInBounds_toArray, List.set_cons_zero, List.set_cons_succ, List.getElem_toArray, List.getElem_cons_succ, List.getElem_cons_zero]
      refine wpAnyH_ready (rs := [9]) (by kernel_rfl) (by simp) ?_
      refine AllReadyH.cons rfl (fun K hK => ?_) AllReadyH.nil
      go_simp
      refine hK.out _ _ (by refine ⟨?_, ?_⟩ <;> go_simp) (fun _ => ?_)
      clear hK K hHeld
      refine wpAnyH_take (i := 10) (v := ?_) rfl (by kernel_rfl) (by kernel_rfl) (by kernel_rfl) (fun _ _ _ h => h) (Or.inl ⟨by rfl, ?_⟩) (by assumption) ?_
      rotate_left 1
      · (intro w hSw; go_simp <;> (try with_reducible rfl))
      simp only [Act.put, List.setIfInBounds_toArray, List.set_cons_zero, List.set_cons_succ, List.getElem_toArray, List.getElem_cons_succ, List.getElem_cons_zero]
      refine wpAnyH_take (i := 11) (v := ?_) rfl (by kernel_rfl) (by kernel_rfl) (by kernel_rfl) (fun _ _ _ h => h) (Or.inl ⟨by rfl, ?_⟩) (by assumption) ?_
      rotate_left 1
      · (intro w hSw; go_simp <;> (try with_reducible rfl))
      simp only [Act.put, List.setIfInBounds_toArray, List.set_cons_zero, List.set_cons_succ, List.getElem_toArray, List.getElem_cons_succ, List.getElem_cons_zero]
      refine wpAnyH_done (by kernel_rfl) ?_ _
      go_wp2_with fail
      refine bodyPost_ret (ret_u (g := w.heap.size + 1) (x := .int .i64 0) (y := .slice none 0 0) rfl rfl ⟨by go_simp, by go_simp⟩) rfl ?_
      rw [HRB.out]
      have KF := (Keep.set (S := fun b => b = w.heap.size + 1) rfl w9 0 (.int .i64 0)).trans (Keep.set (S := fun b => b = w.heap.size + 1) rfl (w9.setCell ⟨w.heap.size + 1, 0, none⟩ (.int .i64 0)) 1 (.slice none 0 0)) (fun _ _ h => h)
      exact ⟨(((Keep.of (S := fun b => w.heap.size ≤ b) B9.out).trans (KF.mono (T := fun b => w.heap.size ≤ b) (fun b _ e => by have : b = w.heap.size + 1 := e; omega)) (fun _ _ h => h)).below (Nat.le_refl _) (fun _ h => h)).drew, rfl⟩
    | ok gl =>
      rw [hl] at hp6
      obtain ⟨hTl, h24, st6⟩ := hp6
      obtain ⟨va, vc, rfl⟩ := row_shape hTl
      have S6 := hid st6
      have T6 := hid hTl
      have HWP := hid (show resolveP t = (resL gl t.kids [] [(0, 0, [])]).bind fun q => .ok (gl.length, q.2.set 0 (0, 0, q.1)) by rw [HP.out]; unfold wholeP; rw [hl]; rfl)
      clear hTl st6 hl LC o6
      obtain ⟨d0, d1, d2, d3⟩ : w6.cell? ⟨w3.heap.size + 1, 0, none⟩ = some (.int .i64 0) ∧ w6.cell? ⟨w3.heap.size + 1, 2, none⟩ = some (.slice none 0 0) ∧ w6.frozen? ⟨w3.heap.size + 1, 0, none⟩ = false ∧ w6.frozen? ⟨w3.heap.size + 1, 2, none⟩ = false :=
        ⟨(blk_cell S6.out 0).trans rfl, (blk_cell S6.out 2).trans rfl, blk_free S6.out 0, blk_free S6.out 2⟩
      have b65 : w6.cell? ⟨w.heap.size, 5, none⟩ = some (.slice a2 t.kids.length q2) := (blk_cell X6.out 5).trans rfl
      have hs6 : w3.heap.size + 1 < w6.heap.size := blk_lt S6.out
      have nsb : w3.heap.size + 1 ≠ w.heap.size := by omega
      have S8 := hid (show StD (w3.heap.size + 1) (gl.length : Int) (.slice (some ⟨w3.heap.size, 0, none⟩) 1 1) (.slice va gl.length vc) 0 0 ((w6.setCell ⟨w3.heap.size + 1, 2, none⟩ (.slice va gl.length vc)).setCell ⟨w3.heap.size + 1, 0, none⟩ (.int .i64 (gl.length : Int))) by simpa using blk_set (blk_set S6.out 2 (.slice va gl.length vc)) 0 (.int .i64 (gl.length : Int)))
      have K8 := hid ((Keep.set (S := fun b => b = w3.heap.size + 1) rfl w6 2 (.slice va gl.length vc)).trans (Keep.set (S := fun b => b = w3.heap.size + 1) rfl (w6.setCell ⟨w3.heap.size + 1, 2, none⟩ (.slice va gl.length vc)) 0 (.int .i64 (gl.length : Int))) (fun _ _ h => h))
      have U8 := hid (blk_keep U6.out K8.out (by omega))
      have FG8 := hid (blk_keep FG6.out K8.out (by omega))
      have B8 := hid (((Keep.of (S := fun b => w.heap.size ≤ b) B6.out).trans (K8.out.mono (T := fun b => w.heap.size ≤ b) (fun b _ e => by have : b = w3.heap.size + 1 := e; omega)) (fun _ _ h => h)).below (Nat.le_refl _) (fun _ h => h))
      have T8 := hid (txR_keep T6.out (fun g hg => by
        obtain ⟨cur, hc'⟩ := row_lt T6.out hg
        exact K8.out.block g (blk_lt hc') (fun e => by
          rw [show g = w3.heap.size + 1 from e] at hc'
          exact blkD_not S6.out (by decide) _ hc')))
      have hz8 := K8.out.size
      have D8 := hid (show DSt (w3.heap.size + 1) (.slice (some ⟨w3.heap.size, 0, none⟩) 1 1) (.slice va gl.length vc) gl [(0, 0, [])] (fun b => b < w.heap.size) ((w6.setCell ⟨w3.heap.size + 1, 2, none⟩ (.slice va gl.length vc)).setCell ⟨w3.heap.size + 1, 0, none⟩ (.int .i64 (gl.length : Int))) from
        ⟨⟨[.int .i64 ((0 : Nat) : Int), .int .i64 ((0 : Nat) : Int), .slice none 0 0], ⟨rfl, .inr ⟨w3.heap.size, 1, #[.int .i64 0, .int .i64 0, .slice none 0 0], rfl, Nat.zero_le _, FG8.out, Nat.le_refl _, by unfold maxLen; omega, rfl, rfl⟩⟩, ⟨.slice none 0 0, [], rfl, .inl ⟨none, 0, rfl, rfl⟩, rfl⟩, fun g hg => by simp [Value.ownBlock] at hg; omega⟩, T8.out, fun b hb => by omega, by omega⟩)
      have NC := hid (nodesD_calls t.kids (w3.heap.size + 1) (gl.length : Int) (.slice (some ⟨w3.heap.size, 0, none⟩) 1 1) (.slice va gl.length vc) 0 gl [] (.slice none 0 0) [(0, 0, [])] (fun b => b < w.heap.size) (.slice a2 t.kids.length q2) w.heap.size ((w6.setCell ⟨w3.heap.size + 1, 2, none⟩ (.slice va gl.length vc)).setCell ⟨w3.heap.size + 1, 0, none⟩ (.int .i64 (gl.length : Int))) S8 D8 (hid (txR_nil _)) (by decide) h24 (hid (kidsIn_on ((B8.out)) (by
        have := ndIn_on (Below.refl w.heap.size w) _ _ _ hN.out
        obtain ⟨k, o, n, s, ns, ks, p⟩ := t
        exact (ndIn_mk.1 this).2))) (by have := B8.out.size; omega) (by omega) (hid (fun g hg => by simp [Value.ownBlock] at hg; omega)) (hid (fun b hb => hb)) HSK.out hck (by decide))
      go_wp2_with fail
      refine NC.out.mono ?_
      intro r9 w9 h9
      generalize (w6.setCell ⟨w3.heap.size + 1, 2, none⟩ (.slice va gl.length vc)).setCell ⟨w3.heap.size + 1, 0, none⟩ (.int .i64 (gl.length : Int)) = w8 at *
      have hk9 := nodesOut_keep h9
      have nfd : ∀ b, w.heap.size ≤ b → b < w3.heap.size → ¬ FD (w3.heap.size + 1) (.slice (some ⟨w3.heap.size, 0, none⟩) 1 1) b := fun b h1 h2 e => by
        rcases e with e | e
        · omega
        · simp [Value.ownBlock] at e; omega
      have U9 := hid (blk_keep U8.out hk9 (nfd _ (by omega) (by omega)))
      have B9 := hid (((Keep.of (S := fun b => w.heap.size ≤ b) B8.out).trans (hk9.mono (T := fun b => w.heap.size ≤ b) (fun b _ e => by
        rcases e with e | e
        · omega
        · simp [Value.ownBlock] at e; omega)) (fun _ _ h => h)).below (Nat.le_refl _) (fun _ h => h))
      have hz9 := hk9.size
      clear NC nfd hk9
      cases hR3 : resL gl t.kids [] [(0, 0, [])] with
      | bad p3 e3 =>
        rw [hR3] at h9
        obtain ⟨x9, y9, z9, rfl, hb9⟩ := h9
        obtain ⟨fv9, L9, cs9, s9, _⟩ := hb9.left
        have S9 := hid s9
        have HER := hid hb9.er
        have HRB := hid (show resolveP t = .bad p3 e3 by rw [HWP.out, hR3]; rfl)
        clear s9 hb9 hR3
        have hne9 : (e3 != 0) = true := by simpa using HER.out
        have e93 : w9.cell? ⟨w3.heap.size + 1, 3, none⟩ = some (.int .i64 e3) := (blk_cell S9.out 3).trans rfl
        have e94 : w9.cell? ⟨w3.heap.size + 1, 4, none⟩ = some (.int .i64 p3) := (blk_cell S9.out 4).trans rfl
        obtain ⟨u0, u1, u2, u3⟩ : w9.cell? ⟨w.heap.size + 1, 0, none⟩ = some (.int .i64 0) ∧ w9.cell? ⟨w.heap.size + 1, 1, none⟩ = some (.slice none 0 0) ∧ w9.frozen? ⟨w.heap.size + 1, 0, none⟩ = false ∧ w9.frozen? ⟨w.heap.size + 1, 1, none⟩ = false :=
          ⟨(blk_cell U9.out 0).trans rfl, (blk_cell U9.out 1).trans rfl, blk_free U9.out 0, blk_free U9.out 1⟩
        have hs9 : w3.heap.size + 1 < w9.heap.size := blk_lt S9.out
        have nsu : w3.heap.size + 1 ≠ w.heap.size + 1 := by omega
        go_wp2_with fail
        refine wp_region_held_drew (S := fun a => a.cell? ⟨w3.heap.size + 1, 3, none⟩ = some (.int .i64 e3) ∧ a.cell? ⟨w3.heap.size + 1, 4, none⟩ = some (.int .i64 p3)) (by kernel_rfl) ⟨e93, e94⟩ (fun hHeld => ?_)
        refine wpAnyH_take (i := 0) (v := ?_) rfl (by kernel_rfl) (by kernel_rfl) (by kernel_rfl) (fun _ _ _ h => h) (Or.inl ⟨by rfl, ?_⟩) (by assumption) ?_
        rotate_left 1
        · (intro w hSw; go_simp <;> (try with_reducible rfl))
        simp only [Act.put, List.setIfInBounds_toArray, List.set_cons_zero, List.set_cons_succ, List.getElem_toArray, List.getElem_cons_succ, List.getElem_cons_zero]
        refine wpAnyH_take (i := 1) (v := ?_) rfl (by kernel_rfl) (by kernel_rfl) (by kernel_rfl) (fun _ _ _ h => h) (Or.inl ⟨by rfl, ?_⟩) (by assumption) ?_
        rotate_left 1
        · (intro w hSw; go_simp <;> (try with_reducible rfl))
        simp only [Act.put, List.setIfInBounds_toArray, List.set_cons_zero, List.set_cons_succ, List.getElem_toArray, List.getElem_cons_succ, List.getElem_cons_zero]
        refine wpAnyH_take (i := 2) (v := ?_) rfl (by kernel_rfl) (by kernel_rfl) (by kernel_rfl) (fun _ _ _ h => h) (Or.inl ⟨by rfl, ?_⟩) (by assumption) ?_
        rotate_left 1
        · (intro w hSw; go_simp <;> (try with_reducible rfl))
        simp only [Act.put, List.setIfInBounds_toArray, List.set_cons_zero, List.set_cons_succ, List.getElem_toArray, List.getElem_cons_succ, List.getElem_cons_zero]
        refine wpAnyH_take (i := 3) (v := ?_) rfl (by kernel_rfl) (by kernel_rfl) (by kernel_rfl) (fun _ _ _ h => h) (Or.inl ⟨by rfl, ?_⟩) (by assumption) ?_
        rotate_left 1
        · (intro w hSw; go_simp <;> (try with_reducible rfl))
        simp only [Act.put, List.setIfInBounds_toArray, List.set_cons_zero, List.set_cons_succ, List.getElem_toArray, List.getElem_cons_succ, List.getElem_cons_zero]
        refine wpAnyH_take (i := 4) (v := ?_) rfl (by kernel_rfl) (by kernel_rfl) (by kernel_rfl) (fun _ _ _ h => h) (Or.inl ⟨by rfl, ?_⟩) (by assumption) ?_
        rotate_left 1
        · (intro w hSw; go_simp <;> (try with_reducible rfl))
        simp only [Act.put, List.setIfInBounds_toArray, List.set_cons_zero, List.set_cons_succ, List.getElem_toArray, List.getElem_cons_succ, List.getElem_cons_zero]
        refine wpAnyH_take (i := 5) (v := ?_) rfl (by kernel_rfl) (by kernel_rfl) (by kernel_rfl) (fun _ _ _ h => h) (Or.inl ⟨by rfl, ?_⟩) (by assumption) ?_
        rotate_left 1
        · (intro w hSw; go_simp <;> (try with_reducible rfl))
        simp only [Act.put, List.setIfInBounds_toArray, List.set_cons_zero, List.set_cons_succ, List.getElem_toArray, List.getElem_cons_succ, List.getElem_cons_zero]
        refine wpAnyH_take (i := 6) (v := ?_) rfl (by kernel_rfl) (by kernel_rfl) (by kernel_rfl) (fun _ _ _ h => h) (Or.inl ⟨by rfl, ?_⟩) (by assumption) ?_
        rotate_left 1
        · (intro w hSw; go_simp <;> (try with_reducible rfl))
        simp only [Act.put, List.setIfInBounds_toArray, List.set_cons_zero, List.set_cons_succ, List.getElem_toArray, List.getElem_cons_succ, List.getElem_cons_zero]
        refine wpAnyH_take (i := 7) (v := ?_) rfl (by kernel_rfl) (by kernel_rfl) (by kernel_rfl) (fun _ _ _ h => h) (Or.inl ⟨by rfl, ?_⟩) (by assumption) ?_
        rotate_left 1
        · (intro w hSw; go_simp <;> (try with_reducible rfl))
        simp only [Act.put, List.setIfInBounds_toArray, List.set_cons_zero, List.set_cons_succ, List.getElem_toArray, List.getElem_cons_succ, List.getElem_cons_zero]
        refine wpAnyH_take (i := 8) (v := ?_) rfl (by kernel_rfl) (by kernel_rfl) (by kernel_rfl) (fun _ _ _ h => h) (Or.inl ⟨by rfl, ?_⟩) (by assumption) ?_
        rotate_left 1
        · (intro w hSw; go_simp <;> (try with_reducible rfl))
        simp only [Act.put, List.setIfInBounds_toArray, List.set_cons_zero, List.set_cons_succ, List.getElem_toArray, List.getElem_cons_succ, List.getElem_cons_zero]
        refine wpAnyH_ready (rs := [9]) (by kernel_rfl) (by simp) ?_
        refine AllReadyH.cons rfl (fun K hK => ?_) AllReadyH.nil
        go_simp
        refine hK.out _ _ (by refine ⟨?_, ?_⟩ <;> go_simp) (fun _ => ?_)
        clear hK K hHeld
        refine wpAnyH_take (i := 10) (v := ?_) rfl (by kernel_rfl) (by kernel_rfl) (by kernel_rfl) (fun _ _ _ h => h) (Or.inl ⟨by rfl, ?_⟩) (by assumption) ?_
        rotate_left 1
        · (intro w hSw; go_simp <;> (try with_reducible rfl))
        simp only [Act.put, List.setIfInBounds_toArray, List.set_cons_zero, List.set_cons_succ, List.getElem_toArray, List.getElem_cons_succ, List.getElem_cons_zero]
        refine wpAnyH_take (i := 11) (v := ?_) rfl (by kernel_rfl) (by kernel_rfl) (by kernel_rfl) (fun _ _ _ h => h) (Or.inl ⟨by rfl, ?_⟩) (by assumption) ?_
        rotate_left 1
        · (intro w hSw; go_simp <;> (try with_reducible rfl))
        simp only [Act.put, List.setIfInBounds_toArray, List.set_cons_zero, List.set_cons_succ, List.getElem_toArray, List.getElem_cons_succ, List.getElem_cons_zero]
        refine wpAnyH_done (by kernel_rfl) ?_ _
        go_wp2_with fail
        refine bodyPost_ret (ret_u (g := w.heap.size + 1) (x := .int .i64 0) (y := .slice none 0 0) rfl rfl ⟨by go_simp, by go_simp⟩) rfl ?_
        rw [HRB.out]
        have KF := (Keep.set (S := fun b => b = w.heap.size + 1) rfl w9 0 (.int .i64 0)).trans (Keep.set (S := fun b => b = w.heap.size + 1) rfl (w9.setCell ⟨w.heap.size + 1, 0, none⟩ (.int .i64 0)) 1 (.slice none 0 0)) (fun _ _ h => h)
        exact ⟨(((Keep.of (S := fun b => w.heap.size ≤ b) B9.out).trans (KF.mono (T := fun b => w.heap.size ≤ b) (fun b _ e => by have : b = w.heap.size + 1 := e; omega)) (fun _ _ h => h)).below (Nat.le_refl _) (fun _ h => h)).drew, rfl⟩
      | ok q3 =>
        obtain ⟨l3, fs3⟩ := q3
        rw [hR3] at h9
        obtain ⟨kv9, fv9, ok9, rfl, hk9, hw9⟩ := h9
        have HRB := hid (show resolveP t = .ok (gl.length, fs3.set 0 (0, 0, l3)) by rw [HWP.out, hR3]; rfl)
        obtain ⟨q, hq⟩ := resL_pre t.kids hR3
        simp only at hq
        have HI3 := hid (show fs3[0]? = some (0, 0, []) by rw [hq]; simp)
        have HL8 := hid (show 0 < fs3.length by rw [hq]; simp)
        obtain ⟨cs9, r9', _, _⟩ := hw9.ds.fn
        obtain ⟨g8, c8, rfl⟩ := row_someD r9' HL8.out
        obtain ⟨b9, d9, rfl⟩ := kidsS_shape hk9
        have S9 := hid hw9.st
        have HW9 := hid hw9
        have HK9 := hid hk9
        have ROW9 := hid r9'
        obtain ⟨cur8, hc8⟩ := row_lt r9' (g := g8) rfl
        have n8s : g8 ≠ w3.heap.size + 1 := fun e => by
          rw [e] at hc8
          exact blkD_not S9.out (by decide) _ hc8
        have n8u : g8 ≠ w.heap.size + 1 := fun e => by
          rw [e] at hc8
          exact blkD_not U9.out (by decide) _ hc8
        obtain ⟨y8, hy8⟩ : ∃ y, cs9[2]? = some y := ⟨_, List.getElem?_eq_getElem (by have := r9'.1; have := HL8.out; omega)⟩
        have v3 : w9.cell? ⟨w3.heap.size + 1, 3, none⟩ = some (.int .i64 0) := (blk_cell S9.out 3).trans rfl
        have v1 : w9.cell? ⟨w3.heap.size + 1, 1, none⟩ = some (.slice (some ⟨g8, 0, none⟩) fs3.length c8) := (blk_cell S9.out 1).trans rfl
        have v0 : w9.cell? ⟨w3.heap.size + 1, 0, none⟩ = some (.int .i64 (gl.length : Int)) := (blk_cell S9.out 0).trans rfl
        have xc : w9.cell? ⟨g8, 2, none⟩ = some y8 := row_cell r9' hy8
        have xf : w9.frozen? ⟨g8, 2, none⟩ = false := row_free r9' _
        have hlI : (0 : Int) < (fs3.length : Int) := by have := HL8.out; omega
        obtain ⟨u0, u1, u2, u3⟩ : w9.cell? ⟨w.heap.size + 1, 0, none⟩ = some (.int .i64 0) ∧ w9.cell? ⟨w.heap.size + 1, 1, none⟩ = some (.slice none 0 0) ∧ w9.frozen? ⟨w.heap.size + 1, 0, none⟩ = false ∧ w9.frozen? ⟨w.heap.size + 1, 1, none⟩ = false :=
          ⟨(blk_cell U9.out 0).trans rfl, (blk_cell U9.out 1).trans rfl, blk_free U9.out 0, blk_free U9.out 1⟩
        have nsu : w3.heap.size + 1 ≠ w.heap.size + 1 := by omega
        have nsu' : w.heap.size + 1 ≠ w3.heap.size + 1 := by omega
        have n8s' := Ne.symm n8s
        have n8u' := Ne.symm n8u
        have hg8 : w.heap.size ≤ g8 := by
          rcases HW9.out.row g8 rfl with h | h
          · simp [Value.ownBlock] at h; omega
          · have := B8.out.size; omega
        clear hk9 hw9 r9' hq hR3 hy8 hc8
        go_wp2_with fail
        have KX := Keep.set (S := fun b => b = g8) rfl w9 2 (.slice b9 l3.length d9)
        have KF := (Keep.set (S := fun b => b = w.heap.size + 1) rfl (w9.setCell ⟨g8, 2, none⟩ (.slice b9 l3.length d9)) 0 (.int .i64 (gl.length : Int))).trans (Keep.set (S := fun b => b = w.heap.size + 1) rfl ((w9.setCell ⟨g8, 2, none⟩ (.slice b9 l3.length d9)).setCell ⟨w.heap.size + 1, 0, none⟩ (.int .i64 (gl.length : Int))) 1 (.slice (some ⟨g8, 0, none⟩) fs3.length c8)) (fun _ _ h => h)
        have PU := blk_set (blk_set (blk_keep U9.out KX n8u') 0 (.int .i64 (gl.length : Int))) 1 (.slice (some ⟨g8, 0, none⟩) fs3.length c8)
        refine bodyPost_ret (ret_u (g := w.heap.size + 1) (x := .int .i64 (gl.length : Int)) (y := .slice (some ⟨g8, 0, none⟩) fs3.length c8) rfl rfl ⟨(blk_cell PU 0).trans rfl, (blk_cell PU 1).trans rfl⟩) rfl ?_
        rw [HRB.out]
        have WB := HW9.out.body HK9.out HI3.out
        refine ⟨(((Keep.of (S := fun b => w.heap.size ≤ b) B9.out).trans (KX.mono (T := fun b => w.heap.size ≤ b) (fun b _ e => by have : b = g8 := e; omega)) (fun _ _ h => h)).trans (KF.mono (T := fun b => w.heap.size ≤ b) (fun b _ e => by have : b = w.heap.size + 1 := e; omega)) (fun _ _ h => h)).below (Nat.le_refl _) (fun _ h => h), _, rfl, ?_⟩
        have FB : FnsS ok9 (w9.setCell ⟨g8, 2, none⟩ (.slice b9 l3.length d9)) (.slice (some ⟨g8, 0, none⟩) fs3.length c8) (fs3.set 0 (0, 0, l3)) := WB.ds.fn
        have nok : ∀ b, ok9 b → b ≠ w.heap.size + 1 := fun b hb e => by
          rcases HW9.out.only b hb with h | h
          · have h' : b < w.heap.size := h
            omega
          · have := B8.out.size; have := blk_lt S8.out; omega
        have FE : FnsS ok9 ((w9.setCell ⟨g8, 2, none⟩ (.slice b9 l3.length d9)).setCell ⟨w.heap.size + 1, 0, none⟩ (.int .i64 (gl.length : Int)) |>.setCell ⟨w.heap.size + 1, 1, none⟩ (.slice (some ⟨g8, 0, none⟩) fs3.length c8)) (.slice (some ⟨g8, 0, none⟩) fs3.length c8) (fs3.set 0 (0, 0, l3)) :=
          fnsS_keep FB (fun b hb => ⟨hb, KF.block b (WB.ds.lt b hb) (nok b hb)⟩) (fun g hg => by
            obtain ⟨cur, hc'⟩ := fnsS_lt FB hg
            obtain ⟨_, _, _, h6⟩ := FB
            exact ⟨KF.block g (blk_lt hc') (by simp [Value.ownBlock] at hg; omega), h6 g hg⟩)
        exact unS_in (lo := 0) ⟨ok9, FE, fun b hb => ⟨Nat.zero_le _, Nat.lt_of_lt_of_le (WB.ds.lt b hb) KF.size⟩, fun g _ => Nat.zero_le _⟩
  · rw [if_neg hk] at HP
    have hne : (checkN t != 0) = true := by simpa using hk
    obtain ⟨y0, y1, y2, y3⟩ : w3.cell? ⟨w.heap.size + 1, 0, none⟩ = some (.int .i64 0) ∧ w3.cell? ⟨w.heap.size + 1, 1, none⟩ = some (.slice none 0 0) ∧ w3.frozen? ⟨w.heap.size + 1, 0, none⟩ = false ∧ w3.frozen? ⟨w.heap.size + 1, 1, none⟩ = false :=
      ⟨by rw [blk_cell Y2.out]; rfl, by rw [blk_cell Y2.out]; rfl, blk_free Y2.out 0, blk_free Y2.out 1⟩
    generalize checkN t = ck at *
    clear hk hW2
    go_wp2_with fail
    have P0 := blk_set (blk_set Y2.out 0 (.int .i64 0)) 1 (.slice none 0 0)
    refine bodyPost_ret (ret_u rfl rfl ⟨by rw [blk_cell P0]; rfl, by rw [blk_cell P0]; rfl⟩) rfl ?_
    rw [HP.out]
    have KF := (Keep.set (S := fun b => b = w.heap.size + 1) rfl w3 0 (.int .i64 0)).trans (Keep.set (S := fun b => b = w.heap.size + 1) rfl (w3.setCell ⟨w.heap.size + 1, 0, none⟩ (.int .i64 0)) 1 (.slice none 0 0)) (fun _ _ h => h)
    refine ⟨?_, rfl⟩
    exact ((Keep.of (S := fun b => w.heap.size ≤ b) B3.out).trans (KF.mono (T := fun b => w.heap.size ≤ b) (fun b _ e => by have : b = w.heap.size + 1 := e; omega)) (fun _ _ h => h)).below (Nat.le_refl _) (fun _ h => h)

end Go.Proofs.YtenpldenhgpneaaDoor
