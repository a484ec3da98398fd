/- A node of chapter 6 with the fields of a unit's. Stand-ins: least right nodes of the same sorts, in a row of their own. -/
import Derived.Test.YtgdbaceehpcgbaaDoorJoint18
import Derived.Test.YtgdbaceehpcgbaaDoorJoint7
namespace Go.Proofs.YtgdbaceehpcgbaaDoor
set_option linter.unusedSimpArgs false
open Go.RowKit

theorem two_new (w : World) (T U : TypeId) (cs ds : Array Value) : Blk (w.heap.size + 1) U ds ((w.alloc (.cells cs T)).alloc (.cells ds U)) ∧ Below w.heap.size w ((w.alloc (.cells cs T)).alloc (.cells ds U)) := by
  have x := blk_new (w.alloc (.cells cs T)) U ds
  rw [World.size_alloc] at x
  exact ⟨x, ((Below.refl w.heap.size w).alloc (Nat.le_refl _) _).alloc (by simp) _⟩
set_option maxHeartbeats 1600000 in
theorem unnum_calls (k o n : Int) (s : ByteArray) (a1 a2 : Option Addr) (l1 q1 l2 q2 : Nat) (p : Int) (w : World) :
    Calls Tryd.prog 93 #[.agg #[.int .i64 k, .int .i64 o, .int .i64 n, .string s, .slice a1 l1 q1, .slice a2 l2 q2, .int .i64 p]] w fun e w' =>
      e = .returned (.agg #[.int .i64 (unK k), .int .i64 o, .int .i64 (unM k n), .string s, .slice a1 l1 q1, .slice a2 l2 q2, .int .i64 p]) ∧ Below w.heap.size w w' := by
  have ways : k = 18 ∨ k = 19 ∨ k = 20 ∨ k = 33 ∨ k = 34 ∨ (k ≠ 18 ∧ k ≠ 19 ∧ k ≠ 20 ∧ k ≠ 33 ∧ k ≠ 34) := by omega
  rcases ways with rfl | rfl | rfl | rfl | rfl | h
  iterate 5
    · go_enter Tryd.func93, Tryd.ntmps93
      go_wp2_with fail
      refine bodyPost_ret (ret_nd7 rfl rfl (two_new _ _ _ _ _).1) rfl ?_
      exact ⟨rfl, (two_new _ _ _ _ _).2⟩
  · obtain ⟨e1, e2⟩ := un_same (n := n) h
    rw [e1, e2]
    obtain ⟨h1, h2, h3, h4, h5⟩ := h
    go_enter Tryd.func93, Tryd.ntmps93
    go_wp2_with fail
    refine bodyPost_ret (ret_nd7 rfl rfl (two_new _ _ _ _ _).1) rfl ?_
    exact ⟨rfl, (two_new _ _ _ _ _).2⟩

end Go.Proofs.YtgdbaceehpcgbaaDoor

namespace Go.Proofs.YtgdbaceehpcgbaaDoor
set_option linter.unusedSimpArgs false
open Go.RowKit

theorem standL_snoc (l : List Nd) (x : Nd) : standL (l ++ [x]) = standL l ++ [standK x.kind] := by simp [standL]
theorem standL_len (l : List Nd) : (standL l).length = l.length := by simp [standL]
/-- blocks of stand-ins: those made behind w -/
def StOut (w w' : World) (v : Value) (ks : List Nd) : Prop := KidsS (fun b => w.heap.size ≤ b ∧ b < w'.heap.size) w' v ks
theorem st_low {w0 w1 w5 : World} {v : Value} (b : Below w0.heap.size w0 w1) (h : ∀ g, v.ownBlock = some g → w0.heap.size ≤ g) (hg : w1.grownBy w5 v.ownBlock) : Below w0.heap.size w0 w5 :=
  b.trans ((Keep.grown (S := fun k => v.ownBlock = some k) hg (fun _ e => e)).below b.size (fun k e => h k e))
theorem stand_1 {k : Int} (h : decide (sortK k = 1) = true) : standK k = nullN := by unfold standK; rw [if_pos (of_decide_eq_true h)]
theorem stand_3 {k : Int} (h : k = 29) : standK k = .mk 29 0 0 ⟨#[]⟩ [] [] 0 := by subst h; rfl
theorem stand_2 {k : Int} (h : decide (sortK k = 1) = false) (h2 : k ≠ 29) : standK k = .mk 32 0 0 ⟨#[]⟩ [] [nullN] 0 := by
  unfold standK
  rw [if_neg (of_decide_eq_false h), if_neg]
  unfold sortK
  split
  · decide
  · first | (rw [if_neg h2]; decide) | decide
theorem nd_leaf {ok : Nat → Prop} {w : World} (k : Int) : NdS ok w (.mk k 0 0 ⟨#[]⟩ [] [] 0) (.slice none 0 0) (.slice none 0 0) := ndS_mk.2 ⟨.inl ⟨none, 0, rfl, rfl⟩, .inl ⟨none, 0, rfl, rfl⟩⟩
set_option maxHeartbeats 4000000 in
theorem stands_calls (ks : List Nd) (B : Nat) (kv : Value) (w : World) (hB : B ≤ w.heap.size) (hK : Hid (KidsIn B w kv ks)) (hc : ks.length ≤ 1000000) :
    Calls Tryd.prog 94 #[kv] w fun e w' => (∃ v, e = .returned v ∧ StOut w w' v (standL ks)) ∧ Below w.heap.size w w' := by
  obtain ⟨ao, cp, rfl, hks⟩ := kidsIn_cases hK.out
  have K1 := hid hks
  clear hks hK
  have A := (Below.refl w.heap.size w).alloc (Nat.le_refl _) (.cells #[.int .i64 1, .int .i64 0, .int .i64 0, .string ⟨#[]⟩, .slice none 0 0, .slice none 0 0, .int .i64 0] 47)
  have x := blk_new w 47 #[.int .i64 1, .int .i64 0, .int .i64 0, .string ⟨#[]⟩, .slice none 0 0, .slice none 0 0, .int .i64 0]
  have HA := hid A
  have X := hid x
  go_enter Tryd.func94, Tryd.ntmps94
  go_wp2_with fail
  generalize hW0 : w.alloc (.cells #[.int .i64 1, .int .i64 0, .int .i64 0, .string ⟨#[]⟩, .slice none 0 0, .slice none 0 0, .int .i64 0] 47) = w0 at *
  have hz0 : w0.heap.size = w.heap.size + 1 := by rw [← hW0]; simp
  clear A x hW0
  go_loopw [4, 10] (fun v i wr => ∃ (j : Nat) (okK : Nat → Prop), j ≤ ks.length ∧ i = .int .i64 j ∧ Hid (OutS okK wr v (standL (ks.take j))) ∧ Hid (∀ b, okK b → w0.heap.size ≤ b ∧ b < wr.heap.size) ∧ Hid (∀ g, v.ownBlock = some g → w0.heap.size ≤ g) ∧ Hid (Below w0.heap.size w0 wr)) (fun _ i _ => ks.length - (intOf i).toNat)
  case atStart => exact ⟨0, fun _ => False, Nat.zero_le _, rfl, hid (outS_nil _ _), hid (fun _ h => h.elim), hid (fun g hg => by simp [Value.ownBlock] at hg), hid (Below.refl _ _)⟩
  case round =>
    obtain ⟨j, okK, hj, rfl, hO, hok, hg, hb⟩ := hrel
    by_cases hjl : j < ks.length
    · obtain ⟨b, off, rfl, hbB, hat⟩ := K1.out.resolve_left (fun h => by rw [h] at hjl; cases hjl)
      obtain ⟨nv1, kv1, hnode, hin⟩ := ndsAt_get hat j hjl
      have hb' : Below B w wr := (HA.out.trans (hb.out.mono (by omega))).mono hB
      obtain ⟨c0, c1, c2, c3, c4, c5, c6⟩ := nodeAt_on hnode hbB hb'
      have hS := hid (show standL (ks.take (j + 1)) = standL (ks.take j) ++ [standK ks[j].kind] by rw [List.take_succ_eq_append_getElem hjl, standL_snoc])
      generalize ks[j] = x at *
      obtain ⟨a1, q1, a2, q2, rfl, rfl⟩ := ndIn_shape hin
      have A5 := (Below.refl wr.heap.size wr).alloc (Nat.le_refl _) (.cells #[.int .i64 x.kind, .int .i64 x.op, .int .i64 x.num, .string x.str, .slice a1 x.names.length q1, .slice a2 x.kids.length q2, .int .i64 x.pl] 47)
      have HE := hid (isExpr_calls x.kind x.op x.num x.str a1 a2 x.names.length q1 x.kids.length q2 x.pl (wr.alloc (.cells #[.int .i64 x.kind, .int .i64 x.op, .int .i64 x.num, .string x.str, .slice a1 x.names.length q1, .slice a2 x.kids.length q2, .int .i64 x.pl] 47)))
      have Y5 := hid (blk_new wr 47 #[.int .i64 x.kind, .int .i64 x.op, .int .i64 x.num, .string x.str, .slice a1 x.names.length q1, .slice a2 x.kids.length q2, .int .i64 x.pl])
      have HA5 := hid A5
      have hlk : (standL (ks.take j)).length ≤ 1000000 := by rw [standL_len, List.length_take]; omega
      generalize hSJ : standL (ks.take j) = ss at *
      obtain ⟨va, vc, rfl⟩ := outS_shape hO.out
      clear hin hnode hat hb' A5 hSJ
      go_wp2_with fail
      refine HE.out.mono ?_
      rintro e1 w1 ⟨rfl, b1⟩
      have BX := below_on HA5.out b1
      have hzx := BX.size
      have B1 := hid (below_on hb.out BX)
      have O1 := hid (outS_keep (ok' := okK) hO.out (fun b hb => ⟨hb, BX.block b (hok.out b hb).2⟩) (fun g hg => ⟨BX.block g (outS_lt hO.out hg), by obtain ⟨_, _, _, h⟩ := hO.out; exact h g hg⟩))
      have UP1 := hid (show ∀ b, okK b → b < w1.heap.size from fun b hb => by have := (hok.out b hb).2; omega)
      obtain ⟨d0, d1, d2, d3, d4, d5, d6⟩ := box_cells (show Box w.heap.size 1 0 0 ⟨#[]⟩ (.slice none 0 0) (.slice none 0 0) 0 w1 from blk_on X.out B1.out)
      obtain ⟨y0, _⟩ := box_cells (show Box wr.heap.size x.kind x.op x.num x.str (.slice a1 x.names.length q1) (.slice a2 x.kids.length q2) x.pl w1 from blk_on Y5.out b1)
      clear HE HA5 Y5 b1 BX hO X c0 c1 c2 c3 c4 c5 c6
      cases hs : decide (sortK x.kind = 1)
      · by_cases h29 : x.kind = 29
        · have hy := hid (stand_3 h29)
          rw [hy.out] at hS
          rw [h29] at y0
          clear hs h29 hy
          go_wp2_with (first | (at_builtin; refine node_app rfl _ _ rfl okK ss (.mk 29 0 0 ⟨#[]⟩ [] [] 0) none none 0 0 _ (by rfl) O1.out (nd_leaf 29) UP1.out _ (by rfl) (by rfl) hlk ?_; intro g5 cp5 w5 hO5 hg5 hat5 hlt5; have F5 := hid (And.intro hO5 (And.intro hg5 (And.intro hat5 hlt5))); clear hO5 hg5 hat5 hlt5) | fail)
          refine ⟨⟨j + 1, okK, by omega, by simp, hid (by rw [hS.out]; exact F5.out.1), hid (fun b hb => ?_), hid (fun g hg' => ?_), hid (st_low B1.out hg.out F5.out.2.1)⟩, by simp [intOf]; omega⟩
          · have h1 := (hok.out b hb).1
            have h2 := F5.out.2.1.size
            have h3 := UP1.out b hb
            exact ⟨h1, by omega⟩
          · simp [Value.ownBlock] at hg'
            subst hg'
            have := B1.out.size
            rcases F5.out.2.2.1 with h | h
            · exact hg.out _ h
            · omega
        · have hy := hid (stand_2 hs h29)
          rw [hy.out] at hS
          have h29' : (x.kind == 29) = false := by simpa using h29
          clear hs h29 hy
          have A6 := (Below.refl w1.heap.size w1).alloc (Nat.le_refl _) (.cells #[.int .i64 1, .int .i64 0, .int .i64 0, .string ⟨#[]⟩, .slice none 0 0, .slice none 0 0, .int .i64 0] 47)
          have Z6 := blk_new w1 47 #[.int .i64 1, .int .i64 0, .int .i64 0, .string ⟨#[]⟩, .slice none 0 0, .slice none 0 0, .int .i64 0]
          have B2 := hid (below_on B1.out A6)
          have O2 := hid (outS_keep (ok' := fun b => okK b ∨ b = w1.heap.size) O1.out (fun b hb => ⟨.inl hb, A6.block b (UP1.out b hb)⟩) (fun g hg => ⟨A6.block g (outS_lt O1.out hg), fun h => by
            rcases h with h | h
            · obtain ⟨_, _, _, h6⟩ := O1.out; exact h6 g hg h
            · have := outS_lt O1.out hg; omega⟩))
          have UP2 := hid (show ∀ b, (okK b ∨ b = w1.heap.size) → b < (w1.alloc (.cells #[.int .i64 1, .int .i64 0, .int .i64 0, .string ⟨#[]⟩, .slice none 0 0, .slice none 0 0, .int .i64 0] 47)).heap.size from fun b hb => by
            rw [World.size_alloc]
            rcases hb with hb | hb
            · have := UP1.out b hb; omega
            · omega)
          have N2 := hid (show NdS (fun b => okK b ∨ b = w1.heap.size) (w1.alloc (.cells #[.int .i64 1, .int .i64 0, .int .i64 0, .string ⟨#[]⟩, .slice none 0 0, .slice none 0 0, .int .i64 0] 47)) (.mk 32 0 0 ⟨#[]⟩ [] [nullN] 0) (.slice none 0 0) (.slice (some ⟨w1.heap.size, 0, none⟩) 1 1) from ndS_mk.2 ⟨.inl ⟨none, 0, rfl, rfl⟩, .inr ⟨w1.heap.size, 0, 1, rfl, .inr rfl, by
            unfold nullN
            rw [NdsS, NdsS]
            exact ⟨⟨_, _, box_cells (show Box w1.heap.size 1 0 0 ⟨#[]⟩ (.slice none 0 0) (.slice none 0 0) 0 _ from Z6), nd_leaf 1⟩, trivial⟩, Nat.le_refl _⟩⟩)
          clear A6 Z6
          go_wp2_with (first | (at_builtin; refine node_app rfl _ _ rfl (fun b => okK b ∨ b = w1.heap.size) ss (.mk 32 0 0 ⟨#[]⟩ [] [nullN] 0) none (some ⟨w1.heap.size, 0, none⟩) 0 1 _ (by rfl) O2.out N2.out UP2.out _ (by rfl) (by simp) hlk ?_; intro g5 cp5 w5 hO5 hg5 hat5 hlt5; have F5 := hid (And.intro hO5 (And.intro hg5 (And.intro hat5 hlt5))); clear hO5 hg5 hat5 hlt5) | fail)
          refine ⟨⟨j + 1, (fun b => okK b ∨ b = w1.heap.size), by omega, by simp, hid (by rw [hS.out]; exact F5.out.1), hid (fun b hb => ?_), hid (fun g hg' => ?_), hid (st_low B2.out hg.out F5.out.2.1)⟩, by simp [intOf]; omega⟩
          · have h2 := F5.out.2.1.size
            have h3 := UP2.out b hb
            refine ⟨?_, by omega⟩
            rcases hb with hb | hb
            · exact (hok.out b hb).1
            · have := B1.out.size; omega
          · simp [Value.ownBlock] at hg'
            subst hg'
            have := B2.out.size
            rcases F5.out.2.2.1 with h | h
            · exact hg.out _ h
            · omega
      · have hy := hid (stand_1 hs)
        rw [hy.out] at hS
        clear hs hy
        go_wp2_with (first | (at_builtin; refine node_app rfl _ _ rfl okK ss nullN none none 0 0 _ (by rfl) O1.out (nd_leaf 1) UP1.out _ (by rfl) (by rfl) hlk ?_; intro g5 cp5 w5 hO5 hg5 hat5 hlt5; have F5 := hid (And.intro hO5 (And.intro hg5 (And.intro hat5 hlt5))); clear hO5 hg5 hat5 hlt5) | fail)
        refine ⟨⟨j + 1, okK, by omega, by simp, hid (by rw [hS.out]; exact F5.out.1), hid (fun b hb => ?_), hid (fun g hg' => ?_), hid (st_low B1.out hg.out F5.out.2.1)⟩, by simp [intOf]; omega⟩
        · have h1 := (hok.out b hb).1
          have h2 := F5.out.2.1.size
          have h3 := UP1.out b hb
          exact ⟨h1, by omega⟩
        · simp [Value.ownBlock] at hg'
          subst hg'
          have := B1.out.size
          rcases F5.out.2.2.1 with h | h
          · exact hg.out _ h
          · omega
    · have hje : j = ks.length := by omega
      subst hje
      rw [List.take_length] at hO
      obtain ⟨va, vc, rfl⟩ := outS_shape hO.out
      go_wp2_with fail
      go_ret
      refine ⟨⟨_, rfl, ?_⟩, below_on HA.out hb.out⟩
      have hzb := hb.out.size
      refine kidsS_mono (fun b h => ?_) (outS_kids hO.out)
      rcases h with h | h
      · exact ⟨by have := (hok.out b h).1; omega, (hok.out b h).2⟩
      · exact ⟨by have := hg.out b h; omega, outS_lt hO.out h⟩

end Go.Proofs.YtgdbaceehpcgbaaDoor
