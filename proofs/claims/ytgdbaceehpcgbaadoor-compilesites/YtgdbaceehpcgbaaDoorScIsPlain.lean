/- Whether a node's own fields are right, and its kids of the right sorts. -/
import Derived.Test.YtgdbaceehpcgbaaDoorJoint19
import Derived.Test.YtgdbaceehpcgbaaDoorJoint21
import Derived.Deep.Cut
namespace Go.Proofs.YtgdbaceehpcgbaaDoor
set_option linter.unusedSimpArgs false
open Go.RowKit

/-- a node in blocks other than one -/
def NdG (g : Nat) (W : World) (t : Nd) (nv kv : Value) : Prop := NdS (fun b => b ≠ g ∧ b < W.heap.size) W t nv kv
theorem ndG_keep {g : Nat} {W W' : World} {t : Nd} {nv kv : Value} (h : NdG g W t nv kv) (k : Keep (fun b => b = g) W W') : NdG g W' t nv kv :=
  ndS_keep (fun b hb => ⟨⟨hb.1, Nat.lt_of_lt_of_le hb.2 k.size⟩, k.block b hb.2 hb.1⟩) _ _ _ h
theorem ndG_wrap {g : Nat} {W : World} {k o n : Int} {s : ByteArray} {ns : List ByteArray} {ks : List Nd} {p : Int} {nv kv : Value} (hg : g < W.heap.size) (h : NdG g W (.mk k o n s ns ks p) nv kv) (K : Int) :
    NdG g (W.alloc (.cells #[.int .i64 k, .int .i64 o, .int .i64 n, .string s, nv, kv, .int .i64 p] 47)) (.mk K 0 0 ⟨#[]⟩ [] [.mk k o n s ns ks p] 0) (.slice none 0 0) (.slice (some ⟨W.heap.size, 0, none⟩) 1 1) := by
  have A := (Below.refl W.heap.size W).alloc (Nat.le_refl _) (.cells #[.int .i64 k, .int .i64 o, .int .i64 n, .string s, nv, kv, .int .i64 p] 47)
  have Z := blk_new W 47 #[.int .i64 k, .int .i64 o, .int .i64 n, .string s, nv, kv, .int .i64 p]
  refine ndS_mk.2 ⟨.inl ⟨none, 0, rfl, rfl⟩, .inr ⟨W.heap.size, 0, 1, rfl, ⟨by omega, by simp⟩, ?_, Nat.le_refl _⟩⟩
  rw [NdsS, NdsS]
  exact ⟨⟨_, _, box_cells (show Box W.heap.size k o n s nv kv p _ from Z), ndS_keep (fun b hb => ⟨⟨hb.1, Nat.lt_of_lt_of_le hb.2 A.size⟩, A.block b hb.2⟩) _ _ _ h⟩, trivial⟩
theorem free7 {g : Nat} {T : TypeId} {cs : Array Value} {w : World} (h : Blk g T cs w) : w.frozen? ⟨g, 0, none⟩ = false ∧ w.frozen? ⟨g, 1, none⟩ = false ∧ w.frozen? ⟨g, 2, none⟩ = false ∧ w.frozen? ⟨g, 3, none⟩ = false ∧ w.frozen? ⟨g, 4, none⟩ = false ∧ w.frozen? ⟨g, 5, none⟩ = false ∧ w.frozen? ⟨g, 6, none⟩ = false :=
  ⟨blk_free h 0, blk_free h 1, blk_free h 2, blk_free h 3, blk_free h 4, blk_free h 5, blk_free h 6⟩
theorem stand_small (k : Int) : smallN (standK k) = true := by
  unfold standK
  split
  · decide
  · split <;> decide
theorem stands_small : ∀ (l : List Nd), smallL (standL l) = true
  | [] => by rw [standL, List.map_nil, smallL]
  | x :: r => by
    rw [standL, List.map_cons, smallL, stand_small]
    exact stands_small r
theorem stand_count (k : Int) : countN (standK k) ≤ 2 := by
  unfold standK
  split
  · decide
  · split <;> decide
theorem stands_count : ∀ (l : List Nd), countL (standL l) ≤ 2 * l.length
  | [] => by rw [standL, List.map_nil, countL]; omega
  | x :: r => by
    rw [standL, List.map_cons, countL]
    have h1 := stand_count x.kind
    have h2 : countL (standL r) ≤ 2 * r.length := stands_count r
    unfold standL at h2
    simp only [List.length_cons]
    omega
theorem less_small {k o n : Int} {s : ByteArray} {ns : List ByteArray} {ks : List Nd} {p : Int} (h : smallN (.mk k o n s ns ks p) = true) : smallN (lessN (.mk k o n s ns ks p)) = true := by
  rw [smallN] at h
  simp only [Bool.and_eq_true] at h
  rw [lessN, smallN, stands_small, h.1, h.2.1, h.2.2.1]
  rfl
theorem wrap_small {t : Nd} (h : smallN t = true) (K : Int) : smallN (.mk K 0 0 ⟨#[]⟩ [] [t] 0) = true := by
  rw [smallN, smallL, smallL, h]
  rfl
theorem wrap_count (t : Nd) (K : Int) : countN (.mk K 0 0 ⟨#[]⟩ [] [t] 0) = countN t + 1 := by
  rw [countN, countL, countL]
theorem less_count (k o n : Int) (s : ByteArray) (ns : List ByteArray) (ks : List Nd) (p : Int) : countN (lessN (.mk k o n s ns ks p)) ≤ 2 * ks.length + 1 := by
  rw [lessN, countN]
  have := stands_count ks
  omega
set_option maxHeartbeats 4000000 in
theorem isPlain_calls (k o n : Int) (s : ByteArray) (ns : List ByteArray) (ks : List Nd) (p : Int) (B : Nat) (w : World) (nv kv : Value) (hO : Hid (Ok B w)) (hN : Hid (NdIn B w (.mk k o n s ns ks p) nv kv)) (hs : smallN (.mk k o n s ns ks p) = true) (hc : ks.length ≤ 400000) :
    Calls Tryd.prog 83 #[.agg #[.int .i64 k, .int .i64 o, .int .i64 n, .string s, nv, kv, .int .i64 p]] w fun e w' => e = .returned (.bool (plainB (.mk k o n s ns ks p))) ∧ Below w.heap.size w w' := by
  have hB := hO.out.1
  obtain ⟨h1, h2⟩ := ndIn_mk.1 hN.out
  have HSN := hid h1
  have HKN := hid h2
  obtain ⟨na, nc, rfl, _⟩ := strsIn_cases h1
  obtain ⟨ka, kc, rfl, _⟩ := kidsIn_cases h2
  clear h1 h2 hN
  have A := (Below.refl w.heap.size w).alloc (Nat.le_refl _) (.cells #[.int .i64 k, .int .i64 o, .int .i64 n, .string s, .slice na ns.length nc, .slice ka ks.length kc, .int .i64 p] 47)
  have X := hid (blk_new w 47 #[.int .i64 k, .int .i64 o, .int .i64 n, .string s, .slice na ns.length nc, .slice ka ks.length kc, .int .i64 p])
  have HA := hid A
  have HU := hid (unnum_calls k o n s na ka ns.length nc ks.length kc p (w.alloc (.cells #[.int .i64 k, .int .i64 o, .int .i64 n, .string s, .slice na ns.length nc, .slice ka ks.length kc, .int .i64 p] 47)))
  have HSM := hid (less_small hs)
  have HCN := hid (less_count k o n s ns ks p)
  have HPL := hid (show plainB (.mk k o n s ns ks p) = (checkN (wrapS (wrapE (lessN (.mk k o n s ns ks p)))) == 0) from rfl)
  have HLS := hid (show lessN (.mk k o n s ns ks p) = .mk (unK k) o (unM k n) s ns (standL ks) p from rfl)
  clear A hs
  go_enter Tryd.func83, Tryd.ntmps83
  go_wp2_with fail
  refine HU.out.mono ?_
  rintro e1 w1 ⟨rfl, b1⟩
  generalize unK k = k' at *
  generalize unM k n = n' at *
  have B1 := hid (below_on HA.out b1)
  have x1 := blk_on X.out b1
  obtain ⟨c0, c1, c2, c3, c4, c5, c6⟩ := box_cells (show Box w.heap.size k o n s (.slice na ns.length nc) (.slice ka ks.length kc) p w1 from x1)
  obtain ⟨f0, f1, f2, f3, f4, f5, f6⟩ := free7 x1
  have P := put7 x1 (.int .i64 k') (.int .i64 o) (.int .i64 n') (.string s) (.slice na ns.length nc) (.slice ka ks.length kc) (.int .i64 p)
  have HP := hid P
  clear HU HA X b1 x1 P
  go_wp2_with fail
  obtain ⟨P1, P2⟩ := HP.out
  clear c0 c1 c2 c3 c4 c5 c6 f0 f1 f2 f3 f4 f5 f6
  generalize hW2 : ((((((w1.setCell ⟨w.heap.size, 0, none⟩ (.int .i64 k')).setCell ⟨w.heap.size, 1, none⟩ (.int .i64 o)).setCell ⟨w.heap.size, 2, none⟩ (.int .i64 n')).setCell ⟨w.heap.size, 3, none⟩ (.string s)).setCell ⟨w.heap.size, 4, none⟩ (.slice na ns.length nc)).setCell ⟨w.heap.size, 5, none⟩ (.slice ka ks.length kc)).setCell ⟨w.heap.size, 6, none⟩ (.int .i64 p) = w2 at *
  have B2 := hid (B1.out.trans (P2.below B1.out.size (fun b e => by have : b = w.heap.size := e; omega)))
  have hz2 := blk_lt P1
  refine (stands_calls ks B _ w2 (by omega) (hid (kidsIn_on (B2.out.mono hB) HKN.out)) (by omega)).mono ?_
  rintro e3 w3 ⟨⟨v, rfl, hS⟩, b3⟩
  have x3 := blk_on P1 b3
  have B3 := hid (below_on B2.out b3)
  obtain ⟨va, vc, hv⟩ := kidsS_shape hS
  subst hv
  have hz3 := b3.size
  have G3 := hid (show NdG w.heap.size w3 (.mk k' o n' s ns (standL ks) p) (.slice na ns.length nc) (.slice va (standL ks).length vc) from ndS_mk.2 ⟨by
    rcases strsIn_on HSN.out (B3.out.mono hB) with h | ⟨b, off, cap, e1, e2, e3, e4⟩
    · exact .inl h
    · exact .inr ⟨b, off, cap, e1, ⟨by omega, by omega⟩, e3, e4⟩, kidsS_mono (fun b hb => ⟨by have := hb.1; omega, hb.2⟩) hS⟩)
  obtain ⟨c0, c1, c2, c3, c4, c5, c6⟩ := box_cells (show Box w.heap.size k' o n' s (.slice na ns.length nc) (.slice ka ks.length kc) p w3 from x3)
  obtain ⟨f0, f1, f2, f3, f4, f5, f6⟩ := free7 x3
  have X3 := hid (show Blk w.heap.size 47 #[.int .i64 k', .int .i64 o, .int .i64 n', .string s, .slice na ns.length nc, .slice va (standL ks).length vc, .int .i64 p] (w3.setCell ⟨w.heap.size, 5, none⟩ (.slice va (standL ks).length vc)) by simpa using blk_set x3 5 (.slice va (standL ks).length vc))
  have KK := hid (Keep.set (S := fun b => b = w.heap.size) rfl w3 5 (.slice va (standL ks).length vc))
  generalize standL ks = ss at *
  clear x3 b3 hS hW2 P1 P2 HP B2 B1 hz2 hz3
  go_wp2_with fail
  have G4 := hid (ndG_keep G3.out KK.out)
  have B4 := hid (B3.out.trans (KK.out.below B3.out.size (fun b e => by have : b = w.heap.size := e; omega)))
  have HOK := hid (show ∀ c : World, Below w.heap.size w c → Ok c.heap.size c from fun c q => ok_up (Nat.le_trans hB q.size) (Nat.le_refl _) (ok_on hO.out (q.mono hB)))
  generalize hW4 : w3.setCell ⟨w.heap.size, 5, none⟩ (.slice va ss.length vc) = w4 at *
  clear hW4 G3 KK B3 HSN HKN hO c0 c1 c2 c3 c4 c5 c6 f0 f1 f2 f3 f4 f5 f6
  refine (isExpr_calls k' o n' s na va ns.length nc ss.length vc p w4).mono ?_
  rintro e5 w5 ⟨rfl, b5⟩
  have x5 := blk_on X3.out b5
  have G5 := hid (ndG_keep G4.out (Keep.of b5))
  have B5 := hid (below_on B4.out b5)
  have hl5 := blk_lt x5
  have hn5 : w5.heap.size ≠ w.heap.size := by omega
  have hm5 : w.heap.size ≠ w5.heap.size := by omega
  obtain ⟨c0, c1, c2, c3, c4, c5, c6⟩ := box_cells (show Box w.heap.size k' o n' s (.slice na ns.length nc) (.slice va ss.length vc) p w5 from x5)
  obtain ⟨f0, f1, f2, f3, f4, f5, f6⟩ := free7 x5
  have X5 := hid x5
  rw [HLS.out] at HSM HCN HPL
  clear b5 x5 G4 B4 X3 HLS
  cases hE : decide (sortK k' = 1)
  · have HE : wrapE (.mk k' o n' s ns ss p) = .mk k' o n' s ns ss p := by unfold wrapE; exact if_neg (of_decide_eq_false hE)
    rw [HE] at HPL
    clear HE hE
    by_cases h29 : k' = 29
    · subst h29
      have HC := hid (check_tree (.mk 29 o n' s ns ss p) w5.heap.size w5 (.slice na ns.length nc) (.slice va ss.length vc) (hid (HOK.out _ B5.out)) (hid (ndS_in (fun b hb => hb.2) _ _ _ G5.out)) HSM.out (by have := HCN.out; omega))
      go_wp2_with fail
      refine HC.out.mono ?_
      rintro e9 w9 ⟨rfl, b9⟩
      have B9 := hid (below_on B5.out b9)
      clear HC b9
      go_wp2_with fail
      go_ret
      exact ⟨by rw [HPL.out]; rfl, B9.out⟩
    · have h29' : (k' != 29) = true := by simpa using h29
      have HW := hid (show wrapS (.mk k' o n' s ns ss p) = .mk 29 0 0 ⟨#[]⟩ [] [.mk k' o n' s ns ss p] 0 by unfold wrapS; exact if_neg h29)
      have P := put7 X5.out (.int .i64 29) (.int .i64 0) (.int .i64 0) (.string ⟨#[]⟩) (.slice none 0 0) (.slice (some ⟨w5.heap.size, 0, none⟩) 1 1) (.int .i64 0)
      have hz : (((((((w5.setCell ⟨w.heap.size, 0, none⟩ (.int .i64 29)).setCell ⟨w.heap.size, 1, none⟩ (.int .i64 0)).setCell ⟨w.heap.size, 2, none⟩ (.int .i64 0)).setCell ⟨w.heap.size, 3, none⟩ (.string ⟨#[]⟩)).setCell ⟨w.heap.size, 4, none⟩ (.slice none 0 0)).setCell ⟨w.heap.size, 5, none⟩ (.slice (some ⟨w5.heap.size, 0, none⟩) 1 1)).setCell ⟨w.heap.size, 6, none⟩ (.int .i64 0)).heap.size = w5.heap.size := by simp [World.setCell]
      have A6 := (Below.refl (((((((w5.setCell ⟨w.heap.size, 0, none⟩ (.int .i64 29)).setCell ⟨w.heap.size, 1, none⟩ (.int .i64 0)).setCell ⟨w.heap.size, 2, none⟩ (.int .i64 0)).setCell ⟨w.heap.size, 3, none⟩ (.string ⟨#[]⟩)).setCell ⟨w.heap.size, 4, none⟩ (.slice none 0 0)).setCell ⟨w.heap.size, 5, none⟩ (.slice (some ⟨w5.heap.size, 0, none⟩) 1 1)).setCell ⟨w.heap.size, 6, none⟩ (.int .i64 0)).heap.size (((((((w5.setCell ⟨w.heap.size, 0, none⟩ (.int .i64 29)).setCell ⟨w.heap.size, 1, none⟩ (.int .i64 0)).setCell ⟨w.heap.size, 2, none⟩ (.int .i64 0)).setCell ⟨w.heap.size, 3, none⟩ (.string ⟨#[]⟩)).setCell ⟨w.heap.size, 4, none⟩ (.slice none 0 0)).setCell ⟨w.heap.size, 5, none⟩ (.slice (some ⟨w5.heap.size, 0, none⟩) 1 1)).setCell ⟨w.heap.size, 6, none⟩ (.int .i64 0))).alloc (Nat.le_refl _) (.cells #[.int .i64 k', .int .i64 o, .int .i64 n', .string s, .slice na ns.length nc, .slice va ss.length vc, .int .i64 p] 47)
      have G6 := hid (ndG_wrap (blk_lt P.1) (ndG_keep G5.out P.2) 29)
      rw [hz] at G6
      have BA := B5.out.trans (P.2.below B5.out.size (fun b e => by have : b = w.heap.size := e; omega))
      have B6 := hid (below_on BA A6)
      have X6 := hid (blk_on P.1 A6)
      clear A6 P BA G5 hz
      go_wp2_with fail
      generalize hW6 : (((((((w5.setCell ⟨w.heap.size, 0, none⟩ (.int .i64 29)).setCell ⟨w.heap.size, 1, none⟩ (.int .i64 0)).setCell ⟨w.heap.size, 2, none⟩ (.int .i64 0)).setCell ⟨w.heap.size, 3, none⟩ (.string ⟨#[]⟩)).setCell ⟨w.heap.size, 4, none⟩ (.slice none 0 0)).setCell ⟨w.heap.size, 5, none⟩ (.slice (some ⟨w5.heap.size, 0, none⟩) 1 1)).setCell ⟨w.heap.size, 6, none⟩ (.int .i64 0)).alloc (.cells #[.int .i64 k', .int .i64 o, .int .i64 n', .string s, .slice na ns.length nc, .slice va ss.length vc, .int .i64 p] 47) = w6 at *
      clear hW6
      have HC := hid (check_tree (.mk 29 0 0 ⟨#[]⟩ [] [.mk k' o n' s ns ss p] 0) w6.heap.size w6 (.slice none 0 0) (.slice (some ⟨w5.heap.size, 0, none⟩) 1 1) (hid (HOK.out _ B6.out)) (hid (ndS_in (fun b hb => hb.2) _ _ _ G6.out)) (wrap_small HSM.out 29) (by rw [wrap_count]; have := HCN.out; omega))
      refine HC.out.mono ?_
      rintro e9 w9 ⟨rfl, b9⟩
      have B9 := hid (below_on B6.out b9)
      clear HC b9
      go_wp2_with fail
      go_ret
      exact ⟨by rw [HPL.out, HW.out]; rfl, B9.out⟩
  · have HE : wrapE (.mk k' o n' s ns ss p) = .mk 32 0 0 ⟨#[]⟩ [] [.mk k' o n' s ns ss p] 0 := by unfold wrapE; exact if_pos (of_decide_eq_true hE)
    have HW := hid (show wrapS (.mk 32 0 0 ⟨#[]⟩ [] [.mk k' o n' s ns ss p] 0) = .mk 29 0 0 ⟨#[]⟩ [] [.mk 32 0 0 ⟨#[]⟩ [] [.mk k' o n' s ns ss p] 0] 0 from rfl)
    rw [HE, HW.out] at HPL
    clear HE hE HW
    have P := put7 X5.out (.int .i64 32) (.int .i64 0) (.int .i64 0) (.string ⟨#[]⟩) (.slice none 0 0) (.slice (some ⟨w5.heap.size, 0, none⟩) 1 1) (.int .i64 0)
    have hz : (((((((w5.setCell ⟨w.heap.size, 0, none⟩ (.int .i64 32)).setCell ⟨w.heap.size, 1, none⟩ (.int .i64 0)).setCell ⟨w.heap.size, 2, none⟩ (.int .i64 0)).setCell ⟨w.heap.size, 3, none⟩ (.string ⟨#[]⟩)).setCell ⟨w.heap.size, 4, none⟩ (.slice none 0 0)).setCell ⟨w.heap.size, 5, none⟩ (.slice (some ⟨w5.heap.size, 0, none⟩) 1 1)).setCell ⟨w.heap.size, 6, none⟩ (.int .i64 0)).heap.size = w5.heap.size := by simp [World.setCell]
    have A6 := (Below.refl (((((((w5.setCell ⟨w.heap.size, 0, none⟩ (.int .i64 32)).setCell ⟨w.heap.size, 1, none⟩ (.int .i64 0)).setCell ⟨w.heap.size, 2, none⟩ (.int .i64 0)).setCell ⟨w.heap.size, 3, none⟩ (.string ⟨#[]⟩)).setCell ⟨w.heap.size, 4, none⟩ (.slice none 0 0)).setCell ⟨w.heap.size, 5, none⟩ (.slice (some ⟨w5.heap.size, 0, none⟩) 1 1)).setCell ⟨w.heap.size, 6, none⟩ (.int .i64 0)).heap.size (((((((w5.setCell ⟨w.heap.size, 0, none⟩ (.int .i64 32)).setCell ⟨w.heap.size, 1, none⟩ (.int .i64 0)).setCell ⟨w.heap.size, 2, none⟩ (.int .i64 0)).setCell ⟨w.heap.size, 3, none⟩ (.string ⟨#[]⟩)).setCell ⟨w.heap.size, 4, none⟩ (.slice none 0 0)).setCell ⟨w.heap.size, 5, none⟩ (.slice (some ⟨w5.heap.size, 0, none⟩) 1 1)).setCell ⟨w.heap.size, 6, none⟩ (.int .i64 0))).alloc (Nat.le_refl _) (.cells #[.int .i64 k', .int .i64 o, .int .i64 n', .string s, .slice na ns.length nc, .slice va ss.length vc, .int .i64 p] 47)
    have G6 := hid (ndG_wrap (blk_lt P.1) (ndG_keep G5.out P.2) 32)
    rw [hz] at G6
    have BA := B5.out.trans (P.2.below B5.out.size (fun b e => by have : b = w.heap.size := e; omega))
    have B6 := hid (below_on BA A6)
    have X6 := hid (blk_on P.1 A6)
    clear A6 P BA G5 hz
    go_upto_region 5 with fail
    generalize hW6 : (((((((w5.setCell ⟨w.heap.size, 0, none⟩ (.int .i64 32)).setCell ⟨w.heap.size, 1, none⟩ (.int .i64 0)).setCell ⟨w.heap.size, 2, none⟩ (.int .i64 0)).setCell ⟨w.heap.size, 3, none⟩ (.string ⟨#[]⟩)).setCell ⟨w.heap.size, 4, none⟩ (.slice none 0 0)).setCell ⟨w.heap.size, 5, none⟩ (.slice (some ⟨w5.heap.size, 0, none⟩) 1 1)).setCell ⟨w.heap.size, 6, none⟩ (.int .i64 0)).alloc (.cells #[.int .i64 k', .int .i64 o, .int .i64 n', .string s, .slice na ns.length nc, .slice va ss.length vc, .int .i64 p] 47) = w6 at *
    clear hW6
    have hl6 := blk_lt X6.out
    have hn6 : w6.heap.size ≠ w.heap.size := by omega
    have hm6 : w.heap.size ≠ w6.heap.size := by omega
    clear c0 c1 c2 c3 c4 c5 c6 f0 f1 f2 f3 f4 f5 f6
    obtain ⟨c0, c1, c2, c3, c4, c5, c6⟩ := box_cells (show Box w.heap.size 32 0 0 ⟨#[]⟩ (.slice none 0 0) (.slice (some ⟨w5.heap.size, 0, none⟩) 1 1) 0 w6 from X6.out)
    obtain ⟨f0, f1, f2, f3, f4, f5, f6⟩ := free7 X6.out
    have P := put7 X6.out (.int .i64 29) (.int .i64 0) (.int .i64 0) (.string ⟨#[]⟩) (.slice none 0 0) (.slice (some ⟨w6.heap.size, 0, none⟩) 1 1) (.int .i64 0)
    have hz : (((((((w6.setCell ⟨w.heap.size, 0, none⟩ (.int .i64 29)).setCell ⟨w.heap.size, 1, none⟩ (.int .i64 0)).setCell ⟨w.heap.size, 2, none⟩ (.int .i64 0)).setCell ⟨w.heap.size, 3, none⟩ (.string ⟨#[]⟩)).setCell ⟨w.heap.size, 4, none⟩ (.slice none 0 0)).setCell ⟨w.heap.size, 5, none⟩ (.slice (some ⟨w6.heap.size, 0, none⟩) 1 1)).setCell ⟨w.heap.size, 6, none⟩ (.int .i64 0)).heap.size = w6.heap.size := by simp [World.setCell]
    have A7 := (Below.refl (((((((w6.setCell ⟨w.heap.size, 0, none⟩ (.int .i64 29)).setCell ⟨w.heap.size, 1, none⟩ (.int .i64 0)).setCell ⟨w.heap.size, 2, none⟩ (.int .i64 0)).setCell ⟨w.heap.size, 3, none⟩ (.string ⟨#[]⟩)).setCell ⟨w.heap.size, 4, none⟩ (.slice none 0 0)).setCell ⟨w.heap.size, 5, none⟩ (.slice (some ⟨w6.heap.size, 0, none⟩) 1 1)).setCell ⟨w.heap.size, 6, none⟩ (.int .i64 0)).heap.size (((((((w6.setCell ⟨w.heap.size, 0, none⟩ (.int .i64 29)).setCell ⟨w.heap.size, 1, none⟩ (.int .i64 0)).setCell ⟨w.heap.size, 2, none⟩ (.int .i64 0)).setCell ⟨w.heap.size, 3, none⟩ (.string ⟨#[]⟩)).setCell ⟨w.heap.size, 4, none⟩ (.slice none 0 0)).setCell ⟨w.heap.size, 5, none⟩ (.slice (some ⟨w6.heap.size, 0, none⟩) 1 1)).setCell ⟨w.heap.size, 6, none⟩ (.int .i64 0))).alloc (Nat.le_refl _) (.cells #[.int .i64 32, .int .i64 0, .int .i64 0, .string ⟨#[]⟩, .slice none 0 0, .slice (some ⟨w5.heap.size, 0, none⟩) 1 1, .int .i64 0] 47)
    have G7 := hid (ndG_wrap (blk_lt P.1) (ndG_keep G6.out P.2) 29)
    rw [hz] at G7
    have BA := B6.out.trans (P.2.below B6.out.size (fun b e => by have : b = w.heap.size := e; omega))
    have B7 := hid (below_on BA A7)
    have X7 := hid (blk_on P.1 A7)
    clear A7 P BA G6 hz
    go_wp2_with fail
    generalize hW7 : (((((((w6.setCell ⟨w.heap.size, 0, none⟩ (.int .i64 29)).setCell ⟨w.heap.size, 1, none⟩ (.int .i64 0)).setCell ⟨w.heap.size, 2, none⟩ (.int .i64 0)).setCell ⟨w.heap.size, 3, none⟩ (.string ⟨#[]⟩)).setCell ⟨w.heap.size, 4, none⟩ (.slice none 0 0)).setCell ⟨w.heap.size, 5, none⟩ (.slice (some ⟨w6.heap.size, 0, none⟩) 1 1)).setCell ⟨w.heap.size, 6, none⟩ (.int .i64 0)).alloc (.cells #[.int .i64 32, .int .i64 0, .int .i64 0, .string ⟨#[]⟩, .slice none 0 0, .slice (some ⟨w5.heap.size, 0, none⟩) 1 1, .int .i64 0] 47) = w7 at *
    clear hW7
    have HC := hid (check_tree (.mk 29 0 0 ⟨#[]⟩ [] [.mk 32 0 0 ⟨#[]⟩ [] [.mk k' o n' s ns ss p] 0] 0) w7.heap.size w7 (.slice none 0 0) (.slice (some ⟨w6.heap.size, 0, none⟩) 1 1) (hid (HOK.out _ B7.out)) (hid (ndS_in (fun b hb => hb.2) _ _ _ G7.out)) (wrap_small (wrap_small HSM.out 32) 29) (by rw [wrap_count, wrap_count]; have := HCN.out; omega))
    refine HC.out.mono ?_
    rintro e9 w9 ⟨rfl, b9⟩
    have B9 := hid (below_on B7.out b9)
    clear HC b9
    go_wp2_with fail
    go_ret
    exact ⟨by rw [HPL.out]; rfl, B9.out⟩

end Go.Proofs.YtgdbaceehpcgbaaDoor
