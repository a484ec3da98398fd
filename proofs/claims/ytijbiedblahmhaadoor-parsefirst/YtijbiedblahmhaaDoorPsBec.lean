/- A name or a place becomes a value. -/
import Derived.Test.YtijbiedblahmhaaDoorJoint13
import Derived.Test.YtijbiedblahmhaaDoorJoint14
import Derived.ArgAppend
namespace Go.Proofs.YtijbiedblahmhaaDoor
open Go.RowKit

theorem ndR_tight {lo : Nat} {w : World} {x : Nd} {nv kv : Value} (h : NdR lo w x nv kv) (hk : x.kind = 5 ∨ x.kind = 13 ∨ x.kind = 14) : ∃ ao, kv = .slice ao x.kids.length x.kids.length := by
  obtain ⟨k, o, n, s, ns, ks, p⟩ := x
  exact (ndW_mk.1 h).1 hk
/-- nodes in a block, as a row of cells -/
theorem nds_row {ok : Nat → Prop} {w : World} {b : Nat} : ∀ {ks : List Nd} {off : Nat}, NdsW ok w b ks off → ∃ cs, RowN ok w ks cs ∧ ∀ j u, cs[j]? = some u → w.cell? ⟨b, off + j, none⟩ = some u
  | [], off, _ => ⟨[], rfl, fun j u h => by simp at h⟩
  | .mk k op n s ns ks p :: r, off, h => by
    rw [NdsW] at h
    obtain ⟨⟨nv, kv, h1, h2⟩, h3⟩ := h
    obtain ⟨x0, x1, x2, x3, x4, x5, x6⟩ := h1
    obtain ⟨cs, h4, h5⟩ := nds_row h3
    refine ⟨ndl (.mk k op n s ns ks p) nv kv ++ cs, ⟨nv, kv, cs, rfl, h2, h4⟩, fun j u hj => ?_⟩
    by_cases h7 : j < 7
    · rw [List.getElem?_append_left (by simpa [ndl] using h7)] at hj
      obtain rfl | rfl | rfl | rfl | rfl | rfl | rfl : j = 0 ∨ j = 1 ∨ j = 2 ∨ j = 3 ∨ j = 4 ∨ j = 5 ∨ j = 6 := by omega
      · simp [ndl] at hj; rw [← hj]; exact x0
      · simp [ndl] at hj; rw [← hj]; exact x1
      · simp [ndl] at hj; rw [← hj]; exact x2
      · simp [ndl] at hj; rw [← hj]; exact x3
      · simp [ndl] at hj; rw [← hj]; exact x4
      · simp [ndl] at hj; rw [← hj]; exact x5
      · simp [ndl] at hj; rw [← hj]; exact x6
    · rw [List.getElem?_append_right (by simp [ndl]; omega)] at hj
      have := h5 (j - 7) u (by simpa [ndl] using hj)
      rw [show off + j = off + 7 + (j - 7) by omega]
      exact this
theorem kd_row {ok : Nat → Prop} {w : World} {ao : Option Addr} {ks : List Nd} {cap : Nat} (h : KdO ok w (.slice ao ks.length cap) ks) : ∃ cs, RowN (OwnO ok w) w ks cs ∧ (∀ b, ao = some b → ∀ j u, cs[j]? = some u → w.cell? (b.add j) = some u) ∧ (ao = none → ks.length = 0) := by
  rcases h with ⟨_, _, _, h2⟩ | ⟨b, off, cp, e, hb, h3, h4⟩
  · subst h2
    exact ⟨[], rfl, fun b _ j u h => by simp at h, fun _ => rfl⟩
  · injection e with e1 e2 e3
    subst e1
    obtain ⟨cs, h5, h6⟩ := nds_row h3
    refine ⟨cs, h5, fun a ha j u hj => ?_, fun h => by cases h⟩
    injection ha with ha
    subst ha
    rw [show (⟨b, off, none⟩ : Addr).add j = ⟨b, off + j, none⟩ from Addr.add_lit ..]
    exact h6 j u hj

theorem wp_nbec {ops : Array Oper} {rest : List Oper} {o : Oper} {a : Act} {Q : Exit → Act → World → Prop} {w : World} (hgd : o.guard = none) (s x : Operand)
    (ho : o.op = .call { callee := .builtin .append, args := #[s, x], argTypes := #[24, 24] })
    (ok : Nat → Prop) (ks : List Nd) (y : Nd) (b1 b2 : Option Addr) (p1 p2 : Nat) (cs : Array Value) (hcs : cs = ndc y (.slice b1 y.names.length p1) (.slice b2 y.kids.length p2)) (ao : Option Addr) (hs : a.eval s = .slice ao ks.length ks.length) (hR : KdO ok w (.slice ao ks.length ks.length) ks)
    (hY : NdO ok w y (.slice b1 y.names.length p1) (.slice b2 y.kids.length p2)) (nb : Nat) (hx : a.eval x = .slice (some ⟨nb, 0, none⟩) 1 1) (hnb : nb = w.heap.size) (hlen : ks.length ≤ 1000) (hup : ∀ k, w.heap.size < k → ok k)
    (h : ∀ v' w', KRow (w.heap.size + 1) ok w' v' (ks ++ [y]) → Below w.heap.size w w' → wpList Tryd.prog ops Q rest (a.put o.dst v') w') :
    wpList Tryd.prog ops Q (o :: rest) a (w.alloc (.cells cs 26)) := by
  subst hnb hcs
  obtain ⟨i0, hi, hz0, hz1, hz2⟩ := infoN
  obtain ⟨xs, hr, hcells, hnone⟩ := kd_row hR
  have hxl := rowN_len hr
  have AL := (Below.refl w.heap.size w).alloc (Nat.le_refl _) (.cells (ndc y (.slice b1 y.names.length p1) (.slice b2 y.kids.length p2)) 26)
  refine wpList_append_grows _ hgd s x 24 ho 26 i0 _ 7 96 underN hi hz0 hz1 hz2 rfl (by decide) ao ks.length ks.length xs hs (fun h => ⟨hnone h, hnone h⟩) hxl (fun b hb j u hj => (by rw [World.cell?_alloc_some _ _ _ (by rw [hcells b hb j u hj]; rfl)]; exact hcells b hb j u hj)) ⟨w.heap.size, 0, none⟩ 1 1 (ndl y (.slice b1 y.names.length p1) (.slice b2 y.kids.length p2)) hx rfl ?_ ?_ (by omega) (by unfold maxLen; omega) (by omega) ?_
  · intro j u hj
    have e : (⟨w.heap.size, 0, none⟩ : Addr).add j = ⟨w.heap.size, j, none⟩ := by unfold Addr.add; split <;> simp_all
    rw [e, World.cell?_alloc_new]
    simpa [ndc, ndl] using hj
  · intro u hu
    simp only [ndl, List.mem_cons, List.not_mem_nil, or_false] at hu
    rcases hu with rfl | rfl | rfl | rfl | rfl | rfl | rfl <;> rfl
  · intro v' w' hown hgrow
    have hsz := hgrow.size
    simp only [World.size_alloc] at hsz hown
    have keep : ∀ k, OwnO ok w k → Els ok v' w' k ∧ w'.heap[k]? = w.heap[k]? := by
      rintro k ⟨h1, h2⟩
      have h4 := hgrow.block k (by simp; omega) (by simp)
      exact ⟨⟨h1, by omega, fun e => by have := (hown.lt k e.symm).1; omega⟩, h4.trans (AL.block k h2)⟩
    refine h v' w' ⟨xs ++ ndl y (.slice b1 y.names.length p1) (.slice b2 y.kids.length p2), by simpa using hown, rowN_snoc (ndW_keep keep _ _ _ hY) (rowN_keep keep hr), fun k hk => ?_⟩ ?_
    · have := (hown.lt k hk).1
      exact hup k (by omega)
    · exact AL.grown hgrow (by simp) (fun k hk => by cases hk)

/-- what becomes of the two -/
def Becomes (lo : Nat) (w : World) (t : Nd) (e : Ending) (w' : World) : Prop := (∃ nv kv, e = .returned (ndv t nv kv) ∧ NdR lo w' t nv kv) ∧ Below w.heap.size w w'
theorem below_put7 {B g : Nat} {a c : World} (h : Below B a c) (hg : B ≤ g) (x0 x1 x2 x3 x4 x5 x6 : Value) : Below B a (put7w c g x0 x1 x2 x3 x4 x5 x6) :=
  ((((((h.setCell (p := ⟨g, 0, none⟩) hg x0).setCell (p := ⟨g, 1, none⟩) hg x1).setCell (p := ⟨g, 2, none⟩) hg x2).setCell (p := ⟨g, 3, none⟩) hg x3).setCell (p := ⟨g, 4, none⟩) hg x4).setCell (p := ⟨g, 5, none⟩) hg x5).setCell (p := ⟨g, 6, none⟩) hg x6

set_option maxRecDepth 100000 in
set_option maxHeartbeats 6400000 in
theorem become_13 (lo : Nat) (x y : Nd) (a1 a2 b1 b2 : Option Addr) (q1 p1 p2 : Nat) (w : World) (hlo : lo ≤ w.heap.size) (hk : x.kind = 13) (hkl : x.kids.length ≤ 1000) (N : Hid (NdR lo w x (.slice a1 x.names.length q1) (.slice a2 x.kids.length x.kids.length))) (M : Hid (NdR lo w y (.slice b1 y.names.length p1) (.slice b2 y.kids.length p2))) :
    Calls Tryd.prog 47 #[ndv x (.slice a1 x.names.length q1) (.slice a2 x.kids.length x.kids.length), ndv y (.slice b1 y.names.length p1) (.slice b2 y.kids.length p2)] w (Becomes lo w (ndS 23 x.str (x.kids ++ [y]))) := by
  have A1 := (Below.refl _ w).alloc (Nat.le_refl _) (.cells #[.int .i64 x.kind, .int .i64 x.op, .int .i64 x.num, .string x.str, (.slice a1 x.names.length q1), (.slice a2 x.kids.length x.kids.length), .int .i64 x.pl] 26)
  have A2 := (Below.refl _ (w.alloc (.cells #[.int .i64 x.kind, .int .i64 x.op, .int .i64 x.num, .string x.str, (.slice a1 x.names.length q1), (.slice a2 x.kids.length x.kids.length), .int .i64 x.pl] 26))).alloc (Nat.le_refl _) (.cells #[.int .i64 y.kind, .int .i64 y.op, .int .i64 y.num, .string y.str, (.slice b1 y.names.length p1), (.slice b2 y.kids.length p2), .int .i64 y.pl] 26)
  have A3 := (Below.refl _ ((w.alloc (.cells #[.int .i64 x.kind, .int .i64 x.op, .int .i64 x.num, .string x.str, (.slice a1 x.names.length q1), (.slice a2 x.kids.length x.kids.length), .int .i64 x.pl] 26)).alloc (.cells #[.int .i64 y.kind, .int .i64 y.op, .int .i64 y.num, .string y.str, (.slice b1 y.names.length p1), (.slice b2 y.kids.length p2), .int .i64 y.pl] 26))).alloc (Nat.le_refl _) (.cells #[.int .i64 0, .int .i64 0, .int .i64 0, .string ⟨#[]⟩, .slice none 0 0, .slice none 0 0, .int .i64 0] 26)
  have X3 := hid (blk_on (blk_on (blk_new w 26 #[.int .i64 x.kind, .int .i64 x.op, .int .i64 x.num, .string x.str, (.slice a1 x.names.length q1), (.slice a2 x.kids.length x.kids.length), .int .i64 x.pl]) A2) A3)
  have Z3 := hid (show Blk (w.heap.size + 1 + 1) 26 #[.int .i64 0, .int .i64 0, .int .i64 0, .string ⟨#[]⟩, .slice none 0 0, .slice none 0 0, .int .i64 0] (((w.alloc (.cells #[.int .i64 x.kind, .int .i64 x.op, .int .i64 x.num, .string x.str, (.slice a1 x.names.length q1), (.slice a2 x.kids.length x.kids.length), .int .i64 x.pl] 26)).alloc (.cells #[.int .i64 y.kind, .int .i64 y.op, .int .i64 y.num, .string y.str, (.slice b1 y.names.length p1), (.slice b2 y.kids.length p2), .int .i64 y.pl] 26)).alloc (.cells #[.int .i64 0, .int .i64 0, .int .i64 0, .string ⟨#[]⟩, .slice none 0 0, .slice none 0 0, .int .i64 0] 26)) from by
    have := blk_new ((w.alloc (.cells #[.int .i64 x.kind, .int .i64 x.op, .int .i64 x.num, .string x.str, (.slice a1 x.names.length q1), (.slice a2 x.kids.length x.kids.length), .int .i64 x.pl] 26)).alloc (.cells #[.int .i64 y.kind, .int .i64 y.op, .int .i64 y.num, .string y.str, (.slice b1 y.names.length p1), (.slice b2 y.kids.length p2), .int .i64 y.pl] 26)) 26 #[.int .i64 0, .int .i64 0, .int .i64 0, .string ⟨#[]⟩, .slice none 0 0, .slice none 0 0, .int .i64 0]
    simpa using this)
  have N3 := hid (kdO_aft (aftO_below A3) (kdO_aft (aftO_below A2) (kdO_aft (aftO_below A1) (show KdO (fun b => lo ≤ b ∧ b ≠ w.heap.size + 1 + 1) w (.slice a2 x.kids.length x.kids.length) x.kids from kidsW_keep (fun b hb => ⟨⟨⟨hb.1, by have := hb.2; omega⟩, hb.2⟩, rfl⟩) (ndR_kids N.out)))))
  have M3 := hid (ndO_aft (aftO_below A3) (ndO_aft (aftO_below A2) (ndO_aft (aftO_below A1) (ndO_of (ok := (fun b => lo ≤ b ∧ b ≠ w.heap.size + 1 + 1)) M.out (fun b h1 h2 => ⟨h1, by omega⟩)))))
  have B3 := hid (below_on (below_on A1 A2) A3)
  have HK := hid hk
  clear A1 A2 A3 N M hk
  unfold ndv
  go_enter Tryd.func47, Tryd.ntmps47
  go_wp2_with (at_builtin; refine wp_nbec rfl _ _ rfl (fun b => lo ≤ b ∧ b ≠ w.heap.size + 1 + 1) x.kids y b1 b2 p1 p2 _ rfl a2 (by rfl) N3.out M3.out _ (by rfl) (by simp) hkl (fun k hk => by simp at hk; exact ⟨by omega, by omega⟩) ?_)
  intro v4 w4 k4 b4
  obtain ⟨e2, d2, hv4⟩ := krow_shape k4
  replace hv4 : v4 = .slice e2 (x.kids.length + 1) d2 := by rw [hv4]; simp
  subst hv4
  have K4 := hid k4
  replace b4 : Below (((w.alloc (.cells #[.int .i64 x.kind, .int .i64 x.op, .int .i64 x.num, .string x.str, (.slice a1 x.names.length q1), (.slice a2 x.kids.length x.kids.length), .int .i64 x.pl] 26)).alloc (.cells #[.int .i64 y.kind, .int .i64 y.op, .int .i64 y.num, .string y.str, (.slice b1 y.names.length p1), (.slice b2 y.kids.length p2), .int .i64 y.pl] 26)).alloc (.cells #[.int .i64 0, .int .i64 0, .int .i64 0, .string ⟨#[]⟩, .slice none 0 0, .slice none 0 0, .int .i64 0] 26)).heap.size (((w.alloc (.cells #[.int .i64 x.kind, .int .i64 x.op, .int .i64 x.num, .string x.str, (.slice a1 x.names.length q1), (.slice a2 x.kids.length x.kids.length), .int .i64 x.pl] 26)).alloc (.cells #[.int .i64 y.kind, .int .i64 y.op, .int .i64 y.num, .string y.str, (.slice b1 y.names.length p1), (.slice b2 y.kids.length p2), .int .i64 y.pl] 26)).alloc (.cells #[.int .i64 0, .int .i64 0, .int .i64 0, .string ⟨#[]⟩, .slice none 0 0, .slice none 0 0, .int .i64 0] 26)) w4 := by simp only [World.size_alloc]; exact b4
  have X4 := hid (blk_on X3.out b4)
  have Z4 := hid (blk_on Z3.out b4)
  have B4 := hid (below_on B3.out b4)
  clear k4 b4 X3 Z3 N3 M3 B3
  obtain ⟨c0, c1, c2, c3, c4, c5, c6⟩ := cells7 X4.out
  obtain ⟨r0, r1, r2, r3, r4, r5, r6⟩ := cells7 Z4.out
  obtain ⟨v0, v1, v2, v3, v4, v5, v6⟩ := frees7 Z4.out
  rw [HK.out] at c0
  have hg9 := blk_lt Z4.out
  go_wp2_with fail
  have Z := put7_blk Z4.out (.int .i64 23) (.int .i64 0) (.int .i64 0) (.string x.str) (.slice none 0 0) (.slice e2 (x.kids.length + 1) d2) (.int .i64 0)
  have AO := put7_aftO (ok := (fun b => lo ≤ b ∧ b ≠ w.heap.size + 1 + 1)) (g := w.heap.size + 1 + 1) w4 (fun h => h.2 rfl) (.int .i64 23) (.int .i64 0) (.int .i64 0) (.string x.str) (.slice none 0 0) (.slice e2 (x.kids.length + 1) d2) (.int .i64 0)
  have KK := krow_kids (krow_keep K4.out AO.size AO.block)
  have BB := below_put7 B4.out (g := w.heap.size + 1 + 1) (by omega) (.int .i64 23) (.int .i64 0) (.int .i64 0) (.string x.str) (.slice none 0 0) (.slice e2 (x.kids.length + 1) d2) (.int .i64 0)
  have NN : NdR lo (put7w w4 (w.heap.size + 1 + 1) (.int .i64 23) (.int .i64 0) (.int .i64 0) (.string x.str) (.slice none 0 0) (.slice e2 (x.kids.length + 1) d2) (.int .i64 0)) (ndS 23 x.str (x.kids ++ [y])) (.slice none 0 0) (.slice e2 (x.kids.length + 1) d2) := ndR_mk2 ⟨st_nil, kidsW_keep (fun b hb => ⟨⟨hb.1.1, hb.2⟩, rfl⟩) KK⟩
  exact bodyPost_ret (ret_nd rfl rfl Z) rfl ⟨⟨_, _, rfl, NN⟩, BB⟩

set_option maxRecDepth 100000 in
set_option maxHeartbeats 6400000 in
theorem become_14 (lo : Nat) (x y : Nd) (a1 a2 b1 b2 : Option Addr) (q1 p1 p2 : Nat) (w : World) (hlo : lo ≤ w.heap.size) (hk : x.kind = 14) (hkl : x.kids.length ≤ 1000) (N : Hid (NdR lo w x (.slice a1 x.names.length q1) (.slice a2 x.kids.length x.kids.length))) (M : Hid (NdR lo w y (.slice b1 y.names.length p1) (.slice b2 y.kids.length p2))) :
    Calls Tryd.prog 47 #[ndv x (.slice a1 x.names.length q1) (.slice a2 x.kids.length x.kids.length), ndv y (.slice b1 y.names.length p1) (.slice b2 y.kids.length p2)] w (Becomes lo w (ndK 24 (x.kids ++ [y]))) := by
  have A1 := (Below.refl _ w).alloc (Nat.le_refl _) (.cells #[.int .i64 x.kind, .int .i64 x.op, .int .i64 x.num, .string x.str, (.slice a1 x.names.length q1), (.slice a2 x.kids.length x.kids.length), .int .i64 x.pl] 26)
  have A2 := (Below.refl _ (w.alloc (.cells #[.int .i64 x.kind, .int .i64 x.op, .int .i64 x.num, .string x.str, (.slice a1 x.names.length q1), (.slice a2 x.kids.length x.kids.length), .int .i64 x.pl] 26))).alloc (Nat.le_refl _) (.cells #[.int .i64 y.kind, .int .i64 y.op, .int .i64 y.num, .string y.str, (.slice b1 y.names.length p1), (.slice b2 y.kids.length p2), .int .i64 y.pl] 26)
  have A3 := (Below.refl _ ((w.alloc (.cells #[.int .i64 x.kind, .int .i64 x.op, .int .i64 x.num, .string x.str, (.slice a1 x.names.length q1), (.slice a2 x.kids.length x.kids.length), .int .i64 x.pl] 26)).alloc (.cells #[.int .i64 y.kind, .int .i64 y.op, .int .i64 y.num, .string y.str, (.slice b1 y.names.length p1), (.slice b2 y.kids.length p2), .int .i64 y.pl] 26))).alloc (Nat.le_refl _) (.cells #[.int .i64 0, .int .i64 0, .int .i64 0, .string ⟨#[]⟩, .slice none 0 0, .slice none 0 0, .int .i64 0] 26)
  have X3 := hid (blk_on (blk_on (blk_new w 26 #[.int .i64 x.kind, .int .i64 x.op, .int .i64 x.num, .string x.str, (.slice a1 x.names.length q1), (.slice a2 x.kids.length x.kids.length), .int .i64 x.pl]) A2) A3)
  have Z3 := hid (show Blk (w.heap.size + 1 + 1) 26 #[.int .i64 0, .int .i64 0, .int .i64 0, .string ⟨#[]⟩, .slice none 0 0, .slice none 0 0, .int .i64 0] (((w.alloc (.cells #[.int .i64 x.kind, .int .i64 x.op, .int .i64 x.num, .string x.str, (.slice a1 x.names.length q1), (.slice a2 x.kids.length x.kids.length), .int .i64 x.pl] 26)).alloc (.cells #[.int .i64 y.kind, .int .i64 y.op, .int .i64 y.num, .string y.str, (.slice b1 y.names.length p1), (.slice b2 y.kids.length p2), .int .i64 y.pl] 26)).alloc (.cells #[.int .i64 0, .int .i64 0, .int .i64 0, .string ⟨#[]⟩, .slice none 0 0, .slice none 0 0, .int .i64 0] 26)) from by
    have := blk_new ((w.alloc (.cells #[.int .i64 x.kind, .int .i64 x.op, .int .i64 x.num, .string x.str, (.slice a1 x.names.length q1), (.slice a2 x.kids.length x.kids.length), .int .i64 x.pl] 26)).alloc (.cells #[.int .i64 y.kind, .int .i64 y.op, .int .i64 y.num, .string y.str, (.slice b1 y.names.length p1), (.slice b2 y.kids.length p2), .int .i64 y.pl] 26)) 26 #[.int .i64 0, .int .i64 0, .int .i64 0, .string ⟨#[]⟩, .slice none 0 0, .slice none 0 0, .int .i64 0]
    simpa using this)
  have N3 := hid (kdO_aft (aftO_below A3) (kdO_aft (aftO_below A2) (kdO_aft (aftO_below A1) (show KdO (fun b => lo ≤ b ∧ b ≠ w.heap.size + 1 + 1) w (.slice a2 x.kids.length x.kids.length) x.kids from kidsW_keep (fun b hb => ⟨⟨⟨hb.1, by have := hb.2; omega⟩, hb.2⟩, rfl⟩) (ndR_kids N.out)))))
  have M3 := hid (ndO_aft (aftO_below A3) (ndO_aft (aftO_below A2) (ndO_aft (aftO_below A1) (ndO_of (ok := (fun b => lo ≤ b ∧ b ≠ w.heap.size + 1 + 1)) M.out (fun b h1 h2 => ⟨h1, by omega⟩)))))
  have B3 := hid (below_on (below_on A1 A2) A3)
  have HK := hid hk
  clear A1 A2 A3 N M hk
  unfold ndv
  go_enter Tryd.func47, Tryd.ntmps47
  go_wp2_with (at_builtin; refine wp_nbec rfl _ _ rfl (fun b => lo ≤ b ∧ b ≠ w.heap.size + 1 + 1) x.kids y b1 b2 p1 p2 _ rfl a2 (by rfl) N3.out M3.out _ (by rfl) (by simp) hkl (fun k hk => by simp at hk; exact ⟨by omega, by omega⟩) ?_)
  intro v4 w4 k4 b4
  obtain ⟨e2, d2, hv4⟩ := krow_shape k4
  replace hv4 : v4 = .slice e2 (x.kids.length + 1) d2 := by rw [hv4]; simp
  subst hv4
  have K4 := hid k4
  replace b4 : Below (((w.alloc (.cells #[.int .i64 x.kind, .int .i64 x.op, .int .i64 x.num, .string x.str, (.slice a1 x.names.length q1), (.slice a2 x.kids.length x.kids.length), .int .i64 x.pl] 26)).alloc (.cells #[.int .i64 y.kind, .int .i64 y.op, .int .i64 y.num, .string y.str, (.slice b1 y.names.length p1), (.slice b2 y.kids.length p2), .int .i64 y.pl] 26)).alloc (.cells #[.int .i64 0, .int .i64 0, .int .i64 0, .string ⟨#[]⟩, .slice none 0 0, .slice none 0 0, .int .i64 0] 26)).heap.size (((w.alloc (.cells #[.int .i64 x.kind, .int .i64 x.op, .int .i64 x.num, .string x.str, (.slice a1 x.names.length q1), (.slice a2 x.kids.length x.kids.length), .int .i64 x.pl] 26)).alloc (.cells #[.int .i64 y.kind, .int .i64 y.op, .int .i64 y.num, .string y.str, (.slice b1 y.names.length p1), (.slice b2 y.kids.length p2), .int .i64 y.pl] 26)).alloc (.cells #[.int .i64 0, .int .i64 0, .int .i64 0, .string ⟨#[]⟩, .slice none 0 0, .slice none 0 0, .int .i64 0] 26)) w4 := by simp only [World.size_alloc]; exact b4
  have X4 := hid (blk_on X3.out b4)
  have Z4 := hid (blk_on Z3.out b4)
  have B4 := hid (below_on B3.out b4)
  clear k4 b4 X3 Z3 N3 M3 B3
  obtain ⟨c0, c1, c2, c3, c4, c5, c6⟩ := cells7 X4.out
  obtain ⟨r0, r1, r2, r3, r4, r5, r6⟩ := cells7 Z4.out
  obtain ⟨v0, v1, v2, v3, v4, v5, v6⟩ := frees7 Z4.out
  rw [HK.out] at c0
  have hg9 := blk_lt Z4.out
  go_wp2_with fail
  have Z := put7_blk Z4.out (.int .i64 24) (.int .i64 0) (.int .i64 0) (.string ⟨#[]⟩) (.slice none 0 0) (.slice e2 (x.kids.length + 1) d2) (.int .i64 0)
  have AO := put7_aftO (ok := (fun b => lo ≤ b ∧ b ≠ w.heap.size + 1 + 1)) (g := w.heap.size + 1 + 1) w4 (fun h => h.2 rfl) (.int .i64 24) (.int .i64 0) (.int .i64 0) (.string ⟨#[]⟩) (.slice none 0 0) (.slice e2 (x.kids.length + 1) d2) (.int .i64 0)
  have KK := krow_kids (krow_keep K4.out AO.size AO.block)
  have BB := below_put7 B4.out (g := w.heap.size + 1 + 1) (by omega) (.int .i64 24) (.int .i64 0) (.int .i64 0) (.string ⟨#[]⟩) (.slice none 0 0) (.slice e2 (x.kids.length + 1) d2) (.int .i64 0)
  have NN : NdR lo (put7w w4 (w.heap.size + 1 + 1) (.int .i64 24) (.int .i64 0) (.int .i64 0) (.string ⟨#[]⟩) (.slice none 0 0) (.slice e2 (x.kids.length + 1) d2) (.int .i64 0)) (ndK 24 (x.kids ++ [y])) (.slice none 0 0) (.slice e2 (x.kids.length + 1) d2) := ndR_mk2 ⟨st_nil, kidsW_keep (fun b hb => ⟨⟨hb.1.1, hb.2⟩, rfl⟩) KK⟩
  exact bodyPost_ret (ret_nd rfl rfl Z) rfl ⟨⟨_, _, rfl, NN⟩, BB⟩

set_option maxRecDepth 100000 in
set_option maxHeartbeats 6400000 in
theorem become_5 (lo : Nat) (x y : Nd) (a1 a2 b1 b2 : Option Addr) (q1 p1 p2 : Nat) (w : World) (hlo : lo ≤ w.heap.size) (hk : x.kind = 5) (hkl : x.kids.length ≤ 1000) (N : Hid (NdR lo w x (.slice a1 x.names.length q1) (.slice a2 x.kids.length x.kids.length))) (M : Hid (NdR lo w y (.slice b1 y.names.length p1) (.slice b2 y.kids.length p2))) :
    Calls Tryd.prog 47 #[ndv x (.slice a1 x.names.length q1) (.slice a2 x.kids.length x.kids.length), ndv y (.slice b1 y.names.length p1) (.slice b2 y.kids.length p2)] w (Becomes lo w (.mk 22 0 0 x.str [] (x.kids ++ [y]) x.pl)) := by
  have A1 := (Below.refl _ w).alloc (Nat.le_refl _) (.cells #[.int .i64 x.kind, .int .i64 x.op, .int .i64 x.num, .string x.str, (.slice a1 x.names.length q1), (.slice a2 x.kids.length x.kids.length), .int .i64 x.pl] 26)
  have A2 := (Below.refl _ (w.alloc (.cells #[.int .i64 x.kind, .int .i64 x.op, .int .i64 x.num, .string x.str, (.slice a1 x.names.length q1), (.slice a2 x.kids.length x.kids.length), .int .i64 x.pl] 26))).alloc (Nat.le_refl _) (.cells #[.int .i64 y.kind, .int .i64 y.op, .int .i64 y.num, .string y.str, (.slice b1 y.names.length p1), (.slice b2 y.kids.length p2), .int .i64 y.pl] 26)
  have A3 := (Below.refl _ ((w.alloc (.cells #[.int .i64 x.kind, .int .i64 x.op, .int .i64 x.num, .string x.str, (.slice a1 x.names.length q1), (.slice a2 x.kids.length x.kids.length), .int .i64 x.pl] 26)).alloc (.cells #[.int .i64 y.kind, .int .i64 y.op, .int .i64 y.num, .string y.str, (.slice b1 y.names.length p1), (.slice b2 y.kids.length p2), .int .i64 y.pl] 26))).alloc (Nat.le_refl _) (.cells #[.int .i64 0, .int .i64 0, .int .i64 0, .string ⟨#[]⟩, .slice none 0 0, .slice none 0 0, .int .i64 0] 26)
  have X3 := hid (blk_on (blk_on (blk_new w 26 #[.int .i64 x.kind, .int .i64 x.op, .int .i64 x.num, .string x.str, (.slice a1 x.names.length q1), (.slice a2 x.kids.length x.kids.length), .int .i64 x.pl]) A2) A3)
  have Z3 := hid (show Blk (w.heap.size + 1 + 1) 26 #[.int .i64 0, .int .i64 0, .int .i64 0, .string ⟨#[]⟩, .slice none 0 0, .slice none 0 0, .int .i64 0] (((w.alloc (.cells #[.int .i64 x.kind, .int .i64 x.op, .int .i64 x.num, .string x.str, (.slice a1 x.names.length q1), (.slice a2 x.kids.length x.kids.length), .int .i64 x.pl] 26)).alloc (.cells #[.int .i64 y.kind, .int .i64 y.op, .int .i64 y.num, .string y.str, (.slice b1 y.names.length p1), (.slice b2 y.kids.length p2), .int .i64 y.pl] 26)).alloc (.cells #[.int .i64 0, .int .i64 0, .int .i64 0, .string ⟨#[]⟩, .slice none 0 0, .slice none 0 0, .int .i64 0] 26)) from by
    have := blk_new ((w.alloc (.cells #[.int .i64 x.kind, .int .i64 x.op, .int .i64 x.num, .string x.str, (.slice a1 x.names.length q1), (.slice a2 x.kids.length x.kids.length), .int .i64 x.pl] 26)).alloc (.cells #[.int .i64 y.kind, .int .i64 y.op, .int .i64 y.num, .string y.str, (.slice b1 y.names.length p1), (.slice b2 y.kids.length p2), .int .i64 y.pl] 26)) 26 #[.int .i64 0, .int .i64 0, .int .i64 0, .string ⟨#[]⟩, .slice none 0 0, .slice none 0 0, .int .i64 0]
    simpa using this)
  have N3 := hid (kdO_aft (aftO_below A3) (kdO_aft (aftO_below A2) (kdO_aft (aftO_below A1) (show KdO (fun b => lo ≤ b ∧ b ≠ w.heap.size + 1 + 1) w (.slice a2 x.kids.length x.kids.length) x.kids from kidsW_keep (fun b hb => ⟨⟨⟨hb.1, by have := hb.2; omega⟩, hb.2⟩, rfl⟩) (ndR_kids N.out)))))
  have M3 := hid (ndO_aft (aftO_below A3) (ndO_aft (aftO_below A2) (ndO_aft (aftO_below A1) (ndO_of (ok := (fun b => lo ≤ b ∧ b ≠ w.heap.size + 1 + 1)) M.out (fun b h1 h2 => ⟨h1, by omega⟩)))))
  have B3 := hid (below_on (below_on A1 A2) A3)
  have HK := hid hk
  clear A1 A2 A3 N M hk
  unfold ndv
  go_enter Tryd.func47, Tryd.ntmps47
  go_wp2_with (at_builtin; refine wp_nbec rfl _ _ rfl (fun b => lo ≤ b ∧ b ≠ w.heap.size + 1 + 1) x.kids y b1 b2 p1 p2 _ rfl a2 (by rfl) N3.out M3.out _ (by rfl) (by simp) hkl (fun k hk => by simp at hk; exact ⟨by omega, by omega⟩) ?_)
  intro v4 w4 k4 b4
  obtain ⟨e2, d2, hv4⟩ := krow_shape k4
  replace hv4 : v4 = .slice e2 (x.kids.length + 1) d2 := by rw [hv4]; simp
  subst hv4
  have K4 := hid k4
  replace b4 : Below (((w.alloc (.cells #[.int .i64 x.kind, .int .i64 x.op, .int .i64 x.num, .string x.str, (.slice a1 x.names.length q1), (.slice a2 x.kids.length x.kids.length), .int .i64 x.pl] 26)).alloc (.cells #[.int .i64 y.kind, .int .i64 y.op, .int .i64 y.num, .string y.str, (.slice b1 y.names.length p1), (.slice b2 y.kids.length p2), .int .i64 y.pl] 26)).alloc (.cells #[.int .i64 0, .int .i64 0, .int .i64 0, .string ⟨#[]⟩, .slice none 0 0, .slice none 0 0, .int .i64 0] 26)).heap.size (((w.alloc (.cells #[.int .i64 x.kind, .int .i64 x.op, .int .i64 x.num, .string x.str, (.slice a1 x.names.length q1), (.slice a2 x.kids.length x.kids.length), .int .i64 x.pl] 26)).alloc (.cells #[.int .i64 y.kind, .int .i64 y.op, .int .i64 y.num, .string y.str, (.slice b1 y.names.length p1), (.slice b2 y.kids.length p2), .int .i64 y.pl] 26)).alloc (.cells #[.int .i64 0, .int .i64 0, .int .i64 0, .string ⟨#[]⟩, .slice none 0 0, .slice none 0 0, .int .i64 0] 26)) w4 := by simp only [World.size_alloc]; exact b4
  have X4 := hid (blk_on X3.out b4)
  have Z4 := hid (blk_on Z3.out b4)
  have B4 := hid (below_on B3.out b4)
  clear k4 b4 X3 Z3 N3 M3 B3
  obtain ⟨c0, c1, c2, c3, c4, c5, c6⟩ := cells7 X4.out
  obtain ⟨r0, r1, r2, r3, r4, r5, r6⟩ := cells7 Z4.out
  obtain ⟨v0, v1, v2, v3, v4, v5, v6⟩ := frees7 Z4.out
  rw [HK.out] at c0
  have hg9 := blk_lt Z4.out
  go_wp2_with fail
  have Z := put7_blk Z4.out (.int .i64 22) (.int .i64 0) (.int .i64 0) (.string x.str) (.slice none 0 0) (.slice e2 (x.kids.length + 1) d2) (.int .i64 x.pl)
  have AO := put7_aftO (ok := (fun b => lo ≤ b ∧ b ≠ w.heap.size + 1 + 1)) (g := w.heap.size + 1 + 1) w4 (fun h => h.2 rfl) (.int .i64 22) (.int .i64 0) (.int .i64 0) (.string x.str) (.slice none 0 0) (.slice e2 (x.kids.length + 1) d2) (.int .i64 x.pl)
  have KK := krow_kids (krow_keep K4.out AO.size AO.block)
  have BB := below_put7 B4.out (g := w.heap.size + 1 + 1) (by omega) (.int .i64 22) (.int .i64 0) (.int .i64 0) (.string x.str) (.slice none 0 0) (.slice e2 (x.kids.length + 1) d2) (.int .i64 x.pl)
  have NN : NdR lo (put7w w4 (w.heap.size + 1 + 1) (.int .i64 22) (.int .i64 0) (.int .i64 0) (.string x.str) (.slice none 0 0) (.slice e2 (x.kids.length + 1) d2) (.int .i64 x.pl)) (.mk 22 0 0 x.str [] (x.kids ++ [y]) x.pl) (.slice none 0 0) (.slice e2 (x.kids.length + 1) d2) := ndR_mk2 ⟨st_nil, kidsW_keep (fun b hb => ⟨⟨hb.1.1, hb.2⟩, rfl⟩) KK⟩
  exact bodyPost_ret (ret_nd rfl rfl Z) rfl ⟨⟨_, _, rfl, NN⟩, BB⟩

end Go.Proofs.YtijbiedblahmhaaDoor
