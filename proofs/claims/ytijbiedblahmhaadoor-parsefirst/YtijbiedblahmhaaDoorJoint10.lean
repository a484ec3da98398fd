/- A name or a place becomes a value. A short statement by which a name or a place becomes a value. Built-in calls, all of them. Parts with signs of one rank between them. Parts with signs of one rank between them. Parts with signs of one rank between them. Parts with signs of one rank between them. Parts with signs of one rank between them. Expressions of any rank. -/
import Derived.Test.YtijbiedblahmhaaDoorJoint8
import Derived.Test.YtijbiedblahmhaaDoorJoint9
import Derived.ArgAppend
import Derived.Test.YtijbiedblahmhaaDoorPsParts
import Derived.Test.YtijbiedblahmhaaDoorJoint4
namespace Go.Proofs.YtijbiedblahmhaaDoor
open Go.RowKit

theorem ndR_tight {lo : Nat} {w : World} {x : Nd} {nv kv : Value} (h : NdR lo w x nv kv) (hk : x.kind = 5 ∨ x.kind = 13 ∨ x.kind = 14) : ∃ ao, kv = .slice ao x.kids.length x.kids.length := by
  obtain ⟨k, o, n, s, ns, ks, p⟩ := x
  exact (ndW_mk.1 h).1 hk
/-- nodes in a block, as a row of cells -/
theorem nds_row {ok : Nat → Prop} {w : World} {b : Nat} : ∀ {ks : List Nd} {off : Nat}, NdsW ok w b ks off → ∃ cs, RowN ok w ks cs ∧ ∀ j u, cs[j]? = some u → w.cell? ⟨b, off + j, none⟩ = some u
  | [], off, _ => ⟨[], rfl, fun j u h => by simp at h⟩
  | .mk k op n s ns ks p :: r, off, h => by
    rw [NdsW] at h
    obtain ⟨⟨nv, kv, h1, h2⟩, h3⟩ := h
    obtain ⟨x0, x1, x2, x3, x4, x5, x6⟩ := h1
    obtain ⟨cs, h4, h5⟩ := nds_row h3
    refine ⟨ndl (.mk k op n s ns ks p) nv kv ++ cs, ⟨nv, kv, cs, rfl, h2, h4⟩, fun j u hj => ?_⟩
    by_cases h7 : j < 7
    · rw [List.getElem?_append_left (by simpa [ndl] using h7)] at hj
      obtain rfl | rfl | rfl | rfl | rfl | rfl | rfl : j = 0 ∨ j = 1 ∨ j = 2 ∨ j = 3 ∨ j = 4 ∨ j = 5 ∨ j = 6 := by omega
      · simp [ndl] at hj; rw [← hj]; exact x0
      · simp [ndl] at hj; rw [← hj]; exact x1
      · simp [ndl] at hj; rw [← hj]; exact x2
      · simp [ndl] at hj; rw [← hj]; exact x3
      · simp [ndl] at hj; rw [← hj]; exact x4
      · simp [ndl] at hj; rw [← hj]; exact x5
      · simp [ndl] at hj; rw [← hj]; exact x6
    · rw [List.getElem?_append_right (by simp [ndl]; omega)] at hj
      have := h5 (j - 7) u (by simpa [ndl] using hj)
      rw [show off + j = off + 7 + (j - 7) by omega]
      exact this
theorem kd_row {ok : Nat → Prop} {w : World} {ao : Option Addr} {ks : List Nd} {cap : Nat} (h : KdO ok w (.slice ao ks.length cap) ks) : ∃ cs, RowN (OwnO ok w) w ks cs ∧ (∀ b, ao = some b → ∀ j u, cs[j]? = some u → w.cell? (b.add j) = some u) ∧ (ao = none → ks.length = 0) := by
  rcases h with ⟨_, _, _, h2⟩ | ⟨b, off, cp, e, hb, h3, h4⟩
  · subst h2
    exact ⟨[], rfl, fun b _ j u h => by simp at h, fun _ => rfl⟩
  · injection e with e1 e2 e3
    subst e1
    obtain ⟨cs, h5, h6⟩ := nds_row h3
    refine ⟨cs, h5, fun a ha j u hj => ?_, fun h => by cases h⟩
    injection ha with ha
    subst ha
    rw [show (⟨b, off, none⟩ : Addr).add j = ⟨b, off + j, none⟩ from Addr.add_lit ..]
    exact h6 j u hj

theorem wp_nbec {ops : Array Oper} {rest : List Oper} {o : Oper} {a : Act} {Q : Exit → Act → World → Prop} {w : World} (hgd : o.guard = none) (s x : Operand)
    (ho : o.op = .call { callee := .builtin .append, args := #[s, x], argTypes := #[24, 24] })
    (ok : Nat → Prop) (ks : List Nd) (y : Nd) (b1 b2 : Option Addr) (p1 p2 : Nat) (cs : Array Value) (hcs : cs = ndc y (.slice b1 y.names.length p1) (.slice b2 y.kids.length p2)) (ao : Option Addr) (hs : a.eval s = .slice ao ks.length ks.length) (hR : KdO ok w (.slice ao ks.length ks.length) ks)
    (hY : NdO ok w y (.slice b1 y.names.length p1) (.slice b2 y.kids.length p2)) (nb : Nat) (hx : a.eval x = .slice (some ⟨nb, 0, none⟩) 1 1) (hnb : nb = w.heap.size) (hlen : ks.length ≤ 1000) (hup : ∀ k, w.heap.size < k → ok k)
    (h : ∀ v' w', KRow (w.heap.size + 1) ok w' v' (ks ++ [y]) → Below w.heap.size w w' → wpList Tryd.prog ops Q rest (a.put o.dst v') w') :
    wpList Tryd.prog ops Q (o :: rest) a (w.alloc (.cells cs 26)) := by
  subst hnb hcs
  obtain ⟨i0, hi, hz0, hz1, hz2⟩ := infoN
  obtain ⟨xs, hr, hcells, hnone⟩ := kd_row hR
  have hxl := rowN_len hr
  have AL := (Below.refl w.heap.size w).alloc (Nat.le_refl _) (.cells (ndc y (.slice b1 y.names.length p1) (.slice b2 y.kids.length p2)) 26)
  refine wpList_append_grows _ hgd s x 24 ho 26 i0 _ 7 96 underN hi hz0 hz1 hz2 rfl (by decide) ao ks.length ks.length xs hs (fun h => ⟨hnone h, hnone h⟩) hxl (fun b hb j u hj => (by rw [World.cell?_alloc_some _ _ _ (by rw [hcells b hb j u hj]; rfl)]; exact hcells b hb j u hj)) ⟨w.heap.size, 0, none⟩ 1 1 (ndl y (.slice b1 y.names.length p1) (.slice b2 y.kids.length p2)) hx rfl ?_ ?_ (by omega) (by unfold maxLen; omega) (by omega) ?_
  · intro j u hj
    have e : (⟨w.heap.size, 0, none⟩ : Addr).add j = ⟨w.heap.size, j, none⟩ := by unfold Addr.add; split <;> simp_all
    rw [e, World.cell?_alloc_new]
    simpa [ndc, ndl] using hj
  · intro u hu
    simp only [ndl, List.mem_cons, List.not_mem_nil, or_false] at hu
    rcases hu with rfl | rfl | rfl | rfl | rfl | rfl | rfl <;> rfl
  · intro v' w' hown hgrow
    have hsz := hgrow.size
    simp only [World.size_alloc] at hsz hown
    have keep : ∀ k, OwnO ok w k → Els ok v' w' k ∧ w'.heap[k]? = w.heap[k]? := by
      rintro k ⟨h1, h2⟩
      have h4 := hgrow.block k (by simp; omega) (by simp)
      exact ⟨⟨h1, by omega, fun e => by have := (hown.lt k e.symm).1; omega⟩, h4.trans (AL.block k h2)⟩
    refine h v' w' ⟨xs ++ ndl y (.slice b1 y.names.length p1) (.slice b2 y.kids.length p2), by simpa using hown, rowN_snoc (ndW_keep keep _ _ _ hY) (rowN_keep keep hr), fun k hk => ?_⟩ ?_
    · have := (hown.lt k hk).1
      exact hup k (by omega)
    · exact AL.grown hgrow (by simp) (fun k hk => by cases hk)

/-- what becomes of the two -/
def Becomes (lo : Nat) (w : World) (t : Nd) (e : Ending) (w' : World) : Prop := (∃ nv kv, e = .returned (ndv t nv kv) ∧ NdR lo w' t nv kv) ∧ Below w.heap.size w w'
theorem below_put7 {B g : Nat} {a c : World} (h : Below B a c) (hg : B ≤ g) (x0 x1 x2 x3 x4 x5 x6 : Value) : Below B a (put7w c g x0 x1 x2 x3 x4 x5 x6) :=
  ((((((h.setCell (p := ⟨g, 0, none⟩) hg x0).setCell (p := ⟨g, 1, none⟩) hg x1).setCell (p := ⟨g, 2, none⟩) hg x2).setCell (p := ⟨g, 3, none⟩) hg x3).setCell (p := ⟨g, 4, none⟩) hg x4).setCell (p := ⟨g, 5, none⟩) hg x5).setCell (p := ⟨g, 6, none⟩) hg x6

set_option maxRecDepth 100000 in
set_option maxHeartbeats 6400000 in
theorem become_13 (lo : Nat) (x y : Nd) (a1 a2 b1 b2 : Option Addr) (q1 p1 p2 : Nat) (w : World) (hlo : lo ≤ w.heap.size) (hk : x.kind = 13) (hkl : x.kids.length ≤ 1000) (N : Hid (NdR lo w x (.slice a1 x.names.length q1) (.slice a2 x.kids.length x.kids.length))) (M : Hid (NdR lo w y (.slice b1 y.names.length p1) (.slice b2 y.kids.length p2))) :
    Calls Tryd.prog 47 #[ndv x (.slice a1 x.names.length q1) (.slice a2 x.kids.length x.kids.length), ndv y (.slice b1 y.names.length p1) (.slice b2 y.kids.length p2)] w (Becomes lo w (ndS 23 x.str (x.kids ++ [y]))) := by
  have A1 := (Below.refl _ w).alloc (Nat.le_refl _) (.cells #[.int .i64 x.kind, .int .i64 x.op, .int .i64 x.num, .string x.str, (.slice a1 x.names.length q1), (.slice a2 x.kids.length x.kids.length), .int .i64 x.pl] 26)
  have A2 := (Below.refl _ (w.alloc (.cells #[.int .i64 x.kind, .int .i64 x.op, .int .i64 x.num, .string x.str, (.slice a1 x.names.length q1), (.slice a2 x.kids.length x.kids.length), .int .i64 x.pl] 26))).alloc (Nat.le_refl _) (.cells #[.int .i64 y.kind, .int .i64 y.op, .int .i64 y.num, .string y.str, (.slice b1 y.names.length p1), (.slice b2 y.kids.length p2), .int .i64 y.pl] 26)
  have A3 := (Below.refl _ ((w.alloc (.cells #[.int .i64 x.kind, .int .i64 x.op, .int .i64 x.num, .string x.str, (.slice a1 x.names.length q1), (.slice a2 x.kids.length x.kids.length), .int .i64 x.pl] 26)).alloc (.cells #[.int .i64 y.kind, .int .i64 y.op, .int .i64 y.num, .string y.str, (.slice b1 y.names.length p1), (.slice b2 y.kids.length p2), .int .i64 y.pl] 26))).alloc (Nat.le_refl _) (.cells #[.int .i64 0, .int .i64 0, .int .i64 0, .string ⟨#[]⟩, .slice none 0 0, .slice none 0 0, .int .i64 0] 26)
  have X3 := hid (blk_on (blk_on (blk_new w 26 #[.int .i64 x.kind, .int .i64 x.op, .int .i64 x.num, .string x.str, (.slice a1 x.names.length q1), (.slice a2 x.kids.length x.kids.length), .int .i64 x.pl]) A2) A3)
  have Z3 := hid (show Blk (w.heap.size + 1 + 1) 26 #[.int .i64 0, .int .i64 0, .int .i64 0, .string ⟨#[]⟩, .slice none 0 0, .slice none 0 0, .int .i64 0] (((w.alloc (.cells #[.int .i64 x.kind, .int .i64 x.op, .int .i64 x.num, .string x.str, (.slice a1 x.names.length q1), (.slice a2 x.kids.length x.kids.length), .int .i64 x.pl] 26)).alloc (.cells #[.int .i64 y.kind, .int .i64 y.op, .int .i64 y.num, .string y.str, (.slice b1 y.names.length p1), (.slice b2 y.kids.length p2), .int .i64 y.pl] 26)).alloc (.cells #[.int .i64 0, .int .i64 0, .int .i64 0, .string ⟨#[]⟩, .slice none 0 0, .slice none 0 0, .int .i64 0] 26)) from by
    have := blk_new ((w.alloc (.cells #[.int .i64 x.kind, .int .i64 x.op, .int .i64 x.num, .string x.str, (.slice a1 x.names.length q1), (.slice a2 x.kids.length x.kids.length), .int .i64 x.pl] 26)).alloc (.cells #[.int .i64 y.kind, .int .i64 y.op, .int .i64 y.num, .string y.str, (.slice b1 y.names.length p1), (.slice b2 y.kids.length p2), .int .i64 y.pl] 26)) 26 #[.int .i64 0, .int .i64 0, .int .i64 0, .string ⟨#[]⟩, .slice none 0 0, .slice none 0 0, .int .i64 0]
    simpa using this)
  have N3 := hid (kdO_aft (aftO_below A3) (kdO_aft (aftO_below A2) (kdO_aft (aftO_below A1) (show KdO (fun b => lo ≤ b ∧ b ≠ w.heap.size + 1 + 1) w (.slice a2 x.kids.length x.kids.length) x.kids from kidsW_keep (fun b hb => ⟨⟨⟨hb.1, by have := hb.2; omega⟩, hb.2⟩, rfl⟩) (ndR_kids N.out)))))
  have M3 := hid (ndO_aft (aftO_below A3) (ndO_aft (aftO_below A2) (ndO_aft (aftO_below A1) (ndO_of (ok := (fun b => lo ≤ b ∧ b ≠ w.heap.size + 1 + 1)) M.out (fun b h1 h2 => ⟨h1, by omega⟩)))))
  have B3 := hid (below_on (below_on A1 A2) A3)
  have HK := hid hk
  clear A1 A2 A3 N M hk
  unfold ndv
  go_enter Tryd.func47, Tryd.ntmps47
  go_wp2_with (at_builtin; refine wp_nbec rfl _ _ rfl (fun b => lo ≤ b ∧ b ≠ w.heap.size + 1 + 1) x.kids y b1 b2 p1 p2 _ rfl a2 (by rfl) N3.out M3.out _ (by rfl) (by simp) hkl (fun k hk => by simp at hk; exact ⟨by omega, by omega⟩) ?_)
  intro v4 w4 k4 b4
  obtain ⟨e2, d2, hv4⟩ := krow_shape k4
  replace hv4 : v4 = .slice e2 (x.kids.length + 1) d2 := by rw [hv4]; simp
  subst hv4
  have K4 := hid k4
  replace b4 : Below (((w.alloc (.cells #[.int .i64 x.kind, .int .i64 x.op, .int .i64 x.num, .string x.str, (.slice a1 x.names.length q1), (.slice a2 x.kids.length x.kids.length), .int .i64 x.pl] 26)).alloc (.cells #[.int .i64 y.kind, .int .i64 y.op, .int .i64 y.num, .string y.str, (.slice b1 y.names.length p1), (.slice b2 y.kids.length p2), .int .i64 y.pl] 26)).alloc (.cells #[.int .i64 0, .int .i64 0, .int .i64 0, .string ⟨#[]⟩, .slice none 0 0, .slice none 0 0, .int .i64 0] 26)).heap.size (((w.alloc (.cells #[.int .i64 x.kind, .int .i64 x.op, .int .i64 x.num, .string x.str, (.slice a1 x.names.length q1), (.slice a2 x.kids.length x.kids.length), .int .i64 x.pl] 26)).alloc (.cells #[.int .i64 y.kind, .int .i64 y.op, .int .i64 y.num, .string y.str, (.slice b1 y.names.length p1), (.slice b2 y.kids.length p2), .int .i64 y.pl] 26)).alloc (.cells #[.int .i64 0, .int .i64 0, .int .i64 0, .string ⟨#[]⟩, .slice none 0 0, .slice none 0 0, .int .i64 0] 26)) w4 := by simp only [World.size_alloc]; exact b4
  have X4 := hid (blk_on X3.out b4)
  have Z4 := hid (blk_on Z3.out b4)
  have B4 := hid (below_on B3.out b4)
  clear k4 b4 X3 Z3 N3 M3 B3
  obtain ⟨c0, c1, c2, c3, c4, c5, c6⟩ := cells7 X4.out
  obtain ⟨r0, r1, r2, r3, r4, r5, r6⟩ := cells7 Z4.out
  obtain ⟨v0, v1, v2, v3, v4, v5, v6⟩ := frees7 Z4.out
  rw [HK.out] at c0
  have hg9 := blk_lt Z4.out
  go_wp2_with fail
  have Z := put7_blk Z4.out (.int .i64 23) (.int .i64 0) (.int .i64 0) (.string x.str) (.slice none 0 0) (.slice e2 (x.kids.length + 1) d2) (.int .i64 0)
  have AO := put7_aftO (ok := (fun b => lo ≤ b ∧ b ≠ w.heap.size + 1 + 1)) (g := w.heap.size + 1 + 1) w4 (fun h => h.2 rfl) (.int .i64 23) (.int .i64 0) (.int .i64 0) (.string x.str) (.slice none 0 0) (.slice e2 (x.kids.length + 1) d2) (.int .i64 0)
  have KK := krow_kids (krow_keep K4.out AO.size AO.block)
  have BB := below_put7 B4.out (g := w.heap.size + 1 + 1) (by omega) (.int .i64 23) (.int .i64 0) (.int .i64 0) (.string x.str) (.slice none 0 0) (.slice e2 (x.kids.length + 1) d2) (.int .i64 0)
  have NN : NdR lo (put7w w4 (w.heap.size + 1 + 1) (.int .i64 23) (.int .i64 0) (.int .i64 0) (.string x.str) (.slice none 0 0) (.slice e2 (x.kids.length + 1) d2) (.int .i64 0)) (ndS 23 x.str (x.kids ++ [y])) (.slice none 0 0) (.slice e2 (x.kids.length + 1) d2) := ndR_mk2 ⟨st_nil, kidsW_keep (fun b hb => ⟨⟨hb.1.1, hb.2⟩, rfl⟩) KK⟩
  exact bodyPost_ret (ret_nd rfl rfl Z) rfl ⟨⟨_, _, rfl, NN⟩, BB⟩

set_option maxRecDepth 100000 in
set_option maxHeartbeats 6400000 in
theorem become_14 (lo : Nat) (x y : Nd) (a1 a2 b1 b2 : Option Addr) (q1 p1 p2 : Nat) (w : World) (hlo : lo ≤ w.heap.size) (hk : x.kind = 14) (hkl : x.kids.length ≤ 1000) (N : Hid (NdR lo w x (.slice a1 x.names.length q1) (.slice a2 x.kids.length x.kids.length))) (M : Hid (NdR lo w y (.slice b1 y.names.length p1) (.slice b2 y.kids.length p2))) :
    Calls Tryd.prog 47 #[ndv x (.slice a1 x.names.length q1) (.slice a2 x.kids.length x.kids.length), ndv y (.slice b1 y.names.length p1) (.slice b2 y.kids.length p2)] w (Becomes lo w (ndK 24 (x.kids ++ [y]))) := by
  have A1 := (Below.refl _ w).alloc (Nat.le_refl _) (.cells #[.int .i64 x.kind, .int .i64 x.op, .int .i64 x.num, .string x.str, (.slice a1 x.names.length q1), (.slice a2 x.kids.length x.kids.length), .int .i64 x.pl] 26)
  have A2 := (Below.refl _ (w.alloc (.cells #[.int .i64 x.kind, .int .i64 x.op, .int .i64 x.num, .string x.str, (.slice a1 x.names.length q1), (.slice a2 x.kids.length x.kids.length), .int .i64 x.pl] 26))).alloc (Nat.le_refl _) (.cells #[.int .i64 y.kind, .int .i64 y.op, .int .i64 y.num, .string y.str, (.slice b1 y.names.length p1), (.slice b2 y.kids.length p2), .int .i64 y.pl] 26)
  have A3 := (Below.refl _ ((w.alloc (.cells #[.int .i64 x.kind, .int .i64 x.op, .int .i64 x.num, .string x.str, (.slice a1 x.names.length q1), (.slice a2 x.kids.length x.kids.length), .int .i64 x.pl] 26)).alloc (.cells #[.int .i64 y.kind, .int .i64 y.op, .int .i64 y.num, .string y.str, (.slice b1 y.names.length p1), (.slice b2 y.kids.length p2), .int .i64 y.pl] 26))).alloc (Nat.le_refl _) (.cells #[.int .i64 0, .int .i64 0, .int .i64 0, .string ⟨#[]⟩, .slice none 0 0, .slice none 0 0, .int .i64 0] 26)
  have X3 := hid (blk_on (blk_on (blk_new w 26 #[.int .i64 x.kind, .int .i64 x.op, .int .i64 x.num, .string x.str, (.slice a1 x.names.length q1), (.slice a2 x.kids.length x.kids.length), .int .i64 x.pl]) A2) A3)
  have Z3 := hid (show Blk (w.heap.size + 1 + 1) 26 #[.int .i64 0, .int .i64 0, .int .i64 0, .string ⟨#[]⟩, .slice none 0 0, .slice none 0 0, .int .i64 0] (((w.alloc (.cells #[.int .i64 x.kind, .int .i64 x.op, .int .i64 x.num, .string x.str, (.slice a1 x.names.length q1), (.slice a2 x.kids.length x.kids.length), .int .i64 x.pl] 26)).alloc (.cells #[.int .i64 y.kind, .int .i64 y.op, .int .i64 y.num, .string y.str, (.slice b1 y.names.length p1), (.slice b2 y.kids.length p2), .int .i64 y.pl] 26)).alloc (.cells #[.int .i64 0, .int .i64 0, .int .i64 0, .string ⟨#[]⟩, .slice none 0 0, .slice none 0 0, .int .i64 0] 26)) from by
    have := blk_new ((w.alloc (.cells #[.int .i64 x.kind, .int .i64 x.op, .int .i64 x.num, .string x.str, (.slice a1 x.names.length q1), (.slice a2 x.kids.length x.kids.length), .int .i64 x.pl] 26)).alloc (.cells #[.int .i64 y.kind, .int .i64 y.op, .int .i64 y.num, .string y.str, (.slice b1 y.names.length p1), (.slice b2 y.kids.length p2), .int .i64 y.pl] 26)) 26 #[.int .i64 0, .int .i64 0, .int .i64 0, .string ⟨#[]⟩, .slice none 0 0, .slice none 0 0, .int .i64 0]
    simpa using this)
  have N3 := hid (kdO_aft (aftO_below A3) (kdO_aft (aftO_below A2) (kdO_aft (aftO_below A1) (show KdO (fun b => lo ≤ b ∧ b ≠ w.heap.size + 1 + 1) w (.slice a2 x.kids.length x.kids.length) x.kids from kidsW_keep (fun b hb => ⟨⟨⟨hb.1, by have := hb.2; omega⟩, hb.2⟩, rfl⟩) (ndR_kids N.out)))))
  have M3 := hid (ndO_aft (aftO_below A3) (ndO_aft (aftO_below A2) (ndO_aft (aftO_below A1) (ndO_of (ok := (fun b => lo ≤ b ∧ b ≠ w.heap.size + 1 + 1)) M.out (fun b h1 h2 => ⟨h1, by omega⟩)))))
  have B3 := hid (below_on (below_on A1 A2) A3)
  have HK := hid hk
  clear A1 A2 A3 N M hk
  unfold ndv
  go_enter Tryd.func47, Tryd.ntmps47
  go_wp2_with (at_builtin; refine wp_nbec rfl _ _ rfl (fun b => lo ≤ b ∧ b ≠ w.heap.size + 1 + 1) x.kids y b1 b2 p1 p2 _ rfl a2 (by rfl) N3.out M3.out _ (by rfl) (by simp) hkl (fun k hk => by simp at hk; exact ⟨by omega, by omega⟩) ?_)
  intro v4 w4 k4 b4
  obtain ⟨e2, d2, hv4⟩ := krow_shape k4
  replace hv4 : v4 = .slice e2 (x.kids.length + 1) d2 := by rw [hv4]; simp
  subst hv4
  have K4 := hid k4
  replace b4 : Below (((w.alloc (.cells #[.int .i64 x.kind, .int .i64 x.op, .int .i64 x.num, .string x.str, (.slice a1 x.names.length q1), (.slice a2 x.kids.length x.kids.length), .int .i64 x.pl] 26)).alloc (.cells #[.int .i64 y.kind, .int .i64 y.op, .int .i64 y.num, .string y.str, (.slice b1 y.names.length p1), (.slice b2 y.kids.length p2), .int .i64 y.pl] 26)).alloc (.cells #[.int .i64 0, .int .i64 0, .int .i64 0, .string ⟨#[]⟩, .slice none 0 0, .slice none 0 0, .int .i64 0] 26)).heap.size (((w.alloc (.cells #[.int .i64 x.kind, .int .i64 x.op, .int .i64 x.num, .string x.str, (.slice a1 x.names.length q1), (.slice a2 x.kids.length x.kids.length), .int .i64 x.pl] 26)).alloc (.cells #[.int .i64 y.kind, .int .i64 y.op, .int .i64 y.num, .string y.str, (.slice b1 y.names.length p1), (.slice b2 y.kids.length p2), .int .i64 y.pl] 26)).alloc (.cells #[.int .i64 0, .int .i64 0, .int .i64 0, .string ⟨#[]⟩, .slice none 0 0, .slice none 0 0, .int .i64 0] 26)) w4 := by simp only [World.size_alloc]; exact b4
  have X4 := hid (blk_on X3.out b4)
  have Z4 := hid (blk_on Z3.out b4)
  have B4 := hid (below_on B3.out b4)
  clear k4 b4 X3 Z3 N3 M3 B3
  obtain ⟨c0, c1, c2, c3, c4, c5, c6⟩ := cells7 X4.out
  obtain ⟨r0, r1, r2, r3, r4, r5, r6⟩ := cells7 Z4.out
  obtain ⟨v0, v1, v2, v3, v4, v5, v6⟩ := frees7 Z4.out
  rw [HK.out] at c0
  have hg9 := blk_lt Z4.out
  go_wp2_with fail
  have Z := put7_blk Z4.out (.int .i64 24) (.int .i64 0) (.int .i64 0) (.string ⟨#[]⟩) (.slice none 0 0) (.slice e2 (x.kids.length + 1) d2) (.int .i64 0)
  have AO := put7_aftO (ok := (fun b => lo ≤ b ∧ b ≠ w.heap.size + 1 + 1)) (g := w.heap.size + 1 + 1) w4 (fun h => h.2 rfl) (.int .i64 24) (.int .i64 0) (.int .i64 0) (.string ⟨#[]⟩) (.slice none 0 0) (.slice e2 (x.kids.length + 1) d2) (.int .i64 0)
  have KK := krow_kids (krow_keep K4.out AO.size AO.block)
  have BB := below_put7 B4.out (g := w.heap.size + 1 + 1) (by omega) (.int .i64 24) (.int .i64 0) (.int .i64 0) (.string ⟨#[]⟩) (.slice none 0 0) (.slice e2 (x.kids.length + 1) d2) (.int .i64 0)
  have NN : NdR lo (put7w w4 (w.heap.size + 1 + 1) (.int .i64 24) (.int .i64 0) (.int .i64 0) (.string ⟨#[]⟩) (.slice none 0 0) (.slice e2 (x.kids.length + 1) d2) (.int .i64 0)) (ndK 24 (x.kids ++ [y])) (.slice none 0 0) (.slice e2 (x.kids.length + 1) d2) := ndR_mk2 ⟨st_nil, kidsW_keep (fun b hb => ⟨⟨hb.1.1, hb.2⟩, rfl⟩) KK⟩
  exact bodyPost_ret (ret_nd rfl rfl Z) rfl ⟨⟨_, _, rfl, NN⟩, BB⟩

set_option maxRecDepth 100000 in
set_option maxHeartbeats 6400000 in
theorem become_5 (lo : Nat) (x y : Nd) (a1 a2 b1 b2 : Option Addr) (q1 p1 p2 : Nat) (w : World) (hlo : lo ≤ w.heap.size) (hk : x.kind = 5) (hkl : x.kids.length ≤ 1000) (N : Hid (NdR lo w x (.slice a1 x.names.length q1) (.slice a2 x.kids.length x.kids.length))) (M : Hid (NdR lo w y (.slice b1 y.names.length p1) (.slice b2 y.kids.length p2))) :
    Calls Tryd.prog 47 #[ndv x (.slice a1 x.names.length q1) (.slice a2 x.kids.length x.kids.length), ndv y (.slice b1 y.names.length p1) (.slice b2 y.kids.length p2)] w (Becomes lo w (.mk 22 0 0 x.str [] (x.kids ++ [y]) x.pl)) := by
  have A1 := (Below.refl _ w).alloc (Nat.le_refl _) (.cells #[.int .i64 x.kind, .int .i64 x.op, .int .i64 x.num, .string x.str, (.slice a1 x.names.length q1), (.slice a2 x.kids.length x.kids.length), .int .i64 x.pl] 26)
  have A2 := (Below.refl _ (w.alloc (.cells #[.int .i64 x.kind, .int .i64 x.op, .int .i64 x.num, .string x.str, (.slice a1 x.names.length q1), (.slice a2 x.kids.length x.kids.length), .int .i64 x.pl] 26))).alloc (Nat.le_refl _) (.cells #[.int .i64 y.kind, .int .i64 y.op, .int .i64 y.num, .string y.str, (.slice b1 y.names.length p1), (.slice b2 y.kids.length p2), .int .i64 y.pl] 26)
  have A3 := (Below.refl _ ((w.alloc (.cells #[.int .i64 x.kind, .int .i64 x.op, .int .i64 x.num, .string x.str, (.slice a1 x.names.length q1), (.slice a2 x.kids.length x.kids.length), .int .i64 x.pl] 26)).alloc (.cells #[.int .i64 y.kind, .int .i64 y.op, .int .i64 y.num, .string y.str, (.slice b1 y.names.length p1), (.slice b2 y.kids.length p2), .int .i64 y.pl] 26))).alloc (Nat.le_refl _) (.cells #[.int .i64 0, .int .i64 0, .int .i64 0, .string ⟨#[]⟩, .slice none 0 0, .slice none 0 0, .int .i64 0] 26)
  have X3 := hid (blk_on (blk_on (blk_new w 26 #[.int .i64 x.kind, .int .i64 x.op, .int .i64 x.num, .string x.str, (.slice a1 x.names.length q1), (.slice a2 x.kids.length x.kids.length), .int .i64 x.pl]) A2) A3)
  have Z3 := hid (show Blk (w.heap.size + 1 + 1) 26 #[.int .i64 0, .int .i64 0, .int .i64 0, .string ⟨#[]⟩, .slice none 0 0, .slice none 0 0, .int .i64 0] (((w.alloc (.cells #[.int .i64 x.kind, .int .i64 x.op, .int .i64 x.num, .string x.str, (.slice a1 x.names.length q1), (.slice a2 x.kids.length x.kids.length), .int .i64 x.pl] 26)).alloc (.cells #[.int .i64 y.kind, .int .i64 y.op, .int .i64 y.num, .string y.str, (.slice b1 y.names.length p1), (.slice b2 y.kids.length p2), .int .i64 y.pl] 26)).alloc (.cells #[.int .i64 0, .int .i64 0, .int .i64 0, .string ⟨#[]⟩, .slice none 0 0, .slice none 0 0, .int .i64 0] 26)) from by
    have := blk_new ((w.alloc (.cells #[.int .i64 x.kind, .int .i64 x.op, .int .i64 x.num, .string x.str, (.slice a1 x.names.length q1), (.slice a2 x.kids.length x.kids.length), .int .i64 x.pl] 26)).alloc (.cells #[.int .i64 y.kind, .int .i64 y.op, .int .i64 y.num, .string y.str, (.slice b1 y.names.length p1), (.slice b2 y.kids.length p2), .int .i64 y.pl] 26)) 26 #[.int .i64 0, .int .i64 0, .int .i64 0, .string ⟨#[]⟩, .slice none 0 0, .slice none 0 0, .int .i64 0]
    simpa using this)
  have N3 := hid (kdO_aft (aftO_below A3) (kdO_aft (aftO_below A2) (kdO_aft (aftO_below A1) (show KdO (fun b => lo ≤ b ∧ b ≠ w.heap.size + 1 + 1) w (.slice a2 x.kids.length x.kids.length) x.kids from kidsW_keep (fun b hb => ⟨⟨⟨hb.1, by have := hb.2; omega⟩, hb.2⟩, rfl⟩) (ndR_kids N.out)))))
  have M3 := hid (ndO_aft (aftO_below A3) (ndO_aft (aftO_below A2) (ndO_aft (aftO_below A1) (ndO_of (ok := (fun b => lo ≤ b ∧ b ≠ w.heap.size + 1 + 1)) M.out (fun b h1 h2 => ⟨h1, by omega⟩)))))
  have B3 := hid (below_on (below_on A1 A2) A3)
  have HK := hid hk
  clear A1 A2 A3 N M hk
  unfold ndv
  go_enter Tryd.func47, Tryd.ntmps47
  go_wp2_with (at_builtin; refine wp_nbec rfl _ _ rfl (fun b => lo ≤ b ∧ b ≠ w.heap.size + 1 + 1) x.kids y b1 b2 p1 p2 _ rfl a2 (by rfl) N3.out M3.out _ (by rfl) (by simp) hkl (fun k hk => by simp at hk; exact ⟨by omega, by omega⟩) ?_)
  intro v4 w4 k4 b4
  obtain ⟨e2, d2, hv4⟩ := krow_shape k4
  replace hv4 : v4 = .slice e2 (x.kids.length + 1) d2 := by rw [hv4]; simp
  subst hv4
  have K4 := hid k4
  replace b4 : Below (((w.alloc (.cells #[.int .i64 x.kind, .int .i64 x.op, .int .i64 x.num, .string x.str, (.slice a1 x.names.length q1), (.slice a2 x.kids.length x.kids.length), .int .i64 x.pl] 26)).alloc (.cells #[.int .i64 y.kind, .int .i64 y.op, .int .i64 y.num, .string y.str, (.slice b1 y.names.length p1), (.slice b2 y.kids.length p2), .int .i64 y.pl] 26)).alloc (.cells #[.int .i64 0, .int .i64 0, .int .i64 0, .string ⟨#[]⟩, .slice none 0 0, .slice none 0 0, .int .i64 0] 26)).heap.size (((w.alloc (.cells #[.int .i64 x.kind, .int .i64 x.op, .int .i64 x.num, .string x.str, (.slice a1 x.names.length q1), (.slice a2 x.kids.length x.kids.length), .int .i64 x.pl] 26)).alloc (.cells #[.int .i64 y.kind, .int .i64 y.op, .int .i64 y.num, .string y.str, (.slice b1 y.names.length p1), (.slice b2 y.kids.length p2), .int .i64 y.pl] 26)).alloc (.cells #[.int .i64 0, .int .i64 0, .int .i64 0, .string ⟨#[]⟩, .slice none 0 0, .slice none 0 0, .int .i64 0] 26)) w4 := by simp only [World.size_alloc]; exact b4
  have X4 := hid (blk_on X3.out b4)
  have Z4 := hid (blk_on Z3.out b4)
  have B4 := hid (below_on B3.out b4)
  clear k4 b4 X3 Z3 N3 M3 B3
  obtain ⟨c0, c1, c2, c3, c4, c5, c6⟩ := cells7 X4.out
  obtain ⟨r0, r1, r2, r3, r4, r5, r6⟩ := cells7 Z4.out
  obtain ⟨v0, v1, v2, v3, v4, v5, v6⟩ := frees7 Z4.out
  rw [HK.out] at c0
  have hg9 := blk_lt Z4.out
  go_wp2_with fail
  have Z := put7_blk Z4.out (.int .i64 22) (.int .i64 0) (.int .i64 0) (.string x.str) (.slice none 0 0) (.slice e2 (x.kids.length + 1) d2) (.int .i64 x.pl)
  have AO := put7_aftO (ok := (fun b => lo ≤ b ∧ b ≠ w.heap.size + 1 + 1)) (g := w.heap.size + 1 + 1) w4 (fun h => h.2 rfl) (.int .i64 22) (.int .i64 0) (.int .i64 0) (.string x.str) (.slice none 0 0) (.slice e2 (x.kids.length + 1) d2) (.int .i64 x.pl)
  have KK := krow_kids (krow_keep K4.out AO.size AO.block)
  have BB := below_put7 B4.out (g := w.heap.size + 1 + 1) (by omega) (.int .i64 22) (.int .i64 0) (.int .i64 0) (.string x.str) (.slice none 0 0) (.slice e2 (x.kids.length + 1) d2) (.int .i64 x.pl)
  have NN : NdR lo (put7w w4 (w.heap.size + 1 + 1) (.int .i64 22) (.int .i64 0) (.int .i64 0) (.string x.str) (.slice none 0 0) (.slice e2 (x.kids.length + 1) d2) (.int .i64 x.pl)) (.mk 22 0 0 x.str [] (x.kids ++ [y]) x.pl) (.slice none 0 0) (.slice e2 (x.kids.length + 1) d2) := ndR_mk2 ⟨st_nil, kidsW_keep (fun b hb => ⟨⟨hb.1.1, hb.2⟩, rfl⟩) KK⟩
  exact bodyPost_ret (ret_nd rfl rfl Z) rfl ⟨⟨_, _, rfl, NN⟩, BB⟩

end Go.Proofs.YtijbiedblahmhaaDoor

namespace Go.Proofs.YtijbiedblahmhaaDoor
open Go.RowKit

theorem become_calls (lo : Nat) (x y : Nd) (a1 a2 b1 b2 : Option Addr) (q1 p1 p2 : Nat) (w : World) (hlo : lo ≤ w.heap.size) (hk : bareK x) (hkl : x.kids.length ≤ 1000) (N : Hid (NdR lo w x (.slice a1 x.names.length q1) (.slice a2 x.kids.length x.kids.length))) (M : Hid (NdR lo w y (.slice b1 y.names.length p1) (.slice b2 y.kids.length p2))) :
    Calls Tryd.prog 47 #[ndv x (.slice a1 x.names.length q1) (.slice a2 x.kids.length x.kids.length), ndv y (.slice b1 y.names.length p1) (.slice b2 y.kids.length p2)] w (Becomes lo w (becomeN x y)) := by
  unfold becomeN
  rcases hk with h | h | h
  · rw [if_neg (by omega), if_neg (by omega)]
    exact become_5 lo x y a1 a2 b1 b2 q1 p1 p2 w hlo h hkl N M
  · rw [if_pos h]
    exact become_13 lo x y a1 a2 b1 b2 q1 p1 p2 w hlo h hkl N M
  · rw [if_neg (by omega), if_pos h]
    exact become_14 lo x y a1 a2 b1 b2 q1 p1 p2 w hlo h hkl N M
theorem kids_few {P : Nat} {L l l' : List Tok} {w : World} {x : Nd} {b : Bool} (H : PSt P L w l) (h : Q1 l x b l') : x.kids.length ≤ 1000 := by
  obtain ⟨_, pre, u, e, hc, _⟩ := h
  have h1 := H.ok.few
  have h2 := H.suf.length_le
  rw [e] at h2
  simp at h2
  obtain ⟨k, o, n, s, ns, ks, p⟩ := x
  have h3 := length_count ks
  simp only [countN] at hc
  show ks.length ≤ 1000
  omega

set_option linter.unusedVariables false in
set_option maxRecDepth 100000 in
set_option maxHeartbeats 6400000 in
theorem short_setbad (f : Nat) (hR : RankC f) (P : Nat) (L l : List Tok) (w : World) (hf : 20 * l.length + 10 ≤ f) (H : Hid (PSt P L w l)) (h1 : isH l [108, 101, 116] = false) (h2 : isH l [112, 114, 105, 110, 116] = false) (h3 : isH l [114, 101, 116, 117, 114, 110] = false) (h4 : isH l [100, 101, 108, 101, 116, 101] = false) (x : Nd) (t : Tok) (q l' : List Tok) (hl' : l' = t :: q) (hq : pRank f 1 l = .ok x true l') (hn : isT t [61] = true) (l3 : List Tok) (hr : pRank f 1 q = .bad l3) :
    Calls Tryd.prog 33 #[.pointer (some ⟨P, 0, none⟩)] w (Reads P L w (.bad l3)) := by
  have A := hid ((Below.refl _ w).alloc (Nat.le_refl _) (.cells znd 26))
  have S0 := hid (H.out.on A.out)
  have G0 := hid (blk_new w 26 znd)
  have hP := H.out.lt
  have HC := hid (show ∀ w', Hid (PSt P L w' l) → Calls Tryd.prog 43 #[.pointer (some ⟨P, 0, none⟩)] w' (Reads P L w' (pRank f 1 l)) from fun w' S => hR 1 P L l w' (by omega) (by omega) (by omega) S)
  have HM := (may f).rank 1 l (pst_gt H.out)
  rw [hq] at HM
  have hlq : q.length + 1 ≤ l.length := by
    obtain ⟨_, pre, u, e, _⟩ := HM
    rw [e, hl']; simp; omega
  have HBK := hid (HM.2.elim fun _ h => h.elim fun _ h => h.2.2.2 rfl)
  have HB2 := hid HBK.out
  have HKL := hid (kids_few H.out HM)
  have HC2 := hid (show ∀ w', Hid (PSt P L w' q) → Calls Tryd.prog 43 #[.pointer (some ⟨P, 0, none⟩)] w' (Reads P L w' (pRank f 1 q)) from fun w' S => hR 1 P L q w' (by omega) (by omega) (by omega) S)
  obtain ⟨pre, u, he, _, hp⟩ := last_of H.out HM
  have HE := hid he
  have H1 := hid h1
  have H2 := hid h2
  have H3 := hid h3
  have H4 := hid h4
  rw [hq] at HC
  rw [hr] at HC2
  unfold znd at *
  have HP := hid hp
  have HX := hid (show isT t (⟨#[61]⟩ : ByteArray).data.toList = true from hn)
  clear H hR h1 h2 h3 h4 HM he hp hn hlq
  have HL := hid hl'
  clear hl' hq hr
  go_enter Tryd.func33, Tryd.ntmps33
  go_wp2_with fail
  refine (take_no P L l ⟨#[108, 101, 116]⟩ _ S0 H1.out).mono ?_
  rintro e wn0 ⟨rfl, bn⟩
  have S1 := hid (S0.out.on bn)
  have A1 := hid (below_in A.out (Nat.le_refl _) bn)
  have G1 := hid (blk_on G0.out bn)
  have hzn0 := bn.size
  try simp only [World.size_alloc] at hzn0
  clear bn S0 A G0 H1
  go_wp2_with fail
  refine (take_no P L l ⟨#[112, 114, 105, 110, 116]⟩ _ S1 H2.out).mono ?_
  rintro e wn1 ⟨rfl, bn⟩
  have S2 := hid (S1.out.on bn)
  have A2 := hid (below_in A1.out (Nat.le_refl _) bn)
  have G2 := hid (blk_on G1.out bn)
  have hzn1 := bn.size
  try simp only [World.size_alloc] at hzn1
  clear bn S1 A1 G1 H2
  go_wp2_with fail
  refine (take_no P L l ⟨#[114, 101, 116, 117, 114, 110]⟩ _ S2 H3.out).mono ?_
  rintro e wn2 ⟨rfl, bn⟩
  have S3 := hid (S2.out.on bn)
  have A3 := hid (below_in A2.out (Nat.le_refl _) bn)
  have G3 := hid (blk_on G2.out bn)
  have hzn2 := bn.size
  try simp only [World.size_alloc] at hzn2
  clear bn S2 A2 G2 H3
  go_wp2_with fail
  refine (take_no P L l ⟨#[100, 101, 108, 101, 116, 101]⟩ _ S3 H4.out).mono ?_
  rintro e wn3 ⟨rfl, bn⟩
  have S4 := hid (S3.out.on bn)
  have A4 := hid (below_in A3.out (Nat.le_refl _) bn)
  have G4 := hid (blk_on G3.out bn)
  have hzn3 := bn.size
  try simp only [World.size_alloc] at hzn3
  clear bn S3 A3 G3 H4
  go_wp2_with fail
  refine (HC.out _ S4).mono ?_
  rintro e w2 ⟨⟨nv, kv, rfl, n2⟩, s2, b2⟩
  obtain ⟨a1, q1, a2, q2, rfl, rfl⟩ := ndR_shape n2
  obtain ⟨ao, hao⟩ := ndR_tight n2 HBK.out
  injection hao with hao1 _ hq2
  subst hao1 hq2
  clear HBK
  have hz2 := b2.size
  have hg4 := blk_lt G4.out
  have AA := (Below.refl _ w2).alloc (Nat.le_refl _) (.cells (ndc x (.slice a1 x.names.length q1) (.slice a2 x.kids.length x.kids.length)) 26)
  have S5 := hid (s2.on AA)
  have B5 := hid (((But.of (P := P) A4.out).trans b2).trans (But.of AA))
  have G5 := hid (blk_on (blk_but G4.out b2 (by omega)) AA)
  have V5 := hid (blk_new w2 26 (ndc x (.slice a1 x.names.length q1) (.slice a2 x.kids.length x.kids.length)))
  have N5 := hid (ndR_aft (aft_below AA) (ndR_low hg4 n2))
  have HQ := hid (fun w' (S : Hid (PSt P L w' l')) => can_calls P L l' pre u x a1 a2 q1 x.kids.length w' S HE.out)
  rw [HP.out] at HQ
  clear s2 b2 n2 AA S4 A4 G4 HC HE HP
  unfold ndv at *
  unfold ndc at *
  obtain ⟨c0, c1, c2, c3, c4, c5, c6⟩ := cells7 V5.out
  go_wp2_with fail
  refine (HQ.out _ S5).mono ?_
  rintro e w3 ⟨rfl, b3⟩
  have S6 := hid (S5.out.on b3)
  have B6 := hid (B5.out.trans (But.of b3))
  have G6 := hid (blk_on G5.out b3)
  have V6 := hid (blk_on V5.out b3)
  have N6 := hid (ndR_aft (aft_below b3) N5.out)
  have hz3 := b3.size
  simp only [World.size_alloc] at hz3
  clear b3 S5 B5 G5 V5 N5 HQ c0 c1 c2 c3 c4 c5 c6
  have hl' := HL.out
  subst hl'
  clear HL
  go_wp2_with fail
  refine (take_yes P L t q ⟨#[61]⟩ _ S6 HX.out).mono ?_
  rintro e w4 ⟨rfl, s4, b4⟩
  have DR := (Below.refl w4.heap.size w4).drew
  have S7 := hid (s4.on DR)
  have B7 := hid ((B6.out.trans b4).trans (But.of DR))
  have G7 := hid (blk_on (blk_but G6.out b4 (by omega)) DR)
  have V7 := hid (blk_on (blk_but V6.out b4 (by omega)) DR)
  have N7 := hid (ndR_aft (aft_below DR) (ndR_aft (aft_but b4 (by omega)) N6.out))
  have hz4 := b4.size
  clear s4 b4 S6 B6 G6 V6 N6 HX DR
  go_wp2_with fail
  refine wp_region_held_drew (S := fun _ => True) (by kernel_rfl) trivial (fun hHeld => ?_)
  obtain ⟨w5, hw5⟩ : ∃ w5, w4.drew = w5 := ⟨_, rfl⟩
  rw [hw5] at S7 B7 G7 V7 N7 ⊢
  have hz5 : w5.heap.size = w4.heap.size := by rw [← hw5]; rfl
  clear hw5
  refine wpAnyH_take (i := 1) (v := ?vk1) rfl (by kernel_rfl) (by kernel_rfl) (by kernel_rfl) (fun _ _ _ h => h) (Or.inl ⟨by rfl, ?hyk1⟩) (by assumption) ?_
  case hyk1 => (intro w hSw; go_simp <;> (try with_reducible rfl))
  simp only [Act.put, List.setIfInBounds_toArray, List.set_cons_zero, List.set_cons_succ, List.getElem_toArray, List.getElem_cons_succ, List.getElem_cons_zero]
  refine wpAnyH_ready (rs := [0, 2]) (by kernel_rfl) (by simp) ?_
  refine AllReadyH.cons rfl (fun K hK => ?_) (AllReadyH.cons rfl (fun K hK => ?_) AllReadyH.nil)
  · have HK := hid hK
    clear hK
    obtain ⟨c0, c1, c2, c3, c4, c5, c6⟩ := cells7 V7.out
    go_simp
    refine HK.out.out _ _ trivial (fun hHeld => ?_)
    clear HK K c0 c1 c2 c3 c4 c5 c6
    refine wpAnyH_ready (rs := [2]) (by kernel_rfl) (by simp) ?_
    refine AllReadyH.cons rfl (fun K hK => ?_) AllReadyH.nil
    clear hK
    go_simp
    refine (HC2.out _ S7).mono ?_
    rintro e w6 ⟨rfl, s6, b6⟩
    have S8 := hid s6
    have B8 := hid (B7.out.trans b6)
    clear s6 b6
    unfold gaveUp
    go_wp2_with fail
    exact ⟨rfl, rfl, S8.out, B8.out⟩
  · clear hK
    go_simp
    refine (HC2.out _ S7).mono ?_
    rintro e w6 ⟨rfl, s6, b6⟩
    have S8 := hid s6
    have B8 := hid (B7.out.trans b6)
    clear s6 b6
    unfold gaveUp
    go_wp2_with fail
    exact ⟨rfl, rfl, S8.out, B8.out⟩

set_option linter.unusedVariables false in
set_option maxRecDepth 100000 in
set_option maxHeartbeats 6400000 in
theorem short_set (f : Nat) (hR : RankC f) (P : Nat) (L l : List Tok) (w : World) (hf : 20 * l.length + 10 ≤ f) (H : Hid (PSt P L w l)) (h1 : isH l [108, 101, 116] = false) (h2 : isH l [112, 114, 105, 110, 116] = false) (h3 : isH l [114, 101, 116, 117, 114, 110] = false) (h4 : isH l [100, 101, 108, 101, 116, 101] = false) (x : Nd) (t : Tok) (q l' : List Tok) (hl' : l' = t :: q) (hq : pRank f 1 l = .ok x true l') (hn : isT t [61] = true) (y : Nd) (b : Bool) (l3 : List Tok) (hr : pRank f 1 q = .ok y b l3) :
    Calls Tryd.prog 33 #[.pointer (some ⟨P, 0, none⟩)] w (Reads P L w (.ok (becomeN x y) false l3)) := by
  have A := hid ((Below.refl _ w).alloc (Nat.le_refl _) (.cells znd 26))
  have S0 := hid (H.out.on A.out)
  have G0 := hid (blk_new w 26 znd)
  have hP := H.out.lt
  have HC := hid (show ∀ w', Hid (PSt P L w' l) → Calls Tryd.prog 43 #[.pointer (some ⟨P, 0, none⟩)] w' (Reads P L w' (pRank f 1 l)) from fun w' S => hR 1 P L l w' (by omega) (by omega) (by omega) S)
  have HM := (may f).rank 1 l (pst_gt H.out)
  rw [hq] at HM
  have hlq : q.length + 1 ≤ l.length := by
    obtain ⟨_, pre, u, e, _⟩ := HM
    rw [e, hl']; simp; omega
  have HBK := hid (HM.2.elim fun _ h => h.elim fun _ h => h.2.2.2 rfl)
  have HB2 := hid HBK.out
  have HKL := hid (kids_few H.out HM)
  have HC2 := hid (show ∀ w', Hid (PSt P L w' q) → Calls Tryd.prog 43 #[.pointer (some ⟨P, 0, none⟩)] w' (Reads P L w' (pRank f 1 q)) from fun w' S => hR 1 P L q w' (by omega) (by omega) (by omega) S)
  obtain ⟨pre, u, he, _, hp⟩ := last_of H.out HM
  have HE := hid he
  have H1 := hid h1
  have H2 := hid h2
  have H3 := hid h3
  have H4 := hid h4
  rw [hq] at HC
  rw [hr] at HC2
  unfold znd at *
  have HP := hid hp
  have HX := hid (show isT t (⟨#[61]⟩ : ByteArray).data.toList = true from hn)
  clear H hR h1 h2 h3 h4 HM he hp hn hlq
  have HL := hid hl'
  clear hl' hq hr
  go_enter Tryd.func33, Tryd.ntmps33
  go_wp2_with fail
  refine (take_no P L l ⟨#[108, 101, 116]⟩ _ S0 H1.out).mono ?_
  rintro e wn0 ⟨rfl, bn⟩
  have S1 := hid (S0.out.on bn)
  have A1 := hid (below_in A.out (Nat.le_refl _) bn)
  have G1 := hid (blk_on G0.out bn)
  have hzn0 := bn.size
  try simp only [World.size_alloc] at hzn0
  clear bn S0 A G0 H1
  go_wp2_with fail
  refine (take_no P L l ⟨#[112, 114, 105, 110, 116]⟩ _ S1 H2.out).mono ?_
  rintro e wn1 ⟨rfl, bn⟩
  have S2 := hid (S1.out.on bn)
  have A2 := hid (below_in A1.out (Nat.le_refl _) bn)
  have G2 := hid (blk_on G1.out bn)
  have hzn1 := bn.size
  try simp only [World.size_alloc] at hzn1
  clear bn S1 A1 G1 H2
  go_wp2_with fail
  refine (take_no P L l ⟨#[114, 101, 116, 117, 114, 110]⟩ _ S2 H3.out).mono ?_
  rintro e wn2 ⟨rfl, bn⟩
  have S3 := hid (S2.out.on bn)
  have A3 := hid (below_in A2.out (Nat.le_refl _) bn)
  have G3 := hid (blk_on G2.out bn)
  have hzn2 := bn.size
  try simp only [World.size_alloc] at hzn2
  clear bn S2 A2 G2 H3
  go_wp2_with fail
  refine (take_no P L l ⟨#[100, 101, 108, 101, 116, 101]⟩ _ S3 H4.out).mono ?_
  rintro e wn3 ⟨rfl, bn⟩
  have S4 := hid (S3.out.on bn)
  have A4 := hid (below_in A3.out (Nat.le_refl _) bn)
  have G4 := hid (blk_on G3.out bn)
  have hzn3 := bn.size
  try simp only [World.size_alloc] at hzn3
  clear bn S3 A3 G3 H4
  go_wp2_with fail
  refine (HC.out _ S4).mono ?_
  rintro e w2 ⟨⟨nv, kv, rfl, n2⟩, s2, b2⟩
  obtain ⟨a1, q1, a2, q2, rfl, rfl⟩ := ndR_shape n2
  obtain ⟨ao, hao⟩ := ndR_tight n2 HBK.out
  injection hao with hao1 _ hq2
  subst hao1 hq2
  clear HBK
  have hz2 := b2.size
  have hg4 := blk_lt G4.out
  have AA := (Below.refl _ w2).alloc (Nat.le_refl _) (.cells (ndc x (.slice a1 x.names.length q1) (.slice a2 x.kids.length x.kids.length)) 26)
  have S5 := hid (s2.on AA)
  have B5 := hid (((But.of (P := P) A4.out).trans b2).trans (But.of AA))
  have G5 := hid (blk_on (blk_but G4.out b2 (by omega)) AA)
  have V5 := hid (blk_new w2 26 (ndc x (.slice a1 x.names.length q1) (.slice a2 x.kids.length x.kids.length)))
  have N5 := hid (ndR_aft (aft_below AA) (ndR_low hg4 n2))
  have HQ := hid (fun w' (S : Hid (PSt P L w' l')) => can_calls P L l' pre u x a1 a2 q1 x.kids.length w' S HE.out)
  rw [HP.out] at HQ
  clear s2 b2 n2 AA S4 A4 G4 HC HE HP
  unfold ndv at *
  unfold ndc at *
  obtain ⟨c0, c1, c2, c3, c4, c5, c6⟩ := cells7 V5.out
  go_wp2_with fail
  refine (HQ.out _ S5).mono ?_
  rintro e w3 ⟨rfl, b3⟩
  have S6 := hid (S5.out.on b3)
  have B6 := hid (B5.out.trans (But.of b3))
  have G6 := hid (blk_on G5.out b3)
  have V6 := hid (blk_on V5.out b3)
  have N6 := hid (ndR_aft (aft_below b3) N5.out)
  have hz3 := b3.size
  simp only [World.size_alloc] at hz3
  clear b3 S5 B5 G5 V5 N5 HQ c0 c1 c2 c3 c4 c5 c6
  have hl' := HL.out
  subst hl'
  clear HL
  go_wp2_with fail
  refine (take_yes P L t q ⟨#[61]⟩ _ S6 HX.out).mono ?_
  rintro e w4 ⟨rfl, s4, b4⟩
  have DR := (Below.refl w4.heap.size w4).drew
  have S7 := hid (s4.on DR)
  have B7 := hid ((B6.out.trans b4).trans (But.of DR))
  have G7 := hid (blk_on (blk_but G6.out b4 (by omega)) DR)
  have V7 := hid (blk_on (blk_but V6.out b4 (by omega)) DR)
  have N7 := hid (ndR_aft (aft_below DR) (ndR_aft (aft_but b4 (by omega)) N6.out))
  have hz4 := b4.size
  clear s4 b4 S6 B6 G6 V6 N6 HX DR
  go_wp2_with fail
  refine wp_region_held_drew (S := fun _ => True) (by kernel_rfl) trivial (fun hHeld => ?_)
  obtain ⟨w5, hw5⟩ : ∃ w5, w4.drew = w5 := ⟨_, rfl⟩
  rw [hw5] at S7 B7 G7 V7 N7 ⊢
  have hz5 : w5.heap.size = w4.heap.size := by rw [← hw5]; rfl
  clear hw5
  refine wpAnyH_take (i := 1) (v := ?vk1) rfl (by kernel_rfl) (by kernel_rfl) (by kernel_rfl) (fun _ _ _ h => h) (Or.inl ⟨by rfl, ?hyk1⟩) (by assumption) ?_
  case hyk1 => (intro w hSw; go_simp <;> (try with_reducible rfl))
  simp only [Act.put, List.setIfInBounds_toArray, List.set_cons_zero, List.set_cons_succ, List.getElem_toArray, List.getElem_cons_succ, List.getElem_cons_zero]
  refine wpAnyH_ready (rs := [0, 2]) (by kernel_rfl) (by simp) ?_
  refine AllReadyH.cons rfl (fun K hK => ?_) (AllReadyH.cons rfl (fun K hK => ?_) AllReadyH.nil)
  · have HK := hid hK
    clear hK
    obtain ⟨c0, c1, c2, c3, c4, c5, c6⟩ := cells7 V7.out
    go_simp
    refine HK.out.out _ _ trivial (fun hHeld => ?_)
    clear HK K c0 c1 c2 c3 c4 c5 c6
    refine wpAnyH_ready (rs := [2]) (by kernel_rfl) (by simp) ?_
    refine AllReadyH.cons rfl (fun K hK => ?_) AllReadyH.nil
    have HK := hid hK
    clear hK
    go_simp
    refine (HC2.out _ S7).mono ?_
    rintro e w6 ⟨⟨nv6, kv6, rfl, n6⟩, s6, b6⟩
    obtain ⟨f1, g1, f2, g2, rfl, rfl⟩ := ndR_shape n6
    have hz6 := b6.size
    have S8 := hid s6
    have B8 := hid (B7.out.trans b6)
    have G8 := hid (blk_but G7.out b6 (by omega))
    have V8 := hid (blk_but V7.out b6 (by omega))
    have N8 := hid (ndR_aft (aft_but b6 (by omega)) N7.out)
    have M8 := hid (ndR_low (lo' := w.heap.size + 1) (by omega) n6)
    clear s6 b6 n6 S7 B7 G7 V7 N7 HC2
    unfold ndv
    simp only
    refine HK.out.out _ _ trivial (fun hHeld => ?_)
    clear HK K
    refine wpAnyH_ready (rs := [3]) (by kernel_rfl) (by simp) ?_
    refine AllReadyH.cons rfl (fun K hK => ?_) AllReadyH.nil
    have HK := hid hK
    clear hK
    have hl8 : w.heap.size + 1 ≤ w6.heap.size := by omega
    have BC := become_calls (w.heap.size + 1) x y a1 a2 f1 f2 q1 g1 g2 w6 hl8 HB2.out HKL.out N8 M8
    unfold ndv at BC
    go_simp
    refine BC.mono ?_
    rintro e w7 ⟨⟨nv7, kv7, rfl, n7⟩, b7⟩
    obtain ⟨h1, j1, h2, j2, rfl, rfl⟩ := ndR_shape n7
    have S9 := hid (S8.out.on b7)
    have B9 := hid (B8.out.trans (But.of b7))
    have G9 := hid (blk_on G8.out b7)
    have N9 := hid n7
    clear b7 n7 BC S8 B8 G8 V8 N8 M8
    unfold ndv
    simp only
    refine HK.out.out _ _ trivial (fun hHeld => ?_)
    clear HK K
    refine wpAnyH_ready (rs := [4]) (by kernel_rfl) (by simp) ?_
    refine AllReadyH.cons rfl (fun K hK => ?_) AllReadyH.nil
    have HK := hid hK
    clear hK
    obtain ⟨r0, r1, r2, r3, r4, r5, r6⟩ := cells7 G9.out
    obtain ⟨u0, u1, u2, u3, u4, u5, u6⟩ := frees7 G9.out
    generalize becomeN x y = z at *
    go_simp
    refine HK.out.out _ _ trivial (fun hHeld => ?_)
    clear HK K
    refine wpAnyH_done (by kernel_rfl) ?_ _
    have Z := fin_put hP (Nat.le_refl _) S9.out B9.out G9.out (.int .i64 z.kind) (.int .i64 z.op) (.int .i64 z.num) (.string z.str) (.slice h1 z.names.length j1) (.slice h2 z.kids.length j2) (.int .i64 z.pl)
    have NN := ndR_low (Nat.le_succ _) (ndR_aft (put7_aft w7 (Nat.lt_succ_self _) (.int .i64 z.kind) (.int .i64 z.op) (.int .i64 z.num) (.string z.str) (.slice h1 z.names.length j1) (.slice h2 z.kids.length j2) (.int .i64 z.pl)) N9.out)
    go_wp2_with fail
    exact bodyPost_ret (ret_nd rfl rfl Z.1) rfl ⟨⟨_, _, rfl, NN⟩, Z.2.1, Z.2.2⟩
  · have HK := hid hK
    clear hK
    go_simp
    refine (HC2.out _ S7).mono ?_
    rintro e w6 ⟨⟨nv6, kv6, rfl, n6⟩, s6, b6⟩
    obtain ⟨f1, g1, f2, g2, rfl, rfl⟩ := ndR_shape n6
    have hz6 := b6.size
    have S8 := hid s6
    have B8 := hid (B7.out.trans b6)
    have G8 := hid (blk_but G7.out b6 (by omega))
    have V8 := hid (blk_but V7.out b6 (by omega))
    have N8 := hid (ndR_aft (aft_but b6 (by omega)) N7.out)
    have M8 := hid (ndR_low (lo' := w.heap.size + 1) (by omega) n6)
    clear s6 b6 n6 S7 B7 G7 V7 N7 HC2
    unfold ndv
    simp only
    refine HK.out.out _ _ trivial (fun hHeld => ?_)
    clear HK K
    refine wpAnyH_ready (rs := [0]) (by kernel_rfl) (by simp) ?_
    refine AllReadyH.cons rfl (fun K hK => ?_) AllReadyH.nil
    have HK := hid hK
    clear hK
    obtain ⟨c0, c1, c2, c3, c4, c5, c6⟩ := cells7 V8.out
    go_simp
    refine HK.out.out _ _ trivial (fun hHeld => ?_)
    clear HK K c0 c1 c2 c3 c4 c5 c6
    refine wpAnyH_ready (rs := [3]) (by kernel_rfl) (by simp) ?_
    refine AllReadyH.cons rfl (fun K hK => ?_) AllReadyH.nil
    have HK := hid hK
    clear hK
    have hl8 : w.heap.size + 1 ≤ w6.heap.size := by omega
    have BC := become_calls (w.heap.size + 1) x y a1 a2 f1 f2 q1 g1 g2 w6 hl8 HB2.out HKL.out N8 M8
    unfold ndv at BC
    go_simp
    refine BC.mono ?_
    rintro e w7 ⟨⟨nv7, kv7, rfl, n7⟩, b7⟩
    obtain ⟨h1, j1, h2, j2, rfl, rfl⟩ := ndR_shape n7
    have S9 := hid (S8.out.on b7)
    have B9 := hid (B8.out.trans (But.of b7))
    have G9 := hid (blk_on G8.out b7)
    have N9 := hid n7
    clear b7 n7 BC S8 B8 G8 V8 N8 M8
    unfold ndv
    simp only
    refine HK.out.out _ _ trivial (fun hHeld => ?_)
    clear HK K
    refine wpAnyH_ready (rs := [4]) (by kernel_rfl) (by simp) ?_
    refine AllReadyH.cons rfl (fun K hK => ?_) AllReadyH.nil
    have HK := hid hK
    clear hK
    obtain ⟨r0, r1, r2, r3, r4, r5, r6⟩ := cells7 G9.out
    obtain ⟨u0, u1, u2, u3, u4, u5, u6⟩ := frees7 G9.out
    generalize becomeN x y = z at *
    go_simp
    refine HK.out.out _ _ trivial (fun hHeld => ?_)
    clear HK K
    refine wpAnyH_done (by kernel_rfl) ?_ _
    have Z := fin_put hP (Nat.le_refl _) S9.out B9.out G9.out (.int .i64 z.kind) (.int .i64 z.op) (.int .i64 z.num) (.string z.str) (.slice h1 z.names.length j1) (.slice h2 z.kids.length j2) (.int .i64 z.pl)
    have NN := ndR_low (Nat.le_succ _) (ndR_aft (put7_aft w7 (Nat.lt_succ_self _) (.int .i64 z.kind) (.int .i64 z.op) (.int .i64 z.num) (.string z.str) (.slice h1 z.names.length j1) (.slice h2 z.kids.length j2) (.int .i64 z.pl)) N9.out)
    go_wp2_with fail
    exact bodyPost_ret (ret_nd rfl rfl Z.1) rfl ⟨⟨_, _, rfl, NN⟩, Z.2.1, Z.2.2⟩

end Go.Proofs.YtijbiedblahmhaaDoor

namespace Go.Proofs.YtijbiedblahmhaaDoor
open Go.RowKit

set_option maxRecDepth 100000 in
set_option maxHeartbeats 3200000 in
theorem parts_no (P : Nat) (L l : List Tok) (m : Nat) (w : World) (H : Hid (PSt P L w l)) (hh : isH l [40] = false) :
    Calls Tryd.prog 89 #[.pointer (some ⟨P, 0, none⟩), .int .i64 m] w (ReadsS P L w (.bad l)) := by
  have HN := hid (show isH l (⟨#[40]⟩ : ByteArray).data.toList = false from hh)
  clear hh
  go_enter Tryd.func89, Tryd.ntmps89
  go_wp2_with fail
  refine (must_no P L l ⟨#[40]⟩ _ H HN.out).mono ?_
  rintro e w1 ⟨rfl, b1⟩
  have S1 := hid (H.out.on b1)
  have B1 := hid (But.of (P := P) b1)
  clear b1 H HN
  unfold gaveUp
  go_wp2_with fail
  exact ⟨rfl, rfl, S1.out, B1.out⟩
theorem parts_calls (f : Nat) (hR : RankC f) (P : Nat) (L l : List Tok) (m : Nat) (w : World) (hm : 1 ≤ m ∧ m ≤ 2) (hf : 20 * l.length ≤ f + 10) (H : Hid (PSt P L w l)) :
    Calls Tryd.prog 89 #[.pointer (some ⟨P, 0, none⟩), .int .i64 m] w (ReadsS P L w (pParts f m l)) := by
  unfold pParts Go.Proofs.YtijbiedblahmhaaDoor.mustL
  by_cases hh : isH l [40] = true
  · obtain ⟨t, q, rfl, ht⟩ := isH_some hh
    rw [if_pos hh]
    exact parts_yes f hR P L t q m w hm (by simp at hf; omega) H ht
  · rw [if_neg hh]
    exact parts_no P L l m w H (by simpa using hh)
theorem mustL_bind (x : List UInt8) (l : List Tok) (k : List Tok → PL) (g : List ByteArray → List Nd → List Tok → PR) : (mustL x l k).bind g = must x l fun l => (k l).bind g := by
  unfold Go.Proofs.YtijbiedblahmhaaDoor.mustL Go.Proofs.YtijbiedblahmhaaDoor.must
  split <;> rfl
theorem bindL_bind (x : PR) (k : Nd → Bool → List Tok → PL) (g : List ByteArray → List Nd → List Tok → PR) : (x.bindL k).bind g = x.bind fun a b l => (k a b l).bind g := by cases x <;> rfl
theorem built_parts {f m : Nat} (hm : 1 ≤ m ∧ m ≤ 7) : ∃ p : Nat, 1 ≤ p ∧ p ≤ 2 ∧ (builtT (m : Int)).2 = p ∧ ∀ q, (pParts f p q).bind (fun _ ks l => .ok (ndO 17 m ks) false l) =
    (must [40] q fun l => (pRank f 1 l).bind fun e _ l =>
      if (builtT (m : Int)).2 = 2 then must [44] l fun l => (pRank f 1 l).bind fun e' _ l => must [41] l fun l => .ok (ndO 17 m [e, e']) false l
      else must [41] l fun l => .ok (ndO 17 m [e]) false l) := by
  have one : (builtT (m : Int)).2 = 1 → ∀ q, (pParts f 1 q).bind (fun _ ks l => .ok (ndO 17 m ks) false l) =
      (must [40] q fun l => (pRank f 1 l).bind fun e _ l =>
      if (builtT (m : Int)).2 = 2 then must [44] l fun l => (pRank f 1 l).bind fun e' _ l => must [41] l fun l => .ok (ndO 17 m [e, e']) false l
      else must [41] l fun l => .ok (ndO 17 m [e]) false l) := by
    intro h q
    rw [h]
    unfold pParts
    rw [mustL_bind]
    congr 1
    funext l
    rw [bindL_bind]
    congr 1
    funext e b l
    rw [if_neg (by decide)]
    show (pPartsM f 0 [e] l).bind _ = _
    rw [pPartsM, mustL_bind]
    rfl
  have two : (builtT (m : Int)).2 = 2 → ∀ q, (pParts f 2 q).bind (fun _ ks l => .ok (ndO 17 m ks) false l) =
      (must [40] q fun l => (pRank f 1 l).bind fun e _ l =>
      if (builtT (m : Int)).2 = 2 then must [44] l fun l => (pRank f 1 l).bind fun e' _ l => must [41] l fun l => .ok (ndO 17 m [e, e']) false l
      else must [41] l fun l => .ok (ndO 17 m [e]) false l) := by
    intro h q
    rw [h]
    unfold pParts
    rw [mustL_bind]
    congr 1
    funext l
    rw [bindL_bind]
    congr 1
    funext e b l
    rw [if_pos rfl]
    show (pPartsM f 1 [e] l).bind _ = _
    rw [pPartsM, mustL_bind]
    congr 1
    funext l
    rw [bindL_bind]
    congr 1
    funext e' b l
    rw [pPartsM, mustL_bind]
    rfl
  rcases (show m = 1 ∨ m = 2 ∨ m = 3 ∨ m = 4 ∨ m = 5 ∨ m = 6 ∨ m = 7 by omega) with rfl | rfl | rfl | rfl | rfl | rfl | rfl <;>
    first
    | exact ⟨1, by omega, by omega, rfl, one rfl⟩
    | exact ⟨2, by omega, by omega, rfl, two rfl⟩
theorem builts (f : Nat) (hR : RankC f) : BuiltC f := by
  intro P L l w hf H
  unfold pBuiltN
  cases hb : builtP l with
  | none => exact built_none P L l w H hb
  | some o =>
    obtain ⟨m, rfl, hm1, hm7, hy, hn⟩ := builtP_some hb
    obtain ⟨t, q, rfl, ht⟩ := isH_some hy
    obtain ⟨p, hp1, hp2, hpe, hpq⟩ := built_parts (f := f) ⟨hm1, hm7⟩
    show Calls Tryd.prog _ _ w (Reads P L w (must [40] q _))
    rw [← hpq q]
    exact built_some (pParts f p q) m P L t q w (fun w' S => by rw [hpe]; exact parts_calls f hR P L q p w' ⟨hp1, hp2⟩ (by simp at hf; omega) S) H hm1 hm7 ht hn

end Go.Proofs.YtijbiedblahmhaaDoor

namespace Go.Proofs.YtijbiedblahmhaaDoor
open Go.RowKit

set_option linter.unusedSimpArgs false in
set_option maxHeartbeats 6400000 in
theorem between_2 (f : Nat) (hR : ∀ g, g ≤ f → RankC g) (lo P : Nat) (L l : List Tok) (sv : Value) (w : World) (hf : 20 * l.length + (10 - 2) ≤ f) (hlo : P < lo) (H : Hid (PSt P L w l)) (HV : Hid (StR lo w sv [⟨#[38, 38]⟩])) :
    Calls Tryd.prog 54 #[.pointer (some ⟨P, 0, none⟩), .func (.func 65) #[.pointer (some ⟨P, 0, none⟩)] #[], sv] w (Reads P L w ((pRank f (2 + 1) l).bind fun e b l => pMore f 2 e b l)) := by
  have A := hid ((Below.refl _ w).alloc (Nat.le_refl _) (.cells znd 26))
  have S0 := hid (H.out.on A.out)
  have G0 := hid (blk_new w 26 znd)
  have hP := H.out.lt
  have HC := hid (show ∀ w', Hid (PSt P L w' l) → Calls Tryd.prog 65 #[.pointer (some ⟨P, 0, none⟩)] w' (Reads P L w' (pRank f (2 + 1) l)) from fun w' S => hR f (Nat.le_refl _) (2 + 1) P L l w' (by omega) (by omega) (by omega) S)
  have HM := hid ((may f).rank (2 + 1) l (pst_gt H.out))
  have HR := hid (show ∀ g, g ≤ f → ∀ (q : List Tok) (w' : World), 20 * q.length + (10 - 2) ≤ g → Hid (PSt P L w' q) → Calls Tryd.prog 65 #[.pointer (some ⟨P, 0, none⟩)] w' (Reads P L w' (pRank g (2 + 1) q)) from fun g hg q w' hq S => hR g hg (2 + 1) P L q w' (by omega) (by omega) (by omega) S)
  unfold znd at *
  clear H hR
  cases hq : pRank f (2 + 1) l with
  | bad l' =>
    rw [hq] at HC
    rw [PR.bind_bad]
    clear HM HR
    go_enter Tryd.func54, Tryd.ntmps54
    go_wp2_with fail
    refine (HC.out _ S0).mono ?_
    rintro e w2 ⟨rfl, s2, b2⟩
    have S2 := hid s2
    have B2 := hid ((But.of A.out).trans b2)
    clear s2 b2 S0 A G0 HC
    unfold gaveUp
    go_wp2_with fail
    exact ⟨rfl, rfl, S2.out, B2.out⟩
  | ok x b l' =>
    rw [hq] at HC HM
    rw [PR.bind_ok]
    have hm : l'.length + 1 ≤ l.length := by
      obtain ⟨_, pre, u, e, _⟩ := HM.out
      rw [e]; simp
    clear HM
    go_enter Tryd.func54, Tryd.ntmps54
    go_wp2_with fail
    refine (HC.out _ S0).mono ?_
    rintro e1 w1 ⟨⟨nv, kv, rfl, n1⟩, s1, b1⟩
    obtain ⟨a1, q1, a2, q2, rfl, rfl⟩ := ndR_shape n1
    have hsz1 := b1.size
    simp only [World.size_alloc] at hsz1
    have AA := (Below.refl _ w1).alloc (Nat.le_refl _) (.cells (ndc x (.slice a1 x.names.length q1) (.slice a2 x.kids.length q2)) 26)
    have S1 := hid (s1.on AA)
    have B1 := hid (((But.of A.out).trans b1).trans (But.of AA))
    have Z1 := hid (blk_on (blk_but G0.out b1 (by omega)) AA)
    have G1 := hid (blk_new w1 26 (ndc x (.slice a1 x.names.length q1) (.slice a2 x.kids.length q2)))
    have N1 := hid (ndO_aft (aftO_below AA) (ndO_of (ok := fun b => w.heap.size + 1 ≤ b ∧ b ≠ w1.heap.size) n1 (fun b h1 h2 => ⟨by simpa using h1, by omega⟩)))
    clear b1 s1 n1 AA S0 A G0 HC hq
    unfold ndv
    unfold ndc at *
    have V1 := hid (words_on HV.out B1.out hlo)
    have hl1 : w.heap.size + 1 ≤ w1.heap.size := hsz1
    go_wp2_with fail
    refine (takeone_bt 2 (by decide) P L l' w.heap.size sv _ (by simp; omega) S1 V1).mono ?_
    rintro e3 w3 ⟨sv0, rfl, hbt, b3⟩
    have BT := hid hbt
    have B3 := hid (B1.out.trans b3)
    have Z3 := hid (blk_but Z1.out b3 (by omega))
    have G3 := hid (blk_but G1.out b3 (by omega))
    have N3 := hid (ndO_aft (aftO_but b3 (by omega)) N1.out)
    clear hbt b3 S1 B1 Z1 G1 N1 V1
    go_wp2_with fail
    go_loopw [8] (fun s wr => ∃ (g : Nat) (e : Nd) (c : Bool) (m : List Tok) (nv kv : Value), Hid (pMore f 2 x b l' = pMore g 2 e c m) ∧ 20 * m.length + 5 ≤ g ∧ g ≤ f ∧ Hid (But P w wr) ∧ Hid (Blk w.heap.size 26 znd wr) ∧ Hid (Blk w1.heap.size 26 (ndc e nv kv) wr) ∧ Hid (NdO (fun b => w.heap.size + 1 ≤ b ∧ b ≠ w1.heap.size) wr e nv kv) ∧ Hid (BtS P L 2 m s wr)) (fun _ wr => leftAt P L wr)
    case atStart => exact ⟨f, x, b, l', _, _, (show Hid (_ = _) from rfl), by omega, Nat.le_refl _, B3.out, Z3.out, G3.out, N3.out, BT.out⟩
    case round =>
      obtain ⟨g, e, c, m, nv, kv, hpe, hgm, hgf, hB, hZ, hG, hN, hS⟩ := hrel
      clear B3 Z3 G3 N3 BT
      obtain ⟨g, rfl⟩ : ∃ g', g = g' + 1 := ⟨g - 1, by omega⟩
      obtain ⟨b1, p1, b2, p2, rfl, rfl⟩ := ndO_shape hN.out
      have hg0 := blk_lt hZ.out
      have hg1 := blk_lt hG.out
      unfold znd ndc at *
      rcases hS.out with ⟨rfl, hsn, hst⟩ | ⟨t, q, k, o, sx, rfl, rfl, hst, hrt, hsn, hin, hpq⟩
      · have HE := hid (hpe.out.trans (show pMore (g + 1) 2 e c m = .ok e c m by rw [pMore, hsn]))
        have S4 := hid hst
        obtain ⟨r0, r1, r2, r3, r4, r5, r6⟩ := cells7 hG.out
        obtain ⟨z0, z1, z2, z3, z4, z5, z6⟩ := cells7 hZ.out
        obtain ⟨u0, u1, u2, u3, u4, u5, u6⟩ := frees7 hZ.out
        clear hpe hsn hst hS HR
        go_wp2_with fail
        have Z := fin_put hP (Nat.le_refl _) S4.out hB.out hZ.out (.int .i64 e.kind) (.int .i64 e.op) (.int .i64 e.num) (.string e.str) (.slice b1 e.names.length p1) (.slice b2 e.kids.length p2) (.int .i64 e.pl)
        refine bodyPost_ret (ret_nd rfl rfl Z.1) rfl ?_
        rw [HE.out]
        exact ⟨⟨_, _, rfl, ndR_of (ndO_aft (put7_aftO _ (by omega) _ _ _ _ _ _ _) hN.out) (fun b h => by omega)⟩, Z.2.1, Z.2.2⟩
      · have hxe := isT_ne hst hrt
        obtain ⟨rfl, rfl, rfl⟩ : sx = ⟨#[38, 38]⟩ ∧ k = 11 ∧ o = 0 := by
          simp [sgR] at hin
          exact ⟨bytes_is hin.1, hin.2.1, hin.2.2⟩
        have HE := hid (hpe.out.trans (show pMore (g + 1) 2 e c (t :: q) = (pRank g (2 + 1) q).bind fun e' _ l => pMore g 2 (ndO 11 0 [e, e']) false l by rw [pMore, hsn]; rfl))
        have HMq := hid ((may g).rank (2 + 1) q (pst_gt hpq))
        have HCq := hid (fun w' S => HR.out g (by omega) q w' (by simp at hgm; omega) S)
        have S2 := hid hpq
        clear hpe hsn hst hrt hS HR hin hpq
        cases hqq : pRank g (2 + 1) q with
        | bad m' =>
          rw [hqq] at HE HCq
          rw [PR.bind_bad] at HE
          obtain ⟨r0, r1, r2, r3, r4, r5, r6⟩ := cells7 hG.out
          go_wp2_with fail
          refine wp_region_held_drew (S := fun _ => True) (by kernel_rfl) trivial (fun hHeld => ?_)
          refine wpAnyH_take (i := 1) (v := ?v1) rfl (by kernel_rfl) (by kernel_rfl) (by kernel_rfl) (fun _ _ _ h => h) (Or.inl ⟨by rfl, ?hy1⟩) (by assumption) ?_
          case hy1 => (intro w hSw; go_simp <;> (try with_reducible rfl))
          simp only [Act.put, List.setIfInBounds_toArray, List.set_cons_zero, List.set_cons_succ, List.getElem_toArray, List.getElem_cons_succ, List.getElem_cons_zero]
          refine wpAnyH_take (i := 2) (v := ?v2) rfl (by kernel_rfl) (by kernel_rfl) (by kernel_rfl) (fun _ _ _ h => h) (Or.inl ⟨by rfl, ?hy2⟩) (by assumption) ?_
          case hy2 => (intro w hSw; go_simp <;> (try with_reducible rfl))
          simp only [Act.put, List.setIfInBounds_toArray, List.set_cons_zero, List.set_cons_succ, List.getElem_toArray, List.getElem_cons_succ, List.getElem_cons_zero]
          refine wpAnyH_ready (rs := [0, 3]) (by kernel_rfl) (by simp) ?_
          refine AllReadyH.cons rfl (fun K hK => ?_) (AllReadyH.cons rfl (fun K hK => ?_) AllReadyH.nil)
          · go_simp
            refine hK.out _ _ trivial (fun hHeld => ?_)
            clear hK K
            refine wpAnyH_ready (rs := [3]) (by kernel_rfl) (by simp) ?_
            refine AllReadyH.cons rfl (fun K hK => ?_) AllReadyH.nil
            have HK := hid hK
            clear hK
            go_simp
            refine (HCq.out _ (hid (S2.out.on (Below.refl _ _).drew))).mono ?_
            rintro e5 w5 ⟨rfl, s5, b5⟩
            have S5 := hid s5
            have B5 := hid ((hB.out.trans (But.of (Below.refl _ _).drew)).trans b5)
            clear s5 b5 HK
            unfold gaveUp
            go_wp2_with fail
            refine ⟨rfl, ?_⟩
            rw [HE.out]
            exact ⟨rfl, S5.out, B5.out⟩
          · have HK := hid hK
            clear hK
            go_simp
            refine (HCq.out _ (hid (S2.out.on (Below.refl _ _).drew))).mono ?_
            rintro e5 w5 ⟨rfl, s5, b5⟩
            have S5 := hid s5
            have B5 := hid ((hB.out.trans (But.of (Below.refl _ _).drew)).trans b5)
            clear s5 b5 HK
            unfold gaveUp
            go_wp2_with fail
            refine ⟨rfl, ?_⟩
            rw [HE.out]
            exact ⟨rfl, S5.out, B5.out⟩
        | ok x2 c2 m' =>
          rw [hqq] at HE HCq HMq
          rw [PR.bind_ok] at HE
          have hm2 : m'.length + 1 ≤ q.length := by
            obtain ⟨_, pre, u, e, _⟩ := HMq.out
            rw [e]; simp
          clear HMq
          obtain ⟨r0, r1, r2, r3, r4, r5, r6⟩ := cells7 hG.out
          go_wp2_with fail
          refine wp_region_held_drew (S := fun _ => True) (by kernel_rfl) trivial (fun hHeld => ?_)
          refine wpAnyH_take (i := 1) (v := ?v1) rfl (by kernel_rfl) (by kernel_rfl) (by kernel_rfl) (fun _ _ _ h => h) (Or.inl ⟨by rfl, ?hy1⟩) (by assumption) ?_
          case hy1 => (intro w hSw; go_simp <;> (try with_reducible rfl))
          simp only [Act.put, List.setIfInBounds_toArray, List.set_cons_zero, List.set_cons_succ, List.getElem_toArray, List.getElem_cons_succ, List.getElem_cons_zero]
          refine wpAnyH_take (i := 2) (v := ?v2) rfl (by kernel_rfl) (by kernel_rfl) (by kernel_rfl) (fun _ _ _ h => h) (Or.inl ⟨by rfl, ?hy2⟩) (by assumption) ?_
          case hy2 => (intro w hSw; go_simp <;> (try with_reducible rfl))
          simp only [Act.put, List.setIfInBounds_toArray, List.set_cons_zero, List.set_cons_succ, List.getElem_toArray, List.getElem_cons_succ, List.getElem_cons_zero]
          refine wpAnyH_ready (rs := [0, 3]) (by kernel_rfl) (by simp) ?_
          refine AllReadyH.cons rfl (fun K hK => ?_) (AllReadyH.cons rfl (fun K hK => ?_) AllReadyH.nil)
          · go_simp
            refine hK.out _ _ trivial (fun hHeld => ?_)
            clear hK K
            refine wpAnyH_ready (rs := [3]) (by kernel_rfl) (by simp) ?_
            refine AllReadyH.cons rfl (fun K hK => ?_) AllReadyH.nil
            have HK := hid hK
            clear hK
            go_simp
            refine (HCq.out _ (hid (S2.out.on (Below.refl _ _).drew))).mono ?_
            rintro e3 w3 ⟨⟨nv3, kv3, rfl, n3⟩, s3, b3⟩
            obtain ⟨f1, g1, f2, g2, rfl, rfl⟩ := ndR_shape n3
            have DR := (Below.refl wr.heap.size wr).drew
            have S3 := hid s3
            have B3 := hid ((hB.out.trans (But.of DR)).trans b3)
            have Z3 := hid (blk_but (blk_on hZ.out DR) b3 (by omega))
            have G3 := hid (blk_but (blk_on hG.out DR) b3 (by omega))
            have N3 := hid (ndO_aft (aftO_but b3 (by omega)) (ndO_aft (aftO_below DR) hN.out))
            have M3 := hid (ndO_of (ok := fun b => w.heap.size + 1 ≤ b ∧ b ≠ w1.heap.size) n3 (fun b h1 h2 => by simp at h1; omega))
            have hz3 := b3.size
            have hl3 : ∀ b, w3.heap.size ≤ b → w.heap.size + 1 ≤ b ∧ b ≠ w1.heap.size := by intro b hb; simp at hz3; omega
            clear s3 b3 n3 DR
            unfold ndv
            simp only
            refine HK.out.out _ _ trivial (fun hHeld => ?_)
            clear HK K
            refine wpAnyH_ready (rs := [4]) (by kernel_rfl) (by simp) ?_
            refine AllReadyH.cons rfl (fun K hK => ?_) AllReadyH.nil
            have HK := hid hK
            clear hK
            go_simp
            refine (join_and _ e x2 _ _ _ _ _ hl3 (hid N3.out) (hid M3.out)).mono ?_
            rintro e4 w4 ⟨⟨nv4, kv4, rfl, n4⟩, b4⟩
            obtain ⟨c1, d1, c3, d3, rfl, rfl⟩ := ndO_shape n4
            have S4 := hid (S3.out.on b4)
            have B4 := hid (B3.out.trans (But.of b4))
            have Z4 := hid (blk_on Z3.out b4)
            have G4 := hid (blk_on G3.out b4)
            have N4 := hid n4
            have hg4 := blk_lt G4.out
            obtain ⟨s0, s1, s2, s3, s4, s5, s6⟩ := cells7 G4.out
            obtain ⟨u0, u1, u2, u3, u4, u5, u6⟩ := frees7 G4.out
            clear b4 n4 S3 B3 Z3 G3 N3 M3
            unfold ndv
            simp only
            refine HK.out.out _ _ trivial (fun hHeld => ?_)
            clear HK K
            refine wpAnyH_ready (rs := [5]) (by kernel_rfl) (by simp) ?_
            refine AllReadyH.cons rfl (fun K hK => ?_) AllReadyH.nil
            have HK := hid hK
            clear hK
            go_simp
            refine HK.out.out _ _ trivial (fun hHeld => ?_)
            clear HK K
            refine wpAnyH_done (by kernel_rfl) ?_ _
            have F := fin_put hP (by omega) S4.out B4.out G4.out (.int .i64 (ndO 11 0 [e, x2]).kind) (.int .i64 (ndO 11 0 [e, x2]).op) (.int .i64 (ndO 11 0 [e, x2]).num) (.string (ndO 11 0 [e, x2]).str) (.slice c1 (ndO 11 0 [e, x2]).names.length d1) (.slice c3 (ndO 11 0 [e, x2]).kids.length d3) (.int .i64 (ndO 11 0 [e, x2]).pl)
            have Z5 := hid (blk_put7 (g := w1.heap.size) Z4.out (by omega) (.int .i64 (ndO 11 0 [e, x2]).kind) (.int .i64 (ndO 11 0 [e, x2]).op) (.int .i64 (ndO 11 0 [e, x2]).num) (.string (ndO 11 0 [e, x2]).str) (.slice c1 (ndO 11 0 [e, x2]).names.length d1) (.slice c3 (ndO 11 0 [e, x2]).kids.length d3) (.int .i64 (ndO 11 0 [e, x2]).pl))
            have N5 := hid (ndO_aft (put7_aftO (g := w1.heap.size) w4 (by simp) (.int .i64 (ndO 11 0 [e, x2]).kind) (.int .i64 (ndO 11 0 [e, x2]).op) (.int .i64 (ndO 11 0 [e, x2]).num) (.string (ndO 11 0 [e, x2]).str) (.slice c1 (ndO 11 0 [e, x2]).names.length d1) (.slice c3 (ndO 11 0 [e, x2]).kids.length d3) (.int .i64 (ndO 11 0 [e, x2]).pl)) N4.out)
            have G5 := hid F.1
            have S5 := hid F.2.1
            have B5 := hid F.2.2
            have V5 := hid (words_on HV.out F.2.2 hlo)
            have hz5 := F.2.2.size
            clear F S4 B4 Z4 G4 N4 s0 s1 s2 s3 s4 s5 s6 u0 u1 u2 u3 u4 u5 u6 hHeld r0 r1 r2 r3 r4 r5 r6
            unfold put7w at Z5 N5 G5 S5 B5 V5 hz5
            obtain ⟨w5, hw5⟩ : ∃ w5, (((((((w4.setCell ⟨w1.heap.size, 0, none⟩ (.int .i64 (ndO 11 0 [e, x2]).kind)).setCell ⟨w1.heap.size, 1, none⟩ (.int .i64 (ndO 11 0 [e, x2]).op)).setCell ⟨w1.heap.size, 2, none⟩ (.int .i64 (ndO 11 0 [e, x2]).num)).setCell ⟨w1.heap.size, 3, none⟩ (.string (ndO 11 0 [e, x2]).str)).setCell ⟨w1.heap.size, 4, none⟩ (.slice c1 (ndO 11 0 [e, x2]).names.length d1)).setCell ⟨w1.heap.size, 5, none⟩ (.slice c3 (ndO 11 0 [e, x2]).kids.length d3)).setCell ⟨w1.heap.size, 6, none⟩ (.int .i64 (ndO 11 0 [e, x2]).pl)) = w5 := ⟨_, rfl⟩
            rw [hw5] at Z5 N5 G5 S5 B5 V5 hz5 ⊢
            clear hw5 hg4
            go_wp2_with fail
            refine (takeone_bt 2 (by decide) P L m' w.heap.size sv _ hz5 S5 V5).mono ?_
            rintro e6 w6 ⟨sv6, rfl, hbt, b6⟩
            have BT6 := hid hbt
            have B6 := hid (B5.out.trans b6)
            have Z6 := hid (blk_but Z5.out b6 (by omega))
            have G6 := hid (blk_but G5.out b6 (by omega))
            have N6 := hid (ndO_aft (aftO_but b6 (by omega)) N5.out)
            have HLE := hid (show leftAt P L w6 < leftAt P L wr by
              have h1 := left_is S2.out
              have h2 : leftAt P L w6 ≤ m'.length := by
                rcases hbt with ⟨_, _, h⟩ | ⟨_, _, _, _, _, e, _, _, _, _, _, h⟩
                · exact Nat.le_of_eq (left_is h)
                · rw [left_is h, e]; simp
              omega)
            clear hbt b6 S5 B5 Z5 G5 N5 V5 S2 hB hZ hG hN
            go_wp2_with fail
            go_roundw
            case rel => exact ⟨g, _, false, m', _, _, HE.out, by simp at hgm; omega, by omega, B6.out, Z6.out, G6.out, N6.out, BT6.out⟩
            case measure => exact HLE.out
          · have HK := hid hK
            clear hK
            go_simp
            refine (HCq.out _ (hid (S2.out.on (Below.refl _ _).drew))).mono ?_
            rintro e3 w3 ⟨⟨nv3, kv3, rfl, n3⟩, s3, b3⟩
            obtain ⟨f1, g1, f2, g2, rfl, rfl⟩ := ndR_shape n3
            have DR := (Below.refl wr.heap.size wr).drew
            have S3 := hid s3
            have B3 := hid ((hB.out.trans (But.of DR)).trans b3)
            have Z3 := hid (blk_but (blk_on hZ.out DR) b3 (by omega))
            have G3 := hid (blk_but (blk_on hG.out DR) b3 (by omega))
            have N3 := hid (ndO_aft (aftO_but b3 (by omega)) (ndO_aft (aftO_below DR) hN.out))
            have M3 := hid (ndO_of (ok := fun b => w.heap.size + 1 ≤ b ∧ b ≠ w1.heap.size) n3 (fun b h1 h2 => by simp at h1; omega))
            have hz3 := b3.size
            have hl3 : ∀ b, w3.heap.size ≤ b → w.heap.size + 1 ≤ b ∧ b ≠ w1.heap.size := by intro b hb; simp at hz3; omega
            clear s3 b3 n3 DR
            unfold ndv
            simp only
            refine HK.out.out _ _ trivial (fun hHeld => ?_)
            clear HK K
            obtain ⟨t0, t1, t2, t3, t4, t5, t6⟩ := cells7 G3.out
            refine wpAnyH_ready (rs := [0]) (by kernel_rfl) (by simp) ?_
            refine AllReadyH.cons rfl (fun K hK => ?_) AllReadyH.nil
            have HK := hid hK
            clear hK
            go_simp
            refine HK.out.out _ _ trivial (fun hHeld => ?_)
            clear HK K t0 t1 t2 t3 t4 t5 t6
            refine wpAnyH_ready (rs := [4]) (by kernel_rfl) (by simp) ?_
            refine AllReadyH.cons rfl (fun K hK => ?_) AllReadyH.nil
            have HK := hid hK
            clear hK
            go_simp
            refine (join_and _ e x2 _ _ _ _ _ hl3 (hid N3.out) (hid M3.out)).mono ?_
            rintro e4 w4 ⟨⟨nv4, kv4, rfl, n4⟩, b4⟩
            obtain ⟨c1, d1, c3, d3, rfl, rfl⟩ := ndO_shape n4
            have S4 := hid (S3.out.on b4)
            have B4 := hid (B3.out.trans (But.of b4))
            have Z4 := hid (blk_on Z3.out b4)
            have G4 := hid (blk_on G3.out b4)
            have N4 := hid n4
            have hg4 := blk_lt G4.out
            obtain ⟨s0, s1, s2, s3, s4, s5, s6⟩ := cells7 G4.out
            obtain ⟨u0, u1, u2, u3, u4, u5, u6⟩ := frees7 G4.out
            clear b4 n4 S3 B3 Z3 G3 N3 M3
            unfold ndv
            simp only
            refine HK.out.out _ _ trivial (fun hHeld => ?_)
            clear HK K
            refine wpAnyH_ready (rs := [5]) (by kernel_rfl) (by simp) ?_
            refine AllReadyH.cons rfl (fun K hK => ?_) AllReadyH.nil
            have HK := hid hK
            clear hK
            go_simp
            refine HK.out.out _ _ trivial (fun hHeld => ?_)
            clear HK K
            refine wpAnyH_done (by kernel_rfl) ?_ _
            have F := fin_put hP (by omega) S4.out B4.out G4.out (.int .i64 (ndO 11 0 [e, x2]).kind) (.int .i64 (ndO 11 0 [e, x2]).op) (.int .i64 (ndO 11 0 [e, x2]).num) (.string (ndO 11 0 [e, x2]).str) (.slice c1 (ndO 11 0 [e, x2]).names.length d1) (.slice c3 (ndO 11 0 [e, x2]).kids.length d3) (.int .i64 (ndO 11 0 [e, x2]).pl)
            have Z5 := hid (blk_put7 (g := w1.heap.size) Z4.out (by omega) (.int .i64 (ndO 11 0 [e, x2]).kind) (.int .i64 (ndO 11 0 [e, x2]).op) (.int .i64 (ndO 11 0 [e, x2]).num) (.string (ndO 11 0 [e, x2]).str) (.slice c1 (ndO 11 0 [e, x2]).names.length d1) (.slice c3 (ndO 11 0 [e, x2]).kids.length d3) (.int .i64 (ndO 11 0 [e, x2]).pl))
            have N5 := hid (ndO_aft (put7_aftO (g := w1.heap.size) w4 (by simp) (.int .i64 (ndO 11 0 [e, x2]).kind) (.int .i64 (ndO 11 0 [e, x2]).op) (.int .i64 (ndO 11 0 [e, x2]).num) (.string (ndO 11 0 [e, x2]).str) (.slice c1 (ndO 11 0 [e, x2]).names.length d1) (.slice c3 (ndO 11 0 [e, x2]).kids.length d3) (.int .i64 (ndO 11 0 [e, x2]).pl)) N4.out)
            have G5 := hid F.1
            have S5 := hid F.2.1
            have B5 := hid F.2.2
            have V5 := hid (words_on HV.out F.2.2 hlo)
            have hz5 := F.2.2.size
            clear F S4 B4 Z4 G4 N4 s0 s1 s2 s3 s4 s5 s6 u0 u1 u2 u3 u4 u5 u6 hHeld r0 r1 r2 r3 r4 r5 r6
            unfold put7w at Z5 N5 G5 S5 B5 V5 hz5
            obtain ⟨w5, hw5⟩ : ∃ w5, (((((((w4.setCell ⟨w1.heap.size, 0, none⟩ (.int .i64 (ndO 11 0 [e, x2]).kind)).setCell ⟨w1.heap.size, 1, none⟩ (.int .i64 (ndO 11 0 [e, x2]).op)).setCell ⟨w1.heap.size, 2, none⟩ (.int .i64 (ndO 11 0 [e, x2]).num)).setCell ⟨w1.heap.size, 3, none⟩ (.string (ndO 11 0 [e, x2]).str)).setCell ⟨w1.heap.size, 4, none⟩ (.slice c1 (ndO 11 0 [e, x2]).names.length d1)).setCell ⟨w1.heap.size, 5, none⟩ (.slice c3 (ndO 11 0 [e, x2]).kids.length d3)).setCell ⟨w1.heap.size, 6, none⟩ (.int .i64 (ndO 11 0 [e, x2]).pl)) = w5 := ⟨_, rfl⟩
            rw [hw5] at Z5 N5 G5 S5 B5 V5 hz5 ⊢
            clear hw5 hg4
            go_wp2_with fail
            refine (takeone_bt 2 (by decide) P L m' w.heap.size sv _ hz5 S5 V5).mono ?_
            rintro e6 w6 ⟨sv6, rfl, hbt, b6⟩
            have BT6 := hid hbt
            have B6 := hid (B5.out.trans b6)
            have Z6 := hid (blk_but Z5.out b6 (by omega))
            have G6 := hid (blk_but G5.out b6 (by omega))
            have N6 := hid (ndO_aft (aftO_but b6 (by omega)) N5.out)
            have HLE := hid (show leftAt P L w6 < leftAt P L wr by
              have h1 := left_is S2.out
              have h2 : leftAt P L w6 ≤ m'.length := by
                rcases hbt with ⟨_, _, h⟩ | ⟨_, _, _, _, _, e, _, _, _, _, _, h⟩
                · exact Nat.le_of_eq (left_is h)
                · rw [left_is h, e]; simp
              omega)
            clear hbt b6 S5 B5 Z5 G5 N5 V5 S2 hB hZ hG hN
            go_wp2_with fail
            go_roundw
            case rel => exact ⟨g, _, false, m', _, _, HE.out, by simp at hgm; omega, by omega, B6.out, Z6.out, G6.out, N6.out, BT6.out⟩
            case measure => exact HLE.out

set_option maxHeartbeats 3200000 in
theorem rank_2 (f : Nat) (hR : ∀ g, g ≤ f → RankC g) (P : Nat) (L l : List Tok) (w : World) (hf : 20 * l.length + (10 - 2) ≤ f) (H : Hid (PSt P L w l)) :
    Calls Tryd.prog 55 #[.pointer (some ⟨P, 0, none⟩)] w (Reads P L w ((pRank f (2 + 1) l).bind fun e b l => pMore f 2 e b l)) := by
  have hP := H.out.lt
  have A1 := (Below.refl _ w).alloc (Nat.le_refl _) (.cells znd 26)
  have A2 := (Below.refl _ (w.alloc (.cells znd 26))).alloc (Nat.le_refl _) (.cells #[.string ⟨#[38, 38]⟩] 9)
  have A := hid (below_on A1 A2)
  have S0 := hid (H.out.on A.out)
  have G0 := hid (blk_on (blk_new w 26 znd) A2)
  have V0 := hid (show StR (w.heap.size + 1) ((w.alloc (.cells znd 26)).alloc (.cells #[.string ⟨#[38, 38]⟩] 9)) (.slice (some ⟨w.heap.size + 1, 0, none⟩) 1 1) [⟨#[38, 38]⟩] from by
    have hb := blk_new (w.alloc (.cells znd 26)) 9 #[.string ⟨#[38, 38]⟩]
    simp only [World.size_alloc] at hb
    refine .inr ⟨w.heap.size + 1, 0, 1, rfl, ⟨Nat.le_refl _, by simp⟩, fun i hi => ?_, Nat.le_refl _⟩
    rw [blk_cell hb]
    simp only [List.length_cons, List.length_nil] at hi
    rcases (show i = 0 by omega) with rfl <;> rfl)
  have HC := hid (fun w' S V => between_2 f hR (w.heap.size + 1) P L l (.slice (some ⟨w.heap.size + 1, 0, none⟩) 1 1) w' hf (by omega) S V)
  unfold znd at *
  clear H hR A1 A2
  cases hq : (pRank f (2 + 1) l).bind fun e b l => pMore f 2 e b l with
  | bad l' =>
    simp only [hq] at HC
    go_enter Tryd.func55, Tryd.ntmps55
    go_wp2_with fail
    refine (HC.out _ S0 V0).mono ?_
    rintro e w2 ⟨rfl, s2, b2⟩
    have S2 := hid s2
    have B2 := hid ((But.of A.out).trans b2)
    clear s2 b2 S0 A G0 HC V0
    unfold gaveUp
    go_wp2_with fail
    exact ⟨rfl, rfl, S2.out, B2.out⟩
  | ok x b l' =>
    simp only [hq] at HC
    go_enter Tryd.func55, Tryd.ntmps55
    go_wp2_with fail
    refine (HC.out _ S0 V0).mono ?_
    rintro e w2 ⟨⟨nv, kv, rfl, n2⟩, s2, b2⟩
    obtain ⟨a1, q1, a2, q2, rfl, rfl⟩ := ndR_shape n2
    have S3 := hid s2
    have N3 := hid (ndR_low (lo' := w.heap.size + 1) (by simp) n2)
    have B3 := hid ((But.of A.out).trans b2)
    have G3 := hid (blk_but G0.out b2 (by omega))
    have hg3 := blk_lt G3.out
    obtain ⟨r0, r1, r2, r3, r4, r5, r6⟩ := cells7 G3.out
    obtain ⟨u0, u1, u2, u3, u4, u5, u6⟩ := frees7 G3.out
    clear s2 b2 S0 A G0 HC n2 V0
    unfold ndv
    go_wp2_with fail
    have Z := fin_put hP (Nat.le_refl _) S3.out B3.out G3.out (.int .i64 x.kind) (.int .i64 x.op) (.int .i64 x.num) (.string x.str) (.slice a1 x.names.length q1) (.slice a2 x.kids.length q2) (.int .i64 x.pl)
    exact bodyPost_ret (ret_nd rfl rfl Z.1) rfl ⟨⟨_, _, rfl, ndR_low (Nat.le_succ _) (ndR_aft (put7_aft w2 (Nat.lt_succ_self _) _ _ _ _ _ _ _) N3.out)⟩, Z.2.1, Z.2.2⟩

end Go.Proofs.YtijbiedblahmhaaDoor

namespace Go.Proofs.YtijbiedblahmhaaDoor
open Go.RowKit

set_option linter.unusedSimpArgs false in
set_option maxHeartbeats 6400000 in
theorem between_3 (f : Nat) (hR : ∀ g, g ≤ f → RankC g) (lo P : Nat) (L l : List Tok) (sv : Value) (w : World) (hf : 20 * l.length + (10 - 3) ≤ f) (hlo : P < lo) (H : Hid (PSt P L w l)) (HV : Hid (StR lo w sv [⟨#[61, 61]⟩, ⟨#[33, 61]⟩])) :
    Calls Tryd.prog 54 #[.pointer (some ⟨P, 0, none⟩), .func (.func 75) #[.pointer (some ⟨P, 0, none⟩)] #[], sv] w (Reads P L w ((pRank f (3 + 1) l).bind fun e b l => pMore f 3 e b l)) := by
  have A := hid ((Below.refl _ w).alloc (Nat.le_refl _) (.cells znd 26))
  have S0 := hid (H.out.on A.out)
  have G0 := hid (blk_new w 26 znd)
  have hP := H.out.lt
  have HC := hid (show ∀ w', Hid (PSt P L w' l) → Calls Tryd.prog 75 #[.pointer (some ⟨P, 0, none⟩)] w' (Reads P L w' (pRank f (3 + 1) l)) from fun w' S => hR f (Nat.le_refl _) (3 + 1) P L l w' (by omega) (by omega) (by omega) S)
  have HM := hid ((may f).rank (3 + 1) l (pst_gt H.out))
  have HR := hid (show ∀ g, g ≤ f → ∀ (q : List Tok) (w' : World), 20 * q.length + (10 - 3) ≤ g → Hid (PSt P L w' q) → Calls Tryd.prog 75 #[.pointer (some ⟨P, 0, none⟩)] w' (Reads P L w' (pRank g (3 + 1) q)) from fun g hg q w' hq S => hR g hg (3 + 1) P L q w' (by omega) (by omega) (by omega) S)
  unfold znd at *
  clear H hR
  cases hq : pRank f (3 + 1) l with
  | bad l' =>
    rw [hq] at HC
    rw [PR.bind_bad]
    clear HM HR
    go_enter Tryd.func54, Tryd.ntmps54
    go_wp2_with fail
    refine (HC.out _ S0).mono ?_
    rintro e w2 ⟨rfl, s2, b2⟩
    have S2 := hid s2
    have B2 := hid ((But.of A.out).trans b2)
    clear s2 b2 S0 A G0 HC
    unfold gaveUp
    go_wp2_with fail
    exact ⟨rfl, rfl, S2.out, B2.out⟩
  | ok x b l' =>
    rw [hq] at HC HM
    rw [PR.bind_ok]
    have hm : l'.length + 1 ≤ l.length := by
      obtain ⟨_, pre, u, e, _⟩ := HM.out
      rw [e]; simp
    clear HM
    go_enter Tryd.func54, Tryd.ntmps54
    go_wp2_with fail
    refine (HC.out _ S0).mono ?_
    rintro e1 w1 ⟨⟨nv, kv, rfl, n1⟩, s1, b1⟩
    obtain ⟨a1, q1, a2, q2, rfl, rfl⟩ := ndR_shape n1
    have hsz1 := b1.size
    simp only [World.size_alloc] at hsz1
    have AA := (Below.refl _ w1).alloc (Nat.le_refl _) (.cells (ndc x (.slice a1 x.names.length q1) (.slice a2 x.kids.length q2)) 26)
    have S1 := hid (s1.on AA)
    have B1 := hid (((But.of A.out).trans b1).trans (But.of AA))
    have Z1 := hid (blk_on (blk_but G0.out b1 (by omega)) AA)
    have G1 := hid (blk_new w1 26 (ndc x (.slice a1 x.names.length q1) (.slice a2 x.kids.length q2)))
    have N1 := hid (ndO_aft (aftO_below AA) (ndO_of (ok := fun b => w.heap.size + 1 ≤ b ∧ b ≠ w1.heap.size) n1 (fun b h1 h2 => ⟨by simpa using h1, by omega⟩)))
    clear b1 s1 n1 AA S0 A G0 HC hq
    unfold ndv
    unfold ndc at *
    have V1 := hid (words_on HV.out B1.out hlo)
    have hl1 : w.heap.size + 1 ≤ w1.heap.size := hsz1
    go_wp2_with fail
    refine (takeone_bt 3 (by decide) P L l' w.heap.size sv _ (by simp; omega) S1 V1).mono ?_
    rintro e3 w3 ⟨sv0, rfl, hbt, b3⟩
    have BT := hid hbt
    have B3 := hid (B1.out.trans b3)
    have Z3 := hid (blk_but Z1.out b3 (by omega))
    have G3 := hid (blk_but G1.out b3 (by omega))
    have N3 := hid (ndO_aft (aftO_but b3 (by omega)) N1.out)
    clear hbt b3 S1 B1 Z1 G1 N1 V1
    go_wp2_with fail
    go_loopw [8] (fun s wr => ∃ (g : Nat) (e : Nd) (c : Bool) (m : List Tok) (nv kv : Value), Hid (pMore f 3 x b l' = pMore g 3 e c m) ∧ 20 * m.length + 5 ≤ g ∧ g ≤ f ∧ Hid (But P w wr) ∧ Hid (Blk w.heap.size 26 znd wr) ∧ Hid (Blk w1.heap.size 26 (ndc e nv kv) wr) ∧ Hid (NdO (fun b => w.heap.size + 1 ≤ b ∧ b ≠ w1.heap.size) wr e nv kv) ∧ Hid (BtS P L 3 m s wr)) (fun _ wr => leftAt P L wr)
    case atStart => exact ⟨f, x, b, l', _, _, (show Hid (_ = _) from rfl), by omega, Nat.le_refl _, B3.out, Z3.out, G3.out, N3.out, BT.out⟩
    case round =>
      obtain ⟨g, e, c, m, nv, kv, hpe, hgm, hgf, hB, hZ, hG, hN, hS⟩ := hrel
      clear B3 Z3 G3 N3 BT
      obtain ⟨g, rfl⟩ : ∃ g', g = g' + 1 := ⟨g - 1, by omega⟩
      obtain ⟨b1, p1, b2, p2, rfl, rfl⟩ := ndO_shape hN.out
      have hg0 := blk_lt hZ.out
      have hg1 := blk_lt hG.out
      unfold znd ndc at *
      rcases hS.out with ⟨rfl, hsn, hst⟩ | ⟨t, q, k, o, sx, rfl, rfl, hst, hrt, hsn, hin, hpq⟩
      · have HE := hid (hpe.out.trans (show pMore (g + 1) 3 e c m = .ok e c m by rw [pMore, hsn]))
        have S4 := hid hst
        obtain ⟨r0, r1, r2, r3, r4, r5, r6⟩ := cells7 hG.out
        obtain ⟨z0, z1, z2, z3, z4, z5, z6⟩ := cells7 hZ.out
        obtain ⟨u0, u1, u2, u3, u4, u5, u6⟩ := frees7 hZ.out
        clear hpe hsn hst hS HR
        go_wp2_with fail
        have Z := fin_put hP (Nat.le_refl _) S4.out hB.out hZ.out (.int .i64 e.kind) (.int .i64 e.op) (.int .i64 e.num) (.string e.str) (.slice b1 e.names.length p1) (.slice b2 e.kids.length p2) (.int .i64 e.pl)
        refine bodyPost_ret (ret_nd rfl rfl Z.1) rfl ?_
        rw [HE.out]
        exact ⟨⟨_, _, rfl, ndR_of (ndO_aft (put7_aftO _ (by omega) _ _ _ _ _ _ _) hN.out) (fun b h => by omega)⟩, Z.2.1, Z.2.2⟩
      · have hxe := isT_ne hst hrt
        obtain ⟨oo, ho1, ho2, rfl, rfl, hsx⟩ : ∃ oo : Nat, 1 ≤ oo ∧ oo ≤ 11 ∧ k = 10 ∧ o = (oo : Int) ∧ sx.data.toList = signT (oo : Int) := by
          simp [sgR] at hin
          rcases hin with ⟨h1, rfl, rfl⟩ | ⟨h1, rfl, rfl⟩
          · exact ⟨10, by omega, by omega, rfl, rfl, h1⟩
          · exact ⟨11, by omega, by omega, rfl, rfl, h1⟩
        have HSX := hid hsx
        clear hsx
        have HE := hid (hpe.out.trans (show pMore (g + 1) 3 e c (t :: q) = (pRank g (3 + 1) q).bind fun e' _ l => pMore g 3 (ndO 10 oo [e, e']) false l by rw [pMore, hsn]; rfl))
        have HMq := hid ((may g).rank (3 + 1) q (pst_gt hpq))
        have HCq := hid (fun w' S => HR.out g (by omega) q w' (by simp at hgm; omega) S)
        have S2 := hid hpq
        clear hpe hsn hst hrt hS HR hin hpq
        cases hqq : pRank g (3 + 1) q with
        | bad m' =>
          rw [hqq] at HE HCq
          rw [PR.bind_bad] at HE
          obtain ⟨r0, r1, r2, r3, r4, r5, r6⟩ := cells7 hG.out
          go_wp2_with fail
          refine wp_region_held_drew (S := fun _ => True) (by kernel_rfl) trivial (fun hHeld => ?_)
          refine wpAnyH_take (i := 1) (v := ?v1) rfl (by kernel_rfl) (by kernel_rfl) (by kernel_rfl) (fun _ _ _ h => h) (Or.inl ⟨by rfl, ?hy1⟩) (by assumption) ?_
          case hy1 => (intro w hSw; go_simp <;> (try with_reducible rfl))
          simp only [Act.put, List.setIfInBounds_toArray, List.set_cons_zero, List.set_cons_succ, List.getElem_toArray, List.getElem_cons_succ, List.getElem_cons_zero]
          refine wpAnyH_take (i := 2) (v := ?v2) rfl (by kernel_rfl) (by kernel_rfl) (by kernel_rfl) (fun _ _ _ h => h) (Or.inl ⟨by rfl, ?hy2⟩) (by assumption) ?_
          case hy2 => (intro w hSw; go_simp <;> (try with_reducible rfl))
          simp only [Act.put, List.setIfInBounds_toArray, List.set_cons_zero, List.set_cons_succ, List.getElem_toArray, List.getElem_cons_succ, List.getElem_cons_zero]
          refine wpAnyH_ready (rs := [0, 3]) (by kernel_rfl) (by simp) ?_
          refine AllReadyH.cons rfl (fun K hK => ?_) (AllReadyH.cons rfl (fun K hK => ?_) AllReadyH.nil)
          · go_simp
            refine hK.out _ _ trivial (fun hHeld => ?_)
            clear hK K
            refine wpAnyH_ready (rs := [3]) (by kernel_rfl) (by simp) ?_
            refine AllReadyH.cons rfl (fun K hK => ?_) AllReadyH.nil
            have HK := hid hK
            clear hK
            go_simp
            refine (HCq.out _ (hid (S2.out.on (Below.refl _ _).drew))).mono ?_
            rintro e5 w5 ⟨rfl, s5, b5⟩
            have S5 := hid s5
            have B5 := hid ((hB.out.trans (But.of (Below.refl _ _).drew)).trans b5)
            clear s5 b5 HK
            unfold gaveUp
            go_wp2_with fail
            refine ⟨rfl, ?_⟩
            rw [HE.out]
            exact ⟨rfl, S5.out, B5.out⟩
          · have HK := hid hK
            clear hK
            go_simp
            refine (HCq.out _ (hid (S2.out.on (Below.refl _ _).drew))).mono ?_
            rintro e5 w5 ⟨rfl, s5, b5⟩
            have S5 := hid s5
            have B5 := hid ((hB.out.trans (But.of (Below.refl _ _).drew)).trans b5)
            clear s5 b5 HK
            unfold gaveUp
            go_wp2_with fail
            refine ⟨rfl, ?_⟩
            rw [HE.out]
            exact ⟨rfl, S5.out, B5.out⟩
        | ok x2 c2 m' =>
          rw [hqq] at HE HCq HMq
          rw [PR.bind_ok] at HE
          have hm2 : m'.length + 1 ≤ q.length := by
            obtain ⟨_, pre, u, e, _⟩ := HMq.out
            rw [e]; simp
          clear HMq
          obtain ⟨r0, r1, r2, r3, r4, r5, r6⟩ := cells7 hG.out
          go_wp2_with fail
          refine wp_region_held_drew (S := fun _ => True) (by kernel_rfl) trivial (fun hHeld => ?_)
          refine wpAnyH_take (i := 1) (v := ?v1) rfl (by kernel_rfl) (by kernel_rfl) (by kernel_rfl) (fun _ _ _ h => h) (Or.inl ⟨by rfl, ?hy1⟩) (by assumption) ?_
          case hy1 => (intro w hSw; go_simp <;> (try with_reducible rfl))
          simp only [Act.put, List.setIfInBounds_toArray, List.set_cons_zero, List.set_cons_succ, List.getElem_toArray, List.getElem_cons_succ, List.getElem_cons_zero]
          refine wpAnyH_take (i := 2) (v := ?v2) rfl (by kernel_rfl) (by kernel_rfl) (by kernel_rfl) (fun _ _ _ h => h) (Or.inl ⟨by rfl, ?hy2⟩) (by assumption) ?_
          case hy2 => (intro w hSw; go_simp <;> (try with_reducible rfl))
          simp only [Act.put, List.setIfInBounds_toArray, List.set_cons_zero, List.set_cons_succ, List.getElem_toArray, List.getElem_cons_succ, List.getElem_cons_zero]
          refine wpAnyH_ready (rs := [0, 3]) (by kernel_rfl) (by simp) ?_
          refine AllReadyH.cons rfl (fun K hK => ?_) (AllReadyH.cons rfl (fun K hK => ?_) AllReadyH.nil)
          · go_simp
            refine hK.out _ _ trivial (fun hHeld => ?_)
            clear hK K
            refine wpAnyH_ready (rs := [3]) (by kernel_rfl) (by simp) ?_
            refine AllReadyH.cons rfl (fun K hK => ?_) AllReadyH.nil
            have HK := hid hK
            clear hK
            go_simp
            refine (HCq.out _ (hid (S2.out.on (Below.refl _ _).drew))).mono ?_
            rintro e3 w3 ⟨⟨nv3, kv3, rfl, n3⟩, s3, b3⟩
            obtain ⟨f1, g1, f2, g2, rfl, rfl⟩ := ndR_shape n3
            have DR := (Below.refl wr.heap.size wr).drew
            have S3 := hid s3
            have B3 := hid ((hB.out.trans (But.of DR)).trans b3)
            have Z3 := hid (blk_but (blk_on hZ.out DR) b3 (by omega))
            have G3 := hid (blk_but (blk_on hG.out DR) b3 (by omega))
            have N3 := hid (ndO_aft (aftO_but b3 (by omega)) (ndO_aft (aftO_below DR) hN.out))
            have M3 := hid (ndO_of (ok := fun b => w.heap.size + 1 ≤ b ∧ b ≠ w1.heap.size) n3 (fun b h1 h2 => by simp at h1; omega))
            have hz3 := b3.size
            have hl3 : ∀ b, w3.heap.size ≤ b → w.heap.size + 1 ≤ b ∧ b ≠ w1.heap.size := by intro b hb; simp at hz3; omega
            clear s3 b3 n3 DR
            unfold ndv
            simp only
            refine HK.out.out _ _ trivial (fun hHeld => ?_)
            clear HK K
            refine wpAnyH_ready (rs := [4]) (by kernel_rfl) (by simp) ?_
            refine AllReadyH.cons rfl (fun K hK => ?_) AllReadyH.nil
            have HK := hid hK
            clear hK
            go_simp
            refine (join_sign oo ho1 ho2 sx HSX.out P _ e x2 _ _ _ _ _ (hid S3.out.sg) hl3 (hid N3.out) (hid M3.out)).mono ?_
            rintro e4 w4 ⟨⟨nv4, kv4, rfl, n4⟩, b4⟩
            obtain ⟨c1, d1, c3, d3, rfl, rfl⟩ := ndO_shape n4
            have S4 := hid (S3.out.on b4)
            have B4 := hid (B3.out.trans (But.of b4))
            have Z4 := hid (blk_on Z3.out b4)
            have G4 := hid (blk_on G3.out b4)
            have N4 := hid n4
            have hg4 := blk_lt G4.out
            obtain ⟨s0, s1, s2, s3, s4, s5, s6⟩ := cells7 G4.out
            obtain ⟨u0, u1, u2, u3, u4, u5, u6⟩ := frees7 G4.out
            clear b4 n4 S3 B3 Z3 G3 N3 M3
            unfold ndv
            simp only
            refine HK.out.out _ _ trivial (fun hHeld => ?_)
            clear HK K
            refine wpAnyH_ready (rs := [5]) (by kernel_rfl) (by simp) ?_
            refine AllReadyH.cons rfl (fun K hK => ?_) AllReadyH.nil
            have HK := hid hK
            clear hK
            go_simp
            refine HK.out.out _ _ trivial (fun hHeld => ?_)
            clear HK K
            refine wpAnyH_done (by kernel_rfl) ?_ _
            have F := fin_put hP (by omega) S4.out B4.out G4.out (.int .i64 (ndO 10 oo [e, x2]).kind) (.int .i64 (ndO 10 oo [e, x2]).op) (.int .i64 (ndO 10 oo [e, x2]).num) (.string (ndO 10 oo [e, x2]).str) (.slice c1 (ndO 10 oo [e, x2]).names.length d1) (.slice c3 (ndO 10 oo [e, x2]).kids.length d3) (.int .i64 (ndO 10 oo [e, x2]).pl)
            have Z5 := hid (blk_put7 (g := w1.heap.size) Z4.out (by omega) (.int .i64 (ndO 10 oo [e, x2]).kind) (.int .i64 (ndO 10 oo [e, x2]).op) (.int .i64 (ndO 10 oo [e, x2]).num) (.string (ndO 10 oo [e, x2]).str) (.slice c1 (ndO 10 oo [e, x2]).names.length d1) (.slice c3 (ndO 10 oo [e, x2]).kids.length d3) (.int .i64 (ndO 10 oo [e, x2]).pl))
            have N5 := hid (ndO_aft (put7_aftO (g := w1.heap.size) w4 (by simp) (.int .i64 (ndO 10 oo [e, x2]).kind) (.int .i64 (ndO 10 oo [e, x2]).op) (.int .i64 (ndO 10 oo [e, x2]).num) (.string (ndO 10 oo [e, x2]).str) (.slice c1 (ndO 10 oo [e, x2]).names.length d1) (.slice c3 (ndO 10 oo [e, x2]).kids.length d3) (.int .i64 (ndO 10 oo [e, x2]).pl)) N4.out)
            have G5 := hid F.1
            have S5 := hid F.2.1
            have B5 := hid F.2.2
            have V5 := hid (words_on HV.out F.2.2 hlo)
            have hz5 := F.2.2.size
            clear F S4 B4 Z4 G4 N4 s0 s1 s2 s3 s4 s5 s6 u0 u1 u2 u3 u4 u5 u6 hHeld r0 r1 r2 r3 r4 r5 r6
            unfold put7w at Z5 N5 G5 S5 B5 V5 hz5
            obtain ⟨w5, hw5⟩ : ∃ w5, (((((((w4.setCell ⟨w1.heap.size, 0, none⟩ (.int .i64 (ndO 10 oo [e, x2]).kind)).setCell ⟨w1.heap.size, 1, none⟩ (.int .i64 (ndO 10 oo [e, x2]).op)).setCell ⟨w1.heap.size, 2, none⟩ (.int .i64 (ndO 10 oo [e, x2]).num)).setCell ⟨w1.heap.size, 3, none⟩ (.string (ndO 10 oo [e, x2]).str)).setCell ⟨w1.heap.size, 4, none⟩ (.slice c1 (ndO 10 oo [e, x2]).names.length d1)).setCell ⟨w1.heap.size, 5, none⟩ (.slice c3 (ndO 10 oo [e, x2]).kids.length d3)).setCell ⟨w1.heap.size, 6, none⟩ (.int .i64 (ndO 10 oo [e, x2]).pl)) = w5 := ⟨_, rfl⟩
            rw [hw5] at Z5 N5 G5 S5 B5 V5 hz5 ⊢
            clear hw5 hg4
            go_wp2_with fail
            refine (takeone_bt 3 (by decide) P L m' w.heap.size sv _ hz5 S5 V5).mono ?_
            rintro e6 w6 ⟨sv6, rfl, hbt, b6⟩
            have BT6 := hid hbt
            have B6 := hid (B5.out.trans b6)
            have Z6 := hid (blk_but Z5.out b6 (by omega))
            have G6 := hid (blk_but G5.out b6 (by omega))
            have N6 := hid (ndO_aft (aftO_but b6 (by omega)) N5.out)
            have HLE := hid (show leftAt P L w6 < leftAt P L wr by
              have h1 := left_is S2.out
              have h2 : leftAt P L w6 ≤ m'.length := by
                rcases hbt with ⟨_, _, h⟩ | ⟨_, _, _, _, _, e, _, _, _, _, _, h⟩
                · exact Nat.le_of_eq (left_is h)
                · rw [left_is h, e]; simp
              omega)
            clear hbt b6 S5 B5 Z5 G5 N5 V5 S2 hB hZ hG hN
            go_wp2_with fail
            go_roundw
            case rel => exact ⟨g, _, false, m', _, _, HE.out, by simp at hgm; omega, by omega, B6.out, Z6.out, G6.out, N6.out, BT6.out⟩
            case measure => exact HLE.out
          · have HK := hid hK
            clear hK
            go_simp
            refine (HCq.out _ (hid (S2.out.on (Below.refl _ _).drew))).mono ?_
            rintro e3 w3 ⟨⟨nv3, kv3, rfl, n3⟩, s3, b3⟩
            obtain ⟨f1, g1, f2, g2, rfl, rfl⟩ := ndR_shape n3
            have DR := (Below.refl wr.heap.size wr).drew
            have S3 := hid s3
            have B3 := hid ((hB.out.trans (But.of DR)).trans b3)
            have Z3 := hid (blk_but (blk_on hZ.out DR) b3 (by omega))
            have G3 := hid (blk_but (blk_on hG.out DR) b3 (by omega))
            have N3 := hid (ndO_aft (aftO_but b3 (by omega)) (ndO_aft (aftO_below DR) hN.out))
            have M3 := hid (ndO_of (ok := fun b => w.heap.size + 1 ≤ b ∧ b ≠ w1.heap.size) n3 (fun b h1 h2 => by simp at h1; omega))
            have hz3 := b3.size
            have hl3 : ∀ b, w3.heap.size ≤ b → w.heap.size + 1 ≤ b ∧ b ≠ w1.heap.size := by intro b hb; simp at hz3; omega
            clear s3 b3 n3 DR
            unfold ndv
            simp only
            refine HK.out.out _ _ trivial (fun hHeld => ?_)
            clear HK K
            obtain ⟨t0, t1, t2, t3, t4, t5, t6⟩ := cells7 G3.out
            refine wpAnyH_ready (rs := [0]) (by kernel_rfl) (by simp) ?_
            refine AllReadyH.cons rfl (fun K hK => ?_) AllReadyH.nil
            have HK := hid hK
            clear hK
            go_simp
            refine HK.out.out _ _ trivial (fun hHeld => ?_)
            clear HK K t0 t1 t2 t3 t4 t5 t6
            refine wpAnyH_ready (rs := [4]) (by kernel_rfl) (by simp) ?_
            refine AllReadyH.cons rfl (fun K hK => ?_) AllReadyH.nil
            have HK := hid hK
            clear hK
            go_simp
            refine (join_sign oo ho1 ho2 sx HSX.out P _ e x2 _ _ _ _ _ (hid S3.out.sg) hl3 (hid N3.out) (hid M3.out)).mono ?_
            rintro e4 w4 ⟨⟨nv4, kv4, rfl, n4⟩, b4⟩
            obtain ⟨c1, d1, c3, d3, rfl, rfl⟩ := ndO_shape n4
            have S4 := hid (S3.out.on b4)
            have B4 := hid (B3.out.trans (But.of b4))
            have Z4 := hid (blk_on Z3.out b4)
            have G4 := hid (blk_on G3.out b4)
            have N4 := hid n4
            have hg4 := blk_lt G4.out
            obtain ⟨s0, s1, s2, s3, s4, s5, s6⟩ := cells7 G4.out
            obtain ⟨u0, u1, u2, u3, u4, u5, u6⟩ := frees7 G4.out
            clear b4 n4 S3 B3 Z3 G3 N3 M3
            unfold ndv
            simp only
            refine HK.out.out _ _ trivial (fun hHeld => ?_)
            clear HK K
            refine wpAnyH_ready (rs := [5]) (by kernel_rfl) (by simp) ?_
            refine AllReadyH.cons rfl (fun K hK => ?_) AllReadyH.nil
            have HK := hid hK
            clear hK
            go_simp
            refine HK.out.out _ _ trivial (fun hHeld => ?_)
            clear HK K
            refine wpAnyH_done (by kernel_rfl) ?_ _
            have F := fin_put hP (by omega) S4.out B4.out G4.out (.int .i64 (ndO 10 oo [e, x2]).kind) (.int .i64 (ndO 10 oo [e, x2]).op) (.int .i64 (ndO 10 oo [e, x2]).num) (.string (ndO 10 oo [e, x2]).str) (.slice c1 (ndO 10 oo [e, x2]).names.length d1) (.slice c3 (ndO 10 oo [e, x2]).kids.length d3) (.int .i64 (ndO 10 oo [e, x2]).pl)
            have Z5 := hid (blk_put7 (g := w1.heap.size) Z4.out (by omega) (.int .i64 (ndO 10 oo [e, x2]).kind) (.int .i64 (ndO 10 oo [e, x2]).op) (.int .i64 (ndO 10 oo [e, x2]).num) (.string (ndO 10 oo [e, x2]).str) (.slice c1 (ndO 10 oo [e, x2]).names.length d1) (.slice c3 (ndO 10 oo [e, x2]).kids.length d3) (.int .i64 (ndO 10 oo [e, x2]).pl))
            have N5 := hid (ndO_aft (put7_aftO (g := w1.heap.size) w4 (by simp) (.int .i64 (ndO 10 oo [e, x2]).kind) (.int .i64 (ndO 10 oo [e, x2]).op) (.int .i64 (ndO 10 oo [e, x2]).num) (.string (ndO 10 oo [e, x2]).str) (.slice c1 (ndO 10 oo [e, x2]).names.length d1) (.slice c3 (ndO 10 oo [e, x2]).kids.length d3) (.int .i64 (ndO 10 oo [e, x2]).pl)) N4.out)
            have G5 := hid F.1
            have S5 := hid F.2.1
            have B5 := hid F.2.2
            have V5 := hid (words_on HV.out F.2.2 hlo)
            have hz5 := F.2.2.size
            clear F S4 B4 Z4 G4 N4 s0 s1 s2 s3 s4 s5 s6 u0 u1 u2 u3 u4 u5 u6 hHeld r0 r1 r2 r3 r4 r5 r6
            unfold put7w at Z5 N5 G5 S5 B5 V5 hz5
            obtain ⟨w5, hw5⟩ : ∃ w5, (((((((w4.setCell ⟨w1.heap.size, 0, none⟩ (.int .i64 (ndO 10 oo [e, x2]).kind)).setCell ⟨w1.heap.size, 1, none⟩ (.int .i64 (ndO 10 oo [e, x2]).op)).setCell ⟨w1.heap.size, 2, none⟩ (.int .i64 (ndO 10 oo [e, x2]).num)).setCell ⟨w1.heap.size, 3, none⟩ (.string (ndO 10 oo [e, x2]).str)).setCell ⟨w1.heap.size, 4, none⟩ (.slice c1 (ndO 10 oo [e, x2]).names.length d1)).setCell ⟨w1.heap.size, 5, none⟩ (.slice c3 (ndO 10 oo [e, x2]).kids.length d3)).setCell ⟨w1.heap.size, 6, none⟩ (.int .i64 (ndO 10 oo [e, x2]).pl)) = w5 := ⟨_, rfl⟩
            rw [hw5] at Z5 N5 G5 S5 B5 V5 hz5 ⊢
            clear hw5 hg4
            go_wp2_with fail
            refine (takeone_bt 3 (by decide) P L m' w.heap.size sv _ hz5 S5 V5).mono ?_
            rintro e6 w6 ⟨sv6, rfl, hbt, b6⟩
            have BT6 := hid hbt
            have B6 := hid (B5.out.trans b6)
            have Z6 := hid (blk_but Z5.out b6 (by omega))
            have G6 := hid (blk_but G5.out b6 (by omega))
            have N6 := hid (ndO_aft (aftO_but b6 (by omega)) N5.out)
            have HLE := hid (show leftAt P L w6 < leftAt P L wr by
              have h1 := left_is S2.out
              have h2 : leftAt P L w6 ≤ m'.length := by
                rcases hbt with ⟨_, _, h⟩ | ⟨_, _, _, _, _, e, _, _, _, _, _, h⟩
                · exact Nat.le_of_eq (left_is h)
                · rw [left_is h, e]; simp
              omega)
            clear hbt b6 S5 B5 Z5 G5 N5 V5 S2 hB hZ hG hN
            go_wp2_with fail
            go_roundw
            case rel => exact ⟨g, _, false, m', _, _, HE.out, by simp at hgm; omega, by omega, B6.out, Z6.out, G6.out, N6.out, BT6.out⟩
            case measure => exact HLE.out

set_option maxHeartbeats 3200000 in
theorem rank_3 (f : Nat) (hR : ∀ g, g ≤ f → RankC g) (P : Nat) (L l : List Tok) (w : World) (hf : 20 * l.length + (10 - 3) ≤ f) (H : Hid (PSt P L w l)) :
    Calls Tryd.prog 65 #[.pointer (some ⟨P, 0, none⟩)] w (Reads P L w ((pRank f (3 + 1) l).bind fun e b l => pMore f 3 e b l)) := by
  have hP := H.out.lt
  have A1 := (Below.refl _ w).alloc (Nat.le_refl _) (.cells znd 26)
  have A2 := (Below.refl _ (w.alloc (.cells znd 26))).alloc (Nat.le_refl _) (.cells #[.string ⟨#[61, 61]⟩, .string ⟨#[33, 61]⟩] 9)
  have A := hid (below_on A1 A2)
  have S0 := hid (H.out.on A.out)
  have G0 := hid (blk_on (blk_new w 26 znd) A2)
  have V0 := hid (show StR (w.heap.size + 1) ((w.alloc (.cells znd 26)).alloc (.cells #[.string ⟨#[61, 61]⟩, .string ⟨#[33, 61]⟩] 9)) (.slice (some ⟨w.heap.size + 1, 0, none⟩) 2 2) [⟨#[61, 61]⟩, ⟨#[33, 61]⟩] from by
    have hb := blk_new (w.alloc (.cells znd 26)) 9 #[.string ⟨#[61, 61]⟩, .string ⟨#[33, 61]⟩]
    simp only [World.size_alloc] at hb
    refine .inr ⟨w.heap.size + 1, 0, 2, rfl, ⟨Nat.le_refl _, by simp⟩, fun i hi => ?_, Nat.le_refl _⟩
    rw [blk_cell hb]
    simp only [List.length_cons, List.length_nil] at hi
    rcases (show i = 0 ∨ i = 1 by omega) with rfl | rfl <;> rfl)
  have HC := hid (fun w' S V => between_3 f hR (w.heap.size + 1) P L l (.slice (some ⟨w.heap.size + 1, 0, none⟩) 2 2) w' hf (by omega) S V)
  unfold znd at *
  clear H hR A1 A2
  cases hq : (pRank f (3 + 1) l).bind fun e b l => pMore f 3 e b l with
  | bad l' =>
    simp only [hq] at HC
    go_enter Tryd.func65, Tryd.ntmps65
    go_wp2_with fail
    refine (HC.out _ S0 V0).mono ?_
    rintro e w2 ⟨rfl, s2, b2⟩
    have S2 := hid s2
    have B2 := hid ((But.of A.out).trans b2)
    clear s2 b2 S0 A G0 HC V0
    unfold gaveUp
    go_wp2_with fail
    exact ⟨rfl, rfl, S2.out, B2.out⟩
  | ok x b l' =>
    simp only [hq] at HC
    go_enter Tryd.func65, Tryd.ntmps65
    go_wp2_with fail
    refine (HC.out _ S0 V0).mono ?_
    rintro e w2 ⟨⟨nv, kv, rfl, n2⟩, s2, b2⟩
    obtain ⟨a1, q1, a2, q2, rfl, rfl⟩ := ndR_shape n2
    have S3 := hid s2
    have N3 := hid (ndR_low (lo' := w.heap.size + 1) (by simp) n2)
    have B3 := hid ((But.of A.out).trans b2)
    have G3 := hid (blk_but G0.out b2 (by omega))
    have hg3 := blk_lt G3.out
    obtain ⟨r0, r1, r2, r3, r4, r5, r6⟩ := cells7 G3.out
    obtain ⟨u0, u1, u2, u3, u4, u5, u6⟩ := frees7 G3.out
    clear s2 b2 S0 A G0 HC n2 V0
    unfold ndv
    go_wp2_with fail
    have Z := fin_put hP (Nat.le_refl _) S3.out B3.out G3.out (.int .i64 x.kind) (.int .i64 x.op) (.int .i64 x.num) (.string x.str) (.slice a1 x.names.length q1) (.slice a2 x.kids.length q2) (.int .i64 x.pl)
    exact bodyPost_ret (ret_nd rfl rfl Z.1) rfl ⟨⟨_, _, rfl, ndR_low (Nat.le_succ _) (ndR_aft (put7_aft w2 (Nat.lt_succ_self _) _ _ _ _ _ _ _) N3.out)⟩, Z.2.1, Z.2.2⟩

end Go.Proofs.YtijbiedblahmhaaDoor

namespace Go.Proofs.YtijbiedblahmhaaDoor
open Go.RowKit

set_option linter.unusedSimpArgs false in
set_option maxHeartbeats 6400000 in
theorem between_4 (f : Nat) (hR : ∀ g, g ≤ f → RankC g) (lo P : Nat) (L l : List Tok) (sv : Value) (w : World) (hf : 20 * l.length + (10 - 4) ≤ f) (hlo : P < lo) (H : Hid (PSt P L w l)) (HV : Hid (StR lo w sv [⟨#[60]⟩, ⟨#[60, 61]⟩, ⟨#[62]⟩, ⟨#[62, 61]⟩])) :
    Calls Tryd.prog 54 #[.pointer (some ⟨P, 0, none⟩), .func (.func 85) #[.pointer (some ⟨P, 0, none⟩)] #[], sv] w (Reads P L w ((pRank f (4 + 1) l).bind fun e b l => pMore f 4 e b l)) := by
  have A := hid ((Below.refl _ w).alloc (Nat.le_refl _) (.cells znd 26))
  have S0 := hid (H.out.on A.out)
  have G0 := hid (blk_new w 26 znd)
  have hP := H.out.lt
  have HC := hid (show ∀ w', Hid (PSt P L w' l) → Calls Tryd.prog 85 #[.pointer (some ⟨P, 0, none⟩)] w' (Reads P L w' (pRank f (4 + 1) l)) from fun w' S => hR f (Nat.le_refl _) (4 + 1) P L l w' (by omega) (by omega) (by omega) S)
  have HM := hid ((may f).rank (4 + 1) l (pst_gt H.out))
  have HR := hid (show ∀ g, g ≤ f → ∀ (q : List Tok) (w' : World), 20 * q.length + (10 - 4) ≤ g → Hid (PSt P L w' q) → Calls Tryd.prog 85 #[.pointer (some ⟨P, 0, none⟩)] w' (Reads P L w' (pRank g (4 + 1) q)) from fun g hg q w' hq S => hR g hg (4 + 1) P L q w' (by omega) (by omega) (by omega) S)
  unfold znd at *
  clear H hR
  cases hq : pRank f (4 + 1) l with
  | bad l' =>
    rw [hq] at HC
    rw [PR.bind_bad]
    clear HM HR
    go_enter Tryd.func54, Tryd.ntmps54
    go_wp2_with fail
    refine (HC.out _ S0).mono ?_
    rintro e w2 ⟨rfl, s2, b2⟩
    have S2 := hid s2
    have B2 := hid ((But.of A.out).trans b2)
    clear s2 b2 S0 A G0 HC
    unfold gaveUp
    go_wp2_with fail
    exact ⟨rfl, rfl, S2.out, B2.out⟩
  | ok x b l' =>
    rw [hq] at HC HM
    rw [PR.bind_ok]
    have hm : l'.length + 1 ≤ l.length := by
      obtain ⟨_, pre, u, e, _⟩ := HM.out
      rw [e]; simp
    clear HM
    go_enter Tryd.func54, Tryd.ntmps54
    go_wp2_with fail
    refine (HC.out _ S0).mono ?_
    rintro e1 w1 ⟨⟨nv, kv, rfl, n1⟩, s1, b1⟩
    obtain ⟨a1, q1, a2, q2, rfl, rfl⟩ := ndR_shape n1
    have hsz1 := b1.size
    simp only [World.size_alloc] at hsz1
    have AA := (Below.refl _ w1).alloc (Nat.le_refl _) (.cells (ndc x (.slice a1 x.names.length q1) (.slice a2 x.kids.length q2)) 26)
    have S1 := hid (s1.on AA)
    have B1 := hid (((But.of A.out).trans b1).trans (But.of AA))
    have Z1 := hid (blk_on (blk_but G0.out b1 (by omega)) AA)
    have G1 := hid (blk_new w1 26 (ndc x (.slice a1 x.names.length q1) (.slice a2 x.kids.length q2)))
    have N1 := hid (ndO_aft (aftO_below AA) (ndO_of (ok := fun b => w.heap.size + 1 ≤ b ∧ b ≠ w1.heap.size) n1 (fun b h1 h2 => ⟨by simpa using h1, by omega⟩)))
    clear b1 s1 n1 AA S0 A G0 HC hq
    unfold ndv
    unfold ndc at *
    have V1 := hid (words_on HV.out B1.out hlo)
    have hl1 : w.heap.size + 1 ≤ w1.heap.size := hsz1
    go_wp2_with fail
    refine (takeone_bt 4 (by decide) P L l' w.heap.size sv _ (by simp; omega) S1 V1).mono ?_
    rintro e3 w3 ⟨sv0, rfl, hbt, b3⟩
    have BT := hid hbt
    have B3 := hid (B1.out.trans b3)
    have Z3 := hid (blk_but Z1.out b3 (by omega))
    have G3 := hid (blk_but G1.out b3 (by omega))
    have N3 := hid (ndO_aft (aftO_but b3 (by omega)) N1.out)
    clear hbt b3 S1 B1 Z1 G1 N1 V1
    go_wp2_with fail
    go_loopw [8] (fun s wr => ∃ (g : Nat) (e : Nd) (c : Bool) (m : List Tok) (nv kv : Value), Hid (pMore f 4 x b l' = pMore g 4 e c m) ∧ 20 * m.length + 5 ≤ g ∧ g ≤ f ∧ Hid (But P w wr) ∧ Hid (Blk w.heap.size 26 znd wr) ∧ Hid (Blk w1.heap.size 26 (ndc e nv kv) wr) ∧ Hid (NdO (fun b => w.heap.size + 1 ≤ b ∧ b ≠ w1.heap.size) wr e nv kv) ∧ Hid (BtS P L 4 m s wr)) (fun _ wr => leftAt P L wr)
    case atStart => exact ⟨f, x, b, l', _, _, (show Hid (_ = _) from rfl), by omega, Nat.le_refl _, B3.out, Z3.out, G3.out, N3.out, BT.out⟩
    case round =>
      obtain ⟨g, e, c, m, nv, kv, hpe, hgm, hgf, hB, hZ, hG, hN, hS⟩ := hrel
      clear B3 Z3 G3 N3 BT
      obtain ⟨g, rfl⟩ : ∃ g', g = g' + 1 := ⟨g - 1, by omega⟩
      obtain ⟨b1, p1, b2, p2, rfl, rfl⟩ := ndO_shape hN.out
      have hg0 := blk_lt hZ.out
      have hg1 := blk_lt hG.out
      unfold znd ndc at *
      rcases hS.out with ⟨rfl, hsn, hst⟩ | ⟨t, q, k, o, sx, rfl, rfl, hst, hrt, hsn, hin, hpq⟩
      · have HE := hid (hpe.out.trans (show pMore (g + 1) 4 e c m = .ok e c m by rw [pMore, hsn]))
        have S4 := hid hst
        obtain ⟨r0, r1, r2, r3, r4, r5, r6⟩ := cells7 hG.out
        obtain ⟨z0, z1, z2, z3, z4, z5, z6⟩ := cells7 hZ.out
        obtain ⟨u0, u1, u2, u3, u4, u5, u6⟩ := frees7 hZ.out
        clear hpe hsn hst hS HR
        go_wp2_with fail
        have Z := fin_put hP (Nat.le_refl _) S4.out hB.out hZ.out (.int .i64 e.kind) (.int .i64 e.op) (.int .i64 e.num) (.string e.str) (.slice b1 e.names.length p1) (.slice b2 e.kids.length p2) (.int .i64 e.pl)
        refine bodyPost_ret (ret_nd rfl rfl Z.1) rfl ?_
        rw [HE.out]
        exact ⟨⟨_, _, rfl, ndR_of (ndO_aft (put7_aftO _ (by omega) _ _ _ _ _ _ _) hN.out) (fun b h => by omega)⟩, Z.2.1, Z.2.2⟩
      · have hxe := isT_ne hst hrt
        obtain ⟨oo, ho1, ho2, rfl, rfl, hsx⟩ : ∃ oo : Nat, 1 ≤ oo ∧ oo ≤ 11 ∧ k = 10 ∧ o = (oo : Int) ∧ sx.data.toList = signT (oo : Int) := by
          simp [sgR] at hin
          rcases hin with ⟨h1, rfl, rfl⟩ | ⟨h1, rfl, rfl⟩ | ⟨h1, rfl, rfl⟩ | ⟨h1, rfl, rfl⟩
          · exact ⟨6, by omega, by omega, rfl, rfl, h1⟩
          · exact ⟨7, by omega, by omega, rfl, rfl, h1⟩
          · exact ⟨8, by omega, by omega, rfl, rfl, h1⟩
          · exact ⟨9, by omega, by omega, rfl, rfl, h1⟩
        have HSX := hid hsx
        clear hsx
        have HE := hid (hpe.out.trans (show pMore (g + 1) 4 e c (t :: q) = (pRank g (4 + 1) q).bind fun e' _ l => pMore g 4 (ndO 10 oo [e, e']) false l by rw [pMore, hsn]; rfl))
        have HMq := hid ((may g).rank (4 + 1) q (pst_gt hpq))
        have HCq := hid (fun w' S => HR.out g (by omega) q w' (by simp at hgm; omega) S)
        have S2 := hid hpq
        clear hpe hsn hst hrt hS HR hin hpq
        cases hqq : pRank g (4 + 1) q with
        | bad m' =>
          rw [hqq] at HE HCq
          rw [PR.bind_bad] at HE
          obtain ⟨r0, r1, r2, r3, r4, r5, r6⟩ := cells7 hG.out
          go_wp2_with fail
          refine wp_region_held_drew (S := fun _ => True) (by kernel_rfl) trivial (fun hHeld => ?_)
          refine wpAnyH_take (i := 1) (v := ?v1) rfl (by kernel_rfl) (by kernel_rfl) (by kernel_rfl) (fun _ _ _ h => h) (Or.inl ⟨by rfl, ?hy1⟩) (by assumption) ?_
          case hy1 => (intro w hSw; go_simp <;> (try with_reducible rfl))
          simp only [Act.put, List.setIfInBounds_toArray, List.set_cons_zero, List.set_cons_succ, List.getElem_toArray, List.getElem_cons_succ, List.getElem_cons_zero]
          refine wpAnyH_take (i := 2) (v := ?v2) rfl (by kernel_rfl) (by kernel_rfl) (by kernel_rfl) (fun _ _ _ h => h) (Or.inl ⟨by rfl, ?hy2⟩) (by assumption) ?_
          case hy2 => (intro w hSw; go_simp <;> (try with_reducible rfl))
          simp only [Act.put, List.setIfInBounds_toArray, List.set_cons_zero, List.set_cons_succ, List.getElem_toArray, List.getElem_cons_succ, List.getElem_cons_zero]
          refine wpAnyH_ready (rs := [0, 3]) (by kernel_rfl) (by simp) ?_
          refine AllReadyH.cons rfl (fun K hK => ?_) (AllReadyH.cons rfl (fun K hK => ?_) AllReadyH.nil)
          · go_simp
            refine hK.out _ _ trivial (fun hHeld => ?_)
            clear hK K
            refine wpAnyH_ready (rs := [3]) (by kernel_rfl) (by simp) ?_
            refine AllReadyH.cons rfl (fun K hK => ?_) AllReadyH.nil
            have HK := hid hK
            clear hK
            go_simp
            refine (HCq.out _ (hid (S2.out.on (Below.refl _ _).drew))).mono ?_
            rintro e5 w5 ⟨rfl, s5, b5⟩
            have S5 := hid s5
            have B5 := hid ((hB.out.trans (But.of (Below.refl _ _).drew)).trans b5)
            clear s5 b5 HK
            unfold gaveUp
            go_wp2_with fail
            refine ⟨rfl, ?_⟩
            rw [HE.out]
            exact ⟨rfl, S5.out, B5.out⟩
          · have HK := hid hK
            clear hK
            go_simp
            refine (HCq.out _ (hid (S2.out.on (Below.refl _ _).drew))).mono ?_
            rintro e5 w5 ⟨rfl, s5, b5⟩
            have S5 := hid s5
            have B5 := hid ((hB.out.trans (But.of (Below.refl _ _).drew)).trans b5)
            clear s5 b5 HK
            unfold gaveUp
            go_wp2_with fail
            refine ⟨rfl, ?_⟩
            rw [HE.out]
            exact ⟨rfl, S5.out, B5.out⟩
        | ok x2 c2 m' =>
          rw [hqq] at HE HCq HMq
          rw [PR.bind_ok] at HE
          have hm2 : m'.length + 1 ≤ q.length := by
            obtain ⟨_, pre, u, e, _⟩ := HMq.out
            rw [e]; simp
          clear HMq
          obtain ⟨r0, r1, r2, r3, r4, r5, r6⟩ := cells7 hG.out
          go_wp2_with fail
          refine wp_region_held_drew (S := fun _ => True) (by kernel_rfl) trivial (fun hHeld => ?_)
          refine wpAnyH_take (i := 1) (v := ?v1) rfl (by kernel_rfl) (by kernel_rfl) (by kernel_rfl) (fun _ _ _ h => h) (Or.inl ⟨by rfl, ?hy1⟩) (by assumption) ?_
          case hy1 => (intro w hSw; go_simp <;> (try with_reducible rfl))
          simp only [Act.put, List.setIfInBounds_toArray, List.set_cons_zero, List.set_cons_succ, List.getElem_toArray, List.getElem_cons_succ, List.getElem_cons_zero]
          refine wpAnyH_take (i := 2) (v := ?v2) rfl (by kernel_rfl) (by kernel_rfl) (by kernel_rfl) (fun _ _ _ h => h) (Or.inl ⟨by rfl, ?hy2⟩) (by assumption) ?_
          case hy2 => (intro w hSw; go_simp <;> (try with_reducible rfl))
          simp only [Act.put, List.setIfInBounds_toArray, List.set_cons_zero, List.set_cons_succ, List.getElem_toArray, List.getElem_cons_succ, List.getElem_cons_zero]
          refine wpAnyH_ready (rs := [0, 3]) (by kernel_rfl) (by simp) ?_
          refine AllReadyH.cons rfl (fun K hK => ?_) (AllReadyH.cons rfl (fun K hK => ?_) AllReadyH.nil)
          · go_simp
            refine hK.out _ _ trivial (fun hHeld => ?_)
            clear hK K
            refine wpAnyH_ready (rs := [3]) (by kernel_rfl) (by simp) ?_
            refine AllReadyH.cons rfl (fun K hK => ?_) AllReadyH.nil
            have HK := hid hK
            clear hK
            go_simp
            refine (HCq.out _ (hid (S2.out.on (Below.refl _ _).drew))).mono ?_
            rintro e3 w3 ⟨⟨nv3, kv3, rfl, n3⟩, s3, b3⟩
            obtain ⟨f1, g1, f2, g2, rfl, rfl⟩ := ndR_shape n3
            have DR := (Below.refl wr.heap.size wr).drew
            have S3 := hid s3
            have B3 := hid ((hB.out.trans (But.of DR)).trans b3)
            have Z3 := hid (blk_but (blk_on hZ.out DR) b3 (by omega))
            have G3 := hid (blk_but (blk_on hG.out DR) b3 (by omega))
            have N3 := hid (ndO_aft (aftO_but b3 (by omega)) (ndO_aft (aftO_below DR) hN.out))
            have M3 := hid (ndO_of (ok := fun b => w.heap.size + 1 ≤ b ∧ b ≠ w1.heap.size) n3 (fun b h1 h2 => by simp at h1; omega))
            have hz3 := b3.size
            have hl3 : ∀ b, w3.heap.size ≤ b → w.heap.size + 1 ≤ b ∧ b ≠ w1.heap.size := by intro b hb; simp at hz3; omega
            clear s3 b3 n3 DR
            unfold ndv
            simp only
            refine HK.out.out _ _ trivial (fun hHeld => ?_)
            clear HK K
            refine wpAnyH_ready (rs := [4]) (by kernel_rfl) (by simp) ?_
            refine AllReadyH.cons rfl (fun K hK => ?_) AllReadyH.nil
            have HK := hid hK
            clear hK
            go_simp
            refine (join_sign oo ho1 ho2 sx HSX.out P _ e x2 _ _ _ _ _ (hid S3.out.sg) hl3 (hid N3.out) (hid M3.out)).mono ?_
            rintro e4 w4 ⟨⟨nv4, kv4, rfl, n4⟩, b4⟩
            obtain ⟨c1, d1, c3, d3, rfl, rfl⟩ := ndO_shape n4
            have S4 := hid (S3.out.on b4)
            have B4 := hid (B3.out.trans (But.of b4))
            have Z4 := hid (blk_on Z3.out b4)
            have G4 := hid (blk_on G3.out b4)
            have N4 := hid n4
            have hg4 := blk_lt G4.out
            obtain ⟨s0, s1, s2, s3, s4, s5, s6⟩ := cells7 G4.out
            obtain ⟨u0, u1, u2, u3, u4, u5, u6⟩ := frees7 G4.out
            clear b4 n4 S3 B3 Z3 G3 N3 M3
            unfold ndv
            simp only
            refine HK.out.out _ _ trivial (fun hHeld => ?_)
            clear HK K
            refine wpAnyH_ready (rs := [5]) (by kernel_rfl) (by simp) ?_
            refine AllReadyH.cons rfl (fun K hK => ?_) AllReadyH.nil
            have HK := hid hK
            clear hK
            go_simp
            refine HK.out.out _ _ trivial (fun hHeld => ?_)
            clear HK K
            refine wpAnyH_done (by kernel_rfl) ?_ _
            have F := fin_put hP (by omega) S4.out B4.out G4.out (.int .i64 (ndO 10 oo [e, x2]).kind) (.int .i64 (ndO 10 oo [e, x2]).op) (.int .i64 (ndO 10 oo [e, x2]).num) (.string (ndO 10 oo [e, x2]).str) (.slice c1 (ndO 10 oo [e, x2]).names.length d1) (.slice c3 (ndO 10 oo [e, x2]).kids.length d3) (.int .i64 (ndO 10 oo [e, x2]).pl)
            have Z5 := hid (blk_put7 (g := w1.heap.size) Z4.out (by omega) (.int .i64 (ndO 10 oo [e, x2]).kind) (.int .i64 (ndO 10 oo [e, x2]).op) (.int .i64 (ndO 10 oo [e, x2]).num) (.string (ndO 10 oo [e, x2]).str) (.slice c1 (ndO 10 oo [e, x2]).names.length d1) (.slice c3 (ndO 10 oo [e, x2]).kids.length d3) (.int .i64 (ndO 10 oo [e, x2]).pl))
            have N5 := hid (ndO_aft (put7_aftO (g := w1.heap.size) w4 (by simp) (.int .i64 (ndO 10 oo [e, x2]).kind) (.int .i64 (ndO 10 oo [e, x2]).op) (.int .i64 (ndO 10 oo [e, x2]).num) (.string (ndO 10 oo [e, x2]).str) (.slice c1 (ndO 10 oo [e, x2]).names.length d1) (.slice c3 (ndO 10 oo [e, x2]).kids.length d3) (.int .i64 (ndO 10 oo [e, x2]).pl)) N4.out)
            have G5 := hid F.1
            have S5 := hid F.2.1
            have B5 := hid F.2.2
            have V5 := hid (words_on HV.out F.2.2 hlo)
            have hz5 := F.2.2.size
            clear F S4 B4 Z4 G4 N4 s0 s1 s2 s3 s4 s5 s6 u0 u1 u2 u3 u4 u5 u6 hHeld r0 r1 r2 r3 r4 r5 r6
            unfold put7w at Z5 N5 G5 S5 B5 V5 hz5
            obtain ⟨w5, hw5⟩ : ∃ w5, (((((((w4.setCell ⟨w1.heap.size, 0, none⟩ (.int .i64 (ndO 10 oo [e, x2]).kind)).setCell ⟨w1.heap.size, 1, none⟩ (.int .i64 (ndO 10 oo [e, x2]).op)).setCell ⟨w1.heap.size, 2, none⟩ (.int .i64 (ndO 10 oo [e, x2]).num)).setCell ⟨w1.heap.size, 3, none⟩ (.string (ndO 10 oo [e, x2]).str)).setCell ⟨w1.heap.size, 4, none⟩ (.slice c1 (ndO 10 oo [e, x2]).names.length d1)).setCell ⟨w1.heap.size, 5, none⟩ (.slice c3 (ndO 10 oo [e, x2]).kids.length d3)).setCell ⟨w1.heap.size, 6, none⟩ (.int .i64 (ndO 10 oo [e, x2]).pl)) = w5 := ⟨_, rfl⟩
            rw [hw5] at Z5 N5 G5 S5 B5 V5 hz5 ⊢
            clear hw5 hg4
            go_wp2_with fail
            refine (takeone_bt 4 (by decide) P L m' w.heap.size sv _ hz5 S5 V5).mono ?_
            rintro e6 w6 ⟨sv6, rfl, hbt, b6⟩
            have BT6 := hid hbt
            have B6 := hid (B5.out.trans b6)
            have Z6 := hid (blk_but Z5.out b6 (by omega))
            have G6 := hid (blk_but G5.out b6 (by omega))
            have N6 := hid (ndO_aft (aftO_but b6 (by omega)) N5.out)
            have HLE := hid (show leftAt P L w6 < leftAt P L wr by
              have h1 := left_is S2.out
              have h2 : leftAt P L w6 ≤ m'.length := by
                rcases hbt with ⟨_, _, h⟩ | ⟨_, _, _, _, _, e, _, _, _, _, _, h⟩
                · exact Nat.le_of_eq (left_is h)
                · rw [left_is h, e]; simp
              omega)
            clear hbt b6 S5 B5 Z5 G5 N5 V5 S2 hB hZ hG hN
            go_wp2_with fail
            go_roundw
            case rel => exact ⟨g, _, false, m', _, _, HE.out, by simp at hgm; omega, by omega, B6.out, Z6.out, G6.out, N6.out, BT6.out⟩
            case measure => exact HLE.out
          · have HK := hid hK
            clear hK
            go_simp
            refine (HCq.out _ (hid (S2.out.on (Below.refl _ _).drew))).mono ?_
            rintro e3 w3 ⟨⟨nv3, kv3, rfl, n3⟩, s3, b3⟩
            obtain ⟨f1, g1, f2, g2, rfl, rfl⟩ := ndR_shape n3
            have DR := (Below.refl wr.heap.size wr).drew
            have S3 := hid s3
            have B3 := hid ((hB.out.trans (But.of DR)).trans b3)
            have Z3 := hid (blk_but (blk_on hZ.out DR) b3 (by omega))
            have G3 := hid (blk_but (blk_on hG.out DR) b3 (by omega))
            have N3 := hid (ndO_aft (aftO_but b3 (by omega)) (ndO_aft (aftO_below DR) hN.out))
            have M3 := hid (ndO_of (ok := fun b => w.heap.size + 1 ≤ b ∧ b ≠ w1.heap.size) n3 (fun b h1 h2 => by simp at h1; omega))
            have hz3 := b3.size
            have hl3 : ∀ b, w3.heap.size ≤ b → w.heap.size + 1 ≤ b ∧ b ≠ w1.heap.size := by intro b hb; simp at hz3; omega
            clear s3 b3 n3 DR
            unfold ndv
            simp only
            refine HK.out.out _ _ trivial (fun hHeld => ?_)
            clear HK K
            obtain ⟨t0, t1, t2, t3, t4, t5, t6⟩ := cells7 G3.out
            refine wpAnyH_ready (rs := [0]) (by kernel_rfl) (by simp) ?_
            refine AllReadyH.cons rfl (fun K hK => ?_) AllReadyH.nil
            have HK := hid hK
            clear hK
            go_simp
            refine HK.out.out _ _ trivial (fun hHeld => ?_)
            clear HK K t0 t1 t2 t3 t4 t5 t6
            refine wpAnyH_ready (rs := [4]) (by kernel_rfl) (by simp) ?_
            refine AllReadyH.cons rfl (fun K hK => ?_) AllReadyH.nil
            have HK := hid hK
            clear hK
            go_simp
            refine (join_sign oo ho1 ho2 sx HSX.out P _ e x2 _ _ _ _ _ (hid S3.out.sg) hl3 (hid N3.out) (hid M3.out)).mono ?_
            rintro e4 w4 ⟨⟨nv4, kv4, rfl, n4⟩, b4⟩
            obtain ⟨c1, d1, c3, d3, rfl, rfl⟩ := ndO_shape n4
            have S4 := hid (S3.out.on b4)
            have B4 := hid (B3.out.trans (But.of b4))
            have Z4 := hid (blk_on Z3.out b4)
            have G4 := hid (blk_on G3.out b4)
            have N4 := hid n4
            have hg4 := blk_lt G4.out
            obtain ⟨s0, s1, s2, s3, s4, s5, s6⟩ := cells7 G4.out
            obtain ⟨u0, u1, u2, u3, u4, u5, u6⟩ := frees7 G4.out
            clear b4 n4 S3 B3 Z3 G3 N3 M3
            unfold ndv
            simp only
            refine HK.out.out _ _ trivial (fun hHeld => ?_)
            clear HK K
            refine wpAnyH_ready (rs := [5]) (by kernel_rfl) (by simp) ?_
            refine AllReadyH.cons rfl (fun K hK => ?_) AllReadyH.nil
            have HK := hid hK
            clear hK
            go_simp
            refine HK.out.out _ _ trivial (fun hHeld => ?_)
            clear HK K
            refine wpAnyH_done (by kernel_rfl) ?_ _
            have F := fin_put hP (by omega) S4.out B4.out G4.out (.int .i64 (ndO 10 oo [e, x2]).kind) (.int .i64 (ndO 10 oo [e, x2]).op) (.int .i64 (ndO 10 oo [e, x2]).num) (.string (ndO 10 oo [e, x2]).str) (.slice c1 (ndO 10 oo [e, x2]).names.length d1) (.slice c3 (ndO 10 oo [e, x2]).kids.length d3) (.int .i64 (ndO 10 oo [e, x2]).pl)
            have Z5 := hid (blk_put7 (g := w1.heap.size) Z4.out (by omega) (.int .i64 (ndO 10 oo [e, x2]).kind) (.int .i64 (ndO 10 oo [e, x2]).op) (.int .i64 (ndO 10 oo [e, x2]).num) (.string (ndO 10 oo [e, x2]).str) (.slice c1 (ndO 10 oo [e, x2]).names.length d1) (.slice c3 (ndO 10 oo [e, x2]).kids.length d3) (.int .i64 (ndO 10 oo [e, x2]).pl))
            have N5 := hid (ndO_aft (put7_aftO (g := w1.heap.size) w4 (by simp) (.int .i64 (ndO 10 oo [e, x2]).kind) (.int .i64 (ndO 10 oo [e, x2]).op) (.int .i64 (ndO 10 oo [e, x2]).num) (.string (ndO 10 oo [e, x2]).str) (.slice c1 (ndO 10 oo [e, x2]).names.length d1) (.slice c3 (ndO 10 oo [e, x2]).kids.length d3) (.int .i64 (ndO 10 oo [e, x2]).pl)) N4.out)
            have G5 := hid F.1
            have S5 := hid F.2.1
            have B5 := hid F.2.2
            have V5 := hid (words_on HV.out F.2.2 hlo)
            have hz5 := F.2.2.size
            clear F S4 B4 Z4 G4 N4 s0 s1 s2 s3 s4 s5 s6 u0 u1 u2 u3 u4 u5 u6 hHeld r0 r1 r2 r3 r4 r5 r6
            unfold put7w at Z5 N5 G5 S5 B5 V5 hz5
            obtain ⟨w5, hw5⟩ : ∃ w5, (((((((w4.setCell ⟨w1.heap.size, 0, none⟩ (.int .i64 (ndO 10 oo [e, x2]).kind)).setCell ⟨w1.heap.size, 1, none⟩ (.int .i64 (ndO 10 oo [e, x2]).op)).setCell ⟨w1.heap.size, 2, none⟩ (.int .i64 (ndO 10 oo [e, x2]).num)).setCell ⟨w1.heap.size, 3, none⟩ (.string (ndO 10 oo [e, x2]).str)).setCell ⟨w1.heap.size, 4, none⟩ (.slice c1 (ndO 10 oo [e, x2]).names.length d1)).setCell ⟨w1.heap.size, 5, none⟩ (.slice c3 (ndO 10 oo [e, x2]).kids.length d3)).setCell ⟨w1.heap.size, 6, none⟩ (.int .i64 (ndO 10 oo [e, x2]).pl)) = w5 := ⟨_, rfl⟩
            rw [hw5] at Z5 N5 G5 S5 B5 V5 hz5 ⊢
            clear hw5 hg4
            go_wp2_with fail
            refine (takeone_bt 4 (by decide) P L m' w.heap.size sv _ hz5 S5 V5).mono ?_
            rintro e6 w6 ⟨sv6, rfl, hbt, b6⟩
            have BT6 := hid hbt
            have B6 := hid (B5.out.trans b6)
            have Z6 := hid (blk_but Z5.out b6 (by omega))
            have G6 := hid (blk_but G5.out b6 (by omega))
            have N6 := hid (ndO_aft (aftO_but b6 (by omega)) N5.out)
            have HLE := hid (show leftAt P L w6 < leftAt P L wr by
              have h1 := left_is S2.out
              have h2 : leftAt P L w6 ≤ m'.length := by
                rcases hbt with ⟨_, _, h⟩ | ⟨_, _, _, _, _, e, _, _, _, _, _, h⟩
                · exact Nat.le_of_eq (left_is h)
                · rw [left_is h, e]; simp
              omega)
            clear hbt b6 S5 B5 Z5 G5 N5 V5 S2 hB hZ hG hN
            go_wp2_with fail
            go_roundw
            case rel => exact ⟨g, _, false, m', _, _, HE.out, by simp at hgm; omega, by omega, B6.out, Z6.out, G6.out, N6.out, BT6.out⟩
            case measure => exact HLE.out

set_option maxHeartbeats 3200000 in
theorem rank_4 (f : Nat) (hR : ∀ g, g ≤ f → RankC g) (P : Nat) (L l : List Tok) (w : World) (hf : 20 * l.length + (10 - 4) ≤ f) (H : Hid (PSt P L w l)) :
    Calls Tryd.prog 75 #[.pointer (some ⟨P, 0, none⟩)] w (Reads P L w ((pRank f (4 + 1) l).bind fun e b l => pMore f 4 e b l)) := by
  have hP := H.out.lt
  have A1 := (Below.refl _ w).alloc (Nat.le_refl _) (.cells znd 26)
  have A2 := (Below.refl _ (w.alloc (.cells znd 26))).alloc (Nat.le_refl _) (.cells #[.string ⟨#[60]⟩, .string ⟨#[60, 61]⟩, .string ⟨#[62]⟩, .string ⟨#[62, 61]⟩] 9)
  have A := hid (below_on A1 A2)
  have S0 := hid (H.out.on A.out)
  have G0 := hid (blk_on (blk_new w 26 znd) A2)
  have V0 := hid (show StR (w.heap.size + 1) ((w.alloc (.cells znd 26)).alloc (.cells #[.string ⟨#[60]⟩, .string ⟨#[60, 61]⟩, .string ⟨#[62]⟩, .string ⟨#[62, 61]⟩] 9)) (.slice (some ⟨w.heap.size + 1, 0, none⟩) 4 4) [⟨#[60]⟩, ⟨#[60, 61]⟩, ⟨#[62]⟩, ⟨#[62, 61]⟩] from by
    have hb := blk_new (w.alloc (.cells znd 26)) 9 #[.string ⟨#[60]⟩, .string ⟨#[60, 61]⟩, .string ⟨#[62]⟩, .string ⟨#[62, 61]⟩]
    simp only [World.size_alloc] at hb
    refine .inr ⟨w.heap.size + 1, 0, 4, rfl, ⟨Nat.le_refl _, by simp⟩, fun i hi => ?_, Nat.le_refl _⟩
    rw [blk_cell hb]
    simp only [List.length_cons, List.length_nil] at hi
    rcases (show i = 0 ∨ i = 1 ∨ i = 2 ∨ i = 3 by omega) with rfl | rfl | rfl | rfl <;> rfl)
  have HC := hid (fun w' S V => between_4 f hR (w.heap.size + 1) P L l (.slice (some ⟨w.heap.size + 1, 0, none⟩) 4 4) w' hf (by omega) S V)
  unfold znd at *
  clear H hR A1 A2
  cases hq : (pRank f (4 + 1) l).bind fun e b l => pMore f 4 e b l with
  | bad l' =>
    simp only [hq] at HC
    go_enter Tryd.func75, Tryd.ntmps75
    go_wp2_with fail
    refine (HC.out _ S0 V0).mono ?_
    rintro e w2 ⟨rfl, s2, b2⟩
    have S2 := hid s2
    have B2 := hid ((But.of A.out).trans b2)
    clear s2 b2 S0 A G0 HC V0
    unfold gaveUp
    go_wp2_with fail
    exact ⟨rfl, rfl, S2.out, B2.out⟩
  | ok x b l' =>
    simp only [hq] at HC
    go_enter Tryd.func75, Tryd.ntmps75
    go_wp2_with fail
    refine (HC.out _ S0 V0).mono ?_
    rintro e w2 ⟨⟨nv, kv, rfl, n2⟩, s2, b2⟩
    obtain ⟨a1, q1, a2, q2, rfl, rfl⟩ := ndR_shape n2
    have S3 := hid s2
    have N3 := hid (ndR_low (lo' := w.heap.size + 1) (by simp) n2)
    have B3 := hid ((But.of A.out).trans b2)
    have G3 := hid (blk_but G0.out b2 (by omega))
    have hg3 := blk_lt G3.out
    obtain ⟨r0, r1, r2, r3, r4, r5, r6⟩ := cells7 G3.out
    obtain ⟨u0, u1, u2, u3, u4, u5, u6⟩ := frees7 G3.out
    clear s2 b2 S0 A G0 HC n2 V0
    unfold ndv
    go_wp2_with fail
    have Z := fin_put hP (Nat.le_refl _) S3.out B3.out G3.out (.int .i64 x.kind) (.int .i64 x.op) (.int .i64 x.num) (.string x.str) (.slice a1 x.names.length q1) (.slice a2 x.kids.length q2) (.int .i64 x.pl)
    exact bodyPost_ret (ret_nd rfl rfl Z.1) rfl ⟨⟨_, _, rfl, ndR_low (Nat.le_succ _) (ndR_aft (put7_aft w2 (Nat.lt_succ_self _) _ _ _ _ _ _ _) N3.out)⟩, Z.2.1, Z.2.2⟩

end Go.Proofs.YtijbiedblahmhaaDoor

namespace Go.Proofs.YtijbiedblahmhaaDoor
open Go.RowKit

set_option linter.unusedSimpArgs false in
set_option maxHeartbeats 6400000 in
theorem between_5 (f : Nat) (hR : ∀ g, g ≤ f → RankC g) (lo P : Nat) (L l : List Tok) (sv : Value) (w : World) (hf : 20 * l.length + (10 - 5) ≤ f) (hlo : P < lo) (H : Hid (PSt P L w l)) (HV : Hid (StR lo w sv [⟨#[43]⟩, ⟨#[45]⟩])) :
    Calls Tryd.prog 54 #[.pointer (some ⟨P, 0, none⟩), .func (.func 92) #[.pointer (some ⟨P, 0, none⟩)] #[], sv] w (Reads P L w ((pRank f (5 + 1) l).bind fun e b l => pMore f 5 e b l)) := by
  have A := hid ((Below.refl _ w).alloc (Nat.le_refl _) (.cells znd 26))
  have S0 := hid (H.out.on A.out)
  have G0 := hid (blk_new w 26 znd)
  have hP := H.out.lt
  have HC := hid (show ∀ w', Hid (PSt P L w' l) → Calls Tryd.prog 92 #[.pointer (some ⟨P, 0, none⟩)] w' (Reads P L w' (pRank f (5 + 1) l)) from fun w' S => hR f (Nat.le_refl _) (5 + 1) P L l w' (by omega) (by omega) (by omega) S)
  have HM := hid ((may f).rank (5 + 1) l (pst_gt H.out))
  have HR := hid (show ∀ g, g ≤ f → ∀ (q : List Tok) (w' : World), 20 * q.length + (10 - 5) ≤ g → Hid (PSt P L w' q) → Calls Tryd.prog 92 #[.pointer (some ⟨P, 0, none⟩)] w' (Reads P L w' (pRank g (5 + 1) q)) from fun g hg q w' hq S => hR g hg (5 + 1) P L q w' (by omega) (by omega) (by omega) S)
  unfold znd at *
  clear H hR
  cases hq : pRank f (5 + 1) l with
  | bad l' =>
    rw [hq] at HC
    rw [PR.bind_bad]
    clear HM HR
    go_enter Tryd.func54, Tryd.ntmps54
    go_wp2_with fail
    refine (HC.out _ S0).mono ?_
    rintro e w2 ⟨rfl, s2, b2⟩
    have S2 := hid s2
    have B2 := hid ((But.of A.out).trans b2)
    clear s2 b2 S0 A G0 HC
    unfold gaveUp
    go_wp2_with fail
    exact ⟨rfl, rfl, S2.out, B2.out⟩
  | ok x b l' =>
    rw [hq] at HC HM
    rw [PR.bind_ok]
    have hm : l'.length + 1 ≤ l.length := by
      obtain ⟨_, pre, u, e, _⟩ := HM.out
      rw [e]; simp
    clear HM
    go_enter Tryd.func54, Tryd.ntmps54
    go_wp2_with fail
    refine (HC.out _ S0).mono ?_
    rintro e1 w1 ⟨⟨nv, kv, rfl, n1⟩, s1, b1⟩
    obtain ⟨a1, q1, a2, q2, rfl, rfl⟩ := ndR_shape n1
    have hsz1 := b1.size
    simp only [World.size_alloc] at hsz1
    have AA := (Below.refl _ w1).alloc (Nat.le_refl _) (.cells (ndc x (.slice a1 x.names.length q1) (.slice a2 x.kids.length q2)) 26)
    have S1 := hid (s1.on AA)
    have B1 := hid (((But.of A.out).trans b1).trans (But.of AA))
    have Z1 := hid (blk_on (blk_but G0.out b1 (by omega)) AA)
    have G1 := hid (blk_new w1 26 (ndc x (.slice a1 x.names.length q1) (.slice a2 x.kids.length q2)))
    have N1 := hid (ndO_aft (aftO_below AA) (ndO_of (ok := fun b => w.heap.size + 1 ≤ b ∧ b ≠ w1.heap.size) n1 (fun b h1 h2 => ⟨by simpa using h1, by omega⟩)))
    clear b1 s1 n1 AA S0 A G0 HC hq
    unfold ndv
    unfold ndc at *
    have V1 := hid (words_on HV.out B1.out hlo)
    have hl1 : w.heap.size + 1 ≤ w1.heap.size := hsz1
    go_wp2_with fail
    refine (takeone_bt 5 (by decide) P L l' w.heap.size sv _ (by simp; omega) S1 V1).mono ?_
    rintro e3 w3 ⟨sv0, rfl, hbt, b3⟩
    have BT := hid hbt
    have B3 := hid (B1.out.trans b3)
    have Z3 := hid (blk_but Z1.out b3 (by omega))
    have G3 := hid (blk_but G1.out b3 (by omega))
    have N3 := hid (ndO_aft (aftO_but b3 (by omega)) N1.out)
    clear hbt b3 S1 B1 Z1 G1 N1 V1
    go_wp2_with fail
    go_loopw [8] (fun s wr => ∃ (g : Nat) (e : Nd) (c : Bool) (m : List Tok) (nv kv : Value), Hid (pMore f 5 x b l' = pMore g 5 e c m) ∧ 20 * m.length + 5 ≤ g ∧ g ≤ f ∧ Hid (But P w wr) ∧ Hid (Blk w.heap.size 26 znd wr) ∧ Hid (Blk w1.heap.size 26 (ndc e nv kv) wr) ∧ Hid (NdO (fun b => w.heap.size + 1 ≤ b ∧ b ≠ w1.heap.size) wr e nv kv) ∧ Hid (BtS P L 5 m s wr)) (fun _ wr => leftAt P L wr)
    case atStart => exact ⟨f, x, b, l', _, _, (show Hid (_ = _) from rfl), by omega, Nat.le_refl _, B3.out, Z3.out, G3.out, N3.out, BT.out⟩
    case round =>
      obtain ⟨g, e, c, m, nv, kv, hpe, hgm, hgf, hB, hZ, hG, hN, hS⟩ := hrel
      clear B3 Z3 G3 N3 BT
      obtain ⟨g, rfl⟩ : ∃ g', g = g' + 1 := ⟨g - 1, by omega⟩
      obtain ⟨b1, p1, b2, p2, rfl, rfl⟩ := ndO_shape hN.out
      have hg0 := blk_lt hZ.out
      have hg1 := blk_lt hG.out
      unfold znd ndc at *
      rcases hS.out with ⟨rfl, hsn, hst⟩ | ⟨t, q, k, o, sx, rfl, rfl, hst, hrt, hsn, hin, hpq⟩
      · have HE := hid (hpe.out.trans (show pMore (g + 1) 5 e c m = .ok e c m by rw [pMore, hsn]))
        have S4 := hid hst
        obtain ⟨r0, r1, r2, r3, r4, r5, r6⟩ := cells7 hG.out
        obtain ⟨z0, z1, z2, z3, z4, z5, z6⟩ := cells7 hZ.out
        obtain ⟨u0, u1, u2, u3, u4, u5, u6⟩ := frees7 hZ.out
        clear hpe hsn hst hS HR
        go_wp2_with fail
        have Z := fin_put hP (Nat.le_refl _) S4.out hB.out hZ.out (.int .i64 e.kind) (.int .i64 e.op) (.int .i64 e.num) (.string e.str) (.slice b1 e.names.length p1) (.slice b2 e.kids.length p2) (.int .i64 e.pl)
        refine bodyPost_ret (ret_nd rfl rfl Z.1) rfl ?_
        rw [HE.out]
        exact ⟨⟨_, _, rfl, ndR_of (ndO_aft (put7_aftO _ (by omega) _ _ _ _ _ _ _) hN.out) (fun b h => by omega)⟩, Z.2.1, Z.2.2⟩
      · have hxe := isT_ne hst hrt
        obtain ⟨oo, ho1, ho2, rfl, rfl, hsx⟩ : ∃ oo : Nat, 1 ≤ oo ∧ oo ≤ 11 ∧ k = 10 ∧ o = (oo : Int) ∧ sx.data.toList = signT (oo : Int) := by
          simp [sgR] at hin
          rcases hin with ⟨h1, rfl, rfl⟩ | ⟨h1, rfl, rfl⟩
          · exact ⟨1, by omega, by omega, rfl, rfl, h1⟩
          · exact ⟨2, by omega, by omega, rfl, rfl, h1⟩
        have HSX := hid hsx
        clear hsx
        have HE := hid (hpe.out.trans (show pMore (g + 1) 5 e c (t :: q) = (pRank g (5 + 1) q).bind fun e' _ l => pMore g 5 (ndO 10 oo [e, e']) false l by rw [pMore, hsn]; rfl))
        have HMq := hid ((may g).rank (5 + 1) q (pst_gt hpq))
        have HCq := hid (fun w' S => HR.out g (by omega) q w' (by simp at hgm; omega) S)
        have S2 := hid hpq
        clear hpe hsn hst hrt hS HR hin hpq
        cases hqq : pRank g (5 + 1) q with
        | bad m' =>
          rw [hqq] at HE HCq
          rw [PR.bind_bad] at HE
          obtain ⟨r0, r1, r2, r3, r4, r5, r6⟩ := cells7 hG.out
          go_wp2_with fail
          refine wp_region_held_drew (S := fun _ => True) (by kernel_rfl) trivial (fun hHeld => ?_)
          refine wpAnyH_take (i := 1) (v := ?v1) rfl (by kernel_rfl) (by kernel_rfl) (by kernel_rfl) (fun _ _ _ h => h) (Or.inl ⟨by rfl, ?hy1⟩) (by assumption) ?_
          case hy1 => (intro w hSw; go_simp <;> (try with_reducible rfl))
          simp only [Act.put, List.setIfInBounds_toArray, List.set_cons_zero, List.set_cons_succ, List.getElem_toArray, List.getElem_cons_succ, List.getElem_cons_zero]
          refine wpAnyH_take (i := 2) (v := ?v2) rfl (by kernel_rfl) (by kernel_rfl) (by kernel_rfl) (fun _ _ _ h => h) (Or.inl ⟨by rfl, ?hy2⟩) (by assumption) ?_
          case hy2 => (intro w hSw; go_simp <;> (try with_reducible rfl))
          simp only [Act.put, List.setIfInBounds_toArray, List.set_cons_zero, List.set_cons_succ, List.getElem_toArray, List.getElem_cons_succ, List.getElem_cons_zero]
          refine wpAnyH_ready (rs := [0, 3]) (by kernel_rfl) (by simp) ?_
          refine AllReadyH.cons rfl (fun K hK => ?_) (AllReadyH.cons rfl (fun K hK => ?_) AllReadyH.nil)
          · go_simp
            refine hK.out _ _ trivial (fun hHeld => ?_)
            clear hK K
            refine wpAnyH_ready (rs := [3]) (by kernel_rfl) (by simp) ?_
            refine AllReadyH.cons rfl (fun K hK => ?_) AllReadyH.nil
            have HK := hid hK
            clear hK
            go_simp
            refine (HCq.out _ (hid (S2.out.on (Below.refl _ _).drew))).mono ?_
            rintro e5 w5 ⟨rfl, s5, b5⟩
            have S5 := hid s5
            have B5 := hid ((hB.out.trans (But.of (Below.refl _ _).drew)).trans b5)
            clear s5 b5 HK
            unfold gaveUp
            go_wp2_with fail
            refine ⟨rfl, ?_⟩
            rw [HE.out]
            exact ⟨rfl, S5.out, B5.out⟩
          · have HK := hid hK
            clear hK
            go_simp
            refine (HCq.out _ (hid (S2.out.on (Below.refl _ _).drew))).mono ?_
            rintro e5 w5 ⟨rfl, s5, b5⟩
            have S5 := hid s5
            have B5 := hid ((hB.out.trans (But.of (Below.refl _ _).drew)).trans b5)
            clear s5 b5 HK
            unfold gaveUp
            go_wp2_with fail
            refine ⟨rfl, ?_⟩
            rw [HE.out]
            exact ⟨rfl, S5.out, B5.out⟩
        | ok x2 c2 m' =>
          rw [hqq] at HE HCq HMq
          rw [PR.bind_ok] at HE
          have hm2 : m'.length + 1 ≤ q.length := by
            obtain ⟨_, pre, u, e, _⟩ := HMq.out
            rw [e]; simp
          clear HMq
          obtain ⟨r0, r1, r2, r3, r4, r5, r6⟩ := cells7 hG.out
          go_wp2_with fail
          refine wp_region_held_drew (S := fun _ => True) (by kernel_rfl) trivial (fun hHeld => ?_)
          refine wpAnyH_take (i := 1) (v := ?v1) rfl (by kernel_rfl) (by kernel_rfl) (by kernel_rfl) (fun _ _ _ h => h) (Or.inl ⟨by rfl, ?hy1⟩) (by assumption) ?_
          case hy1 => (intro w hSw; go_simp <;> (try with_reducible rfl))
          simp only [Act.put, List.setIfInBounds_toArray, List.set_cons_zero, List.set_cons_succ, List.getElem_toArray, List.getElem_cons_succ, List.getElem_cons_zero]
          refine wpAnyH_take (i := 2) (v := ?v2) rfl (by kernel_rfl) (by kernel_rfl) (by kernel_rfl) (fun _ _ _ h => h) (Or.inl ⟨by rfl, ?hy2⟩) (by assumption) ?_
          case hy2 => (intro w hSw; go_simp <;> (try with_reducible rfl))
          simp only [Act.put, List.setIfInBounds_toArray, List.set_cons_zero, List.set_cons_succ, List.getElem_toArray, List.getElem_cons_succ, List.getElem_cons_zero]
          refine wpAnyH_ready (rs := [0, 3]) (by kernel_rfl) (by simp) ?_
          refine AllReadyH.cons rfl (fun K hK => ?_) (AllReadyH.cons rfl (fun K hK => ?_) AllReadyH.nil)
          · go_simp
            refine hK.out _ _ trivial (fun hHeld => ?_)
            clear hK K
            refine wpAnyH_ready (rs := [3]) (by kernel_rfl) (by simp) ?_
            refine AllReadyH.cons rfl (fun K hK => ?_) AllReadyH.nil
            have HK := hid hK
            clear hK
            go_simp
            refine (HCq.out _ (hid (S2.out.on (Below.refl _ _).drew))).mono ?_
            rintro e3 w3 ⟨⟨nv3, kv3, rfl, n3⟩, s3, b3⟩
            obtain ⟨f1, g1, f2, g2, rfl, rfl⟩ := ndR_shape n3
            have DR := (Below.refl wr.heap.size wr).drew
            have S3 := hid s3
            have B3 := hid ((hB.out.trans (But.of DR)).trans b3)
            have Z3 := hid (blk_but (blk_on hZ.out DR) b3 (by omega))
            have G3 := hid (blk_but (blk_on hG.out DR) b3 (by omega))
            have N3 := hid (ndO_aft (aftO_but b3 (by omega)) (ndO_aft (aftO_below DR) hN.out))
            have M3 := hid (ndO_of (ok := fun b => w.heap.size + 1 ≤ b ∧ b ≠ w1.heap.size) n3 (fun b h1 h2 => by simp at h1; omega))
            have hz3 := b3.size
            have hl3 : ∀ b, w3.heap.size ≤ b → w.heap.size + 1 ≤ b ∧ b ≠ w1.heap.size := by intro b hb; simp at hz3; omega
            clear s3 b3 n3 DR
            unfold ndv
            simp only
            refine HK.out.out _ _ trivial (fun hHeld => ?_)
            clear HK K
            refine wpAnyH_ready (rs := [4]) (by kernel_rfl) (by simp) ?_
            refine AllReadyH.cons rfl (fun K hK => ?_) AllReadyH.nil
            have HK := hid hK
            clear hK
            go_simp
            refine (join_sign oo ho1 ho2 sx HSX.out P _ e x2 _ _ _ _ _ (hid S3.out.sg) hl3 (hid N3.out) (hid M3.out)).mono ?_
            rintro e4 w4 ⟨⟨nv4, kv4, rfl, n4⟩, b4⟩
            obtain ⟨c1, d1, c3, d3, rfl, rfl⟩ := ndO_shape n4
            have S4 := hid (S3.out.on b4)
            have B4 := hid (B3.out.trans (But.of b4))
            have Z4 := hid (blk_on Z3.out b4)
            have G4 := hid (blk_on G3.out b4)
            have N4 := hid n4
            have hg4 := blk_lt G4.out
            obtain ⟨s0, s1, s2, s3, s4, s5, s6⟩ := cells7 G4.out
            obtain ⟨u0, u1, u2, u3, u4, u5, u6⟩ := frees7 G4.out
            clear b4 n4 S3 B3 Z3 G3 N3 M3
            unfold ndv
            simp only
            refine HK.out.out _ _ trivial (fun hHeld => ?_)
            clear HK K
            refine wpAnyH_ready (rs := [5]) (by kernel_rfl) (by simp) ?_
            refine AllReadyH.cons rfl (fun K hK => ?_) AllReadyH.nil
            have HK := hid hK
            clear hK
            go_simp
            refine HK.out.out _ _ trivial (fun hHeld => ?_)
            clear HK K
            refine wpAnyH_done (by kernel_rfl) ?_ _
            have F := fin_put hP (by omega) S4.out B4.out G4.out (.int .i64 (ndO 10 oo [e, x2]).kind) (.int .i64 (ndO 10 oo [e, x2]).op) (.int .i64 (ndO 10 oo [e, x2]).num) (.string (ndO 10 oo [e, x2]).str) (.slice c1 (ndO 10 oo [e, x2]).names.length d1) (.slice c3 (ndO 10 oo [e, x2]).kids.length d3) (.int .i64 (ndO 10 oo [e, x2]).pl)
            have Z5 := hid (blk_put7 (g := w1.heap.size) Z4.out (by omega) (.int .i64 (ndO 10 oo [e, x2]).kind) (.int .i64 (ndO 10 oo [e, x2]).op) (.int .i64 (ndO 10 oo [e, x2]).num) (.string (ndO 10 oo [e, x2]).str) (.slice c1 (ndO 10 oo [e, x2]).names.length d1) (.slice c3 (ndO 10 oo [e, x2]).kids.length d3) (.int .i64 (ndO 10 oo [e, x2]).pl))
            have N5 := hid (ndO_aft (put7_aftO (g := w1.heap.size) w4 (by simp) (.int .i64 (ndO 10 oo [e, x2]).kind) (.int .i64 (ndO 10 oo [e, x2]).op) (.int .i64 (ndO 10 oo [e, x2]).num) (.string (ndO 10 oo [e, x2]).str) (.slice c1 (ndO 10 oo [e, x2]).names.length d1) (.slice c3 (ndO 10 oo [e, x2]).kids.length d3) (.int .i64 (ndO 10 oo [e, x2]).pl)) N4.out)
            have G5 := hid F.1
            have S5 := hid F.2.1
            have B5 := hid F.2.2
            have V5 := hid (words_on HV.out F.2.2 hlo)
            have hz5 := F.2.2.size
            clear F S4 B4 Z4 G4 N4 s0 s1 s2 s3 s4 s5 s6 u0 u1 u2 u3 u4 u5 u6 hHeld r0 r1 r2 r3 r4 r5 r6
            unfold put7w at Z5 N5 G5 S5 B5 V5 hz5
            obtain ⟨w5, hw5⟩ : ∃ w5, (((((((w4.setCell ⟨w1.heap.size, 0, none⟩ (.int .i64 (ndO 10 oo [e, x2]).kind)).setCell ⟨w1.heap.size, 1, none⟩ (.int .i64 (ndO 10 oo [e, x2]).op)).setCell ⟨w1.heap.size, 2, none⟩ (.int .i64 (ndO 10 oo [e, x2]).num)).setCell ⟨w1.heap.size, 3, none⟩ (.string (ndO 10 oo [e, x2]).str)).setCell ⟨w1.heap.size, 4, none⟩ (.slice c1 (ndO 10 oo [e, x2]).names.length d1)).setCell ⟨w1.heap.size, 5, none⟩ (.slice c3 (ndO 10 oo [e, x2]).kids.length d3)).setCell ⟨w1.heap.size, 6, none⟩ (.int .i64 (ndO 10 oo [e, x2]).pl)) = w5 := ⟨_, rfl⟩
            rw [hw5] at Z5 N5 G5 S5 B5 V5 hz5 ⊢
            clear hw5 hg4
            go_wp2_with fail
            refine (takeone_bt 5 (by decide) P L m' w.heap.size sv _ hz5 S5 V5).mono ?_
            rintro e6 w6 ⟨sv6, rfl, hbt, b6⟩
            have BT6 := hid hbt
            have B6 := hid (B5.out.trans b6)
            have Z6 := hid (blk_but Z5.out b6 (by omega))
            have G6 := hid (blk_but G5.out b6 (by omega))
            have N6 := hid (ndO_aft (aftO_but b6 (by omega)) N5.out)
            have HLE := hid (show leftAt P L w6 < leftAt P L wr by
              have h1 := left_is S2.out
              have h2 : leftAt P L w6 ≤ m'.length := by
                rcases hbt with ⟨_, _, h⟩ | ⟨_, _, _, _, _, e, _, _, _, _, _, h⟩
                · exact Nat.le_of_eq (left_is h)
                · rw [left_is h, e]; simp
              omega)
            clear hbt b6 S5 B5 Z5 G5 N5 V5 S2 hB hZ hG hN
            go_wp2_with fail
            go_roundw
            case rel => exact ⟨g, _, false, m', _, _, HE.out, by simp at hgm; omega, by omega, B6.out, Z6.out, G6.out, N6.out, BT6.out⟩
            case measure => exact HLE.out
          · have HK := hid hK
            clear hK
            go_simp
            refine (HCq.out _ (hid (S2.out.on (Below.refl _ _).drew))).mono ?_
            rintro e3 w3 ⟨⟨nv3, kv3, rfl, n3⟩, s3, b3⟩
            obtain ⟨f1, g1, f2, g2, rfl, rfl⟩ := ndR_shape n3
            have DR := (Below.refl wr.heap.size wr).drew
            have S3 := hid s3
            have B3 := hid ((hB.out.trans (But.of DR)).trans b3)
            have Z3 := hid (blk_but (blk_on hZ.out DR) b3 (by omega))
            have G3 := hid (blk_but (blk_on hG.out DR) b3 (by omega))
            have N3 := hid (ndO_aft (aftO_but b3 (by omega)) (ndO_aft (aftO_below DR) hN.out))
            have M3 := hid (ndO_of (ok := fun b => w.heap.size + 1 ≤ b ∧ b ≠ w1.heap.size) n3 (fun b h1 h2 => by simp at h1; omega))
            have hz3 := b3.size
            have hl3 : ∀ b, w3.heap.size ≤ b → w.heap.size + 1 ≤ b ∧ b ≠ w1.heap.size := by intro b hb; simp at hz3; omega
            clear s3 b3 n3 DR
            unfold ndv
            simp only
            refine HK.out.out _ _ trivial (fun hHeld => ?_)
            clear HK K
            obtain ⟨t0, t1, t2, t3, t4, t5, t6⟩ := cells7 G3.out
            refine wpAnyH_ready (rs := [0]) (by kernel_rfl) (by simp) ?_
            refine AllReadyH.cons rfl (fun K hK => ?_) AllReadyH.nil
            have HK := hid hK
            clear hK
            go_simp
            refine HK.out.out _ _ trivial (fun hHeld => ?_)
            clear HK K t0 t1 t2 t3 t4 t5 t6
            refine wpAnyH_ready (rs := [4]) (by kernel_rfl) (by simp) ?_
            refine AllReadyH.cons rfl (fun K hK => ?_) AllReadyH.nil
            have HK := hid hK
            clear hK
            go_simp
            refine (join_sign oo ho1 ho2 sx HSX.out P _ e x2 _ _ _ _ _ (hid S3.out.sg) hl3 (hid N3.out) (hid M3.out)).mono ?_
            rintro e4 w4 ⟨⟨nv4, kv4, rfl, n4⟩, b4⟩
            obtain ⟨c1, d1, c3, d3, rfl, rfl⟩ := ndO_shape n4
            have S4 := hid (S3.out.on b4)
            have B4 := hid (B3.out.trans (But.of b4))
            have Z4 := hid (blk_on Z3.out b4)
            have G4 := hid (blk_on G3.out b4)
            have N4 := hid n4
            have hg4 := blk_lt G4.out
            obtain ⟨s0, s1, s2, s3, s4, s5, s6⟩ := cells7 G4.out
            obtain ⟨u0, u1, u2, u3, u4, u5, u6⟩ := frees7 G4.out
            clear b4 n4 S3 B3 Z3 G3 N3 M3
            unfold ndv
            simp only
            refine HK.out.out _ _ trivial (fun hHeld => ?_)
            clear HK K
            refine wpAnyH_ready (rs := [5]) (by kernel_rfl) (by simp) ?_
            refine AllReadyH.cons rfl (fun K hK => ?_) AllReadyH.nil
            have HK := hid hK
            clear hK
            go_simp
            refine HK.out.out _ _ trivial (fun hHeld => ?_)
            clear HK K
            refine wpAnyH_done (by kernel_rfl) ?_ _
            have F := fin_put hP (by omega) S4.out B4.out G4.out (.int .i64 (ndO 10 oo [e, x2]).kind) (.int .i64 (ndO 10 oo [e, x2]).op) (.int .i64 (ndO 10 oo [e, x2]).num) (.string (ndO 10 oo [e, x2]).str) (.slice c1 (ndO 10 oo [e, x2]).names.length d1) (.slice c3 (ndO 10 oo [e, x2]).kids.length d3) (.int .i64 (ndO 10 oo [e, x2]).pl)
            have Z5 := hid (blk_put7 (g := w1.heap.size) Z4.out (by omega) (.int .i64 (ndO 10 oo [e, x2]).kind) (.int .i64 (ndO 10 oo [e, x2]).op) (.int .i64 (ndO 10 oo [e, x2]).num) (.string (ndO 10 oo [e, x2]).str) (.slice c1 (ndO 10 oo [e, x2]).names.length d1) (.slice c3 (ndO 10 oo [e, x2]).kids.length d3) (.int .i64 (ndO 10 oo [e, x2]).pl))
            have N5 := hid (ndO_aft (put7_aftO (g := w1.heap.size) w4 (by simp) (.int .i64 (ndO 10 oo [e, x2]).kind) (.int .i64 (ndO 10 oo [e, x2]).op) (.int .i64 (ndO 10 oo [e, x2]).num) (.string (ndO 10 oo [e, x2]).str) (.slice c1 (ndO 10 oo [e, x2]).names.length d1) (.slice c3 (ndO 10 oo [e, x2]).kids.length d3) (.int .i64 (ndO 10 oo [e, x2]).pl)) N4.out)
            have G5 := hid F.1
            have S5 := hid F.2.1
            have B5 := hid F.2.2
            have V5 := hid (words_on HV.out F.2.2 hlo)
            have hz5 := F.2.2.size
            clear F S4 B4 Z4 G4 N4 s0 s1 s2 s3 s4 s5 s6 u0 u1 u2 u3 u4 u5 u6 hHeld r0 r1 r2 r3 r4 r5 r6
            unfold put7w at Z5 N5 G5 S5 B5 V5 hz5
            obtain ⟨w5, hw5⟩ : ∃ w5, (((((((w4.setCell ⟨w1.heap.size, 0, none⟩ (.int .i64 (ndO 10 oo [e, x2]).kind)).setCell ⟨w1.heap.size, 1, none⟩ (.int .i64 (ndO 10 oo [e, x2]).op)).setCell ⟨w1.heap.size, 2, none⟩ (.int .i64 (ndO 10 oo [e, x2]).num)).setCell ⟨w1.heap.size, 3, none⟩ (.string (ndO 10 oo [e, x2]).str)).setCell ⟨w1.heap.size, 4, none⟩ (.slice c1 (ndO 10 oo [e, x2]).names.length d1)).setCell ⟨w1.heap.size, 5, none⟩ (.slice c3 (ndO 10 oo [e, x2]).kids.length d3)).setCell ⟨w1.heap.size, 6, none⟩ (.int .i64 (ndO 10 oo [e, x2]).pl)) = w5 := ⟨_, rfl⟩
            rw [hw5] at Z5 N5 G5 S5 B5 V5 hz5 ⊢
            clear hw5 hg4
            go_wp2_with fail
            refine (takeone_bt 5 (by decide) P L m' w.heap.size sv _ hz5 S5 V5).mono ?_
            rintro e6 w6 ⟨sv6, rfl, hbt, b6⟩
            have BT6 := hid hbt
            have B6 := hid (B5.out.trans b6)
            have Z6 := hid (blk_but Z5.out b6 (by omega))
            have G6 := hid (blk_but G5.out b6 (by omega))
            have N6 := hid (ndO_aft (aftO_but b6 (by omega)) N5.out)
            have HLE := hid (show leftAt P L w6 < leftAt P L wr by
              have h1 := left_is S2.out
              have h2 : leftAt P L w6 ≤ m'.length := by
                rcases hbt with ⟨_, _, h⟩ | ⟨_, _, _, _, _, e, _, _, _, _, _, h⟩
                · exact Nat.le_of_eq (left_is h)
                · rw [left_is h, e]; simp
              omega)
            clear hbt b6 S5 B5 Z5 G5 N5 V5 S2 hB hZ hG hN
            go_wp2_with fail
            go_roundw
            case rel => exact ⟨g, _, false, m', _, _, HE.out, by simp at hgm; omega, by omega, B6.out, Z6.out, G6.out, N6.out, BT6.out⟩
            case measure => exact HLE.out

set_option maxHeartbeats 3200000 in
theorem rank_5 (f : Nat) (hR : ∀ g, g ≤ f → RankC g) (P : Nat) (L l : List Tok) (w : World) (hf : 20 * l.length + (10 - 5) ≤ f) (H : Hid (PSt P L w l)) :
    Calls Tryd.prog 85 #[.pointer (some ⟨P, 0, none⟩)] w (Reads P L w ((pRank f (5 + 1) l).bind fun e b l => pMore f 5 e b l)) := by
  have hP := H.out.lt
  have A1 := (Below.refl _ w).alloc (Nat.le_refl _) (.cells znd 26)
  have A2 := (Below.refl _ (w.alloc (.cells znd 26))).alloc (Nat.le_refl _) (.cells #[.string ⟨#[43]⟩, .string ⟨#[45]⟩] 9)
  have A := hid (below_on A1 A2)
  have S0 := hid (H.out.on A.out)
  have G0 := hid (blk_on (blk_new w 26 znd) A2)
  have V0 := hid (show StR (w.heap.size + 1) ((w.alloc (.cells znd 26)).alloc (.cells #[.string ⟨#[43]⟩, .string ⟨#[45]⟩] 9)) (.slice (some ⟨w.heap.size + 1, 0, none⟩) 2 2) [⟨#[43]⟩, ⟨#[45]⟩] from by
    have hb := blk_new (w.alloc (.cells znd 26)) 9 #[.string ⟨#[43]⟩, .string ⟨#[45]⟩]
    simp only [World.size_alloc] at hb
    refine .inr ⟨w.heap.size + 1, 0, 2, rfl, ⟨Nat.le_refl _, by simp⟩, fun i hi => ?_, Nat.le_refl _⟩
    rw [blk_cell hb]
    simp only [List.length_cons, List.length_nil] at hi
    rcases (show i = 0 ∨ i = 1 by omega) with rfl | rfl <;> rfl)
  have HC := hid (fun w' S V => between_5 f hR (w.heap.size + 1) P L l (.slice (some ⟨w.heap.size + 1, 0, none⟩) 2 2) w' hf (by omega) S V)
  unfold znd at *
  clear H hR A1 A2
  cases hq : (pRank f (5 + 1) l).bind fun e b l => pMore f 5 e b l with
  | bad l' =>
    simp only [hq] at HC
    go_enter Tryd.func85, Tryd.ntmps85
    go_wp2_with fail
    refine (HC.out _ S0 V0).mono ?_
    rintro e w2 ⟨rfl, s2, b2⟩
    have S2 := hid s2
    have B2 := hid ((But.of A.out).trans b2)
    clear s2 b2 S0 A G0 HC V0
    unfold gaveUp
    go_wp2_with fail
    exact ⟨rfl, rfl, S2.out, B2.out⟩
  | ok x b l' =>
    simp only [hq] at HC
    go_enter Tryd.func85, Tryd.ntmps85
    go_wp2_with fail
    refine (HC.out _ S0 V0).mono ?_
    rintro e w2 ⟨⟨nv, kv, rfl, n2⟩, s2, b2⟩
    obtain ⟨a1, q1, a2, q2, rfl, rfl⟩ := ndR_shape n2
    have S3 := hid s2
    have N3 := hid (ndR_low (lo' := w.heap.size + 1) (by simp) n2)
    have B3 := hid ((But.of A.out).trans b2)
    have G3 := hid (blk_but G0.out b2 (by omega))
    have hg3 := blk_lt G3.out
    obtain ⟨r0, r1, r2, r3, r4, r5, r6⟩ := cells7 G3.out
    obtain ⟨u0, u1, u2, u3, u4, u5, u6⟩ := frees7 G3.out
    clear s2 b2 S0 A G0 HC n2 V0
    unfold ndv
    go_wp2_with fail
    have Z := fin_put hP (Nat.le_refl _) S3.out B3.out G3.out (.int .i64 x.kind) (.int .i64 x.op) (.int .i64 x.num) (.string x.str) (.slice a1 x.names.length q1) (.slice a2 x.kids.length q2) (.int .i64 x.pl)
    exact bodyPost_ret (ret_nd rfl rfl Z.1) rfl ⟨⟨_, _, rfl, ndR_low (Nat.le_succ _) (ndR_aft (put7_aft w2 (Nat.lt_succ_self _) _ _ _ _ _ _ _) N3.out)⟩, Z.2.1, Z.2.2⟩

end Go.Proofs.YtijbiedblahmhaaDoor

namespace Go.Proofs.YtijbiedblahmhaaDoor
open Go.RowKit

set_option linter.unusedSimpArgs false in
set_option maxHeartbeats 6400000 in
theorem between_6 (f : Nat) (hR : ∀ g, g ≤ f → RankC g) (lo P : Nat) (L l : List Tok) (sv : Value) (w : World) (hf : 20 * l.length + (10 - 6) ≤ f) (hlo : P < lo) (H : Hid (PSt P L w l)) (HV : Hid (StR lo w sv [⟨#[42]⟩, ⟨#[47]⟩, ⟨#[37]⟩])) :
    Calls Tryd.prog 54 #[.pointer (some ⟨P, 0, none⟩), .func (.func 93) #[.pointer (some ⟨P, 0, none⟩)] #[], sv] w (Reads P L w ((pRank f (6 + 1) l).bind fun e b l => pMore f 6 e b l)) := by
  have A := hid ((Below.refl _ w).alloc (Nat.le_refl _) (.cells znd 26))
  have S0 := hid (H.out.on A.out)
  have G0 := hid (blk_new w 26 znd)
  have hP := H.out.lt
  have HC := hid (show ∀ w', Hid (PSt P L w' l) → Calls Tryd.prog 93 #[.pointer (some ⟨P, 0, none⟩)] w' (Reads P L w' (pRank f (6 + 1) l)) from fun w' S => hR f (Nat.le_refl _) (6 + 1) P L l w' (by omega) (by omega) (by omega) S)
  have HM := hid ((may f).rank (6 + 1) l (pst_gt H.out))
  have HR := hid (show ∀ g, g ≤ f → ∀ (q : List Tok) (w' : World), 20 * q.length + (10 - 6) ≤ g → Hid (PSt P L w' q) → Calls Tryd.prog 93 #[.pointer (some ⟨P, 0, none⟩)] w' (Reads P L w' (pRank g (6 + 1) q)) from fun g hg q w' hq S => hR g hg (6 + 1) P L q w' (by omega) (by omega) (by omega) S)
  unfold znd at *
  clear H hR
  cases hq : pRank f (6 + 1) l with
  | bad l' =>
    rw [hq] at HC
    rw [PR.bind_bad]
    clear HM HR
    go_enter Tryd.func54, Tryd.ntmps54
    go_wp2_with fail
    refine (HC.out _ S0).mono ?_
    rintro e w2 ⟨rfl, s2, b2⟩
    have S2 := hid s2
    have B2 := hid ((But.of A.out).trans b2)
    clear s2 b2 S0 A G0 HC
    unfold gaveUp
    go_wp2_with fail
    exact ⟨rfl, rfl, S2.out, B2.out⟩
  | ok x b l' =>
    rw [hq] at HC HM
    rw [PR.bind_ok]
    have hm : l'.length + 1 ≤ l.length := by
      obtain ⟨_, pre, u, e, _⟩ := HM.out
      rw [e]; simp
    clear HM
    go_enter Tryd.func54, Tryd.ntmps54
    go_wp2_with fail
    refine (HC.out _ S0).mono ?_
    rintro e1 w1 ⟨⟨nv, kv, rfl, n1⟩, s1, b1⟩
    obtain ⟨a1, q1, a2, q2, rfl, rfl⟩ := ndR_shape n1
    have hsz1 := b1.size
    simp only [World.size_alloc] at hsz1
    have AA := (Below.refl _ w1).alloc (Nat.le_refl _) (.cells (ndc x (.slice a1 x.names.length q1) (.slice a2 x.kids.length q2)) 26)
    have S1 := hid (s1.on AA)
    have B1 := hid (((But.of A.out).trans b1).trans (But.of AA))
    have Z1 := hid (blk_on (blk_but G0.out b1 (by omega)) AA)
    have G1 := hid (blk_new w1 26 (ndc x (.slice a1 x.names.length q1) (.slice a2 x.kids.length q2)))
    have N1 := hid (ndO_aft (aftO_below AA) (ndO_of (ok := fun b => w.heap.size + 1 ≤ b ∧ b ≠ w1.heap.size) n1 (fun b h1 h2 => ⟨by simpa using h1, by omega⟩)))
    clear b1 s1 n1 AA S0 A G0 HC hq
    unfold ndv
    unfold ndc at *
    have V1 := hid (words_on HV.out B1.out hlo)
    have hl1 : w.heap.size + 1 ≤ w1.heap.size := hsz1
    go_wp2_with fail
    refine (takeone_bt 6 (by decide) P L l' w.heap.size sv _ (by simp; omega) S1 V1).mono ?_
    rintro e3 w3 ⟨sv0, rfl, hbt, b3⟩
    have BT := hid hbt
    have B3 := hid (B1.out.trans b3)
    have Z3 := hid (blk_but Z1.out b3 (by omega))
    have G3 := hid (blk_but G1.out b3 (by omega))
    have N3 := hid (ndO_aft (aftO_but b3 (by omega)) N1.out)
    clear hbt b3 S1 B1 Z1 G1 N1 V1
    go_wp2_with fail
    go_loopw [8] (fun s wr => ∃ (g : Nat) (e : Nd) (c : Bool) (m : List Tok) (nv kv : Value), Hid (pMore f 6 x b l' = pMore g 6 e c m) ∧ 20 * m.length + 5 ≤ g ∧ g ≤ f ∧ Hid (But P w wr) ∧ Hid (Blk w.heap.size 26 znd wr) ∧ Hid (Blk w1.heap.size 26 (ndc e nv kv) wr) ∧ Hid (NdO (fun b => w.heap.size + 1 ≤ b ∧ b ≠ w1.heap.size) wr e nv kv) ∧ Hid (BtS P L 6 m s wr)) (fun _ wr => leftAt P L wr)
    case atStart => exact ⟨f, x, b, l', _, _, (show Hid (_ = _) from rfl), by omega, Nat.le_refl _, B3.out, Z3.out, G3.out, N3.out, BT.out⟩
    case round =>
      obtain ⟨g, e, c, m, nv, kv, hpe, hgm, hgf, hB, hZ, hG, hN, hS⟩ := hrel
      clear B3 Z3 G3 N3 BT
      obtain ⟨g, rfl⟩ : ∃ g', g = g' + 1 := ⟨g - 1, by omega⟩
      obtain ⟨b1, p1, b2, p2, rfl, rfl⟩ := ndO_shape hN.out
      have hg0 := blk_lt hZ.out
      have hg1 := blk_lt hG.out
      unfold znd ndc at *
      rcases hS.out with ⟨rfl, hsn, hst⟩ | ⟨t, q, k, o, sx, rfl, rfl, hst, hrt, hsn, hin, hpq⟩
      · have HE := hid (hpe.out.trans (show pMore (g + 1) 6 e c m = .ok e c m by rw [pMore, hsn]))
        have S4 := hid hst
        obtain ⟨r0, r1, r2, r3, r4, r5, r6⟩ := cells7 hG.out
        obtain ⟨z0, z1, z2, z3, z4, z5, z6⟩ := cells7 hZ.out
        obtain ⟨u0, u1, u2, u3, u4, u5, u6⟩ := frees7 hZ.out
        clear hpe hsn hst hS HR
        go_wp2_with fail
        have Z := fin_put hP (Nat.le_refl _) S4.out hB.out hZ.out (.int .i64 e.kind) (.int .i64 e.op) (.int .i64 e.num) (.string e.str) (.slice b1 e.names.length p1) (.slice b2 e.kids.length p2) (.int .i64 e.pl)
        refine bodyPost_ret (ret_nd rfl rfl Z.1) rfl ?_
        rw [HE.out]
        exact ⟨⟨_, _, rfl, ndR_of (ndO_aft (put7_aftO _ (by omega) _ _ _ _ _ _ _) hN.out) (fun b h => by omega)⟩, Z.2.1, Z.2.2⟩
      · have hxe := isT_ne hst hrt
        obtain ⟨oo, ho1, ho2, rfl, rfl, hsx⟩ : ∃ oo : Nat, 1 ≤ oo ∧ oo ≤ 11 ∧ k = 10 ∧ o = (oo : Int) ∧ sx.data.toList = signT (oo : Int) := by
          simp [sgR] at hin
          rcases hin with ⟨h1, rfl, rfl⟩ | ⟨h1, rfl, rfl⟩ | ⟨h1, rfl, rfl⟩
          · exact ⟨3, by omega, by omega, rfl, rfl, h1⟩
          · exact ⟨4, by omega, by omega, rfl, rfl, h1⟩
          · exact ⟨5, by omega, by omega, rfl, rfl, h1⟩
        have HSX := hid hsx
        clear hsx
        have HE := hid (hpe.out.trans (show pMore (g + 1) 6 e c (t :: q) = (pRank g (6 + 1) q).bind fun e' _ l => pMore g 6 (ndO 10 oo [e, e']) false l by rw [pMore, hsn]; rfl))
        have HMq := hid ((may g).rank (6 + 1) q (pst_gt hpq))
        have HCq := hid (fun w' S => HR.out g (by omega) q w' (by simp at hgm; omega) S)
        have S2 := hid hpq
        clear hpe hsn hst hrt hS HR hin hpq
        cases hqq : pRank g (6 + 1) q with
        | bad m' =>
          rw [hqq] at HE HCq
          rw [PR.bind_bad] at HE
          obtain ⟨r0, r1, r2, r3, r4, r5, r6⟩ := cells7 hG.out
          go_wp2_with fail
          refine wp_region_held_drew (S := fun _ => True) (by kernel_rfl) trivial (fun hHeld => ?_)
          refine wpAnyH_take (i := 1) (v := ?v1) rfl (by kernel_rfl) (by kernel_rfl) (by kernel_rfl) (fun _ _ _ h => h) (Or.inl ⟨by rfl, ?hy1⟩) (by assumption) ?_
          case hy1 => (intro w hSw; go_simp <;> (try with_reducible rfl))
          simp only [Act.put, List.setIfInBounds_toArray, List.set_cons_zero, List.set_cons_succ, List.getElem_toArray, List.getElem_cons_succ, List.getElem_cons_zero]
          refine wpAnyH_take (i := 2) (v := ?v2) rfl (by kernel_rfl) (by kernel_rfl) (by kernel_rfl) (fun _ _ _ h => h) (Or.inl ⟨by rfl, ?hy2⟩) (by assumption) ?_
          case hy2 => (intro w hSw; go_simp <;> (try with_reducible rfl))
          simp only [Act.put, List.setIfInBounds_toArray, List.set_cons_zero, List.set_cons_succ, List.getElem_toArray, List.getElem_cons_succ, List.getElem_cons_zero]
          refine wpAnyH_ready (rs := [0, 3]) (by kernel_rfl) (by simp) ?_
          refine AllReadyH.cons rfl (fun K hK => ?_) (AllReadyH.cons rfl (fun K hK => ?_) AllReadyH.nil)
          · go_simp
            refine hK.out _ _ trivial (fun hHeld => ?_)
            clear hK K
            refine wpAnyH_ready (rs := [3]) (by kernel_rfl) (by simp) ?_
            refine AllReadyH.cons rfl (fun K hK => ?_) AllReadyH.nil
            have HK := hid hK
            clear hK
            go_simp
            refine (HCq.out _ (hid (S2.out.on (Below.refl _ _).drew))).mono ?_
            rintro e5 w5 ⟨rfl, s5, b5⟩
            have S5 := hid s5
            have B5 := hid ((hB.out.trans (But.of (Below.refl _ _).drew)).trans b5)
            clear s5 b5 HK
            unfold gaveUp
            go_wp2_with fail
            refine ⟨rfl, ?_⟩
            rw [HE.out]
            exact ⟨rfl, S5.out, B5.out⟩
          · have HK := hid hK
            clear hK
            go_simp
            refine (HCq.out _ (hid (S2.out.on (Below.refl _ _).drew))).mono ?_
            rintro e5 w5 ⟨rfl, s5, b5⟩
            have S5 := hid s5
            have B5 := hid ((hB.out.trans (But.of (Below.refl _ _).drew)).trans b5)
            clear s5 b5 HK
            unfold gaveUp
            go_wp2_with fail
            refine ⟨rfl, ?_⟩
            rw [HE.out]
            exact ⟨rfl, S5.out, B5.out⟩
        | ok x2 c2 m' =>
          rw [hqq] at HE HCq HMq
          rw [PR.bind_ok] at HE
          have hm2 : m'.length + 1 ≤ q.length := by
            obtain ⟨_, pre, u, e, _⟩ := HMq.out
            rw [e]; simp
          clear HMq
          obtain ⟨r0, r1, r2, r3, r4, r5, r6⟩ := cells7 hG.out
          go_wp2_with fail
          refine wp_region_held_drew (S := fun _ => True) (by kernel_rfl) trivial (fun hHeld => ?_)
          refine wpAnyH_take (i := 1) (v := ?v1) rfl (by kernel_rfl) (by kernel_rfl) (by kernel_rfl) (fun _ _ _ h => h) (Or.inl ⟨by rfl, ?hy1⟩) (by assumption) ?_
          case hy1 => (intro w hSw; go_simp <;> (try with_reducible rfl))
          simp only [Act.put, List.setIfInBounds_toArray, List.set_cons_zero, List.set_cons_succ, List.getElem_toArray, List.getElem_cons_succ, List.getElem_cons_zero]
          refine wpAnyH_take (i := 2) (v := ?v2) rfl (by kernel_rfl) (by kernel_rfl) (by kernel_rfl) (fun _ _ _ h => h) (Or.inl ⟨by rfl, ?hy2⟩) (by assumption) ?_
          case hy2 => (intro w hSw; go_simp <;> (try with_reducible rfl))
          simp only [Act.put, List.setIfInBounds_toArray, List.set_cons_zero, List.set_cons_succ, List.getElem_toArray, List.getElem_cons_succ, List.getElem_cons_zero]
          refine wpAnyH_ready (rs := [0, 3]) (by kernel_rfl) (by simp) ?_
          refine AllReadyH.cons rfl (fun K hK => ?_) (AllReadyH.cons rfl (fun K hK => ?_) AllReadyH.nil)
          · go_simp
            refine hK.out _ _ trivial (fun hHeld => ?_)
            clear hK K
            refine wpAnyH_ready (rs := [3]) (by kernel_rfl) (by simp) ?_
            refine AllReadyH.cons rfl (fun K hK => ?_) AllReadyH.nil
            have HK := hid hK
            clear hK
            go_simp
            refine (HCq.out _ (hid (S2.out.on (Below.refl _ _).drew))).mono ?_
            rintro e3 w3 ⟨⟨nv3, kv3, rfl, n3⟩, s3, b3⟩
            obtain ⟨f1, g1, f2, g2, rfl, rfl⟩ := ndR_shape n3
            have DR := (Below.refl wr.heap.size wr).drew
            have S3 := hid s3
            have B3 := hid ((hB.out.trans (But.of DR)).trans b3)
            have Z3 := hid (blk_but (blk_on hZ.out DR) b3 (by omega))
            have G3 := hid (blk_but (blk_on hG.out DR) b3 (by omega))
            have N3 := hid (ndO_aft (aftO_but b3 (by omega)) (ndO_aft (aftO_below DR) hN.out))
            have M3 := hid (ndO_of (ok := fun b => w.heap.size + 1 ≤ b ∧ b ≠ w1.heap.size) n3 (fun b h1 h2 => by simp at h1; omega))
            have hz3 := b3.size
            have hl3 : ∀ b, w3.heap.size ≤ b → w.heap.size + 1 ≤ b ∧ b ≠ w1.heap.size := by intro b hb; simp at hz3; omega
            clear s3 b3 n3 DR
            unfold ndv
            simp only
            refine HK.out.out _ _ trivial (fun hHeld => ?_)
            clear HK K
            refine wpAnyH_ready (rs := [4]) (by kernel_rfl) (by simp) ?_
            refine AllReadyH.cons rfl (fun K hK => ?_) AllReadyH.nil
            have HK := hid hK
            clear hK
            go_simp
            refine (join_sign oo ho1 ho2 sx HSX.out P _ e x2 _ _ _ _ _ (hid S3.out.sg) hl3 (hid N3.out) (hid M3.out)).mono ?_
            rintro e4 w4 ⟨⟨nv4, kv4, rfl, n4⟩, b4⟩
            obtain ⟨c1, d1, c3, d3, rfl, rfl⟩ := ndO_shape n4
            have S4 := hid (S3.out.on b4)
            have B4 := hid (B3.out.trans (But.of b4))
            have Z4 := hid (blk_on Z3.out b4)
            have G4 := hid (blk_on G3.out b4)
            have N4 := hid n4
            have hg4 := blk_lt G4.out
            obtain ⟨s0, s1, s2, s3, s4, s5, s6⟩ := cells7 G4.out
            obtain ⟨u0, u1, u2, u3, u4, u5, u6⟩ := frees7 G4.out
            clear b4 n4 S3 B3 Z3 G3 N3 M3
            unfold ndv
            simp only
            refine HK.out.out _ _ trivial (fun hHeld => ?_)
            clear HK K
            refine wpAnyH_ready (rs := [5]) (by kernel_rfl) (by simp) ?_
            refine AllReadyH.cons rfl (fun K hK => ?_) AllReadyH.nil
            have HK := hid hK
            clear hK
            go_simp
            refine HK.out.out _ _ trivial (fun hHeld => ?_)
            clear HK K
            refine wpAnyH_done (by kernel_rfl) ?_ _
            have F := fin_put hP (by omega) S4.out B4.out G4.out (.int .i64 (ndO 10 oo [e, x2]).kind) (.int .i64 (ndO 10 oo [e, x2]).op) (.int .i64 (ndO 10 oo [e, x2]).num) (.string (ndO 10 oo [e, x2]).str) (.slice c1 (ndO 10 oo [e, x2]).names.length d1) (.slice c3 (ndO 10 oo [e, x2]).kids.length d3) (.int .i64 (ndO 10 oo [e, x2]).pl)
            have Z5 := hid (blk_put7 (g := w1.heap.size) Z4.out (by omega) (.int .i64 (ndO 10 oo [e, x2]).kind) (.int .i64 (ndO 10 oo [e, x2]).op) (.int .i64 (ndO 10 oo [e, x2]).num) (.string (ndO 10 oo [e, x2]).str) (.slice c1 (ndO 10 oo [e, x2]).names.length d1) (.slice c3 (ndO 10 oo [e, x2]).kids.length d3) (.int .i64 (ndO 10 oo [e, x2]).pl))
            have N5 := hid (ndO_aft (put7_aftO (g := w1.heap.size) w4 (by simp) (.int .i64 (ndO 10 oo [e, x2]).kind) (.int .i64 (ndO 10 oo [e, x2]).op) (.int .i64 (ndO 10 oo [e, x2]).num) (.string (ndO 10 oo [e, x2]).str) (.slice c1 (ndO 10 oo [e, x2]).names.length d1) (.slice c3 (ndO 10 oo [e, x2]).kids.length d3) (.int .i64 (ndO 10 oo [e, x2]).pl)) N4.out)
            have G5 := hid F.1
            have S5 := hid F.2.1
            have B5 := hid F.2.2
            have V5 := hid (words_on HV.out F.2.2 hlo)
            have hz5 := F.2.2.size
            clear F S4 B4 Z4 G4 N4 s0 s1 s2 s3 s4 s5 s6 u0 u1 u2 u3 u4 u5 u6 hHeld r0 r1 r2 r3 r4 r5 r6
            unfold put7w at Z5 N5 G5 S5 B5 V5 hz5
            obtain ⟨w5, hw5⟩ : ∃ w5, (((((((w4.setCell ⟨w1.heap.size, 0, none⟩ (.int .i64 (ndO 10 oo [e, x2]).kind)).setCell ⟨w1.heap.size, 1, none⟩ (.int .i64 (ndO 10 oo [e, x2]).op)).setCell ⟨w1.heap.size, 2, none⟩ (.int .i64 (ndO 10 oo [e, x2]).num)).setCell ⟨w1.heap.size, 3, none⟩ (.string (ndO 10 oo [e, x2]).str)).setCell ⟨w1.heap.size, 4, none⟩ (.slice c1 (ndO 10 oo [e, x2]).names.length d1)).setCell ⟨w1.heap.size, 5, none⟩ (.slice c3 (ndO 10 oo [e, x2]).kids.length d3)).setCell ⟨w1.heap.size, 6, none⟩ (.int .i64 (ndO 10 oo [e, x2]).pl)) = w5 := ⟨_, rfl⟩
            rw [hw5] at Z5 N5 G5 S5 B5 V5 hz5 ⊢
            clear hw5 hg4
            go_wp2_with fail
            refine (takeone_bt 6 (by decide) P L m' w.heap.size sv _ hz5 S5 V5).mono ?_
            rintro e6 w6 ⟨sv6, rfl, hbt, b6⟩
            have BT6 := hid hbt
            have B6 := hid (B5.out.trans b6)
            have Z6 := hid (blk_but Z5.out b6 (by omega))
            have G6 := hid (blk_but G5.out b6 (by omega))
            have N6 := hid (ndO_aft (aftO_but b6 (by omega)) N5.out)
            have HLE := hid (show leftAt P L w6 < leftAt P L wr by
              have h1 := left_is S2.out
              have h2 : leftAt P L w6 ≤ m'.length := by
                rcases hbt with ⟨_, _, h⟩ | ⟨_, _, _, _, _, e, _, _, _, _, _, h⟩
                · exact Nat.le_of_eq (left_is h)
                · rw [left_is h, e]; simp
              omega)
            clear hbt b6 S5 B5 Z5 G5 N5 V5 S2 hB hZ hG hN
            go_wp2_with fail
            go_roundw
            case rel => exact ⟨g, _, false, m', _, _, HE.out, by simp at hgm; omega, by omega, B6.out, Z6.out, G6.out, N6.out, BT6.out⟩
            case measure => exact HLE.out
          · have HK := hid hK
            clear hK
            go_simp
            refine (HCq.out _ (hid (S2.out.on (Below.refl _ _).drew))).mono ?_
            rintro e3 w3 ⟨⟨nv3, kv3, rfl, n3⟩, s3, b3⟩
            obtain ⟨f1, g1, f2, g2, rfl, rfl⟩ := ndR_shape n3
            have DR := (Below.refl wr.heap.size wr).drew
            have S3 := hid s3
            have B3 := hid ((hB.out.trans (But.of DR)).trans b3)
            have Z3 := hid (blk_but (blk_on hZ.out DR) b3 (by omega))
            have G3 := hid (blk_but (blk_on hG.out DR) b3 (by omega))
            have N3 := hid (ndO_aft (aftO_but b3 (by omega)) (ndO_aft (aftO_below DR) hN.out))
            have M3 := hid (ndO_of (ok := fun b => w.heap.size + 1 ≤ b ∧ b ≠ w1.heap.size) n3 (fun b h1 h2 => by simp at h1; omega))
            have hz3 := b3.size
            have hl3 : ∀ b, w3.heap.size ≤ b → w.heap.size + 1 ≤ b ∧ b ≠ w1.heap.size := by intro b hb; simp at hz3; omega
            clear s3 b3 n3 DR
            unfold ndv
            simp only
            refine HK.out.out _ _ trivial (fun hHeld => ?_)
            clear HK K
            obtain ⟨t0, t1, t2, t3, t4, t5, t6⟩ := cells7 G3.out
            refine wpAnyH_ready (rs := [0]) (by kernel_rfl) (by simp) ?_
            refine AllReadyH.cons rfl (fun K hK => ?_) AllReadyH.nil
            have HK := hid hK
            clear hK
            go_simp
            refine HK.out.out _ _ trivial (fun hHeld => ?_)
            clear HK K t0 t1 t2 t3 t4 t5 t6
            refine wpAnyH_ready (rs := [4]) (by kernel_rfl) (by simp) ?_
            refine AllReadyH.cons rfl (fun K hK => ?_) AllReadyH.nil
            have HK := hid hK
            clear hK
            go_simp
            refine (join_sign oo ho1 ho2 sx HSX.out P _ e x2 _ _ _ _ _ (hid S3.out.sg) hl3 (hid N3.out) (hid M3.out)).mono ?_
            rintro e4 w4 ⟨⟨nv4, kv4, rfl, n4⟩, b4⟩
            obtain ⟨c1, d1, c3, d3, rfl, rfl⟩ := ndO_shape n4
            have S4 := hid (S3.out.on b4)
            have B4 := hid (B3.out.trans (But.of b4))
            have Z4 := hid (blk_on Z3.out b4)
            have G4 := hid (blk_on G3.out b4)
            have N4 := hid n4
            have hg4 := blk_lt G4.out
            obtain ⟨s0, s1, s2, s3, s4, s5, s6⟩ := cells7 G4.out
            obtain ⟨u0, u1, u2, u3, u4, u5, u6⟩ := frees7 G4.out
            clear b4 n4 S3 B3 Z3 G3 N3 M3
            unfold ndv
            simp only
            refine HK.out.out _ _ trivial (fun hHeld => ?_)
            clear HK K
            refine wpAnyH_ready (rs := [5]) (by kernel_rfl) (by simp) ?_
            refine AllReadyH.cons rfl (fun K hK => ?_) AllReadyH.nil
            have HK := hid hK
            clear hK
            go_simp
            refine HK.out.out _ _ trivial (fun hHeld => ?_)
            clear HK K
            refine wpAnyH_done (by kernel_rfl) ?_ _
            have F := fin_put hP (by omega) S4.out B4.out G4.out (.int .i64 (ndO 10 oo [e, x2]).kind) (.int .i64 (ndO 10 oo [e, x2]).op) (.int .i64 (ndO 10 oo [e, x2]).num) (.string (ndO 10 oo [e, x2]).str) (.slice c1 (ndO 10 oo [e, x2]).names.length d1) (.slice c3 (ndO 10 oo [e, x2]).kids.length d3) (.int .i64 (ndO 10 oo [e, x2]).pl)
            have Z5 := hid (blk_put7 (g := w1.heap.size) Z4.out (by omega) (.int .i64 (ndO 10 oo [e, x2]).kind) (.int .i64 (ndO 10 oo [e, x2]).op) (.int .i64 (ndO 10 oo [e, x2]).num) (.string (ndO 10 oo [e, x2]).str) (.slice c1 (ndO 10 oo [e, x2]).names.length d1) (.slice c3 (ndO 10 oo [e, x2]).kids.length d3) (.int .i64 (ndO 10 oo [e, x2]).pl))
            have N5 := hid (ndO_aft (put7_aftO (g := w1.heap.size) w4 (by simp) (.int .i64 (ndO 10 oo [e, x2]).kind) (.int .i64 (ndO 10 oo [e, x2]).op) (.int .i64 (ndO 10 oo [e, x2]).num) (.string (ndO 10 oo [e, x2]).str) (.slice c1 (ndO 10 oo [e, x2]).names.length d1) (.slice c3 (ndO 10 oo [e, x2]).kids.length d3) (.int .i64 (ndO 10 oo [e, x2]).pl)) N4.out)
            have G5 := hid F.1
            have S5 := hid F.2.1
            have B5 := hid F.2.2
            have V5 := hid (words_on HV.out F.2.2 hlo)
            have hz5 := F.2.2.size
            clear F S4 B4 Z4 G4 N4 s0 s1 s2 s3 s4 s5 s6 u0 u1 u2 u3 u4 u5 u6 hHeld r0 r1 r2 r3 r4 r5 r6
            unfold put7w at Z5 N5 G5 S5 B5 V5 hz5
            obtain ⟨w5, hw5⟩ : ∃ w5, (((((((w4.setCell ⟨w1.heap.size, 0, none⟩ (.int .i64 (ndO 10 oo [e, x2]).kind)).setCell ⟨w1.heap.size, 1, none⟩ (.int .i64 (ndO 10 oo [e, x2]).op)).setCell ⟨w1.heap.size, 2, none⟩ (.int .i64 (ndO 10 oo [e, x2]).num)).setCell ⟨w1.heap.size, 3, none⟩ (.string (ndO 10 oo [e, x2]).str)).setCell ⟨w1.heap.size, 4, none⟩ (.slice c1 (ndO 10 oo [e, x2]).names.length d1)).setCell ⟨w1.heap.size, 5, none⟩ (.slice c3 (ndO 10 oo [e, x2]).kids.length d3)).setCell ⟨w1.heap.size, 6, none⟩ (.int .i64 (ndO 10 oo [e, x2]).pl)) = w5 := ⟨_, rfl⟩
            rw [hw5] at Z5 N5 G5 S5 B5 V5 hz5 ⊢
            clear hw5 hg4
            go_wp2_with fail
            refine (takeone_bt 6 (by decide) P L m' w.heap.size sv _ hz5 S5 V5).mono ?_
            rintro e6 w6 ⟨sv6, rfl, hbt, b6⟩
            have BT6 := hid hbt
            have B6 := hid (B5.out.trans b6)
            have Z6 := hid (blk_but Z5.out b6 (by omega))
            have G6 := hid (blk_but G5.out b6 (by omega))
            have N6 := hid (ndO_aft (aftO_but b6 (by omega)) N5.out)
            have HLE := hid (show leftAt P L w6 < leftAt P L wr by
              have h1 := left_is S2.out
              have h2 : leftAt P L w6 ≤ m'.length := by
                rcases hbt with ⟨_, _, h⟩ | ⟨_, _, _, _, _, e, _, _, _, _, _, h⟩
                · exact Nat.le_of_eq (left_is h)
                · rw [left_is h, e]; simp
              omega)
            clear hbt b6 S5 B5 Z5 G5 N5 V5 S2 hB hZ hG hN
            go_wp2_with fail
            go_roundw
            case rel => exact ⟨g, _, false, m', _, _, HE.out, by simp at hgm; omega, by omega, B6.out, Z6.out, G6.out, N6.out, BT6.out⟩
            case measure => exact HLE.out

set_option maxHeartbeats 3200000 in
theorem rank_6 (f : Nat) (hR : ∀ g, g ≤ f → RankC g) (P : Nat) (L l : List Tok) (w : World) (hf : 20 * l.length + (10 - 6) ≤ f) (H : Hid (PSt P L w l)) :
    Calls Tryd.prog 92 #[.pointer (some ⟨P, 0, none⟩)] w (Reads P L w ((pRank f (6 + 1) l).bind fun e b l => pMore f 6 e b l)) := by
  have hP := H.out.lt
  have A1 := (Below.refl _ w).alloc (Nat.le_refl _) (.cells znd 26)
  have A2 := (Below.refl _ (w.alloc (.cells znd 26))).alloc (Nat.le_refl _) (.cells #[.string ⟨#[42]⟩, .string ⟨#[47]⟩, .string ⟨#[37]⟩] 9)
  have A := hid (below_on A1 A2)
  have S0 := hid (H.out.on A.out)
  have G0 := hid (blk_on (blk_new w 26 znd) A2)
  have V0 := hid (show StR (w.heap.size + 1) ((w.alloc (.cells znd 26)).alloc (.cells #[.string ⟨#[42]⟩, .string ⟨#[47]⟩, .string ⟨#[37]⟩] 9)) (.slice (some ⟨w.heap.size + 1, 0, none⟩) 3 3) [⟨#[42]⟩, ⟨#[47]⟩, ⟨#[37]⟩] from by
    have hb := blk_new (w.alloc (.cells znd 26)) 9 #[.string ⟨#[42]⟩, .string ⟨#[47]⟩, .string ⟨#[37]⟩]
    simp only [World.size_alloc] at hb
    refine .inr ⟨w.heap.size + 1, 0, 3, rfl, ⟨Nat.le_refl _, by simp⟩, fun i hi => ?_, Nat.le_refl _⟩
    rw [blk_cell hb]
    simp only [List.length_cons, List.length_nil] at hi
    rcases (show i = 0 ∨ i = 1 ∨ i = 2 by omega) with rfl | rfl | rfl <;> rfl)
  have HC := hid (fun w' S V => between_6 f hR (w.heap.size + 1) P L l (.slice (some ⟨w.heap.size + 1, 0, none⟩) 3 3) w' hf (by omega) S V)
  unfold znd at *
  clear H hR A1 A2
  cases hq : (pRank f (6 + 1) l).bind fun e b l => pMore f 6 e b l with
  | bad l' =>
    simp only [hq] at HC
    go_enter Tryd.func92, Tryd.ntmps92
    go_wp2_with fail
    refine (HC.out _ S0 V0).mono ?_
    rintro e w2 ⟨rfl, s2, b2⟩
    have S2 := hid s2
    have B2 := hid ((But.of A.out).trans b2)
    clear s2 b2 S0 A G0 HC V0
    unfold gaveUp
    go_wp2_with fail
    exact ⟨rfl, rfl, S2.out, B2.out⟩
  | ok x b l' =>
    simp only [hq] at HC
    go_enter Tryd.func92, Tryd.ntmps92
    go_wp2_with fail
    refine (HC.out _ S0 V0).mono ?_
    rintro e w2 ⟨⟨nv, kv, rfl, n2⟩, s2, b2⟩
    obtain ⟨a1, q1, a2, q2, rfl, rfl⟩ := ndR_shape n2
    have S3 := hid s2
    have N3 := hid (ndR_low (lo' := w.heap.size + 1) (by simp) n2)
    have B3 := hid ((But.of A.out).trans b2)
    have G3 := hid (blk_but G0.out b2 (by omega))
    have hg3 := blk_lt G3.out
    obtain ⟨r0, r1, r2, r3, r4, r5, r6⟩ := cells7 G3.out
    obtain ⟨u0, u1, u2, u3, u4, u5, u6⟩ := frees7 G3.out
    clear s2 b2 S0 A G0 HC n2 V0
    unfold ndv
    go_wp2_with fail
    have Z := fin_put hP (Nat.le_refl _) S3.out B3.out G3.out (.int .i64 x.kind) (.int .i64 x.op) (.int .i64 x.num) (.string x.str) (.slice a1 x.names.length q1) (.slice a2 x.kids.length q2) (.int .i64 x.pl)
    exact bodyPost_ret (ret_nd rfl rfl Z.1) rfl ⟨⟨_, _, rfl, ndR_low (Nat.le_succ _) (ndR_aft (put7_aft w2 (Nat.lt_succ_self _) _ _ _ _ _ _ _) N3.out)⟩, Z.2.1, Z.2.2⟩

end Go.Proofs.YtijbiedblahmhaaDoor

namespace Go.Proofs.YtijbiedblahmhaaDoor
open Go.RowKit

theorem rank_succ (f : Nat) (hR : ∀ g, g ≤ f → RankC g) (hP : PostC f) : RankC (f + 1) := by
  intro r P L l w h1 h7 hf H
  rw [pRank]
  by_cases h : 7 ≤ r
  · rw [if_pos h]
    have : r = 7 := by omega
    subst this
    show Calls Tryd.prog 93 _ w _
    cases hm : isH l [45] with
    | true =>
      obtain ⟨t, q, rfl, ht⟩ := isH_some hm
      exact un_minus f (hR f (Nat.le_refl _)) P L t q w (by simp at hf; omega) H ht
    | false =>
      cases hn : isH l [33] with
      | true =>
        obtain ⟨t, q, rfl, ht⟩ := isH_some hn
        exact un_not f (hR f (Nat.le_refl _)) P L t q w (by simp at hf; omega) H hm ht
      | false => exact un_post f hP P L l w (by omega) H hm hn
  · rw [if_neg h]
    obtain rfl | rfl | rfl | rfl | rfl | rfl : r = 1 ∨ r = 2 ∨ r = 3 ∨ r = 4 ∨ r = 5 ∨ r = 6 := by omega
    · exact rank_1 f hR P L l w (by omega) H
    · exact rank_2 f hR P L l w (by omega) H
    · exact rank_3 f hR P L l w (by omega) H
    · exact rank_4 f hR P L l w (by omega) H
    · exact rank_5 f hR P L l w (by omega) H
    · exact rank_6 f hR P L l w (by omega) H

end Go.Proofs.YtijbiedblahmhaaDoor
