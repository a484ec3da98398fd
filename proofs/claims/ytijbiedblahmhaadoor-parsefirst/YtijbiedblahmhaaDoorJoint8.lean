/- A call's arguments. One argument more. Names in a row that grows. -/
import Derived.Test.YtijbiedblahmhaaDoorPsList
import Derived.Test.YtijbiedblahmhaaDoorPsParts
import Derived.Deep.AppendLies
namespace Go.Proofs.YtijbiedblahmhaaDoor
open Go.RowKit

/-- where the closure's variables lie, and which blocks may be used -/
structure C1 (P kb pb lo : Nat) (ok : Nat → Prop) : Prop where
  p : P < lo
  k : lo ≤ kb
  q : P < pb
  ne : kb ≠ pb
  nk : ¬ ok kb
  nq : ¬ ok pb
  np : ¬ ok P
  up : ∀ b, kb < b → pb < b → ok b

set_option maxRecDepth 100000 in
set_option maxHeartbeats 12800000 in
theorem call_walk (P : Nat) (L : List Tok) (ok : Nat → Prop) (x : Nd) (a1 a2 : Option Addr) (q1 q2 : Nat) (w : World) (o : PL)
    (CC : Hid (Calls Tryd.prog 80 #[.pointer (some ⟨P, 0, none⟩), .int .i64 6, .string ⟨#[41]⟩, .func (.func 81) #[] #[.pointer (some ⟨w.heap.size + 1 + 1 + 1, 0, none⟩), .pointer (some ⟨w.heap.size, 0, none⟩)]] ((((w.alloc (.cells #[.pointer (some ⟨P, 0, none⟩)] 32)).alloc (.cells #[.int .i64 x.kind, .int .i64 x.op, .int .i64 x.num, .string x.str, .slice a1 x.names.length q1, .slice a2 x.kids.length q2, .int .i64 x.pl] 26)).alloc (.cells #[.int .i64 x.kind, .int .i64 x.op, .int .i64 x.num, .string x.str, .slice a1 x.names.length q1, .slice a2 x.kids.length q2, .int .i64 x.pl] 26)).alloc (.cells #[.slice (some ⟨w.heap.size + 1 + 1, 0, none⟩) 1 1] 24)) (ReadsKL P (w.heap.size + 1 + 1 + 1) (w.heap.size) w.heap.size L (fun b => ok b ∧ b ≠ w.heap.size + 1 + 1 + 1 ∧ b ≠ w.heap.size) ((((w.alloc (.cells #[.pointer (some ⟨P, 0, none⟩)] 32)).alloc (.cells #[.int .i64 x.kind, .int .i64 x.op, .int .i64 x.num, .string x.str, .slice a1 x.names.length q1, .slice a2 x.kids.length q2, .int .i64 x.pl] 26)).alloc (.cells #[.int .i64 x.kind, .int .i64 x.op, .int .i64 x.num, .string x.str, .slice a1 x.names.length q1, .slice a2 x.kids.length q2, .int .i64 x.pl] 26)).alloc (.cells #[.slice (some ⟨w.heap.size + 1 + 1, 0, none⟩) 1 1] 24)) o))) :
    Calls Tryd.prog 69 #[.pointer (some ⟨P, 0, none⟩), ndv x (.slice a1 x.names.length q1) (.slice a2 x.kids.length q2)] w (ReadsL P L ok w o) := by
  have B0 := hid (show But P w ((((w.alloc (.cells #[.pointer (some ⟨P, 0, none⟩)] 32)).alloc (.cells #[.int .i64 x.kind, .int .i64 x.op, .int .i64 x.num, .string x.str, .slice a1 x.names.length q1, .slice a2 x.kids.length q2, .int .i64 x.pl] 26)).alloc (.cells #[.int .i64 x.kind, .int .i64 x.op, .int .i64 x.num, .string x.str, .slice a1 x.names.length q1, .slice a2 x.kids.length q2, .int .i64 x.pl] 26)).alloc (.cells #[.slice (some ⟨w.heap.size + 1 + 1, 0, none⟩) 1 1] 24)) from (((But.of ((Below.refl _ w).alloc (Nat.le_refl _) _)).trans (But.of ((Below.refl _ _).alloc (Nat.le_refl _) _))).trans (But.of ((Below.refl _ _).alloc (Nat.le_refl _) _))).trans (But.of ((Below.refl _ _).alloc (Nat.le_refl _) _)))
  have lift : ∀ w', ButLo w.heap.size P ((((w.alloc (.cells #[.pointer (some ⟨P, 0, none⟩)] 32)).alloc (.cells #[.int .i64 x.kind, .int .i64 x.op, .int .i64 x.num, .string x.str, .slice a1 x.names.length q1, .slice a2 x.kids.length q2, .int .i64 x.pl] 26)).alloc (.cells #[.int .i64 x.kind, .int .i64 x.op, .int .i64 x.num, .string x.str, .slice a1 x.names.length q1, .slice a2 x.kids.length q2, .int .i64 x.pl] 26)).alloc (.cells #[.slice (some ⟨w.heap.size + 1 + 1, 0, none⟩) 1 1] 24)) w' → But P w w' := fun w' h => ⟨h.os.trans B0.out.os, h.tape.trans B0.out.tape, h.output.trans B0.out.output, Nat.le_trans B0.out.size h.size, fun k h1 h2 => (h.block k h1 h2).trans (B0.out.block k h1 h2)⟩
  have LF := hid lift
  clear lift B0
  unfold ndv
  cases o with
  | bad l' =>
    go_enter Tryd.func69, Tryd.ntmps69
    go_wp2_with fail
    refine CC.out.mono ?_
    rintro e w1 ⟨rfl, s1, b1⟩
    have S1 := hid s1
    have B1 := hid (LF.out w1 b1)
    clear s1 b1 CC LF
    unfold gaveUp
    go_wp2_with fail
    exact ⟨rfl, rfl, S1.out, B1.out⟩
  | ok ns ks l' =>
    go_enter Tryd.func69, Tryd.ntmps69
    go_wp2_with fail
    refine CC.out.mono ?_
    rintro e w1 ⟨rfl, ⟨v, k1, r1⟩, _, s1, b1⟩
    obtain ⟨ao, cap, rfl⟩ := krow_shape r1
    have S1 := hid s1
    have B1 := hid (LF.out w1 b1)
    have K1 := hid (kdO_mono (ok' := ok) (krow_kids r1) (fun b h _ => h.1))
    have c1 := blk_cell k1 0
    simp at c1
    clear s1 b1 CC LF r1 k1
    go_wp2_with fail
    go_ret
    exact ⟨⟨_, rfl, K1.out⟩, S1.out, B1.out⟩

theorem call_calls (f : Nat) (h1 : ∀ g, g ≤ f → ∀ (P kb pb lo : Nat) (L : List Tok) (ok : Nat → Prop), C1 P kb pb lo ok → Call1C g P kb pb lo L ok) : CallC (f + 1) := by
  intro P L l ok x nv kv w hf FR H N
  obtain ⟨a1, q1, a2, q2, rfl, rfl⟩ := ndO_shape N.out
  have hP := H.out.lt
  refine call_walk P L ok x a1 a2 q1 q2 w _ ?_
  have A1 := (Below.refl _ w).alloc (Nat.le_refl _) (.cells #[.pointer (some ⟨P, 0, none⟩)] 32)
  have A2 := (Below.refl _ (w.alloc (.cells #[.pointer (some ⟨P, 0, none⟩)] 32))).alloc (Nat.le_refl _) (.cells #[.int .i64 x.kind, .int .i64 x.op, .int .i64 x.num, .string x.str, .slice a1 x.names.length q1, .slice a2 x.kids.length q2, .int .i64 x.pl] 26)
  have A3 := (Below.refl _ ((w.alloc (.cells #[.pointer (some ⟨P, 0, none⟩)] 32)).alloc (.cells #[.int .i64 x.kind, .int .i64 x.op, .int .i64 x.num, .string x.str, .slice a1 x.names.length q1, .slice a2 x.kids.length q2, .int .i64 x.pl] 26))).alloc (Nat.le_refl _) (.cells #[.int .i64 x.kind, .int .i64 x.op, .int .i64 x.num, .string x.str, .slice a1 x.names.length q1, .slice a2 x.kids.length q2, .int .i64 x.pl] 26)
  have A4 := (Below.refl _ (((w.alloc (.cells #[.pointer (some ⟨P, 0, none⟩)] 32)).alloc (.cells #[.int .i64 x.kind, .int .i64 x.op, .int .i64 x.num, .string x.str, .slice a1 x.names.length q1, .slice a2 x.kids.length q2, .int .i64 x.pl] 26)).alloc (.cells #[.int .i64 x.kind, .int .i64 x.op, .int .i64 x.num, .string x.str, .slice a1 x.names.length q1, .slice a2 x.kids.length q2, .int .i64 x.pl] 26))).alloc (Nat.le_refl _) (.cells #[.slice (some ⟨w.heap.size + 1 + 1, 0, none⟩) 1 1] 24)
  have S4 := hid ((((H.out.on A1).on A2).on A3).on A4)
  have Q4 := hid (blk_on (blk_on (blk_on (blk_new w 32 #[.pointer (some ⟨P, 0, none⟩)]) A2) A3) A4)
  have K4 := hid (show Blk (w.heap.size + 1 + 1 + 1) 24 #[.slice (some ⟨w.heap.size + 1 + 1, 0, none⟩) 1 1] ((((w.alloc (.cells #[.pointer (some ⟨P, 0, none⟩)] 32)).alloc (.cells #[.int .i64 x.kind, .int .i64 x.op, .int .i64 x.num, .string x.str, .slice a1 x.names.length q1, .slice a2 x.kids.length q2, .int .i64 x.pl] 26)).alloc (.cells #[.int .i64 x.kind, .int .i64 x.op, .int .i64 x.num, .string x.str, .slice a1 x.names.length q1, .slice a2 x.kids.length q2, .int .i64 x.pl] 26)).alloc (.cells #[.slice (some ⟨w.heap.size + 1 + 1, 0, none⟩) 1 1] 24)) from by
    have := blk_new (((w.alloc (.cells #[.pointer (some ⟨P, 0, none⟩)] 32)).alloc (.cells #[.int .i64 x.kind, .int .i64 x.op, .int .i64 x.num, .string x.str, .slice a1 x.names.length q1, .slice a2 x.kids.length q2, .int .i64 x.pl] 26)).alloc (.cells #[.int .i64 x.kind, .int .i64 x.op, .int .i64 x.num, .string x.str, .slice a1 x.names.length q1, .slice a2 x.kids.length q2, .int .i64 x.pl] 26)) 24 #[.slice (some ⟨w.heap.size + 1 + 1, 0, none⟩) 1 1]
    simpa using this)
  have N2 : NdO (fun b => ok b ∧ b ≠ w.heap.size + 1 + 1 + 1 ∧ b ≠ w.heap.size) ((w.alloc (.cells #[.pointer (some ⟨P, 0, none⟩)] 32)).alloc (.cells #[.int .i64 x.kind, .int .i64 x.op, .int .i64 x.num, .string x.str, .slice a1 x.names.length q1, .slice a2 x.kids.length q2, .int .i64 x.pl] 26)) x (.slice a1 x.names.length q1) (.slice a2 x.kids.length q2) := ndO_aft (aftO_below A2) (ndO_aft (aftO_below A1) (ndO_mono N.out (fun b h hb => ⟨h, by omega, by omega⟩)))
  have R3 := krow_one (lo := w.heap.size) (ok := (fun b => ok b ∧ b ≠ w.heap.size + 1 + 1 + 1 ∧ b ≠ w.heap.size)) (w := ((w.alloc (.cells #[.pointer (some ⟨P, 0, none⟩)] 32)).alloc (.cells #[.int .i64 x.kind, .int .i64 x.op, .int .i64 x.num, .string x.str, .slice a1 x.names.length q1, .slice a2 x.kids.length q2, .int .i64 x.pl] 26))) (by simp; omega) ⟨FR.up _ (by simp; omega), by simp, by simp; omega⟩ N2
  have R4 := hid (show KRow w.heap.size (fun b => ok b ∧ b ≠ w.heap.size + 1 + 1 + 1 ∧ b ≠ w.heap.size) ((((w.alloc (.cells #[.pointer (some ⟨P, 0, none⟩)] 32)).alloc (.cells #[.int .i64 x.kind, .int .i64 x.op, .int .i64 x.num, .string x.str, .slice a1 x.names.length q1, .slice a2 x.kids.length q2, .int .i64 x.pl] 26)).alloc (.cells #[.int .i64 x.kind, .int .i64 x.op, .int .i64 x.num, .string x.str, .slice a1 x.names.length q1, .slice a2 x.kids.length q2, .int .i64 x.pl] 26)).alloc (.cells #[.slice (some ⟨w.heap.size + 1 + 1, 0, none⟩) 1 1] 24)) (.slice (some ⟨w.heap.size + 1 + 1, 0, none⟩) 1 1) [x] from by
    have := krow_below R3 A4
    simpa [ndc] using this)
  have hcl : C1 P (w.heap.size + 1 + 1 + 1) (w.heap.size) w.heap.size (fun b => ok b ∧ b ≠ w.heap.size + 1 + 1 + 1 ∧ b ≠ w.heap.size) := ⟨hP, by omega, hP, by omega, fun h => h.2.1 rfl, fun h => h.2.2 rfl, fun h => FR.no h.1, fun b h1 h2 => ⟨FR.up b (by omega), by omega, by omega⟩⟩
  clear A1 A2 A3 A4 R3 N2
  rw [pArgs]
  by_cases hh : isH l [41] = true
  · obtain ⟨t, q, rfl, ht⟩ := isH_some hh
    rw [if_pos hh]
    exact hid (list_empty P _ _ _ L _ t q _ [x] _ (by simp; omega) (by omega) (by omega) (fun h => FR.no h.1) S4 K4 Q4 R4 ht)
  · rw [if_neg hh]
    cases hq : pRank f 1 l with
    | bad l1 =>
      rw [PR.bindL_bad]
      exact hid (list_one f P _ _ _ L _ (h1 f (Nat.le_refl _) P _ _ _ L _ hcl) l _ [x] _ (by omega) (by simp) (by simp; omega) S4 K4 Q4 R4 (by simpa using hh) l1 hq)
    | ok y b l1 =>
      rw [PR.bindL_ok]
      exact hid (list_more f P _ _ _ L _ (fun g hg => h1 g hg P _ _ _ L _ hcl) l _ [x] _ (by omega) rfl (by simp; omega) (by omega) (by omega) (fun h => FR.no h.1) S4 K4 Q4 R4 (by simpa using hh) y b l1 hq)

end Go.Proofs.YtijbiedblahmhaaDoor

namespace Go.Proofs.YtijbiedblahmhaaDoor
open Go.RowKit

theorem blk_grown {g : Nat} {T : TypeId} {cs : Array Value} {a b : World} {row : Option Nat} (h : Blk g T cs a) (k : a.grownBy b row) (hne : some g ≠ row) : Blk g T cs b := (k.block g (blk_lt h) hne).trans h
theorem ndR_els {lo : Nat} {ok : Nat → Prop} {w : World} {v : Value} {x : Nd} {nv kv : Value} (h : NdR lo w x nv kv) (hup : ∀ b, lo ≤ b → ok b) (hv : ∀ g, v.ownBlock = some g → g < lo) : NdW (Els ok v w) w x nv kv :=
  ndW_keep (fun b hb => ⟨⟨hup b hb.1, hb.2, fun e => by have := hv b e.symm; have := hb.1; omega⟩, rfl⟩) _ _ _ h
theorem ndW_els {ok : Nat → Prop} {a c : World} {v : Value} {x : Nd} {nv kv : Value} (h : NdW (Els ok v a) a x nv kv) (k : Below a.heap.size a c) : NdW (Els ok v c) c x nv kv :=
  ndW_keep (fun b hb => ⟨⟨hb.1, Nat.lt_of_lt_of_le hb.2.1 k.size, hb.2.2⟩, k.block b hb.2.1⟩) _ _ _ h
theorem zl_cells {w : World} {z : Nat} (h : Blk z 26 #[.int .i64 0, .int .i64 0, .int .i64 0, .string ⟨#[]⟩, .slice none 0 0, .slice none 0 0, .int .i64 0] w) : ∀ (j : Nat) (u : Value), zl[j]? = some u → w.cell? ((⟨z, 0, none⟩ : Addr).add j) = some u := by
  intro j u hj
  have e : (⟨z, 0, none⟩ : Addr).add j = ⟨z, j, none⟩ := by unfold Addr.add; split <;> simp_all
  rw [e, blk_cell h]
  simpa [zl] using hj
theorem zl_one : ∀ u ∈ zl, u.oneCell' = true := by
  intro u hu
  simp only [zl, List.mem_cons, List.not_mem_nil, or_false] at hu
  rcases hu with rfl | rfl | rfl | rfl | rfl | rfl | rfl <;> rfl
/-- where the new row lies -/
structure NPut (lo n g kb pb : Nat) (w : World) : Prop where
  lo : lo ≤ g
  nk : g ≠ kb
  nq : g ≠ pb
  blk : ∃ cur, Blk g 26 cur w ∧ (n + 1) * 7 ≤ cur.size
theorem nput_at {lo g cap kb pb : Nat} {ok : Nat → Prop} {a b : World} {v : Value} {ks : List Nd} {ys : List Value} (hown : b.ownsRow lo 26 7 (.slice (some ⟨g, 0, none⟩) (ks.length + 1) cap) (ks.length + 1) ys) (_hgrow : a.grownBy b v.ownBlock) (hat : v.ownBlock = some g ∨ g = a.heap.size)
    (hR : KRow lo ok a v ks) (hl : lo ≤ a.heap.size) (h1 : kb < a.heap.size) (h2 : pb < a.heap.size) (nk : ¬ ok kb) (nq : ¬ ok pb) : NPut lo ks.length g kb pb b := by
  refine ⟨?_, ?_, ?_, ?_⟩
  · rcases hat with h | h
    · exact (krow_own hR g h).2.1
    · omega
  · rcases hat with h | h
    · exact fun e => nk (e ▸ (krow_own hR g h).1)
    · omega
  · rcases hat with h | h
    · exact fun e => nq (e ▸ (krow_own hR g h).1)
    · omega
  · rcases hown.2 with ⟨h1, _⟩ | ⟨g2, cap2, cur2, h1, h2, h3, h4, h5, h6, h7⟩
    · cases h1
    · injection h1 with e1 e2 e3
      injection e1 with e1
      injection e1 with e1
      subst e1
      exact ⟨cur2, h3, by rw [h6]; exact Nat.mul_le_mul_right 7 h4⟩
theorem nput_row {lo g cap : Nat} {ok : Nat → Prop} {a b : World} {v : Value} {ks : List Nd} {cs : List Value} {x : Nd} {nv kv : Value} (hown : b.ownsRow lo 26 7 (.slice (some ⟨g, 0, none⟩) (ks.length + 1) cap) (ks.length + 1) (cs ++ zl)) (hgr : a.grownBy b v.ownBlock) (hat : v.ownBlock = some g ∨ g = a.heap.size)
    (hr : RowN (Els ok v a) a ks cs) (hg : ∀ k, v.ownBlock = some k → ok k) (hx : NdW (Els ok v a) a x nv kv) (hup : ∀ k, a.heap.size ≤ k → ok k) (hl : lo ≤ a.heap.size) :
    ∀ (c : World) (cur : Array Value), Blk g 26 cur b → Blk g 26 (((((((cur.setIfInBounds (ks.length * 7) (.int .i64 x.kind)).setIfInBounds (ks.length * 7 + 1) (.int .i64 x.op)).setIfInBounds (ks.length * 7 + 2) (.int .i64 x.num)).setIfInBounds (ks.length * 7 + 3) (.string x.str)).setIfInBounds (ks.length * 7 + 4) nv).setIfInBounds (ks.length * 7 + 5) kv).setIfInBounds (ks.length * 7 + 6) (.int .i64 x.pl)) c →
      b.heap.size ≤ c.heap.size → (∀ k, ok k → k < b.heap.size → k ≠ g → c.heap[k]? = b.heap[k]?) → KRow lo ok c (.slice (some ⟨g, 0, none⟩) (ks.length + 1) cap) (ks ++ [x]) :=
  fun _ cur hb hc hcs hck => krow_put hl hup hr hg hx hown hgr hat ⟨cur, hb, hc⟩ hcs hck
theorem cellsN {g n : Nat} {cur : Array Value} {w : World} (h : Blk g 26 cur w) (hc : (n + 1) * 7 ≤ cur.size) :
    (∃ u, w.cell? ⟨g, n * 7, none⟩ = some u) ∧ (∃ u, w.cell? ⟨g, n * 7 + 1, none⟩ = some u) ∧ (∃ u, w.cell? ⟨g, n * 7 + 2, none⟩ = some u) ∧ (∃ u, w.cell? ⟨g, n * 7 + 3, none⟩ = some u) ∧ (∃ u, w.cell? ⟨g, n * 7 + 4, none⟩ = some u) ∧ (∃ u, w.cell? ⟨g, n * 7 + 5, none⟩ = some u) ∧ (∃ u, w.cell? ⟨g, n * 7 + 6, none⟩ = some u) := by
  have k : ∀ i, i < cur.size → ∃ u, w.cell? ⟨g, i, none⟩ = some u := fun i hi => ⟨cur[i], by rw [blk_cell h]; simp [hi]⟩
  exact ⟨k _ (by omega), k _ (by omega), k _ (by omega), k _ (by omega), k _ (by omega), k _ (by omega), k _ (by omega)⟩
theorem freesN {g : Nat} {cur : Array Value} {w : World} (h : Blk g 26 cur w) (n : Nat) :
    w.frozen? ⟨g, n * 7, none⟩ = false ∧ w.frozen? ⟨g, n * 7 + 1, none⟩ = false ∧ w.frozen? ⟨g, n * 7 + 2, none⟩ = false ∧ w.frozen? ⟨g, n * 7 + 3, none⟩ = false ∧ w.frozen? ⟨g, n * 7 + 4, none⟩ = false ∧ w.frozen? ⟨g, n * 7 + 5, none⟩ = false ∧ w.frozen? ⟨g, n * 7 + 6, none⟩ = false :=
  ⟨blk_free h _, blk_free h _, blk_free h _, blk_free h _, blk_free h _, blk_free h _, blk_free h _⟩
/-- seven cells from a place on are written -/
def put7n (w : World) (g i : Nat) (a b c d e f p : Value) : World := ((((((w.setCell ⟨g, i, none⟩ a).setCell ⟨g, i + 1, none⟩ b).setCell ⟨g, i + 2, none⟩ c).setCell ⟨g, i + 3, none⟩ d).setCell ⟨g, i + 4, none⟩ e).setCell ⟨g, i + 5, none⟩ f).setCell ⟨g, i + 6, none⟩ p
theorem put7n_rest {w : World} {g i k : Nat} (h : k ≠ g) (a b c d e f p : Value) : (put7n w g i a b c d e f p).heap[k]? = w.heap[k]? := by
  unfold put7n
  rw [Below.heap_setCell _ _ _ _ h, Below.heap_setCell _ _ _ _ h, Below.heap_setCell _ _ _ _ h, Below.heap_setCell _ _ _ _ h, Below.heap_setCell _ _ _ _ h, Below.heap_setCell _ _ _ _ h, Below.heap_setCell _ _ _ _ h]
theorem put7n_size (w : World) (g i : Nat) (a b c d e f p : Value) : (put7n w g i a b c d e f p).heap.size = w.heap.size := by simp [put7n, World.setCell]
theorem put7n_cell {w : World} {g i k j : Nat} {v : Option Value} (h : w.cell? ⟨k, j, none⟩ = v) (hk : k ≠ g) (a b c d e f p : Value) : (put7n w g i a b c d e f p).cell? ⟨k, j, none⟩ = v := by
  have hb := put7n_rest (w := w) (i := i) hk a b c d e f p
  generalize put7n w g i a b c d e f p = u at hb ⊢
  exact (World.cell?_of_block (w := w) hb).trans h
theorem put7n_free {w : World} {g i k j : Nat} {v : Bool} (h : w.frozen? ⟨k, j, none⟩ = v) (hk : k ≠ g) (a b c d e f p : Value) : (put7n w g i a b c d e f p).frozen? ⟨k, j, none⟩ = v := by
  rw [← h]
  unfold World.frozen?
  rw [put7n_rest hk]
theorem put7n_os (w : World) (g i : Nat) (a b c d e f p : Value) : (put7n w g i a b c d e f p).os = w.os ∧ (put7n w g i a b c d e f p).tape = w.tape ∧ (put7n w g i a b c d e f p).output = w.output := by
  simp [put7n, World.setCell]
theorem put7n_blk {w : World} {g i : Nat} {T : TypeId} {cur : Array Value} (h : Blk g T cur w) (a b c d e f p : Value) : Blk g T (((((((cur.setIfInBounds i a).setIfInBounds (i + 1) b).setIfInBounds (i + 2) c).setIfInBounds (i + 3) d).setIfInBounds (i + 4) e).setIfInBounds (i + 5) f).setIfInBounds (i + 6) p) (put7n w g i a b c d e f p) :=
  blk_set (blk_set (blk_set (blk_set (blk_set (blk_set (blk_set h _ _) _ _) _ _) _ _) _ _) _ _) _ _
/-- two blocks are written -/
structure Wrote (a c : World) (g kb : Nat) (T : TypeId) (cg ck : Array Value) : Prop where
  os : c.os = a.os
  tape : c.tape = a.tape
  output : c.output = a.output
  size : c.heap.size = a.heap.size
  hg : Blk g 26 cg c
  hk : Blk kb T ck c
  rest : ∀ k, k ≠ g → k ≠ kb → c.heap[k]? = a.heap[k]?
theorem wrote_1 {a : World} {g kb n j : Nat} {T : TypeId} {cur ck : Array Value} {V : Value} (h : Blk g 26 cur a) (hk : Blk kb T ck a) (hne : g ≠ kb) (x0 x1 x2 x3 x4 x5 x6 : Value) :
    Wrote a ((put7n a g (n * 7) x0 x1 x2 x3 x4 x5 x6).setCell ⟨kb, j, none⟩ V) g kb T (((((((cur.setIfInBounds (n * 7) x0).setIfInBounds (n * 7 + 1) x1).setIfInBounds (n * 7 + 2) x2).setIfInBounds (n * 7 + 3) x3).setIfInBounds (n * 7 + 4) x4).setIfInBounds (n * 7 + 5) x5).setIfInBounds (n * 7 + 6) x6) (ck.setIfInBounds j V) := by
  have h1 := put7n_os a g (n * 7) x0 x1 x2 x3 x4 x5 x6
  have h2 := put7n_size a g (n * 7) x0 x1 x2 x3 x4 x5 x6
  have h3 := put7n_blk (i := n * 7) h x0 x1 x2 x3 x4 x5 x6
  have h4 := fun k (hk : k ≠ g) => put7n_rest (w := a) (i := n * 7) hk x0 x1 x2 x3 x4 x5 x6
  generalize put7n a g (n * 7) x0 x1 x2 x3 x4 x5 x6 = u at *
  exact ⟨h1.1, h1.2.1, h1.2.2, by simpa [World.setCell] using h2, (Below.heap_setCell _ _ _ _ hne).trans h3, blk_set ((h4 kb (Ne.symm hne)).trans hk) _ _, fun k h5 h6 => (Below.heap_setCell _ _ _ _ h6).trans (h4 k h5)⟩
theorem wrote_2 {a : World} {g kb n j : Nat} {T : TypeId} {cur ck : Array Value} {V : Value} (h : Blk g 26 cur a) (hk : Blk kb T ck a) (hne : g ≠ kb) (x0 x1 x2 x3 x4 x5 x6 : Value) :
    Wrote a (put7n (a.setCell ⟨kb, j, none⟩ V) g (n * 7) x0 x1 x2 x3 x4 x5 x6) g kb T (((((((cur.setIfInBounds (n * 7) x0).setIfInBounds (n * 7 + 1) x1).setIfInBounds (n * 7 + 2) x2).setIfInBounds (n * 7 + 3) x3).setIfInBounds (n * 7 + 4) x4).setIfInBounds (n * 7 + 5) x5).setIfInBounds (n * 7 + 6) x6) (ck.setIfInBounds j V) := by
  have e1 : (a.setCell ⟨kb, j, none⟩ V).os = a.os ∧ (a.setCell ⟨kb, j, none⟩ V).tape = a.tape ∧ (a.setCell ⟨kb, j, none⟩ V).output = a.output ∧ (a.setCell ⟨kb, j, none⟩ V).heap.size = a.heap.size := by simp [World.setCell]
  have e2 : Blk g 26 cur (a.setCell ⟨kb, j, none⟩ V) := (Below.heap_setCell _ _ _ _ hne).trans h
  have e3 := blk_set hk j V
  have e4 : ∀ k, k ≠ kb → (a.setCell ⟨kb, j, none⟩ V).heap[k]? = a.heap[k]? := fun k hk => Below.heap_setCell _ _ _ _ hk
  generalize a.setCell ⟨kb, j, none⟩ V = u at *
  have h1 := put7n_os u g (n * 7) x0 x1 x2 x3 x4 x5 x6
  have h2 := put7n_size u g (n * 7) x0 x1 x2 x3 x4 x5 x6
  have h3 := put7n_blk (i := n * 7) e2 x0 x1 x2 x3 x4 x5 x6
  have h4 := fun k (hk : k ≠ g) => put7n_rest (w := u) (i := n * 7) hk x0 x1 x2 x3 x4 x5 x6
  generalize put7n u g (n * 7) x0 x1 x2 x3 x4 x5 x6 = c at *
  exact ⟨h1.1.trans e1.1, h1.2.1.trans e1.2.1, h1.2.2.trans e1.2.2.1, h2.trans e1.2.2.2, h3, (h4 kb (Ne.symm hne)).trans e3, fun k h5 h6 => (h4 k h5).trans (e4 k h6)⟩
theorem Wrote.below {a c : World} {g kb B : Nat} {T : TypeId} {cg ck : Array Value} (h : Wrote a c g kb T cg ck) (h1 : B ≤ g) (h2 : B ≤ kb) : Below B a c :=
  ⟨h.os, h.tape, h.output, by rw [h.size]; exact Nat.le_refl _, fun k hk => h.rest k (by omega) (by omega)⟩
theorem Wrote.butlo {a c : World} {g kb lo P : Nat} {T : TypeId} {cg ck : Array Value} (h : Wrote a c g kb T cg ck) (h1 : lo ≤ g) (h2 : lo ≤ kb) : ButLo lo P a c :=
  ⟨h.os, h.tape, h.output, by rw [h.size]; exact Nat.le_refl _, fun k hk _ => h.rest k (by omega) (by omega)⟩

set_option linter.unusedSimpArgs false in
set_option linter.unusedVariables false in
set_option maxRecDepth 100000 in
set_option maxHeartbeats 12800000 in
theorem call1_bad (P kb pb lo : Nat) (L l : List Tok) (ok : Nat → Prop) (C : C1 P kb pb lo ok) (v : Value) (ks : List Nd) (w : World) (hkl : ks.length ≤ 40) (hlw : lo ≤ w.heap.size)
    (H : Hid (PSt P L w l)) (HK : Hid (Blk kb 24 #[v] w)) (HQ : Hid (Blk pb 32 #[.pointer (some ⟨P, 0, none⟩)] w)) (HRw : Hid (KRow lo ok w v ks)) (l' : List Tok)
    (HC : Hid (∀ w', Hid (PSt P L w' l) → Calls Tryd.prog 43 #[.pointer (some ⟨P, 0, none⟩)] w' (Reads P L w' (.bad l')))) :
    Calls Tryd.prog 81 #[.pointer (some ⟨kb, 0, none⟩), .pointer (some ⟨pb, 0, none⟩)] w (ReadsK P kb pb lo L ok ks w (.bad l')) := by
  obtain ⟨ao, cap, rfl⟩ := krow_shape HRw.out
  have DR := (Below.refl w.heap.size w).drew
  have S0 := hid (H.out.on DR)
  have K0 := hid (blk_on HK.out DR)
  have Q0 := hid (blk_on HQ.out DR)
  have R0 := hid (krow_below HRw.out DR)
  have B0 := hid (ButLo.of (lo := lo) (But.of (P := P) DR) hlw)
  have hkP : P < kb := by have := C.k; have := C.p; omega
  have hqP : P < pb := by have := C.q; have := C.p; omega
  have hP : P < lo := C.p
  clear H HK HQ HRw DR
  go_enter Tryd.func81, Tryd.ntmps81
  go_wp2_with fail
  refine wp_region_held_drew (S := (fun a => a.cell? ⟨pb, 0, none⟩ = some (.pointer (some ⟨P, 0, none⟩)))) (by kernel_rfl) ?_ (fun hHeld => ?_)
  · exact (blk_cell Q0.out 0).trans rfl
  obtain ⟨w0, hw0⟩ : ∃ w0, w.drew = w0 := ⟨_, rfl⟩
  rw [hw0] at hHeld S0 K0 Q0 R0 B0 ⊢
  have hz0 : w.heap.size = w0.heap.size := by rw [← hw0]; rfl
  clear hw0
  refine wpAnyH_take (i := 1) (v := ?vk1) rfl (by kernel_rfl) (by kernel_rfl) (by kernel_rfl) (fun _ _ _ h => h) (Or.inl ⟨by rfl, ?hyk1⟩) (by assumption) ?_
  case hyk1 => (intro w hSw; go_simp <;> (try with_reducible rfl))
  simp only [Act.put, List.setIfInBounds_toArray, List.set_cons_zero, List.set_cons_succ, List.getElem_toArray, List.getElem_cons_succ, List.getElem_cons_zero]
  refine wpAnyH_ready (rs := [0, 2, 4]) (by kernel_rfl) (by simp) ?_
  refine AllReadyH.cons rfl (fun K hK => ?_) (AllReadyH.cons rfl (fun K hK => ?_) (AllReadyH.cons rfl (fun K hK => ?_) AllReadyH.nil))
  · have HK := hid hK
    clear hK
    have k0 := blk_cell K0.out 0
    simp at k0
    go_simp
    refine HK.out.out _ _ ?_ (fun hHeld => ?_)
    · exact (blk_cell Q0.out 0).trans rfl
    clear HK K k0
    refine wpAnyH_take (i := 3) (v := ?vk2) rfl (by kernel_rfl) (by kernel_rfl) (by kernel_rfl) (fun _ _ _ h => h) (Or.inl ⟨by rfl, ?hyk2⟩) (by assumption) ?_
    case hyk2 => (intro w hSw; go_simp <;> (try with_reducible rfl))
    simp only [Act.put, List.setIfInBounds_toArray, List.set_cons_zero, List.set_cons_succ, List.getElem_toArray, List.getElem_cons_succ, List.getElem_cons_zero]
    refine wpAnyH_ready (rs := [2, 4]) (by kernel_rfl) (by simp) ?_
    refine AllReadyH.cons rfl (fun K hK => ?_) (AllReadyH.cons rfl (fun K hK => ?_) AllReadyH.nil)
    · clear hK
      go_simp
      refine (HC.out _ S0).mono ?_
      rintro e3 w1 ⟨rfl, s3, b3⟩
      have S1 := hid s3
      have B1 := hid (B0.out.trans (ButLo.of b3 (by have := B0.out.size; omega)))
      clear s3 b3
      unfold gaveUp
      go_wp2_with fail
      exact ⟨rfl, rfl, S1.out, B1.out⟩
    · have HK := hid hK
      clear hK
      go_simp
      have AZ := (Below.refl _ w0).alloc (Nat.le_refl _) (.cells #[.int .i64 0, .int .i64 0, .int .i64 0, .string ⟨#[]⟩, .slice none 0 0, .slice none 0 0, .int .i64 0] 26)
      have Y2 := hid (blk_new w0 26 #[.int .i64 0, .int .i64 0, .int .i64 0, .string ⟨#[]⟩, .slice none 0 0, .slice none 0 0, .int .i64 0])
      have S2 := hid (S0.out.on AZ)
      have K2 := hid (blk_on K0.out AZ)
      have Q2 := hid (blk_on Q0.out AZ)
      have R2 := hid (krow_below R0.out AZ)
      have B2 := hid (B0.out.trans (ButLo.of (But.of (P := P) AZ) (by have := B0.out.size; omega)))
      obtain ⟨w2, hw2⟩ : ∃ w2, w0.alloc (.cells #[.int .i64 0, .int .i64 0, .int .i64 0, .string ⟨#[]⟩, .slice none 0 0, .slice none 0 0, .int .i64 0] 26) = w2 := ⟨_, rfl⟩
      rw [hw2] at AZ Y2 S2 K2 Q2 R2 B2 ⊢
      have hz2 : w2.heap.size = w0.heap.size + 1 := by rw [← hw2]; simp
      refine HK.out.out _ _ ?_ (fun hHeld => ?_)
      · exact (blk_cell Q2.out 0).trans rfl
      clear HK K AZ hw2 S0 K0 Q0 R0 B0
      refine wpAnyH_ready (rs := [2]) (by kernel_rfl) (by simp) ?_
      refine AllReadyH.cons rfl (fun K hK => ?_) AllReadyH.nil
      · clear hK
        go_simp
        refine (HC.out _ S2).mono ?_
        rintro e3 w3 ⟨rfl, s3, b3⟩
        have S3 := hid s3
        have B3 := hid (B2.out.trans (ButLo.of b3 (by have := B2.out.size; omega)))
        clear s3 b3
        unfold gaveUp
        go_wp2_with fail
        exact ⟨rfl, rfl, S3.out, B3.out⟩
  · clear hK
    go_simp
    refine (HC.out _ S0).mono ?_
    rintro e3 w4 ⟨rfl, s3, b3⟩
    have S4 := hid s3
    have B4 := hid (B0.out.trans (ButLo.of b3 (by have := B0.out.size; omega)))
    clear s3 b3
    unfold gaveUp
    go_wp2_with fail
    exact ⟨rfl, rfl, S4.out, B4.out⟩
  · have HK := hid hK
    clear hK
    go_simp
    have AZ := (Below.refl _ w0).alloc (Nat.le_refl _) (.cells #[.int .i64 0, .int .i64 0, .int .i64 0, .string ⟨#[]⟩, .slice none 0 0, .slice none 0 0, .int .i64 0] 26)
    have Y5 := hid (blk_new w0 26 #[.int .i64 0, .int .i64 0, .int .i64 0, .string ⟨#[]⟩, .slice none 0 0, .slice none 0 0, .int .i64 0])
    have S5 := hid (S0.out.on AZ)
    have K5 := hid (blk_on K0.out AZ)
    have Q5 := hid (blk_on Q0.out AZ)
    have R5 := hid (krow_below R0.out AZ)
    have B5 := hid (B0.out.trans (ButLo.of (But.of (P := P) AZ) (by have := B0.out.size; omega)))
    obtain ⟨w5, hw5⟩ : ∃ w5, w0.alloc (.cells #[.int .i64 0, .int .i64 0, .int .i64 0, .string ⟨#[]⟩, .slice none 0 0, .slice none 0 0, .int .i64 0] 26) = w5 := ⟨_, rfl⟩
    rw [hw5] at AZ Y5 S5 K5 Q5 R5 B5 ⊢
    have hz5 : w5.heap.size = w0.heap.size + 1 := by rw [← hw5]; simp
    refine HK.out.out _ _ ?_ (fun hHeld => ?_)
    · exact (blk_cell Q5.out 0).trans rfl
    clear HK K AZ hw5 S0 K0 Q0 R0 B0
    refine wpAnyH_ready (rs := [0, 2]) (by kernel_rfl) (by simp) ?_
    refine AllReadyH.cons rfl (fun K hK => ?_) (AllReadyH.cons rfl (fun K hK => ?_) AllReadyH.nil)
    · have HK := hid hK
      clear hK
      have k0 := blk_cell K5.out 0
      simp at k0
      go_simp
      refine HK.out.out _ _ ?_ (fun hHeld => ?_)
      · exact (blk_cell Q5.out 0).trans rfl
      clear HK K k0
      refine wpAnyH_take (i := 3) (v := ?vk3) rfl (by kernel_rfl) (by kernel_rfl) (by kernel_rfl) (fun _ _ _ h => h) (Or.inl ⟨by rfl, ?hyk3⟩) (by assumption) ?_
      case hyk3 => (intro w hSw; go_simp <;> (try with_reducible rfl))
      simp only [Act.put, List.setIfInBounds_toArray, List.set_cons_zero, List.set_cons_succ, List.getElem_toArray, List.getElem_cons_succ, List.getElem_cons_zero]
      refine wpAnyH_ready (rs := [2]) (by kernel_rfl) (by simp) ?_
      refine AllReadyH.cons rfl (fun K hK => ?_) AllReadyH.nil
      · clear hK
        go_simp
        refine (HC.out _ S5).mono ?_
        rintro e3 w6 ⟨rfl, s3, b3⟩
        have S6 := hid s3
        have B6 := hid (B5.out.trans (ButLo.of b3 (by have := B5.out.size; omega)))
        clear s3 b3
        unfold gaveUp
        go_wp2_with fail
        exact ⟨rfl, rfl, S6.out, B6.out⟩
    · clear hK
      go_simp
      refine (HC.out _ S5).mono ?_
      rintro e3 w7 ⟨rfl, s3, b3⟩
      have S7 := hid s3
      have B7 := hid (B5.out.trans (ButLo.of b3 (by have := B5.out.size; omega)))
      clear s3 b3
      unfold gaveUp
      go_wp2_with fail
      exact ⟨rfl, rfl, S7.out, B7.out⟩

set_option linter.unusedSimpArgs false in
set_option linter.unusedVariables false in
set_option maxRecDepth 100000 in
set_option maxHeartbeats 12800000 in
theorem call1_ok (P kb pb lo : Nat) (L l : List Tok) (ok : Nat → Prop) (C : C1 P kb pb lo ok) (v : Value) (ks : List Nd) (w : World) (hkl : ks.length ≤ 40) (hlw : lo ≤ w.heap.size)
    (H : Hid (PSt P L w l)) (HK : Hid (Blk kb 24 #[v] w)) (HQ : Hid (Blk pb 32 #[.pointer (some ⟨P, 0, none⟩)] w)) (HRw : Hid (KRow lo ok w v ks)) (x : Nd) (b : Bool) (l' : List Tok)
    (HC : Hid (∀ w', Hid (PSt P L w' l) → Calls Tryd.prog 43 #[.pointer (some ⟨P, 0, none⟩)] w' (Reads P L w' (.ok x b l')))) :
    Calls Tryd.prog 81 #[.pointer (some ⟨kb, 0, none⟩), .pointer (some ⟨pb, 0, none⟩)] w (ReadsK P kb pb lo L ok ks w (.ok x b l')) := by
  obtain ⟨ao, cap, rfl⟩ := krow_shape HRw.out
  have DR := (Below.refl w.heap.size w).drew
  have S0 := hid (H.out.on DR)
  have K0 := hid (blk_on HK.out DR)
  have Q0 := hid (blk_on HQ.out DR)
  have R0 := hid (krow_below HRw.out DR)
  have B0 := hid (ButLo.of (lo := lo) (But.of (P := P) DR) hlw)
  have hkP : P < kb := by have := C.k; have := C.p; omega
  have hqP : P < pb := by have := C.q; have := C.p; omega
  have hP : P < lo := C.p
  clear H HK HQ HRw DR
  go_enter Tryd.func81, Tryd.ntmps81
  go_wp2_with fail
  refine wp_region_held_drew (S := (fun a => a.cell? ⟨pb, 0, none⟩ = some (.pointer (some ⟨P, 0, none⟩)))) (by kernel_rfl) ?_ (fun hHeld => ?_)
  · exact (blk_cell Q0.out 0).trans rfl
  obtain ⟨w0, hw0⟩ : ∃ w0, w.drew = w0 := ⟨_, rfl⟩
  rw [hw0] at hHeld S0 K0 Q0 R0 B0 ⊢
  have hz0 : w.heap.size = w0.heap.size := by rw [← hw0]; rfl
  clear hw0
  refine wpAnyH_take (i := 1) (v := ?vk4) rfl (by kernel_rfl) (by kernel_rfl) (by kernel_rfl) (fun _ _ _ h => h) (Or.inl ⟨by rfl, ?hyk4⟩) (by assumption) ?_
  case hyk4 => (intro w hSw; go_simp <;> (try with_reducible rfl))
  simp only [Act.put, List.setIfInBounds_toArray, List.set_cons_zero, List.set_cons_succ, List.getElem_toArray, List.getElem_cons_succ, List.getElem_cons_zero]
  refine wpAnyH_ready (rs := [0, 2, 4]) (by kernel_rfl) (by simp) ?_
  refine AllReadyH.cons rfl (fun K hK => ?_) (AllReadyH.cons rfl (fun K hK => ?_) (AllReadyH.cons rfl (fun K hK => ?_) AllReadyH.nil))
  · have HK := hid hK
    clear hK
    have k0 := blk_cell K0.out 0
    simp at k0
    go_simp
    refine HK.out.out _ _ ?_ (fun hHeld => ?_)
    · exact (blk_cell Q0.out 0).trans rfl
    clear HK K k0
    refine wpAnyH_take (i := 3) (v := ?vk5) rfl (by kernel_rfl) (by kernel_rfl) (by kernel_rfl) (fun _ _ _ h => h) (Or.inl ⟨by rfl, ?hyk5⟩) (by assumption) ?_
    case hyk5 => (intro w hSw; go_simp <;> (try with_reducible rfl))
    simp only [Act.put, List.setIfInBounds_toArray, List.set_cons_zero, List.set_cons_succ, List.getElem_toArray, List.getElem_cons_succ, List.getElem_cons_zero]
    refine wpAnyH_ready (rs := [2, 4]) (by kernel_rfl) (by simp) ?_
    refine AllReadyH.cons rfl (fun K hK => ?_) (AllReadyH.cons rfl (fun K hK => ?_) AllReadyH.nil)
    · have HK := hid hK
      clear hK
      go_simp
      refine (HC.out _ S0).mono ?_
      rintro e3 w1 ⟨⟨nv3, kv3, rfl, n3⟩, s3, b3⟩
      obtain ⟨f1, g1, f2, g2, rfl, rfl⟩ := ndR_shape n3
      have N1 := hid (ndR_els (ok := ok) (v := (.slice ao ks.length cap)) n3 (fun b hb => C.up b (by have := blk_lt K0.out; omega) (by have := blk_lt Q0.out; omega)) (fun g hg => ((krow_own R0.out) g hg).2.2))
      have S1 := hid s3
      have K1 := hid (blk_but K0.out b3 (by omega))
      have Q1 := hid (blk_but Q0.out b3 (by omega))
      have R1 := hid (krow_but R0.out b3 C.np)
      have B1 := hid (B0.out.trans (ButLo.of b3 (by have := B0.out.size; omega)))
      have hz1 : w0.heap.size ≤ w1.heap.size := b3.size
      clear s3 b3 n3 S0 K0 Q0 R0 B0
      unfold ndv
      simp only
      refine HK.out.out _ _ ?_ (fun hHeld => ?_)
      · exact (blk_cell Q1.out 0).trans rfl
      clear HK K
      refine wpAnyH_ready (rs := [4]) (by kernel_rfl) (by simp) ?_
      refine AllReadyH.cons rfl (fun K hK => ?_) AllReadyH.nil
      · have HK := hid hK
        clear hK
        go_simp
        have AZ := (Below.refl _ w1).alloc (Nat.le_refl _) (.cells #[.int .i64 0, .int .i64 0, .int .i64 0, .string ⟨#[]⟩, .slice none 0 0, .slice none 0 0, .int .i64 0] 26)
        have Y2 := hid (blk_new w1 26 #[.int .i64 0, .int .i64 0, .int .i64 0, .string ⟨#[]⟩, .slice none 0 0, .slice none 0 0, .int .i64 0])
        have S2 := hid (S1.out.on AZ)
        have K2 := hid (blk_on K1.out AZ)
        have Q2 := hid (blk_on Q1.out AZ)
        have R2 := hid (krow_below R1.out AZ)
        have B2 := hid (B1.out.trans (ButLo.of (But.of (P := P) AZ) (by have := B1.out.size; omega)))
        have N2 := hid (ndW_els N1.out AZ)
        obtain ⟨w2, hw2⟩ : ∃ w2, w1.alloc (.cells #[.int .i64 0, .int .i64 0, .int .i64 0, .string ⟨#[]⟩, .slice none 0 0, .slice none 0 0, .int .i64 0] 26) = w2 := ⟨_, rfl⟩
        rw [hw2] at AZ Y2 S2 K2 Q2 R2 B2 N2 ⊢
        have hz2 : w2.heap.size = w1.heap.size + 1 := by rw [← hw2]; simp
        refine HK.out.out _ _ ?_ (fun hHeld => ?_)
        · exact (blk_cell Q2.out 0).trans rfl
        clear HK K AZ hw2 S1 K1 Q1 R1 B1 N1
        refine wpAnyH_ready (rs := [5]) (by kernel_rfl) (by simp) ?_
        refine AllReadyH.cons rfl (fun K hK => ?_) AllReadyH.nil
        have HK := hid hK
        clear hK
        obtain ⟨cs, hown, hr, hg⟩ := R2.out
        obtain ⟨i0, hi, hz0, hz1, hz2⟩ := infoN
        have hsz := B2.out.size
        refine step_append_lies _ rfl _ _ 24 rfl lo 26 i0 _ 7 96 underN hi hz0 hz1 hz2 rfl (by decide) (.slice ao ks.length cap) _ cs (by rfl) hown ⟨w1.heap.size, 0, none⟩ 1 1 zl (by rfl) rfl (zl_cells Y2.out) zl_one (by decide) (by unfold maxLen; omega) (by omega) (by omega) _ rfl ?_
        intro g cap2 w3 hown' hgrow hat hlt
        have AP := hid (nput_at hown' hgrow hat R2.out (by omega) (blk_lt K2.out) (blk_lt Q2.out) C.nk C.nq)
        have S3 := hid (pst_low S2.out (grown_low hgrow (by omega) (fun k hk => by have := ((krow_own R2.out) k hk).2.1; omega)))
        have K3 := hid (blk_grown K2.out hgrow (fun e => C.nk (((krow_own R2.out) _ e.symm).1)))
        have Q3 := hid (blk_grown Q2.out hgrow (fun e => C.nq (((krow_own R2.out) _ e.symm).1)))
        have B3 := hid (B2.out.trans (ButLo.grown hgrow (by omega) (fun k hk => ((krow_own R2.out) k hk).2.1)))
        have PU := hid (nput_row (x := x) (nv := .slice f1 x.names.length g1) (kv := .slice f2 x.kids.length g2) hown' hgrow hat hr hg N2.out (fun k hk => C.up k (by have := blk_lt K2.out; omega) (by have := blk_lt Q2.out; omega)) (by omega))
        obtain ⟨cur, hcur, hcs⟩ := AP.out.blk
        obtain ⟨⟨_, e0⟩, ⟨_, e1⟩, ⟨_, e2⟩, ⟨_, e3⟩, ⟨_, e4⟩, ⟨_, e5⟩, ⟨_, e6⟩⟩ := cellsN hcur hcs
        obtain ⟨u0, u1, u2, u3, u4, u5, u6⟩ := freesN hcur ks.length
        have hgl : lo ≤ g := AP.out.lo
        have hgk : g ≠ kb := AP.out.nk
        have hgp : g ≠ pb := AP.out.nq
        have hqk : pb ≠ kb := Ne.symm C.ne
        have hidx : (ks.length : Int) < (ks.length : Int) + 1 := by omega
        clear hown hr hg hi hz0 hz1 hz2 i0 hown' hgrow hat hlt Y2 R2 N2 S2 K2 Q2 B2
        refine HK.out.out _ _ ?_ (fun hHeld => ?_)
        · exact (blk_cell Q3.out 0).trans rfl
        clear HK K
        refine wpAnyH_take (i := 6) (v := ?vk6) rfl (by kernel_rfl) (by kernel_rfl) (by kernel_rfl) (fun _ _ _ h => h) (Or.inl ⟨by rfl, ?hyk6⟩) (by assumption) ?_
        case hyk6 => (intro w hSw; go_simp <;> (try with_reducible rfl))
        simp only [Act.put, List.setIfInBounds_toArray, List.set_cons_zero, List.set_cons_succ, List.getElem_toArray, List.getElem_cons_succ, List.getElem_cons_zero]
        refine wpAnyH_ready (rs := [7, 8]) (by kernel_rfl) (by simp) ?_
        refine AllReadyH.cons rfl (fun K hK => ?_) (AllReadyH.cons rfl (fun K hK => ?_) AllReadyH.nil)
        · have HK := hid hK
          clear hK
          go_simp
          refine HK.out.out _ _ ?_ (fun hHeld => ?_)
          · exact (put7n_cell (g := g) (i := ks.length * 7) (blk_cell Q3.out 0) (Ne.symm hgp) (.int .i64 x.kind) (.int .i64 x.op) (.int .i64 x.num) (.string x.str) (.slice f1 x.names.length g1) (.slice f2 x.kids.length g2) (.int .i64 x.pl)).trans rfl
          clear HK K
          refine wpAnyH_ready (rs := [8]) (by kernel_rfl) (by simp) ?_
          refine AllReadyH.cons rfl (fun K hK => ?_) AllReadyH.nil
          have HK := hid hK
          clear hK
          have k0 := put7n_cell (g := g) (i := ks.length * 7) (blk_cell K3.out 0) (Ne.symm hgk) (.int .i64 x.kind) (.int .i64 x.op) (.int .i64 x.num) (.string x.str) (.slice f1 x.names.length g1) (.slice f2 x.kids.length g2) (.int .i64 x.pl)
          have z0 := put7n_free (g := g) (i := ks.length * 7) (blk_free K3.out 0) (Ne.symm hgk) (.int .i64 x.kind) (.int .i64 x.op) (.int .i64 x.num) (.string x.str) (.slice f1 x.names.length g1) (.slice f2 x.kids.length g2) (.int .i64 x.pl)
          unfold put7n at k0 z0
          simp at k0
          go_simp
          refine HK.out.out _ _ ?_ (fun hHeld => ?_)
          · exact ((World.cell?_of_block (w := put7n w3 g (ks.length * 7) (.int .i64 x.kind) (.int .i64 x.op) (.int .i64 x.num) (.string x.str) (.slice f1 x.names.length g1) (.slice f2 x.kids.length g2) (.int .i64 x.pl)) (Below.heap_setCell _ _ _ _ hqk)).trans (put7n_cell (g := g) (i := ks.length * 7) (blk_cell Q3.out 0) (Ne.symm hgp) (.int .i64 x.kind) (.int .i64 x.op) (.int .i64 x.num) (.string x.str) (.slice f1 x.names.length g1) (.slice f2 x.kids.length g2) (.int .i64 x.pl))).trans rfl
          clear HK K
          refine wpAnyH_done (by kernel_rfl) ?_ _
          have WR := wrote_1 (n := ks.length) (j := 0) (V := .slice (some ⟨g, 0, none⟩) (ks.length + 1) cap2) hcur K3.out hgk (.int .i64 x.kind) (.int .i64 x.op) (.int .i64 x.num) (.string x.str) (.slice f1 x.names.length g1) (.slice f2 x.kids.length g2) (.int .i64 x.pl)
          unfold put7n at WR
          go_end0
          exact ⟨rfl, ⟨_, WR.hk, PU.out _ cur hcur WR.hg (by rw [WR.size]; omega) (fun k hk hk2 hk3 => WR.rest k hk3 (fun e => C.nk (e ▸ hk)))⟩, (WR.rest pb (Ne.symm hgp) (Ne.symm C.ne)).trans Q3.out, pst_low S3.out (WR.below (by omega) (by omega)), B3.out.trans (WR.butlo hgl C.k)⟩
        · have HK := hid hK
          clear hK
          have k0 := blk_cell K3.out 0
          have z0 := blk_free K3.out 0
          simp at k0
          go_simp
          refine HK.out.out _ _ ?_ (fun hHeld => ?_)
          · exact ((World.cell?_of_block (w := w3) (Below.heap_setCell _ _ _ _ hqk)).trans (blk_cell Q3.out 0)).trans rfl
          clear HK K
          refine wpAnyH_ready (rs := [7]) (by kernel_rfl) (by simp) ?_
          refine AllReadyH.cons rfl (fun K hK => ?_) AllReadyH.nil
          have HK := hid hK
          clear hK
          have hcur2 := (show Blk g 26 cur (w3.setCell ⟨kb, 0, none⟩ (.slice (some ⟨g, 0, none⟩) (ks.length + 1) cap2)) from (Below.heap_setCell _ _ _ _ hgk).trans hcur)
          obtain ⟨⟨_, e0⟩, ⟨_, e1⟩, ⟨_, e2⟩, ⟨_, e3⟩, ⟨_, e4⟩, ⟨_, e5⟩, ⟨_, e6⟩⟩ := cellsN hcur2 hcs
          obtain ⟨u0, u1, u2, u3, u4, u5, u6⟩ := freesN hcur2 ks.length
          go_simp
          refine HK.out.out _ _ ?_ (fun hHeld => ?_)
          · exact (put7n_cell (g := g) (i := ks.length * 7) ((World.cell?_of_block (w := w3) (Below.heap_setCell _ _ _ _ hqk)).trans (blk_cell Q3.out 0)) (Ne.symm hgp) (.int .i64 x.kind) (.int .i64 x.op) (.int .i64 x.num) (.string x.str) (.slice f1 x.names.length g1) (.slice f2 x.kids.length g2) (.int .i64 x.pl)).trans rfl
          clear HK K
          refine wpAnyH_done (by kernel_rfl) ?_ _
          have WR := wrote_2 (n := ks.length) (j := 0) (V := .slice (some ⟨g, 0, none⟩) (ks.length + 1) cap2) hcur K3.out hgk (.int .i64 x.kind) (.int .i64 x.op) (.int .i64 x.num) (.string x.str) (.slice f1 x.names.length g1) (.slice f2 x.kids.length g2) (.int .i64 x.pl)
          unfold put7n at WR
          go_end0
          exact ⟨rfl, ⟨_, WR.hk, PU.out _ cur hcur WR.hg (by rw [WR.size]; omega) (fun k hk hk2 hk3 => WR.rest k hk3 (fun e => C.nk (e ▸ hk)))⟩, (WR.rest pb (Ne.symm hgp) (Ne.symm C.ne)).trans Q3.out, pst_low S3.out (WR.below (by omega) (by omega)), B3.out.trans (WR.butlo hgl C.k)⟩
    · have HK := hid hK
      clear hK
      go_simp
      have AZ := (Below.refl _ w0).alloc (Nat.le_refl _) (.cells #[.int .i64 0, .int .i64 0, .int .i64 0, .string ⟨#[]⟩, .slice none 0 0, .slice none 0 0, .int .i64 0] 26)
      have Y4 := hid (blk_new w0 26 #[.int .i64 0, .int .i64 0, .int .i64 0, .string ⟨#[]⟩, .slice none 0 0, .slice none 0 0, .int .i64 0])
      have S4 := hid (S0.out.on AZ)
      have K4 := hid (blk_on K0.out AZ)
      have Q4 := hid (blk_on Q0.out AZ)
      have R4 := hid (krow_below R0.out AZ)
      have B4 := hid (B0.out.trans (ButLo.of (But.of (P := P) AZ) (by have := B0.out.size; omega)))
      obtain ⟨w4, hw4⟩ : ∃ w4, w0.alloc (.cells #[.int .i64 0, .int .i64 0, .int .i64 0, .string ⟨#[]⟩, .slice none 0 0, .slice none 0 0, .int .i64 0] 26) = w4 := ⟨_, rfl⟩
      rw [hw4] at AZ Y4 S4 K4 Q4 R4 B4 ⊢
      have hz4 : w4.heap.size = w0.heap.size + 1 := by rw [← hw4]; simp
      refine HK.out.out _ _ ?_ (fun hHeld => ?_)
      · exact (blk_cell Q4.out 0).trans rfl
      clear HK K AZ hw4 S0 K0 Q0 R0 B0
      refine wpAnyH_ready (rs := [2]) (by kernel_rfl) (by simp) ?_
      refine AllReadyH.cons rfl (fun K hK => ?_) AllReadyH.nil
      · have HK := hid hK
        clear hK
        go_simp
        refine (HC.out _ S4).mono ?_
        rintro e3 w5 ⟨⟨nv3, kv3, rfl, n3⟩, s3, b3⟩
        obtain ⟨f1, g1, f2, g2, rfl, rfl⟩ := ndR_shape n3
        have N5 := hid (ndR_els (ok := ok) (v := (.slice ao ks.length cap)) n3 (fun b hb => C.up b (by have := blk_lt K4.out; omega) (by have := blk_lt Q4.out; omega)) (fun g hg => ((krow_own R4.out) g hg).2.2))
        have S5 := hid s3
        have K5 := hid (blk_but K4.out b3 (by omega))
        have Q5 := hid (blk_but Q4.out b3 (by omega))
        have R5 := hid (krow_but R4.out b3 C.np)
        have B5 := hid (B4.out.trans (ButLo.of b3 (by have := B4.out.size; omega)))
        have Y5 := hid (blk_but Y4.out b3 (by have := B4.out.size; omega))
        have hz5 : w4.heap.size ≤ w5.heap.size := b3.size
        clear s3 b3 n3 S4 K4 Q4 R4 B4 Y4
        unfold ndv
        simp only
        refine HK.out.out _ _ ?_ (fun hHeld => ?_)
        · exact (blk_cell Q5.out 0).trans rfl
        clear HK K
        refine wpAnyH_ready (rs := [5]) (by kernel_rfl) (by simp) ?_
        refine AllReadyH.cons rfl (fun K hK => ?_) AllReadyH.nil
        have HK := hid hK
        clear hK
        obtain ⟨cs, hown, hr, hg⟩ := R5.out
        obtain ⟨i0, hi, hz0, hz1, hz2⟩ := infoN
        have hsz := B5.out.size
        refine step_append_lies _ rfl _ _ 24 rfl lo 26 i0 _ 7 96 underN hi hz0 hz1 hz2 rfl (by decide) (.slice ao ks.length cap) _ cs (by rfl) hown ⟨w0.heap.size, 0, none⟩ 1 1 zl (by rfl) rfl (zl_cells Y5.out) zl_one (by decide) (by unfold maxLen; omega) (by omega) (by omega) _ rfl ?_
        intro g cap2 w6 hown' hgrow hat hlt
        have AP := hid (nput_at hown' hgrow hat R5.out (by omega) (blk_lt K5.out) (blk_lt Q5.out) C.nk C.nq)
        have S6 := hid (pst_low S5.out (grown_low hgrow (by omega) (fun k hk => by have := ((krow_own R5.out) k hk).2.1; omega)))
        have K6 := hid (blk_grown K5.out hgrow (fun e => C.nk (((krow_own R5.out) _ e.symm).1)))
        have Q6 := hid (blk_grown Q5.out hgrow (fun e => C.nq (((krow_own R5.out) _ e.symm).1)))
        have B6 := hid (B5.out.trans (ButLo.grown hgrow (by omega) (fun k hk => ((krow_own R5.out) k hk).2.1)))
        have PU := hid (nput_row (x := x) (nv := .slice f1 x.names.length g1) (kv := .slice f2 x.kids.length g2) hown' hgrow hat hr hg N5.out (fun k hk => C.up k (by have := blk_lt K5.out; omega) (by have := blk_lt Q5.out; omega)) (by omega))
        obtain ⟨cur, hcur, hcs⟩ := AP.out.blk
        obtain ⟨⟨_, e0⟩, ⟨_, e1⟩, ⟨_, e2⟩, ⟨_, e3⟩, ⟨_, e4⟩, ⟨_, e5⟩, ⟨_, e6⟩⟩ := cellsN hcur hcs
        obtain ⟨u0, u1, u2, u3, u4, u5, u6⟩ := freesN hcur ks.length
        have hgl : lo ≤ g := AP.out.lo
        have hgk : g ≠ kb := AP.out.nk
        have hgp : g ≠ pb := AP.out.nq
        have hqk : pb ≠ kb := Ne.symm C.ne
        have hidx : (ks.length : Int) < (ks.length : Int) + 1 := by omega
        clear hown hr hg hi hz0 hz1 hz2 i0 hown' hgrow hat hlt Y5 R5 N5 S5 K5 Q5 B5
        refine HK.out.out _ _ ?_ (fun hHeld => ?_)
        · exact (blk_cell Q6.out 0).trans rfl
        clear HK K
        refine wpAnyH_take (i := 6) (v := ?vk7) rfl (by kernel_rfl) (by kernel_rfl) (by kernel_rfl) (fun _ _ _ h => h) (Or.inl ⟨by rfl, ?hyk7⟩) (by assumption) ?_
        case hyk7 => (intro w hSw; go_simp <;> (try with_reducible rfl))
        simp only [Act.put, List.setIfInBounds_toArray, List.set_cons_zero, List.set_cons_succ, List.getElem_toArray, List.getElem_cons_succ, List.getElem_cons_zero]
        refine wpAnyH_ready (rs := [7, 8]) (by kernel_rfl) (by simp) ?_
        refine AllReadyH.cons rfl (fun K hK => ?_) (AllReadyH.cons rfl (fun K hK => ?_) AllReadyH.nil)
        · have HK := hid hK
          clear hK
          go_simp
          refine HK.out.out _ _ ?_ (fun hHeld => ?_)
          · exact (put7n_cell (g := g) (i := ks.length * 7) (blk_cell Q6.out 0) (Ne.symm hgp) (.int .i64 x.kind) (.int .i64 x.op) (.int .i64 x.num) (.string x.str) (.slice f1 x.names.length g1) (.slice f2 x.kids.length g2) (.int .i64 x.pl)).trans rfl
          clear HK K
          refine wpAnyH_ready (rs := [8]) (by kernel_rfl) (by simp) ?_
          refine AllReadyH.cons rfl (fun K hK => ?_) AllReadyH.nil
          have HK := hid hK
          clear hK
          have k0 := put7n_cell (g := g) (i := ks.length * 7) (blk_cell K6.out 0) (Ne.symm hgk) (.int .i64 x.kind) (.int .i64 x.op) (.int .i64 x.num) (.string x.str) (.slice f1 x.names.length g1) (.slice f2 x.kids.length g2) (.int .i64 x.pl)
          have z0 := put7n_free (g := g) (i := ks.length * 7) (blk_free K6.out 0) (Ne.symm hgk) (.int .i64 x.kind) (.int .i64 x.op) (.int .i64 x.num) (.string x.str) (.slice f1 x.names.length g1) (.slice f2 x.kids.length g2) (.int .i64 x.pl)
          unfold put7n at k0 z0
          simp at k0
          go_simp
          refine HK.out.out _ _ ?_ (fun hHeld => ?_)
          · exact ((World.cell?_of_block (w := put7n w6 g (ks.length * 7) (.int .i64 x.kind) (.int .i64 x.op) (.int .i64 x.num) (.string x.str) (.slice f1 x.names.length g1) (.slice f2 x.kids.length g2) (.int .i64 x.pl)) (Below.heap_setCell _ _ _ _ hqk)).trans (put7n_cell (g := g) (i := ks.length * 7) (blk_cell Q6.out 0) (Ne.symm hgp) (.int .i64 x.kind) (.int .i64 x.op) (.int .i64 x.num) (.string x.str) (.slice f1 x.names.length g1) (.slice f2 x.kids.length g2) (.int .i64 x.pl))).trans rfl
          clear HK K
          refine wpAnyH_done (by kernel_rfl) ?_ _
          have WR := wrote_1 (n := ks.length) (j := 0) (V := .slice (some ⟨g, 0, none⟩) (ks.length + 1) cap2) hcur K6.out hgk (.int .i64 x.kind) (.int .i64 x.op) (.int .i64 x.num) (.string x.str) (.slice f1 x.names.length g1) (.slice f2 x.kids.length g2) (.int .i64 x.pl)
          unfold put7n at WR
          go_end0
          exact ⟨rfl, ⟨_, WR.hk, PU.out _ cur hcur WR.hg (by rw [WR.size]; omega) (fun k hk hk2 hk3 => WR.rest k hk3 (fun e => C.nk (e ▸ hk)))⟩, (WR.rest pb (Ne.symm hgp) (Ne.symm C.ne)).trans Q6.out, pst_low S6.out (WR.below (by omega) (by omega)), B6.out.trans (WR.butlo hgl C.k)⟩
        · have HK := hid hK
          clear hK
          have k0 := blk_cell K6.out 0
          have z0 := blk_free K6.out 0
          simp at k0
          go_simp
          refine HK.out.out _ _ ?_ (fun hHeld => ?_)
          · exact ((World.cell?_of_block (w := w6) (Below.heap_setCell _ _ _ _ hqk)).trans (blk_cell Q6.out 0)).trans rfl
          clear HK K
          refine wpAnyH_ready (rs := [7]) (by kernel_rfl) (by simp) ?_
          refine AllReadyH.cons rfl (fun K hK => ?_) AllReadyH.nil
          have HK := hid hK
          clear hK
          have hcur2 := (show Blk g 26 cur (w6.setCell ⟨kb, 0, none⟩ (.slice (some ⟨g, 0, none⟩) (ks.length + 1) cap2)) from (Below.heap_setCell _ _ _ _ hgk).trans hcur)
          obtain ⟨⟨_, e0⟩, ⟨_, e1⟩, ⟨_, e2⟩, ⟨_, e3⟩, ⟨_, e4⟩, ⟨_, e5⟩, ⟨_, e6⟩⟩ := cellsN hcur2 hcs
          obtain ⟨u0, u1, u2, u3, u4, u5, u6⟩ := freesN hcur2 ks.length
          go_simp
          refine HK.out.out _ _ ?_ (fun hHeld => ?_)
          · exact (put7n_cell (g := g) (i := ks.length * 7) ((World.cell?_of_block (w := w6) (Below.heap_setCell _ _ _ _ hqk)).trans (blk_cell Q6.out 0)) (Ne.symm hgp) (.int .i64 x.kind) (.int .i64 x.op) (.int .i64 x.num) (.string x.str) (.slice f1 x.names.length g1) (.slice f2 x.kids.length g2) (.int .i64 x.pl)).trans rfl
          clear HK K
          refine wpAnyH_done (by kernel_rfl) ?_ _
          have WR := wrote_2 (n := ks.length) (j := 0) (V := .slice (some ⟨g, 0, none⟩) (ks.length + 1) cap2) hcur K6.out hgk (.int .i64 x.kind) (.int .i64 x.op) (.int .i64 x.num) (.string x.str) (.slice f1 x.names.length g1) (.slice f2 x.kids.length g2) (.int .i64 x.pl)
          unfold put7n at WR
          go_end0
          exact ⟨rfl, ⟨_, WR.hk, PU.out _ cur hcur WR.hg (by rw [WR.size]; omega) (fun k hk hk2 hk3 => WR.rest k hk3 (fun e => C.nk (e ▸ hk)))⟩, (WR.rest pb (Ne.symm hgp) (Ne.symm C.ne)).trans Q6.out, pst_low S6.out (WR.below (by omega) (by omega)), B6.out.trans (WR.butlo hgl C.k)⟩
  · have HK := hid hK
    clear hK
    go_simp
    refine (HC.out _ S0).mono ?_
    rintro e3 w7 ⟨⟨nv3, kv3, rfl, n3⟩, s3, b3⟩
    obtain ⟨f1, g1, f2, g2, rfl, rfl⟩ := ndR_shape n3
    have N7 := hid (ndR_els (ok := ok) (v := (.slice ao ks.length cap)) n3 (fun b hb => C.up b (by have := blk_lt K0.out; omega) (by have := blk_lt Q0.out; omega)) (fun g hg => ((krow_own R0.out) g hg).2.2))
    have S7 := hid s3
    have K7 := hid (blk_but K0.out b3 (by omega))
    have Q7 := hid (blk_but Q0.out b3 (by omega))
    have R7 := hid (krow_but R0.out b3 C.np)
    have B7 := hid (B0.out.trans (ButLo.of b3 (by have := B0.out.size; omega)))
    have hz7 : w0.heap.size ≤ w7.heap.size := b3.size
    clear s3 b3 n3 S0 K0 Q0 R0 B0
    unfold ndv
    simp only
    refine HK.out.out _ _ ?_ (fun hHeld => ?_)
    · exact (blk_cell Q7.out 0).trans rfl
    clear HK K
    refine wpAnyH_ready (rs := [0, 4]) (by kernel_rfl) (by simp) ?_
    refine AllReadyH.cons rfl (fun K hK => ?_) (AllReadyH.cons rfl (fun K hK => ?_) AllReadyH.nil)
    · have HK := hid hK
      clear hK
      have k0 := blk_cell K7.out 0
      simp at k0
      go_simp
      refine HK.out.out _ _ ?_ (fun hHeld => ?_)
      · exact (blk_cell Q7.out 0).trans rfl
      clear HK K k0
      refine wpAnyH_take (i := 3) (v := ?vk8) rfl (by kernel_rfl) (by kernel_rfl) (by kernel_rfl) (fun _ _ _ h => h) (Or.inl ⟨by rfl, ?hyk8⟩) (by assumption) ?_
      case hyk8 => (intro w hSw; go_simp <;> (try with_reducible rfl))
      simp only [Act.put, List.setIfInBounds_toArray, List.set_cons_zero, List.set_cons_succ, List.getElem_toArray, List.getElem_cons_succ, List.getElem_cons_zero]
      refine wpAnyH_ready (rs := [4]) (by kernel_rfl) (by simp) ?_
      refine AllReadyH.cons rfl (fun K hK => ?_) AllReadyH.nil
      · have HK := hid hK
        clear hK
        go_simp
        have AZ := (Below.refl _ w7).alloc (Nat.le_refl _) (.cells #[.int .i64 0, .int .i64 0, .int .i64 0, .string ⟨#[]⟩, .slice none 0 0, .slice none 0 0, .int .i64 0] 26)
        have Y8 := hid (blk_new w7 26 #[.int .i64 0, .int .i64 0, .int .i64 0, .string ⟨#[]⟩, .slice none 0 0, .slice none 0 0, .int .i64 0])
        have S8 := hid (S7.out.on AZ)
        have K8 := hid (blk_on K7.out AZ)
        have Q8 := hid (blk_on Q7.out AZ)
        have R8 := hid (krow_below R7.out AZ)
        have B8 := hid (B7.out.trans (ButLo.of (But.of (P := P) AZ) (by have := B7.out.size; omega)))
        have N8 := hid (ndW_els N7.out AZ)
        obtain ⟨w8, hw8⟩ : ∃ w8, w7.alloc (.cells #[.int .i64 0, .int .i64 0, .int .i64 0, .string ⟨#[]⟩, .slice none 0 0, .slice none 0 0, .int .i64 0] 26) = w8 := ⟨_, rfl⟩
        rw [hw8] at AZ Y8 S8 K8 Q8 R8 B8 N8 ⊢
        have hz8 : w8.heap.size = w7.heap.size + 1 := by rw [← hw8]; simp
        refine HK.out.out _ _ ?_ (fun hHeld => ?_)
        · exact (blk_cell Q8.out 0).trans rfl
        clear HK K AZ hw8 S7 K7 Q7 R7 B7 N7
        refine wpAnyH_ready (rs := [5]) (by kernel_rfl) (by simp) ?_
        refine AllReadyH.cons rfl (fun K hK => ?_) AllReadyH.nil
        have HK := hid hK
        clear hK
        obtain ⟨cs, hown, hr, hg⟩ := R8.out
        obtain ⟨i0, hi, hz0, hz1, hz2⟩ := infoN
        have hsz := B8.out.size
        refine step_append_lies _ rfl _ _ 24 rfl lo 26 i0 _ 7 96 underN hi hz0 hz1 hz2 rfl (by decide) (.slice ao ks.length cap) _ cs (by rfl) hown ⟨w7.heap.size, 0, none⟩ 1 1 zl (by rfl) rfl (zl_cells Y8.out) zl_one (by decide) (by unfold maxLen; omega) (by omega) (by omega) _ rfl ?_
        intro g cap2 w9 hown' hgrow hat hlt
        have AP := hid (nput_at hown' hgrow hat R8.out (by omega) (blk_lt K8.out) (blk_lt Q8.out) C.nk C.nq)
        have S9 := hid (pst_low S8.out (grown_low hgrow (by omega) (fun k hk => by have := ((krow_own R8.out) k hk).2.1; omega)))
        have K9 := hid (blk_grown K8.out hgrow (fun e => C.nk (((krow_own R8.out) _ e.symm).1)))
        have Q9 := hid (blk_grown Q8.out hgrow (fun e => C.nq (((krow_own R8.out) _ e.symm).1)))
        have B9 := hid (B8.out.trans (ButLo.grown hgrow (by omega) (fun k hk => ((krow_own R8.out) k hk).2.1)))
        have PU := hid (nput_row (x := x) (nv := .slice f1 x.names.length g1) (kv := .slice f2 x.kids.length g2) hown' hgrow hat hr hg N8.out (fun k hk => C.up k (by have := blk_lt K8.out; omega) (by have := blk_lt Q8.out; omega)) (by omega))
        obtain ⟨cur, hcur, hcs⟩ := AP.out.blk
        obtain ⟨⟨_, e0⟩, ⟨_, e1⟩, ⟨_, e2⟩, ⟨_, e3⟩, ⟨_, e4⟩, ⟨_, e5⟩, ⟨_, e6⟩⟩ := cellsN hcur hcs
        obtain ⟨u0, u1, u2, u3, u4, u5, u6⟩ := freesN hcur ks.length
        have hgl : lo ≤ g := AP.out.lo
        have hgk : g ≠ kb := AP.out.nk
        have hgp : g ≠ pb := AP.out.nq
        have hqk : pb ≠ kb := Ne.symm C.ne
        have hidx : (ks.length : Int) < (ks.length : Int) + 1 := by omega
        clear hown hr hg hi hz0 hz1 hz2 i0 hown' hgrow hat hlt Y8 R8 N8 S8 K8 Q8 B8
        refine HK.out.out _ _ ?_ (fun hHeld => ?_)
        · exact (blk_cell Q9.out 0).trans rfl
        clear HK K
        refine wpAnyH_take (i := 6) (v := ?vk9) rfl (by kernel_rfl) (by kernel_rfl) (by kernel_rfl) (fun _ _ _ h => h) (Or.inl ⟨by rfl, ?hyk9⟩) (by assumption) ?_
        case hyk9 => (intro w hSw; go_simp <;> (try with_reducible rfl))
        simp only [Act.put, List.setIfInBounds_toArray, List.set_cons_zero, List.set_cons_succ, List.getElem_toArray, List.getElem_cons_succ, List.getElem_cons_zero]
        refine wpAnyH_ready (rs := [7, 8]) (by kernel_rfl) (by simp) ?_
        refine AllReadyH.cons rfl (fun K hK => ?_) (AllReadyH.cons rfl (fun K hK => ?_) AllReadyH.nil)
        · have HK := hid hK
          clear hK
          go_simp
          refine HK.out.out _ _ ?_ (fun hHeld => ?_)
          · exact (put7n_cell (g := g) (i := ks.length * 7) (blk_cell Q9.out 0) (Ne.symm hgp) (.int .i64 x.kind) (.int .i64 x.op) (.int .i64 x.num) (.string x.str) (.slice f1 x.names.length g1) (.slice f2 x.kids.length g2) (.int .i64 x.pl)).trans rfl
          clear HK K
          refine wpAnyH_ready (rs := [8]) (by kernel_rfl) (by simp) ?_
          refine AllReadyH.cons rfl (fun K hK => ?_) AllReadyH.nil
          have HK := hid hK
          clear hK
          have k0 := put7n_cell (g := g) (i := ks.length * 7) (blk_cell K9.out 0) (Ne.symm hgk) (.int .i64 x.kind) (.int .i64 x.op) (.int .i64 x.num) (.string x.str) (.slice f1 x.names.length g1) (.slice f2 x.kids.length g2) (.int .i64 x.pl)
          have z0 := put7n_free (g := g) (i := ks.length * 7) (blk_free K9.out 0) (Ne.symm hgk) (.int .i64 x.kind) (.int .i64 x.op) (.int .i64 x.num) (.string x.str) (.slice f1 x.names.length g1) (.slice f2 x.kids.length g2) (.int .i64 x.pl)
          unfold put7n at k0 z0
          simp at k0
          go_simp
          refine HK.out.out _ _ ?_ (fun hHeld => ?_)
          · exact ((World.cell?_of_block (w := put7n w9 g (ks.length * 7) (.int .i64 x.kind) (.int .i64 x.op) (.int .i64 x.num) (.string x.str) (.slice f1 x.names.length g1) (.slice f2 x.kids.length g2) (.int .i64 x.pl)) (Below.heap_setCell _ _ _ _ hqk)).trans (put7n_cell (g := g) (i := ks.length * 7) (blk_cell Q9.out 0) (Ne.symm hgp) (.int .i64 x.kind) (.int .i64 x.op) (.int .i64 x.num) (.string x.str) (.slice f1 x.names.length g1) (.slice f2 x.kids.length g2) (.int .i64 x.pl))).trans rfl
          clear HK K
          refine wpAnyH_done (by kernel_rfl) ?_ _
          have WR := wrote_1 (n := ks.length) (j := 0) (V := .slice (some ⟨g, 0, none⟩) (ks.length + 1) cap2) hcur K9.out hgk (.int .i64 x.kind) (.int .i64 x.op) (.int .i64 x.num) (.string x.str) (.slice f1 x.names.length g1) (.slice f2 x.kids.length g2) (.int .i64 x.pl)
          unfold put7n at WR
          go_end0
          exact ⟨rfl, ⟨_, WR.hk, PU.out _ cur hcur WR.hg (by rw [WR.size]; omega) (fun k hk hk2 hk3 => WR.rest k hk3 (fun e => C.nk (e ▸ hk)))⟩, (WR.rest pb (Ne.symm hgp) (Ne.symm C.ne)).trans Q9.out, pst_low S9.out (WR.below (by omega) (by omega)), B9.out.trans (WR.butlo hgl C.k)⟩
        · have HK := hid hK
          clear hK
          have k0 := blk_cell K9.out 0
          have z0 := blk_free K9.out 0
          simp at k0
          go_simp
          refine HK.out.out _ _ ?_ (fun hHeld => ?_)
          · exact ((World.cell?_of_block (w := w9) (Below.heap_setCell _ _ _ _ hqk)).trans (blk_cell Q9.out 0)).trans rfl
          clear HK K
          refine wpAnyH_ready (rs := [7]) (by kernel_rfl) (by simp) ?_
          refine AllReadyH.cons rfl (fun K hK => ?_) AllReadyH.nil
          have HK := hid hK
          clear hK
          have hcur2 := (show Blk g 26 cur (w9.setCell ⟨kb, 0, none⟩ (.slice (some ⟨g, 0, none⟩) (ks.length + 1) cap2)) from (Below.heap_setCell _ _ _ _ hgk).trans hcur)
          obtain ⟨⟨_, e0⟩, ⟨_, e1⟩, ⟨_, e2⟩, ⟨_, e3⟩, ⟨_, e4⟩, ⟨_, e5⟩, ⟨_, e6⟩⟩ := cellsN hcur2 hcs
          obtain ⟨u0, u1, u2, u3, u4, u5, u6⟩ := freesN hcur2 ks.length
          go_simp
          refine HK.out.out _ _ ?_ (fun hHeld => ?_)
          · exact (put7n_cell (g := g) (i := ks.length * 7) ((World.cell?_of_block (w := w9) (Below.heap_setCell _ _ _ _ hqk)).trans (blk_cell Q9.out 0)) (Ne.symm hgp) (.int .i64 x.kind) (.int .i64 x.op) (.int .i64 x.num) (.string x.str) (.slice f1 x.names.length g1) (.slice f2 x.kids.length g2) (.int .i64 x.pl)).trans rfl
          clear HK K
          refine wpAnyH_done (by kernel_rfl) ?_ _
          have WR := wrote_2 (n := ks.length) (j := 0) (V := .slice (some ⟨g, 0, none⟩) (ks.length + 1) cap2) hcur K9.out hgk (.int .i64 x.kind) (.int .i64 x.op) (.int .i64 x.num) (.string x.str) (.slice f1 x.names.length g1) (.slice f2 x.kids.length g2) (.int .i64 x.pl)
          unfold put7n at WR
          go_end0
          exact ⟨rfl, ⟨_, WR.hk, PU.out _ cur hcur WR.hg (by rw [WR.size]; omega) (fun k hk hk2 hk3 => WR.rest k hk3 (fun e => C.nk (e ▸ hk)))⟩, (WR.rest pb (Ne.symm hgp) (Ne.symm C.ne)).trans Q9.out, pst_low S9.out (WR.below (by omega) (by omega)), B9.out.trans (WR.butlo hgl C.k)⟩
    · have HK := hid hK
      clear hK
      go_simp
      have AZ := (Below.refl _ w7).alloc (Nat.le_refl _) (.cells #[.int .i64 0, .int .i64 0, .int .i64 0, .string ⟨#[]⟩, .slice none 0 0, .slice none 0 0, .int .i64 0] 26)
      have Y10 := hid (blk_new w7 26 #[.int .i64 0, .int .i64 0, .int .i64 0, .string ⟨#[]⟩, .slice none 0 0, .slice none 0 0, .int .i64 0])
      have S10 := hid (S7.out.on AZ)
      have K10 := hid (blk_on K7.out AZ)
      have Q10 := hid (blk_on Q7.out AZ)
      have R10 := hid (krow_below R7.out AZ)
      have B10 := hid (B7.out.trans (ButLo.of (But.of (P := P) AZ) (by have := B7.out.size; omega)))
      have N10 := hid (ndW_els N7.out AZ)
      obtain ⟨w10, hw10⟩ : ∃ w10, w7.alloc (.cells #[.int .i64 0, .int .i64 0, .int .i64 0, .string ⟨#[]⟩, .slice none 0 0, .slice none 0 0, .int .i64 0] 26) = w10 := ⟨_, rfl⟩
      rw [hw10] at AZ Y10 S10 K10 Q10 R10 B10 N10 ⊢
      have hz10 : w10.heap.size = w7.heap.size + 1 := by rw [← hw10]; simp
      refine HK.out.out _ _ ?_ (fun hHeld => ?_)
      · exact (blk_cell Q10.out 0).trans rfl
      clear HK K AZ hw10 S7 K7 Q7 R7 B7 N7
      refine wpAnyH_ready (rs := [0]) (by kernel_rfl) (by simp) ?_
      refine AllReadyH.cons rfl (fun K hK => ?_) AllReadyH.nil
      · have HK := hid hK
        clear hK
        have k0 := blk_cell K10.out 0
        simp at k0
        go_simp
        refine HK.out.out _ _ ?_ (fun hHeld => ?_)
        · exact (blk_cell Q10.out 0).trans rfl
        clear HK K k0
        refine wpAnyH_take (i := 3) (v := ?vk10) rfl (by kernel_rfl) (by kernel_rfl) (by kernel_rfl) (fun _ _ _ h => h) (Or.inl ⟨by rfl, ?hyk10⟩) (by assumption) ?_
        case hyk10 => (intro w hSw; go_simp <;> (try with_reducible rfl))
        simp only [Act.put, List.setIfInBounds_toArray, List.set_cons_zero, List.set_cons_succ, List.getElem_toArray, List.getElem_cons_succ, List.getElem_cons_zero]
        refine wpAnyH_ready (rs := [5]) (by kernel_rfl) (by simp) ?_
        refine AllReadyH.cons rfl (fun K hK => ?_) AllReadyH.nil
        have HK := hid hK
        clear hK
        obtain ⟨cs, hown, hr, hg⟩ := R10.out
        obtain ⟨i0, hi, hz0, hz1, hz2⟩ := infoN
        have hsz := B10.out.size
        refine step_append_lies _ rfl _ _ 24 rfl lo 26 i0 _ 7 96 underN hi hz0 hz1 hz2 rfl (by decide) (.slice ao ks.length cap) _ cs (by rfl) hown ⟨w7.heap.size, 0, none⟩ 1 1 zl (by rfl) rfl (zl_cells Y10.out) zl_one (by decide) (by unfold maxLen; omega) (by omega) (by omega) _ rfl ?_
        intro g cap2 w11 hown' hgrow hat hlt
        have AP := hid (nput_at hown' hgrow hat R10.out (by omega) (blk_lt K10.out) (blk_lt Q10.out) C.nk C.nq)
        have S11 := hid (pst_low S10.out (grown_low hgrow (by omega) (fun k hk => by have := ((krow_own R10.out) k hk).2.1; omega)))
        have K11 := hid (blk_grown K10.out hgrow (fun e => C.nk (((krow_own R10.out) _ e.symm).1)))
        have Q11 := hid (blk_grown Q10.out hgrow (fun e => C.nq (((krow_own R10.out) _ e.symm).1)))
        have B11 := hid (B10.out.trans (ButLo.grown hgrow (by omega) (fun k hk => ((krow_own R10.out) k hk).2.1)))
        have PU := hid (nput_row (x := x) (nv := .slice f1 x.names.length g1) (kv := .slice f2 x.kids.length g2) hown' hgrow hat hr hg N10.out (fun k hk => C.up k (by have := blk_lt K10.out; omega) (by have := blk_lt Q10.out; omega)) (by omega))
        obtain ⟨cur, hcur, hcs⟩ := AP.out.blk
        obtain ⟨⟨_, e0⟩, ⟨_, e1⟩, ⟨_, e2⟩, ⟨_, e3⟩, ⟨_, e4⟩, ⟨_, e5⟩, ⟨_, e6⟩⟩ := cellsN hcur hcs
        obtain ⟨u0, u1, u2, u3, u4, u5, u6⟩ := freesN hcur ks.length
        have hgl : lo ≤ g := AP.out.lo
        have hgk : g ≠ kb := AP.out.nk
        have hgp : g ≠ pb := AP.out.nq
        have hqk : pb ≠ kb := Ne.symm C.ne
        have hidx : (ks.length : Int) < (ks.length : Int) + 1 := by omega
        clear hown hr hg hi hz0 hz1 hz2 i0 hown' hgrow hat hlt Y10 R10 N10 S10 K10 Q10 B10
        refine HK.out.out _ _ ?_ (fun hHeld => ?_)
        · exact (blk_cell Q11.out 0).trans rfl
        clear HK K
        refine wpAnyH_take (i := 6) (v := ?vk11) rfl (by kernel_rfl) (by kernel_rfl) (by kernel_rfl) (fun _ _ _ h => h) (Or.inl ⟨by rfl, ?hyk11⟩) (by assumption) ?_
        case hyk11 => (intro w hSw; go_simp <;> (try with_reducible rfl))
        simp only [Act.put, List.setIfInBounds_toArray, List.set_cons_zero, List.set_cons_succ, List.getElem_toArray, List.getElem_cons_succ, List.getElem_cons_zero]
        refine wpAnyH_ready (rs := [7, 8]) (by kernel_rfl) (by simp) ?_
        refine AllReadyH.cons rfl (fun K hK => ?_) (AllReadyH.cons rfl (fun K hK => ?_) AllReadyH.nil)
        · have HK := hid hK
          clear hK
          go_simp
          refine HK.out.out _ _ ?_ (fun hHeld => ?_)
          · exact (put7n_cell (g := g) (i := ks.length * 7) (blk_cell Q11.out 0) (Ne.symm hgp) (.int .i64 x.kind) (.int .i64 x.op) (.int .i64 x.num) (.string x.str) (.slice f1 x.names.length g1) (.slice f2 x.kids.length g2) (.int .i64 x.pl)).trans rfl
          clear HK K
          refine wpAnyH_ready (rs := [8]) (by kernel_rfl) (by simp) ?_
          refine AllReadyH.cons rfl (fun K hK => ?_) AllReadyH.nil
          have HK := hid hK
          clear hK
          have k0 := put7n_cell (g := g) (i := ks.length * 7) (blk_cell K11.out 0) (Ne.symm hgk) (.int .i64 x.kind) (.int .i64 x.op) (.int .i64 x.num) (.string x.str) (.slice f1 x.names.length g1) (.slice f2 x.kids.length g2) (.int .i64 x.pl)
          have z0 := put7n_free (g := g) (i := ks.length * 7) (blk_free K11.out 0) (Ne.symm hgk) (.int .i64 x.kind) (.int .i64 x.op) (.int .i64 x.num) (.string x.str) (.slice f1 x.names.length g1) (.slice f2 x.kids.length g2) (.int .i64 x.pl)
          unfold put7n at k0 z0
          simp at k0
          go_simp
          refine HK.out.out _ _ ?_ (fun hHeld => ?_)
          · exact ((World.cell?_of_block (w := put7n w11 g (ks.length * 7) (.int .i64 x.kind) (.int .i64 x.op) (.int .i64 x.num) (.string x.str) (.slice f1 x.names.length g1) (.slice f2 x.kids.length g2) (.int .i64 x.pl)) (Below.heap_setCell _ _ _ _ hqk)).trans (put7n_cell (g := g) (i := ks.length * 7) (blk_cell Q11.out 0) (Ne.symm hgp) (.int .i64 x.kind) (.int .i64 x.op) (.int .i64 x.num) (.string x.str) (.slice f1 x.names.length g1) (.slice f2 x.kids.length g2) (.int .i64 x.pl))).trans rfl
          clear HK K
          refine wpAnyH_done (by kernel_rfl) ?_ _
          have WR := wrote_1 (n := ks.length) (j := 0) (V := .slice (some ⟨g, 0, none⟩) (ks.length + 1) cap2) hcur K11.out hgk (.int .i64 x.kind) (.int .i64 x.op) (.int .i64 x.num) (.string x.str) (.slice f1 x.names.length g1) (.slice f2 x.kids.length g2) (.int .i64 x.pl)
          unfold put7n at WR
          go_end0
          exact ⟨rfl, ⟨_, WR.hk, PU.out _ cur hcur WR.hg (by rw [WR.size]; omega) (fun k hk hk2 hk3 => WR.rest k hk3 (fun e => C.nk (e ▸ hk)))⟩, (WR.rest pb (Ne.symm hgp) (Ne.symm C.ne)).trans Q11.out, pst_low S11.out (WR.below (by omega) (by omega)), B11.out.trans (WR.butlo hgl C.k)⟩
        · have HK := hid hK
          clear hK
          have k0 := blk_cell K11.out 0
          have z0 := blk_free K11.out 0
          simp at k0
          go_simp
          refine HK.out.out _ _ ?_ (fun hHeld => ?_)
          · exact ((World.cell?_of_block (w := w11) (Below.heap_setCell _ _ _ _ hqk)).trans (blk_cell Q11.out 0)).trans rfl
          clear HK K
          refine wpAnyH_ready (rs := [7]) (by kernel_rfl) (by simp) ?_
          refine AllReadyH.cons rfl (fun K hK => ?_) AllReadyH.nil
          have HK := hid hK
          clear hK
          have hcur2 := (show Blk g 26 cur (w11.setCell ⟨kb, 0, none⟩ (.slice (some ⟨g, 0, none⟩) (ks.length + 1) cap2)) from (Below.heap_setCell _ _ _ _ hgk).trans hcur)
          obtain ⟨⟨_, e0⟩, ⟨_, e1⟩, ⟨_, e2⟩, ⟨_, e3⟩, ⟨_, e4⟩, ⟨_, e5⟩, ⟨_, e6⟩⟩ := cellsN hcur2 hcs
          obtain ⟨u0, u1, u2, u3, u4, u5, u6⟩ := freesN hcur2 ks.length
          go_simp
          refine HK.out.out _ _ ?_ (fun hHeld => ?_)
          · exact (put7n_cell (g := g) (i := ks.length * 7) ((World.cell?_of_block (w := w11) (Below.heap_setCell _ _ _ _ hqk)).trans (blk_cell Q11.out 0)) (Ne.symm hgp) (.int .i64 x.kind) (.int .i64 x.op) (.int .i64 x.num) (.string x.str) (.slice f1 x.names.length g1) (.slice f2 x.kids.length g2) (.int .i64 x.pl)).trans rfl
          clear HK K
          refine wpAnyH_done (by kernel_rfl) ?_ _
          have WR := wrote_2 (n := ks.length) (j := 0) (V := .slice (some ⟨g, 0, none⟩) (ks.length + 1) cap2) hcur K11.out hgk (.int .i64 x.kind) (.int .i64 x.op) (.int .i64 x.num) (.string x.str) (.slice f1 x.names.length g1) (.slice f2 x.kids.length g2) (.int .i64 x.pl)
          unfold put7n at WR
          go_end0
          exact ⟨rfl, ⟨_, WR.hk, PU.out _ cur hcur WR.hg (by rw [WR.size]; omega) (fun k hk hk2 hk3 => WR.rest k hk3 (fun e => C.nk (e ▸ hk)))⟩, (WR.rest pb (Ne.symm hgp) (Ne.symm C.ne)).trans Q11.out, pst_low S11.out (WR.below (by omega) (by omega)), B11.out.trans (WR.butlo hgl C.k)⟩
  · have HK := hid hK
    clear hK
    go_simp
    have AZ := (Below.refl _ w0).alloc (Nat.le_refl _) (.cells #[.int .i64 0, .int .i64 0, .int .i64 0, .string ⟨#[]⟩, .slice none 0 0, .slice none 0 0, .int .i64 0] 26)
    have Y12 := hid (blk_new w0 26 #[.int .i64 0, .int .i64 0, .int .i64 0, .string ⟨#[]⟩, .slice none 0 0, .slice none 0 0, .int .i64 0])
    have S12 := hid (S0.out.on AZ)
    have K12 := hid (blk_on K0.out AZ)
    have Q12 := hid (blk_on Q0.out AZ)
    have R12 := hid (krow_below R0.out AZ)
    have B12 := hid (B0.out.trans (ButLo.of (But.of (P := P) AZ) (by have := B0.out.size; omega)))
    obtain ⟨w12, hw12⟩ : ∃ w12, w0.alloc (.cells #[.int .i64 0, .int .i64 0, .int .i64 0, .string ⟨#[]⟩, .slice none 0 0, .slice none 0 0, .int .i64 0] 26) = w12 := ⟨_, rfl⟩
    rw [hw12] at AZ Y12 S12 K12 Q12 R12 B12 ⊢
    have hz12 : w12.heap.size = w0.heap.size + 1 := by rw [← hw12]; simp
    refine HK.out.out _ _ ?_ (fun hHeld => ?_)
    · exact (blk_cell Q12.out 0).trans rfl
    clear HK K AZ hw12 S0 K0 Q0 R0 B0
    refine wpAnyH_ready (rs := [0, 2]) (by kernel_rfl) (by simp) ?_
    refine AllReadyH.cons rfl (fun K hK => ?_) (AllReadyH.cons rfl (fun K hK => ?_) AllReadyH.nil)
    · have HK := hid hK
      clear hK
      have k0 := blk_cell K12.out 0
      simp at k0
      go_simp
      refine HK.out.out _ _ ?_ (fun hHeld => ?_)
      · exact (blk_cell Q12.out 0).trans rfl
      clear HK K k0
      refine wpAnyH_take (i := 3) (v := ?vk12) rfl (by kernel_rfl) (by kernel_rfl) (by kernel_rfl) (fun _ _ _ h => h) (Or.inl ⟨by rfl, ?hyk12⟩) (by assumption) ?_
      case hyk12 => (intro w hSw; go_simp <;> (try with_reducible rfl))
      simp only [Act.put, List.setIfInBounds_toArray, List.set_cons_zero, List.set_cons_succ, List.getElem_toArray, List.getElem_cons_succ, List.getElem_cons_zero]
      refine wpAnyH_ready (rs := [2]) (by kernel_rfl) (by simp) ?_
      refine AllReadyH.cons rfl (fun K hK => ?_) AllReadyH.nil
      · have HK := hid hK
        clear hK
        go_simp
        refine (HC.out _ S12).mono ?_
        rintro e3 w13 ⟨⟨nv3, kv3, rfl, n3⟩, s3, b3⟩
        obtain ⟨f1, g1, f2, g2, rfl, rfl⟩ := ndR_shape n3
        have N13 := hid (ndR_els (ok := ok) (v := (.slice ao ks.length cap)) n3 (fun b hb => C.up b (by have := blk_lt K12.out; omega) (by have := blk_lt Q12.out; omega)) (fun g hg => ((krow_own R12.out) g hg).2.2))
        have S13 := hid s3
        have K13 := hid (blk_but K12.out b3 (by omega))
        have Q13 := hid (blk_but Q12.out b3 (by omega))
        have R13 := hid (krow_but R12.out b3 C.np)
        have B13 := hid (B12.out.trans (ButLo.of b3 (by have := B12.out.size; omega)))
        have Y13 := hid (blk_but Y12.out b3 (by have := B12.out.size; omega))
        have hz13 : w12.heap.size ≤ w13.heap.size := b3.size
        clear s3 b3 n3 S12 K12 Q12 R12 B12 Y12
        unfold ndv
        simp only
        refine HK.out.out _ _ ?_ (fun hHeld => ?_)
        · exact (blk_cell Q13.out 0).trans rfl
        clear HK K
        refine wpAnyH_ready (rs := [5]) (by kernel_rfl) (by simp) ?_
        refine AllReadyH.cons rfl (fun K hK => ?_) AllReadyH.nil
        have HK := hid hK
        clear hK
        obtain ⟨cs, hown, hr, hg⟩ := R13.out
        obtain ⟨i0, hi, hz0, hz1, hz2⟩ := infoN
        have hsz := B13.out.size
        refine step_append_lies _ rfl _ _ 24 rfl lo 26 i0 _ 7 96 underN hi hz0 hz1 hz2 rfl (by decide) (.slice ao ks.length cap) _ cs (by rfl) hown ⟨w0.heap.size, 0, none⟩ 1 1 zl (by rfl) rfl (zl_cells Y13.out) zl_one (by decide) (by unfold maxLen; omega) (by omega) (by omega) _ rfl ?_
        intro g cap2 w14 hown' hgrow hat hlt
        have AP := hid (nput_at hown' hgrow hat R13.out (by omega) (blk_lt K13.out) (blk_lt Q13.out) C.nk C.nq)
        have S14 := hid (pst_low S13.out (grown_low hgrow (by omega) (fun k hk => by have := ((krow_own R13.out) k hk).2.1; omega)))
        have K14 := hid (blk_grown K13.out hgrow (fun e => C.nk (((krow_own R13.out) _ e.symm).1)))
        have Q14 := hid (blk_grown Q13.out hgrow (fun e => C.nq (((krow_own R13.out) _ e.symm).1)))
        have B14 := hid (B13.out.trans (ButLo.grown hgrow (by omega) (fun k hk => ((krow_own R13.out) k hk).2.1)))
        have PU := hid (nput_row (x := x) (nv := .slice f1 x.names.length g1) (kv := .slice f2 x.kids.length g2) hown' hgrow hat hr hg N13.out (fun k hk => C.up k (by have := blk_lt K13.out; omega) (by have := blk_lt Q13.out; omega)) (by omega))
        obtain ⟨cur, hcur, hcs⟩ := AP.out.blk
        obtain ⟨⟨_, e0⟩, ⟨_, e1⟩, ⟨_, e2⟩, ⟨_, e3⟩, ⟨_, e4⟩, ⟨_, e5⟩, ⟨_, e6⟩⟩ := cellsN hcur hcs
        obtain ⟨u0, u1, u2, u3, u4, u5, u6⟩ := freesN hcur ks.length
        have hgl : lo ≤ g := AP.out.lo
        have hgk : g ≠ kb := AP.out.nk
        have hgp : g ≠ pb := AP.out.nq
        have hqk : pb ≠ kb := Ne.symm C.ne
        have hidx : (ks.length : Int) < (ks.length : Int) + 1 := by omega
        clear hown hr hg hi hz0 hz1 hz2 i0 hown' hgrow hat hlt Y13 R13 N13 S13 K13 Q13 B13
        refine HK.out.out _ _ ?_ (fun hHeld => ?_)
        · exact (blk_cell Q14.out 0).trans rfl
        clear HK K
        refine wpAnyH_take (i := 6) (v := ?vk13) rfl (by kernel_rfl) (by kernel_rfl) (by kernel_rfl) (fun _ _ _ h => h) (Or.inl ⟨by rfl, ?hyk13⟩) (by assumption) ?_
        case hyk13 => (intro w hSw; go_simp <;> (try with_reducible rfl))
        simp only [Act.put, List.setIfInBounds_toArray, List.set_cons_zero, List.set_cons_succ, List.getElem_toArray, List.getElem_cons_succ, List.getElem_cons_zero]
        refine wpAnyH_ready (rs := [7, 8]) (by kernel_rfl) (by simp) ?_
        refine AllReadyH.cons rfl (fun K hK => ?_) (AllReadyH.cons rfl (fun K hK => ?_) AllReadyH.nil)
        · have HK := hid hK
          clear hK
          go_simp
          refine HK.out.out _ _ ?_ (fun hHeld => ?_)
          · exact (put7n_cell (g := g) (i := ks.length * 7) (blk_cell Q14.out 0) (Ne.symm hgp) (.int .i64 x.kind) (.int .i64 x.op) (.int .i64 x.num) (.string x.str) (.slice f1 x.names.length g1) (.slice f2 x.kids.length g2) (.int .i64 x.pl)).trans rfl
          clear HK K
          refine wpAnyH_ready (rs := [8]) (by kernel_rfl) (by simp) ?_
          refine AllReadyH.cons rfl (fun K hK => ?_) AllReadyH.nil
          have HK := hid hK
          clear hK
          have k0 := put7n_cell (g := g) (i := ks.length * 7) (blk_cell K14.out 0) (Ne.symm hgk) (.int .i64 x.kind) (.int .i64 x.op) (.int .i64 x.num) (.string x.str) (.slice f1 x.names.length g1) (.slice f2 x.kids.length g2) (.int .i64 x.pl)
          have z0 := put7n_free (g := g) (i := ks.length * 7) (blk_free K14.out 0) (Ne.symm hgk) (.int .i64 x.kind) (.int .i64 x.op) (.int .i64 x.num) (.string x.str) (.slice f1 x.names.length g1) (.slice f2 x.kids.length g2) (.int .i64 x.pl)
          unfold put7n at k0 z0
          simp at k0
          go_simp
          refine HK.out.out _ _ ?_ (fun hHeld => ?_)
          · exact ((World.cell?_of_block (w := put7n w14 g (ks.length * 7) (.int .i64 x.kind) (.int .i64 x.op) (.int .i64 x.num) (.string x.str) (.slice f1 x.names.length g1) (.slice f2 x.kids.length g2) (.int .i64 x.pl)) (Below.heap_setCell _ _ _ _ hqk)).trans (put7n_cell (g := g) (i := ks.length * 7) (blk_cell Q14.out 0) (Ne.symm hgp) (.int .i64 x.kind) (.int .i64 x.op) (.int .i64 x.num) (.string x.str) (.slice f1 x.names.length g1) (.slice f2 x.kids.length g2) (.int .i64 x.pl))).trans rfl
          clear HK K
          refine wpAnyH_done (by kernel_rfl) ?_ _
          have WR := wrote_1 (n := ks.length) (j := 0) (V := .slice (some ⟨g, 0, none⟩) (ks.length + 1) cap2) hcur K14.out hgk (.int .i64 x.kind) (.int .i64 x.op) (.int .i64 x.num) (.string x.str) (.slice f1 x.names.length g1) (.slice f2 x.kids.length g2) (.int .i64 x.pl)
          unfold put7n at WR
          go_end0
          exact ⟨rfl, ⟨_, WR.hk, PU.out _ cur hcur WR.hg (by rw [WR.size]; omega) (fun k hk hk2 hk3 => WR.rest k hk3 (fun e => C.nk (e ▸ hk)))⟩, (WR.rest pb (Ne.symm hgp) (Ne.symm C.ne)).trans Q14.out, pst_low S14.out (WR.below (by omega) (by omega)), B14.out.trans (WR.butlo hgl C.k)⟩
        · have HK := hid hK
          clear hK
          have k0 := blk_cell K14.out 0
          have z0 := blk_free K14.out 0
          simp at k0
          go_simp
          refine HK.out.out _ _ ?_ (fun hHeld => ?_)
          · exact ((World.cell?_of_block (w := w14) (Below.heap_setCell _ _ _ _ hqk)).trans (blk_cell Q14.out 0)).trans rfl
          clear HK K
          refine wpAnyH_ready (rs := [7]) (by kernel_rfl) (by simp) ?_
          refine AllReadyH.cons rfl (fun K hK => ?_) AllReadyH.nil
          have HK := hid hK
          clear hK
          have hcur2 := (show Blk g 26 cur (w14.setCell ⟨kb, 0, none⟩ (.slice (some ⟨g, 0, none⟩) (ks.length + 1) cap2)) from (Below.heap_setCell _ _ _ _ hgk).trans hcur)
          obtain ⟨⟨_, e0⟩, ⟨_, e1⟩, ⟨_, e2⟩, ⟨_, e3⟩, ⟨_, e4⟩, ⟨_, e5⟩, ⟨_, e6⟩⟩ := cellsN hcur2 hcs
          obtain ⟨u0, u1, u2, u3, u4, u5, u6⟩ := freesN hcur2 ks.length
          go_simp
          refine HK.out.out _ _ ?_ (fun hHeld => ?_)
          · exact (put7n_cell (g := g) (i := ks.length * 7) ((World.cell?_of_block (w := w14) (Below.heap_setCell _ _ _ _ hqk)).trans (blk_cell Q14.out 0)) (Ne.symm hgp) (.int .i64 x.kind) (.int .i64 x.op) (.int .i64 x.num) (.string x.str) (.slice f1 x.names.length g1) (.slice f2 x.kids.length g2) (.int .i64 x.pl)).trans rfl
          clear HK K
          refine wpAnyH_done (by kernel_rfl) ?_ _
          have WR := wrote_2 (n := ks.length) (j := 0) (V := .slice (some ⟨g, 0, none⟩) (ks.length + 1) cap2) hcur K14.out hgk (.int .i64 x.kind) (.int .i64 x.op) (.int .i64 x.num) (.string x.str) (.slice f1 x.names.length g1) (.slice f2 x.kids.length g2) (.int .i64 x.pl)
          unfold put7n at WR
          go_end0
          exact ⟨rfl, ⟨_, WR.hk, PU.out _ cur hcur WR.hg (by rw [WR.size]; omega) (fun k hk hk2 hk3 => WR.rest k hk3 (fun e => C.nk (e ▸ hk)))⟩, (WR.rest pb (Ne.symm hgp) (Ne.symm C.ne)).trans Q14.out, pst_low S14.out (WR.below (by omega) (by omega)), B14.out.trans (WR.butlo hgl C.k)⟩
    · have HK := hid hK
      clear hK
      go_simp
      refine (HC.out _ S12).mono ?_
      rintro e3 w15 ⟨⟨nv3, kv3, rfl, n3⟩, s3, b3⟩
      obtain ⟨f1, g1, f2, g2, rfl, rfl⟩ := ndR_shape n3
      have N15 := hid (ndR_els (ok := ok) (v := (.slice ao ks.length cap)) n3 (fun b hb => C.up b (by have := blk_lt K12.out; omega) (by have := blk_lt Q12.out; omega)) (fun g hg => ((krow_own R12.out) g hg).2.2))
      have S15 := hid s3
      have K15 := hid (blk_but K12.out b3 (by omega))
      have Q15 := hid (blk_but Q12.out b3 (by omega))
      have R15 := hid (krow_but R12.out b3 C.np)
      have B15 := hid (B12.out.trans (ButLo.of b3 (by have := B12.out.size; omega)))
      have Y15 := hid (blk_but Y12.out b3 (by have := B12.out.size; omega))
      have hz15 : w12.heap.size ≤ w15.heap.size := b3.size
      clear s3 b3 n3 S12 K12 Q12 R12 B12 Y12
      unfold ndv
      simp only
      refine HK.out.out _ _ ?_ (fun hHeld => ?_)
      · exact (blk_cell Q15.out 0).trans rfl
      clear HK K
      refine wpAnyH_ready (rs := [0]) (by kernel_rfl) (by simp) ?_
      refine AllReadyH.cons rfl (fun K hK => ?_) AllReadyH.nil
      · have HK := hid hK
        clear hK
        have k0 := blk_cell K15.out 0
        simp at k0
        go_simp
        refine HK.out.out _ _ ?_ (fun hHeld => ?_)
        · exact (blk_cell Q15.out 0).trans rfl
        clear HK K k0
        refine wpAnyH_take (i := 3) (v := ?vk14) rfl (by kernel_rfl) (by kernel_rfl) (by kernel_rfl) (fun _ _ _ h => h) (Or.inl ⟨by rfl, ?hyk14⟩) (by assumption) ?_
        case hyk14 => (intro w hSw; go_simp <;> (try with_reducible rfl))
        simp only [Act.put, List.setIfInBounds_toArray, List.set_cons_zero, List.set_cons_succ, List.getElem_toArray, List.getElem_cons_succ, List.getElem_cons_zero]
        refine wpAnyH_ready (rs := [5]) (by kernel_rfl) (by simp) ?_
        refine AllReadyH.cons rfl (fun K hK => ?_) AllReadyH.nil
        have HK := hid hK
        clear hK
        obtain ⟨cs, hown, hr, hg⟩ := R15.out
        obtain ⟨i0, hi, hz0, hz1, hz2⟩ := infoN
        have hsz := B15.out.size
        refine step_append_lies _ rfl _ _ 24 rfl lo 26 i0 _ 7 96 underN hi hz0 hz1 hz2 rfl (by decide) (.slice ao ks.length cap) _ cs (by rfl) hown ⟨w0.heap.size, 0, none⟩ 1 1 zl (by rfl) rfl (zl_cells Y15.out) zl_one (by decide) (by unfold maxLen; omega) (by omega) (by omega) _ rfl ?_
        intro g cap2 w16 hown' hgrow hat hlt
        have AP := hid (nput_at hown' hgrow hat R15.out (by omega) (blk_lt K15.out) (blk_lt Q15.out) C.nk C.nq)
        have S16 := hid (pst_low S15.out (grown_low hgrow (by omega) (fun k hk => by have := ((krow_own R15.out) k hk).2.1; omega)))
        have K16 := hid (blk_grown K15.out hgrow (fun e => C.nk (((krow_own R15.out) _ e.symm).1)))
        have Q16 := hid (blk_grown Q15.out hgrow (fun e => C.nq (((krow_own R15.out) _ e.symm).1)))
        have B16 := hid (B15.out.trans (ButLo.grown hgrow (by omega) (fun k hk => ((krow_own R15.out) k hk).2.1)))
        have PU := hid (nput_row (x := x) (nv := .slice f1 x.names.length g1) (kv := .slice f2 x.kids.length g2) hown' hgrow hat hr hg N15.out (fun k hk => C.up k (by have := blk_lt K15.out; omega) (by have := blk_lt Q15.out; omega)) (by omega))
        obtain ⟨cur, hcur, hcs⟩ := AP.out.blk
        obtain ⟨⟨_, e0⟩, ⟨_, e1⟩, ⟨_, e2⟩, ⟨_, e3⟩, ⟨_, e4⟩, ⟨_, e5⟩, ⟨_, e6⟩⟩ := cellsN hcur hcs
        obtain ⟨u0, u1, u2, u3, u4, u5, u6⟩ := freesN hcur ks.length
        have hgl : lo ≤ g := AP.out.lo
        have hgk : g ≠ kb := AP.out.nk
        have hgp : g ≠ pb := AP.out.nq
        have hqk : pb ≠ kb := Ne.symm C.ne
        have hidx : (ks.length : Int) < (ks.length : Int) + 1 := by omega
        clear hown hr hg hi hz0 hz1 hz2 i0 hown' hgrow hat hlt Y15 R15 N15 S15 K15 Q15 B15
        refine HK.out.out _ _ ?_ (fun hHeld => ?_)
        · exact (blk_cell Q16.out 0).trans rfl
        clear HK K
        refine wpAnyH_take (i := 6) (v := ?vk15) rfl (by kernel_rfl) (by kernel_rfl) (by kernel_rfl) (fun _ _ _ h => h) (Or.inl ⟨by rfl, ?hyk15⟩) (by assumption) ?_
        case hyk15 => (intro w hSw; go_simp <;> (try with_reducible rfl))
        simp only [Act.put, List.setIfInBounds_toArray, List.set_cons_zero, List.set_cons_succ, List.getElem_toArray, List.getElem_cons_succ, List.getElem_cons_zero]
        refine wpAnyH_ready (rs := [7, 8]) (by kernel_rfl) (by simp) ?_
        refine AllReadyH.cons rfl (fun K hK => ?_) (AllReadyH.cons rfl (fun K hK => ?_) AllReadyH.nil)
        · have HK := hid hK
          clear hK
          go_simp
          refine HK.out.out _ _ ?_ (fun hHeld => ?_)
          · exact (put7n_cell (g := g) (i := ks.length * 7) (blk_cell Q16.out 0) (Ne.symm hgp) (.int .i64 x.kind) (.int .i64 x.op) (.int .i64 x.num) (.string x.str) (.slice f1 x.names.length g1) (.slice f2 x.kids.length g2) (.int .i64 x.pl)).trans rfl
          clear HK K
          refine wpAnyH_ready (rs := [8]) (by kernel_rfl) (by simp) ?_
          refine AllReadyH.cons rfl (fun K hK => ?_) AllReadyH.nil
          have HK := hid hK
          clear hK
          have k0 := put7n_cell (g := g) (i := ks.length * 7) (blk_cell K16.out 0) (Ne.symm hgk) (.int .i64 x.kind) (.int .i64 x.op) (.int .i64 x.num) (.string x.str) (.slice f1 x.names.length g1) (.slice f2 x.kids.length g2) (.int .i64 x.pl)
          have z0 := put7n_free (g := g) (i := ks.length * 7) (blk_free K16.out 0) (Ne.symm hgk) (.int .i64 x.kind) (.int .i64 x.op) (.int .i64 x.num) (.string x.str) (.slice f1 x.names.length g1) (.slice f2 x.kids.length g2) (.int .i64 x.pl)
          unfold put7n at k0 z0
          simp at k0
          go_simp
          refine HK.out.out _ _ ?_ (fun hHeld => ?_)
          · exact ((World.cell?_of_block (w := put7n w16 g (ks.length * 7) (.int .i64 x.kind) (.int .i64 x.op) (.int .i64 x.num) (.string x.str) (.slice f1 x.names.length g1) (.slice f2 x.kids.length g2) (.int .i64 x.pl)) (Below.heap_setCell _ _ _ _ hqk)).trans (put7n_cell (g := g) (i := ks.length * 7) (blk_cell Q16.out 0) (Ne.symm hgp) (.int .i64 x.kind) (.int .i64 x.op) (.int .i64 x.num) (.string x.str) (.slice f1 x.names.length g1) (.slice f2 x.kids.length g2) (.int .i64 x.pl))).trans rfl
          clear HK K
          refine wpAnyH_done (by kernel_rfl) ?_ _
          have WR := wrote_1 (n := ks.length) (j := 0) (V := .slice (some ⟨g, 0, none⟩) (ks.length + 1) cap2) hcur K16.out hgk (.int .i64 x.kind) (.int .i64 x.op) (.int .i64 x.num) (.string x.str) (.slice f1 x.names.length g1) (.slice f2 x.kids.length g2) (.int .i64 x.pl)
          unfold put7n at WR
          go_end0
          exact ⟨rfl, ⟨_, WR.hk, PU.out _ cur hcur WR.hg (by rw [WR.size]; omega) (fun k hk hk2 hk3 => WR.rest k hk3 (fun e => C.nk (e ▸ hk)))⟩, (WR.rest pb (Ne.symm hgp) (Ne.symm C.ne)).trans Q16.out, pst_low S16.out (WR.below (by omega) (by omega)), B16.out.trans (WR.butlo hgl C.k)⟩
        · have HK := hid hK
          clear hK
          have k0 := blk_cell K16.out 0
          have z0 := blk_free K16.out 0
          simp at k0
          go_simp
          refine HK.out.out _ _ ?_ (fun hHeld => ?_)
          · exact ((World.cell?_of_block (w := w16) (Below.heap_setCell _ _ _ _ hqk)).trans (blk_cell Q16.out 0)).trans rfl
          clear HK K
          refine wpAnyH_ready (rs := [7]) (by kernel_rfl) (by simp) ?_
          refine AllReadyH.cons rfl (fun K hK => ?_) AllReadyH.nil
          have HK := hid hK
          clear hK
          have hcur2 := (show Blk g 26 cur (w16.setCell ⟨kb, 0, none⟩ (.slice (some ⟨g, 0, none⟩) (ks.length + 1) cap2)) from (Below.heap_setCell _ _ _ _ hgk).trans hcur)
          obtain ⟨⟨_, e0⟩, ⟨_, e1⟩, ⟨_, e2⟩, ⟨_, e3⟩, ⟨_, e4⟩, ⟨_, e5⟩, ⟨_, e6⟩⟩ := cellsN hcur2 hcs
          obtain ⟨u0, u1, u2, u3, u4, u5, u6⟩ := freesN hcur2 ks.length
          go_simp
          refine HK.out.out _ _ ?_ (fun hHeld => ?_)
          · exact (put7n_cell (g := g) (i := ks.length * 7) ((World.cell?_of_block (w := w16) (Below.heap_setCell _ _ _ _ hqk)).trans (blk_cell Q16.out 0)) (Ne.symm hgp) (.int .i64 x.kind) (.int .i64 x.op) (.int .i64 x.num) (.string x.str) (.slice f1 x.names.length g1) (.slice f2 x.kids.length g2) (.int .i64 x.pl)).trans rfl
          clear HK K
          refine wpAnyH_done (by kernel_rfl) ?_ _
          have WR := wrote_2 (n := ks.length) (j := 0) (V := .slice (some ⟨g, 0, none⟩) (ks.length + 1) cap2) hcur K16.out hgk (.int .i64 x.kind) (.int .i64 x.op) (.int .i64 x.num) (.string x.str) (.slice f1 x.names.length g1) (.slice f2 x.kids.length g2) (.int .i64 x.pl)
          unfold put7n at WR
          go_end0
          exact ⟨rfl, ⟨_, WR.hk, PU.out _ cur hcur WR.hg (by rw [WR.size]; omega) (fun k hk hk2 hk3 => WR.rest k hk3 (fun e => C.nk (e ▸ hk)))⟩, (WR.rest pb (Ne.symm hgp) (Ne.symm C.ne)).trans Q16.out, pst_low S16.out (WR.below (by omega) (by omega)), B16.out.trans (WR.butlo hgl C.k)⟩

/-- the closure, from what is known of an expression -/
theorem call1_calls (f : Nat) (hR : RankC f) (P kb pb lo : Nat) (L : List Tok) (ok : Nat → Prop) (C : C1 P kb pb lo ok) : Call1C f P kb pb lo L ok := by
  intro l v ks w hf hk hlw H HK HQ HRw
  have HC : ∀ w', Hid (PSt P L w' l) → Calls Tryd.prog 43 #[.pointer (some ⟨P, 0, none⟩)] w' (Reads P L w' (pRank f 1 l)) := fun w' S => hR 1 P L l w' (by omega) (by omega) (by omega) S
  cases hq : pRank f 1 l with
  | bad l' =>
    rw [hq] at HC
    exact call1_bad P kb pb lo L l ok C v ks w hk hlw H HK HQ HRw l' (hid HC)
  | ok x b l' =>
    rw [hq] at HC
    exact call1_ok P kb pb lo L l ok C v ks w hk hlw H HK HQ HRw x b l' (hid HC)

end Go.Proofs.YtijbiedblahmhaaDoor

namespace Go.Proofs.YtijbiedblahmhaaDoor
open Go.RowKit

/-- a slice of texts of one's own that may grow -/
def SRow (lo : Nat) (ok : Nat → Prop) (w : World) (v : Value) (ns : List ByteArray) : Prop :=
  w.ownsRow lo 9 1 v ns.length (ns.map Value.string) ∧ ∀ g, v.ownBlock = some g → ok g
theorem srow_nil (lo : Nat) (ok : Nat → Prop) (w : World) : SRow lo ok w (.slice none 0 0) [] := ⟨World.ownsRow_nil w _ _ _, fun g h => by simp [Value.ownBlock] at h⟩
theorem krow_nil (lo : Nat) (ok : Nat → Prop) (w : World) : KRow lo ok w (.slice none 0 0) [] := ⟨[], World.ownsRow_nil w _ _ _, rfl, fun g h => by simp [Value.ownBlock] at h⟩
theorem srow_own {lo : Nat} {ok : Nat → Prop} {w : World} {v : Value} {ns : List ByteArray} (h : SRow lo ok w v ns) : ∀ g, v.ownBlock = some g → ok g ∧ lo ≤ g ∧ g < w.heap.size :=
  fun g hv => ⟨h.2 g hv, (h.1.lt g hv).1, (h.1.lt g hv).2⟩
theorem srow_shape {lo : Nat} {ok : Nat → Prop} {w : World} {v : Value} {ns : List ByteArray} (h : SRow lo ok w v ns) : ∃ ao cap, v = .slice ao ns.length cap := by
  rcases h.1.2 with ⟨h1, h2⟩ | ⟨g, cap, cur, h1, _⟩
  · exact ⟨none, 0, by rw [h1, h2]⟩
  · exact ⟨_, cap, h1⟩
theorem srow_strs {lo : Nat} {ok : Nat → Prop} {w : World} {v : Value} {ns : List ByteArray} (h : SRow lo ok w v ns) : StrsW (OwnO ok w) v ns w := by
  rcases h.1.2 with ⟨h1, h2⟩ | ⟨g, cap, cur, h1, h2, h3, h4, h5, h6, h7⟩
  · have : ns = [] := List.length_eq_zero_iff.1 h2
    subst this
    exact .inl ⟨none, 0, h1, rfl⟩
  · refine .inr ⟨g, 0, cap, h1, ⟨h.2 g (by rw [h1]; rfl), blk_lt (show Blk g 9 cur w from h3)⟩, fun i hi => ?_, h4⟩
    rw [Nat.zero_add, blk_cell (show Blk g 9 cur w from h3)]
    have e := congrArg (fun l => l[i]?) h7
    simp only [List.getElem?_take, Array.getElem?_toList, List.getElem?_map] at e
    rw [if_pos (by omega)] at e
    rw [e]
    simp [hi]
theorem srow_keep {lo : Nat} {ok : Nat → Prop} {a c : World} {v : Value} {ns : List ByteArray} (h : SRow lo ok a v ns) (hk : ∀ b, v.ownBlock = some b → c.heap[b]? = a.heap[b]?) : SRow lo ok c v ns := by
  refine ⟨⟨h.1.1, ?_⟩, h.2⟩
  rcases h.1.2 with h1 | ⟨g, cap, cur, h1, h2, h3, h4⟩
  · exact .inl h1
  · refine .inr ⟨g, cap, cur, h1, h2, ?_, h4⟩
    rw [hk g (by rw [h1]; rfl)]; exact h3
theorem srow_but {lo P : Nat} {ok : Nat → Prop} {a c : World} {v : Value} {ns : List ByteArray} (h : SRow lo ok a v ns) (k : But P a c) (hp : ¬ ok P) : SRow lo ok c v ns :=
  srow_keep h (fun b hb => k.block b (srow_own h b hb).2.2 (fun e => hp (e ▸ (srow_own h b hb).1)))
theorem srow_below {lo : Nat} {ok : Nat → Prop} {a c : World} {v : Value} {ns : List ByteArray} (h : SRow lo ok a v ns) (k : Below a.heap.size a c) : SRow lo ok c v ns :=
  srow_keep h (fun b hb => k.block b (srow_own h b hb).2.2)
theorem srow_grown {lo : Nat} {ok : Nat → Prop} {a c : World} {v : Value} {ns : List ByteArray} {row : Option Nat} (h : SRow lo ok a v ns) (k : a.grownBy c row) (hne : ∀ b, v.ownBlock = some b → some b ≠ row) : SRow lo ok c v ns :=
  srow_keep h (fun b hb => k.block b (srow_own h b hb).2.2 (hne b hb))
/-- the nodes' row while another one grows -/
theorem krow_move {lo : Nat} {ok ok' : Nat → Prop} {a c : World} {v : Value} {ks : List Nd} (h : KRow lo ok a v ks) (hs : a.heap.size ≤ c.heap.size) (hk : ∀ b, ok b → b < a.heap.size → ok' b ∧ c.heap[b]? = a.heap[b]?) : KRow lo ok' c v ks := by
  obtain ⟨cs, hown, hr, hg⟩ := h
  refine ⟨cs, ⟨hown.1, ?_⟩, rowN_keep (fun b hb => ⟨⟨(hk b hb.1 hb.2.1).1, Nat.lt_of_lt_of_le hb.2.1 hs, hb.2.2⟩, (hk b hb.1 hb.2.1).2⟩) hr, fun g hv => (hk g (hg g hv) (hown.lt g hv).2).1⟩
  rcases hown.2 with h1 | ⟨g, cap, cur, h1, h2, h3, h4⟩
  · exact .inl h1
  · refine .inr ⟨g, cap, cur, h1, h2, ?_, h4⟩
    rw [(hk g (hg g (by rw [h1]; rfl)) (blk_lt (show Blk g 26 cur a from h3))).2]; exact h3
theorem infoS : ∃ i0, Tryd.prog.info? 9 = some i0 ∧ i0.zero = some (.string ⟨#[]⟩) ∧ i0.size = 1 ∧ i0.bytes = 16 :=
  info_parts (show (Tryd.prog.info? 9).map (fun i => (i.zero, i.size, i.bytes)) = some (some (.string ⟨#[]⟩), 1, 16) by kernel_rfl)
theorem underS : Tryd.prog.underlying 23 = some (.slice 9) := by kernel_rfl
theorem sl_cells {w : World} {z : Nat} {x : ByteArray} (h : Blk z 9 #[.string x] w) : ∀ (j : Nat) (u : Value), ([.string x] : List Value)[j]? = some u → w.cell? ((⟨z, 0, none⟩ : Addr).add j) = some u := by
  intro j u hj
  have e : (⟨z, 0, none⟩ : Addr).add j = ⟨z, j, none⟩ := by unfold Addr.add; split <;> simp_all
  rw [e, blk_cell h]
  simpa using hj
theorem sl_one {x : ByteArray} : ∀ u ∈ ([.string x] : List Value), u.oneCell' = true := by
  intro u hu
  simp only [List.mem_cons, List.not_mem_nil, or_false] at hu
  subst hu; rfl
/-- other blocks than the names' -/
def OkN (ok : Nat → Prop) (nv : Value) (b : Nat) : Prop := ok b ∧ some b ≠ nv.ownBlock
/-- behind an append of a name -/
theorem sput {lo g cap nb pb : Nat} {ok : Nat → Prop} {a b : World} {v kv : Value} {ns : List ByteArray} {ks : List Nd} {x : ByteArray} (hown : b.ownsRow lo 9 1 (.slice (some ⟨g, 0, none⟩) (ns.length + 1) cap) (ns.length + 1) (ns.map Value.string ++ [.string x])) (hgr : a.grownBy b v.ownBlock) (hat : v.ownBlock = some g ∨ g = a.heap.size)
    (hS : SRow lo ok a v ns) (hR : KRow lo (OkN ok v) a kv ks) (hup : ok a.heap.size) (hlo : lo ≤ a.heap.size) (h1 : nb < a.heap.size) (h2 : pb < a.heap.size) (nk : ¬ ok nb) (nq : ¬ ok pb) :
    SRow lo ok b (.slice (some ⟨g, 0, none⟩) (ns.length + 1) cap) (ns ++ [x]) ∧ KRow lo (OkN ok (.slice (some ⟨g, 0, none⟩) (ns.length + 1) cap)) b kv ks ∧ lo ≤ g ∧ g ≠ nb ∧ g ≠ pb := by
  refine ⟨⟨by simpa using hown, fun k hk => ?_⟩, krow_move hR hgr.size (fun k hk hlt => ⟨⟨hk.1, ?_⟩, hgr.block k hlt hk.2⟩), ?_, ?_, ?_⟩
  · simp [Value.ownBlock] at hk
    subst hk
    rcases hat with h | h
    · exact hS.2 _ h
    · exact h ▸ hup
  · intro e
    simp [Value.ownBlock] at e
    subst e
    rcases hat with h | h
    · exact hk.2 h.symm
    · omega
  · rcases hat with h | h
    · exact (srow_own hS g h).2.1
    · omega
  · rcases hat with h | h
    · exact fun e => nk (e ▸ (srow_own hS g h).1)
    · omega
  · rcases hat with h | h
    · exact fun e => nq (e ▸ (srow_own hS g h).1)
    · omega

end Go.Proofs.YtijbiedblahmhaaDoor
