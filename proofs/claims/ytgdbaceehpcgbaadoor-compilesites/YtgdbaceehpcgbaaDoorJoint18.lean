/- Names that are cloned. The resolver, in memory; what becomes of nodes, from the left on. What a node's call lays first. What Check asks of a node alone: within, isExpr, isNamed, hasRoom. A function within: its names, its row. What becomes of an EFn. What becomes of a node. All nodes, by induction. The whole program is function 0. -/
import Derived.Test.YtgdbaceehpcgbaaDoorJoint7
import Derived.Lib.SliceRun
import Derived.Test.YtgdbaceehpcgbaaDoorScMay
import Derived.Test.YtgdbaceehpcgbaaDoorJoint9
namespace Go.Proofs.YtgdbaceehpcgbaaDoor
set_option linter.unusedSimpArgs false
open Go.RowKit

theorem infoStr : ∃ i0, Tryd.prog.info? 9 = some i0 ∧ i0.zero = some (.string ⟨#[]⟩) ∧ i0.size = 1 ∧ i0.bytes = 16 :=
  info_parts (show (Tryd.prog.info? 9).map (fun i => (i.zero, i.size, i.bytes)) = some (some (.string ⟨#[]⟩), 1, 16) by kernel_rfl)
theorem underStr : Tryd.prog.underlying 27 = some (.slice 9) := by kernel_rfl
theorem strs_own {w : World} {v : Value} {ns : List ByteArray} {lo : Nat} (h : w.ownsRow lo 9 1 v ns.length (ns.map Value.string)) : StrsS (fun b => lo ≤ b ∧ b < w.heap.size) v ns w := by
  rcases h.2 with ⟨h1, h2⟩ | ⟨g, cap, cur, h1, h2, h3, h4, h5, h6, h7⟩
  · have : ns = [] := List.length_eq_zero_iff.1 h2
    subst this
    exact .inl ⟨none, 0, h1, rfl⟩
  · refine .inr ⟨g, 0, cap, h1, ⟨h2, blk_lt (show Blk g 9 cur w from h3)⟩, fun i hi => ?_, h4⟩
    rw [Nat.zero_add, blk_cell (show Blk g 9 cur w from h3)]
    have e := congrArg (fun l => l[i]?) h7
    simp only [List.getElem?_take, Array.getElem?_toList, List.getElem?_map] at e
    rw [if_pos (by omega)] at e
    rw [e]
    simp [hi]
end Go.Proofs.YtgdbaceehpcgbaaDoor

namespace Go.Proofs.YtgdbaceehpcgbaaDoor
set_option linter.unusedSimpArgs false
open Go.RowKit

/-- what there is of functions stays -/
def Pre (fs fs' : List Fp) : Prop := ∃ r, fs' = fs ++ r
theorem Pre.refl (fs : List Fp) : Pre fs fs := ⟨[], by simp⟩
theorem Pre.trans {a b c : List Fp} (h : Pre a b) (k : Pre b c) : Pre a c := by
  obtain ⟨r, rfl⟩ := h
  obtain ⟨q, rfl⟩ := k
  exact ⟨r ++ q, by simp⟩
theorem pre_set {a b : List Fp} {x y : Fp} (h : Pre (a ++ [x]) b) : Pre a (b.set a.length y) := by
  obtain ⟨r, rfl⟩ := h
  exact ⟨y :: r, by simp⟩
mutual
theorem resN_pre {gl : List ByteArray} : ∀ (t : Nd) {lo : List ByteArray} {fs : List Fp} {q : Nd × List Fp}, resN gl t lo fs = .ok q → Pre fs q.2
  | .mk k o n s ns ks p, lo, fs, q, h => by
    rw [resN] at h
    split at h
    · split at h
      · cases h
      · cases h1 : parP p ns [] with
        | bad a b => rw [h1] at h; cases h
        | ok own1 =>
          rw [h1, Rz.bind_ok] at h
          cases h2 : letL ks own1 with
          | bad a b => rw [h2] at h; cases h
          | ok own =>
            rw [h2, Rz.bind_ok] at h
            cases h3 : resL gl ks own (fs ++ [(ns.length, own.length, [])]) with
            | bad a b => rw [h3] at h; cases h
            | ok q3 =>
              rw [h3, Rz.bind_ok] at h
              cases h
              exact pre_set (resL_pre ks h3)
    · split at h
      · split at h
        · cases h
        · cases h3 : resL gl ks lo fs with
          | bad a b => rw [h3] at h; cases h
          | ok q3 =>
            rw [h3, Rz.bind_ok] at h
            cases h
            exact resL_pre ks h3
      · cases h3 : resL gl ks lo fs with
        | bad a b => rw [h3] at h; cases h
        | ok q3 =>
          rw [h3, Rz.bind_ok] at h
          cases h
          exact resL_pre ks h3
theorem resL_pre {gl : List ByteArray} : ∀ (l : List Nd) {lo : List ByteArray} {fs : List Fp} {q : List Nd × List Fp}, resL gl l lo fs = .ok q → Pre fs q.2
  | [], lo, fs, q, h => by rw [resL] at h; cases h; exact Pre.refl _
  | x :: r, lo, fs, q, h => by
    rw [resL] at h
    cases h1 : resN gl x lo fs with
    | bad a b => rw [h1] at h; cases h
    | ok q1 =>
      rw [h1, Rz.bind_ok] at h
      cases h2 : resL gl r lo q1.2 with
      | bad a b => rw [h2] at h; cases h
      | ok q2 =>
        rw [h2, Rz.bind_ok] at h
        cases h
        exact (resN_pre x h1).trans (show Pre q1.2 q2.2 from resL_pre r h2)
end
/-- functions in a row of cells -/
def FRow (ok : Nat → Prop) (w : World) : List Fp → List Value → Prop
  | [], cs => cs = []
  | f :: r, cs => ∃ bv cs', cs = [.int .i64 (f.1 : Int), .int .i64 (f.2.1 : Int), bv] ++ cs' ∧ KidsS ok w bv f.2.2 ∧ FRow ok w r cs'
theorem frow_len {ok : Nat → Prop} {w : World} : ∀ {fs : List Fp} {cs : List Value}, FRow ok w fs cs → cs.length = fs.length * 3
  | [], cs, h => by rw [show cs = [] from h]; rfl
  | x :: r, cs, h => by
    obtain ⟨bv, cs', rfl, _, h3⟩ := h
    have := frow_len h3
    simp [this]; omega
theorem frow_keep {ok ok' : Nat → Prop} {a c : World} (hk : ∀ b, ok b → ok' b ∧ c.heap[b]? = a.heap[b]?) : ∀ {fs : List Fp} {cs : List Value}, FRow ok a fs cs → FRow ok' c fs cs
  | [], cs, h => h
  | x :: r, cs, h => by
    obtain ⟨bv, cs', e, h2, h3⟩ := h
    exact ⟨bv, cs', e, kidsS_keep hk h2, frow_keep hk h3⟩
theorem frow_snoc {ok : Nat → Prop} {w : World} {x : Fp} {bv : Value} (hx : KidsS ok w bv x.2.2) : ∀ {fs : List Fp} {cs : List Value}, FRow ok w fs cs → FRow ok w (fs ++ [x]) (cs ++ [.int .i64 (x.1 : Int), .int .i64 (x.2.1 : Int), bv])
  | [], cs, h => by rw [show cs = [] from h]; exact ⟨bv, [], by simp, hx, rfl⟩
  | y :: r, cs, h => by
    obtain ⟨bv', cs', rfl, h2, h3⟩ := h
    exact ⟨bv', cs' ++ [.int .i64 (x.1 : Int), .int .i64 (x.2.1 : Int), bv], by simp, h2, frow_snoc hx h3⟩
theorem frow_set {ok : Nat → Prop} {w : World} {b : List Nd} {bv : Value} (hx : KidsS ok w bv b) : ∀ {fs : List Fp} {cs : List Value} {i : Nat} {p l : Nat} {b0 : List Nd}, FRow ok w fs cs → fs[i]? = some (p, l, b0) → FRow ok w (fs.set i (p, l, b)) (cs.set (i * 3 + 2) bv)
  | [], cs, i, p, l, b0, h, hi => by simp at hi
  | y :: r, cs, 0, p, l, b0, h, hi => by
    obtain ⟨bv', cs', rfl, h2, h3⟩ := h
    simp at hi
    subst hi
    exact ⟨bv, cs', rfl, hx, h3⟩
  | y :: r, cs, i + 1, p, l, b0, h, hi => by
    obtain ⟨bv', cs', rfl, h2, h3⟩ := h
    have ih := frow_set hx h3 (show r[i]? = some (p, l, b0) by simpa using hi)
    refine ⟨bv', cs'.set (i * 3 + 2) bv, ?_, h2, ih⟩
    rw [show (i + 1) * 3 + 2 = i * 3 + 2 + 1 + 1 + 1 by omega]
    rfl
/-- the functions so far -/
def FnsS (ok : Nat → Prop) (w : World) (fv : Value) (fs : List Fp) : Prop := ∃ cs, w.ownsRow 0 44 3 fv fs.length cs ∧ FRow ok w fs cs ∧ ∀ g, fv.ownBlock = some g → ¬ ok g
theorem fnsS_keep {ok ok' : Nat → Prop} {a c : World} {fv : Value} {fs : List Fp} (h : FnsS ok a fv fs) (hk : ∀ b, ok b → ok' b ∧ c.heap[b]? = a.heap[b]?) (hv : ∀ g, fv.ownBlock = some g → c.heap[g]? = a.heap[g]? ∧ ¬ ok' g) : FnsS ok' c fv fs := by
  obtain ⟨cs, h1, h2, h3⟩ := h
  exact ⟨cs, row_keep h1 (fun g hg => (hv g hg).1), frow_keep hk h2, fun g hg => (hv g hg).2⟩
theorem fnsS_lt {ok : Nat → Prop} {w : World} {fv : Value} {fs : List Fp} {g : Nat} (h : FnsS ok w fv fs) (hv : fv.ownBlock = some g) : ∃ cur, Blk g 44 cur w := by
  obtain ⟨cs, h1, _⟩ := h
  exact row_lt h1 hv
theorem fnsS_shape {ok : Nat → Prop} {w : World} {fv : Value} {fs : List Fp} (h : FnsS ok w fv fs) : ∃ ao cap, fv = .slice ao fs.length cap := by
  obtain ⟨cs, h1, _⟩ := h
  exact row_shape h1
/-- what a resolver may write -/
def RT (r : Nat) (fv : Value) (b : Nat) : Prop := b = r ∨ fv.ownBlock = some b
def fltP (p e : Int) : Value := .agg #[.int .i64 p, .int .i64 e]
def ndV (t : Nd) (nv kv : Value) : Value := .agg #[.int .i64 t.kind, .int .i64 t.op, .int .i64 t.num, .string t.str, nv, kv, .int .i64 t.pl]
theorem ndS_shape {ok : Nat → Prop} {w : World} {t : Nd} {nv kv : Value} (h : NdS ok w t nv kv) : ∃ a1 c1 a2 c2, nv = .slice a1 t.names.length c1 ∧ kv = .slice a2 t.kids.length c2 := by
  obtain ⟨k, o, n, s, ns, ks, p⟩ := t
  obtain ⟨h1, h2⟩ := ndS_mk.1 h
  obtain ⟨a1, c1, e1⟩ := strsS_shape h1
  obtain ⟨a2, c2, e2⟩ := kidsS_shape h2
  exact ⟨a1, c1, a2, c2, e1, e2⟩
theorem out_fn_ne {ok ok' : Nat → Prop} {w : World} {v fv : Value} {ks : List Nd} {fs : List Fp} {g : Nat} (h : OutS ok w v ks) (hf : FnsS ok' w fv fs) (hg : v.ownBlock = some g) : fv.ownBlock ≠ some g := fun e => by
  obtain ⟨cs, hown, _⟩ := h
  obtain ⟨cur, hc⟩ := row_lt hown hg
  obtain ⟨cur2, hc2⟩ := fnsS_lt hf e
  unfold Blk at hc hc2
  rw [hc] at hc2; cases hc2

end Go.Proofs.YtgdbaceehpcgbaaDoor

namespace Go.Proofs.YtgdbaceehpcgbaaDoor
set_option linter.unusedSimpArgs false
open Go.RowKit

theorem put7 {g : Nat} {u0 u1 u2 u3 u4 u5 u6 : Value} {w : World} (hg : Blk g 47 #[u0, u1, u2, u3, u4, u5, u6] w) (v0 v1 v2 v3 v4 v5 v6 : Value) :
    Blk g 47 #[v0, v1, v2, v3, v4, v5, v6] (((((((w.setCell ⟨g, 0, none⟩ v0).setCell ⟨g, 1, none⟩ v1).setCell ⟨g, 2, none⟩ v2).setCell ⟨g, 3, none⟩ v3).setCell ⟨g, 4, none⟩ v4).setCell ⟨g, 5, none⟩ v5).setCell ⟨g, 6, none⟩ v6) ∧ Keep (fun b => b = g) w (((((((w.setCell ⟨g, 0, none⟩ v0).setCell ⟨g, 1, none⟩ v1).setCell ⟨g, 2, none⟩ v2).setCell ⟨g, 3, none⟩ v3).setCell ⟨g, 4, none⟩ v4).setCell ⟨g, 5, none⟩ v5).setCell ⟨g, 6, none⟩ v6) := by
  have h1 := (blk_set (blk_set (blk_set (blk_set (blk_set (blk_set (blk_set hg 0 (v0)) 1 (v1)) 2 (v2)) 3 (v3)) 4 (v4)) 5 (v5)) 6 (v6))
  refine ⟨?_, (((((((Keep.set (S := fun x => x = g) rfl (w) 0 (v0)).trans (Keep.set (S := fun x => x = g) rfl ((w.setCell ⟨g, 0, none⟩ (v0))) 1 (v1)) (fun _ _ h => h)).trans (Keep.set (S := fun x => x = g) rfl (((w.setCell ⟨g, 0, none⟩ (v0)).setCell ⟨g, 1, none⟩ (v1))) 2 (v2)) (fun _ _ h => h)).trans (Keep.set (S := fun x => x = g) rfl ((((w.setCell ⟨g, 0, none⟩ (v0)).setCell ⟨g, 1, none⟩ (v1)).setCell ⟨g, 2, none⟩ (v2))) 3 (v3)) (fun _ _ h => h)).trans (Keep.set (S := fun x => x = g) rfl (((((w.setCell ⟨g, 0, none⟩ (v0)).setCell ⟨g, 1, none⟩ (v1)).setCell ⟨g, 2, none⟩ (v2)).setCell ⟨g, 3, none⟩ (v3))) 4 (v4)) (fun _ _ h => h)).trans (Keep.set (S := fun x => x = g) rfl ((((((w.setCell ⟨g, 0, none⟩ (v0)).setCell ⟨g, 1, none⟩ (v1)).setCell ⟨g, 2, none⟩ (v2)).setCell ⟨g, 3, none⟩ (v3)).setCell ⟨g, 4, none⟩ (v4))) 5 (v5)) (fun _ _ h => h)).trans (Keep.set (S := fun x => x = g) rfl (((((((w.setCell ⟨g, 0, none⟩ (v0)).setCell ⟨g, 1, none⟩ (v1)).setCell ⟨g, 2, none⟩ (v2)).setCell ⟨g, 3, none⟩ (v3)).setCell ⟨g, 4, none⟩ (v4)).setCell ⟨g, 5, none⟩ (v5))) 6 (v6)) (fun _ _ h => h))⟩
  simpa using h1
theorem put_size (w : World) (p : Addr) (v : Value) : (w.setCell p v).heap.size = w.heap.size := by simp

end Go.Proofs.YtgdbaceehpcgbaaDoor

namespace Go.Proofs.YtgdbaceehpcgbaaDoor
set_option linter.unusedSimpArgs false
open Go.RowKit

theorem within_calls (n a b : Int) (w : World) : Calls Tryd.prog 49 #[.int .i64 n, .int .i64 a, .int .i64 b] w fun e w' => e = .returned (.bool (withB n a b)) ∧ Below w.heap.size w w' := by
  have H := hid (show withB n a b = (decide (a ≤ n) && decide (n ≤ b)) from rfl)
  cases h1 : decide (a ≤ n) <;> cases h2 : decide (n ≤ b)
  all_goals
    go_enter Tryd.func49, Tryd.ntmps49
    go_wp2_with fail
    go_ret
    exact ⟨by rw [H.out, h1, h2]; rfl, Below.refl _ _⟩
theorem isExpr_calls (k o n : Int) (s : ByteArray) (a1 a2 : Option Addr) (l1 q1 l2 q2 : Nat) (p : Int) (w : World) :
    Calls Tryd.prog 95 #[.agg #[.int .i64 k, .int .i64 o, .int .i64 n, .string s, .slice a1 l1 q1, .slice a2 l2 q2, .int .i64 p]] w fun e w' => e = .returned (.bool (decide (sortK k = 1))) ∧ Below w.heap.size w w' := by
  have A := hid ((Below.refl w.heap.size w).alloc (Nat.le_refl _) (.cells #[.int .i64 k, .int .i64 o, .int .i64 n, .string s, .slice a1 l1 q1, .slice a2 l2 q2, .int .i64 p] 47))
  have H := hid (show decide (sortK k = 1) = (decide (1 ≤ k) && decide (k ≤ 20)) from by
    unfold sortK
    by_cases h : 1 ≤ k ∧ k ≤ 20
    · rw [if_pos h]; simp [h.1, h.2]
    · rw [if_neg h]
      have : (decide (1 ≤ k) && decide (k ≤ 20)) = false := by simpa using h
      rw [this]
      split <;> simp)
  cases h1 : decide (1 ≤ k) <;> cases h2 : decide (k ≤ 20)
  all_goals
    go_enter Tryd.func95, Tryd.ntmps95
    go_wp2_with fail
    go_ret
    exact ⟨by rw [H.out, h1, h2]; rfl, A.out⟩
theorem hasRoom_calls (i : Nat) (hi : i ≤ 1000000) (p l : Int) (a2 : Option Addr) (l2 q2 : Nat) (w : World) :
    Calls Tryd.prog 50 #[.agg #[.int .i64 p, .int .i64 l, .slice a2 l2 q2], .int .i64 i] w fun e w' => e = .returned (.bool (roomB i p l)) ∧ Below w.heap.size w w' := by
  have A := hid ((Below.refl w.heap.size w).alloc (Nat.le_refl _) (.cells #[.int .i64 p, .int .i64 l, .slice a2 l2 q2] 44))
  have X := hid (blk_new w 44 #[.int .i64 p, .int .i64 l, .slice a2 l2 q2])
  by_cases h0 : i = 0
  · subst h0
    have H := hid (show roomB 0 p l = ((p == 0) && (l == 0)) from rfl)
    cases h1 : (p == 0) <;> cases h2 : (l == 0)
    all_goals
      go_enter Tryd.func50, Tryd.ntmps50
      go_wp2_with fail
      go_ret
      exact ⟨by rw [H.out, h1, h2]; rfl, A.out⟩
  · have H := hid (show roomB i p l = (withB p 0 6 && withB l p 24) from by unfold roomB; rw [if_neg h0])
    have hi0 : ((i : Int) == 0) = false := by simpa using h0
    go_enter Tryd.func50, Tryd.ntmps50
    go_wp2_with fail
    refine (within_calls _ _ _ _).mono ?_
    rintro e1 w1 ⟨rfl, b1⟩
    have B1 := hid (below_on A.out b1)
    have x1 := blk_on X.out b1
    obtain ⟨c0, c1⟩ : w1.cell? ⟨w.heap.size, 0, none⟩ = some (.int .i64 p) ∧ w1.cell? ⟨w.heap.size, 1, none⟩ = some (.int .i64 l) := ⟨(blk_cell x1 0).trans rfl, (blk_cell x1 1).trans rfl⟩
    clear b1 x1 A X
    cases hw : withB p 0 6
    · rw [hw] at H
      go_wp2_with fail
      go_ret
      exact ⟨by rw [H.out]; rfl, B1.out⟩
    · rw [hw] at H
      go_wp2_with fail
      refine (within_calls _ _ _ _).mono ?_
      rintro e2 w2 ⟨rfl, b2⟩
      have B2 := hid (below_on B1.out b2)
      clear b2
      go_wp2_with fail
      go_ret
      exact ⟨by rw [H.out]; rfl, B2.out⟩
set_option maxHeartbeats 1600000 in
theorem isNamed_calls (b : Bds) (hb : (-1000000 ≤ b.1 ∧ b.1 ≤ 1000000) ∧ (-1000000 ≤ b.2.1 ∧ b.2.1 ≤ 1000000) ∧ (-1000000 ≤ b.2.2 ∧ b.2.2 ≤ 1000000)) (k o n : Int) (s : ByteArray) (a1 a2 : Option Addr) (l1 q1 l2 q2 : Nat) (p : Int) (w : World) :
    Calls Tryd.prog 82 #[.agg #[.int .i64 b.1, .int .i64 b.2.1, .int .i64 b.2.2], .agg #[.int .i64 k, .int .i64 o, .int .i64 n, .string s, .slice a1 l1 q1, .slice a2 l2 q2, .int .i64 p]] w fun e w' => e = .returned (.bool (namedB b k n)) ∧ Below w.heap.size w w' := by
  obtain ⟨L, G, F⟩ := b
  dsimp only at hb ⊢
  have A := hid (((Below.refl w.heap.size w).alloc (Nat.le_refl _) (.cells #[.int .i64 L, .int .i64 G, .int .i64 F] 98)).alloc (by simp) (.cells #[.int .i64 k, .int .i64 o, .int .i64 n, .string s, .slice a1 l1 q1, .slice a2 l2 q2, .int .i64 p] 47))
  have H := hid (show namedB (L, G, F) k n = if k = 5 ∨ k = 8 ∨ k = 21 ∨ k = 22 then false else if k = 18 ∨ k = 33 then withB n 0 (L - 1) else if k = 19 ∨ k = 34 then withB n 0 (G - 1) else if k = 20 then withB n 0 (F - 1) else true from rfl)
  have ways : k = 5 ∨ k = 8 ∨ k = 21 ∨ k = 22 ∨ k = 18 ∨ k = 33 ∨ k = 19 ∨ k = 34 ∨ k = 20 ∨ (k ≠ 5 ∧ k ≠ 8 ∧ k ≠ 21 ∧ k ≠ 22 ∧ k ≠ 18 ∧ k ≠ 33 ∧ k ≠ 19 ∧ k ≠ 34 ∧ k ≠ 20) := by omega
  rcases ways with rfl | rfl | rfl | rfl | rfl | rfl | rfl | rfl | rfl | ⟨h1, h2, h3, h4, h5, h6, h7, h8, h9⟩
  iterate 4
    · go_enter Tryd.func82, Tryd.ntmps82
      go_wp2_with fail
      go_ret
      exact ⟨by rw [H.out]; rfl, A.out⟩
  iterate 5
    · go_enter Tryd.func82, Tryd.ntmps82
      go_wp2_with fail
      refine (within_calls _ _ _ _).mono ?_
      rintro e1 w1 ⟨rfl, b1⟩
      have B1 := hid (below_on A.out b1)
      clear b1
      go_wp2_with fail
      go_ret
      exact ⟨by rw [H.out]; first | rfl | (congr 2; go_num), B1.out⟩
  · go_enter Tryd.func82, Tryd.ntmps82
    go_wp2_with fail
    go_ret
    exact ⟨by rw [H.out, if_neg (by omega), if_neg (by omega), if_neg (by omega), if_neg (by omega)]; rfl, A.out⟩
theorem un_same {k n : Int} (h : k ≠ 18 ∧ k ≠ 19 ∧ k ≠ 20 ∧ k ≠ 33 ∧ k ≠ 34) : unK k = k ∧ unM k n = n := by
  unfold unK unM
  rw [if_neg (by omega), if_neg (by omega), if_neg (by omega)]
  exact ⟨rfl, rfl⟩
end Go.Proofs.YtgdbaceehpcgbaaDoor

namespace Go.Proofs.YtgdbaceehpcgbaaDoor
set_option linter.unusedSimpArgs false
open Go.RowKit

theorem nm_ne_blk {m : Nat} {l : List ByteArray} {g : Nat} {T : TypeId} {cs : Array Value} {w : World} (h : NmAt m l w) (hb : Blk g T cs w) : m ≠ g := fun e => by
  obtain ⟨es, cl, hm⟩ := mapN_block h
  unfold Blk at hb
  rw [e, hb] at hm; cases hm
theorem blk_not {b : Nat} {ty ty' : TypeId} {cs : Array Value} {a : World} (h : Blk b ty cs a) (hn : ty ≠ ty') : ∀ cs', ¬ Blk b ty' cs' a := fun cs' h' => by
  have h1 : a.heap[b]? = _ := h
  have h2 : a.heap[b]? = _ := h'
  rw [h1] at h2
  simp only [Option.some.injEq, Obj.cells.injEq] at h2
  exact hn h2.2.1
theorem infoF : ∃ i0, Tryd.prog.info? 44 = some i0 ∧ i0.zero = some (.agg #[.int .i64 0, .int .i64 0, .slice none 0 0]) ∧ i0.size = 3 ∧ i0.bytes = 40 :=
  info_parts (show (Tryd.prog.info? 44).map (fun i => (i.zero, i.size, i.bytes)) = some (some (.agg #[.int .i64 0, .int .i64 0, .slice none 0 0]), 3, 40) by kernel_rfl)
theorem underF : Tryd.prog.underlying 22 = some (.slice 44) := by kernel_rfl
end Go.Proofs.YtgdbaceehpcgbaaDoor

namespace Go.Proofs.YtgdbaceehpcgbaaDoor
set_option linter.unusedSimpArgs false
open Go.RowKit

theorem row_some {T : TypeId} {z n : Nat} {v : Value} {xs : List Value} {w : World} (h : w.ownsRow 0 T z v n xs) (hn : 0 < n) : ∃ g cap, v = .slice (some ⟨g, 0, none⟩) n cap := by
  rcases h.2 with ⟨h1, h2⟩ | ⟨g, cap, cur, h1, _⟩
  · omega
  · exact ⟨g, cap, h1⟩
theorem parP_len : ∀ {ns acc l : List ByteArray} {p : Int}, acc.length ≤ 24 → parP p ns acc = .ok l → l.length ≤ 24
  | [], acc, l, p, ha, h => by cases h; exact ha
  | s :: r, acc, l, p, ha, h => by
    unfold parP at h
    cases hd : declR acc s p with
    | ok a => rw [hd] at h; exact parP_len (declR_len ha hd) h
    | bad q' e' => rw [hd] at h; cases h
end Go.Proofs.YtgdbaceehpcgbaaDoor

namespace Go.Proofs.YtgdbaceehpcgbaaDoor
set_option linter.unusedSimpArgs false
open Go.RowKit

end Go.Proofs.YtgdbaceehpcgbaaDoor

namespace Go.Proofs.YtgdbaceehpcgbaaDoor
open Go.RowKit

end Go.Proofs.YtgdbaceehpcgbaaDoor

namespace Go.Proofs.YtgdbaceehpcgbaaDoor
set_option linter.unusedSimpArgs false
open Go.RowKit

theorem elFn : Elem 22 44 3 40 := elem_of (z0 := .agg #[.int .i64 0, .int .i64 0, .slice none 0 0]) (by kernel_rfl) (by kernel_rfl) rfl
theorem row_some' {T : TypeId} {z n : Nat} {v : Value} {xs : List Value} {w : World} (h : w.ownsRow 0 T z v n xs) (hn : 0 < n) : ∃ g cap, v = .slice (some ⟨g, 0, none⟩) n cap := by
  rcases h.2 with ⟨h1, h2⟩ | ⟨g, cap, cur, h1, _⟩
  · omega
  · exact ⟨g, cap, h1⟩
end Go.Proofs.YtgdbaceehpcgbaaDoor
