/- Whether a tree may be a program. A tree that lies below a place lies below any later one. -/
import Derived.Test.YtmihckhflbepjaaDoorTreeStmt
import Derived.Test.YtmihckhflbepjaaDoorJoint4
namespace Go.Proofs.YtmihckhflbepjaaDoor
open Go.RowKit

set_option maxHeartbeats 1600000 in
theorem check_tree (x : Nd) (B : Nat) (w : World) (nv kv : Value) (hO : Hid (Ok B w)) (hN : Hid (NdIn B w x nv kv)) (hs : smallN x = true) (hc : countN x ≤ 1000000) :
    Calls Tryd.prog 20 #[.agg #[.int .i64 x.kind, .int .i64 x.op, .int .i64 x.num, .string x.str, nv, kv, .int .i64 x.pl]] w fun e w' =>
      e = .returned (.int .i64 (checkN x)) ∧ Below w.heap.size w w' := by
  obtain ⟨a1, q1, a2, q2, rfl, rfl⟩ := ndIn_shape hN.out
  have hal := (Below.refl w.heap.size w).alloc (Nat.le_refl _) (.cells #[.int .i64 x.kind, .int .i64 x.op, .int .i64 x.num, .string x.str, .slice a1 x.names.length q1, .slice a2 x.kids.length q2, .int .i64 x.pl] 25)
  have hB := hO.out.1
  have AL := hid hal
  have N := hid (ndIn_on (hal.mono hB) _ _ _ hN.out)
  have O := hid (ok_on hO.out (hal.mono hB))
  have X := hid (box_new w x.kind x.op x.num x.str (.slice a1 x.names.length q1) (.slice a2 x.kids.length q2) x.pl)
  have HS := hid hs
  have H := hid (show checkN x = if decide (12 < highN x) then 13 else if rightN x 3 then 0 else 2 by unfold checkN; simp only [decide_eq_true_eq])
  clear hal hN hO hs
  go_enter Tryd.func20, Tryd.ntmps20
  go_wp2_with fail
  refine (higher_calls x B _ _ _ 12 (by simp; omega) N hc (by omega)).mono ?_
  rintro e w1 ⟨rfl, b1⟩
  have B1 := hid (below_in AL.out (by simp) b1)
  have bq : Below B _ w1 := b1.mono (by simp; omega)
  have N1 := hid (ndIn_on bq _ _ _ N.out)
  have O1 := hid (ok_on O.out bq)
  obtain ⟨c0, c1, c2, c3, c4, c5, c6⟩ := box_cells (box_on X.out b1)
  clear b1 bq N O X AL
  generalize decide (12 < highN x) = hb at *
  cases hb
  · go_wp2_with fail
    refine ((right_calls x).2.2 B _ _ _ O1 N1 HS.out hc).mono ?_
    rintro e w2 ⟨rfl, b2⟩
    have B2 := hid (below_in B1.out (Nat.le_refl _) b2)
    clear b2 B1 N1 O1
    generalize rightN x 3 = rb at *
    cases rb
    · go_wp2_with fail
      go_ret
      exact ⟨by rw [H.out]; rfl, B2.out⟩
    · go_wp2_with fail
      go_ret
      exact ⟨by rw [H.out]; rfl, B2.out⟩
  · go_wp2_with fail
    go_ret
    exact ⟨by rw [H.out]; rfl, B1.out⟩

end Go.Proofs.YtmihckhflbepjaaDoor

namespace Go.Proofs.YtmihckhflbepjaaDoor
open Go.RowKit

theorem strsIn_up {B B' : Nat} {w : World} {v : Value} {l : List ByteArray} (hB : B ≤ B') (h : StrsIn B v l w) : StrsIn B' v l w := by
  rcases h with h | ⟨b, off, cap, h1, h2, h3, h4⟩
  · exact .inl h
  · exact .inr ⟨b, off, cap, h1, Nat.lt_of_lt_of_le h2 hB, h3, h4⟩
mutual
theorem ndIn_up {B B' : Nat} {w : World} (hB : B ≤ B') : ∀ (t : Nd) (nv kv : Value), NdIn B w t nv kv → NdIn B' w t nv kv
  | .mk _ _ _ _ ns ks _, nv, kv, h => by
    rw [NdIn] at h ⊢
    obtain ⟨h1, h2⟩ := h
    refine ⟨strsIn_up hB h1, ?_⟩
    rcases h2 with h2 | ⟨b, off, cap, e, hb, h3, h4⟩
    · exact .inl h2
    · exact .inr ⟨b, off, cap, e, Nat.lt_of_lt_of_le hb hB, ndsAt_up hB ks off h3, h4⟩
theorem ndsAt_up {B B' : Nat} {w : World} {b : Nat} (hB : B ≤ B') : ∀ (ks : List Nd) (off : Nat), NdsAt B w b ks off → NdsAt B' w b ks off
  | [], _, _ => by rw [NdsAt]; trivial
  | .mk k op n s ns ks p :: r, off, h => by
    rw [NdsAt] at h ⊢
    obtain ⟨⟨nv, kv, h1, h2⟩, h3⟩ := h
    exact ⟨⟨nv, kv, h1, ndIn_up hB _ _ _ h2⟩, ndsAt_up hB r _ h3⟩
end
theorem kidsIn_up {B B' : Nat} {w : World} {kv : Value} {ks : List Nd} (hB : B ≤ B') (h : KidsIn B w kv ks) : KidsIn B' w kv ks := by
  rcases h with h2 | ⟨b, off, cap, e, hb, h3, h4⟩
  · exact .inl h2
  · exact .inr ⟨b, off, cap, e, Nat.lt_of_lt_of_le hb hB, ndsAt_up hB ks off h3, h4⟩
theorem ok_up {B B' : Nat} {w : World} (hB : B ≤ B') (hw : B' ≤ w.heap.size) (h : Ok B w) : Ok B' w := ⟨hw, Nat.lt_of_lt_of_le h.2.1 hB, h.2.2⟩

end Go.Proofs.YtmihckhflbepjaaDoor
