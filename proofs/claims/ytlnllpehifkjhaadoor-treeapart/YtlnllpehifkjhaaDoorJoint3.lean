/- A tree that lies below a place lies below any later one. A program as it is written. -/
import Derived.Test.YtlnllpehifkjhaaDoorJoint2
import Derived.Test.YtlnllpehifkjhaaDoorWrAll
import Derived.Test.YtlnllpehifkjhaaDoorTreeCheck
import Derived.Test.YtlnllpehifkjhaaDoorNdLen
namespace Go.Proofs.YtlnllpehifkjhaaDoor
open Go.RowKit

theorem strsIn_up {B B' : Nat} {w : World} {v : Value} {l : List ByteArray} (hB : B ≤ B') (h : StrsIn B v l w) : StrsIn B' v l w := by
  rcases h with h | ⟨b, off, cap, h1, h2, h3, h4⟩
  · exact .inl h
  · exact .inr ⟨b, off, cap, h1, Nat.lt_of_lt_of_le h2 hB, h3, h4⟩
mutual
theorem ndIn_up {B B' : Nat} {w : World} (hB : B ≤ B') : ∀ (t : Nd) (nv kv : Value), NdIn B w t nv kv → NdIn B' w t nv kv
  | .mk _ _ _ _ ns ks _, nv, kv, h => by
    rw [NdIn] at h ⊢
    obtain ⟨h1, h2⟩ := h
    refine ⟨strsIn_up hB h1, ?_⟩
    rcases h2 with h2 | ⟨b, off, cap, e, hb, h3, h4⟩
    · exact .inl h2
    · exact .inr ⟨b, off, cap, e, Nat.lt_of_lt_of_le hb hB, ndsAt_up hB ks off h3, h4⟩
theorem ndsAt_up {B B' : Nat} {w : World} {b : Nat} (hB : B ≤ B') : ∀ (ks : List Nd) (off : Nat), NdsAt B w b ks off → NdsAt B' w b ks off
  | [], _, _ => by rw [NdsAt]; trivial
  | .mk k op n s ns ks p :: r, off, h => by
    rw [NdsAt] at h ⊢
    obtain ⟨⟨nv, kv, h1, h2⟩, h3⟩ := h
    exact ⟨⟨nv, kv, h1, ndIn_up hB _ _ _ h2⟩, ndsAt_up hB r _ h3⟩
end
theorem kidsIn_up {B B' : Nat} {w : World} {kv : Value} {ks : List Nd} (hB : B ≤ B') (h : KidsIn B w kv ks) : KidsIn B' w kv ks := by
  rcases h with h2 | ⟨b, off, cap, e, hb, h3, h4⟩
  · exact .inl h2
  · exact .inr ⟨b, off, cap, e, Nat.lt_of_lt_of_le hb hB, ndsAt_up hB ks off h3, h4⟩
theorem ok_up {B B' : Nat} {w : World} (hB : B ≤ B') (hw : B' ≤ w.heap.size) (h : Ok B w) : Ok B' w := ⟨hw, Nat.lt_of_lt_of_le h.2.1 hB, h.2.2⟩

end Go.Proofs.YtlnllpehifkjhaaDoor

namespace Go.Proofs.YtlnllpehifkjhaaDoor
open Go.RowKit
set_option linter.unusedVariables false

theorem check_right {x : Nd} (h : checkN x = 0) : rightN x 3 = true ∧ highN x ≤ 12 := by
  unfold checkN at h
  split at h
  · cases h
  · rename_i h1
    split at h
    · rename_i h2; exact ⟨h2, by omega⟩
    · cases h

set_option maxHeartbeats 1600000 in
theorem print_calls (x : Nd) (B : Nat) (w : World) (nv kv : Value) (hO : Hid (Ok B w)) (hN : Hid (NdIn B w x nv kv)) (hs : smallN x = true) (hc : countN x ≤ 1000) :
    Calls Tryd.prog 15 #[.agg #[.int .i64 x.kind, .int .i64 x.op, .int .i64 x.num, .string x.str, nv, kv, .int .i64 x.pl]] w fun e w' =>
      e = .returned (.tuple #[.string ⟨(printN x).1.toArray⟩, .int .i64 (printN x).2]) ∧ Below w.heap.size w w' := by
  obtain ⟨a1, q1, a2, q2, rfl, rfl⟩ := ndIn_shape hN.out
  have hal := (Below.refl w.heap.size w).alloc (Nat.le_refl _) (.cells #[.int .i64 x.kind, .int .i64 x.op, .int .i64 x.num, .string x.str, .slice a1 x.names.length q1, .slice a2 x.kids.length q2, .int .i64 x.pl] 25)
  have hB := hO.out.1
  have AL := hid hal
  have N := hid (ndIn_on (hal.mono hB) _ _ _ hN.out)
  have O := hid (ok_on hO.out (hal.mono hB))
  have X := hid (box_new w x.kind x.op x.num x.str (.slice a1 x.names.length q1) (.slice a2 x.kids.length q2) x.pl)
  have HS := hid hs
  have hlen := print_len x hs hc
  have HP := hid (show printN x = if checkN x ≠ 0 then ([], checkN x) else if 2000 < (printT x).length then ([], 3) else (printT x, 0) from rfl)
  have HCR := hid (fun h => check_right (x := x) h)
  have HPT := hid (show printT x = programT (x.kids.map textN) from rfl)
  clear hal hN hO hs
  go_enter Tryd.func15, Tryd.ntmps15
  go_wp2_with fail
  refine (check_tree x B _ _ _ O N HS.out (by omega)).mono ?_
  rintro e w1 ⟨rfl, b1⟩
  have B1 := hid (below_in AL.out (by simp) b1)
  have bq : Below B _ w1 := b1.mono (by simp; omega)
  have N1 := hid (ndIn_on bq _ _ _ N.out)
  have O1 := hid (ok_on O.out bq)
  have hX1 := box_on X.out b1
  have hz1 : w.heap.size < w1.heap.size := box_lt hX1
  have X1 := hid hX1
  obtain ⟨c0, c1, c2, c3, c4, c5, c6⟩ := box_cells hX1
  clear b1 bq N O X AL hX1
  generalize checkN x = ck at *
  by_cases hck : ck = 0
  · subst hck
    obtain ⟨hr3, _⟩ := HCR.out rfl
    have hnew := has_new 43 [] w1 #[.pointer none, .slice none 0 0] rfl
    have hal := (Below.refl w1.heap.size w1).alloc (Nat.le_refl _) (.cells #[.pointer none, .slice none 0 0] 43)
    have W2 := hid (show Wr w1.heap.size w1.heap.size [] (w1.alloc (.cells #[.pointer none, .slice none 0 0] 43)) from ⟨hnew, by simp⟩)
    have O2 := hid (ok_up (B' := w1.heap.size) O1.out.1 (by simp) (ok_on O1.out (hal.mono O1.out.1)))
    have hK : KidsIn B w1 (.slice a2 x.kids.length q2) x.kids := by
      obtain ⟨k, o, n, s, ns, ks, p⟩ := x
      exact (ndIn_mk.1 N1.out).2
    have K2 := hid (kidsIn_up (B' := w1.heap.size) O1.out.1 (kidsIn_on (hal.mono O1.out.1) hK))
    have AL2 := hid hal
    have hkids : (∀ z ∈ x.kids, smallN z = true) ∧ countL x.kids ≤ 1000000 := by
      obtain ⟨k, o, n, s, ns, ks, p⟩ := x
      refine ⟨(small_mk HS.out).2.2.2, ?_⟩
      simp only [countN] at hc
      simp only [Nd.kids]; omega
    have HK := hid hkids
    have HBK := hid (block_kids hr3)
    clear hnew hal hK hkids hr3 HCR N1
    go_wp2_with fail
    refine (wprogram_calls x.kids (fun z hz => (writes x).2 z hz) HBK.out w1.heap.size w1.heap.size [] _ _ W2 O2 K2 HK.out.1 HK.out.2 (by rw [← HPT.out]; simpa using hlen)).mono ?_
    rintro e w2 ⟨rfl, l2, hW2, hw2, n2⟩
    rw [← HPT.out] at hw2
    have W3 := hid hW2
    have R3 := hid hw2
    have hl2 := wrote_le hw2
    have N3 := hid ((AL2.out.trans n2.below))
    clear hW2 hw2 n2 W2 O2 K2 AL2 HK HBK
    simp only [List.length_nil, Nat.zero_add] at hl2
    go_wp2_with fail
    refine (full_calls W3 (by omega)).mono ?_
    rintro e w3 ⟨rfl, rfl⟩
    by_cases hfull : 2000 < l2.length
    · rw [decide_eq_true hfull]
      have H := hid (show printN x = ([], 3) by
        rw [HP.out, if_neg (by simp)]
        rw [if_pos]
        rcases R3.out.2 with ⟨h1, h2⟩ | ⟨h1, _⟩
        · rw [h2] at hfull; simpa using hfull
        · simpa using h1)
      clear hfull
      go_wp2_with fail
      go_ret2
      exact ⟨by rw [H.out]; rfl, below_in B1.out (Nat.le_refl _) N3.out⟩
    · rw [decide_eq_false hfull]
      have H := hid (show printN x = (l2, 0) by
        rcases R3.out.2 with ⟨h1, h2⟩ | ⟨_, h2⟩
        · rw [HP.out, if_neg (by simp), if_neg (by simp at h1; omega)]
          rw [h2]; simp
        · omega)
      clear hfull
      go_wp2_with fail
      refine (string_calls _ _ _ _ _ _ W3.out.1).mono ?_
      rintro e w4 ⟨rfl, b4, _⟩
      have B4 := hid (below_in B1.out (Nat.le_refl _) (N3.out.trans b4))
      clear b4
      go_wp2_with fail
      go_ret2
      exact ⟨by rw [H.out]; rfl, B4.out⟩
  · have e0 : (ck != 0) = true := by rw [bne_iff_ne]; exact hck
    have H := hid (show printN x = ([], ck) by rw [HP.out, if_pos hck])
    clear hck
    go_wp2_with fail
    go_ret2
    exact ⟨by rw [H.out]; rfl, B1.out⟩

end Go.Proofs.YtlnllpehifkjhaaDoor
