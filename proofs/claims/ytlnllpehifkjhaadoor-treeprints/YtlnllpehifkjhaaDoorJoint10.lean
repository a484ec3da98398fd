/- A tree that lies below a place lies below any later one. A program as it is written. The laws' own test. -/
import Derived.Test.YtlnllpehifkjhaaDoorJoint4
import Derived.Test.YtlnllpehifkjhaaDoorWrAll
import Derived.Test.YtlnllpehifkjhaaDoorJoint9
import Derived.KernelRfl
namespace Go.Proofs.YtlnllpehifkjhaaDoor
open Go.RowKit

theorem strsIn_up {B B' : Nat} {w : World} {v : Value} {l : List ByteArray} (hB : B ≤ B') (h : StrsIn B v l w) : StrsIn B' v l w := by
  rcases h with h | ⟨b, off, cap, h1, h2, h3, h4⟩
  · exact .inl h
  · exact .inr ⟨b, off, cap, h1, Nat.lt_of_lt_of_le h2 hB, h3, h4⟩
mutual
theorem ndIn_up {B B' : Nat} {w : World} (hB : B ≤ B') : ∀ (t : Nd) (nv kv : Value), NdIn B w t nv kv → NdIn B' w t nv kv
  | .mk _ _ _ _ ns ks _, nv, kv, h => by
    rw [NdIn] at h ⊢
    obtain ⟨h1, h2⟩ := h
    refine ⟨strsIn_up hB h1, ?_⟩
    rcases h2 with h2 | ⟨b, off, cap, e, hb, h3, h4⟩
    · exact .inl h2
    · exact .inr ⟨b, off, cap, e, Nat.lt_of_lt_of_le hb hB, ndsAt_up hB ks off h3, h4⟩
theorem ndsAt_up {B B' : Nat} {w : World} {b : Nat} (hB : B ≤ B') : ∀ (ks : List Nd) (off : Nat), NdsAt B w b ks off → NdsAt B' w b ks off
  | [], _, _ => by rw [NdsAt]; trivial
  | .mk k op n s ns ks p :: r, off, h => by
    rw [NdsAt] at h ⊢
    obtain ⟨⟨nv, kv, h1, h2⟩, h3⟩ := h
    exact ⟨⟨nv, kv, h1, ndIn_up hB _ _ _ h2⟩, ndsAt_up hB r _ h3⟩
end
theorem kidsIn_up {B B' : Nat} {w : World} {kv : Value} {ks : List Nd} (hB : B ≤ B') (h : KidsIn B w kv ks) : KidsIn B' w kv ks := by
  rcases h with h2 | ⟨b, off, cap, e, hb, h3, h4⟩
  · exact .inl h2
  · exact .inr ⟨b, off, cap, e, Nat.lt_of_lt_of_le hb hB, ndsAt_up hB ks off h3, h4⟩
theorem ok_up {B B' : Nat} {w : World} (hB : B ≤ B') (hw : B' ≤ w.heap.size) (h : Ok B w) : Ok B' w := ⟨hw, Nat.lt_of_lt_of_le h.2.1 hB, h.2.2⟩

end Go.Proofs.YtlnllpehifkjhaaDoor

namespace Go.Proofs.YtlnllpehifkjhaaDoor
open Go.RowKit
set_option linter.unusedVariables false

theorem check_right {x : Nd} (h : checkN x = 0) : rightN x 3 = true ∧ highN x ≤ 12 := by
  unfold checkN at h
  split at h
  · cases h
  · rename_i h1
    split at h
    · rename_i h2; exact ⟨h2, by omega⟩
    · cases h

set_option maxHeartbeats 1600000 in
theorem print_calls (x : Nd) (B : Nat) (w : World) (nv kv : Value) (hO : Hid (Ok B w)) (hN : Hid (NdIn B w x nv kv)) (hs : smallN x = true) (hc : countN x ≤ 1000) :
    Calls Tryd.prog 15 #[.agg #[.int .i64 x.kind, .int .i64 x.op, .int .i64 x.num, .string x.str, nv, kv, .int .i64 x.pl]] w fun e w' =>
      e = .returned (.tuple #[.string ⟨(printN x).1.toArray⟩, .int .i64 (printN x).2]) ∧ Below w.heap.size w w' := by
  obtain ⟨a1, q1, a2, q2, rfl, rfl⟩ := ndIn_shape hN.out
  have hal := (Below.refl w.heap.size w).alloc (Nat.le_refl _) (.cells #[.int .i64 x.kind, .int .i64 x.op, .int .i64 x.num, .string x.str, .slice a1 x.names.length q1, .slice a2 x.kids.length q2, .int .i64 x.pl] 25)
  have hB := hO.out.1
  have AL := hid hal
  have N := hid (ndIn_on (hal.mono hB) _ _ _ hN.out)
  have O := hid (ok_on hO.out (hal.mono hB))
  have X := hid (box_new w x.kind x.op x.num x.str (.slice a1 x.names.length q1) (.slice a2 x.kids.length q2) x.pl)
  have HS := hid hs
  have hlen := print_len x hs hc
  have HP := hid (show printN x = if checkN x ≠ 0 then ([], checkN x) else if 2000 < (printT x).length then ([], 3) else (printT x, 0) from rfl)
  have HCR := hid (fun h => check_right (x := x) h)
  have HPT := hid (show printT x = programT (x.kids.map textN) from rfl)
  clear hal hN hO hs
  go_enter Tryd.func15, Tryd.ntmps15
  go_wp2_with fail
  refine (check_tree x B _ _ _ O N HS.out (by omega)).mono ?_
  rintro e w1 ⟨rfl, b1⟩
  have B1 := hid (below_in AL.out (by simp) b1)
  have bq : Below B _ w1 := b1.mono (by simp; omega)
  have N1 := hid (ndIn_on bq _ _ _ N.out)
  have O1 := hid (ok_on O.out bq)
  have hX1 := box_on X.out b1
  have hz1 : w.heap.size < w1.heap.size := box_lt hX1
  have X1 := hid hX1
  obtain ⟨c0, c1, c2, c3, c4, c5, c6⟩ := box_cells hX1
  clear b1 bq N O X AL hX1
  generalize checkN x = ck at *
  by_cases hck : ck = 0
  · subst hck
    obtain ⟨hr3, _⟩ := HCR.out rfl
    have hnew := has_new 43 [] w1 #[.pointer none, .slice none 0 0] rfl
    have hal := (Below.refl w1.heap.size w1).alloc (Nat.le_refl _) (.cells #[.pointer none, .slice none 0 0] 43)
    have W2 := hid (show Wr w1.heap.size w1.heap.size [] (w1.alloc (.cells #[.pointer none, .slice none 0 0] 43)) from ⟨hnew, by simp⟩)
    have O2 := hid (ok_up (B' := w1.heap.size) O1.out.1 (by simp) (ok_on O1.out (hal.mono O1.out.1)))
    have hK : KidsIn B w1 (.slice a2 x.kids.length q2) x.kids := by
      obtain ⟨k, o, n, s, ns, ks, p⟩ := x
      exact (ndIn_mk.1 N1.out).2
    have K2 := hid (kidsIn_up (B' := w1.heap.size) O1.out.1 (kidsIn_on (hal.mono O1.out.1) hK))
    have AL2 := hid hal
    have hkids : (∀ z ∈ x.kids, smallN z = true) ∧ countL x.kids ≤ 1000000 := by
      obtain ⟨k, o, n, s, ns, ks, p⟩ := x
      refine ⟨(small_mk HS.out).2.2.2, ?_⟩
      simp only [countN] at hc
      simp only [Nd.kids]; omega
    have HK := hid hkids
    have HBK := hid (block_kids hr3)
    clear hnew hal hK hkids hr3 HCR N1
    go_wp2_with fail
    refine (wprogram_calls x.kids (fun z hz => (writes x).2 z hz) HBK.out w1.heap.size w1.heap.size [] _ _ W2 O2 K2 HK.out.1 HK.out.2 (by rw [← HPT.out]; simpa using hlen)).mono ?_
    rintro e w2 ⟨rfl, l2, hW2, hw2, n2⟩
    rw [← HPT.out] at hw2
    have W3 := hid hW2
    have R3 := hid hw2
    have hl2 := wrote_le hw2
    have N3 := hid ((AL2.out.trans n2.below))
    clear hW2 hw2 n2 W2 O2 K2 AL2 HK HBK
    simp only [List.length_nil, Nat.zero_add] at hl2
    go_wp2_with fail
    refine (full_calls W3 (by omega)).mono ?_
    rintro e w3 ⟨rfl, rfl⟩
    by_cases hfull : 2000 < l2.length
    · rw [decide_eq_true hfull]
      have H := hid (show printN x = ([], 3) by
        rw [HP.out, if_neg (by simp)]
        rw [if_pos]
        rcases R3.out.2 with ⟨h1, h2⟩ | ⟨h1, _⟩
        · rw [h2] at hfull; simpa using hfull
        · simpa using h1)
      clear hfull
      go_wp2_with fail
      go_ret2
      exact ⟨by rw [H.out]; rfl, below_in B1.out (Nat.le_refl _) N3.out⟩
    · rw [decide_eq_false hfull]
      have H := hid (show printN x = (l2, 0) by
        rcases R3.out.2 with ⟨h1, h2⟩ | ⟨_, h2⟩
        · rw [HP.out, if_neg (by simp), if_neg (by simp at h1; omega)]
          rw [h2]; simp
        · omega)
      clear hfull
      go_wp2_with fail
      refine (string_calls _ _ _ _ _ _ W3.out.1).mono ?_
      rintro e w4 ⟨rfl, b4, _⟩
      have B4 := hid (below_in B1.out (Nat.le_refl _) (N3.out.trans b4))
      clear b4
      go_wp2_with fail
      go_ret2
      exact ⟨by rw [H.out]; rfl, B4.out⟩
  · have e0 : (ck != 0) = true := by rw [bne_iff_ne]; exact hck
    have H := hid (show printN x = ([], ck) by rw [HP.out, if_pos hck])
    clear hck
    go_wp2_with fail
    go_ret2
    exact ⟨by rw [H.out]; rfl, B1.out⟩

end Go.Proofs.YtlnllpehifkjhaaDoor

namespace Go.Proofs.YtlnllpehifkjhaaDoor
open Go.RowKit

def tA : Nd := .mk 5 0 0 ⟨#[97]⟩ [] [] 0
def tGet : Nd := .mk 13 0 0 ⟨#[102]⟩ [] [tA] 0
def tCall : Nd := .mk 15 0 0 ⟨#[]⟩ [] [tGet, tA] 0
def tStmt : Nd := .mk 32 0 0 ⟨#[]⟩ [] [tCall] 0
def tProg : Nd := .mk 29 0 0 ⟨#[]⟩ [] [tStmt] 0
theorem trial_print : printN tProg = ([40, 97, 46, 102, 41, 40, 97, 41, 59], 0) := by kernel_rfl
theorem trial_small : smallN tProg = true := by kernel_rfl
theorem trial_count : countN tProg = 6 := by kernel_rfl
theorem trial_high : highN tCall = 3 := by kernel_rfl
theorem trial_four : countN tCall = 4 := by kernel_rfl

/-- the trial's cells -/
def trialA : Obj := .cells #[.int .i64 5, .int .i64 0, .int .i64 0, .string ⟨#[97]⟩, .slice none 0 0, .slice none 0 0, .int .i64 0] 25
def trialTwo (g : Nat) : Obj := .cells #[.int .i64 13, .int .i64 0, .int .i64 0, .string ⟨#[102]⟩, .slice none 0 0, .slice (some ⟨g, 0, none⟩) 1 1, .int .i64 0, .int .i64 5, .int .i64 0, .int .i64 0, .string ⟨#[97]⟩, .slice none 0 0, .slice none 0 0, .int .i64 0] 25
def trialCall (g : Nat) : Obj := .cells #[.int .i64 15, .int .i64 0, .int .i64 0, .string ⟨#[]⟩, .slice none 0 0, .slice (some ⟨g, 0, none⟩) 2 2, .int .i64 0] 25
def trialStmt (g : Nat) : Obj := .cells #[.int .i64 32, .int .i64 0, .int .i64 0, .string ⟨#[]⟩, .slice none 0 0, .slice (some ⟨g, 0, none⟩) 1 1, .int .i64 0] 25
def trialW (w : World) : World := (((((w.alloc trialA).alloc trialA).alloc (trialTwo (w.heap.size + 1))).alloc (trialCall (w.heap.size + 1 + 1))).alloc (trialCall (w.heap.size + 1 + 1))).alloc (trialStmt (w.heap.size + 1 + 1 + 1 + 1))

theorem none_strs (B : Nat) (w : World) : StrsIn B (.slice none 0 0) [] w := .inl ⟨none, 0, rfl, rfl⟩
theorem trialW_size (w : World) : (trialW w).heap.size = w.heap.size + 6 := by simp [trialW]
theorem trialW_below (w : World) : Below w.heap.size w (trialW w) := by
  unfold trialW
  exact ((((((Below.refl _ _).alloc (Nat.le_refl _) _).alloc (by simp) _).alloc (by simp; omega) _).alloc (by simp; omega) _).alloc (by simp; omega) _).alloc (by simp; omega) _
theorem alloc_at (w : World) (o : Obj) {k : Nat} (h : k = w.heap.size) : (w.alloc o).heap[k]? = some o := by
  subst h; exact heap_alloc_new w o
theorem trial_block (w : World) : (trialW w).heap[w.heap.size + 1]? = some trialA ∧ (trialW w).heap[w.heap.size + 2]? = some (trialTwo (w.heap.size + 1)) ∧ (trialW w).heap[w.heap.size + 3]? = some (trialCall (w.heap.size + 2)) ∧ (trialW w).heap[w.heap.size + 4]? = some (trialCall (w.heap.size + 2)) ∧ (trialW w).heap[w.heap.size + 5]? = some (trialStmt (w.heap.size + 4)) := by
  unfold trialW
  refine ⟨?_, ?_, ?_, ?_, ?_⟩
  · rw [Below.heap_alloc _ _ _ (by simp <;> omega), Below.heap_alloc _ _ _ (by simp <;> omega), Below.heap_alloc _ _ _ (by simp <;> omega), Below.heap_alloc _ _ _ (by simp)]
    exact alloc_at _ _ (by simp)
  · rw [Below.heap_alloc _ _ _ (by simp <;> omega), Below.heap_alloc _ _ _ (by simp <;> omega), Below.heap_alloc _ _ _ (by simp)]
    exact alloc_at _ _ (by simp)
  · rw [Below.heap_alloc _ _ _ (by simp <;> omega), Below.heap_alloc _ _ _ (by simp)]
    exact alloc_at _ _ (by simp)
  · rw [Below.heap_alloc _ _ _ (by simp)]
    exact alloc_at _ _ (by simp)
  · exact alloc_at _ _ (by simp)

theorem in_A (B : Nat) (w : World) : NdIn B w tA (.slice none 0 0) (.slice none 0 0) := ndIn_mk.2 ⟨none_strs B w, .inl ⟨none, 0, rfl, rfl⟩⟩
theorem trial_in (w : World) : NdIn (w.heap.size + 6) (trialW w) tCall (.slice none 0 0) (.slice (some ⟨w.heap.size + 2, 0, none⟩) 2 2) ∧
    NdIn (w.heap.size + 6) (trialW w) tProg (.slice none 0 0) (.slice (some ⟨w.heap.size + 5, 0, none⟩) 1 1) := by
  obtain ⟨h1, h2, h3, h4, h5⟩ := trial_block w
  have nA : NodeAt (w.heap.size + 1) 0 5 0 0 ⟨#[97]⟩ (.slice none 0 0) (.slice none 0 0) 0 (trialW w) := by
    refine ⟨?_, ?_, ?_, ?_, ?_, ?_, ?_⟩ <;> (rw [Lib.cell_of_heap h1]; rfl)
  have nG : NodeAt (w.heap.size + 2) 0 13 0 0 ⟨#[102]⟩ (.slice none 0 0) (.slice (some ⟨w.heap.size + 1, 0, none⟩) 1 1) 0 (trialW w) := by
    refine ⟨?_, ?_, ?_, ?_, ?_, ?_, ?_⟩ <;> (rw [Lib.cell_of_heap h2]; rfl)
  have nA2 : NodeAt (w.heap.size + 2) (0 + 7) 5 0 0 ⟨#[97]⟩ (.slice none 0 0) (.slice none 0 0) 0 (trialW w) := by
    refine ⟨?_, ?_, ?_, ?_, ?_, ?_, ?_⟩ <;> (rw [Lib.cell_of_heap h2]; rfl)
  have nC : NodeAt (w.heap.size + 4) 0 15 0 0 ⟨#[]⟩ (.slice none 0 0) (.slice (some ⟨w.heap.size + 2, 0, none⟩) 2 2) 0 (trialW w) := by
    refine ⟨?_, ?_, ?_, ?_, ?_, ?_, ?_⟩ <;> (rw [Lib.cell_of_heap h4]; rfl)
  have nS : NodeAt (w.heap.size + 5) 0 32 0 0 ⟨#[]⟩ (.slice none 0 0) (.slice (some ⟨w.heap.size + 4, 0, none⟩) 1 1) 0 (trialW w) := by
    refine ⟨?_, ?_, ?_, ?_, ?_, ?_, ?_⟩ <;> (rw [Lib.cell_of_heap h5]; rfl)
  have iG : NdIn (w.heap.size + 6) (trialW w) tGet (.slice none 0 0) (.slice (some ⟨w.heap.size + 1, 0, none⟩) 1 1) :=
    ndIn_mk.2 ⟨none_strs _ _, .inr ⟨w.heap.size + 1, 0, 1, rfl, by omega, by
      rw [tA, NdsAt, NdsAt]
      exact ⟨⟨_, _, nA, in_A _ _⟩, trivial⟩, by decide⟩⟩
  have iC : NdIn (w.heap.size + 6) (trialW w) tCall (.slice none 0 0) (.slice (some ⟨w.heap.size + 2, 0, none⟩) 2 2) :=
    ndIn_mk.2 ⟨none_strs _ _, .inr ⟨w.heap.size + 2, 0, 2, rfl, by omega, by
      rw [tGet, tA, NdsAt, NdsAt, NdsAt]
      exact ⟨⟨_, _, nG, iG⟩, ⟨_, _, nA2, in_A _ _⟩, trivial⟩, by decide⟩⟩
  refine ⟨iC, ?_⟩
  have iS : NdIn (w.heap.size + 6) (trialW w) tStmt (.slice none 0 0) (.slice (some ⟨w.heap.size + 4, 0, none⟩) 1 1) :=
    ndIn_mk.2 ⟨none_strs _ _, .inr ⟨w.heap.size + 4, 0, 1, rfl, by omega, by
      rw [tCall, NdsAt, NdsAt]
      exact ⟨⟨_, _, nC, iC⟩, trivial⟩, by decide⟩⟩
  exact ndIn_mk.2 ⟨none_strs _ _, .inr ⟨w.heap.size + 5, 0, 1, rfl, by omega, by
    rw [tStmt, NdsAt, NdsAt]
    exact ⟨⟨_, _, nS, iS⟩, trivial⟩, by decide⟩⟩

set_option maxHeartbeats 1600000 in
theorem works_calls (B : Nat) (w : World) (hO : Hid (Ok B w)) :
    Calls Tryd.prog 8 #[] w fun e w' => e = .returned (.bool true) ∧ Below w.heap.size w w' := by
  have hin := trial_in w
  have hsz := trialW_size w
  have BW := hid (trialW_below w)
  have O1 := hid (ok_up (B' := w.heap.size + 6) (by have := hO.out.1; omega) (by omega) (ok_on hO.out (BW.out.mono hO.out.1)))
  have N1 := hid hin.2
  have C1 := hid hin.1
  have X1 := hid (show Box (w.heap.size + 3) 15 0 0 ⟨#[]⟩ (.slice none 0 0) (.slice (some ⟨w.heap.size + 2, 0, none⟩) 2 2) 0 (trialW w) from (trial_block w).2.2.1)
  have HZ := hid hsz
  clear hin hO hsz
  go_enter Tryd.func8, Tryd.ntmps8
  go_wp2_with fail
  refine (print_calls tProg (w.heap.size + 6) (trialW w) (.slice none 0 0) (.slice (some ⟨w.heap.size + 5, 0, none⟩) 1 1) O1 N1 trial_small (by rw [trial_count]; decide)).mono ?_
  rintro e w1 ⟨rfl, b1⟩
  rw [trial_print]
  have B1 := hid (below_in BW.out (Nat.le_refl _) b1)
  have hz1 := b1.size
  rw [HZ.out] at hz1
  have C2 := hid (ndIn_on (b1.mono (by rw [HZ.out]; omega)) _ _ _ C1.out)
  have X2 := hid (box_on X1.out b1)
  obtain ⟨c0, c1, c2, c3, c4, c5, c6⟩ := box_cells X2.out
  clear b1 BW O1 N1 C1 X1 HZ
  go_wp2_with fail
  refine (height_calls tCall (w.heap.size + 6) w1 (.slice none 0 0) (.slice (some ⟨w.heap.size + 2, 0, none⟩) 2 2) (by omega) C2 (by rw [trial_four]; decide)).mono ?_
  rintro e w2 ⟨rfl, b2⟩
  rw [trial_high]
  have B2 := hid (below_in B1.out (Nat.le_refl _) b2)
  have C3 := hid (ndIn_on (b2.mono (by omega)) _ _ _ C2.out)
  have hz2 : w.heap.size + 6 ≤ w2.heap.size := Nat.le_trans hz1 b2.size
  obtain ⟨d0, d1, d2, d3, d4, d5, d6⟩ := box_cells (box_on X2.out b2)
  clear b2 B1 C2 X2 c0 c1 c2 c3 c4 c5 c6
  go_wp2_with fail
  refine (count_calls tCall (w.heap.size + 6) w2 (.slice none 0 0) (.slice (some ⟨w.heap.size + 2, 0, none⟩) 2 2) (by omega) C3 (by rw [trial_four]; decide)).mono ?_
  rintro e w3 ⟨rfl, b3⟩
  rw [trial_four]
  have B3 := hid (below_in B2.out (Nat.le_refl _) b3)
  clear b3 B2 C3
  go_wp2_with fail
  go_ret
  exact ⟨rfl, B3.out⟩

end Go.Proofs.YtlnllpehifkjhaaDoor
