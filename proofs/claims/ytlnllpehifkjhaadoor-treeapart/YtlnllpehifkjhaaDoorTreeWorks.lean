/- The laws' own test. -/
import Derived.Test.YtlnllpehifkjhaaDoorJoint3
import Derived.KernelRfl
namespace Go.Proofs.YtlnllpehifkjhaaDoor
open Go.RowKit

def tA : Nd := .mk 5 0 0 ⟨#[97]⟩ [] [] 0
def tGet : Nd := .mk 13 0 0 ⟨#[102]⟩ [] [tA] 0
def tCall : Nd := .mk 15 0 0 ⟨#[]⟩ [] [tGet, tA] 0
def tStmt : Nd := .mk 32 0 0 ⟨#[]⟩ [] [tCall] 0
def tProg : Nd := .mk 29 0 0 ⟨#[]⟩ [] [tStmt] 0
theorem trial_print : printN tProg = ([40, 97, 46, 102, 41, 40, 97, 41, 59], 0) := by kernel_rfl
theorem trial_small : smallN tProg = true := by kernel_rfl
theorem trial_count : countN tProg = 6 := by kernel_rfl
theorem trial_high : highN tCall = 3 := by kernel_rfl
theorem trial_four : countN tCall = 4 := by kernel_rfl

/-- the trial's cells -/
def trialA : Obj := .cells #[.int .i64 5, .int .i64 0, .int .i64 0, .string ⟨#[97]⟩, .slice none 0 0, .slice none 0 0, .int .i64 0] 25
def trialTwo (g : Nat) : Obj := .cells #[.int .i64 13, .int .i64 0, .int .i64 0, .string ⟨#[102]⟩, .slice none 0 0, .slice (some ⟨g, 0, none⟩) 1 1, .int .i64 0, .int .i64 5, .int .i64 0, .int .i64 0, .string ⟨#[97]⟩, .slice none 0 0, .slice none 0 0, .int .i64 0] 25
def trialCall (g : Nat) : Obj := .cells #[.int .i64 15, .int .i64 0, .int .i64 0, .string ⟨#[]⟩, .slice none 0 0, .slice (some ⟨g, 0, none⟩) 2 2, .int .i64 0] 25
def trialStmt (g : Nat) : Obj := .cells #[.int .i64 32, .int .i64 0, .int .i64 0, .string ⟨#[]⟩, .slice none 0 0, .slice (some ⟨g, 0, none⟩) 1 1, .int .i64 0] 25
def trialW (w : World) : World := (((((w.alloc trialA).alloc trialA).alloc (trialTwo (w.heap.size + 1))).alloc (trialCall (w.heap.size + 1 + 1))).alloc (trialCall (w.heap.size + 1 + 1))).alloc (trialStmt (w.heap.size + 1 + 1 + 1 + 1))

theorem none_strs (B : Nat) (w : World) : StrsIn B (.slice none 0 0) [] w := .inl ⟨none, 0, rfl, rfl⟩
theorem trialW_size (w : World) : (trialW w).heap.size = w.heap.size + 6 := by simp [trialW]
theorem trialW_below (w : World) : Below w.heap.size w (trialW w) := by
  unfold trialW
  exact ((((((Below.refl _ _).alloc (Nat.le_refl _) _).alloc (by simp) _).alloc (by simp; omega) _).alloc (by simp; omega) _).alloc (by simp; omega) _).alloc (by simp; omega) _
theorem alloc_at (w : World) (o : Obj) {k : Nat} (h : k = w.heap.size) : (w.alloc o).heap[k]? = some o := by
  subst h; exact heap_alloc_new w o
theorem trial_block (w : World) : (trialW w).heap[w.heap.size + 1]? = some trialA ∧ (trialW w).heap[w.heap.size + 2]? = some (trialTwo (w.heap.size + 1)) ∧ (trialW w).heap[w.heap.size + 3]? = some (trialCall (w.heap.size + 2)) ∧ (trialW w).heap[w.heap.size + 4]? = some (trialCall (w.heap.size + 2)) ∧ (trialW w).heap[w.heap.size + 5]? = some (trialStmt (w.heap.size + 4)) := by
  unfold trialW
  refine ⟨?_, ?_, ?_, ?_, ?_⟩
  · rw [Below.heap_alloc _ _ _ (by simp <;> omega), Below.heap_alloc _ _ _ (by simp <;> omega), Below.heap_alloc _ _ _ (by simp <;> omega), Below.heap_alloc _ _ _ (by simp)]
    exact alloc_at _ _ (by simp)
  · rw [Below.heap_alloc _ _ _ (by simp <;> omega), Below.heap_alloc _ _ _ (by simp <;> omega), Below.heap_alloc _ _ _ (by simp)]
    exact alloc_at _ _ (by simp)
  · rw [Below.heap_alloc _ _ _ (by simp <;> omega), Below.heap_alloc _ _ _ (by simp)]
    exact alloc_at _ _ (by simp)
  · rw [Below.heap_alloc _ _ _ (by simp)]
    exact alloc_at _ _ (by simp)
  · exact alloc_at _ _ (by simp)

theorem in_A (B : Nat) (w : World) : NdIn B w tA (.slice none 0 0) (.slice none 0 0) := ndIn_mk.2 ⟨none_strs B w, .inl ⟨none, 0, rfl, rfl⟩⟩
theorem trial_in (w : World) : NdIn (w.heap.size + 6) (trialW w) tCall (.slice none 0 0) (.slice (some ⟨w.heap.size + 2, 0, none⟩) 2 2) ∧
    NdIn (w.heap.size + 6) (trialW w) tProg (.slice none 0 0) (.slice (some ⟨w.heap.size + 5, 0, none⟩) 1 1) := by
  obtain ⟨h1, h2, h3, h4, h5⟩ := trial_block w
  have nA : NodeAt (w.heap.size + 1) 0 5 0 0 ⟨#[97]⟩ (.slice none 0 0) (.slice none 0 0) 0 (trialW w) := by
    refine ⟨?_, ?_, ?_, ?_, ?_, ?_, ?_⟩ <;> (rw [Lib.cell_of_heap h1]; rfl)
  have nG : NodeAt (w.heap.size + 2) 0 13 0 0 ⟨#[102]⟩ (.slice none 0 0) (.slice (some ⟨w.heap.size + 1, 0, none⟩) 1 1) 0 (trialW w) := by
    refine ⟨?_, ?_, ?_, ?_, ?_, ?_, ?_⟩ <;> (rw [Lib.cell_of_heap h2]; rfl)
  have nA2 : NodeAt (w.heap.size + 2) (0 + 7) 5 0 0 ⟨#[97]⟩ (.slice none 0 0) (.slice none 0 0) 0 (trialW w) := by
    refine ⟨?_, ?_, ?_, ?_, ?_, ?_, ?_⟩ <;> (rw [Lib.cell_of_heap h2]; rfl)
  have nC : NodeAt (w.heap.size + 4) 0 15 0 0 ⟨#[]⟩ (.slice none 0 0) (.slice (some ⟨w.heap.size + 2, 0, none⟩) 2 2) 0 (trialW w) := by
    refine ⟨?_, ?_, ?_, ?_, ?_, ?_, ?_⟩ <;> (rw [Lib.cell_of_heap h4]; rfl)
  have nS : NodeAt (w.heap.size + 5) 0 32 0 0 ⟨#[]⟩ (.slice none 0 0) (.slice (some ⟨w.heap.size + 4, 0, none⟩) 1 1) 0 (trialW w) := by
    refine ⟨?_, ?_, ?_, ?_, ?_, ?_, ?_⟩ <;> (rw [Lib.cell_of_heap h5]; rfl)
  have iG : NdIn (w.heap.size + 6) (trialW w) tGet (.slice none 0 0) (.slice (some ⟨w.heap.size + 1, 0, none⟩) 1 1) :=
    ndIn_mk.2 ⟨none_strs _ _, .inr ⟨w.heap.size + 1, 0, 1, rfl, by omega, by
      rw [tA, NdsAt, NdsAt]
      exact ⟨⟨_, _, nA, in_A _ _⟩, trivial⟩, by decide⟩⟩
  have iC : NdIn (w.heap.size + 6) (trialW w) tCall (.slice none 0 0) (.slice (some ⟨w.heap.size + 2, 0, none⟩) 2 2) :=
    ndIn_mk.2 ⟨none_strs _ _, .inr ⟨w.heap.size + 2, 0, 2, rfl, by omega, by
      rw [tGet, tA, NdsAt, NdsAt, NdsAt]
      exact ⟨⟨_, _, nG, iG⟩, ⟨_, _, nA2, in_A _ _⟩, trivial⟩, by decide⟩⟩
  refine ⟨iC, ?_⟩
  have iS : NdIn (w.heap.size + 6) (trialW w) tStmt (.slice none 0 0) (.slice (some ⟨w.heap.size + 4, 0, none⟩) 1 1) :=
    ndIn_mk.2 ⟨none_strs _ _, .inr ⟨w.heap.size + 4, 0, 1, rfl, by omega, by
      rw [tCall, NdsAt, NdsAt]
      exact ⟨⟨_, _, nC, iC⟩, trivial⟩, by decide⟩⟩
  exact ndIn_mk.2 ⟨none_strs _ _, .inr ⟨w.heap.size + 5, 0, 1, rfl, by omega, by
    rw [tStmt, NdsAt, NdsAt]
    exact ⟨⟨_, _, nS, iS⟩, trivial⟩, by decide⟩⟩

set_option maxHeartbeats 1600000 in
theorem works_calls (B : Nat) (w : World) (hO : Hid (Ok B w)) :
    Calls Tryd.prog 8 #[] w fun e w' => e = .returned (.bool true) ∧ Below w.heap.size w w' := by
  have hin := trial_in w
  have hsz := trialW_size w
  have BW := hid (trialW_below w)
  have O1 := hid (ok_up (B' := w.heap.size + 6) (by have := hO.out.1; omega) (by omega) (ok_on hO.out (BW.out.mono hO.out.1)))
  have N1 := hid hin.2
  have C1 := hid hin.1
  have X1 := hid (show Box (w.heap.size + 3) 15 0 0 ⟨#[]⟩ (.slice none 0 0) (.slice (some ⟨w.heap.size + 2, 0, none⟩) 2 2) 0 (trialW w) from (trial_block w).2.2.1)
  have HZ := hid hsz
  clear hin hO hsz
  go_enter Tryd.func8, Tryd.ntmps8
  go_wp2_with fail
  refine (print_calls tProg (w.heap.size + 6) (trialW w) (.slice none 0 0) (.slice (some ⟨w.heap.size + 5, 0, none⟩) 1 1) O1 N1 trial_small (by rw [trial_count]; decide)).mono ?_
  rintro e w1 ⟨rfl, b1⟩
  rw [trial_print]
  have B1 := hid (below_in BW.out (Nat.le_refl _) b1)
  have hz1 := b1.size
  rw [HZ.out] at hz1
  have C2 := hid (ndIn_on (b1.mono (by rw [HZ.out]; omega)) _ _ _ C1.out)
  have X2 := hid (box_on X1.out b1)
  obtain ⟨c0, c1, c2, c3, c4, c5, c6⟩ := box_cells X2.out
  clear b1 BW O1 N1 C1 X1 HZ
  go_wp2_with fail
  refine (height_calls tCall (w.heap.size + 6) w1 (.slice none 0 0) (.slice (some ⟨w.heap.size + 2, 0, none⟩) 2 2) (by omega) C2 (by rw [trial_four]; decide)).mono ?_
  rintro e w2 ⟨rfl, b2⟩
  rw [trial_high]
  have B2 := hid (below_in B1.out (Nat.le_refl _) b2)
  have C3 := hid (ndIn_on (b2.mono (by omega)) _ _ _ C2.out)
  have hz2 : w.heap.size + 6 ≤ w2.heap.size := Nat.le_trans hz1 b2.size
  obtain ⟨d0, d1, d2, d3, d4, d5, d6⟩ := box_cells (box_on X2.out b2)
  clear b2 B1 C2 X2 c0 c1 c2 c3 c4 c5 c6
  go_wp2_with fail
  refine (count_calls tCall (w.heap.size + 6) w2 (.slice none 0 0) (.slice (some ⟨w.heap.size + 2, 0, none⟩) 2 2) (by omega) C3 (by rw [trial_four]; decide)).mono ?_
  rintro e w3 ⟨rfl, b3⟩
  rw [trial_four]
  have B3 := hid (below_in B2.out (Nat.le_refl _) b3)
  clear b3 B2 C3
  go_wp2_with fail
  go_ret
  exact ⟨rfl, B3.out⟩

end Go.Proofs.YtlnllpehifkjhaaDoor
