/- The laws' own test. -/
import Derived.Test.YtijbiedblahmhaaDoorJoint21
import Derived.KernelRfl
namespace Go.Proofs.YtijbiedblahmhaaDoor
open Go.RowKit

def trialP : ByteArray := ⟨#[97, 46, 102, 40, 49, 41, 46, 120, 32, 61, 32, 50, 59]⟩
def trialM : Nd := .mk 16 0 0 ⟨#[102]⟩ [] [.mk 5 0 0 ⟨#[97]⟩ [] [] 0, .mk 3 0 1 bz [] [] 0] 0
def trialK : Nd := .mk 23 0 0 ⟨#[120]⟩ [] [trialM, .mk 3 0 2 bz [] [] 0] 0
def trialN : Nd := .mk 29 0 0 bz [] [trialK] 0
theorem trialP_tok : (tokOut trialP).1.length = 12 := by kernel_rfl
theorem trialP_out : parseO 300 true trialP = (trialN, 0, 0) := by kernel_rfl
theorem lt_of_cell {w : World} {b i : Nat} {v : Value} (h : w.cell? ⟨b, i, none⟩ = some v) : b < w.heap.size := by
  rcases Nat.lt_or_ge b w.heap.size with h1 | h1
  · exact h1
  · simp [World.cell?, Array.getElem?_eq_none h1] at h
/-- the trial's nodes in memory -/
theorem trial_in {lo : Nat} {w : World} {nv kv : Value} (h : NdR lo w trialN nv kv) : ∃ b c b2 c2 m nv2, kv = .slice (some ⟨b, c, none⟩) 1 m ∧ w.cell? ⟨b, c, none⟩ = some (.int .i64 23) ∧ w.cell? ⟨b, c + 5, none⟩ = some (.slice (some ⟨b2, c2, none⟩) 2 nv2) ∧ w.cell? ⟨b2, c2, none⟩ = some (.int .i64 16) := by
  unfold trialN at h
  rcases (ndR_mk1 h).2 with ⟨_, _, _, h2⟩ | ⟨b, c, m, e, hb, h3, _⟩
  · cases h2
  · unfold trialK at h3
    rw [NdsW] at h3
    obtain ⟨⟨nv1, kv1, ⟨x0, _, _, _, _, x5, _⟩, h4⟩, _⟩ := h3
    rcases (ndW_mk.1 h4).2.2 with ⟨_, _, _, h2⟩ | ⟨b2, c2, m2, e2, hb2, h5, _⟩
    · cases h2
    · unfold trialM at h5
      rw [NdsW] at h5
      obtain ⟨⟨_, _, ⟨y0, _⟩, _⟩, _⟩ := h5
      exact ⟨b, c, b2, c2, m, m2, e, x0, by rw [x5, e2]; rfl, y0⟩

set_option maxRecDepth 100000 in
set_option maxHeartbeats 3200000 in
theorem works7_calls (w : World) (h0 : 0 < w.heap.size) (h1 : 1 < w.heap.size) (SG : Hid (Texts 0 sgnL w)) (ST : Hid (Texts 1 tsgnL w)) :
    Calls Tryd.prog 4 #[] w fun e w' => e = .returned (.bool true) ∧ Below w.heap.size w w' := by
  have hc := parse_calls 300 trialP (by decide) (by rw [trialP_tok]; decide) w h0 h1 SG ST
  rw [trialP_out] at hc
  have HC := hid (show Calls Tryd.prog 5 #[.string ⟨#[97, 46, 102, 40, 49, 41, 46, 120, 32, 61, 32, 50, 59]⟩] w (fun e w' => ∃ nv kv, e = .returned (.tuple #[.agg #[.int .i64 29, .int .i64 0, .int .i64 0, .string bz, nv, kv, .int .i64 0], .int .i64 0, .int .i64 0]) ∧ NdR w.heap.size w' trialN nv kv ∧ Below w.heap.size w w') from hc)
  clear SG ST hc
  go_enter Tryd.func4, Tryd.ntmps4
  go_wp2_with fail
  refine HC.out.mono ?_
  rintro e w1 ⟨nv, kv, rfl, n1, b1⟩
  obtain ⟨a1, q1, _, _, hnv, _⟩ := ndR_shape n1
  replace hnv : nv = .slice a1 0 q1 := hnv
  subst hnv
  obtain ⟨b, c, b2, c2, m, m2, rfl, c0, c5, d0⟩ := trial_in n1
  have B1 := hid b1
  clear b1 HC n1
  have hb := lt_of_cell c0
  have hb2 := lt_of_cell d0
  have AL := (Below.refl _ w1).alloc (Nat.le_refl _) (.cells #[.int .i64 29, .int .i64 0, .int .i64 0, .string bz, .slice a1 0 q1, .slice (some ⟨b, c, none⟩) 1 m, .int .i64 0] 26)
  have c0' := (AL.cell (p := ⟨b, c, none⟩) hb).trans c0
  have c5' := (AL.cell (p := ⟨b, c + 5, none⟩) hb).trans c5
  have d0' := (AL.cell (p := ⟨b2, c2, none⟩) hb2).trans d0
  have N2 := blk_new w1 26 #[.int .i64 29, .int .i64 0, .int .i64 0, .string bz, .slice a1 0 q1, .slice (some ⟨b, c, none⟩) 1 m, .int .i64 0]
  obtain ⟨s0, s1, s2, s3, s4, s5, s6⟩ := cells7 N2
  have B2 := hid (below_on B1.out AL)
  clear AL N2 c0 c5 d0 hb hb2 B1
  go_wp2_with fail
  go_ret
  exact ⟨rfl, B2.out⟩

end Go.Proofs.YtijbiedblahmhaaDoor
