/- The law's own small program: it is read, and printed. -/
import Derived.Test.YtnojlfdojmkonaaGreatDoorAsRd5
import Derived.Test.YtnojlfdojmkonaaGreatDoorAsPr
namespace Go.Proofs.YtnojlfdojmkonaaGreatDoor
set_option linter.unusedSimpArgs false
set_option maxRecDepth 100000
open Go.RowKit

def wkC : Cd := ⟨0, 0, 0, 1, [(2, 0, 0), (32, 0, 0)]⟩
def wkP : Pg := ⟨0, [], [wkC]⟩
def wkT : List UInt8 := [103, 108, 111, 98, 97, 108, 115, 32, 48, 10, 99, 111, 100, 101, 32, 48, 32, 48, 32, 48, 32, 49, 10, 110, 117, 108, 108, 10, 114, 101, 116, 10]
theorem wk_text : txL (pgLP wkP) = wkT := by decide
theorem wk_right : rightC 0 0 1 wkC = true := by decide
theorem wk_sizes : sizesB wkP = true := by decide
theorem wk_check : checkP wkP := by
  refine ⟨wk_sizes, fun c hc => ?_⟩
  rw [List.mem_singleton.1 hc]
  refine ⟨wk_right, [0, 1], rfl, rfl, fun k d hd => ?_⟩
  match k, hd with
  | 0, hd =>
    simp at hd
    subst hd
    refine .inr ⟨by decide, ⟨by decide, fun t e h => ?_⟩, 0, rfl, rfl⟩
    rw [show nxL wkC.ins 0 0 = [(1, 1)] by decide] at h
    simp at h
    obtain ⟨rfl, rfl⟩ := h
    exact ⟨by decide, 1, rfl, rfl⟩
  | 1, hd =>
    simp at hd
    subst hd
    refine .inr ⟨by decide, ⟨by decide, fun t e h => ?_⟩, 1, 0, 0, ⟨rfl, rfl⟩, ?_⟩
    · rw [show nxL wkC.ins 1 1 = [] by decide] at h
      cases h
    · rw [show nxL wkC.ins 0 0 = [(1, 1)] by decide]
      simp
  | k + 2, hd => simp at hd
theorem wk_read : readL wkT = .got wkP := by
  rw [← wk_text]
  exact read_right wk_sizes fun c hc => by rw [List.mem_singleton.1 hc]; exact wk_right
theorem libW_up {B C : Nat} {w : World} (h : LibW B w) (h1 : B ≤ C) (h2 : C ≤ w.heap.size) : LibW C w := ⟨h2, Nat.le_trans h.few h1, h.mx, h.sy, h.rg⟩
def wkS : ByteArray := ⟨#[103, 108, 111, 98, 97, 108, 115, 32, 48, 10, 99, 111, 100, 101, 32, 48, 32, 48, 32, 48, 32, 49, 10, 110, 117, 108, 108, 10, 114, 101, 116, 10]⟩
theorem wk_is {P : Pg} {a e : Int} (h : ReadIs wkS.data.toList P a e) : P = wkP ∧ a = 0 ∧ e = 0 := by
  unfold ReadIs at h
  rw [show wkS.data.toList = wkT from rfl, wk_read] at h
  rcases h with ⟨_, h1, h2, h3⟩ | ⟨h, _⟩
  · exact ⟨h1, h2, h3⟩
  · exact absurd wk_check h
theorem wk_g : wkP.g = 0 := rfl
theorem wk_p : wkP.pool.length = 0 := rfl
theorem wk_c : wkP.codes.length = 1 := rfl
theorem wk_i : wkC.ins.length = 2 := rfl
set_option maxHeartbeats 3200000 in
theorem works16_calls {B : Nat} (w : World) (hL : LibW B w) : Calls Tryz.prog 8 #[] w fun e w' => e = .returned (.bool true) ∧ Below w.heap.size w w' := by
  have RD := hid (aread_calls wkS w (hid (libW_up hL hL.le (Nat.le_refl _))) (by decide))
  clear hL
  go_enter Tryz.func8, Tryz.ntmps8
  go_wp2_with fail
  refine RD.out.mono ?_
  rintro e w2 ⟨⟨P, pv, cv, a, er, rfl, hI, hP⟩, b2⟩
  obtain ⟨rfl, rfl, rfl⟩ := wk_is hI
  have PR := hid (aprint_calls w2.heap.size wkP pv cv)
  have HP := hid hP
  obtain ⟨pa, pc, rfl⟩ := plIn_shape hP.pool
  obtain ⟨ca, cc, rfl⟩ := cdsIn_shape hP.codes
  obtain ⟨cb, off, hca, hcb, iv, c0, c1, c2, c3, c4, hI2⟩ := cdsIn_at hP.codes (i := 0) (c := wkC) rfl
  subst hca
  obtain ⟨ia, ic, rfl⟩ := insIn_shape hI2
  have B2 := hid b2
  have C4 := hid c4
  clear hI hP b2 c0 c1 c2 c3 c4 hI2 RD
  simp only [pgV, wk_g, wk_p, wk_c, wk_i] at *
  have AL := hid (box_below w2 (.cells #[.int .i64 0, .slice pa 0 pc, .slice (some ⟨cb, off, none⟩) 1 cc] 25))
  have BL := hid (blk_new w2 25 #[.int .i64 0, .slice pa 0 pc, .slice (some ⟨cb, off, none⟩) 1 cc])
  go_wp2_with fail
  generalize hW3 : w2.alloc (.cells #[.int .i64 0, .slice pa 0 pc, .slice (some ⟨cb, off, none⟩) 1 cc] 25) = w3 at *
  clear hW3
  have HP3 := hid (PgIn.on HP.out AL.out)
  refine (PR.out w3 AL.out.size HP3).mono ?_
  rintro e w4 ⟨⟨r, t, rfl, hr⟩, b4⟩
  have hrt : r = 0 ∧ t = wkS := by
    rcases hr with ⟨h1, _, h2⟩ | ⟨_, h, _⟩
    · exact ⟨h1, by rw [h2, wk_text]; rfl⟩
    · exact absurd wk_check h
  obtain ⟨rfl, rfl⟩ := hrt
  have L4 := hid (B2.out.trans ((AL.out.trans (b4.mono AL.out.size)).mono B2.out.size))
  have hb4 := blk_on BL.out b4
  have p2 : w4.cell? ⟨w2.heap.size, 2, none⟩ = some (.slice (some ⟨cb, off, none⟩) 1 cc) := blk_cellZ hb4 2 rfl
  have ci4 : w4.cell? ⟨cb, off + 4, none⟩ = some (.slice ia 2 ic) := by
    have h1 : Below w2.heap.size w2 w4 := AL.out.trans (b4.mono AL.out.size)
    have := cellB h1 (p := ⟨cb, off + 0 * 5 + 4, none⟩) hcb C4.out
    simpa using this
  have NM := hid (aname_calls 24 w4)
  have hop : (⟨(opW 24).toArray⟩ : ByteArray) = ⟨#[97, 110, 100]⟩ := by decide
  rw [hop] at NM
  clear hr b4 hb4 hop
  unfold wkS
  go_wp2_with fail
  refine NM.out.mono ?_
  rintro e w5 ⟨rfl, b5⟩
  have L5 := hid (L4.out.trans (b5.mono L4.out.size))
  clear b5
  go_wp2_with fail
  go_ret
  exact ⟨rfl, L5.out⟩
theorem read_good {l : List UInt8} {P : Pg} {a : Int} (h : ReadIs l P a 0) : checkP P ∧ txL (pgLP P) = l ∧ a = 0 := by
  unfold ReadIs at h
  cases hr : readL l with
  | bad n =>
    rw [hr] at h
    exact absurd h.2.2 (by decide)
  | got Q =>
    rw [hr] at h
    rcases h with ⟨h1, h2, h3, _⟩ | ⟨_, _, _, h⟩
    · subst h2
      exact ⟨h1, (read_once hr).1, h3⟩
    · exact absurd h (by decide)
theorem read_poor {l : List UInt8} {P : Pg} {a e : Int} (h : ReadIs l P a e) (he : e ≠ 0) : P = pg0 := by
  unfold ReadIs at h
  cases hr : readL l with
  | bad n => rw [hr] at h; exact h.1
  | got Q =>
    rw [hr] at h
    rcases h with ⟨_, _, _, h⟩ | ⟨_, h, _⟩
    · exact absurd h he
    · exact h
theorem read_of {P : Pg} (h : checkP P) {Q : Pg} {a e : Int} (hr : ReadIs (txL (pgLP P)) Q a e) : Q = P ∧ a = 0 ∧ e = 0 := by
  unfold ReadIs at hr
  rw [read_right h.1 (fun c hc => (h.2 c hc).1)] at hr
  rcases hr with ⟨_, h1, h2, h3⟩ | ⟨h', _⟩
  · exact ⟨h1, h2, h3⟩
  · exact absurd h h'
theorem pg0_g : pg0.g = 0 := rfl
theorem pg0_p : pg0.pool.length = 0 := rfl
theorem pg0_c : pg0.codes.length = 0 := rfl

end Go.Proofs.YtnojlfdojmkonaaGreatDoor
