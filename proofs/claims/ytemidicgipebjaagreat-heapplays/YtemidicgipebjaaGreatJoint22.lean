/- What the laws of the heap share: acts, and the law's own test. Acts that came in, in memory. -/
import Derived.Test.YtemidicgipebjaaGreatJoint2
import Derived.Test.YtemidicgipebjaaGreatHpDump
import Derived.Test.YtemidicgipebjaaGreatHpSet
import Derived.Test.YtemidicgipebjaaGreatJoint20
import Derived.Test.YtemidicgipebjaaGreatJoint15
import Derived.Lib.Strings
namespace Go.Proofs.YtemidicgipebjaaGreat
set_option linter.unusedSimpArgs false
set_option maxRecDepth 100000
open Go.RowKit

/-- a heap of the law's, beside its own blocks X -/
abbrev HpX (B : Nat) (X : Nat → Prop) (K h : Nat) (H : He) (w : World) : Prop := HpS (fun b => B ≤ b ∧ ¬ X b) K h H w
theorem hp_step {B K h : Nat} {X : Nat → Prop} {H : He} {w w' : World} (hX : ∀ b, X b → b < w.heap.size) (hB : B ≤ w.heap.size) (p : HpS (Up (fun b => B ≤ b ∧ ¬ X b) w) K h H w' ∧ Keep (fun b => B ≤ b ∧ ¬ X b) w w') : HpX B X K h H w' ∧ Keep (fun b => B ≤ b ∧ ¬ X b) w w' ∧ Below B w w' :=
  ⟨p.1.mono (fun b _ h => by
    rcases h with h | h
    · exact h
    · exact ⟨by omega, fun hx => by have := hX b hx; omega⟩), p.2, p.2.below hB (fun b h => h.1)⟩
/-- an act: do, a, b, name, value -/
abbrev AcH := Int × Int × Int × ByteArray × Vl
def aDo (a : AcH) : Int := a.1
def aA (a : AcH) : Int := a.2.1
def aB (a : AcH) : Int := a.2.2.1
def aN (a : AcH) : ByteArray := a.2.2.2.1
def aV (a : AcH) : Vl := a.2.2.2.2
def acHC (a : AcH) : List Value := [.int .i64 a.1, .int .i64 a.2.1, .int .i64 a.2.2.1, .string a.2.2.2.1, .int .i64 a.2.2.2.2.1, .int .i64 a.2.2.2.2.2.1, .string a.2.2.2.2.2.2]
abbrev acHV (a : AcH) : Value := .agg #[.int .i64 a.1, .int .i64 a.2.1, .int .i64 a.2.2.1, .string a.2.2.2.1, .int .i64 a.2.2.2.2.1, .int .i64 a.2.2.2.2.2.1, .string a.2.2.2.2.2.2]
abbrev acHO (a : AcH) : Obj := .cells #[.int .i64 a.1, .int .i64 a.2.1, .int .i64 a.2.2.1, .string a.2.2.2.1, .int .i64 a.2.2.2.2.1, .int .i64 a.2.2.2.2.2.1, .string a.2.2.2.2.2.2] 28
def longH (a : AcH) : Bool := decide (300 < a.2.2.2.1.size) || decide (300 < a.2.2.2.2.2.2.size)
theorem hlong_calls (a : AcH) (h1 : a.2.2.2.1.size ≤ maxLen) (h2 : a.2.2.2.2.2.2.size ≤ maxLen) (w : World) :
    Calls Tryz.prog 11 #[acHV a] w fun e w' => e = .returned (.bool (longH a)) ∧ Below w.heap.size w w' := by
  have HA := hid ((Below.refl w.heap.size w).alloc (Nat.le_refl _) (acHO a))
  unfold maxLen at h1 h2
  by_cases hn : 300 < a.2.2.2.1.size
  · have e : longH a = true := by unfold longH; simp [hn]
    rw [e]
    clear e
    go_enter Tryz.func11, Tryz.ntmps11
    go_wp2_with fail
    go_ret
    exact ⟨rfl, HA.out⟩
  · by_cases hv : 300 < a.2.2.2.2.2.2.size
    · have e : longH a = true := by unfold longH; simp [hv]
      rw [e]
      clear e
      have hd1 : decide ((300 : Int) < (a.2.2.2.1.size : Int)) = false := decide_eq_false (by omega)
      have hd2 : decide ((300 : Int) < (a.2.2.2.2.2.2.size : Int)) = true := decide_eq_true (by omega)
      go_enter Tryz.func11, Tryz.ntmps11
      go_wp2_with fail
      go_ret
      exact ⟨rfl, HA.out⟩
    · have e : longH a = false := by unfold longH; simp [hn, hv]
      rw [e]
      clear e
      have hd1 : decide ((300 : Int) < (a.2.2.2.1.size : Int)) = false := decide_eq_false (by omega)
      have hd2 : decide ((300 : Int) < (a.2.2.2.2.2.2.size : Int)) = false := decide_eq_false (by omega)
      go_enter Tryz.func11, Tryz.ntmps11
      go_wp2_with fail
      go_ret
      exact ⟨rfl, HA.out⟩

/-! the law's own test -/
def nx : ByteArray := ⟨#[120]⟩
def v21 : Vl := (2, 1, ⟨#[]⟩)
def hw0 : He := newH 9 9 99
def hw2 : He := makeH (makeH hw0)
def hw3 : He := setH hw2 1 nx v21
def hw4 : He := setH hw3 2 nx vl0
def hw5 : He := delH hw4 2 nx
def hw6 : He := protoS hw5 2 1
theorem wk1 : makeN hw0 = 1 ∧ makeN (makeH hw0) = 2 ∧ makeE hw0 = 0 ∧ makeE (makeH hw0) = 0 := by decide
theorem wk2 : setE hw2 1 nx = 0 ∧ setE hw3 2 nx = 0 := by decide
theorem wk3 : shapeH hw4 1 = 2 ∧ shapeH hw4 2 = 2 := by decide
theorem wk4 : protoE hw5 2 1 = 0 ∧ protoE hw6 1 2 = 32 := by decide
theorem wk5 : gotH hw6 2 nx = v21 := by decide
theorem wk6 : (⟨(dumpT (protoS hw6 1 2)).toArray⟩ : ByteArray) = ⟨#[35, 49, 32, 35, 48, 32, 120, 58, 49, 10, 35, 50, 32, 35, 49, 10]⟩ := by decide

theorem fitW : HFit (protoS hw6 1 2) := hfit_proto (hfit_proto (hfit_del (hfit_set (hfit_set (hfit_make (hfit_make (hfit_new _ _ _))) ⟨by unfold I64; decide, by decide⟩) ⟨by unfold I64; decide, by decide⟩)))
set_option maxHeartbeats 4000000 in
theorem hworks_calls (w : World) : Calls Tryz.prog 8 #[] w fun e w' => e = .returned (.bool true) ∧ Below w.heap.size w w' := by
  have nz : nx.size ≤ 1000000 := by decide
  go_enter Tryz.func8, Tryz.ntmps8
  go_wp2_with fail
  refine (hnew_calls w 9 0 9 0 99).mono ?_
  rintro e1 w1 ⟨h, rfl, p1, b1⟩
  have P1 := hid p1
  have B1 := hid b1
  clear p1 b1
  go_wp2_with fail
  refine (hmake_calls w1 P1.out).mono ?_
  rintro e2 w2 ⟨rfl, p2, k2⟩
  have P2 := hid (show HpS (fun b => w.heap.size ≤ b) 40 h (makeH hw0) w2 from p2.mono (fun b _ h => by rcases h with h | h; exact h; exact Nat.le_trans B1.out.size h))
  have B2 := hid (B1.out.trans (k2.below B1.out.size (fun _ h => h)))
  have e1 : (makeN (newH 9 9 99) : Int) = 1 := by rw [show newH 9 9 99 = hw0 from rfl, wk1.1]; rfl
  have e2 : makeE (newH 9 9 99) = 0 := wk1.2.2.1
  rw [e1, e2]
  clear p2 k2 P1 B1
  go_wp2_with fail
  refine (hmake_calls w2 P2.out).mono ?_
  rintro e3 w3 ⟨rfl, p3, k3⟩
  have P3 := hid (show HpX w.heap.size (fun b => b = w3.heap.size) 40 h hw2 w3 from p3.mono (fun b hb h => ⟨by rcases h with h | h; exact h; exact Nat.le_trans B2.out.size h, by omega⟩))
  have B3 := hid (B2.out.trans (k3.below B2.out.size (fun _ h => h)))
  have e3 : (makeN (makeH hw0) : Int) = 2 := by rw [wk1.2.1]; rfl
  rw [e3, wk1.2.2.2]
  clear p3 k3 P2 B2
  have A3 := (Below.refl w3.heap.size w3).alloc (Nat.le_refl _) (Obj.cells #[.int .i64 2, .int .i64 1, .string ⟨#[]⟩] 26)
  have P4 := hid (P3.out.on A3)
  have B4 := hid (below_in B3.out (Nat.le_refl _) A3)
  have hX0 : w3.heap.size < (w3.alloc (Obj.cells #[.int .i64 2, .int .i64 1, .string ⟨#[]⟩] 26)).heap.size := by simp
  have z0 : (w3.alloc (Obj.cells #[.int .i64 2, .int .i64 1, .string ⟨#[]⟩] 26)).cell? ⟨w3.heap.size, 0, none⟩ = some (.int .i64 2) := by simp
  have z1 : (w3.alloc (Obj.cells #[.int .i64 2, .int .i64 1, .string ⟨#[]⟩] 26)).cell? ⟨w3.heap.size, 1, none⟩ = some (.int .i64 1) := by simp
  have z2 : (w3.alloc (Obj.cells #[.int .i64 2, .int .i64 1, .string ⟨#[]⟩] 26)).cell? ⟨w3.heap.size, 2, none⟩ = some (.string ⟨#[]⟩) := by simp
  have HS1 := hid (hset_calls _ P4.out (by omega) (by omega) 1 nx nz v21)
  rw [wk2.1] at HS1
  unfold vlV v21 nx at HS1
  have hz3 := B3.out.size
  clear A3 P3 B3
  go_wp2_with fail
  refine HS1.out.mono ?_
  rintro e5 w5 ⟨rfl, pk⟩
  obtain ⟨p5, k5, b5⟩ := hp_step (X := fun b => b = w3.heap.size) (fun b e => by rw [e]; exact hX0) B4.out.size pk
  have P5 := hid (show HpX w.heap.size (fun b => b = w3.heap.size) 41 h hw3 w5 from p5)
  have B5 := hid (B4.out.trans b5)
  have z0 := cell_keep z0 hX0 k5 (fun h => h.2 rfl)
  have z1 := cell_keep z1 hX0 k5 (fun h => h.2 rfl)
  have z2 := cell_keep z2 hX0 k5 (fun h => h.2 rfl)
  have hX5 := Nat.lt_of_lt_of_le hX0 k5.size
  have HS2 := hid (hset_calls w5 P5.out (by omega) (by omega) 2 nx nz vl0)
  rw [wk2.2] at HS2
  unfold vlV vl0 nx at HS2
  clear pk p5 k5 b5 HS1 P4 B4 hX0
  go_wp2_with fail
  refine HS2.out.mono ?_
  rintro e6 w6 ⟨rfl, pk⟩
  obtain ⟨p6, k6, b6⟩ := hp_step (X := fun b => b = w3.heap.size) (fun b e => by rw [e]; exact hX5) B5.out.size pk
  have P6 := hid (show HpX w.heap.size (fun b => b = w3.heap.size) 42 h hw4 w6 from p6)
  have B6 := hid (B5.out.trans b6)
  have z0 := cell_keep z0 hX5 k6 (fun h => h.2 rfl)
  have z1 := cell_keep z1 hX5 k6 (fun h => h.2 rfl)
  have z2 := cell_keep z2 hX5 k6 (fun h => h.2 rfl)
  have hX6 := Nat.lt_of_lt_of_le hX5 k6.size
  have HSh1 := hid (fun (wx : World) (b : Below w6.heap.size w6 wx) => hshape_calls wx (P6.out.on b) 1)
  have HSh2 := hid (fun (wx : World) (b : Below w6.heap.size w6 wx) => hshape_calls wx (P6.out.on b) 2)
  rw [wk3.1] at HSh1
  rw [wk3.2] at HSh2
  clear pk p6 k6 b6 HS2 P5 B5 hX5
  go_wp2_with fail
  refine (HSh1.out w6 (Below.refl _ _)).mono ?_
  rintro e7 w7 ⟨rfl, b7⟩
  go_wp2_with fail
  refine (HSh2.out w7 b7).mono ?_
  rintro e8 w8 ⟨rfl, b8⟩
  have b8' := below_on b7 b8
  go_wp2_with fail
  refine (HSh1.out w8 b8').mono ?_
  rintro e9 w9 ⟨rfl, b9⟩
  have b9' := below_on b8' b9
  have P9 := hid (P6.out.on b9')
  have B9 := hid (below_in B6.out (Nat.le_refl _) b9')
  have z0 := cell_on z0 hX6 b9'
  have z1 := cell_on z1 hX6 b9'
  have z2 := cell_on z2 hX6 b9'
  have hX9 := Nat.lt_of_lt_of_le hX6 b9'.size
  have HDl := hid (hdel_calls w9 P9.out (by omega) (by omega) 2 nx nz)
  unfold nx at HDl
  clear b7 b8 b8' b9 b9' P6 B6 HSh1 HSh2 hX6
  go_wp2_with fail
  refine HDl.out.mono ?_
  rintro e10 w10 ⟨rfl, pk⟩
  obtain ⟨p10, k10, b10⟩ := hp_step (X := fun b => b = w3.heap.size) (fun b e => by rw [e]; exact hX9) B9.out.size pk
  have P10 := hid (show HpX w.heap.size (fun b => b = w3.heap.size) 43 h hw5 w10 from p10)
  have B10 := hid (B9.out.trans b10)
  have z0 := cell_keep z0 hX9 k10 (fun h => h.2 rfl)
  have z1 := cell_keep z1 hX9 k10 (fun h => h.2 rfl)
  have z2 := cell_keep z2 hX9 k10 (fun h => h.2 rfl)
  have hX10 := Nat.lt_of_lt_of_le hX9 k10.size
  have HPt := hid (hsetproto_calls w10 P10.out (by omega) (by omega) 2 1)
  rw [wk4.1] at HPt
  clear pk p10 k10 b10 HDl P9 B9 hX9
  go_wp2_with fail
  refine HPt.out.mono ?_
  rintro e11 w11 ⟨rfl, pk⟩
  obtain ⟨p11, k11, b11⟩ := hp_step (X := fun b => b = w3.heap.size) (fun b e => by rw [e]; exact hX10) B10.out.size pk
  have P11 := hid (show HpX w.heap.size (fun b => b = w3.heap.size) 44 h hw6 w11 from p11)
  have B11 := hid (B10.out.trans b11)
  have z0 := cell_keep z0 hX10 k11 (fun h => h.2 rfl)
  have z1 := cell_keep z1 hX10 k11 (fun h => h.2 rfl)
  have z2 := cell_keep z2 hX10 k11 (fun h => h.2 rfl)
  have hX11 := Nat.lt_of_lt_of_le hX10 k11.size
  have D11 := (Below.refl w11.heap.size w11).drew
  have HGt := hid (hget_calls w11.drew (P11.out.on D11) (by omega) 2 nx nz)
  rw [wk5] at HGt
  unfold vlV v21 nx at HGt
  clear pk p11 k11 b11 HPt P10 B10 hX10
  go_wp2_with fail
  refine wp_region_held_drew (S := fun a => a.cell? ⟨w3.heap.size, 0, none⟩ = some (.int .i64 2) ∧ a.cell? ⟨w3.heap.size, 1, none⟩ = some (.int .i64 1) ∧ a.cell? ⟨w3.heap.size, 2, none⟩ = some (.string ⟨#[]⟩)) (by kernel_rfl) ?_ (fun hHeld => ?_)
  · (refine ⟨?_, ?_, ?_⟩ <;> go_simp)
  refine tkk 0 ?_
  refine tkk 1 ?_
  refine tkk 2 ?_
  refine tkk 3 ?_
  refine tkk 4 ?_
  refine tkk 5 ?_
  refine tkk 6 ?_
  refine tkk 7 ?_
  refine tkk 8 ?_
  refine tkk 9 ?_
  refine tkk 10 ?_
  refine tkk 11 ?_
  refine tkk 13 ?_
  refine rdy 12 (fun K hK => ?_)
  go_simp
  refine HGt.out.mono ?_
  rintro e12 w12 ⟨rfl, b12⟩
  have b12' := D11.trans b12
  have z0 := cell_on z0 hX11 b12'
  have z1 := cell_on z1 hX11 b12'
  have z2 := cell_on z2 hX11 b12'
  have hX12 := Nat.lt_of_lt_of_le hX11 b12'.size
  have P12 := hid (P11.out.on b12')
  have B12 := hid (below_in B11.out (Nat.le_refl _) b12')
  have HPt := hid (hsetproto_calls w12 P12.out (by omega) (by omega) 1 2)
  rw [wk4.2] at HPt
  clear b12 b12' D11 P11 B11 HGt hX11
  go_simp
  refine hK.out _ _ ?_ (fun _ => ?_)
  · (refine ⟨?_, ?_, ?_⟩ <;> (first | assumption | go_simp))
  clear hK K
  refine tkk 14 ?_
  refine tkk 15 ?_
  refine tkk 16 ?_
  refine tkk 17 ?_
  refine tkk 18 ?_
  refine tkk 19 ?_
  refine rdy 20 (fun K hK => ?_)
  go_simp
  refine HPt.out.mono ?_
  rintro e13 w13 ⟨rfl, pk⟩
  obtain ⟨p13, k13, b13⟩ := hp_step (X := fun b => b = w3.heap.size) (fun b e => by rw [e]; exact hX12) B12.out.size pk
  have P13 := hid p13
  have B13 := hid (B12.out.trans b13)
  have z0 := cell_keep z0 hX12 k13 (fun h => h.2 rfl)
  have z1 := cell_keep z1 hX12 k13 (fun h => h.2 rfl)
  have z2 := cell_keep z2 hX12 k13 (fun h => h.2 rfl)
  have hX13 := Nat.lt_of_lt_of_le hX12 k13.size
  have HDm := hid (hdump_calls w13 P13.out (by omega) fitW)
  rw [wk6] at HDm
  clear pk p13 k13 b13 HPt P12 B12 hX12
  go_simp
  refine hK.out _ _ ?_ (fun _ => ?_)
  · (refine ⟨?_, ?_, ?_⟩ <;> (first | assumption | go_simp))
  clear hK K
  refine tkk 21 ?_
  refine tkk 22 ?_
  refine tkk 23 ?_
  refine tkk 24 ?_
  refine rdy 25 (fun K hK => ?_)
  go_simp
  refine HDm.out.mono ?_
  rintro e14 w14 ⟨rfl, b14⟩
  have z0 := cell_on z0 hX13 b14
  have z1 := cell_on z1 hX13 b14
  have z2 := cell_on z2 hX13 b14
  have B14 := hid (below_in B13.out (Nat.le_refl _) b14)
  clear b14 HDm P13 B13
  go_simp
  refine hK.out _ _ ?_ (fun _ => ?_)
  · (refine ⟨?_, ?_, ?_⟩ <;> (first | assumption | go_simp))
  clear hK K
  refine tkk 26 ?_
  refine tkk 27 ?_
  refine tkk 28 ?_
  refine wpAnyH_done (by kernel_rfl) ?_ _
  go_wp2_with fail
  go_ret
  exact ⟨rfl, B14.out⟩

end Go.Proofs.YtemidicgipebjaaGreat

namespace Go.Proofs.YtemidicgipebjaaGreat
set_option linter.unusedSimpArgs false
set_option maxRecDepth 100000
open Go.RowKit

def acI (a : AcH) : Prop := a.2.2.2.1.size ≤ maxLen ∧ a.2.2.2.2.2.2.size ≤ maxLen ∧ I64 a.2.2.2.2.2.1
theorem acts_of {l : List (List Value)} (h : ∀ r ∈ l, r.length = 7 ∧ FitsF [.i, .i, .i, .s, .i, .i, .s] r) : ∃ xs : List AcH, l = xs.map acHC ∧ ∀ x ∈ xs, acI x := by
  apply rows_map
  intro r hr
  obtain ⟨hl, hf0⟩ := h r hr
  obtain ⟨_, c0, rfl, ⟨y0, rfl, q0⟩, hf1⟩ := fits_cons hf0
  obtain ⟨_, c1, rfl, ⟨y1, rfl, q1⟩, hf2⟩ := fits_cons hf1
  obtain ⟨_, c2, rfl, ⟨y2, rfl, q2⟩, hf3⟩ := fits_cons hf2
  obtain ⟨_, c3, rfl, ⟨y3, rfl, q3⟩, hf4⟩ := fits_cons hf3
  obtain ⟨_, c4, rfl, ⟨y4, rfl, q4⟩, hf5⟩ := fits_cons hf4
  obtain ⟨_, c5, rfl, ⟨y5, rfl, q5⟩, hf6⟩ := fits_cons hf5
  obtain ⟨_, c6, rfl, ⟨y6, rfl, q6⟩, hf7⟩ := fits_cons hf6
  have e : c6 = [] := List.length_eq_zero_iff.1 (by simpa using hl)
  subst e
  exact ⟨(y0, y1, y2, y3, y4, y5, y6), rfl, q3, q6, q5⟩
theorem acts_shape {v : Value} {xs : List AcH} {w : World} (h : RowsArg 7 v (xs.map acHC) w) : ∃ ao cap, v = .slice ao xs.length cap := by
  rcases h with ⟨ao, cap, rfl, h⟩ | ⟨b, off, cap, rfl, _⟩
  · have : xs = [] := by simpa using h
    subst this
    exact ⟨ao, cap, rfl⟩
  · exact ⟨_, cap, by rw [List.length_map]⟩
theorem act_at {ao : Option Addr} {cap j : Nat} {xs : List AcH} {w : World} (h : RowsArg 7 (.slice ao xs.length cap) (xs.map acHC) w) {a : AcH} (hj : xs[j]? = some a) :
    ∃ b off, ao = some ⟨b, off, none⟩ ∧ b < w.heap.size ∧ w.cell? ⟨b, off + j * 7, none⟩ = some (.int .i64 a.1) ∧ w.cell? ⟨b, off + j * 7 + 1, none⟩ = some (.int .i64 a.2.1) ∧ w.cell? ⟨b, off + j * 7 + 2, none⟩ = some (.int .i64 a.2.2.1) ∧ w.cell? ⟨b, off + j * 7 + 3, none⟩ = some (.string a.2.2.2.1) ∧
      w.cell? ⟨b, off + j * 7 + 4, none⟩ = some (.int .i64 a.2.2.2.2.1) ∧ w.cell? ⟨b, off + j * 7 + 5, none⟩ = some (.int .i64 a.2.2.2.2.2.1) ∧ w.cell? ⟨b, off + j * 7 + 6, none⟩ = some (.string a.2.2.2.2.2.2) := by
  rcases h with ⟨ao', cap', he, h⟩ | ⟨b, off, cap', he, hb, hr⟩
  · have : xs = [] := by simpa using h
    subst this
    simp at hj
  · injection he with he1
    subst he1
    have hm : (xs.map acHC)[j]? = some (acHC a) := by simp [hj]
    exact ⟨b, off, rfl, hb, hr j _ hm 0 _ rfl, hr j _ hm 1 _ rfl, hr j _ hm 2 _ rfl, hr j _ hm 3 _ rfl, hr j _ hm 4 _ rfl, hr j _ hm 5 _ rfl, hr j _ hm 6 _ rfl⟩
theorem not_longH {a : AcH} (h : longH a = false) : a.2.2.2.1.size ≤ 300 ∧ a.2.2.2.2.2.2.size ≤ 300 := by
  unfold longH at h
  rw [Bool.or_eq_false_iff, decide_eq_false_iff_not, decide_eq_false_iff_not] at h
  omega

end Go.Proofs.YtemidicgipebjaaGreat
