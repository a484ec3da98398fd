/- What comes behind an instruction: the program's word. -/
import Derived.Test.YtnojlfdojmkonaaGreatDoorCdEff
namespace Go.Proofs.YtnojlfdojmkonaaGreatDoor
set_option linter.unusedSimpArgs false
set_option maxRecDepth 100000
open Go.RowKit

abbrev cdV (c : Cd) (iv : Value) : Value := .agg #[.int .i64 c.p, .int .i64 c.l, .int .i64 c.s, .int .i64 c.d, iv]
theorem tgT_neg {is : List In} {k : Int} (h : k < 0) : tgT is k = [] := by unfold tgT; rw [if_pos h]
theorem tgT_big {is : List In} {k : Nat} (h : is.length ≤ k) : tgT is (k : Int) = [] := by
  unfold tgT
  rw [if_neg (by omega)]
  unfold tgL
  rw [Int.toNat_natCast, List.getElem?_eq_none h]
theorem tgT_at {is : List In} {k : Nat} {x : In} (h : is[k]? = some x) : tgT is (k : Int) = tgI x.1 x.2.1 k := by
  unfold tgT
  rw [if_neg (by omega)]
  unfold tgL
  rw [Int.toNat_natCast, h]
def IntsR (g : Nat) (F : List Int) (w : World) : Prop := Blk g 3 (F.map (Value.int .i64)).toArray w
/-- what Targets answers: nothing, or a row of its own -/
def TgN (lo : Nat) (v : Value) (xs : List Int) (w : World) : Prop := (v = .slice none 0 0 ∧ xs = []) ∨ ∃ b, v = .slice (some ⟨b, 0, none⟩) xs.length xs.length ∧ lo ≤ b ∧ IntsR b xs w
theorem tgT_nat (is : List In) (k : Nat) : tgT is (k : Int) = tgL is k := by unfold tgT; rw [if_neg (by omega), Int.toNat_natCast]
set_option maxHeartbeats 3200000 in
theorem targets_calls (B : Nat) (c : Cd) (iv : Value) (k : Int) (w : World) (hB : B ≤ w.heap.size) (hI : InsIn B w iv c.ins) (hl : c.ins.length ≤ 1000000) :
    Calls Tryz.prog 49 #[cdV c iv, .int .i64 k] w fun e w' => ∃ v, e = .returned v ∧ TgN w.heap.size v (tgT c.ins k) w' ∧ Below w.heap.size w w' := by
  obtain ⟨p, l, s, d, is⟩ := c
  simp only [cdV] at *
  obtain ⟨ao, cap, rfl⟩ := insIn_shape hI
  have AL := hid (box_below w (.cells #[.int .i64 p, .int .i64 l, .int .i64 s, .int .i64 d, .slice ao is.length cap] 45))
  have BL := hid (blk_new w 45 #[.int .i64 p, .int .i64 l, .int .i64 s, .int .i64 d, .slice ao is.length cap])
  by_cases hk0 : k < 0
  · have H := hid (tgT_neg (is := is) hk0)
    go_enter Tryz.func49, Tryz.ntmps49
    go_wp2_with fail
    go_ret
    exact ⟨_, rfl, by rw [H.out]; exact .inl ⟨rfl, rfl⟩, AL.out⟩
  obtain ⟨j, rfl⟩ : ∃ j : Nat, k = (j : Int) := ⟨k.toNat, by omega⟩
  have c4 := blk_cellZ BL.out 4 rfl
  have hI1 := hid (insIn_on hI (AL.out.mono hB))
  have hsz : (w.alloc (.cells #[.int .i64 p, .int .i64 l, .int .i64 s, .int .i64 d, .slice ao is.length cap] 45)).heap.size = w.heap.size + 1 := by simp
  clear hI
  generalize hW : w.alloc (.cells #[.int .i64 p, .int .i64 l, .int .i64 s, .int .i64 d, .slice ao is.length cap] 45) = w1 at *
  rcases Nat.lt_or_ge j is.length with hj | hj
  rotate_left 1
  · have H := hid (tgT_big hj)
    have hj' : (is.length : Int) ≤ (j : Int) := by omega
    clear hj
    go_enter Tryz.func49, Tryz.ntmps49
    go_wp2_with fail
    go_ret
    exact ⟨_, rfl, by rw [H.out]; exact .inl ⟨rfl, rfl⟩, AL.out⟩
  obtain ⟨x, hx⟩ : ∃ x, is[j]? = some x := ⟨_, List.getElem?_eq_getElem hj⟩
  obtain ⟨b, off, rfl, hb, i0, i1, i2⟩ := insIn_at hI1.out hx
  have H := hid (tgT_at hx)
  obtain ⟨o, a, bb⟩ := x
  have hj' : (j : Int) < (is.length : Int) := by omega
  have hlj : j < 1000000 := by omega
  clear hk0
  have BL2 := hid (blk_new w1 67 #[.int .i64 o, .int .i64 a, .int .i64 bb])
  have AL2 := hid (AL.out.trans ((box_below w1 (.cells #[.int .i64 o, .int .i64 a, .int .i64 bb] 67)).mono (by omega)))
  have e0 := blk_cellZ BL2.out 0 rfl
  have e1 := blk_cellZ BL2.out 1 rfl
  have hz2 : w.heap.size ≤ (w1.alloc (.cells #[.int .i64 o, .int .i64 a, .int .i64 bb] 67)).heap.size := by simp; omega
  simp only at i0 i1 i2
  rw [hsz] at BL2 e0 e1
  have e0 : (w1.alloc (.cells #[.int .i64 o, .int .i64 a, .int .i64 bb] 67)).cell? ⟨w.heap.size + 1, 0, none⟩ = some (.int .i64 o) := e0
  have e1 : (w1.alloc (.cells #[.int .i64 o, .int .i64 a, .int .i64 bb] 67)).cell? ⟨w.heap.size + 1, 1, none⟩ = some (.int .i64 a) := e1
  by_cases h32 : o = 32
  · subst h32
    go_enter Tryz.func49, Tryz.ntmps49
    go_upto_region 4 with fail
    generalize hW2 : w1.alloc (.cells #[.int .i64 32, .int .i64 a, .int .i64 bb] 67) = w2 at *
    go_wp2_with fail
    go_ret
    exact ⟨_, rfl, by rw [H.out]; exact .inl ⟨rfl, rfl⟩, AL2.out⟩
  have b32 : (o == 32) = false := beq_eq_false_iff_ne.2 h32
  by_cases h22 : o = 22
  · subst h22
    go_enter Tryz.func49, Tryz.ntmps49
    go_upto_region 4 with fail
    generalize hW2 : w1.alloc (.cells #[.int .i64 22, .int .i64 a, .int .i64 bb] 67) = w2 at *
    have N := hid (blk_new w2 3 #[.int .i64 a])
    have AL3 := hid (AL2.out.trans ((box_below w2 (.cells #[.int .i64 a] 3)).mono hz2))
    go_wp2_with fail
    go_ret
    exact ⟨_, rfl, by rw [H.out]; exact .inr ⟨_, rfl, hz2, N.out⟩, AL3.out⟩
  have b22 : (o == 22) = false := beq_eq_false_iff_ne.2 h22
  by_cases hg : goB o = true
  · replace H := hid (H.out.trans (show tgI o a j = [(j : Int) + 1, a] by unfold tgI; rw [if_neg h32, if_neg h22, if_pos hg]))
    have G := hid (goes_calls o)
    rw [hg] at G
    clear h32 h22
    go_enter Tryz.func49, Tryz.ntmps49
    go_upto_region 4 with fail
    generalize hW2 : w1.alloc (.cells #[.int .i64 o, .int .i64 a, .int .i64 bb] 67) = w2 at *
    have N := hid (blk_new w2 3 #[.int .i64 ((j : Int) + 1), .int .i64 a])
    have AL3 := hid (AL2.out.trans ((box_below w2 (.cells #[.int .i64 ((j : Int) + 1), .int .i64 a] 3)).mono hz2))
    go_wp2_with fail
    refine (G.out _).mono ?_
    rintro e w3 ⟨rfl, rfl⟩
    go_wp2_with fail
    go_ret
    exact ⟨_, rfl, by rw [H.out]; exact .inr ⟨_, rfl, hz2, N.out⟩, AL3.out⟩
  · have hg : goB o = false := by simpa using hg
    replace H := hid (H.out.trans (show tgI o a j = [(j : Int) + 1] by unfold tgI; rw [if_neg h32, if_neg h22, if_neg (by rw [hg]; decide)]))
    have G := hid (goes_calls o)
    rw [hg] at G
    clear h32 h22
    go_enter Tryz.func49, Tryz.ntmps49
    go_upto_region 4 with fail
    generalize hW2 : w1.alloc (.cells #[.int .i64 o, .int .i64 a, .int .i64 bb] 67) = w2 at *
    have N := hid (blk_new w2 3 #[.int .i64 ((j : Int) + 1)])
    have AL3 := hid (AL2.out.trans ((box_below w2 (.cells #[.int .i64 ((j : Int) + 1)] 3)).mono hz2))
    go_wp2_with fail
    refine (G.out _).mono ?_
    rintro e w3 ⟨rfl, rfl⟩
    go_wp2_with fail
    go_ret
    exact ⟨_, rfl, by rw [H.out]; exact .inr ⟨_, rfl, hz2, N.out⟩, AL3.out⟩

end Go.Proofs.YtnojlfdojmkonaaGreatDoor
