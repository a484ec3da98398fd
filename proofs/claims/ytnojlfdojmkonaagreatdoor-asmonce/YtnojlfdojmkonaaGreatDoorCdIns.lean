/- May an instruction be: the program's word. -/
import Derived.Test.YtnojlfdojmkonaaGreatDoorCdSpan
namespace Go.Proofs.YtnojlfdojmkonaaGreatDoor
set_option linter.unusedSimpArgs false
set_option maxRecDepth 100000
open Go.RowKit

def rightI (G P C l s n o a b : Int) : Bool := inZ o 1 32 && (inZ a (spanP G P C l n o).1 (spanP G P C l n o).2 && if siteB o = true then inZ b 0 (s - 1) else b == 0)
set_option maxHeartbeats 3200000 in
theorem instr_calls (G p l s d o a b : Int) (pa ca ia : Option Addr) (pn pc cn cc n ic : Nat) (w : World) (hG : 0 ≤ G ∧ G ≤ 1000) (hl : 0 ≤ l ∧ l ≤ 1000) (hs : 0 ≤ s ∧ s ≤ 10000) (hp : pn ≤ 1000000) (hc : cn ≤ 1000000) (hn : n ≤ 1000000) :
    Calls Tryz.prog 46 #[.agg #[.int .i64 G, .slice pa pn pc, .slice ca cn cc], .agg #[.int .i64 p, .int .i64 l, .int .i64 s, .int .i64 d, .slice ia n ic], .agg #[.int .i64 o, .int .i64 a, .int .i64 b]] w fun e w' =>
      e = .returned (.bool (rightI G pn cn l s n o a b)) ∧ Below w.heap.size w w' := by
  have H := hid (show rightI G pn cn l s n o a b = (inZ o 1 32 && (inZ a (spanP G pn cn l n o).1 (spanP G pn cn l n o).2 && if siteB o = true then inZ b 0 (s - 1) else b == 0)) from rfl)
  have SP := hid (fun W => span_calls G p l s d o pa ca ia pn pc cn cc n ic W hG hl hp hc hn)
  generalize spanP G pn cn l n o = E at *
  have A1 := hid (box_below w (.cells #[.int .i64 G, .slice pa pn pc, .slice ca cn cc] 25))
  have B1 := hid (blk_new w 25 #[.int .i64 G, .slice pa pn pc, .slice ca cn cc])
  have hs1 : (w.alloc (.cells #[.int .i64 G, .slice pa pn pc, .slice ca cn cc] 25)).heap.size = w.heap.size + 1 := by simp
  generalize hW1 : w.alloc (.cells #[.int .i64 G, .slice pa pn pc, .slice ca cn cc] 25) = w1 at *
  have X2 := box_below w1 (.cells #[.int .i64 p, .int .i64 l, .int .i64 s, .int .i64 d, .slice ia n ic] 45)
  have A2 := hid (A1.out.trans (X2.mono (by omega)))
  have B2 := hid (blk_new w1 45 #[.int .i64 p, .int .i64 l, .int .i64 s, .int .i64 d, .slice ia n ic])
  replace B1 := hid (blk_on B1.out X2)
  clear X2
  rw [hs1] at B2
  have hs2 : (w1.alloc (.cells #[.int .i64 p, .int .i64 l, .int .i64 s, .int .i64 d, .slice ia n ic] 45)).heap.size = w.heap.size + 2 := by simp; omega
  generalize hW2 : w1.alloc (.cells #[.int .i64 p, .int .i64 l, .int .i64 s, .int .i64 d, .slice ia n ic] 45) = w2 at *
  have X3 := box_below w2 (.cells #[.int .i64 o, .int .i64 a, .int .i64 b] 67)
  have A3 := hid (A2.out.trans (X3.mono (by omega)))
  have B3 := hid (blk_new w2 67 #[.int .i64 o, .int .i64 a, .int .i64 b])
  replace B1 := hid (blk_on B1.out X3)
  replace B2 := hid (blk_on B2.out X3)
  clear X3
  rw [hs2] at B3
  have hs3 : (w2.alloc (.cells #[.int .i64 o, .int .i64 a, .int .i64 b] 67)).heap.size = w.heap.size + 3 := by simp; omega
  generalize hW3 : w2.alloc (.cells #[.int .i64 o, .int .i64 a, .int .i64 b] 67) = w3 at *
  have p0 : w3.cell? ⟨w.heap.size, 0, none⟩ = some (.int .i64 G) := blk_cellZ B1.out 0 rfl
  have p1 : w3.cell? ⟨w.heap.size, 1, none⟩ = some (.slice pa pn pc) := blk_cellZ B1.out 1 rfl
  have p2 : w3.cell? ⟨w.heap.size, 2, none⟩ = some (.slice ca cn cc) := blk_cellZ B1.out 2 rfl
  have c0 : w3.cell? ⟨w.heap.size + 1, 0, none⟩ = some (.int .i64 p) := blk_cellZ B2.out 0 rfl
  have c1 : w3.cell? ⟨w.heap.size + 1, 1, none⟩ = some (.int .i64 l) := blk_cellZ B2.out 1 rfl
  have c2 : w3.cell? ⟨w.heap.size + 1, 2, none⟩ = some (.int .i64 s) := blk_cellZ B2.out 2 rfl
  have c3 : w3.cell? ⟨w.heap.size + 1, 3, none⟩ = some (.int .i64 d) := blk_cellZ B2.out 3 rfl
  have c4 : w3.cell? ⟨w.heap.size + 1, 4, none⟩ = some (.slice ia n ic) := blk_cellZ B2.out 4 rfl
  have i0 : w3.cell? ⟨w.heap.size + 2, 0, none⟩ = some (.int .i64 o) := blk_cellZ B3.out 0 rfl
  have i1 : w3.cell? ⟨w.heap.size + 2, 1, none⟩ = some (.int .i64 a) := blk_cellZ B3.out 1 rfl
  have i2 : w3.cell? ⟨w.heap.size + 2, 2, none⟩ = some (.int .i64 b) := blk_cellZ B3.out 2 rfl
  clear A1 A2 B1 B2 B3
  have W1 := hid (cdwithin_calls o 1 32)
  cases h1 : inZ o 1 32 with
  | false =>
    rw [h1] at H W1
    go_enter Tryz.func46, Tryz.ntmps46
    go_wp2_with fail
    refine (W1.out _).mono ?_
    rintro e w4 ⟨rfl, rfl⟩
    go_wp2_with fail
    go_ret
    exact ⟨by rw [H.out]; rfl, A3.out⟩
  | true =>
  rw [h1] at H W1
  clear h1
  have W2 := hid (cdwithin_calls a E.1 E.2)
  have W3 := hid (site_calls o)
  have W4 := hid (cdwithin_calls b 0 (s - 1))
  cases h2 : inZ a E.1 E.2 with
  | false =>
    rw [h2] at H W2
    clear h2 W3 W4
    go_enter Tryz.func46, Tryz.ntmps46
    go_wp2_with fail
    refine (W1.out _).mono ?_
    rintro e w4 ⟨rfl, rfl⟩
    go_wp2_with fail
    refine (SP.out _).mono ?_
    rintro e w4 ⟨rfl, b4⟩
    replace i1 := cellB b4 (by simp; omega) i1
    have B4 := hid (A3.out.trans (b4.mono (by omega)))
    clear b4 i0 i2 c0 c1 c2 c3 c4 p0 p1 p2
    go_wp2_with fail
    refine (W2.out _).mono ?_
    rintro e w5 ⟨rfl, rfl⟩
    go_wp2_with fail
    go_ret
    exact ⟨by rw [H.out]; rfl, B4.out⟩
  | true =>
  rw [h2] at H W2
  clear h2
  cases h3 : siteB o with
  | false =>
    rw [h3] at H W3
    clear h3 W4
    go_enter Tryz.func46, Tryz.ntmps46
    go_wp2_with fail
    refine (W1.out _).mono ?_
    rintro e w4 ⟨rfl, rfl⟩
    go_wp2_with fail
    refine (SP.out _).mono ?_
    rintro e w4 ⟨rfl, b4⟩
    replace i0 := cellB b4 (by simp; omega) i0
    replace i1 := cellB b4 (by simp; omega) i1
    replace i2 := cellB b4 (by simp; omega) i2
    have B4 := hid (A3.out.trans (b4.mono (by omega)))
    clear b4 c0 c1 c2 c3 c4 p0 p1 p2
    go_wp2_with fail
    refine (W2.out _).mono ?_
    rintro e w5 ⟨rfl, rfl⟩
    go_wp2_with fail
    refine (W3.out _).mono ?_
    rintro e w5 ⟨rfl, rfl⟩
    go_wp2_with fail
    go_ret
    exact ⟨by rw [H.out]; rfl, B4.out⟩
  | true =>
    rw [h3] at H W3
    clear h3
    go_enter Tryz.func46, Tryz.ntmps46
    go_wp2_with fail
    refine (W1.out _).mono ?_
    rintro e w4 ⟨rfl, rfl⟩
    go_wp2_with fail
    refine (SP.out _).mono ?_
    rintro e w4 ⟨rfl, b4⟩
    replace i0 := cellB b4 (by simp; omega) i0
    replace i1 := cellB b4 (by simp; omega) i1
    replace i2 := cellB b4 (by simp; omega) i2
    replace c2 := cellB b4 (by simp; omega) c2
    have B4 := hid (A3.out.trans (b4.mono (by omega)))
    clear b4 c0 c1 c3 c4 p0 p1 p2
    go_wp2_with fail
    refine (W2.out _).mono ?_
    rintro e w5 ⟨rfl, rfl⟩
    go_wp2_with fail
    refine (W3.out _).mono ?_
    rintro e w5 ⟨rfl, rfl⟩
    go_wp2_with fail
    refine (W4.out _).mono ?_
    rintro e w5 ⟨rfl, rfl⟩
    go_wp2_with fail
    go_ret
    exact ⟨by rw [H.out]; rfl, B4.out⟩

end Go.Proofs.YtnojlfdojmkonaaGreatDoor
