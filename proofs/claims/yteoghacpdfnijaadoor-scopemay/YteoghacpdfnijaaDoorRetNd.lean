/- A node that a call gives back from its own cell. -/
import Derived.Test.YteoghacpdfnijaaDoorMapG
import Derived.Test.YteoghacpdfnijaaDoorNdMem
namespace Go.Proofs.YteoghacpdfnijaaDoor
open Go.RowKit

theorem ret_nd7 {fn : Func} {t : Tmp} (h : fn.results = #[.cell t 25]) {tmps : Array Value} {g : Nat} {w : World} {v0 v1 v2 v3 v4 v5 v6 : Value} (ht : tmps.getD t undef = .pointer (some ⟨g, 0, none⟩)) (hb : Blk g 25 #[v0, v1, v2, v3, v4, v5, v6] w) :
    (results fn tmps).run Tryd.prog w = .ok (.agg #[v0, v1, v2, v3, v4, v5, v6]) w := by
  rw [Array.getD_eq_getD_getElem?] at ht
  have c0 := blk_cell hb 0
  have c1 := blk_cell hb 1
  have c2 := blk_cell hb 2
  have c3 := blk_cell hb 3
  have c4 := blk_cell hb 4
  have c5 := blk_cell hb 5
  have c6 := blk_cell hb 6
  simp at c0 c1 c2 c3 c4 c5 c6
  simp [results, h, ht, go_sem, asAddr, c0, c1, c2, c3, c4, c5, c6]

end Go.Proofs.YteoghacpdfnijaaDoor
