/- How high a tree is. How many nodes a tree has. -/
import Derived.Test.YteoghacpdfnijaaDoorNdMem
namespace Go.Proofs.YteoghacpdfnijaaDoor
open Go.RowKit

theorem take_one {α : Type} (l : List α) (i : Nat) (h : i < l.length) : l.take (i + 1) = l.take i ++ [l[i]] := by
  rw [List.take_succ_eq_append_getElem h]

end Go.Proofs.YteoghacpdfnijaaDoor

namespace Go.Proofs.YteoghacpdfnijaaDoor
open Go.RowKit

end Go.Proofs.YteoghacpdfnijaaDoor
