/- Acts that came in. -/
import Derived.Test.YtemidicgipebjaaGreatHpDone0
import Derived.Test.YtemidicgipebjaaGreatHpRows
namespace Go.Proofs.YtemidicgipebjaaGreat
set_option linter.unusedSimpArgs false
set_option maxRecDepth 100000
open Go.RowKit

def runH (H : He) (l : List AcH) : He := l.foldl actH H
theorem runH_take {H : He} {l : List AcH} {k : Nat} {a : AcH} (h : l[k]? = some a) : runH H (l.take (k + 1)) = actH (runH H (l.take k)) a := by
  unfold runH
  rw [List.take_add_one, h, show (some a).toList = [a] from rfl, List.foldl_append]
  rfl
theorem gotH_eq {K : Nat} {H : He} (W : WfH K H) (o : Int) (s : ByteArray) : gotH H o s = match ownH H o s with | some v => v | none => if 0 < protoH H o then gotH H (protoH H o) s else vl0 := by
  rw [gotH_step W o s]
  cases ownH H o s with
  | some v => rfl
  | none =>
    dsimp only
    split
    · rfl
    · exact gotH_low (by omega) s

end Go.Proofs.YtemidicgipebjaaGreat
