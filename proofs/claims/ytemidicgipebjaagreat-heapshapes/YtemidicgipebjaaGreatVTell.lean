/- What value's functions that tell answer, for any value. -/
import Derived.Test.YtemidicgipebjaaGreatVal
import Derived.Test.YtemidicgipebjaaGreatVPlain
namespace Go.Proofs.YtemidicgipebjaaGreat
set_option maxRecDepth 100000
open Go.RowKit

theorem box1 (w : World) (o : Obj) : Below w.heap.size w (w.alloc o) := (Below.refl _ _).alloc (Nat.le_refl _) _

theorem box2 (w : World) (o o' : Obj) : Below w.heap.size w ((w.alloc o).alloc o') := (box1 w o).alloc (by simp) _

end Go.Proofs.YtemidicgipebjaaGreat
