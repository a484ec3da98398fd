/- All nodes, by induction. -/
import Derived.Test.YteoghacpdfnijaaDoorScFun
import Derived.Test.YteoghacpdfnijaaDoorScNode
namespace Go.Proofs.YteoghacpdfnijaaDoor
open Go.RowKit

theorem node_calls (t : Nd) : NodeRes t := by
  refine Nd.ind (P := NodeRes) ?_ t
  intro k o n s ns ks p ih
  exact node_of k o n s ns ks p (each_of ks ih) (fun h => by subst h; exact fun_of o n s ns ks p (each_of ks ih))
theorem each_calls (ks : List Nd) : KidsRes ks := each_of ks (fun x _ => node_calls x)

end Go.Proofs.YteoghacpdfnijaaDoor
