/- The document's signs. -/
import Derived.Test.YtijbiedblahmhaaDoorJoint14
import Derived.Test.YtijbiedblahmhaaDoorKey
namespace Go.Proofs.YtijbiedblahmhaaDoor
open Go.RowKit

end Go.Proofs.YtijbiedblahmhaaDoor
