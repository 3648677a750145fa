/- What each call of package trace does with a recorder that is there, and with one that is nil. -/
import Derived.Test.YtlpeplihbdcklaaRows
import Derived.Test.YtlpeplihbdcklaaMem
import Derived.WalkKit
import Derived.ProofKit
import Derived.OpenShut
import Derived.OwnWalk
import Derived.Laws.Pointers
import Derived.Deep.RegionHeld3
import Derived.Deep.AppendLies
import Derived.Deep.RegionLaw
namespace Go.Proofs.Ytlpeplihbdcklaa
open Go.ChangeShapes Go.WideShapes Go.ChangeAt Go.RowKit

end Go.Proofs.Ytlpeplihbdcklaa
