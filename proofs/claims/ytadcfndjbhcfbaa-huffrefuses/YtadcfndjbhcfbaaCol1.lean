/- What the small calls of package color answer: numbers, their reckoner, and the reckoner of secrets. -/
import Derived.Test.YtadcfndjbhcfbaaSecNum
namespace Go.Proofs.Ytadcfndjbhcfbaa
open Go.ChangeShapes Go.WideShapes Go.ChangeAt Go.RowKit

end Go.Proofs.Ytadcfndjbhcfbaa
