/- What the small calls of package color answer: numbers, their reckoner, and the reckoner of secrets. -/
import Derived.Test.YtlpeplihbdcklaaSecNum
namespace Go.Proofs.Ytlpeplihbdcklaa
open Go.ChangeShapes Go.WideShapes Go.ChangeAt Go.RowKit

end Go.Proofs.Ytlpeplihbdcklaa
