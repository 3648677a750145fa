/- What each call of package sec answers, for every number that the secrets hold; of old memory nothing turns. -/
import Derived.Test.YtlpeplihbdcklaaTrace
import Derived.Laws.Bits64
import Derived.RegionTactic
namespace Go.Proofs.Ytlpeplihbdcklaa
open Go.ChangeShapes Go.WideShapes Go.ChangeAt Go.RowKit

/-- A secret that holds n. -/
abbrev S64 (n : Int) : Value := .agg #[.int .i64 n]

theorem ret_num {k : IntKind} {a b : Int} (h : a = b) : Ending.returned (.int k a) = .returned (.int k b) := by rw [h]

/-- By how much is shifted. -/
def shN (n : Int) : Int := min (max n 0) 63

theorem shN_in (n : Int) : 0 ≤ shN n ∧ shN n ≤ 63 := by unfold shN; omega

end Go.Proofs.Ytlpeplihbdcklaa
