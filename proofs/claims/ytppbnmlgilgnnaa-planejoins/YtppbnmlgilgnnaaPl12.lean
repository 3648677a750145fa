/- Split: an image's blocks. -/
import Derived.Test.YtppbnmlgilgnnaaPl8
import Derived.Test.YtppbnmlgilgnnaaPl11
namespace Go.Proofs.Ytppbnmlgilgnnaa
open Go.ChangeShapes Go.WideShapes Go.ChangeAt Go.RowKit

theorem gn_all (l : List Int) : (List.range l.length).map (gn l) = l := by
  apply List.ext_getElem?
  intro i
  by_cases hi : i < l.length
  · rw [List.getElem?_map, List.getElem?_range hi, Option.map_some, List.getElem?_eq_getElem hi, gn_at l i hi]
  · rw [List.getElem?_eq_none (by simp; omega), List.getElem?_eq_none (by omega)]

/-- An image, as a value. -/
abbrev imV (W H : Int) (r : Bool) (p : Value) : Value := .agg #[.int .i64 W, .int .i64 H, .bool r, p]
abbrev imC (W H : Int) (r : Bool) (p : Value) : List Value := [.int .i64 W, .int .i64 H, .bool r, p]

end Go.Proofs.Ytppbnmlgilgnnaa
