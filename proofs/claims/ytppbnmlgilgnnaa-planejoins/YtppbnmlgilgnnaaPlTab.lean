/- The table of package math/bits, at the places that are read. -/
import Derived.Test.YtppbnmlgilgnnaaPl1
namespace Go.Proofs.Ytppbnmlgilgnnaa
open Go.ChangeShapes Go.WideShapes Go.ChangeAt Go.RowKit

/-- The table's numbers of 1, 2 and 4. -/
def Tab (W : World) : Prop := W.cell? ⟨1, 0, none⟩ = some (.int .u8 0) ∧ W.cell? ⟨1, 1, none⟩ = some (.int .u8 1) ∧ W.cell? ⟨1, 3, none⟩ = some (.int .u8 2)

theorem Tab.but {W W' : World} (h : Tab W) (hb : But Nowhere W W') : Tab W' := ⟨hb.keeps (not_nowhere _) h.1, hb.keeps (not_nowhere _) h.2.1, hb.keeps (not_nowhere _) h.2.2⟩

theorem Tab.butS {S : Nat → Prop} {W W' : World} (h : Tab W) (hb : But S W W') (hs : ¬ S 1) : Tab W' := ⟨hb.keeps hs h.1, hb.keeps hs h.2.1, hb.keeps hs h.2.2⟩

theorem Tab.lt {W : World} (h : Tab W) : 1 < W.heap.size := World.block_lt_of_cell? W _ h.1

/-- How often 2 is in 1, 2 and 4. -/
def tzF (c : Int) : Int := if c = 1 then 0 else if c = 2 then 1 else 2

end Go.Proofs.Ytppbnmlgilgnnaa
