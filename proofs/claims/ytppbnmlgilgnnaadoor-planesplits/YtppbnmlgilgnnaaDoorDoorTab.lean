/- What the condition gives a walk: the table's cells. -/
import Derived.Test.YtppbnmlgilgnnaaDoorPlTab
import Derived.Test.YtppbnmlgilgnnaaDoorRows
import Derived.ProofKit
import Derived.OpenShut
import Derived.Lay
import Derived.SevenTiedAt
import Derived.Stop.Joined
import Derived.MakeChecks
namespace Go.Proofs.YtppbnmlgilgnnaaDoor
open Go.ChangeShapes Go.WideShapes Go.ChangeAt Go.RowKit

abbrev laidL : List (String × DataW Unit) := [("math/bits.deBruijn32tab", Rows.laid_math_bits_deBruijn32tab), ("math/bits.deBruijn64tab", Rows.laid_math_bits_deBruijn64tab)]

set_option maxRecDepth 100000 in
theorem tab_of_laid {W : World} (h : laidMetH Tryd.prog laidL W) : Tab W := by
  rw [MakeChecks.laidMetH_plain _ _ _ (by kernel_rfl)] at h
  obtain ⟨ps, ⟨_, _, _, _, _, _, _, _, _, _, hrest, _⟩, _, _⟩ := h
  obtain ⟨g, t, cs, fuel, p, q, hg, ht, hv, hd, _, _⟩ := hrest
  obtain rfl := Option.some.inj ((show Tryd.prog.globalNamed "math/bits.deBruijn64tab" = some 1 by kernel_rfl).symm.trans hg)
  obtain rfl := Option.some.inj ((show (Tryd.prog.globals[1]?).map (·.type) = some 171 by kernel_rfl).symm.trans ht)
  obtain ⟨xs, m, _, ex, _, hl, hel⟩ := DataW.trod_array Tryd.underlying171 hd
  have c5 : Tryd.prog.cellsOf 5 = 1 := by kernel_rfl
  have e3 := (DataW.agg.inj (Prod.mk.inj ex).1).symm
  have key : ∀ (r : Nat) (z : Int), r < 64 → (xs.map (·.1))[r]? = some (.lit (.int .u8 z)) → W.cell? ⟨1, r, none⟩ = some (.int .u8 z) := by
    intro r z hr hz
    have hE := hel r hr
    rw [c5, Nat.mul_one, List.getElem?_eq_getElem (by omega)] at hE
    obtain ⟨z', e1, e2, _⟩ := DataW.trod_int Tryd.underlying5 hE
    rw [List.getElem?_map, List.getElem?_eq_getElem (by omega : r < xs.length), e2] at hz
    have hzz : z' = z := by simpa using hz
    subst hzz
    rw [World.var?_cell hg hv r]
    have : cs.toList[r]? = some (.int .u8 z') := by
      have h0 : ((cs.toList.drop r).take 1)[0]? = some (.int .u8 z') := by rw [e1]; rfl
      simpa using h0
    simpa using this
  exact ⟨key 0 0 (by omega) (by rw [e3]; rfl), key 1 1 (by omega) (by rw [e3]; rfl), key 3 2 (by omega) (by rw [e3]; rfl)⟩

end Go.Proofs.YtppbnmlgilgnnaaDoor
