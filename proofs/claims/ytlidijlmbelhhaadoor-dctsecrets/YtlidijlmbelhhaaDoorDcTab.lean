/- What the condition gives a walk: the table of factors. -/
import Derived.Test.YtlidijlmbelhhaaDoorDc1
import Derived.Test.YtlidijlmbelhhaaDoorRows
import Derived.ProofKit
import Derived.OpenShut
import Derived.Lay
import Derived.SevenTiedAt
import Derived.Stop.Joined
import Derived.MakeChecks
namespace Go.Proofs.YtlidijlmbelhhaaDoor
set_option linter.unusedVariables false
open Go.ChangeShapes Go.WideShapes Go.ChangeAt Go.RowKit

abbrev laidL : List (String × DataW Unit) := [("cyanotype/dct.factors", Rows.laid_cyanotype_dct_factors)]

/-- The datum of a row. -/
def facD (u : Nat) : DataW Unit := .agg ((List.range 8).map fun x => .lit (.int .i64 (fac u x)))

theorem laid_rows : (Rows.laid_cyanotype_dct_factors : DataW Unit) = .agg ((List.range 8).map facD) := rfl

set_option maxRecDepth 100000 in
theorem tab_of_laid {W : World} (h : laidMetH Tryd.prog laidL W) : Tab W := by
  rw [MakeChecks.laidMetH_plain _ _ _ (by kernel_rfl)] at h
  obtain ⟨ps, ⟨g, t, cs, fuel, p, q, hg, ht, hv, hd, _, _⟩, _, _⟩ := h
  obtain rfl := Option.some.inj ((show Tryd.prog.globalNamed "cyanotype/dct.factors" = some 0 by kernel_rfl).symm.trans hg)
  obtain rfl := Option.some.inj ((show (Tryd.prog.globals[0]?).map (·.type) = some 60 by kernel_rfl).symm.trans ht)
  obtain ⟨xs, m, _, ex, _, hl, hel⟩ := DataW.trod_array Tryd.underlying60 hd
  have c8 : Tryd.prog.cellsOf 59 = 8 := by kernel_rfl
  have c1 : Tryd.prog.cellsOf 3 = 1 := by kernel_rfl
  rw [laid_rows] at ex
  have e3 := (DataW.agg.inj (Prod.mk.inj ex).1).symm
  intro u hu x hx
  have hE := hel u hu
  rw [c8, List.getElem?_eq_getElem (by omega)] at hE
  have hU : (xs[u]).1 = facD u := by
    have := congrArg (fun l => l[u]?) e3
    simp only [List.getElem?_map, List.getElem?_range hu, Option.map_some] at this
    rw [List.getElem?_eq_getElem (by omega)] at this
    simpa using this
  generalize hxu : xs[u] = y at hE hU
  obtain ⟨a, b⟩ := y
  obtain ⟨ys, m', _, ey, _, hl', hel'⟩ := DataW.trod_array Tryd.underlying59 hE
  have hU' : a = facD u := hU
  have ey1 := (Prod.mk.inj ey).1
  rw [hU'] at ey1
  have e4 := (DataW.agg.inj ey1).symm
  have hE2 := hel' x hx
  rw [c1, Nat.mul_one, List.getElem?_eq_getElem (by omega)] at hE2
  obtain ⟨z, e1, e2, _⟩ := DataW.trod_int Tryd.underlying3 hE2
  have hX : (ys[x]).1 = .lit (.int .i64 (fac u x)) := by
    have := congrArg (fun l => l[x]?) e4
    simp only [List.getElem?_map, List.getElem?_range hx, Option.map_some] at this
    rw [List.getElem?_eq_getElem (by omega)] at this
    simpa using this
  rw [e2] at hX
  have hz : fac u x = z := by simpa using hX.symm
  subst hz
  rw [World.var?_cell hg hv (u * 8 + x)]
  have h0 := congrArg (fun l => l[0]?) e1
  simp [hx] at h0
  simpa using h0

end Go.Proofs.YtlidijlmbelhhaaDoor
