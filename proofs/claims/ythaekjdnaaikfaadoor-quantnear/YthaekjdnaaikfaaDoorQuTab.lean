/- What the condition gives a walk: the tables of order and lists. -/
import Derived.Test.YthaekjdnaaikfaaDoorQu1
import Derived.Test.YthaekjdnaaikfaaDoorRows
import Derived.ProofKit
import Derived.OpenShut
import Derived.Lay
import Derived.SevenTiedAt
import Derived.Stop.Joined
import Derived.MakeChecks
namespace Go.Proofs.YthaekjdnaaikfaaDoor
set_option linter.unusedVariables false
open Go.ChangeShapes Go.WideShapes Go.ChangeAt Go.RowKit

abbrev laidL : List (String × DataW Unit) := [("cyanotype/quant.order", Rows.laid_cyanotype_quant_order), ("cyanotype/quant.lists", Rows.laid_cyanotype_quant_lists)]

def lstD (p : Nat) : DataW Unit := .agg ((List.range 64).map fun j => .lit (.int .u8 (lst p j)))
def zzD : DataW Unit := .agg ((List.range 64).map fun j => .lit (.int .u8 ((zz j : Nat) : Int)))

theorem laid_lists : (Rows.laid_cyanotype_quant_lists : DataW Unit) = .agg ((List.range 2).map lstD) := by rfl
theorem laid_order : (Rows.laid_cyanotype_quant_order : DataW Unit) = zzD := by rfl

set_option maxRecDepth 100000 in
theorem tab_of_laid {W : World} (h : laidMetH Tryd.prog laidL W) : QTab W := by
  rw [MakeChecks.laidMetH_plain _ _ _ (by kernel_rfl)] at h
  obtain ⟨ps, ⟨g', t', cs', fuel', p', q', hg', ht', hv', hd', hrest, _⟩, _, _⟩ := h
  obtain ⟨g, t, cs, fuel, p, q, hg, ht, hv, hd, _, _⟩ := hrest
  obtain rfl := Option.some.inj ((show Tryd.prog.globalNamed "cyanotype/quant.lists" = some 1 by kernel_rfl).symm.trans hg)
  obtain rfl := Option.some.inj ((show (Tryd.prog.globals[1]?).map (·.type) = some 67 by kernel_rfl).symm.trans ht)
  obtain rfl := Option.some.inj ((show Tryd.prog.globalNamed "cyanotype/quant.order" = some 0 by kernel_rfl).symm.trans hg')
  obtain rfl := Option.some.inj ((show (Tryd.prog.globals[0]?).map (·.type) = some 47 by kernel_rfl).symm.trans ht')
  have c64 : Tryd.prog.cellsOf 47 = 64 := by kernel_rfl
  have c1 : Tryd.prog.cellsOf 5 = 1 := by kernel_rfl
  constructor
  · obtain ⟨ys, m', _, ey, _, hl', hel'⟩ := DataW.trod_array Tryd.underlying47 hd'
    rw [laid_order] at ey
    have e4 := (DataW.agg.inj (Prod.mk.inj ey).1).symm
    intro x hx
    have hE2 := hel' x hx
    rw [c1, Nat.mul_one, List.getElem?_eq_getElem (by omega)] at hE2
    obtain ⟨z, e1, e2, _⟩ := DataW.trod_int Tryd.underlying5 hE2
    have hX : (ys[x]).1 = .lit (.int .u8 ((zz x : Nat) : Int)) := by
      have := congrArg (fun l => l[x]?) e4
      simp only [List.getElem?_map, List.getElem?_range hx, Option.map_some] at this
      rw [List.getElem?_eq_getElem (by omega)] at this
      simpa using this
    rw [e2] at hX
    have hz : ((zz x : Nat) : Int) = z := by simpa using hX.symm
    subst hz
    rw [World.var?_cell hg' hv' x]
    have h0 := congrArg (fun l => l[0]?) e1
    simp at h0
    simpa using h0
  · obtain ⟨xs, m, _, ex, _, hl, hel⟩ := DataW.trod_array Tryd.underlying67 hd
    rw [laid_lists] at ex
    have e3 := (DataW.agg.inj (Prod.mk.inj ex).1).symm
    intro u hu x hx
    have hE := hel u hu
    rw [c64, List.getElem?_eq_getElem (by omega)] at hE
    have hU : (xs[u]).1 = lstD u := by
      have := congrArg (fun l => l[u]?) e3
      simp only [List.getElem?_map, List.getElem?_range hu, Option.map_some] at this
      rw [List.getElem?_eq_getElem (by omega)] at this
      simpa using this
    generalize hxu : xs[u] = y at hE hU
    obtain ⟨a, b⟩ := y
    obtain ⟨ys, m', _, ey, _, hl', hel'⟩ := DataW.trod_array Tryd.underlying47 hE
    have hU' : a = lstD u := hU
    have ey1 := (Prod.mk.inj ey).1
    rw [hU'] at ey1
    have e4 := (DataW.agg.inj ey1).symm
    have hE2 := hel' x hx
    rw [c1, Nat.mul_one, List.getElem?_eq_getElem (by omega)] at hE2
    obtain ⟨z, e1, e2, _⟩ := DataW.trod_int Tryd.underlying5 hE2
    have hX : (ys[x]).1 = .lit (.int .u8 (lst u x)) := by
      have := congrArg (fun l => l[x]?) e4
      simp only [List.getElem?_map, List.getElem?_range hx, Option.map_some] at this
      rw [List.getElem?_eq_getElem (by omega)] at this
      simpa using this
    rw [e2] at hX
    have hz : lst u x = z := by simpa using hX.symm
    subst hz
    rw [World.var?_cell hg hv (u * 64 + x)]
    have h0 := congrArg (fun l => l[0]?) e1
    simp [hx] at h0
    simpa using h0

end Go.Proofs.YthaekjdnaaikfaaDoor
