/- A block of numbers as it comes in. -/
import Derived.Test.YthaekjdnaaikfaaDoorPlMid
import Derived.Test.YthaekjdnaaikfaaDoorView
namespace Go.Proofs.YthaekjdnaaikfaaDoor
open Go.ChangeShapes Go.WideShapes Go.ChangeAt Go.RowKit Go.Deep
set_option maxRecDepth 100000
set_option linter.unusedVariables false

theorem okWide_array {P : Program} {w : World} {r : Reach} {base : Nat} {t e : TypeId} {n : Nat} {v : Value} (ht : P.underlying t = some (.array n e)) (h : Value.okWide P w r base t v) : ∃ cs, v = .agg cs ∧ cs.size = P.cellsOf t := by
  simp only [Value.okWide, ht] at h
  obtain ⟨cs, h1, h2, _⟩ := h
  exact ⟨cs, h1, h2⟩

theorem open_block {H : Type} {enc : TypeId × Value → H} {W : World} {base : Nat} {v : Value} {d : DataW H} {p : List MemPlace} (hval : Value.okWide Tryd.prog W .any base 27 v)
    (h : DataW.Trod enc Tryd.prog W 0 (fun _ => true) true 27 v d p) : ∃ b : Nat → Int, v = .agg (tab .i64 64 b).toArray ∧ ∀ j, j < 64 → I64 (b j) := by
  obtain ⟨cs, rfl, hz⟩ := okWide_array Tryd.underlying27 hval
  rw [show Tryd.prog.cellsOf 27 = 64 by kernel_rfl] at hz
  have c1 : Tryd.prog.cellsOf 3 = 1 := by kernel_rfl
  obtain ⟨fuel, hf⟩ := h
  obtain ⟨xs, m, _, ex, _, hl, hel⟩ := DataW.trod_array Tryd.underlying27 hf
  obtain ⟨l⟩ := cs
  have hz' : l.length = 64 := by simpa using hz
  have key : ∀ j, j < 64 → ∃ z, l[j]? = some (.int .i64 z) ∧ I64 z := by
    intro j hj
    have hE := hel j hj
    rw [c1, Nat.mul_one, List.getElem?_eq_getElem (by omega)] at hE
    obtain ⟨z, e1, _, e3⟩ := DataW.trod_int Tryd.underlying3 hE
    refine ⟨z, ?_, i64_in e3⟩
    have h0 := congrArg (fun l => l[0]?) e1
    simp [Value.cells] at h0
    simpa using h0
  refine ⟨fun j => intOf ((l[j]?).getD (.int .i64 0)), ?_, ?_⟩
  · congr 1
    congr 1
    apply List.ext_getElem?
    intro j
    by_cases hj : j < 64
    · obtain ⟨z, h1, _⟩ := key j hj
      rw [tab_at _ _ _ _ hj, h1]
      rfl
    · rw [List.getElem?_eq_none (by omega), List.getElem?_eq_none (by rw [tab_length]; omega)]
  · intro j hj
    obtain ⟨z, h1, h2⟩ := key j hj
    show I64 (intOf ((l[j]?).getD (.int .i64 0)))
    rw [h1]
    exact h2

end Go.Proofs.YthaekjdnaaikfaaDoor
