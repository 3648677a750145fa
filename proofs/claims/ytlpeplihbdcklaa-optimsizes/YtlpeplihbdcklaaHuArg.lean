/- A table of codes as it comes in: sixteen counts, and a list of bytes. -/
import Derived.Test.YtlpeplihbdcklaaBlk64
import Derived.Test.YtlpeplihbdcklaaDcBlk
namespace Go.Proofs.Ytlpeplihbdcklaa
open Go.ChangeShapes Go.WideShapes Go.ChangeAt Go.RowKit Go.Deep
set_option maxRecDepth 100000
set_option linter.unusedVariables false

/-- The cells of a table. -/
def tbl (c : Nat → Int) (pv : Value) : List Value := tab .i64 16 c ++ [pv]

theorem tbl_length (c : Nat → Int) (pv : Value) : (tbl c pv).length = 17 := by simp [tbl, tab_length]
theorem tbl_at (c : Nat → Int) (pv : Value) (j : Nat) (h : j < 16) : (tbl c pv)[j]? = some (.int .i64 (c j)) := by
  unfold tbl
  rw [List.getElem?_append_left (by rw [tab_length]; exact h), tab_at _ _ _ _ h]
theorem tbl_last (c : Nat → Int) (pv : Value) : (tbl c pv)[16]? = some pv := by
  unfold tbl
  rw [List.getElem?_append_right (by rw [tab_length]; omega), tab_length]
  rfl
theorem Cells.cnt {W : World} {b : Nat} {t : TypeId} {c : Nat → Int} {pv : Value} (h : Cells W b t (tbl c pv)) (j : Nat) (hj : j < 16) : W.cell? ⟨b, j, none⟩ = some (.int .i64 (c j)) := (h.at j).trans (tbl_at c pv j hj)
theorem Cells.vals {W : World} {b : Nat} {t : TypeId} {c : Nat → Int} {pv : Value} (h : Cells W b t (tbl c pv)) : W.cell? ⟨b, 16, none⟩ = some pv := (h.at 16).trans (tbl_last c pv)

theorem okWide_struct' {P : Program} {w : World} {r : Reach} {base : Nat} {t : TypeId} {fs : Array Field} {v : Value} (ht : P.underlying t = some (.struct fs)) (h : Value.okWide P w r base t v) : ∃ cs, v = .agg cs ∧ cs.size = P.cellsOf t := by
  simp only [Value.okWide, ht] at h
  obtain ⟨cs, h1, h2, _⟩ := h
  exact ⟨cs, h1, h2⟩

/-- A list of bytes, by its cell. -/
theorem open_bytes_cell {H : Type} {enc : TypeId × Value → H} {W : World} {fuel : Nat} {v : Value} {x : DataW H × List MemPlace} (hf : DataW.trod enc Try.prog W 0 (fun _ => true) true fuel 23 [v] = some x) :
    ∃ l, View W .u8 v l ∧ ∀ x ∈ l, 0 ≤ x ∧ x ≤ 255 := by
  rcases open_slice1 Try.underlying23 Try.cells1U8 hf with ⟨hc, hx⟩ | ⟨a, len, cap, m, n, V0, D0, P0, hc, _, hl, hm, hmm, hx, hall⟩
  · simp only [List.cons.injEq, and_true] at hc
    subst hc
    exact ⟨[], View.nil _ _, by simp⟩
  · simp only [List.cons.injEq, and_true] at hc
    subst hc
    simp only [if_true] at hmm
    subst hmm
    have h0 : ∀ i, i < m → ∃ k, V0 i = .int .u8 k ∧ (Lit.int .u8 k).wf = true := fun i hi => by
      obtain ⟨k, h1, _, h3⟩ := DataW.trod_int Try.underlying5 (hall i hi).2
      simp only [List.cons.injEq, and_true] at h1
      exact ⟨k, h1, h3⟩
    refine ⟨(List.range len).map fun i => intOf (V0 i), ⟨some a, m, by simp, fun hne => ?_⟩, ?_⟩
    · have hpos : 0 < len := by
        rcases Nat.eq_zero_or_pos len with e | e
        · subst e; simp at hne
        · exact e
      obtain ⟨b, off, spot⟩ := a
      have hspot : spot = none := by simpa [Addr.add] using World.cell?_spot (hall 0 (by omega)).1
      subst hspot
      refine ⟨b, off, rfl, World.block_lt_of_cell? W _ (hall 0 (by omega)).1, fun i hi => ?_⟩
      have hi' : i < len := by simpa using hi
      obtain ⟨k0, e0, -⟩ := h0 i (by omega)
      have c0 := (hall i (by omega)).1
      rw [Addr.add_lit] at c0
      simp only [List.getElem_map, List.getElem_range]
      rw [e0] at c0 ⊢
      exact c0
    · intro x hx
      simp only [List.mem_map, List.mem_range] at hx
      obtain ⟨i, hi, rfl⟩ := hx
      obtain ⟨k0, e0, e1⟩ := h0 i (by omega)
      rw [e0]
      exact u8_in e1

set_option maxHeartbeats 1600000 in
theorem open_table {H : Type} {enc : TypeId × Value → H} {W : World} {base : Nat} {v : Value} {d : DataW H} {p : List MemPlace} (hval : Value.okWide Try.prog W .any base 30 v)
    (h : DataW.Trod enc Try.prog W 0 (fun _ => true) true 30 v d p) : ∃ c pv l, v = .agg (tbl c pv).toArray ∧ (∀ j, j < 16 → I64 (c j)) ∧ View W .u8 pv l ∧ ∀ x ∈ l, 0 ≤ x ∧ x ≤ 255 := by
  obtain ⟨cs, rfl, hz⟩ := okWide_struct' Try.underlying30 hval
  rw [show Try.prog.cellsOf 30 = 17 by kernel_rfl] at hz
  have c16 : Try.prog.cellsOf 28 = 16 := by kernel_rfl
  have c1 : Try.prog.cellsOf 3 = 1 := by kernel_rfl
  have cb : Try.prog.cellsOf 23 = 1 := by kernel_rfl
  obtain ⟨fuel, hf⟩ := h
  obtain ⟨xs, k, hk, hxy, _, hxl, hf⟩ := DataW.trod_struct Try.underlying30 hf
  obtain ⟨l⟩ := cs
  have hz' : l.length = 17 := by simpa using hz
  match xs, hxl with
  | [y0, y1], _ =>
    have g0 := hf 0 _ rfl
    have g1 := hf 1 _ rfl
    simp [c16, cb, Value.cells] at g0 g1
    have hd : List.take 1 (List.drop 16 l) = [l[16]'(by omega)] := by
      rw [List.drop_eq_getElem_cons (by omega)]; rfl
    rw [hd] at g1
    obtain ⟨bl, hv, hl⟩ := open_bytes_cell g1
    obtain ⟨ys, m, _, ey, _, hyl, hel⟩ := DataW.trod_array Try.underlying28 g0
    have key : ∀ j, j < 16 → ∃ z, l[j]? = some (.int .i64 z) ∧ I64 z := by
      intro j hj
      have hE := hel j hj
      rw [c1, Nat.mul_one, List.getElem?_eq_getElem (by omega)] at hE
      obtain ⟨z, e1, _, e3⟩ := DataW.trod_int Try.underlying3 hE
      refine ⟨z, ?_, i64_in e3⟩
      have h0 := congrArg (fun l => l[0]?) e1
      simp [hj] at h0
      simpa using h0
    refine ⟨fun j => intOf ((l[j]?).getD (.int .i64 0)), l[16]'(by omega), bl, ?_, ?_, hv, hl⟩
    · congr 1
      congr 1
      apply List.ext_getElem?
      intro j
      by_cases hj : j < 16
      · obtain ⟨z, h1, _⟩ := key j hj
        rw [tbl_at _ _ _ hj, h1]
        rfl
      · by_cases hj2 : j = 16
        · subst hj2
          rw [tbl_last, List.getElem?_eq_getElem (by omega)]
        · rw [List.getElem?_eq_none (by omega), List.getElem?_eq_none (by rw [tbl_length]; omega)]
    · intro j hj
      obtain ⟨z, h1, h2⟩ := key j hj
      show I64 (intOf ((l[j]?).getD (.int .i64 0)))
      rw [h1]
      exact h2

end Go.Proofs.Ytlpeplihbdcklaa
