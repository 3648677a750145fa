/- A list literal of one element, of any size. No program. -/
import Derived.Test.YtlpeplihbdcklaaLst
import Derived.Great.BuildSlice
namespace Go.Proofs.Ytlpeplihbdcklaa
open Go.ChangeShapes Go.WideShapes Go.ChangeAt Go.RowKit

theorem fill_one {s : Nat} (hs : 0 < s) (v : Value) (news : List Value) (hv : v.cells = news.toArray) (hl : news.length = s) (cells : Array Value) (hc : cells.size = s) :
    Instr.fill (fun i => some (i * s, s)) cells [(0, v)] = some news.toArray := by
  obtain ⟨r, hr, hsz, hk⟩ := Great.fill_dense hs [v] 0 cells (by simp [hv, hl]) (by simp [hc])
  have e : ([v].zipIdx 0).map (fun x => (x.2, x.1)) = [(0, v)] := rfl
  rw [e] at hr
  rw [hr]
  congr 1
  apply Array.ext_getElem?
  intro k
  rw [hk k]
  simp only [List.length_singleton, Nat.zero_mul, Nat.zero_add, Nat.one_mul]
  by_cases h : k < s
  · rw [if_pos ⟨Nat.zero_le _, h⟩, Nat.div_eq_of_lt h, Nat.mod_eq_of_lt h]
    simp [hv]
  · rw [if_neg (by omega), Array.getElem?_eq_none (by omega), List.getElem?_toArray, List.getElem?_eq_none (by omega)]

/-- The literal of one element, in a region that draws. -/
theorem wp_build_one {P : Program} {st t : TypeId} {z : Value} {size bytes : Nat} (E : ElemInfo P st t z size bytes) {w : World} {o : Oper} {a : Act} {K : Act → World → Prop} {Q : Exit → Act → World → Prop} (x : Operand)
    (ho : o.op = .buildSlice st 1 #[(0, x)]) (v : Value) (hx : a.eval x = v) (news : List Value) (hv : v.cells = news.toArray) (hl : news.length = size) (hsm : size ≤ 100000) (B : Nat) (hB : w.heap.size = B)
    (h : K (a.put o.dst (.slice (some ⟨B, 0, none⟩) 1 1)) (w.alloc (.cells news.toArray t))) : o.wp P a w K Q := by
  subst hB
  obtain ⟨i0, hi0, hz0, hz1, hz2⟩ := info_parts E.info
  have hp := E.pos
  refine wp_buildSlice st t 1 #[(0, x)] ho news.toArray i0 z E.under hi0 hz0 (by rw [hz1]; omega) (by rw [hz1]; omega) ?_ h
  rw [hz1]
  simp only [List.map_toArray, List.map_cons, List.map_nil, hx]
  exact fill_one hp v news hv hl _ (by simp)

end Go.Proofs.Ytlpeplihbdcklaa
