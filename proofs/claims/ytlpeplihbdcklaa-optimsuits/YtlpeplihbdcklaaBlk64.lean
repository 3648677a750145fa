/- Blocks of 64 numbers: values, new blocks, places, two that are the same. No program but its types. -/
import Derived.Test.YtlpeplihbdcklaaPlMid
import Derived.Test.YtlpeplihbdcklaaPlRef1
import Derived.Test.YtlpeplihbdcklaaView
import Derived.Test.YtlpeplihbdcklaaKeep
import Derived.Deep.CutRange
namespace Go.Proofs.Ytlpeplihbdcklaa
set_option linter.unusedVariables false
open Go.ChangeShapes Go.WideShapes Go.ChangeAt Go.RowKit

theorem Cells.of_eq {W : World} {b : Nat} {t : TypeId} {l l' : List Value} (h : Cells W b t l) (e : l = l') : Cells W b t l' := e ▸ h

theorem sixtyfour : (Value.int .i64 0 :: Value.int .i64 0 :: Value.int .i64 0 :: Value.int .i64 0 :: Value.int .i64 0 :: Value.int .i64 0 :: Value.int .i64 0 :: Value.int .i64 0 :: Value.int .i64 0 :: Value.int .i64 0 :: Value.int .i64 0 :: Value.int .i64 0 :: Value.int .i64 0 :: Value.int .i64 0 :: Value.int .i64 0 :: Value.int .i64 0 :: Value.int .i64 0 :: Value.int .i64 0 :: Value.int .i64 0 :: Value.int .i64 0 :: Value.int .i64 0 :: Value.int .i64 0 :: Value.int .i64 0 :: Value.int .i64 0 :: Value.int .i64 0 :: Value.int .i64 0 :: Value.int .i64 0 :: Value.int .i64 0 :: Value.int .i64 0 :: Value.int .i64 0 :: Value.int .i64 0 :: Value.int .i64 0 :: Value.int .i64 0 :: Value.int .i64 0 :: Value.int .i64 0 :: Value.int .i64 0 :: Value.int .i64 0 :: Value.int .i64 0 :: Value.int .i64 0 :: Value.int .i64 0 :: Value.int .i64 0 :: Value.int .i64 0 :: Value.int .i64 0 :: Value.int .i64 0 :: Value.int .i64 0 :: Value.int .i64 0 :: Value.int .i64 0 :: Value.int .i64 0 :: Value.int .i64 0 :: Value.int .i64 0 :: Value.int .i64 0 :: Value.int .i64 0 :: Value.int .i64 0 :: Value.int .i64 0 :: Value.int .i64 0 :: Value.int .i64 0 :: Value.int .i64 0 :: Value.int .i64 0 :: Value.int .i64 0 :: Value.int .i64 0 :: Value.int .i64 0 :: Value.int .i64 0 :: Value.int .i64 0 :: Value.int .i64 0 :: []) = tab .i64 64 (fun _ => 0) := rfl

theorem nums_tab (n : Nat) (f : Nat → Int) : tab .i64 n f = nums ((List.range n).map f) := by
  unfold tab nums
  rw [List.map_map]
  rfl

theorem Cells.all {W : World} {b : Nat} {t : TypeId} {l : List Value} (h : Cells W b t l) : W.rangeAt b 0 l := fun j v hv => by rw [Nat.zero_add, h.at]; exact hv

theorem Keep.layAll {w W : World} {l : List Bk} {b : Nat} {t : TypeId} {k : IntKind} {m : Nat} {f : Nat → Int} (h : Keep w W ((b, t, tab k m f) :: l)) (g : Nat → Int) : Keep w (W.setCells b 0 (tab k m g)) ((b, t, tab k m g) :: l) := by
  have hp := List.pairwise_cons.1 h.apart
  have hS : But (fun x => x = b) W (W.setCells b 0 (tab k m g)) := But.setCells (S := fun x => x = b) _ (But.refl _ _) (fun _ => rfl) 0
  refine ⟨But.setCells _ h.but (fun q => by have := h.new (b, t, tab k m f) (by simp); simp at this q; omega) 0, fun x hx => ?_, fun x hx => ?_, List.pairwise_cons.2 ⟨hp.1, hp.2⟩⟩
  · rcases List.mem_cons.1 hx with rfl | hx
    · exact h.new (b, t, tab k m f) (by simp)
    · exact h.new x (by simp [hx])
  · rcases List.mem_cons.1 hx with rfl | hx
    · exact h.head.layAll g
    · exact (h.holds x (by simp [hx])).but hS (Ne.symm (hp.1 x hx))

theorem Keep.zero {w W : World} {l : List Bk} (h : Keep w W l) (t : TypeId) : Keep w (W.alloc (.cells ((Value.int .i64 0 :: Value.int .i64 0 :: Value.int .i64 0 :: Value.int .i64 0 :: Value.int .i64 0 :: Value.int .i64 0 :: Value.int .i64 0 :: Value.int .i64 0 :: Value.int .i64 0 :: Value.int .i64 0 :: Value.int .i64 0 :: Value.int .i64 0 :: Value.int .i64 0 :: Value.int .i64 0 :: Value.int .i64 0 :: Value.int .i64 0 :: Value.int .i64 0 :: Value.int .i64 0 :: Value.int .i64 0 :: Value.int .i64 0 :: Value.int .i64 0 :: Value.int .i64 0 :: Value.int .i64 0 :: Value.int .i64 0 :: Value.int .i64 0 :: Value.int .i64 0 :: Value.int .i64 0 :: Value.int .i64 0 :: Value.int .i64 0 :: Value.int .i64 0 :: Value.int .i64 0 :: Value.int .i64 0 :: Value.int .i64 0 :: Value.int .i64 0 :: Value.int .i64 0 :: Value.int .i64 0 :: Value.int .i64 0 :: Value.int .i64 0 :: Value.int .i64 0 :: Value.int .i64 0 :: Value.int .i64 0 :: Value.int .i64 0 :: Value.int .i64 0 :: Value.int .i64 0 :: Value.int .i64 0 :: Value.int .i64 0 :: Value.int .i64 0 :: Value.int .i64 0 :: Value.int .i64 0 :: Value.int .i64 0 :: Value.int .i64 0 :: Value.int .i64 0 :: Value.int .i64 0 :: Value.int .i64 0 :: Value.int .i64 0 :: Value.int .i64 0 :: Value.int .i64 0 :: Value.int .i64 0 :: Value.int .i64 0 :: Value.int .i64 0 :: Value.int .i64 0 :: Value.int .i64 0 :: Value.int .i64 0 :: Value.int .i64 0 :: [])).toArray t)) ((W.heap.size, t, tab .i64 64 (fun _ => 0)) :: l) := sixtyfour ▸ h.made t (Value.int .i64 0 :: Value.int .i64 0 :: Value.int .i64 0 :: Value.int .i64 0 :: Value.int .i64 0 :: Value.int .i64 0 :: Value.int .i64 0 :: Value.int .i64 0 :: Value.int .i64 0 :: Value.int .i64 0 :: Value.int .i64 0 :: Value.int .i64 0 :: Value.int .i64 0 :: Value.int .i64 0 :: Value.int .i64 0 :: Value.int .i64 0 :: Value.int .i64 0 :: Value.int .i64 0 :: Value.int .i64 0 :: Value.int .i64 0 :: Value.int .i64 0 :: Value.int .i64 0 :: Value.int .i64 0 :: Value.int .i64 0 :: Value.int .i64 0 :: Value.int .i64 0 :: Value.int .i64 0 :: Value.int .i64 0 :: Value.int .i64 0 :: Value.int .i64 0 :: Value.int .i64 0 :: Value.int .i64 0 :: Value.int .i64 0 :: Value.int .i64 0 :: Value.int .i64 0 :: Value.int .i64 0 :: Value.int .i64 0 :: Value.int .i64 0 :: Value.int .i64 0 :: Value.int .i64 0 :: Value.int .i64 0 :: Value.int .i64 0 :: Value.int .i64 0 :: Value.int .i64 0 :: Value.int .i64 0 :: Value.int .i64 0 :: Value.int .i64 0 :: Value.int .i64 0 :: Value.int .i64 0 :: Value.int .i64 0 :: Value.int .i64 0 :: Value.int .i64 0 :: Value.int .i64 0 :: Value.int .i64 0 :: Value.int .i64 0 :: Value.int .i64 0 :: Value.int .i64 0 :: Value.int .i64 0 :: Value.int .i64 0 :: Value.int .i64 0 :: Value.int .i64 0 :: Value.int .i64 0 :: Value.int .i64 0 :: Value.int .i64 0 :: [])

/-- A load of many cells behind a guard that says yes. -/
theorem wpList_load_midG {P : Program} {ops : Array Oper} {rest : List Oper} {op : Oper} {a : Act} {w : World} {Q : Exit → Act → World → Prop} (hw : Region.wanted op (yielded ops a.tmps) = true) (ty : TypeId) (x : Operand) (ho : op.op = .load ty x)
    (b o : Nat) (hx : a.eval x = .pointer (some ⟨b, o, none⟩)) (cs : List Value) (d : TypeDesc) (hc : w.rangeAt b o cs)
    (hu : P.underlying ty = some d) (hd : d.isRow = true) (hi : (P.info? ty).map (·.size) = some cs.length)
    (h : wpList P ops Q rest (a.put op.dst (.agg cs.toArray)) w) : wpList P ops Q (op :: rest) a w :=
  BigFrame.wpList_want hw fun _ hK => wp_load_mid ty x ho b o hx cs d hc hu hd hi (hK _ _ h)

theorem Keep.setTab {w W : World} {l : List Bk} {b : Nat} {t : TypeId} {k : IntKind} {m : Nat} {f : Nat → Int} (h : Keep w W ((b, t, tab k m f) :: l)) (j : Nat) (x : Int) : Keep w (W.setCell ⟨b, j, none⟩ (.int k x)) ((b, t, tab k m (upd f j x)) :: l) := by
  have := h.set j (.int k x)
  rw [tab_set] at this
  exact this

theorem u8_off (z : Int) : -128 ≤ IntKind.i64.wrap (IntKind.i64.wrap (IntKind.u8.wrap z) - 128) ∧ IntKind.i64.wrap (IntKind.i64.wrap (IntKind.u8.wrap z) - 128) ≤ 127 := by
  rw [IntKind.wrap_u8, wrap_i64_eq, wrap_i64_eq, w64 (z % 256) (by omega), w64 _ (by omega)]
  omega


theorem View.at {w : World} {k : IntKind} {ao : Option Addr} {n cap : Nat} {l : List Int} (h : View w k (.slice ao n cap) l) (i : Nat) (hi : i < l.length) :
    n = l.length ∧ ∃ b off, ao = some ⟨b, off, none⟩ ∧ b < w.heap.size ∧ w.cell? ⟨b, off + i, none⟩ = some (.int k l[i]) := by
  obtain ⟨ao', cap', e, h⟩ := h
  cases e
  obtain ⟨b, off, e1, hb, hc⟩ := h (by intro e; simp [e] at hi)
  exact ⟨rfl, b, off, e1, hb, hc i hi⟩

theorem View.slice {w : World} {k : IntKind} {v : Value} {l : List Int} (h : View w k v l) : ∃ ao cap, v = .slice ao l.length cap := by
  obtain ⟨ao, cap, e, _⟩ := h
  exact ⟨ao, cap, e⟩

theorem tab_part (f : Nat → Int) (k : Nat) (hk : k < 64) : List.take 1 (List.drop k (tab .i64 64 f)) = [.int .i64 (f k)] := by
  have hl : k < (tab .i64 64 f).length := by rw [tab_length]; exact hk
  have h := tab_at .i64 64 f k hk
  rw [List.getElem?_eq_getElem hl] at h
  rw [List.drop_eq_getElem_cons hl, List.take_succ_cons, List.take_zero, Option.some.inj h]

end Go.Proofs.Ytlpeplihbdcklaa
