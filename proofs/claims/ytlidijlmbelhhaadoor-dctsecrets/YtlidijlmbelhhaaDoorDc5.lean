/- An array of numbers by value: a place of it; two of them that are the same. -/
import Derived.Test.YtlidijlmbelhhaaDoorPlMid
import Derived.Test.YtlidijlmbelhhaaDoorPlRef1
namespace Go.Proofs.YtlidijlmbelhhaaDoor
open Go.ChangeShapes Go.WideShapes Go.ChangeAt Go.RowKit

theorem index_tab (f : Nat → Int) (k : Nat) (hk : k < 64) (w : World) : (Instr.index 22 (.agg (tab .i64 64 f).toArray) (.int .i64 (k : Int))).run Tryd.prog w = .ok (.int .i64 (f k)) w := by
  have h := Tryd.underlying22
  have h0 : 0 ≤ (k : Int) ∧ (k : Int) < ((64 : Nat) : Int) := by omega
  have ha := tab_at .i64 64 f k hk
  simp [Instr.index, run_underlying h, asIntOf, h0, part, go_sem, ha, hk]

theorem nums_tab (n : Nat) (f : Nat → Int) : tab .i64 n f = nums ((List.range n).map f) := by
  unfold tab nums
  rw [List.map_map]
  rfl

theorem equal_block (f g : Nat → Int) (h : ∀ j, j < 64 → f j = g j) (w : World) : (Op.equalIn 10000 23 (.agg (tab .i64 64 f).toArray) (.agg (tab .i64 64 g).toArray)).run Tryd.prog w = .ok true w := by
  rw [tab_congr .i64 64 f g h]
  have h := run_equalIn_nums w 9998 23 3 64 Tryd.underlying23 Tryd.underlying3 sizeOf_int ((List.range 64).map g) ((List.range 64).map g) (by simp) (by simp)
  rw [beq_self_eq_true, ← nums_tab] at h
  exact h

end Go.Proofs.YtlidijlmbelhhaaDoor
