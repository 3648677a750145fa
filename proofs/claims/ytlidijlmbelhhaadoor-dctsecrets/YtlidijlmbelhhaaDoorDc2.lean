/- The document's Factor. -/
import Derived.Test.YtlidijlmbelhhaaDoorDc1
namespace Go.Proofs.YtlidijlmbelhhaaDoor
open Go.ChangeShapes Go.WideShapes Go.ChangeAt Go.RowKit

/-- A row of the table, as cells. -/
def facRow (u : Nat) : List Value := (List.range 8).map fun x => .int .i64 (fac u x)

theorem facRow_at (u x : Nat) (hx : x < 8) : (facRow u)[x]? = some (.int .i64 (fac u x)) := by simp [facRow, hx]

set_option maxHeartbeats 3200000 in
set_option maxRecDepth 100000 in
theorem refFactor_in (u x : Int) (w : World) (hu : 0 ≤ u ∧ u < 8) (hx : 0 ≤ x ∧ x < 8) : Calls Tryd.prog 21 #[.int .i64 u, .int .i64 x] w fun e w' => e = .returned (.int .i64 (fac u.toNat x.toNat)) ∧ But Nowhere w w' := by
  obtain ⟨u0, u1⟩ := hu
  obtain ⟨x0, x1⟩ := hx
  have u2 : ¬ 7 < u := by omega
  have x2 : ¬ 7 < x := by omega
  go_enter Tryd.func21, Tryd.ntmps21
  go_wp2_with fail
  have hc : u = 0 ∨ u = 1 ∨ u = 2 ∨ u = 3 ∨ u = 4 ∨ u = 5 ∨ u = 6 ∨ u = 7 := by omega
  rcases hc with rfl | rfl | rfl | rfl | rfl | rfl | rfl | rfl
  all_goals
    simp only [Int.reduceToNat, List.getElem_cons_zero, List.getElem_cons_succ]
    go_simp
    go_wp2_with fail
    go_ret
    refine ⟨?_, ?_⟩
    · have hx : x = 0 ∨ x = 1 ∨ x = 2 ∨ x = 3 ∨ x = 4 ∨ x = 5 ∨ x = 6 ∨ x = 7 := by omega
      rcases hx with rfl | rfl | rfl | rfl | rfl | rfl | rfl | rfl <;> rfl
    · repeat (refine But.alloc ?_ _)
      exact But.refl _ _

set_option maxHeartbeats 800000 in
theorem refFactor_out (u x : Int) (w : World) (h : ¬ ((0 ≤ u ∧ u < 8) ∧ (0 ≤ x ∧ x < 8))) : Calls Tryd.prog 21 #[.int .i64 u, .int .i64 x] w fun e w' => e = .returned (.int .i64 0) ∧ But Nowhere w w' := by
  by_cases h1 : u < 0
  · go_enter Tryd.func21, Tryd.ntmps21
    go_wp2_with fail
    go_ret
    exact ⟨rfl, But.refl _ _⟩
  · by_cases h2 : 7 < u
    · go_enter Tryd.func21, Tryd.ntmps21
      go_wp2_with fail
      go_ret
      exact ⟨rfl, But.refl _ _⟩
    · by_cases h3 : x < 0
      · go_enter Tryd.func21, Tryd.ntmps21
        go_wp2_with fail
        go_ret
        exact ⟨rfl, But.refl _ _⟩
      · have h4 : 7 < x := by omega
        go_enter Tryd.func21, Tryd.ntmps21
        go_wp2_with fail
        go_ret
        exact ⟨rfl, But.refl _ _⟩

theorem refFactor_any (u x : Int) (w : World) : Calls Tryd.prog 21 #[.int .i64 u, .int .i64 x] w fun e w' => e = .returned (.int .i64 (facI u x)) ∧ But Nowhere w w' := by
  unfold facI
  by_cases h : (0 ≤ u ∧ u < 8) ∧ (0 ≤ x ∧ x < 8)
  · rw [if_pos (by omega)]
    exact refFactor_in u x w h.1 h.2
  · rw [if_neg (by omega)]
    exact refFactor_out u x w h

end Go.Proofs.YtlidijlmbelhhaaDoor
