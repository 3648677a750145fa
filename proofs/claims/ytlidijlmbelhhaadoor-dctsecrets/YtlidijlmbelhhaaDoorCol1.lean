/- What the small calls of package color answer: numbers, their reckoner, and the reckoner of secrets. -/
import Derived.Test.YtlidijlmbelhhaaDoorSecNum
namespace Go.Proofs.YtlidijlmbelhhaaDoor
open Go.ChangeShapes Go.WideShapes Go.ChangeAt Go.RowKit

set_option maxHeartbeats 400000 in
theorem numClip_any (a lo hi : Int) (w : World) : Calls Tryd.prog 38 #[.int .i64 a, .int .i64 lo, .int .i64 hi] w fun e w' => e = .returned (.int .i64 (clipF a lo hi)) ∧ w' = w := by
  go_enter Tryd.func38, Tryd.ntmps38
  go_wp2
  all_goals
    go_ret
    exact ⟨ret_num (by unfold clipF; split <;> (try split) <;> omega), rfl⟩

set_option maxHeartbeats 400000 in
theorem refClip_any (a lo hi : Int) (w : World) : Calls Tryd.prog 22 #[.int .i64 a, .int .i64 lo, .int .i64 hi] w fun e w' => e = .returned (.int .i64 (clipF a lo hi)) ∧ w' = w := by
  go_enter Tryd.func22, Tryd.ntmps22
  go_wp2
  all_goals
    go_ret
    exact ⟨ret_num (by unfold clipF; split <;> (try split) <;> omega), rfl⟩

end Go.Proofs.YtlidijlmbelhhaaDoor
