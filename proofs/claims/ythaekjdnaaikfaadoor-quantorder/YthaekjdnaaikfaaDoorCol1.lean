/- What the small calls of package color answer: numbers, their reckoner, and the reckoner of secrets. -/
import Derived.Test.YthaekjdnaaikfaaDoorSecNum
namespace Go.Proofs.YthaekjdnaaikfaaDoor
open Go.ChangeShapes Go.WideShapes Go.ChangeAt Go.RowKit

set_option maxHeartbeats 400000 in
theorem numClip_any (a lo hi : Int) (w : World) : Calls Tryd.prog 38 #[.int .i64 a, .int .i64 lo, .int .i64 hi] w fun e w' => e = .returned (.int .i64 (clipF a lo hi)) ∧ w' = w := by
  go_enter Tryd.func38, Tryd.ntmps38
  go_wp2
  all_goals
    go_ret
    exact ⟨ret_num (by unfold clipF; split <;> (try split) <;> omega), rfl⟩

set_option maxHeartbeats 400000 in
theorem refClip_any (a lo hi : Int) (w : World) : Calls Tryd.prog 26 #[.int .i64 a, .int .i64 lo, .int .i64 hi] w fun e w' => e = .returned (.int .i64 (clipF a lo hi)) ∧ w' = w := by
  go_enter Tryd.func26, Tryd.ntmps26
  go_wp2
  all_goals
    go_ret
    exact ⟨ret_num (by unfold clipF; split <;> (try split) <;> omega), rfl⟩

end Go.Proofs.YthaekjdnaaikfaaDoor
