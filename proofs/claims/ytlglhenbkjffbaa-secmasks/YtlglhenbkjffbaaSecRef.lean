/- The document's answers for layer 3 (cyanotyperef03), in plain numbers. -/
import Derived.Test.YtlglhenbkjffbaaSecLaw
namespace Go.Proofs.Ytlglhenbkjffbaa
open Go.ChangeShapes Go.WideShapes Go.ChangeAt Go.RowKit

set_option maxHeartbeats 400000 in
theorem refMask (b : Bool) (w : World) : Calls Try.prog 39 #[.bool b] w fun e w' => e = .returned (.int .i64 (if b = true then -1 else 0)) ∧ w' = w := by
  cases b
  all_goals
    go_enter Try.func39, Try.ntmps39
    go_wp2
    go_ret
    exact ⟨rfl, rfl⟩

set_option maxHeartbeats 400000 in
theorem refLess (a b : Int) (w : World) : Calls Try.prog 22 #[.int .i64 a, .int .i64 b] w fun e w' => e = .returned (.int .i64 (lessM a b)) ∧ w' = w := by
  unfold lessM maskF
  go_enter Try.func22, Try.ntmps22
  go_wp2_with (go_at_call 39; refine (refMask _ _).mono ?_; rintro e w' ⟨rfl, rfl⟩)
  all_goals
    go_ret
    exact ⟨rfl, rfl⟩

set_option maxHeartbeats 400000 in
theorem refEqual (a b : Int) (w : World) : Calls Try.prog 24 #[.int .i64 a, .int .i64 b] w fun e w' => e = .returned (.int .i64 (eqM a b)) ∧ w' = w := by
  unfold eqM maskF
  go_enter Try.func24, Try.ntmps24
  go_wp2_with (go_at_call 39; refine (refMask _ _).mono ?_; rintro e w' ⟨rfl, rfl⟩)
  all_goals
    go_ret
    exact ⟨rfl, rfl⟩

set_option maxHeartbeats 400000 in
theorem refShift (n : Int) (w : World) : Calls Try.prog 41 #[.int .i64 n] w fun e w' => e = .returned (.int .u64 (shN n)) ∧ w' = w := by
  go_enter Try.func41, Try.ntmps41
  go_wp2
  all_goals
    go_ret
    exact ⟨ret_num (by unfold shN; omega), rfl⟩

set_option maxHeartbeats 400000 in
theorem refShl (a n : Int) (w : World) : Calls Try.prog 32 #[.int .i64 a, .int .i64 n] w fun e w' => e = .returned (.int .i64 (wrap64 (a * 2 ^ (shN n).toNat))) ∧ w' = w := by
  obtain ⟨h0, h1⟩ := shN_in n
  have h2 : shN n ≤ 64 := by omega
  go_enter Try.func32, Try.ntmps32
  go_wp2_with (go_at_call 41; refine (refShift _ _).mono ?_; rintro e w' ⟨rfl, rfl⟩)
  go_ret
  exact ⟨rfl, rfl⟩

set_option maxHeartbeats 400000 in
theorem refShr (a n : Int) (w : World) : Calls Try.prog 34 #[.int .i64 a, .int .i64 n] w fun e w' => e = .returned (.int .i64 (a / 2 ^ (shN n).toNat)) ∧ w' = w := by
  obtain ⟨h0, h1⟩ := shN_in n
  have h2 : shN n ≤ 64 := by omega
  go_enter Try.func34, Try.ntmps34
  go_wp2_with (go_at_call 41; refine (refShift _ _).mono ?_; rintro e w' ⟨rfl, rfl⟩)
  go_ret
  exact ⟨rfl, rfl⟩

set_option maxHeartbeats 400000 in
theorem refSelect (m a b : Int) (w : World) (hm : I64 m) : Calls Try.prog 26 #[.int .i64 m, .int .i64 a, .int .i64 b] w fun e w' => e = .returned (.int .i64 (selF m a b)) ∧ w' = w := by
  rw [selF_eq m a b hm]
  have hw : wrap64 (-1 - m) = -1 - m := w64 _ (by omega)
  clear hm
  go_enter Try.func26, Try.ntmps26
  go_wp2
  go_ret
  exact ⟨rfl, rfl⟩

set_option maxHeartbeats 400000 in
theorem refClip (a lo hi : Int) (w : World) : Calls Try.prog 28 #[.int .i64 a, .int .i64 lo, .int .i64 hi] w fun e w' => e = .returned (.int .i64 (clipF a lo hi)) ∧ w' = w := by
  go_enter Try.func28, Try.ntmps28
  go_wp2
  all_goals
    go_ret
    exact ⟨ret_num (by unfold clipF; split <;> (try split) <;> omega), rfl⟩

set_option maxHeartbeats 400000 in
theorem refAbs (a : Int) (w : World) : Calls Try.prog 30 #[.int .i64 a] w fun e w' => e = .returned (.int .i64 (absF a)) ∧ w' = w := by
  unfold absF
  by_cases h : a < 0
  · rw [if_pos h]
    go_enter Try.func30, Try.ntmps30
    go_wp2
    go_ret
    exact ⟨rfl, rfl⟩
  · rw [if_neg h]
    go_enter Try.func30, Try.ntmps30
    go_wp2
    go_ret
    exact ⟨rfl, rfl⟩

end Go.Proofs.Ytlglhenbkjffbaa
