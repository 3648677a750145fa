/- The chapter's examples hold: known returns true. -/
import Derived.Test.YtbabbbplpoeacaaNum
namespace Go.Proofs.Ytbabbbplpoeacaa
open Go.ChangeShapes Go.WideShapes Go.ChangeAt Go.RowKit
theorem known_any (w : World) : Calls Try.prog 11 #[] w fun e w' => e = .returned (.bool true) ∧ w' = w := by
  have k1 : sz (-5) = 3 := by decide
  have k2 : lowF (-5) = 2 := by decide
  have k3 : backF 2 3 = -5 := by decide
  have k4 : roundF 5 2 = 3 := by decide
  have k5 : roundF (-5) 2 = -3 := by decide
  have k6 : clipF 9 1 5 = 5 := by decide
  have k7 : ceilF 9 8 = 2 := by decide
  go_enter Try.func11, Try.ntmps11
  go_wp2_with (first | (go_at_call 18; refine (size_any _ _ (by omega) (by omega)).mono ?_; rintro e w' ⟨rfl, rfl⟩) | (go_at_call 20; refine (low_any _ _ (by omega) (by omega)).mono ?_; rintro e w' ⟨rfl, rfl⟩) | (go_at_call 22; refine (back_any _ _ _).mono ?_; rintro e w' ⟨rfl, rfl⟩) | (go_at_call 16; refine (round_any _ _ _ (by omega) (by omega)).mono ?_; rintro e w' ⟨rfl, rfl⟩) | (go_at_call 12; refine (clip_any _ _ _ _).mono ?_; rintro e w' ⟨rfl, rfl⟩) | (go_at_call 14; refine (ceil_any _ _ _).mono ?_; rintro e w' ⟨rfl, rfl⟩))
  go_ret
  exact ⟨rfl, rfl⟩
end Go.Proofs.Ytbabbbplpoeacaa
