/- The document's answers for layer 3, what is told of a secret, and the chapter's example. -/
import Derived.Test.YtlglhenbkjffbaaSecNum
import Derived.Deep.QuietTactic
import Derived.BigQuiet
namespace Go.Proofs.Ytlglhenbkjffbaa
open Go.ChangeShapes Go.WideShapes Go.ChangeAt Go.RowKit

set_option maxHeartbeats 400000 in
theorem told_any (a : Int) (w : World) : Calls Try.prog 11 #[S64 a] w fun e w' => e = .returned (.int .i64 a) ∧ But Nowhere w w' := by
  go_enter Try.func11, Try.ntmps11
  go_wp2_with (go_at_call 36; refine (tell_none _ _).mono ?_; rintro e w' ⟨rfl, hb⟩)
  go_ret
  exact ⟨rfl, ((But.refl _ _).alloc _).step hb (fun _ _ f => f)⟩

set_option maxHeartbeats 3200000 in
set_option maxRecDepth 100000 in
theorem known_any (w : World) : Calls Try.prog 18 #[] w fun e w' => e = .returned (.bool true) ∧ But Nowhere w w' := by
  have hL : lessM 3 5 = -1 := by decide
  have hS : selF (-1) 1 2 = 1 := by decide
  go_enter Try.func18, Try.ntmps18
  go_wp2_with fail
  refine (of_any _ _).mono ?_
  rintro e w1 ⟨rfl, h1⟩
  go_wp2_with fail
  refine (of_any _ _).mono ?_
  rintro e w2 ⟨rfl, h2⟩
  go_wp2_with fail
  refine (less_any _ _ _ (by omega) (by omega)).mono ?_
  rintro e w3 ⟨rfl, h3⟩
  have h0 := (h1.trans h2).trans h3
  clear h1 h2 h3
  go_wp2_with fail
  have g0 : But Nowhere w (w3.alloc (.cells #[.int .i64 (-1)] 23)) := h0.alloc _
  have kM : (w3.alloc (.cells #[.int .i64 (-1)] 23)).cell? ⟨w3.heap.size, 0, none⟩ = some (.int .i64 (-1)) := by go_simp
  clear h0
  revert g0 kM
  generalize w3.heap.size = t
  generalize w3.alloc (.cells #[.int .i64 (-1)] 23) = W
  intro g0 kM
  go_region_held3 (fun w' => But Nowhere W w' ∧ w'.cell? ⟨t, 0, none⟩ = some (.int .i64 (-1)))
    ((go_split_ands; refine and_of (fun hq => hq.keeps (not_nowhere _) kM) ?_; first | exact (But.refl _ _).drew | (refine But.step ?_ hb (fun _ _ f => f); assumption)))
    (first | (go_at_call 10; refine (of_any _ _).mono ?_; rintro e w' ⟨rfl, hb⟩) | (go_at_call 25; refine (select_any _ _ _ _).mono ?_; rintro e w' ⟨rfl, hb⟩) | (go_at_call 36; refine (tell_none _ _).mono ?_; rintro e w' ⟨rfl, hb⟩))
  all_goals
    rename_i hh
    obtain ⟨q0, -⟩ := hh
    go_wp2_with fail
    go_ret
    exact ⟨rfl, g0.trans q0⟩

end Go.Proofs.Ytlglhenbkjffbaa
