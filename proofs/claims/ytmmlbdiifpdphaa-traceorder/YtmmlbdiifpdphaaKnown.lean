/- The chapter's example holds: known returns true. -/
import Derived.Test.YtmmlbdiifpdphaaRead
namespace Go.Proofs.Ytmmlbdiifpdphaa
open Go.ChangeShapes Go.WideShapes Go.ChangeAt Go.RowKit

set_option maxHeartbeats 800000 in
theorem known_any (w : World) : Calls Try.prog 8 #[] w fun e w' => e = .returned (.bool true) ∧ But Nowhere w w' := by
  go_enter Try.func8, Try.ntmps8
  go_wp2_with fail
  refine (new_any _).mono ?_
  rintro e w1 ⟨rfl, h1⟩
  go_wp2_with fail
  refine (idx_some _ _ _ _ _ h1.rcd (by simp)).mono ?_
  rintro e w2 ⟨rfl, hl⟩
  obtain ⟨v2, h2, -, -⟩ := h1.laid hl
  clear hl h1
  go_wp2_with fail
  refine (br_some _ _ _ _ _ h2.rcd (by simp)).mono ?_
  rintro e w3 ⟨rfl, hl⟩
  obtain ⟨v3, h3, -, -⟩ := h2.laid hl
  clear hl h2
  go_wp2_with fail
  refine (events_some _ _ _ _ h3.rcd (by simp)).mono ?_
  rintro e w4 ⟨l, rfl, he, hn, hb⟩
  have h4 := h3.step hb
  clear hb h3
  rcases he.form with ⟨_, h0⟩ | ⟨g, cap, rfl, hg, hle, hcap, hcell⟩
  · simp at h0
  · obtain ⟨c0, c1⟩ := hcell 0 (by simp)
    obtain ⟨c2, c3⟩ := hcell 1 (by simp)
    simp at c0 c1 c2 c3
    have q0 := equalIn_yes (1, 3) (1, 3) rfl
    have q1 := equalIn_yes (2, 1) (2, 1) rfl
    have hgd := Try.guardEv
    go_wp2_with (go_at_call 12; refine (count_some _ _ _ _ _ h4.rcd (by simp)).mono ?_; rintro e w5 ⟨rfl, hb⟩)
    go_ret
    exact ⟨ret_bool (by decide), h4.but.step hb (fun _ _ f => f)⟩
end Go.Proofs.Ytmmlbdiifpdphaa
