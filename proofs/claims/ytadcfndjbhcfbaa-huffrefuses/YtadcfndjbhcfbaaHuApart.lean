/- A list of bytes lies in no table. -/
import Derived.Test.YtadcfndjbhcfbaaHuArg
namespace Go.Proofs.Ytadcfndjbhcfbaa
set_option linter.unusedVariables false
open Go.ChangeShapes Go.WideShapes Go.ChangeAt Go.RowKit

theorem view_apart {W : World} {pv p : Value} {l : List Int} {b : Nat} {t : TypeId} {c : Nat → Int} (hv : View W .u8 pv l) (hc : Cells W b t (tbl c p)) (hp : ∀ x, p ≠ .int .u8 x) : Off (fun k => k = b) pv := by
  obtain ⟨ao, cap, rfl, h⟩ := hv
  intro b' off sp n cp e hn hb
  cases e
  subst hb
  obtain ⟨b2, off2, e2, _, hcell⟩ := h (by intro q; rw [q] at hn; exact hn rfl)
  cases e2
  have hl : 0 < l.length := Nat.pos_of_ne_zero hn
  have h0 := hcell 0 hl
  rw [hc.at] at h0
  have hlt : off + 0 < 17 := by
    have := (List.getElem?_eq_some_iff.1 h0).1
    rwa [tbl_length] at this
  by_cases h16 : off + 0 < 16
  · rw [tbl_at _ _ _ h16] at h0
    cases h0
  · rw [show off + 0 = 16 by omega, tbl_last] at h0
    exact hp _ (Option.some.inj h0)

end Go.Proofs.Ytadcfndjbhcfbaa
