/- Turned places, as they are reckoned. No program. -/
import Derived.Test.YtlidijlmbelhhaaDoorDcLaw
import Derived.Test.YtlidijlmbelhhaaDoorPlMem
namespace Go.Proofs.YtlidijlmbelhhaaDoor
set_option linter.unusedVariables false
open Go.ChangeShapes Go.WideShapes Go.ChangeAt Go.RowKit

theorem tr_plain (k : Nat) (hlt : k < 64) : ((∀ _ : True, (k : Int).tmod 8 = (k : Int) % 8) ∧ (∀ _ : True, (k : Int).tdiv 8 = (k : Int) / 8)) ∧ ((∀ _ : True, wrap64 ((k : Int) % 8 * 8) = (k : Int) % 8 * 8) ∧ (∀ _ : True, IntKind.i64.wrap ((k : Int) / 8) = (k : Int) / 8) ∧ (∀ _ : True, wrap64 ((k : Int) % 8 * 8 + (k : Int) / 8) = (k : Int) % 8 * 8 + (k : Int) / 8)) ∧ ((∀ _ : True, 0 ≤ (k : Int) % 8 * 8 + (k : Int) / 8) ∧ (∀ _ : True, (k : Int) % 8 * 8 + (k : Int) / 8 < 64)) :=
  ⟨⟨fun _ => Int.tmod_eq_emod_of_nonneg (by omega), fun _ => Int.tdiv_eq_ediv_of_nonneg (by omega)⟩, ⟨fun _ => w64 _ (by omega), fun _ => by rw [wrap_i64_eq]; exact w64 _ (by omega), fun _ => w64 _ (by omega)⟩, ⟨fun _ => by omega, fun _ => by omega⟩⟩

theorem tr_drawn (k : Nat) (hlt : k < 64) : (∀ _ : True, IntKind.i64.wrap ((k : Int) % 8 * 8) = (k : Int) % 8 * 8) ∧ (∀ _ : True, IntKind.i64.wrap ((k : Int) % 8 * 8 + (k : Int) / 8) = (k : Int) % 8 * 8 + (k : Int) / 8) :=
  ⟨fun _ => by rw [wrap_i64_eq]; exact w64 _ (by omega), fun _ => by rw [wrap_i64_eq]; exact w64 _ (by omega)⟩

theorem tr_step (f : Nat → Int) (k : Nat) (hlt : k < 64) (j : Nat) (hj : j < 64) : upd (fun j => if tr j < k then f (tr j) else 0) (tr k) (f k) j = if tr j < k + 1 then f (tr j) else 0 := by
  have h1 := tr_tr j hj
  have h2 := tr_tr k hlt
  unfold upd
  by_cases e : j = tr k
  · subst e
    rw [if_pos rfl, if_pos (by omega), h2]
  · have h3 : tr j ≠ k := fun q => e (by rw [← q, h1])
    rw [if_neg e]
    dsimp only
    by_cases h : tr j < k
    · rw [if_pos h, if_pos (by omega)]
    · rw [if_neg h, if_neg (by omega)]

end Go.Proofs.YtlidijlmbelhhaaDoor
