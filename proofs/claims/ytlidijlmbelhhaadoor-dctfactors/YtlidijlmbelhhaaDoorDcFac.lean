/- Rows of factors are of one length, and apart from each other, but for what is rounded. No program. -/
import Derived.Test.YtlidijlmbelhhaaDoorDcMath
namespace Go.Proofs.YtlidijlmbelhhaaDoor
set_option linter.unusedVariables false

theorem fac_rows : ∀ a, a < 8 → ∀ b, b < 8 → -8388608 < sumTo (fun i => fac a i * fac b i) 8 - (if a = b then 1099511627776 else 0) ∧ sumTo (fun i => fac a i * fac b i) 8 - (if a = b then 1099511627776 else 0) < 8388608 := by decide +kernel

theorem fac_sums (a b : Nat) (ha : a < 8) (hb : b < 8) (m : Nat) (hm : m ≤ 8) : -2115328307968 ≤ sumTo (fun i => fac a i * fac b i) m ∧ sumTo (fun i => fac a i * fac b i) m ≤ 2115328307968 := by
  have h := sumTo_le (f := fun i => fac a i * fac b i) (M := 514214 * 514214) m (fun i hi => mul_bd (fac_bd a ha i (by omega)) (fac_bd b hb i (by omega)))
  have h3 : (m : Int) * (514214 * 514214) ≤ 8 * (514214 * 514214) := Int.mul_le_mul_of_nonneg_right (by omega) (by omega)
  omega

end Go.Proofs.YtlidijlmbelhhaaDoor
