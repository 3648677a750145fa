/- The ends of the frequencies of a block of bytes. No program. -/
import Derived.Test.YthaekjdnaaikfaaDoorQuLaw
import Derived.Test.YthaekjdnaaikfaaDoorDcLaw
namespace Go.Proofs.YthaekjdnaaikfaaDoor
set_option linter.unusedVariables false

theorem fwd_least (b : Nat → Int) (hb : ∀ j, j < 64 → -128 ≤ b j ∧ b j ≤ 127) (j : Nat) (hj : j < 64) : leastF j ≤ fwd b j ∧ fwd b j ≤ 1023 := by
  have h := fwd_ends b hb j hj
  unfold leastF
  by_cases h0 : j = 0
  · subst h0
    have h1 := first_is b hb
    have h2 := sumTo_mono (f := b) (g := fun _ => 127) 64 (fun i hi => (hb i hi).2)
    have h3 : sumTo (fun _ => (127 : Int)) 64 = 8128 := by decide +kernel
    rw [h3] at h2
    rw [if_pos rfl]
    omega
  · rw [if_neg h0]
    have := h.2 (by omega)
    omega

end Go.Proofs.YthaekjdnaaikfaaDoor
