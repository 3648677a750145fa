/- Noughts, and what lies beyond the ends. No program. -/
import Derived.Test.YtlidijlmbelhhaaDoorDcLaw
import Derived.Test.YtlidijlmbelhhaaDoorPlMem
namespace Go.Proofs.YtlidijlmbelhhaaDoor
set_option linter.unusedVariables false

theorem fwd_zero : ∀ j, j < 64 → fwd (fun _ => 0) j = (fun _ => 0 : Nat → Int) j := by decide +kernel
theorem bck_zero : ∀ j, j < 64 → bck (fun _ => 0) j = (fun _ => 0 : Nat → Int) j := by decide +kernel

theorem fwd_great (I : Nat) (M : Int) (hM : 0 ≤ M) (j : Nat) (hj : j < 64) : fwd (upd (fun _ => 0) I (4097 + M)) j = fwd (upd (fun _ => 0) I 4096) j :=
  turnF_congr (fun k _ => by unfold clp upd; by_cases e : k = I <;> simp only [e, if_true, if_false] <;> (repeat' split) <;> omega) j hj

theorem bck_great (I : Nat) (M : Int) (hM : 0 ≤ M) (j : Nat) (hj : j < 64) : bck (upd (fun _ => 0) I (-32769 - M)) j = bck (upd (fun _ => 0) I (-32768)) j :=
  turnF_congr (fun k _ => by unfold clp upd; by_cases e : k = I <;> simp only [e, if_true, if_false] <;> (repeat' split) <;> omega) j hj

end Go.Proofs.YtlidijlmbelhhaaDoor
