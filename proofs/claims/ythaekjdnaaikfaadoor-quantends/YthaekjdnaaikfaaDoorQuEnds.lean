/- By steps of one: what is told of a number alone. No program. -/
import Derived.Test.YthaekjdnaaikfaaDoorQuLaw
namespace Go.Proofs.YthaekjdnaaikfaaDoor
set_option linter.unusedVariables false
open Go.ChangeShapes Go.WideShapes Go.ChangeAt Go.RowKit

theorem i16_in {n : Int} (h : (Lit.int .i16 n).wf = true) : -32768 ≤ n ∧ n ≤ 32767 := by simpa [Lit.wf, IntKind.min, IntKind.max, IntKind.signed, IntKind.bits] using h

theorem ends_there (k : Nat) (hk : k < 64) (m : Int) (h0 : -32767 ≤ m) (h1 : m ≤ 32767) : qfwd (upd (fun _ => 0) (zz k) m) (fun _ => 1) k = clipF m (leastF k) 1023 := by
  unfold qfwd
  rw [near_one]
  unfold upd
  rw [if_pos rfl, clipF_id m (-32767) 32767 h0 h1]

theorem ends_back (k : Nat) (hk : k < 64) (m : Int) (h0 : -32767 ≤ m) (h1 : m ≤ 32767) : qbck (qfwd (upd (fun _ => 0) (zz k) m) (fun _ => 1)) (fun _ => 1) (zz k) = clipF m (leastF k) 1023 := by
  have hl : -1024 ≤ leastF k ∧ leastF k ≤ -1023 := by unfold leastF; split <;> omega
  have hb := clipF_bd m (leastF k) 1023 (by omega)
  unfold qbck
  rw [uz_zz k hk, ends_there k hk m h0 h1, Int.mul_one, clipF_id _ (-2048) 2047 (by omega) (by omega)]

theorem ends_want (a m : Int) (k : Nat) (hm : (if a < -32767 then -32767 else a) = m) (ha : -32768 ≤ a ∧ a ≤ 32767) :
    (1023 < a → clipF m (leastF k) 1023 = 1023) ∧ (-1023 < a → a ≤ 1023 → clipF m (leastF k) 1023 = a) ∧ (a ≤ -1023 → ¬ k = 0 → clipF m (leastF k) 1023 = -1023) ∧ (a ≤ -1024 → k = 0 → clipF m (leastF k) 1023 = -1024) ∧ (a = -1023 → clipF m (leastF k) 1023 = -1023) := by
  have hl : (k = 0 → leastF k = -1024) ∧ (¬ k = 0 → leastF k = -1023) := by
    unfold leastF
    exact ⟨fun h => if_pos h, fun h => if_neg h⟩
  have hl2 : -1024 ≤ leastF k ∧ leastF k ≤ -1023 := by unfold leastF; split <;> omega
  generalize leastF k = L at *
  have hm' : (a < -32767 ∧ m = -32767) ∨ (¬ a < -32767 ∧ m = a) := by
    by_cases h : a < -32767
    · rw [if_pos h] at hm; exact .inl ⟨h, hm.symm⟩
    · rw [if_neg h] at hm; exact .inr ⟨h, hm.symm⟩
  clear hm
  unfold clipF
  refine ⟨fun h => ?_, fun h h' => ?_, fun h h' => ?_, fun h h' => ?_, fun h => ?_⟩ <;> split <;> (try split) <;> omega

end Go.Proofs.YthaekjdnaaikfaaDoor
