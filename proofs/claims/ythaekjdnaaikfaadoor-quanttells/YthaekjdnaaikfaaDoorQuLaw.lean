/- What the laws of layer 9 say of what is told by steps. No program. -/
import Derived.Test.YthaekjdnaaikfaaDoorQuMath
namespace Go.Proofs.YthaekjdnaaikfaaDoor
set_option linter.unusedVariables false
open Go.ChangeShapes Go.WideShapes Go.ChangeAt Go.RowKit

/-- Steps' multiples are told as they were. -/
theorem near_mul (a d : Int) (h : 1 ≤ d) : nearF (a * d) d = a := by
  unfold nearF
  have hd : d / 2 < d := by omega
  have hd0 : 0 ≤ d / 2 := by omega
  have key : ∀ c : Int, (c * d + d / 2) / d = c := fun c => by
    rw [Int.add_comm, Int.add_mul_ediv_right _ _ (by omega), Int.ediv_eq_zero_of_lt hd0 hd]; omega
  split
  · rw [show -(a * d) = -a * d by rw [Int.neg_mul], key]; omega
  · exact key a

theorem mul_in {a q : Int} (h0 : -128 ≤ a) (h1 : a ≤ 128) (hq : 1 ≤ q ∧ q ≤ 255) : -32767 ≤ a * q ∧ a * q ≤ 32767 := by
  have l0 : a * q ≤ 128 * q := Int.mul_le_mul_of_nonneg_right h1 (by omega)
  have l1 : -128 * q ≤ a * q := Int.mul_le_mul_of_nonneg_right h0 (by omega)
  omega

theorem tells_same (b q : Nat → Int) (hq : Stp q) (j : Nat) (hj : j < 64) : qfwd (qbck (fun j => clipF (b j) (-127) 127) q) q j = (fun j => clipF (b j) (-127) 127) j := by
  have hz := zz_lt j hj
  have hb := clipF_bd (b j) (-127) 127 (by omega)
  have hs := hq (zz j) hz
  unfold qfwd qbck
  rw [uz_zz j hj]
  dsimp only
  rw [clipF_id (clipF (b j) (-127) 127) (-2048) 2047 (by omega) (by omega)]
  have hm := mul_in (a := clipF (b j) (-127) 127) (by omega) (by omega) hs
  rw [clipF_id _ (-32767) 32767 hm.1 hm.2, near_mul _ _ hs.1]
  exact clipF_id _ _ _ (by unfold leastF; split <;> omega) (by omega)

/-- Each place is next to the one ahead, or on from the edge. -/
theorem near_zz : ∀ k : Nat, k < 63 → (-1 ≤ wrap64 ((zigF ((k : Int) + 1)).tmod 8 - (zigF (k : Int)).tmod 8) ∧ wrap64 ((zigF ((k : Int) + 1)).tmod 8 - (zigF (k : Int)).tmod 8) ≤ 1) ∧ (-1 ≤ wrap64 (wrap64 ((zigF ((k : Int) + 1)).tdiv 8) - wrap64 ((zigF (k : Int)).tdiv 8)) ∧ wrap64 (wrap64 ((zigF ((k : Int) + 1)).tdiv 8) - wrap64 ((zigF (k : Int)).tdiv 8)) ≤ 1) ∧ ¬ zigF (k : Int) = zigF ((k : Int) + 1) := by decide +kernel

theorem zz_once (k : Nat) (hk : k < 63) (j : Nat) (hj : j < 64) : ((zz j : Nat) : Int) = zigF (k : Int) ↔ j = k := by
  rw [zigF_in k (by omega)]
  constructor
  · intro h
    have h' : zz j = zz k := by omega
    rw [← uz_zz j hj, h', uz_zz k (by omega)]
  · intro h; rw [h]

theorem scale_mono (a b : Int) (h : a ≤ b) : scaleF b ≤ scaleF a := by
  unfold scaleF
  have ha := clipF_bd a 1 100 (by omega)
  have hb := clipF_bd b 1 100 (by omega)
  have hm : clipF a 1 100 ≤ clipF b 1 100 := by unfold clipF; split <;> split <;> (try split) <;> (try split) <;> omega
  generalize clipF a 1 100 = x at *
  generalize clipF b 1 100 = y at *
  by_cases h1 : x < 50
  · rw [if_pos h1]
    have l1 : 100 ≤ 5000 / x := by
      apply Int.le_ediv_of_mul_le (by omega)
      omega
    by_cases h2 : y < 50
    · rw [if_pos h2]
      apply Int.le_ediv_of_mul_le (by omega)
      have e1 : 5000 / y * y ≤ 5000 := Int.ediv_mul_le _ (by omega)
      have e2 : 0 ≤ 5000 / y := Int.ediv_nonneg (by omega) (by omega)
      have e3 : 5000 / y * x ≤ 5000 / y * y := Int.mul_le_mul_of_nonneg_left hm e2
      omega
    · rw [if_neg h2]; omega
  · rw [if_neg h1, if_neg (by omega)]; omega

theorem table_mono (p a b : Int) (h : a ≤ b) (j : Nat) (hj : j < 64) : tableF p b j ≤ tableF p a j ∧ 1 ≤ tableF p b j ∧ tableF p a j ≤ 255 := by
  unfold tableF
  have hs := scale_mono a b h
  have hl := lst_bd _ (pl_lt p) j hj
  have hm : scaleF b * lst (pl p) j ≤ scaleF a * lst (pl p) j := Int.mul_le_mul_of_nonneg_right hs (by omega)
  have hd : (scaleF b * lst (pl p) j + 50) / 100 ≤ (scaleF a * lst (pl p) j + 50) / 100 := by omega
  refine ⟨?_, (clipF_bd _ 1 255 (by omega)).1, (clipF_bd _ 1 255 (by omega)).2⟩
  generalize (scaleF b * lst (pl p) j + 50) / 100 = x at *
  generalize (scaleF a * lst (pl p) j + 50) / 100 = y at *
  unfold clipF
  split <;> split <;> (try split) <;> (try split) <;> omega

end Go.Proofs.YthaekjdnaaikfaaDoor
