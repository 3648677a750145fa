/- What the laws of layer 9 say of what is told by steps. No program. -/
import Derived.Test.YthaekjdnaaikfaaDoorQuMath
namespace Go.Proofs.YthaekjdnaaikfaaDoor
set_option linter.unusedVariables false
open Go.ChangeShapes Go.WideShapes Go.ChangeAt Go.RowKit

/-- Steps' multiples are told as they were. -/
theorem near_mul (a d : Int) (h : 1 ≤ d) : nearF (a * d) d = a := by
  unfold nearF
  have hd : d / 2 < d := by omega
  have hd0 : 0 ≤ d / 2 := by omega
  have key : ∀ c : Int, (c * d + d / 2) / d = c := fun c => by
    rw [Int.add_comm, Int.add_mul_ediv_right _ _ (by omega), Int.ediv_eq_zero_of_lt hd0 hd]; omega
  split
  · rw [show -(a * d) = -a * d by rw [Int.neg_mul], key]; omega
  · exact key a

theorem mul_in {a q : Int} (h0 : -128 ≤ a) (h1 : a ≤ 128) (hq : 1 ≤ q ∧ q ≤ 255) : -32767 ≤ a * q ∧ a * q ≤ 32767 := by
  have l0 : a * q ≤ 128 * q := Int.mul_le_mul_of_nonneg_right h1 (by omega)
  have l1 : -128 * q ≤ a * q := Int.mul_le_mul_of_nonneg_right h0 (by omega)
  omega

theorem tells_same (b q : Nat → Int) (hq : Stp q) (j : Nat) (hj : j < 64) : qfwd (qbck (fun j => clipF (b j) (-127) 127) q) q j = (fun j => clipF (b j) (-127) 127) j := by
  have hz := zz_lt j hj
  have hb := clipF_bd (b j) (-127) 127 (by omega)
  have hs := hq (zz j) hz
  unfold qfwd qbck
  rw [uz_zz j hj]
  dsimp only
  rw [clipF_id (clipF (b j) (-127) 127) (-2048) 2047 (by omega) (by omega)]
  have hm := mul_in (a := clipF (b j) (-127) 127) (by omega) (by omega) hs
  rw [clipF_id _ (-32767) 32767 hm.1 hm.2, near_mul _ _ hs.1]
  exact clipF_id _ _ _ (by unfold leastF; split <;> omega) (by omega)

/-- Each place is next to the one ahead, or on from the edge. -/
theorem near_zz : ∀ k : Nat, k < 63 → (-1 ≤ wrap64 ((zigF ((k : Int) + 1)).tmod 8 - (zigF (k : Int)).tmod 8) ∧ wrap64 ((zigF ((k : Int) + 1)).tmod 8 - (zigF (k : Int)).tmod 8) ≤ 1) ∧ (-1 ≤ wrap64 (wrap64 ((zigF ((k : Int) + 1)).tdiv 8) - wrap64 ((zigF (k : Int)).tdiv 8)) ∧ wrap64 (wrap64 ((zigF ((k : Int) + 1)).tdiv 8) - wrap64 ((zigF (k : Int)).tdiv 8)) ≤ 1) ∧ ¬ zigF (k : Int) = zigF ((k : Int) + 1) := by decide +kernel

theorem zz_once (k : Nat) (hk : k < 63) (j : Nat) (hj : j < 64) : ((zz j : Nat) : Int) = zigF (k : Int) ↔ j = k := by
  rw [zigF_in k (by omega)]
  constructor
  · intro h
    have h' : zz j = zz k := by omega
    rw [← uz_zz j hj, h', uz_zz k (by omega)]
  · intro h; rw [h]

theorem scale_mono (a b : Int) (h : a ≤ b) : scaleF b ≤ scaleF a := by
  unfold scaleF
  have ha := clipF_bd a 1 100 (by omega)
  have hb := clipF_bd b 1 100 (by omega)
  have hm : clipF a 1 100 ≤ clipF b 1 100 := by unfold clipF; split <;> split <;> (try split) <;> (try split) <;> omega
  generalize clipF a 1 100 = x at *
  generalize clipF b 1 100 = y at *
  by_cases h1 : x < 50
  · rw [if_pos h1]
    have l1 : 100 ≤ 5000 / x := by
      apply Int.le_ediv_of_mul_le (by omega)
      omega
    by_cases h2 : y < 50
    · rw [if_pos h2]
      apply Int.le_ediv_of_mul_le (by omega)
      have e1 : 5000 / y * y ≤ 5000 := Int.ediv_mul_le _ (by omega)
      have e2 : 0 ≤ 5000 / y := Int.ediv_nonneg (by omega) (by omega)
      have e3 : 5000 / y * x ≤ 5000 / y * y := Int.mul_le_mul_of_nonneg_left hm e2
      omega
    · rw [if_neg h2]; omega
  · rw [if_neg h1, if_neg (by omega)]; omega

theorem table_mono (p a b : Int) (h : a ≤ b) (j : Nat) (hj : j < 64) : tableF p b j ≤ tableF p a j ∧ 1 ≤ tableF p b j ∧ tableF p a j ≤ 255 := by
  unfold tableF
  have hs := scale_mono a b h
  have hl := lst_bd _ (pl_lt p) j hj
  have hm : scaleF b * lst (pl p) j ≤ scaleF a * lst (pl p) j := Int.mul_le_mul_of_nonneg_right hs (by omega)
  have hd : (scaleF b * lst (pl p) j + 50) / 100 ≤ (scaleF a * lst (pl p) j + 50) / 100 := by omega
  refine ⟨?_, (clipF_bd _ 1 255 (by omega)).1, (clipF_bd _ 1 255 (by omega)).2⟩
  generalize (scaleF b * lst (pl p) j + 50) / 100 = x at *
  generalize (scaleF a * lst (pl p) j + 50) / 100 = y at *
  unfold clipF
  split <;> split <;> (try split) <;> (try split) <;> omega

/-- To the nearest: no further off than half a step. -/
theorem near_half (n d : Int) (h : 1 ≤ d) : 2 * (n - nearF n d * d) ≤ d ∧ -d ≤ 2 * (n - nearF n d * d) := by
  have key : ∀ m : Int, 2 * (m - (m + d / 2) / d * d) ≤ d ∧ -d ≤ 2 * (m - (m + d / 2) / d * d) := fun m => by
    have e1 := Int.emod_add_mul_ediv (m + d / 2) d
    have e2 := Int.emod_nonneg (m + d / 2) (show d ≠ 0 by omega)
    have e3 := Int.emod_lt_of_pos (m + d / 2) (show 0 < d by omega)
    rw [Int.mul_comm] at e1
    generalize (m + d / 2) / d * d = x at *
    omega
  unfold nearF
  split
  · have := key (-n)
    rw [Int.neg_mul]
    generalize (-n + d / 2) / d * d = x at *
    omega
  · exact key n

theorem near_zero (n d : Int) (h : 1 ≤ d) : nearF n d = 0 ↔ (2 * n < d ∧ -2 * n < d) := by
  have key : ∀ m : Int, 0 ≤ m → ((m + d / 2) / d = 0 ↔ 2 * m < d) := fun m hm => by
    constructor
    · intro h0
      have e1 := Int.emod_add_mul_ediv (m + d / 2) d
      have e3 := Int.emod_lt_of_pos (m + d / 2) (show 0 < d by omega)
      rw [h0, Int.mul_zero] at e1
      omega
    · intro h0
      exact Int.ediv_eq_zero_of_lt (by omega) (by omega)
  unfold nearF
  split
  · have := key (-n) (by omega)
    omega
  · have := key n (by omega)
    omega

theorem near_small (n d : Int) (h : 1 ≤ d) (m : Nat) (h0 : -(m : Int) ≤ n) (h1 : n ≤ m) (hd : 2 ≤ d) (hm : 1 ≤ m) : -(m : Int) ≤ nearF n d ∧ nearF n d ≤ m := by
  have key : ∀ x : Int, 0 ≤ x → x ≤ m → 0 ≤ (x + d / 2) / d ∧ (x + d / 2) / d ≤ m := fun x hx hx1 => by
    refine ⟨Int.ediv_nonneg (by omega) (by omega), ?_⟩
    have : (x + d / 2) / d < (m : Int) + 1 := by
      apply Int.ediv_lt_of_lt_mul (by omega)
      have : (m : Int) * 2 ≤ m * d := Int.mul_le_mul_of_nonneg_left hd (by omega)
      rw [Int.add_mul]
      omega
    omega
  unfold nearF
  split
  · have := key (-n) (by omega) (by omega)
    omega
  · have := key n (by omega) h1
    omega

theorem near_one (n : Int) : nearF n 1 = n := by
  have := near_mul n 1 (by omega)
  rwa [Int.mul_one] at this

/-- What is told of a small number is clipped nowhere. -/
theorem fwd_in (b q : Nat → Int) (hq : Stp q) (i : Nat) (hi : i < 64) (h0 : leastF i ≤ b (zz i)) (h1 : b (zz i) ≤ 1023) : qfwd b q i = nearF (b (zz i)) (q (zz i)) ∧ -1024 ≤ qfwd b q i ∧ qfwd b q i ≤ 1023 := by
  have hs := hq (zz i) (zz_lt i hi)
  have hl : -1024 ≤ leastF i ∧ leastF i ≤ -1023 := by unfold leastF; split <;> omega
  unfold qfwd
  rw [clipF_id (b (zz i)) (-32767) 32767 (by omega) (by omega)]
  have hn : leastF i ≤ nearF (b (zz i)) (q (zz i)) ∧ nearF (b (zz i)) (q (zz i)) ≤ 1023 := by
    by_cases h : q (zz i) = 1
    · rw [h, near_one]; omega
    · have := near_half (b (zz i)) (q (zz i)) hs.1
      have h2 := near_small (b (zz i)) (q (zz i)) hs.1 1024 (by omega) (by omega) (by omega) (by omega)
      have e := near_half (b (zz i)) (q (zz i)) hs.1
      generalize hN : nearF (b (zz i)) (q (zz i)) = N at *
      generalize hB : b (zz i) = B at *
      generalize hQ : q (zz i) = Q at *
      have h3 : 1023 * 2 ≤ 1023 * Q := Int.mul_le_mul_of_nonneg_left (by omega) (by omega)
      refine ⟨?_, ?_⟩
      · apply Int.not_lt.mp
        intro hlt
        have : N * Q ≤ -1024 * Q := Int.mul_le_mul_of_nonneg_right (by omega) (by omega)
        omega
      · apply Int.not_lt.mp
        intro hlt
        have : 1024 * Q ≤ N * Q := Int.mul_le_mul_of_nonneg_right (by omega) (by omega)
        omega
  rw [clipF_id _ _ _ hn.1 hn.2]
  exact ⟨rfl, by omega, by omega⟩

/-- There and back by steps. -/
theorem step_half (b q : Nat → Int) (hq : Stp q) (hb : ∀ j, j < 64 → leastF j ≤ b j ∧ b j ≤ 1023) (j : Nat) (hj : j < 64) : 2 * (b j - qbck (qfwd b q) q j) ≤ q j ∧ -q j ≤ 2 * (b j - qbck (qfwd b q) q j) := by
  have hi := uz_lt j hj
  have hbb : leastF (uz j) ≤ b (zz (uz j)) ∧ b (zz (uz j)) ≤ 1023 := by
    rw [zz_uz j hj]
    have := hb j hj
    have hz := uz_zero j hj
    refine ⟨?_, this.2⟩
    have h1 := this.1
    unfold leastF at *
    split at h1 <;> split <;> omega
  obtain ⟨h0, h1, h2⟩ := fwd_in b q hq (uz j) hi hbb.1 hbb.2
  unfold qbck
  rw [clipF_id (qfwd b q (uz j)) (-2048) 2047 (by omega) (by omega), h0, zz_uz j hj]
  exact near_half (b j) (q j) (hq j hj).1

theorem step_zero (b q : Nat → Int) (hq : Stp q) (hb : ∀ j, j < 64 → leastF j ≤ b j ∧ b j ≤ 1023) (i : Nat) (hi : i < 64) : qfwd b q i = 0 ↔ (2 * b (zz i) < q (zz i) ∧ -2 * b (zz i) < q (zz i)) := by
  have hz := zz_lt i hi
  have h := hb (zz i) hz
  have hl : leastF i ≤ b (zz i) := by
    have e := zz_zero i hi
    have h1 := h.1
    unfold leastF at *
    split at h1 <;> split <;> omega
  rw [(fwd_in b q hq i hi hl h.2).1]
  exact near_zero _ _ (hq _ hz).1

end Go.Proofs.YthaekjdnaaikfaaDoor
