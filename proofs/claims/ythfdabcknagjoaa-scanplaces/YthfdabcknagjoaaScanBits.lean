/- Bytes laid over words, and taken out of them: in plain numbers. No program is walked. -/
import Derived.Test.YthfdabcknagjoaaScanNum
namespace Go.Proofs.Ythfdabcknagjoaa
open Go.RowKit

abbrev bv (x : Int) : BitVec 64 := BitVec.ofInt 64 x

theorem bv_or (x y : Int) : bv (bits .or .i64 x y) = bv x ||| bv y := by unfold bv; rw [bits_or, BitVec.ofInt_toInt]
theorem bv_and (x y : Int) : bv (bits .and .i64 x y) = bv x &&& bv y := by unfold bv; rw [bits_and, BitVec.ofInt_toInt]
theorem bv_back (x y : Int) (hx : I64 x) (hy : I64 y) (h : bv x = bv y) : x = y := by rw [← bv_of x hx, ← bv_of y hy]; exact congrArg _ h

theorem and_ones (d : Int) (h : I64 d) : bits .and .i64 (-1) d = d := by
  apply bv_back _ _ (and_in _ _) h
  rw [bv_and, show bv (-1) = BitVec.allOnes 64 by decide, BitVec.allOnes_and]
theorem and_none (d : Int) : bits .and .i64 0 d = 0 := by
  apply bv_back _ _ (and_in _ _) (by omega)
  rw [bv_and, show bv 0 = 0#64 by decide, BitVec.zero_and]
theorem or_none (x : Int) (h : I64 x) : bits .or .i64 x 0 = x := by
  apply bv_back _ _ (or_in _ _) h
  rw [bv_or, show bv 0 = 0#64 by decide, BitVec.or_zero]
theorem none_or (x : Int) (h : I64 x) : bits .or .i64 0 x = x := by
  apply bv_back _ _ (or_in _ _) h
  rw [bv_or, show bv 0 = 0#64 by decide, BitVec.zero_or]

theorem put_step (x p i d : Int) (hx : I64 x) (hd : I64 d) : bits .or .i64 x (bits .and .i64 (eqM p i) d) = if p = i then bits .or .i64 x d else x := by
  unfold eqM maskF
  split
  · rw [and_ones d hd]
  · rw [and_none, or_none x hx]

theorem take_step (x p i d : Int) (m : Nat) (hx : I64 x) (hd : I64 d) : bits .or .i64 x (wrap64 (bits .and .i64 (eqM p i) d * 2 ^ m)) = if p = i then bits .or .i64 x (wrap64 (d * 2 ^ m)) else x := by
  unfold eqM maskF
  split
  · rw [and_ones d hd]
  · rw [and_none, Int.zero_mul, w64 0 (by omega), or_none x hx]

theorem shN_of (C j : Nat) (h : j < C) (h8 : C ≤ 8) : (shN (8 * ((C : Int) - 1 - j))).toNat = 8 * (C - 1 - j) := by unfold shN; omega

theorem putI_in (a s C i x : Int) (hx : I64 x) (k : Nat) : I64 (putI a s C i x k) := by
  cases k with
  | zero => exact hx
  | succ k => exact or_in _ _
theorem takeI_in (a C i x y : Int) (hy : I64 y) (k : Nat) : I64 (takeI a C i x y k) := by
  cases k with
  | zero => exact hy
  | succ k => exact or_in _ _

/-- The byte j of the C lowest of s. -/
def dig (s : Int) (C j : Nat) : Int := bits .and .i64 (s / 2 ^ (8 * (C - 1 - j))) 255

theorem putI_at (P C : Nat) (s : Int) (i : Int) (h8 : C ≤ 8) (hP : P ≤ 100) (j : Nat) (hj : j ≤ C) : putI P s C i 0 j = if (P : Int) ≤ i ∧ i < P + j then dig s C (i - P).toNat else 0 := by
  induction j with
  | zero => rw [if_neg (by omega)]; rfl
  | succ j ih =>
    have ih := ih (by omega)
    rw [putI, put_step _ _ _ _ (putI_in _ _ _ _ _ (by omega) _) (and_in _ _), w64 _ (by omega), ih, shN_of C j (by omega) h8]
    by_cases e : (P : Int) + j = i
    · rw [if_pos e, if_neg (by omega), if_pos (by omega), none_or _ (and_in _ _)]
      unfold dig
      rw [show (i - P).toNat = j by omega]
    · rw [if_neg e]
      by_cases c : (P : Int) ≤ i ∧ i < P + j
      · rw [if_pos c, if_pos (by omega)]
      · rw [if_neg c, if_neg (by omega)]

theorem takeI_at (P C : Nat) (i x y : Int) (hy : I64 y) (h8 : C ≤ 8) (hP : P ≤ 100) (j : Nat) (hj : j ≤ C) : takeI P C i x y j = if (P : Int) ≤ i ∧ i < P + j then bits .or .i64 y (wrap64 (bits .and .i64 x 255 * 2 ^ (8 * (C - 1 - (i - P).toNat)))) else y := by
  induction j with
  | zero => rw [if_neg (by omega)]; rfl
  | succ j ih =>
    have ih := ih (by omega)
    rw [takeI, take_step _ _ _ _ _ (takeI_in _ _ _ _ _ hy _) (and_in _ _), w64 _ (by omega), ih, shN_of C j (by omega) h8]
    by_cases e : (P : Int) + j = i
    · rw [if_pos e, if_neg (by omega), if_pos (by omega), show (i - P).toNat = j by omega]
    · rw [if_neg e]
      by_cases c : (P : Int) ≤ i ∧ i < P + j
      · rw [if_pos c, if_pos (by omega)]
      · rw [if_neg c, if_neg (by omega)]

/-- What j of the bytes of s make. -/
def tk (s : Int) (C : Nat) : Nat → Int
  | 0 => 0
  | j + 1 => bits .or .i64 (tk s C j) (wrap64 (bits .and .i64 (dig s C j) 255 * 2 ^ (8 * (C - 1 - j))))

theorem tk_in (s : Int) (C j : Nat) : I64 (tk s C j) := by
  cases j with
  | zero => show I64 0; omega
  | succ j => exact or_in _ _

theorem acc_tk (s : Int) (P C : Nat) (l : List Int) (h8 : C ≤ 8) (hP : P ≤ 50) (hl : ∀ i : Int, 0 ≤ i → i < 60 → word l i = putF P s C i 0) (N : Nat) (hN : N ≤ 60) : acc (takeF P C) l 0 N = tk s C (min (N - P) C) := by
  induction N with
  | zero => rw [Nat.zero_sub, Nat.zero_min]; rfl
  | succ N ih =>
    have ih := ih (by omega)
    rw [acc, ih, hl _ (by omega) (by omega)]
    unfold takeF putF
    rw [Int.toNat_natCast, putI_at P C s _ h8 (by omega) C (Nat.le_refl _), takeI_at P C _ _ _ (tk_in _ _ _) h8 (by omega) C (Nat.le_refl _)]
    by_cases c : (P : Int) ≤ 0 + (N : Int) ∧ 0 + (N : Int) < P + C
    · rw [if_pos c, if_pos c, show (0 + (N : Int) - P).toNat = N - P by omega, show min (N + 1 - P) C = (N - P) + 1 by omega, show min (N - P) C = N - P by omega]
      rfl
    · rw [if_neg c]
      congr 1
      omega

theorem bv_shr (s : Int) (m : Nat) (h : I64 s) : bv (s / 2 ^ m) = (bv s).sshiftRight m := by
  rw [← BitVec.toInt_inj, BitVec.toInt_sshiftRight, bv_of _ (shr_in s m h), bv_of s h, Int.shiftRight_eq_div_pow]
  norm_cast

theorem bv_shl (x : Int) (m : Nat) : bv (wrap64 (x * 2 ^ m)) = bv x <<< m := by
  unfold bv
  rw [bv_ofw, BitVec.ofInt_mul, BitVec.shiftLeft_eq_mul_twoPow]
  congr 1
  apply BitVec.eq_of_toNat_eq
  rw [show (2 : Int) ^ m = ((2 ^ m : Nat) : Int) by norm_cast, BitVec.ofInt_natCast, BitVec.toNat_ofNat, BitVec.toNat_twoPow]

theorem tk_bit (s : Int) (hs : I64 s) (C : Nat) (h8 : C ≤ 8) (j : Nat) (hj : j ≤ C) (t : Nat) : (bv (tk s C j)).getLsbD t = (decide (8 * (C - j) ≤ t ∧ t < 8 * C) && (bv s).getLsbD t) := by
  induction j with
  | zero =>
    rw [show tk s C 0 = 0 from rfl, show bv 0 = 0#64 by decide, decide_eq_false (by omega)]
    simp
  | succ j ih =>
    have ih := ih (by omega)
    rw [tk, bv_or, bv_shl, bv_and]
    unfold dig
    rw [bv_and, bv_shr s _ hs, show bv 255 = BitVec.ofNat 64 (2 ^ 8 - 1) by decide]
    simp only [BitVec.getLsbD_or, BitVec.getLsbD_shiftLeft, BitVec.getLsbD_and, BitVec.getLsbD_sshiftRight, BitVec.getLsbD_ofNat, Nat.testBit_two_pow_sub_one, ih]
    by_cases c : 8 * (C - j) ≤ t ∧ t < 8 * C
    · rw [decide_eq_true c, decide_eq_true (show 8 * (C - (j + 1)) ≤ t ∧ t < 8 * C by omega), decide_eq_false (show ¬ t - 8 * (C - 1 - j) < 8 by omega)]
      simp
    · rw [decide_eq_false c]
      by_cases d : 8 * (C - (j + 1)) ≤ t ∧ t < 8 * C
      · rw [decide_eq_true d, decide_eq_true (show t < 64 by omega), decide_eq_false (show ¬ t < 8 * (C - 1 - j) by omega), decide_eq_true (show t - 8 * (C - 1 - j) < 8 by omega), if_pos (show 8 * (C - 1 - j) + (t - 8 * (C - 1 - j)) < 64 by omega), show 8 * (C - 1 - j) + (t - 8 * (C - 1 - j)) = t by omega]
        rw [decide_eq_false (show ¬ 64 ≤ t - 8 * (C - 1 - j) by omega)]
        simp
        intro _
        omega
      · rw [decide_eq_false d]
        by_cases e : t < 8 * (C - 1 - j)
        · rw [decide_eq_true e]; simp
        · by_cases f : t - 8 * (C - 1 - j) < 8
          · exfalso; omega
          · rw [decide_eq_false f]; simp

theorem tk_all (s : Int) (hs : I64 s) (C : Nat) (h8 : C ≤ 7) : tk s C C = bits .and .i64 s (2 ^ (8 * C) - 1) := by
  apply bv_back _ _ (tk_in _ _ _) (and_in _ _)
  rw [bv_and]
  apply BitVec.eq_of_getLsbD_eq
  intro t ht
  have e : bv (2 ^ (8 * C) - 1) = BitVec.ofNat 64 (2 ^ (8 * C) - 1) := by
    have : ((2 : Int) ^ (8 * C) - 1) = ((2 ^ (8 * C) - 1 : Nat) : Int) := by
      have := Nat.one_le_two_pow (n := 8 * C)
      rw [Int.natCast_sub this]
      norm_cast
    unfold bv
    rw [this, BitVec.ofInt_natCast]
  rw [tk_bit s hs C (by omega) C (Nat.le_refl _), e, BitVec.getLsbD_and, BitVec.getLsbD_ofNat, Nat.testBit_two_pow_sub_one, decide_eq_true ht]
  by_cases c : t < 8 * C
  · rw [decide_eq_true c, decide_eq_true (show 8 * (C - C) ≤ t ∧ t < 8 * C by omega)]; simp
  · rw [decide_eq_false c, decide_eq_false (show ¬ (8 * (C - C) ≤ t ∧ t < 8 * C) by omega)]; simp

end Go.Proofs.Ythfdabcknagjoaa
