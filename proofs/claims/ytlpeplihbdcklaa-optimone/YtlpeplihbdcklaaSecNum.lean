/- What the calls of package sec answer, in plain numbers: masks, what is picked, what is clipped. -/
import Derived.Test.YtlpeplihbdcklaaMasks
import Derived.Test.YtlpeplihbdcklaaWord
namespace Go.Proofs.Ytlpeplihbdcklaa
open Go.ChangeShapes Go.WideShapes Go.ChangeAt Go.RowKit

theorem But.keepsD {S : Nat → Prop} {w w' : World} {p : Addr} {v : Value} (hb : But S w.drew w') (hs : ¬ S p.block) (h : w.cell? p = some v) : w'.cell? p = some v := hb.keeps hs (show w.drew.cell? p = some v from h)
theorem But.transD {S : Nat → Prop} {a w w' : World} (h : But S a w) (hb : But S w.drew w') : But S a w' := h.drew.trans hb

/-- A mask. -/
def maskF (p : Prop) [Decidable p] : Int := if p then -1 else 0

theorem maskF_in (p : Prop) [Decidable p] : I64 (maskF p) := by unfold maskF; split <;> omega

/-- Less and Equal of numbers, as masks. -/
def lessM (a b : Int) : Int := maskF (a < b)
def eqM (a b : Int) : Int := maskF (a = b)

theorem lessM_in (a b : Int) : I64 (lessM a b) := maskF_in _
theorem eqM_in (a b : Int) : I64 (eqM a b) := maskF_in _

theorem shN63 : (2 : Int) ^ (shN 63).toNat = 9223372036854775808 := by decide

theorem lessF_eq (a b : Int) (ha : I64 a) (hb : I64 b) : lessF a b = maskF (a < b) := by
  unfold lessF maskF
  have hd := w64_in (a - b)
  have hx := xor_in a b
  have hy := xor_in a (wrap64 (a - b))
  have hz := and_in (bits .xor .i64 a b) (bits .xor .i64 a (wrap64 (a - b)))
  rw [shN63, sign_of _ (xor_in _ _)]
  have h1 := xor_neg (wrap64 (a - b)) _ hd hz
  have h2 := and_neg _ _ hx hy
  have h3 := xor_neg a b ha hb
  have h4 := xor_neg a (wrap64 (a - b)) ha hd
  have h5 : wrap64 (a - b) < 0 ↔ ((a - b < 0 ∧ -9223372036854775808 ≤ a - b) ∨ 9223372036854775807 < a - b) := by unfold wrap64; omega
  by_cases h : a < b
  · rw [if_pos h, if_pos]
    rw [h1, h2, h3, h4, h5]; omega
  · rw [if_neg h, if_neg]
    rw [h1, h2, h3, h4, h5]; omega

theorem equalF_eq (a b : Int) (ha : I64 a) (hb : I64 b) : equalF a b = maskF (a = b) := by
  unfold equalF maskF
  have hd := xor_in a b
  have hn := w64_in (-bits .xor .i64 a b)
  rw [shN63, sign_of _ (or_in _ _)]
  have h1 := or_neg _ _ hd hn
  by_cases h : a = b
  · subst h
    rw [xor_self, if_pos rfl, if_neg]
    · decide
    · rw [xor_self] at h1; rw [h1]; unfold wrap64; omega
  · have h0 : bits .xor .i64 a b ≠ 0 := fun e => h (xor_zero a b ha hb e)
    rw [if_neg h, if_pos]
    · decide
    · rw [h1]; unfold wrap64; omega

theorem selF_yes (a b : Int) (ha : I64 a) : selF (-1) a b = a := by
  unfold selF
  rw [bits_xor, bits_and, bits_xor, BitVec.ofInt_toInt, BitVec.ofInt_toInt, show BitVec.ofInt 64 (-1) = BitVec.allOnes 64 by decide, BitVec.allOnes_and, BitVec.xor_comm, BitVec.xor_assoc, BitVec.xor_self, BitVec.xor_zero, bv_of a ha]

theorem selF_no (a b : Int) (hb : I64 b) : selF 0 a b = b := by
  unfold selF
  rw [bits_xor, bits_and, BitVec.ofInt_toInt, show BitVec.ofInt 64 0 = 0#64 by decide, BitVec.zero_and, BitVec.xor_zero, bv_of b hb]

theorem selF_eq (m a b : Int) (hm : I64 m) : selF m a b = bits .or .i64 (bits .and .i64 m a) (bits .and .i64 (-1 - m) b) := by
  unfold selF
  rw [← xor_not m hm, bits_xor, bits_and, bits_xor, bits_or, bits_and, bits_and, bits_xor, BitVec.ofInt_toInt, BitVec.ofInt_toInt, BitVec.ofInt_toInt, BitVec.ofInt_toInt, BitVec.ofInt_toInt, show BitVec.ofInt 64 (-1) = BitVec.allOnes 64 by decide, BitVec.allOnes_xor]
  congr 1
  ext i hi
  simp
  cases (BitVec.ofInt 64 m)[i] <;> cases (BitVec.ofInt 64 a)[i] <;> cases (BitVec.ofInt 64 b)[i] <;> rfl

theorem selF_mask (p : Prop) [Decidable p] (a b : Int) (ha : I64 a) (hb : I64 b) : selF (maskF p) a b = if p then a else b := by
  unfold maskF
  split
  · exact selF_yes a b ha
  · exact selF_no a b hb

/-- What is small goes up by less than 32 places, and comes back. -/
theorem small_back (x k : Int) (hx : -2147483648 ≤ x ∧ x ≤ 2147483647) (h0 : 0 ≤ k) (h1 : k < 32) : wrap64 (x * 2 ^ (shN k).toNat) / 2 ^ (shN k).toNat = x := by
  have e : shN k = k := by unfold shN; omega
  rw [e]
  have hp := one_le_pow k.toNat
  have hq : (2 : Int) ^ k.toNat ≤ 2 ^ 31 := by
    have := Nat.pow_le_pow_right (n := 2) (by decide) (show k.toNat ≤ 31 by omega)
    exact_mod_cast this
  have l1 : x * 2 ^ k.toNat ≤ 2147483647 * 2 ^ k.toNat := Int.mul_le_mul_of_nonneg_right hx.2 (by omega)
  have l2 : -2147483648 * 2 ^ k.toNat ≤ x * 2 ^ k.toNat := Int.mul_le_mul_of_nonneg_right hx.1 (by omega)
  rw [w64 _ (by omega)]
  exact Int.mul_ediv_cancel _ (by omega)

/-- A mask picks one, its opposite the other. -/
theorem sel_min (a b : Int) (ha : I64 a) (hb : I64 b) : selF (lessM a b) a b = if b < a then b else a := by
  unfold lessM
  rw [selF_mask _ _ _ ha hb]
  split <;> split <;> omega

theorem sel_max (a b : Int) (ha : I64 a) (hb : I64 b) : selF (bits .xor .i64 (-1) (lessM a b)) a b = if a < b then b else a := by
  rw [xor_not _ (lessM_in a b)]
  unfold lessM maskF
  split
  · exact selF_no a b hb
  · exact selF_yes a b ha

theorem mul_over (a b c : Int) : wrap64 (a * wrap64 (b + c)) = wrap64 (wrap64 (a * b) + wrap64 (a * c)) := by
  obtain ⟨k1, h1⟩ := w64_off (b + c)
  obtain ⟨k2, h2⟩ := w64_off (a * b)
  obtain ⟨k3, h3⟩ := w64_off (a * c)
  rw [h1, h2, h3]
  refine w64_eq (a * k1 - k2 - k3) ?_
  rw [Int.mul_add, Int.mul_add, Int.sub_mul, Int.sub_mul, Int.mul_assoc a k1]
  omega

/-- What is clipped, and what has no sign. -/
def clipF (a lo hi : Int) : Int := if a < lo then lo else if hi < a then hi else a
def absF (a : Int) : Int := if a < 0 then wrap64 (-a) else a

theorem clipR_eq (a lo hi : Int) (ha : I64 a) (hl : I64 lo) (hh : I64 hi) : clipR a lo hi = clipF a lo hi := by
  unfold clipR clipF
  rw [lessF_eq a lo ha hl, lessF_eq hi a hh ha, selF_mask _ _ _ hh ha, selF_mask _ _ _ hl (by split <;> assumption)]

theorem absR_eq (a : Int) (ha : I64 a) : absR a = absF a := by
  unfold absR absF
  rw [lessF_eq a 0 ha (by omega), selF_mask _ _ _ (w64_in _) ha]

end Go.Proofs.Ytlpeplihbdcklaa
