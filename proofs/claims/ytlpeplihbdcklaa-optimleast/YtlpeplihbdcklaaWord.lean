/- Plain numbers of 64 bits: what is reckoned bit by bit, and modulo 2^64. No program. -/
import Derived.Laws.Bits64
import Derived.WalkKit
import Derived.ProofKit
import Derived.OpenShut
namespace Go.Proofs.Ytlpeplihbdcklaa
open Go.ChangeShapes Go.WideShapes Go.ChangeAt Go.RowKit

/-- A number of 64 bits. -/
abbrev I64 (n : Int) : Prop := -9223372036854775808 ≤ n ∧ n ≤ 9223372036854775807

theorem w64 (n : Int) (h : I64 n) : wrap64 n = n := by unfold wrap64; omega
theorem w64_in (n : Int) : I64 (wrap64 n) := by unfold wrap64; omega
theorem wrap_i64_eq (n : Int) : IntKind.i64.wrap n = wrap64 n := by rw [IntKind.wrap_i64]; unfold wrap64; rfl

theorem w64_eq {n m : Int} (k : Int) (h : n = m + k * 18446744073709551616) : wrap64 n = wrap64 m := by unfold wrap64; omega
theorem w64_off (n : Int) : ∃ k, wrap64 n = n + k * 18446744073709551616 := by
  refine ⟨-((n + 9223372036854775808) / 18446744073709551616), ?_⟩
  unfold wrap64
  have := Int.mul_ediv_add_emod (n + 9223372036854775808) 18446744073709551616
  omega

theorem bv_wrap (r : BitVec 64) : IntKind.i64.wrap (r.toNat : Int) = r.toInt := by
  rw [IntKind.wrap_i64, BitVec.toInt_eq_toNat_cond]
  have := r.isLt
  split <;> omega

theorem bits_and (x y : Int) : bits .and .i64 x y = (BitVec.ofInt 64 x &&& BitVec.ofInt 64 y).toInt := bv_wrap _
theorem bits_or (x y : Int) : bits .or .i64 x y = (BitVec.ofInt 64 x ||| BitVec.ofInt 64 y).toInt := bv_wrap _
theorem bits_xor (x y : Int) : bits .xor .i64 x y = (BitVec.ofInt 64 x ^^^ BitVec.ofInt 64 y).toInt := bv_wrap _

theorem bv_of (x : Int) (h : I64 x) : (BitVec.ofInt 64 x).toInt = x := by
  rw [BitVec.toInt_ofInt]
  exact Int.bmod_eq_of_le (by omega) (by omega)

theorem bv_in (r : BitVec 64) : I64 r.toInt := by
  have h1 := BitVec.toInt_lt (x := r)
  have h2 := BitVec.le_toInt r
  simp at h1 h2
  omega

theorem bv_w64 (x : Int) : (BitVec.ofInt 64 x).toInt = wrap64 x := by
  rw [BitVec.toInt_ofInt, Int.bmod_def]
  unfold wrap64
  simp only [Nat.reducePow, Int.cast_ofNat_Int]
  split <;> omega

theorem bv_ofw (x : Int) : BitVec.ofInt 64 (wrap64 x) = BitVec.ofInt 64 x := by rw [← bv_w64, BitVec.ofInt_toInt]

theorem and_in (x y : Int) : I64 (bits .and .i64 x y) := by rw [bits_and]; exact bv_in _
theorem or_in (x y : Int) : I64 (bits .or .i64 x y) := by rw [bits_or]; exact bv_in _
theorem xor_in (x y : Int) : I64 (bits .xor .i64 x y) := by rw [bits_xor]; exact bv_in _

theorem bv_neg (r : BitVec 64) : r.toInt < 0 ↔ r.msb = true := by rw [BitVec.msb_eq_toInt]; simp
theorem msb_of (x : Int) (h : I64 x) : (BitVec.ofInt 64 x).msb = decide (x < 0) := by rw [BitVec.msb_eq_toInt, bv_of x h]

theorem and_neg (x y : Int) (hx : I64 x) (hy : I64 y) : bits .and .i64 x y < 0 ↔ x < 0 ∧ y < 0 := by
  rw [bits_and, bv_neg, BitVec.msb_and, msb_of x hx, msb_of y hy]; simp
theorem or_neg (x y : Int) (hx : I64 x) (hy : I64 y) : bits .or .i64 x y < 0 ↔ x < 0 ∨ y < 0 := by
  rw [bits_or, bv_neg, BitVec.msb_or, msb_of x hx, msb_of y hy]; simp
theorem xor_neg (x y : Int) (hx : I64 x) (hy : I64 y) : bits .xor .i64 x y < 0 ↔ ¬ (x < 0 ↔ y < 0) := by
  rw [bits_xor, bv_neg, BitVec.msb_xor, msb_of x hx, msb_of y hy]
  by_cases h : x < 0 <;> by_cases k : y < 0 <;> simp [h, k]

theorem xor_self (x : Int) : bits .xor .i64 x x = 0 := by rw [bits_xor, BitVec.xor_self]; rfl
theorem xor_zero (x y : Int) (hx : I64 x) (hy : I64 y) (h : bits .xor .i64 x y = 0) : x = y := by
  rw [bits_xor] at h
  have h0 : BitVec.ofInt 64 x ^^^ BitVec.ofInt 64 y = 0#64 := by rw [← BitVec.toInt_inj, h]; rfl
  have h1 : BitVec.ofInt 64 x = BitVec.ofInt 64 y := by
    have := congrArg (· ^^^ BitVec.ofInt 64 y) h0
    simpa [BitVec.xor_assoc] using this
  rw [← bv_of x hx, ← bv_of y hy, h1]

theorem xor_not (x : Int) (hx : I64 x) : bits .xor .i64 (-1) x = -1 - x := by
  rw [bits_xor]
  have h1 : BitVec.ofInt 64 (-1) = BitVec.allOnes 64 := by decide
  rw [h1, BitVec.allOnes_xor, BitVec.not_eq_neg_add]
  have : -BitVec.ofInt 64 x - 1#64 = BitVec.ofInt 64 (-1 - x) := by
    rw [BitVec.sub_eq_add_neg, ← BitVec.ofInt_neg, show (-1#64) = BitVec.ofInt 64 (-1) by decide, ← BitVec.ofInt_add]
    congr 1; omega
  rw [this, bv_of _ (by omega)]

theorem xor_back (x y : Int) (hx : I64 x) : bits .xor .i64 (bits .xor .i64 x y) y = x := by
  rw [bits_xor, bits_xor, BitVec.ofInt_toInt, BitVec.xor_assoc, BitVec.xor_self, BitVec.xor_zero, bv_of x hx]

theorem and_or (x y : Int) : wrap64 (bits .and .i64 x y + bits .or .i64 x y) = wrap64 (x + y) := by
  rw [← bv_w64, ← bv_w64, BitVec.ofInt_add, BitVec.ofInt_add, bits_and, bits_or, BitVec.ofInt_toInt, BitVec.ofInt_toInt]
  generalize BitVec.ofInt 64 x = a
  generalize BitVec.ofInt 64 y = b
  have h1 : b + (a &&& ~~~b) = a ||| b := by
    rw [BitVec.add_eq_or_of_and_eq_zero]
    · ext i hi; simp; cases a[i] <;> cases b[i] <;> rfl
    · ext i hi; simp; intro h _; exact h
  have h2 : (a &&& b) + (a &&& ~~~b) = a := by
    rw [BitVec.add_eq_or_of_and_eq_zero]
    · ext i hi; simp; cases a[i] <;> cases b[i] <;> rfl
    · ext i hi; simp; cases a[i] <;> cases b[i] <;> simp
  rw [← h1, ← BitVec.add_assoc, BitVec.add_comm (a &&& b) b, BitVec.add_assoc, h2, BitVec.add_comm]

theorem i64_in {n : Int} (h : (Lit.int .i64 n).wf = true) : I64 n := by simpa [Lit.wf, IntKind.min, IntKind.max, IntKind.signed, IntKind.bits] using h

theorem u8_in {n : Int} (h : (Lit.int .u8 n).wf = true) : 0 ≤ n ∧ n ≤ 255 := by simpa [Lit.wf, IntKind.min, IntKind.max, IntKind.signed, IntKind.bits] using h
theorem i32_in {n : Int} (h : (Lit.int .i32 n).wf = true) : -2147483648 ≤ n ∧ n ≤ 2147483647 := by simpa [Lit.wf, IntKind.min, IntKind.max, IntKind.signed, IntKind.bits] using h

theorem one_le_pow (k : Nat) : (1 : Int) ≤ 2 ^ k := by
  have : (0 : Int) < 2 ^ k := Int.pow_pos (by decide)
  omega

theorem shr_le (x : Int) (k : Nat) : (x < 0 → x ≤ x / 2 ^ k ∧ x / 2 ^ k < 0) ∧ (0 ≤ x → x / 2 ^ k ≤ x ∧ 0 ≤ x / 2 ^ k) := by
  have hp := one_le_pow k
  constructor
  · intro h
    constructor
    · refine Int.le_ediv_of_mul_le (by omega) ?_
      have := Int.mul_le_mul_of_nonpos_left (a := x) (by omega) hp
      omega
    · exact Int.ediv_neg_of_neg_of_pos h (by omega)
  · intro h
    exact ⟨Int.ediv_le_self _ h, Int.ediv_nonneg h (by omega)⟩

theorem shr_in (x : Int) (k : Nat) (hx : I64 x) : I64 (x / 2 ^ k) := by
  have := shr_le x k
  by_cases h : x < 0
  · have := this.1 h; omega
  · have := this.2 (by omega); omega

/-- A sign: -1 or 0. -/
theorem sign_of (x : Int) (hx : I64 x) : x / 9223372036854775808 = if x < 0 then -1 else 0 := by split <;> omega

end Go.Proofs.Ytlpeplihbdcklaa
