/- Plain numbers: what the calls of layer 1 answer, as functions on whole numbers. No Go in sight. -/
import Derived.Lib.BitFns
namespace Go.Proofs.Ytbabbbplpoeacaa
/-- how many binary digits the amount has -/
def sz (n : Int) : Nat := Lib.bitLen n.natAbs
def clipF (n lo hi : Int) : Int := if n < lo then lo else if hi < n then hi else n
def ceilF (n d : Int) : Int := if 0 ≤ n ∧ n ≤ 1099511627776 ∧ 1 ≤ d ∧ d ≤ 1099511627776 then (n + d - 1) / d else 0
def roundF (n d : Int) : Int :=
  if -4611686018427387904 ≤ n ∧ n ≤ 4611686018427387904 ∧ 1 ≤ d ∧ d ≤ 1152921504606846976 then (if n < 0 then -((-n + d / 2) / d) else (n + d / 2) / d) else 0
def lowF (n : Int) : Int := if -2147483648 ≤ n ∧ n ≤ 2147483648 then (if n < 0 then n + 2 ^ (sz n) - 1 else n) else 0
def backF (v s : Int) : Int := if 0 ≤ s ∧ s ≤ 31 ∧ 0 ≤ v ∧ v < 2 ^ s.toNat then (if (sz v : Int) = s then v else v - 2 ^ s.toNat + 1) else 0

theorem sz_le (n : Int) (k : Nat) (hk : k ≤ 64) (h : n.natAbs < 2 ^ k) : sz n ≤ k := Lib.bitLen_le _ _ hk h
theorem sz_zero : sz 0 = 0 := by decide
theorem sz_neg (n : Int) : sz (-n) = sz n := by unfold sz; rw [Int.natAbs_neg]
theorem bitLen_lt (x : Nat) (hx : x < 2 ^ 64) : x < 2 ^ (Lib.bitLen x) := by
  induction x using Nat.strongRecOn with
  | ind x ih =>
    by_cases h0 : x = 0
    · subst h0; exact Nat.pos_of_ne_zero (by simp)
    · rw [Lib.bitLen_half x h0 hx, Nat.pow_add]
      have := ih (x / 2) (by omega) (by omega)
      omega
theorem bitLen_ge (x : Nat) (h0 : x ≠ 0) (hx : x < 2 ^ 64) : 2 ^ (Lib.bitLen x) ≤ 2 * x := by
  induction x using Nat.strongRecOn with
  | ind x ih =>
    rw [Lib.bitLen_half x h0 hx, Nat.pow_add]
    by_cases h1 : x / 2 = 0
    · rw [h1, show Lib.bitLen 0 = 0 by decide]; omega
    · have := ih (x / 2) (by omega) h1 (by omega)
      omega
/-- the number of digits, told by the two powers around -/
theorem sz_eq (n : Int) (k : Nat) (hk : k ≤ 64) (h1 : n.natAbs < 2 ^ k) (h2 : 2 ^ k ≤ 2 * n.natAbs) : sz n = k := by
  have hx : n.natAbs < 2 ^ 64 := Nat.lt_of_lt_of_le h1 (Nat.pow_le_pow_right (by omega) hk)
  have a := bitLen_lt n.natAbs hx
  have b : 2 ^ (Lib.bitLen n.natAbs) ≤ 2 * n.natAbs := bitLen_ge n.natAbs (by intro h; rw [h] at h2; have := Nat.two_pow_pos k; omega) hx
  unfold sz
  rcases Nat.lt_trichotomy (Lib.bitLen n.natAbs) k with h | h | h
  · have : 2 ^ (Lib.bitLen n.natAbs + 1) ≤ 2 ^ k := Nat.pow_le_pow_right (by omega) h
    rw [Nat.pow_succ] at this; omega
  · exact h
  · have : 2 ^ (k + 1) ≤ 2 ^ (Lib.bitLen n.natAbs) := Nat.pow_le_pow_right (by omega) h
    rw [Nat.pow_succ] at this; omega
theorem sz_pos (n : Int) (h : n ≠ 0) (hx : n.natAbs < 2 ^ 64) : sz n = 1 + sz (n.natAbs / 2 : Nat) := by
  unfold sz; rw [Lib.bitLen_half _ (by omega) hx]; rfl
theorem pow_bd (k : Nat) (h : k ≤ 32) : (1 : Int) ≤ 2 ^ k ∧ (2 : Int) ^ k ≤ 4294967296 := by
  have h1 : 2 ^ k ≤ 2 ^ 32 := Nat.pow_le_pow_right (by omega) h
  have h2 : 1 ≤ 2 ^ k := Nat.one_le_two_pow
  have e : ((2 ^ k : Nat) : Int) = (2 : Int) ^ k := by simp
  omega
theorem pow_cast (k : Nat) : ((2 ^ k : Nat) : Int) = (2 : Int) ^ k := by simp
theorem clip_lo (n lo hi : Int) (h : lo ≤ hi) : lo ≤ clipF n lo hi := by
  unfold clipF
  by_cases h1 : n < lo
  · rw [if_pos h1]; omega
  · rw [if_neg h1]
    by_cases h2 : hi < n
    · rw [if_pos h2]; omega
    · rw [if_neg h2]; omega
theorem clip_hi (n lo hi : Int) (h : lo ≤ hi) : clipF n lo hi ≤ hi := by
  unfold clipF
  by_cases h1 : n < lo
  · rw [if_pos h1]; omega
  · rw [if_neg h1]
    by_cases h2 : hi < n
    · rw [if_pos h2]; omega
    · rw [if_neg h2]; omega
theorem clip_in (n lo hi : Int) (h1 : lo ≤ n) (h2 : n ≤ hi) : clipF n lo hi = n := by
  unfold clipF; rw [if_neg (by omega), if_neg (by omega)]
end Go.Proofs.Ytbabbbplpoeacaa
