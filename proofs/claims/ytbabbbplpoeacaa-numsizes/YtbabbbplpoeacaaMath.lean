/- Plain numbers: what the calls of layer 1 answer, as functions on whole numbers. No Go in sight. -/
import Derived.Lib.BitFns
namespace Go.Proofs.Ytbabbbplpoeacaa
/-- how many binary digits the amount has -/
def sz (n : Int) : Nat := Lib.bitLen n.natAbs
def clipF (n lo hi : Int) : Int := if n < lo then lo else if hi < n then hi else n
def ceilF (n d : Int) : Int := if 0 ≤ n ∧ n ≤ 1099511627776 ∧ 1 ≤ d ∧ d ≤ 1099511627776 then (n + d - 1) / d else 0
def roundF (n d : Int) : Int :=
  if -4611686018427387904 ≤ n ∧ n ≤ 4611686018427387904 ∧ 1 ≤ d ∧ d ≤ 1152921504606846976 then (if n < 0 then -((-n + d / 2) / d) else (n + d / 2) / d) else 0
def lowF (n : Int) : Int := if -2147483648 ≤ n ∧ n ≤ 2147483648 then (if n < 0 then n + 2 ^ (sz n) - 1 else n) else 0
def backF (v s : Int) : Int := if 0 ≤ s ∧ s ≤ 31 ∧ 0 ≤ v ∧ v < 2 ^ s.toNat then (if (sz v : Int) = s then v else v - 2 ^ s.toNat + 1) else 0

theorem sz_le (n : Int) (k : Nat) (hk : k ≤ 64) (h : n.natAbs < 2 ^ k) : sz n ≤ k := Lib.bitLen_le _ _ hk h
theorem sz_zero : sz 0 = 0 := by decide
theorem sz_neg (n : Int) : sz (-n) = sz n := by unfold sz; rw [Int.natAbs_neg]
theorem bitLen_lt (x : Nat) (hx : x < 2 ^ 64) : x < 2 ^ (Lib.bitLen x) := by
  induction x using Nat.strongRecOn with
  | ind x ih =>
    by_cases h0 : x = 0
    · subst h0; exact Nat.pos_of_ne_zero (by simp)
    · rw [Lib.bitLen_half x h0 hx, Nat.pow_add]
      have := ih (x / 2) (by omega) (by omega)
      omega
theorem bitLen_ge (x : Nat) (h0 : x ≠ 0) (hx : x < 2 ^ 64) : 2 ^ (Lib.bitLen x) ≤ 2 * x := by
  induction x using Nat.strongRecOn with
  | ind x ih =>
    rw [Lib.bitLen_half x h0 hx, Nat.pow_add]
    by_cases h1 : x / 2 = 0
    · rw [h1, show Lib.bitLen 0 = 0 by decide]; omega
    · have := ih (x / 2) (by omega) h1 (by omega)
      omega
/-- the number of digits, told by the two powers around -/
theorem sz_eq (n : Int) (k : Nat) (hk : k ≤ 64) (h1 : n.natAbs < 2 ^ k) (h2 : 2 ^ k ≤ 2 * n.natAbs) : sz n = k := by
  have hx : n.natAbs < 2 ^ 64 := Nat.lt_of_lt_of_le h1 (Nat.pow_le_pow_right (by omega) hk)
  have a := bitLen_lt n.natAbs hx
  have b : 2 ^ (Lib.bitLen n.natAbs) ≤ 2 * n.natAbs := bitLen_ge n.natAbs (by intro h; rw [h] at h2; have := Nat.two_pow_pos k; omega) hx
  unfold sz
  rcases Nat.lt_trichotomy (Lib.bitLen n.natAbs) k with h | h | h
  · have : 2 ^ (Lib.bitLen n.natAbs + 1) ≤ 2 ^ k := Nat.pow_le_pow_right (by omega) h
    rw [Nat.pow_succ] at this; omega
  · exact h
  · have : 2 ^ (k + 1) ≤ 2 ^ (Lib.bitLen n.natAbs) := Nat.pow_le_pow_right (by omega) h
    rw [Nat.pow_succ] at this; omega
theorem sz_pos (n : Int) (h : n ≠ 0) (hx : n.natAbs < 2 ^ 64) : sz n = 1 + sz (n.natAbs / 2 : Nat) := by
  unfold sz; rw [Lib.bitLen_half _ (by omega) hx]; rfl
theorem pow_bd (k : Nat) (h : k ≤ 32) : (1 : Int) ≤ 2 ^ k ∧ (2 : Int) ^ k ≤ 4294967296 := by
  have h1 : 2 ^ k ≤ 2 ^ 32 := Nat.pow_le_pow_right (by omega) h
  have h2 : 1 ≤ 2 ^ k := Nat.one_le_two_pow
  have e : ((2 ^ k : Nat) : Int) = (2 : Int) ^ k := by simp
  omega
theorem pow_cast (k : Nat) : ((2 ^ k : Nat) : Int) = (2 : Int) ^ k := by simp
theorem ceil_up (n d : Int) (h0 : 0 ≤ n) (h1 : n ≤ 1099511627776) (h2 : 1 ≤ d) (h3 : d ≤ 1099511627776) : n ≤ ceilF n d * d ∧ ceilF n d * d ≤ n + d - 1 ∧ 0 ≤ ceilF n d := by
  unfold ceilF; rw [if_pos ⟨h0, h1, h2, h3⟩]
  have a := Int.emod_add_mul_ediv (n + d - 1) d
  have b := Int.emod_nonneg (n + d - 1) (show d ≠ 0 by omega)
  have c := Int.emod_lt_of_pos (n + d - 1) (show 0 < d by omega)
  have e := Int.ediv_nonneg (show 0 ≤ n + d - 1 by omega) (show 0 ≤ d by omega)
  rw [Int.mul_comm d] at a
  omega
theorem ceil_zero (d : Int) : ceilF 0 d = 0 := by
  unfold ceilF
  by_cases h : 0 ≤ (0 : Int) ∧ (0 : Int) ≤ 1099511627776 ∧ 1 ≤ d ∧ d ≤ 1099511627776
  · rw [if_pos h]; exact Int.ediv_eq_zero_of_lt (by omega) (by omega)
  · rw [if_neg h]
theorem ceil_pos (n d : Int) (h0 : 1 ≤ n) (h1 : n ≤ 1099511627776) (h2 : 1 ≤ d) (h3 : d ≤ 1099511627776) : 1 ≤ ceilF n d := by
  have a := ceil_up n d (by omega) h1 h2 h3
  by_cases h : ceilF n d = 0
  · rw [h] at a; omega
  · omega
theorem mul_bd (a m : Int) (h0 : -2147483648 ≤ a) (h1 : a ≤ 2147483647) (h2 : 0 ≤ m) : -2147483648 * m ≤ a * m ∧ a * m ≤ 2147483647 * m :=
  ⟨Int.mul_le_mul_of_nonneg_right h0 h2, Int.mul_le_mul_of_nonneg_right h1 h2⟩
/-- half a step added, then divided: no further off than half a step -/
theorem half_off (n d : Int) (h2 : 1 ≤ d) : 2 * (n - (n + d / 2) / d * d) ≤ d ∧ -(2 * (n - (n + d / 2) / d * d)) ≤ d := by
  have a := Int.emod_add_mul_ediv (n + d / 2) d
  have b := Int.emod_nonneg (n + d / 2) (show d ≠ 0 by omega)
  have c := Int.emod_lt_of_pos (n + d / 2) (show 0 < d by omega)
  rw [Int.mul_comm d] at a
  omega
theorem round_off (n d : Int) (h0 : -4611686018427387904 ≤ n) (h1 : n ≤ 4611686018427387904) (h2 : 1 ≤ d) (h3 : d ≤ 1152921504606846976) :
    2 * (n - roundF n d * d) ≤ d ∧ -(2 * (n - roundF n d * d)) ≤ d := by
  unfold roundF; rw [if_pos ⟨h0, h1, h2, h3⟩]
  by_cases h : n < 0
  · rw [if_pos h]
    have := half_off (-n) d h2
    rw [Int.neg_mul]; omega
  · rw [if_neg h]; exact half_off n d h2
theorem round_neg (n d : Int) : roundF (-n) d = -roundF n d := by
  unfold roundF
  by_cases h : -4611686018427387904 ≤ n ∧ n ≤ 4611686018427387904 ∧ 1 ≤ d ∧ d ≤ 1152921504606846976
  · rw [if_pos h, if_pos (by omega)]
    by_cases h1 : n < 0
    · rw [if_neg (by omega), if_pos h1]; omega
    · rw [if_neg h1]
      by_cases h2 : n = 0
      · subst h2
        have : (0 + d / 2) / d = 0 := Int.ediv_eq_zero_of_lt (by omega) (by omega)
        rw [if_neg (by omega), this, show (-0 : Int) = 0 by rfl, this]
      · rw [if_pos (by omega)]; simp
  · rw [if_neg h, if_neg (by omega)]; rfl
theorem round_mul (n d : Int) (h2 : 1 ≤ d) (h3 : d ≤ 1152921504606846976) (h0 : -4611686018427387904 ≤ n * d) (h1 : n * d ≤ 4611686018427387904) : roundF (n * d) d = n := by
  have e : ∀ x : Int, (x * d + d / 2) / d = x := fun x => by
    rw [Int.add_comm, Int.add_mul_ediv_right _ _ (by omega), Int.ediv_eq_zero_of_lt (by omega) (by omega)]; omega
  unfold roundF; rw [if_pos ⟨h0, h1, h2, h3⟩]
  by_cases h : n * d < 0
  · rw [if_pos h, ← Int.neg_mul, e]; omega
  · rw [if_neg h, e]
theorem nat_pow_le (a b : Nat) (h : a < 2 ^ b) (c : Nat) (h2 : 2 ^ c ≤ 2 * a) : c ≤ b := by
  rcases Nat.lt_or_ge b c with h3 | h3
  · have := Nat.pow_le_pow_right (show 0 < 2 by omega) h3
    rw [Nat.pow_succ] at this; omega
  · exact h3
theorem sz_mono (x y : Int) (h0 : 0 ≤ x) (h1 : x ≤ y) (h2 : y < 18446744073709551616) : sz x ≤ sz y := by
  by_cases h : x = 0
  · subst h; rw [sz_zero]; omega
  · have a := bitLen_ge x.natAbs (by omega) (by omega)
    have b := bitLen_lt y.natAbs (by omega)
    exact nat_pow_le y.natAbs _ b _ (by unfold sz at *; omega)
theorem sz_twice (y : Int) (h0 : 0 ≤ y) (h2 : y < 9223372036854775808) : (sz (2 * y) : Int) = sz y + min y 1 := by
  by_cases h : y = 0
  · subst h; decide
  · rw [sz_pos (2 * y) (by omega) (by omega), show (((2 * y).natAbs / 2 : Nat) : Int) = y by omega]; omega
theorem back_eq (x : Int) (s : Nat) (hs : s ≤ 31) (h0 : 0 ≤ x) (h1 : x < 2 ^ s) : backF x s = if 2 ^ s ≤ 2 * x then x else x - 2 ^ s + 1 := by
  have hp := pow_bd s (by omega)
  have pc := pow_cast s
  unfold backF
  rw [Int.toNat_natCast, if_pos ⟨by omega, by omega, h0, h1⟩]
  by_cases h : 2 ^ s ≤ 2 * x
  · rw [if_pos h, if_pos (by rw [sz_eq x s (by omega) (by omega) (by omega)])]
  · rw [if_neg h]
    by_cases hz : (sz x : Int) = s
    · rw [if_pos hz]
      by_cases hx : x = 0
      · subst hx; rw [sz_zero] at hz
        obtain rfl : s = 0 := by omega
        rfl
      · exfalso
        have a := bitLen_ge x.natAbs (by omega) (by omega)
        have e : Lib.bitLen x.natAbs = s := by unfold sz at hz; omega
        rw [e] at a; omega
    · rw [if_neg hz]
/-- a number of 31 bits is told by its size and its bits -/
theorem low_back (m : Int) (h0 : -2147483647 ≤ m) (h1 : m ≤ 2147483647) : sz m ≤ 31 ∧ 0 ≤ lowF m ∧ lowF m < 2 ^ sz m ∧ backF (lowF m) (sz m) = m := by
  have hs : sz m ≤ 31 := sz_le m 31 (by omega) (by omega)
  have hp := pow_bd (sz m) (by omega)
  have pc := pow_cast (sz m)
  have a : m.natAbs < 2 ^ sz m := bitLen_lt m.natAbs (by omega)
  have b : m ≠ 0 → 2 ^ sz m ≤ 2 * m.natAbs := fun h => bitLen_ge m.natAbs (by omega) (by omega)
  by_cases hz : m = 0
  · subst hz; decide
  · have b := b hz
    unfold lowF
    rw [if_pos (by omega)]
    by_cases h : m < 0
    · rw [if_pos h]
      refine ⟨hs, by omega, by omega, ?_⟩
      rw [back_eq _ _ hs (by omega) (by omega), if_neg (by omega)]; omega
    · rw [if_neg h]
      refine ⟨hs, by omega, by omega, ?_⟩
      rw [back_eq _ _ hs (by omega) (by omega), if_pos (by omega)]
theorem back_inj (x v : Int) (s : Nat) (hs : s ≤ 31) (h0 : 0 ≤ x) (h1 : x < 2 ^ s) (h2 : 0 ≤ v) (h3 : v < 2 ^ s) : (backF x s = backF v s) ↔ x = v := by
  have hp := pow_bd s (by omega)
  rw [back_eq x s hs h0 h1, back_eq v s hs h2 h3]
  by_cases a : 2 ^ s ≤ 2 * x
  · by_cases b : 2 ^ s ≤ 2 * v
    · rw [if_pos a, if_pos b]
    · rw [if_pos a, if_neg b]; omega
  · by_cases b : 2 ^ s ≤ 2 * v
    · rw [if_neg a, if_pos b]; omega
    · rw [if_neg a, if_neg b]; omega
theorem round_bd (n d : Int) (h : 1 ≤ d) : -(n.natAbs + d) ≤ roundF n d ∧ roundF n d ≤ n.natAbs + d := by
  unfold roundF
  by_cases h0 : -4611686018427387904 ≤ n ∧ n ≤ 4611686018427387904 ∧ 1 ≤ d ∧ d ≤ 1152921504606846976
  · rw [if_pos h0]
    by_cases h1 : n < 0
    · rw [if_pos h1]
      have a := Int.ediv_le_self d (show 0 ≤ -n + d / 2 by omega)
      have b := Int.ediv_nonneg (show 0 ≤ -n + d / 2 by omega) (show 0 ≤ d by omega)
      omega
    · rw [if_neg h1]
      have a := Int.ediv_le_self d (show 0 ≤ n + d / 2 by omega)
      have b := Int.ediv_nonneg (show 0 ≤ n + d / 2 by omega) (show 0 ≤ d by omega)
      omega
  · rw [if_neg h0]; omega
/-- bits of noughts alone, of ones alone, and what is none -/
theorem back_edges (s : Int) (h0 : 0 ≤ s) (h1 : s ≤ 31) : backF 0 s = 1 - 2 ^ s.toNat ∧ backF (2 ^ s.toNat - 1) s = 2 ^ s.toNat - 1 ∧ backF (2 ^ s.toNat) s = 0 ∧ backF (-1) s = 0 ∧ backF 1 (32 + s) = 0 ∧ backF 0 (-1 - s) = 0 := by
  obtain ⟨k, rfl⟩ := Int.eq_ofNat_of_zero_le h0
  have hp := pow_bd k (by omega)
  rw [Int.toNat_natCast]
  refine ⟨?_, ?_, ?_, ?_, ?_, ?_⟩
  · rw [back_eq 0 k (by omega) (by omega) (by omega), if_neg (by omega)]; omega
  · rw [back_eq _ k (by omega) (by omega) (by omega)]
    by_cases h : k = 0
    · subst h; decide
    · rw [if_pos]
      have : (2 : Int) ^ k = 2 ^ (k - 1) * 2 := by rw [← Int.pow_succ]; congr 1; omega
      have := pow_bd (k - 1) (by omega)
      omega
  · unfold backF; rw [if_neg]; rw [Int.toNat_natCast]; omega
  · unfold backF; rw [if_neg]; omega
  · unfold backF; rw [if_neg]; omega
  · unfold backF; rw [if_neg]; omega
theorem clip_lo (n lo hi : Int) (h : lo ≤ hi) : lo ≤ clipF n lo hi := by
  unfold clipF
  by_cases h1 : n < lo
  · rw [if_pos h1]; omega
  · rw [if_neg h1]
    by_cases h2 : hi < n
    · rw [if_pos h2]; omega
    · rw [if_neg h2]; omega
theorem clip_hi (n lo hi : Int) (h : lo ≤ hi) : clipF n lo hi ≤ hi := by
  unfold clipF
  by_cases h1 : n < lo
  · rw [if_pos h1]; omega
  · rw [if_neg h1]
    by_cases h2 : hi < n
    · rw [if_pos h2]; omega
    · rw [if_neg h2]; omega
theorem clip_in (n lo hi : Int) (h1 : lo ≤ n) (h2 : n ≤ hi) : clipF n lo hi = n := by
  unfold clipF; rw [if_neg (by omega), if_neg (by omega)]
end Go.Proofs.Ytbabbbplpoeacaa
