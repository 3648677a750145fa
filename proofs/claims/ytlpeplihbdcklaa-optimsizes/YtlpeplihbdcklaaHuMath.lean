/- Tables of codes: what may be, how codes are laid, what bits begin with. No program. -/
import Derived.Test.YtlpeplihbdcklaaWord
namespace Go.Proofs.Ytlpeplihbdcklaa
set_option linter.unusedVariables false

/-- How many codes there are of the first n lengths. -/
def cnt (c : Nat → Int) : Nat → Int
  | 0 => 0
  | n + 1 => cnt c n + c n

/-- The code behind the last one of length n. -/
def endC (c : Nat → Int) : Nat → Int
  | 0 => 0
  | n + 1 => 2 * endC c n + c n

/-- The same, of sixteen bits. -/
def endS (c : Nat → Int) (n : Nat) : Int := endC c n * 2 ^ (16 - n)

/-- Counts that may be, up to length n. -/
def OkC (c : Nat → Int) (n : Nat) : Prop := ∀ i, i < n → 0 ≤ c i ∧ c i ≤ 255 ∧ (0 < c i → endC c (i + 1) ≤ 2 ^ (i + 1) - 1)

/-- A table that may be. -/
structure OkT (c : Nat → Int) (l : List Int) : Prop where
  ok : OkC c 16
  sum : cnt c 16 = l.length
  most : l.length ≤ 256
  once : l.Nodup

theorem OkC.less {c : Nat → Int} {n m : Nat} (h : OkC c n) (hm : m ≤ n) : OkC c m := fun i hi => h i (by omega)

theorem cnt_mono {c : Nat → Int} {n : Nat} (h : OkC c n) : ∀ (m k : Nat), m ≤ k → k ≤ n → cnt c m ≤ cnt c k := by
  intro m k hmk
  induction k with
  | zero => intro _; obtain rfl : m = 0 := by omega
            exact Int.le_refl _
  | succ k ih =>
    intro hk
    by_cases e : m = k + 1
    · subst e; exact Int.le_refl _
    · have := ih (by omega) (by omega)
      have := (h k (by omega)).1
      show cnt c m ≤ cnt c k + c k
      omega

theorem cnt_pos {c : Nat → Int} {n : Nat} (h : OkC c n) (m : Nat) (hm : m ≤ n) : 0 ≤ cnt c m := cnt_mono h 0 m (by omega) hm

theorem cnt_most {c : Nat → Int} {n : Nat} (h : OkC c n) : ∀ m, m ≤ n → cnt c m ≤ 255 * m := by
  intro m
  induction m with
  | zero => intro _; show (0 : Int) ≤ _; omega
  | succ m ih => intro hm; have := ih (by omega); have := (h m (by omega)).2.1; show cnt c m + c m ≤ _; omega

theorem endC_pos {c : Nat → Int} {n : Nat} (h : OkC c n) : ∀ m, m ≤ n → 0 ≤ endC c m := by
  intro m
  induction m with
  | zero => intro _; exact Int.le_refl _
  | succ m ih => intro hm; have := ih (by omega); have := (h m (by omega)).1; show 0 ≤ 2 * endC c m + c m; omega

/-- No code is longer than its length. -/
theorem endC_most {c : Nat → Int} {n : Nat} (h : OkC c n) : ∀ m, m ≤ n → endC c m ≤ 2 ^ m := by
  intro m
  induction m with
  | zero => intro _; show (0 : Int) ≤ 1; omega
  | succ m ih =>
    intro hm
    have h1 := ih (by omega)
    have h2 := h m (by omega)
    by_cases e : 0 < c m
    · have := h2.2.2 e; omega
    · have e0 : c m = 0 := by omega
      show 2 * endC c m + c m ≤ 2 ^ (m + 1)
      rw [Int.pow_succ]
      omega

theorem pow_split (n : Nat) (hn : n < 16) : (2 : Int) ^ (16 - n) = 2 * 2 ^ (15 - n) := by
  rw [show 16 - n = (15 - n) + 1 by omega, Int.pow_succ]; omega

theorem pow_pos' (n : Nat) : (1 : Int) ≤ 2 ^ n := one_le_pow n

theorem endS_succ (c : Nat → Int) (n : Nat) (hn : n < 16) : endS c (n + 1) = endS c n + c n * 2 ^ (15 - n) := by
  unfold endS
  rw [pow_split n hn, show 16 - (n + 1) = 15 - n by omega]
  show (2 * endC c n + c n) * 2 ^ (15 - n) = _
  rw [Int.add_mul, Int.mul_comm 2 (endC c n), Int.mul_assoc]

theorem endS_mono {c : Nat → Int} (h : OkC c 16) : ∀ (m k : Nat), m ≤ k → k ≤ 16 → endS c m ≤ endS c k := by
  intro m k hmk
  induction k with
  | zero => intro _; obtain rfl : m = 0 := by omega
            exact Int.le_refl _
  | succ k ih =>
    intro hk
    by_cases e : m = k + 1
    · subst e; exact Int.le_refl _
    · have h1 := ih (by omega) (by omega)
      rw [endS_succ c k (by omega)]
      have := Int.mul_nonneg (h k (by omega)).1 (show (0 : Int) ≤ 2 ^ (15 - k) by have := pow_pos' (15 - k); omega)
      omega

/-- Code number k of length n + 1: its number, and the same of sixteen bits. -/
def codeV (c : Nat → Int) (n : Nat) (k : Int) : Int := 2 * endC c n + k
def codeS (c : Nat → Int) (n : Nat) (k : Int) : Int := endS c n + k * 2 ^ (15 - n)

theorem codeS_of (c : Nat → Int) (n : Nat) (hn : n < 16) (k : Int) : codeV c n k * 2 ^ (15 - n) = codeS c n k := by
  unfold codeV codeS endS
  rw [pow_split n hn, Int.add_mul, Int.mul_comm 2 (endC c n), Int.mul_assoc]

/-- Bits begin with a code: they lie between it and the one behind. -/
theorem begins_iff (c : Nat → Int) (n : Nat) (hn : n < 16) (k b : Int) : b / 2 ^ (15 - n) = codeV c n k ↔ codeS c n k ≤ b ∧ b < codeS c n k + 2 ^ (15 - n) := by
  have hp := pow_pos' (15 - n)
  rw [← codeS_of c n hn k]
  generalize (2 : Int) ^ (15 - n) = p at *
  have e1 := Int.emod_add_mul_ediv b p
  have e2 := Int.emod_nonneg b (show p ≠ 0 by omega)
  have e3 := Int.emod_lt_of_pos b (show 0 < p by omega)
  rw [Int.mul_comm] at e1
  constructor
  · intro h
    rw [h] at e1
    omega
  · intro ⟨h1, h2⟩
    generalize codeV c n k = v at *
    have h3 : (b / p) * p < (v + 1) * p := by rw [Int.add_mul]; omega
    have h4 : v * p < (b / p + 1) * p := by rw [Int.add_mul]; omega
    have h5 := Int.lt_of_mul_lt_mul_right h3 (by omega)
    have h6 := Int.lt_of_mul_lt_mul_right h4 (by omega)
    omega

/-- Codes that come later lie above. -/
theorem codes_rise {c : Nat → Int} (h : OkC c 16) {n n' : Nat} {k k' : Int} (hn : n < 16) (hn' : n' < 16) (hk : 0 ≤ k ∧ k < c n) (hk' : 0 ≤ k' ∧ k' < c n') (hl : n < n' ∨ (n = n' ∧ k < k')) : codeS c n k + 2 ^ (15 - n) ≤ codeS c n' k' := by
  rcases hl with hl | ⟨rfl, hl⟩
  · have h1 := endS_mono h (n + 1) n' (by omega) (by omega)
    rw [endS_succ c n hn] at h1
    have hp := pow_pos' (15 - n)
    have hp' := pow_pos' (15 - n')
    have h2 : (k + 1) * 2 ^ (15 - n) ≤ c n * 2 ^ (15 - n) := Int.mul_le_mul_of_nonneg_right (by omega) (by omega)
    have h3 : 0 ≤ k' * 2 ^ (15 - n') := Int.mul_nonneg hk'.1 (by omega)
    unfold codeS
    rw [Int.add_mul] at h2
    omega
  · have hp := pow_pos' (15 - n)
    have h2 : (k + 1) * 2 ^ (15 - n) ≤ k' * 2 ^ (15 - n) := Int.mul_le_mul_of_nonneg_right (by omega) (by omega)
    unfold codeS
    rw [Int.add_mul] at h2
    omega

/-- No code begins another one: bits begin with one code at most. -/
theorem begins_one {c : Nat → Int} (h : OkC c 16) {n n' : Nat} {k k' b : Int} (hn : n < 16) (hn' : n' < 16) (hk : 0 ≤ k ∧ k < c n) (hk' : 0 ≤ k' ∧ k' < c n') (h1 : b / 2 ^ (15 - n) = codeV c n k) (h2 : b / 2 ^ (15 - n') = codeV c n' k') : n = n' ∧ k = k' := by
  have e1 := (begins_iff c n hn k b).1 h1
  have e2 := (begins_iff c n' hn' k' b).1 h2
  have hp := pow_pos' (15 - n)
  have hp' := pow_pos' (15 - n')
  by_cases hl : n < n' ∨ (n = n' ∧ k < k')
  · have := codes_rise h hn hn' hk hk' hl
    omega
  · by_cases hg : n' < n ∨ (n' = n ∧ k' < k)
    · have := codes_rise h hn' hn hk' hk hg
      omega
    · omega

/-- A code's number has its length, and is not of ones alone. -/
theorem codeV_in {c : Nat → Int} (h : OkC c 16) {n : Nat} {k : Int} (hn : n < 16) (hk : 0 ≤ k ∧ k < c n) : 0 ≤ codeV c n k ∧ codeV c n k < 2 ^ (n + 1) - 1 := by
  have h1 := endC_pos h n (by omega)
  have h2 := (h n hn).2.2 (by omega)
  have h3 : endC c (n + 1) = 2 * endC c n + c n := rfl
  unfold codeV
  omega

/-- Ones alone begin with no code. -/
theorem ones_none {c : Nat → Int} (h : OkC c 16) {n : Nat} {k : Int} (hn : n < 16) (hk : 0 ≤ k ∧ k < c n) : ¬ (65535 : Int) / 2 ^ (15 - n) = codeV c n k := by
  intro e
  have hb := (codeV_in h hn hk).2
  have hq : (65535 : Int) / 2 ^ (15 - n) = 2 ^ (n + 1) - 1 := by
    have hc : n = 0 ∨ n = 1 ∨ n = 2 ∨ n = 3 ∨ n = 4 ∨ n = 5 ∨ n = 6 ∨ n = 7 ∨ n = 8 ∨ n = 9 ∨ n = 10 ∨ n = 11 ∨ n = 12 ∨ n = 13 ∨ n = 14 ∨ n = 15 := by omega
    rcases hc with rfl | rfl | rfl | rfl | rfl | rfl | rfl | rfl | rfl | rfl | rfl | rfl | rfl | rfl | rfl | rfl <;> decide
  omega

/-- How long the code is of the p-th value that is laid: one more than the lengths that end ahead of it. -/
def lenF (c : Nat → Int) : Nat → Int → Nat
  | 0, _ => 0
  | n + 1, p => if cnt c (n + 1) ≤ p then n + 1 else lenF c n p
def len0 (c : Nat → Int) (p : Int) : Nat := lenF c 16 p

theorem lenF_of {c : Nat → Int} {N : Nat} (h : OkC c N) (n : Nat) (k : Int) (hk : 0 ≤ k ∧ k < c n) : ∀ m, n < m → m ≤ N → lenF c m (cnt c n + k) = n := by
  intro m
  induction m with
  | zero => intro h0; omega
  | succ m ih =>
    intro h1 h2
    show (if cnt c (m + 1) ≤ cnt c n + k then m + 1 else lenF c m (cnt c n + k)) = n
    have h3 := cnt_mono h (n + 1) (m + 1) (by omega) h2
    have h4 : cnt c (n + 1) = cnt c n + c n := rfl
    rw [if_neg (by omega)]
    by_cases e : n = m
    · subst e
      cases n with
      | zero => rfl
      | succ q =>
        show (if cnt c (q + 1) ≤ cnt c (q + 1) + k then q + 1 else lenF c q (cnt c (q + 1) + k)) = q + 1
        rw [if_pos (by omega)]
    · exact ih (by omega) (by omega)

/-- Where the p-th value stands. -/
theorem place_of {c : Nat → Int} (h : OkC c 16) : ∀ (N : Nat), N ≤ 16 → ∀ p : Int, 0 ≤ p → p < cnt c N → ∃ n k, n < N ∧ 0 ≤ k ∧ k < c n ∧ p = cnt c n + k := by
  intro N
  induction N with
  | zero => intro _ p h0 h1; have : cnt c 0 = 0 := rfl; omega
  | succ N ih =>
    intro hN p h0 h1
    by_cases e : p < cnt c N
    · obtain ⟨n, k, h2, h3, h4, h5⟩ := ih (by omega) p h0 e
      exact ⟨n, k, by omega, h3, h4, h5⟩
    · have : cnt c (N + 1) = cnt c N + c N := rfl
      exact ⟨N, p - cnt c N, by omega, by omega, by omega, by omega⟩

end Go.Proofs.Ytlpeplihbdcklaa
