/- Codes as they are laid, of counts that are none below 0 and none above 255. No program. -/
import Derived.Test.YtadcfndjbhcfbaaHuCode
namespace Go.Proofs.Ytadcfndjbhcfbaa
set_option linter.unusedVariables false

/-- Counts that may stand in a header. -/
def Cnt (c : Nat → Int) : Prop := ∀ i, i < 16 → 0 ≤ c i ∧ c i ≤ 255

theorem OkC.counts {c : Nat → Int} (h : OkC c 16) : Cnt c := fun i hi => ⟨(h i hi).1, (h i hi).2.1⟩

theorem Cnt.mono {c : Nat → Int} (h : Cnt c) : ∀ (m k : Nat), m ≤ k → k ≤ 16 → cnt c m ≤ cnt c k := by
  intro m k hmk
  induction k with
  | zero => intro _; obtain rfl : m = 0 := by omega
            exact Int.le_refl _
  | succ k ih =>
    intro hk
    by_cases e : m = k + 1
    · subst e; exact Int.le_refl _
    · have := ih (by omega) (by omega)
      have := (h k (by omega)).1
      show cnt c m ≤ cnt c k + c k
      omega

theorem Cnt.pos {c : Nat → Int} (h : Cnt c) (m : Nat) (hm : m ≤ 16) : 0 ≤ cnt c m := h.mono 0 m (by omega) hm

theorem Cnt.most {c : Nat → Int} (h : Cnt c) : ∀ m, m ≤ 16 → cnt c m ≤ 255 * m := by
  intro m
  induction m with
  | zero => intro _; show (0 : Int) ≤ _; omega
  | succ m ih => intro hm; have := ih (by omega); have := (h m (by omega)).2; show cnt c m + c m ≤ _; omega

theorem Cnt.endPos {c : Nat → Int} (h : Cnt c) : ∀ m, m ≤ 16 → 0 ≤ endC c m := by
  intro m
  induction m with
  | zero => intro _; exact Int.le_refl _
  | succ m ih => intro hm; have := ih (by omega); have := (h m (by omega)).1; show 0 ≤ 2 * endC c m + c m; omega

theorem Cnt.endMost {c : Nat → Int} (h : Cnt c) : ∀ m, m ≤ 16 → endC c m ≤ 255 * (2 ^ m - 1) := by
  intro m
  induction m with
  | zero => intro _; show (0 : Int) ≤ _; decide
  | succ m ih => intro hm; have := ih (by omega); have := (h m (by omega)).2; show 2 * endC c m + c m ≤ _; rw [Int.pow_succ]; omega

theorem Cnt.endSmall {c : Nat → Int} (h : Cnt c) (m : Nat) (hm : m ≤ 16) : 0 ≤ endC c m ∧ endC c m ≤ 20000000 := by
  have h1 := h.endPos m hm
  have h2 := h.endMost m hm
  have h3 : (2 : Int) ^ m ≤ 65536 := by
    have := Nat.pow_le_pow_right (n := 2) (by decide) hm
    have e : (2 : Nat) ^ 16 = 65536 := by decide
    rw [e] at this
    have e2 : ((2 ^ m : Nat) : Int) = (2 : Int) ^ m := by simp
    omega
  omega

theorem Cnt.lenF {c : Nat → Int} (h : Cnt c) (n : Nat) (k : Int) (hk : 0 ≤ k ∧ k < c n) : ∀ m, n < m → m ≤ 16 → lenF c m (cnt c n + k) = n := by
  intro m
  induction m with
  | zero => intro h0; omega
  | succ m ih =>
    intro h1 h2
    show (if cnt c (m + 1) ≤ cnt c n + k then m + 1 else Proofs.Ytadcfndjbhcfbaa.lenF c m (cnt c n + k)) = n
    have h3 := h.mono (n + 1) (m + 1) (by omega) h2
    have h4 : cnt c (n + 1) = cnt c n + c n := rfl
    rw [if_neg (by omega)]
    by_cases e : n = m
    · subst e
      cases n with
      | zero => rfl
      | succ q =>
        show (if cnt c (q + 1) ≤ cnt c (q + 1) + k then q + 1 else Proofs.Ytadcfndjbhcfbaa.lenF c q (cnt c (q + 1) + k)) = q + 1
        rw [if_pos (by omega)]
    · exact ih (by omega) (by omega)

/-- At count k of length n + 1. -/
theorem Cnt.at {c : Nat → Int} (h : Cnt c) (n : Nat) (hn : n < 16) (k : Int) (hk : 0 ≤ k ∧ k < c n) (p : Nat) (hp : (p : Int) = cnt c n + k) : lenP c p = n + 1 ∧ numP c p = codeV c n k := by
  unfold lenP numP len0
  rw [hp, h.lenF n k hk 16 hn (Nat.le_refl _)]
  exact ⟨rfl, by rw [show cnt c n + k - cnt c n = k by omega]⟩

theorem cnt_place (c : Nat → Int) : ∀ (N : Nat), N ≤ 16 → ∀ p : Int, 0 ≤ p → p < cnt c N → ∃ n k, n < N ∧ 0 ≤ k ∧ k < c n ∧ p = cnt c n + k := by
  intro N
  induction N with
  | zero => intro _ p h0 h1; have : cnt c 0 = 0 := rfl; omega
  | succ N ih =>
    intro hN p h0 h1
    by_cases e : p < cnt c N
    · obtain ⟨n, k, h2, h3, h4, h5⟩ := ih (by omega) p h0 e
      exact ⟨n, k, by omega, h3, h4, h5⟩
    · have : cnt c (N + 1) = cnt c N + c N := rfl
      exact ⟨N, p - cnt c N, by omega, by omega, by omega, by omega⟩

/-- Where the p-th code stands. -/
theorem Cnt.place {c : Nat → Int} (h : Cnt c) (p : Nat) (hp : (p : Int) < cnt c 16) : ∃ n k, n < 16 ∧ 0 ≤ k ∧ k < c n ∧ (p : Int) = cnt c n + k ∧ lenP c p = n + 1 ∧ numP c p = codeV c n k := by
  obtain ⟨n, k, h1, h2, h3, h4⟩ := cnt_place c 16 (Nat.le_refl _) p (by omega) hp
  have := h.at n h1 k ⟨h2, h3⟩ p h4
  exact ⟨n, k, h1, h2, h3, h4, this.1, this.2⟩

/-- A code's length and number, whatever the counts. -/
theorem Cnt.small {c : Nat → Int} (h : Cnt c) (p : Nat) (hp : (p : Int) < cnt c 16) : 1 ≤ lenP c p ∧ lenP c p ≤ 16 ∧ 0 ≤ numP c p ∧ numP c p ≤ 50000000 := by
  obtain ⟨n, k, h1, h2, h3, h4, h5, h6⟩ := h.place p hp
  have e := h.endSmall n (by omega)
  have := (h n h1).2
  rw [h5, h6]
  unfold codeV
  omega

/-- Counts may be just where each code is below the ones of its length. -/
theorem Cnt.below {c : Nat → Int} (h : Cnt c) : OkC c 16 ↔ ∀ p : Nat, (p : Int) < cnt c 16 → numP c p < 2 ^ lenP c p - 1 := by
  constructor
  · intro ho p hp
    obtain ⟨n, k, h1, h2, h3, h4, h5, h6⟩ := h.place p hp
    rw [h5, h6]
    exact (codeV_in ho h1 ⟨h2, h3⟩).2
  · intro hp i hi
    refine ⟨(h i hi).1, (h i hi).2, fun hc => ?_⟩
    have e0 := h.pos i (by omega)
    have e1 := h.mono (i + 1) 16 (by omega) (Nat.le_refl _)
    have e2 : cnt c (i + 1) = cnt c i + c i := rfl
    have e3 : endC c (i + 1) = 2 * endC c i + c i := rfl
    have hN : (((cnt c i + (c i - 1)).toNat : Nat) : Int) = cnt c i + (c i - 1) := by omega
    have h1 := hp (cnt c i + (c i - 1)).toNat (by omega)
    obtain ⟨q1, q2⟩ := h.at i hi (c i - 1) ⟨by omega, by omega⟩ _ hN
    rw [q1, q2] at h1
    unfold codeV at h1
    omega

end Go.Proofs.Ytadcfndjbhcfbaa
