/- What is loaded out of a window, what lies in it behind a store: by places. No program is walked. -/
import Derived.Test.YthfdabcknagjoaaScanLaw
namespace Go.Proofs.Ythfdabcknagjoaa
open Go.RowKit

theorem word_lay (l : List Int) (j n i : Int) (h0 : 0 ≤ j) (h1 : j < l.length) : word (lay l j n) i = if i = j then n else word l i := by
  obtain ⟨k, rfl⟩ : ∃ k : Nat, j = k := ⟨j.toNat, by omega⟩
  rw [lay_at]
  by_cases hi : 0 ≤ i
  · obtain ⟨m, rfl⟩ : ∃ m : Nat, i = m := ⟨i.toNat, by omega⟩
    unfold word
    simp only [hi, if_true, Int.toNat_natCast, List.getElem?_set]
    by_cases e : k = m
    · subst e
      simp [show k < l.length by omega]
    · rw [if_neg e, if_neg (by omega)]
  · rw [if_neg (by omega)]
    unfold word
    rw [if_neg hi, if_neg hi]

theorem word_upd (f : Int → Int → Int) (l : List Int) (A i : Int) (k : Nat) (h0 : 0 ≤ A) (h1 : A + k ≤ l.length) : word (upd f l A k) i = if A ≤ i ∧ i < A + k then f i (word l i) else word l i := by
  induction k with
  | zero => rw [if_neg (by omega)]; rfl
  | succ k ih =>
    have ih := ih (by omega)
    rw [upd, word_lay _ _ _ _ (by omega) (by rw [upd_length]; omega)]
    by_cases e : i = A + k
    · rw [if_pos e, if_pos (by omega), ← e, ih, if_neg (by omega)]
    · rw [if_neg e, ih]
      by_cases c : A ≤ i ∧ i < A + k
      · rw [if_pos c, if_pos (by omega)]
      · rw [if_neg c, if_neg (by omega)]

theorem acc_ld (a : Int) (l : List Int) (A : Int) (k : Nat) : acc (ldF a) l A k = if A ≤ a ∧ a < A + k then word l a else 0 := by
  induction k with
  | zero => rw [if_neg (by omega)]; rfl
  | succ k ih =>
    rw [acc, ih]
    unfold ldF
    by_cases e : a = A + k
    · rw [if_pos e, if_pos (by omega), e]
    · rw [if_neg e]
      by_cases c : A ≤ a ∧ a < A + k
      · rw [if_pos c, if_pos (by omega)]
      · rw [if_neg c, if_neg (by omega)]

theorem word_noughts (n : Nat) (i : Int) : word (List.replicate n 0) i = 0 := by
  unfold word
  split
  · rw [List.getElem?_replicate]; split <;> rfl
  · rfl

theorem word_nat (l : List Int) (k : Nat) (h : k < l.length) : l[k] = word l k := (word_at l k h).symm

theorem noughts_in (n : Nat) : I64s (List.replicate n 0) := by
  intro x hx
  have := List.eq_of_mem_replicate hx
  subst this
  omega

theorem wide_le (n : Nat) (f u : Int) : 0 ≤ lo n f ∧ lo n f + wide n f u ≤ n ∨ 0 ≤ lo n f ∧ lo n f ≤ n ∧ wide n f u = 0 := by
  have h1 := clip_bounds f n
  have h2 := clip_bounds u n
  unfold lo wide
  omega

theorem wide_in (n : Nat) (f u : Int) : 0 ≤ lo n f ∧ lo n f + wide n f u ≤ n := by
  have h1 := clip_bounds f n
  have h2 := clip_bounds u n
  unfold lo wide
  omega

theorem clip_zero (n : Nat) : clipF 0 0 n = 0 := by unfold clipF; split <;> (try split) <;> omega
theorem clip_all (n : Nat) : clipF n 0 n = n := by unfold clipF; split <;> (try split) <;> omega
theorem lo_zero (n : Nat) : lo n 0 = 0 := clip_zero n
theorem wide_all (n : Nat) : wide n 0 n = n := by unfold wide; rw [clip_zero, clip_all]; omega

end Go.Proofs.Ythfdabcknagjoaa
