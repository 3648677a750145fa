/- Codes that are too long are made shorter. No program. -/
import Derived.Test.YtlpeplihbdcklaaOpTree
namespace Go.Proofs.Ytlpeplihbdcklaa
set_option linter.unusedVariables false

/-- The greatest place up to k where there are any. -/
def anyTo (l : Nat → Int) : Nat → Nat
  | 0 => 0
  | k + 1 => if l (k + 1) = 0 then anyTo l k else k + 1

theorem anyTo_le (l : Nat → Int) : ∀ k, anyTo l k ≤ k
  | 0 => Nat.le_refl _
  | k + 1 => by unfold anyTo; have := anyTo_le l k; split <;> omega

theorem anyTo_at (l : Nat → Int) (k j : Nat) (hj : 1 ≤ j) (hk : j ≤ k) (h : l j ≠ 0) : l (anyTo l k) ≠ 0 ∧ j ≤ anyTo l k := by
  induction k with
  | zero => omega
  | succ k ih =>
    unfold anyTo
    by_cases e : l (k + 1) = 0
    · rw [if_pos e]
      have : j ≠ k + 1 := fun q => h (q ▸ e)
      exact ih (by omega)
    · rw [if_neg e]; exact ⟨e, hk⟩

theorem anyTo_none (l : Nat → Int) (k s : Nat) (h1 : anyTo l k < s) (h2 : s ≤ k) : l s = 0 := by
  induction k with
  | zero => omega
  | succ k ih =>
    unfold anyTo at h1
    by_cases e : l (k + 1) = 0
    · rw [if_pos e] at h1
      by_cases q : s = k + 1
      · rw [q]; exact e
      · exact ih h1 (by omega)
    · rw [if_neg e] at h1; omega

/-- Two of length i go, one of i - 1 comes; one of j goes, two of j + 1 come. -/
def cut1 (l : Nat → Int) (i : Nat) : Nat → Int := fun s => l s + ((if s = i then -2 else 0) + ((if s = i - 1 then 1 else 0) + ((if s = anyTo l (i - 2) + 1 then 2 else 0) + (if s = anyTo l (i - 2) then -1 else 0))))
def cutAt (i : Nat) : Nat → (Nat → Int) → (Nat → Int)
  | 0, l => l
  | k + 1, l => if 0 < l i then cutAt i k (cut1 l i) else l
/-- From length 16 + m on. -/
def cutAll : Nat → (Nat → Int) → (Nat → Int)
  | 0, l => l
  | m + 1, l => cutAll m (cutAt (17 + m) 300 l)

/-- Counts that fill just what there is: none is longer than i. -/
structure Full (l : Nat → Int) (i : Nat) (T : Int) : Prop where
  pos : ∀ s, s < 260 → 0 ≤ l s
  zero : l 0 = 0
  top : ∀ s, i < s → s < 260 → l s = 0
  kraft : sm (fun s => l s * 2 ^ (259 - s)) 260 = 2 ^ 259
  total : sm l 260 = T

theorem p2 (a b : Nat) (h : a ≤ b) : (2 : Int) ^ b = 2 ^ (b - a) * 2 ^ a := by rw [← Int.pow_add, show b - a + a = b by omega]

/-- Of the greatest length there are two, four .. -/
theorem Full.even {l : Nat → Int} {i : Nat} {T : Int} (h : Full l i T) (h1 : 1 ≤ i) (h2 : i < 260) : ∃ r, l i = 2 * r := by
  have o := sm_one (f := fun s => if s = i then 0 else l s * 2 ^ (259 - s)) (g := fun s => l s * 2 ^ (259 - s)) (k := i) (fun s hs => by simp [hs]) h2
  obtain ⟨R, hR⟩ := sm_dvd (f := fun s => if s = i then 0 else l s * 2 ^ (259 - s)) (c := 2 ^ (260 - i)) (n := 260) (fun s hs => by
    by_cases e : s = i
    · exact ⟨0, by simp [e]⟩
    · by_cases q : i < s
      · exact ⟨0, by simp [e, h.top s q hs]⟩
      · refine ⟨l s * 2 ^ (i - 1 - s), ?_⟩
        rw [if_neg e, Int.mul_assoc, ← Int.pow_add, show i - 1 - s + (260 - i) = 259 - s by omega])
  simp only [if_true] at o
  rw [hR, h.kraft] at o
  have e1 : (2 : Int) ^ (260 - i) = 2 * 2 ^ (259 - i) := by rw [show 260 - i = (259 - i) + 1 by omega, Int.pow_succ]; omega
  have e2 : (2 : Int) ^ 259 = 2 ^ (i - 1) * 2 ^ (260 - i) := by rw [← Int.pow_add, show i - 1 + (260 - i) = 259 by omega]
  rw [e2, e1] at o
  have hp := one_le_pow (259 - i)
  refine ⟨2 ^ (i - 1) - R, ?_⟩
  have : (l i) * 2 ^ (259 - i) = (2 * (2 ^ (i - 1) - R)) * 2 ^ (259 - i) := by
    rw [Int.mul_sub, Int.sub_mul, Int.mul_assoc, Int.mul_assoc]
    have a1 : (2 : Int) * (2 ^ (i - 1) * 2 ^ (259 - i)) = 2 ^ (i - 1) * (2 * 2 ^ (259 - i)) := by rw [← Int.mul_assoc, Int.mul_comm 2, Int.mul_assoc]
    have a2 : (2 : Int) * (R * 2 ^ (259 - i)) = R * (2 * 2 ^ (259 - i)) := by rw [← Int.mul_assoc, Int.mul_comm 2, Int.mul_assoc]
    rw [a1, a2]
    omega
  exact Int.eq_of_mul_eq_mul_right (by omega) this

/-- There are shorter ones. -/
theorem Full.shorter {l : Nat → Int} {i : Nat} {T : Int} (h : Full l i T) (h1 : 17 ≤ i) (h2 : i < 260) (hT : T ≤ 257) : ∃ j, 1 ≤ j ∧ j ≤ i - 2 ∧ l j ≠ 0 := by
  apply Classical.byContradiction
  intro hn
  have hz : ∀ s, s ≤ i - 2 → l s = 0 := fun s hs => by
    rcases Nat.eq_zero_or_pos s with e | e
    · rw [e]; exact h.zero
    · exact Classical.byContradiction fun q => hn ⟨s, e, hs, q⟩
  have hle : sm (fun s => l s * 2 ^ (259 - s)) 260 ≤ sm (fun s => 2 ^ (260 - i) * l s) 260 := sm_le (fun s hs => by
    by_cases e : s ≤ i - 2
    · rw [hz s e]; simp
    · rw [Int.mul_comm (2 ^ (260 - i))]
      exact Int.mul_le_mul_of_nonneg_left (pow_le (by omega)) (h.pos s hs))
  rw [h.kraft, sm_mul, h.total] at hle
  have e1 : (2 : Int) ^ 259 = 2 ^ (260 - i) * 2 ^ (i - 1) := by rw [← Int.pow_add, show 260 - i + (i - 1) = 259 by omega]
  have h3 : (2 : Int) ^ 16 ≤ 2 ^ (i - 1) := pow_le (by omega)
  have h4 : (2 : Int) ^ 16 = 65536 := by decide
  have hp := one_le_pow (260 - i)
  have h5 : (2 : Int) ^ (260 - i) * T < 2 ^ (260 - i) * 2 ^ (i - 1) := Int.mul_lt_mul_of_pos_left (by omega) (by omega)
  omega

theorem Full.cut {l : Nat → Int} {i : Nat} {T : Int} (h : Full l i T) (h1 : 17 ≤ i) (h2 : i < 260) (hT : T ≤ 257) (h3 : 0 < l i) : Full (cut1 l i) i T ∧ cut1 l i i = l i - 2 := by
  obtain ⟨j0, a1, a2, a3⟩ := h.shorter h1 h2 hT
  obtain ⟨b1, b2⟩ := anyTo_at l (i - 2) j0 a1 a2 a3
  have b3 := anyTo_le l (i - 2)
  obtain ⟨r, hr⟩ := h.even (by omega) h2
  unfold cut1
  generalize anyTo l (i - 2) = j at *
  have hj : 0 < l j := by have := h.pos j (by omega); omega
  have ei : (l i + ((if i = i then -2 else 0) + ((if i = i - 1 then 1 else 0) + ((if i = j + 1 then 2 else 0) + (if i = j then -1 else 0))))) = l i - 2 := by
    rw [if_pos rfl, if_neg (by omega), if_neg (by omega), if_neg (by omega)]; omega
  refine ⟨⟨fun s hs => ?_, ?_, fun s hs hs2 => ?_, ?_, ?_⟩, ei⟩
  · have h0 := h.pos s hs
    by_cases c1 : s = i
    · rw [c1, ei]; omega
    · by_cases c2 : s = j
      · rw [c2, if_neg (by omega), if_neg (by omega), if_neg (by omega), if_pos rfl]; omega
      · rw [if_neg c1, if_neg c2]
        split <;> split <;> omega
  · rw [h.zero, if_neg (by omega), if_neg (by omega), if_neg (by omega), if_neg (by omega)]; rfl
  · rw [h.top s hs hs2, if_neg (by omega), if_neg (by omega), if_neg (by omega), if_neg (by omega)]; rfl
  · have e : ∀ s, s < 260 → (l s + ((if s = i then -2 else 0) + ((if s = i - 1 then 1 else 0) + ((if s = j + 1 then 2 else 0) + (if s = j then -1 else 0))))) * 2 ^ (259 - s) =
        l s * 2 ^ (259 - s) + ((if s = i then -2 * 2 ^ (259 - i) else 0) + ((if s = i - 1 then 2 ^ (259 - (i - 1)) else 0) + ((if s = j + 1 then 2 * 2 ^ (259 - (j + 1)) else 0) + (if s = j then -1 * 2 ^ (259 - j) else 0)))) := fun s hs => by
      rw [Int.add_mul, Int.add_mul, Int.add_mul, Int.add_mul]
      congr 1
      congr 1
      · split
        · rename_i q; rw [q]
        · simp
      · congr 1
        · split
          · rename_i q; rw [q, Int.one_mul]
          · simp
        · congr 1
          · split
            · rename_i q; rw [q]
            · simp
          · split
            · rename_i q; rw [q]
            · simp
    rw [sm_congr e, sm_add, sm_add, sm_add, sm_add, h.kraft, sm_at (by omega), sm_at (by omega), sm_at (by omega), sm_at (by omega)]
    have e1 : (2 : Int) ^ (259 - (i - 1)) = 2 * 2 ^ (259 - i) := by rw [show 259 - (i - 1) = (259 - i) + 1 by omega, Int.pow_succ]; omega
    have e2 : (2 : Int) ^ (259 - j) = 2 * 2 ^ (259 - (j + 1)) := by rw [show 259 - j = (259 - (j + 1)) + 1 by omega, Int.pow_succ]; omega
    rw [e1, e2]
    generalize (2 : Int) ^ (259 - i) = u
    generalize (2 : Int) ^ (259 - (j + 1)) = v
    omega
  · rw [sm_add, sm_add, sm_add, sm_add, h.total, sm_at (by omega), sm_at (by omega), sm_at (by omega), sm_at (by omega)]
    omega

theorem Full.cutAt {i : Nat} {T : Int} (h1 : 17 ≤ i) (h2 : i < 260) (hT : T ≤ 257) : ∀ (k : Nat) {l : Nat → Int} (h : Full l i T), l i ≤ 2 * k → Full (cutAt i k l) (i - 1) T
  | 0, l, h, hk => by
    have h0 := h.pos i h2
    exact ⟨h.pos, h.zero, fun s hs hs2 => by
      by_cases e : s = i
      · subst e
        show l s = 0
        omega
      · exact h.top s (by omega) hs2, h.kraft, h.total⟩
  | k + 1, l, h, hk => by
    unfold Proofs.Ytlpeplihbdcklaa.cutAt
    by_cases h3 : 0 < l i
    · rw [if_pos h3]
      obtain ⟨c1, c2⟩ := h.cut h1 h2 hT h3
      exact Full.cutAt h1 h2 hT k c1 (by rw [c2]; omega)
    · rw [if_neg h3]
      have h0 := h.pos i h2
      exact ⟨h.pos, h.zero, fun s hs hs2 => by
        by_cases e : s = i
        · subst e; omega
        · exact h.top s (by omega) hs2, h.kraft, h.total⟩

theorem Full.cutAll {T : Int} (hT : T ≤ 257) : ∀ (m : Nat) {l : Nat → Int} (h : Full l (16 + m) T), 16 + m < 260 → Full (cutAll m l) 16 T
  | 0, l, h, _ => h
  | m + 1, l, h, hm => by
    unfold Proofs.Ytlpeplihbdcklaa.cutAll
    have hle : l (17 + m) ≤ T := by rw [← h.total]; exact sm_term h.pos (by omega)
    have := Full.cutAt (i := 17 + m) (by omega) (by omega) hT 300 (l := l) (by rw [show 17 + m = 16 + (m + 1) by omega]; exact h) (by omega)
    rw [show 17 + m - 1 = 16 + m by omega] at this
    exact Full.cutAll hT m this (by omega)

/-- Nothing is too long: all is as it was. -/
theorem cutAll_none : ∀ (m : Nat) (l : Nat → Int), (∀ s, 16 < s → s ≤ 16 + m → l s ≤ 0) → cutAll m l = l
  | 0, l, _ => rfl
  | m + 1, l, h => by
    unfold cutAll
    have e : cutAt (17 + m) 300 l = l := by
      show (if 0 < l (17 + m) then _ else l) = l
      rw [if_neg (by have := h (17 + m) (by omega) (by omega); omega)]
    rw [e]
    exact cutAll_none m l (fun s h1 h2 => h s h1 (by omega))

end Go.Proofs.Ytlpeplihbdcklaa
