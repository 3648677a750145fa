/- Codes of values, and what bits find. No program. -/
import Derived.Test.YtlpeplihbdcklaaHuMath
namespace Go.Proofs.Ytlpeplihbdcklaa
set_option linter.unusedVariables false

def okB (c : Nat → Int) (n : Nat) : Bool := (List.range n).all fun i => decide (0 ≤ c i ∧ c i ≤ 255 ∧ (0 < c i → endC c (i + 1) ≤ 2 ^ (i + 1) - 1))
def checkB (c : Nat → Int) (l : List Int) : Bool := okB c 16 && decide (cnt c 16 = l.length) && decide (l.length ≤ 256) && decide l.Nodup

theorem okB_iff (c : Nat → Int) (n : Nat) : okB c n = true ↔ OkC c n := by
  unfold okB OkC
  rw [List.all_eq_true]
  constructor
  · intro h i hi; exact of_decide_eq_true (h i (List.mem_range.2 hi))
  · intro h i hi; exact decide_eq_true (h i (List.mem_range.1 hi))

theorem checkB_iff (c : Nat → Int) (l : List Int) : checkB c l = true ↔ OkT c l := by
  unfold checkB
  simp only [Bool.and_eq_true, decide_eq_true_eq, okB_iff]
  exact ⟨fun ⟨⟨⟨h1, h2⟩, h3⟩, h4⟩ => ⟨h1, h2, h3, h4⟩, fun h => ⟨⟨⟨h.ok, h.sum⟩, h.most⟩, h.once⟩⟩

theorem checkB_not (c : Nat → Int) (l : List Int) (h : ¬ OkT c l) : checkB c l = false := by
  rw [← Bool.not_eq_true, checkB_iff]; exact h

/-- The code of the p-th value that is laid: its length, and its number. -/
def lenP (c : Nat → Int) (p : Nat) : Nat := len0 c (p : Int) + 1
def numP (c : Nat → Int) (p : Nat) : Int := codeV c (len0 c (p : Int)) ((p : Int) - cnt c (len0 c (p : Int)))

theorem len0_of {c : Nat → Int} (h : OkC c 16) (n : Nat) (hn : n < 16) (k : Int) (hk : 0 ≤ k ∧ k < c n) : len0 c (cnt c n + k) = n := lenF_of h n k hk 16 hn (Nat.le_refl _)

/-- At count k of length n + 1. -/
theorem p_at {c : Nat → Int} (h : OkC c 16) (n : Nat) (hn : n < 16) (k : Int) (hk : 0 ≤ k ∧ k < c n) (p : Nat) (hp : (p : Int) = cnt c n + k) : lenP c p = n + 1 ∧ numP c p = codeV c n k := by
  unfold lenP numP
  rw [hp, len0_of h n hn k hk]
  exact ⟨rfl, by rw [show cnt c n + k - cnt c n = k by omega]⟩

/-- Where the p-th value stands. -/
theorem p_place {c : Nat → Int} {l : List Int} (h : OkT c l) (p : Nat) (hp : p < l.length) : ∃ n k, n < 16 ∧ 0 ≤ k ∧ k < c n ∧ (p : Int) = cnt c n + k ∧ lenP c p = n + 1 ∧ numP c p = codeV c n k := by
  have hs := h.sum
  obtain ⟨n, k, h1, h2, h3, h4⟩ := place_of h.ok 16 (Nat.le_refl _) p (by omega) (by omega)
  have := p_at h.ok n h1 k ⟨h2, h3⟩ p h4
  exact ⟨n, k, h1, h2, h3, h4, this.1, this.2⟩

/-- Bits begin with the code of the p-th value. -/
def Begins (c : Nat → Int) (p : Nat) (b : Int) : Prop := b / 2 ^ (16 - lenP c p) = numP c p

theorem begins_same {c : Nat → Int} {l : List Int} (h : OkT c l) {p q : Nat} (hp : p < l.length) (hq : q < l.length) {b : Int} (h1 : Begins c p b) (h2 : Begins c q b) : p = q := by
  obtain ⟨n, k, n1, k1, k2, e1, e2, e3⟩ := p_place h p hp
  obtain ⟨n', k', n1', k1', k2', e1', e2', e3'⟩ := p_place h q hq
  unfold Begins at h1 h2
  rw [e2, e3, show 16 - (n + 1) = 15 - n by omega] at h1
  rw [e2', e3', show 16 - (n' + 1) = 15 - n' by omega] at h2
  obtain ⟨rfl, rfl⟩ := begins_one h.ok n1 n1' ⟨k1, k2⟩ ⟨k1', k2'⟩ h1 h2
  omega

theorem begins_ones {c : Nat → Int} {l : List Int} (h : OkT c l) {p : Nat} (hp : p < l.length) : ¬ Begins c p 65535 := by
  obtain ⟨n, k, n1, k1, k2, e1, e2, e3⟩ := p_place h p hp
  unfold Begins
  rw [e2, e3, show 16 - (n + 1) = 15 - n by omega]
  exact ones_none h.ok n1 ⟨k1, k2⟩

/-- The code's length and number. -/
theorem p_in {c : Nat → Int} {l : List Int} (h : OkT c l) {p : Nat} (hp : p < l.length) : 1 ≤ lenP c p ∧ lenP c p ≤ 16 ∧ 0 ≤ numP c p ∧ numP c p < 2 ^ lenP c p - 1 := by
  obtain ⟨n, k, n1, k1, k2, e1, e2, e3⟩ := p_place h p hp
  have := codeV_in h.ok n1 ⟨k1, k2⟩
  rw [e2, e3]
  exact ⟨by omega, by omega, this.1, this.2⟩

/-- Codes come by rising lengths; of one length they are next to each other. -/
theorem p_next {c : Nat → Int} {l : List Int} (h : OkT c l) {p : Nat} (hp : p + 1 < l.length) : lenP c p ≤ lenP c (p + 1) ∧ (lenP c p = lenP c (p + 1) → numP c (p + 1) = numP c p + 1) := by
  obtain ⟨n, k, n1, k1, k2, e1, e2, e3⟩ := p_place h p (by omega)
  obtain ⟨n', k', n1', k1', k2', e1', e2', e3'⟩ := p_place h (p + 1) hp
  rw [e2, e2', e3, e3']
  have hle : n ≤ n' := by
    apply Nat.le_of_not_lt
    intro hlt
    have := cnt_mono h.ok (n' + 1) n (by omega) (by omega)
    have e4 : cnt c (n' + 1) = cnt c n' + c n' := rfl
    omega
  refine ⟨by omega, fun he => ?_⟩
  obtain rfl : n = n' := by omega
  unfold codeV
  omega

/-- The codes of the first p values. -/
def toN (c : Nat → Int) (l : List Int) (p v : Nat) : Int := if (v : Int) ∈ l.take p then ((lenP c (l.idxOf (v : Int)) : Nat) : Int) else 0
def toV (c : Nat → Int) (l : List Int) (p v : Nat) : Int := if (v : Int) ∈ l.take p then numP c (l.idxOf (v : Int)) else 0

theorem idx_at : ∀ {l : List Int} (h : l.Nodup) (p : Nat) (hp : p < l.length), l.idxOf l[p] = p
  | [], _, _, hp => by simp at hp
  | a :: t, h, 0, hp => by simp
  | a :: t, h, p + 1, hp => by
    have h' := List.nodup_cons.1 h
    have hp' : p < t.length := by simpa using hp
    have hne : (a == t[p]) = false := by
      rw [beq_eq_false_iff_ne]
      intro e
      exact h'.1 (e ▸ List.getElem_mem hp')
    rw [List.getElem_cons_succ, List.idxOf_cons, hne]
    simp only [cond_false]
    rw [idx_at h'.2 p hp']

theorem to_zero (c : Nat → Int) (l : List Int) (v : Nat) : toN c l 0 v = 0 ∧ toV c l 0 v = 0 := by simp [toN, toV]

theorem to_succ (c : Nat → Int) (l : List Int) (hl : l.Nodup) (p : Nat) (hp : p < l.length) (v : Nat) : toN c l (p + 1) v = (if (v : Int) = l[p] then ((lenP c p : Nat) : Int) else toN c l p v) ∧ toV c l (p + 1) v = if (v : Int) = l[p] then numP c p else toV c l p v := by
  unfold toN toV
  rw [List.take_succ_eq_append_getElem hp]
  simp only [List.mem_append, List.mem_singleton]
  by_cases e : (v : Int) = l[p]
  · rw [if_pos (Or.inr e), if_pos (Or.inr e), if_pos e, if_pos e, e, idx_at hl p hp]
    exact ⟨rfl, rfl⟩
  · rw [if_neg e, if_neg e]
    by_cases m : (v : Int) ∈ l.take p
    · rw [if_pos (Or.inl m), if_pos (Or.inl m), if_pos m, if_pos m]; exact ⟨rfl, rfl⟩
    · have hn : ¬ ((v : Int) ∈ l.take p ∨ (v : Int) = l[p]) := fun h => Or.elim h m e
      rw [if_neg hn, if_neg hn, if_neg m, if_neg m]; exact ⟨rfl, rfl⟩

/-- All codes; of a table that may not be there are none. -/
def codN (c : Nat → Int) (l : List Int) (v : Nat) : Int := if checkB c l then toN c l l.length v else 0
def codV (c : Nat → Int) (l : List Int) (v : Nat) : Int := if checkB c l then toV c l l.length v else 0

theorem cod_of {c : Nat → Int} {l : List Int} (h : OkT c l) (p : Nat) (hp : p < l.length) (v : Nat) (hv : (v : Int) = l[p]) : codN c l v = ((lenP c p : Nat) : Int) ∧ codV c l v = numP c p := by
  unfold codN codV toN toV
  rw [if_pos ((checkB_iff c l).2 h), if_pos ((checkB_iff c l).2 h), List.take_length, hv, if_pos (List.getElem_mem hp), if_pos (List.getElem_mem hp), idx_at h.once p hp]
  exact ⟨rfl, rfl⟩

theorem cod_none {c : Nat → Int} {l : List Int} (v : Nat) (hv : ¬ (v : Int) ∈ l) : codN c l v = 0 ∧ codV c l v = 0 := by
  unfold codN codV toN toV
  rw [List.take_length, if_neg hv, if_neg hv]
  simp

theorem cod_not {c : Nat → Int} {l : List Int} (h : ¬ OkT c l) (v : Nat) : codN c l v = 0 ∧ codV c l v = 0 := by
  unfold codN codV
  rw [checkB_not c l h]
  simp

/-- Each value has none, or that of one place. -/
theorem cod_cases (c : Nat → Int) (l : List Int) (v : Nat) : (codN c l v = 0 ∧ codV c l v = 0) ∨ (OkT c l ∧ ∃ p, p < l.length ∧ l[p]? = some (v : Int) ∧ codN c l v = ((lenP c p : Nat) : Int) ∧ codV c l v = numP c p) := by
  by_cases h : OkT c l
  · by_cases m : (v : Int) ∈ l
    · obtain ⟨p, hp, e⟩ := List.getElem_of_mem m
      have := cod_of h p hp v e.symm
      exact .inr ⟨h, p, hp, by rw [List.getElem?_eq_getElem hp, e], this⟩
    · exact .inl (cod_none v m)
  · exact .inl (cod_not h v)

/-- What bits find: v and n are the value and its code's length; 0, 0 where there is none. -/
def Finds (c : Nat → Int) (l : List Int) (b v n : Int) : Prop :=
  (OkT c l ∧ 0 ≤ b ∧ b ≤ 65535 ∧ ∃ p, ∃ hp : p < l.length, v = l[p] ∧ n = ((lenP c p : Nat) : Int) ∧ Begins c p b) ∨
  (v = 0 ∧ n = 0 ∧ ¬ (OkT c l ∧ 0 ≤ b ∧ b ≤ 65535 ∧ ∃ p, p < l.length ∧ Begins c p b))

theorem finds_one {c : Nat → Int} {l : List Int} {b v n v' n' : Int} (h : Finds c l b v n) (h' : Finds c l b v' n') : v = v' ∧ n = n' := by
  rcases h with ⟨ho, h0, h1, p, hp, e1, e2, e3⟩ | ⟨e1, e2, h3⟩
  · rcases h' with ⟨_, _, _, q, hq, f1, f2, f3⟩ | ⟨_, _, g3⟩
    · obtain rfl := begins_same ho hp hq e3 f3
      exact ⟨by rw [e1, f1], by rw [e2, f2]⟩
    · exact absurd ⟨ho, h0, h1, p, hp, e3⟩ g3
  · rcases h' with ⟨ho, h0, h1, q, hq, f1, f2, f3⟩ | ⟨f1, f2, _⟩
    · exact absurd ⟨ho, h0, h1, q, hq, f3⟩ h3
    · exact ⟨by rw [e1, f1], by rw [e2, f2]⟩

/-- A code is found, whatever stands behind. -/
theorem finds_code {c : Nat → Int} {l : List Int} (h : OkT c l) (p : Nat) (hp : p < l.length) (r : Int) (h0 : 0 ≤ r) (h1 : r < 2 ^ (16 - lenP c p)) : Finds c l (numP c p * 2 ^ (16 - lenP c p) + r) l[p] ((lenP c p : Nat) : Int) := by
  obtain ⟨i0, i1, i2, i3⟩ := p_in h hp
  have hp2 := one_le_pow (16 - lenP c p)
  have hm : (2 : Int) ^ lenP c p * 2 ^ (16 - lenP c p) = 65536 := by
    rw [← Int.pow_add, show lenP c p + (16 - lenP c p) = 16 by omega]; rfl
  have hb : Begins c p (numP c p * 2 ^ (16 - lenP c p) + r) := by
    unfold Begins
    rw [Int.add_comm, Int.add_mul_ediv_right _ _ (by omega), Int.ediv_eq_zero_of_lt h0 h1]
    omega
  have hlo : 0 ≤ numP c p * 2 ^ (16 - lenP c p) := Int.mul_nonneg i2 (by omega)
  have hhi : (numP c p + 1) * 2 ^ (16 - lenP c p) ≤ 2 ^ lenP c p * 2 ^ (16 - lenP c p) := Int.mul_le_mul_of_nonneg_right (by omega) (by omega)
  rw [Int.add_mul, hm] at hhi
  exact .inl ⟨h, by omega, by omega, p, hp, rfl, rfl, hb⟩

theorem finds_none {c : Nat → Int} {l : List Int} {b : Int} (h : ¬ (OkT c l ∧ 0 ≤ b ∧ b ≤ 65535)) : Finds c l b 0 0 := .inr ⟨rfl, rfl, fun ⟨h1, h2, h3, _⟩ => h ⟨h1, h2, h3⟩⟩

theorem finds_ones (c : Nat → Int) (l : List Int) : Finds c l 65535 0 0 := .inr ⟨rfl, rfl, fun ⟨h, _, _, p, hp, hb⟩ => begins_ones h hp hb⟩

end Go.Proofs.Ytlpeplihbdcklaa
