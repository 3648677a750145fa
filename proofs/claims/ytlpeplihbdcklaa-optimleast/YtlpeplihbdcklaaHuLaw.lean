/- What the laws of layer 10 want of codes: which values have one. No program. -/
import Derived.Test.YtlpeplihbdcklaaHuStd
namespace Go.Proofs.Ytlpeplihbdcklaa
set_option linter.unusedVariables false

/-- A value has a code just where it is of the list. -/
theorem cod_has {c : Nat → Int} {l : List Int} (h : OkT c l) (v : Nat) : (((v : Int) ∈ l → 0 < codN c l v) ∧ (¬ (v : Int) ∈ l → codN c l v = 0)) := by
  refine ⟨fun hm => ?_, fun hm => (cod_none v hm).1⟩
  obtain ⟨p, hp, e⟩ := List.getElem_of_mem hm
  rw [(cod_of h p hp v e.symm).1]
  have := (p_in h hp).1
  omega

/-- Which values the tables of Standard have. -/
def stdIs (i v : Nat) : Bool := if i < 2 then decide (v ≤ 11) else (decide (v = 0) || decide (v = 240) || (decide (1 ≤ v % 16) && decide (v % 16 ≤ 10)))
theorem std_mem : ∀ i, i < 4 → ∀ v : Nat, v < 256 → decide ((v : Int) ∈ stdL i) = stdIs i v := by decide +kernel

theorem std_has (i : Nat) (hi : i < 4) (v : Nat) (hv : v < 256) : (stdIs i v = true → 0 < codN (stdc i) (stdL i) v) ∧ (stdIs i v = false → codN (stdc i) (stdL i) v = 0) := by
  have h := cod_has (std_ok i hi) v
  have e := std_mem i hi v hv
  refine ⟨fun q => h.1 ?_, fun q => h.2 ?_⟩
  · rw [q] at e; exact of_decide_eq_true e
  · rw [q] at e; exact of_decide_eq_false e

theorem std_low (i : Nat) (hi : i < 2) (v : Nat) (hv : v < 256) : (v ≤ 11 → 0 < codN (stdc i) (stdL i) v) ∧ (¬ v ≤ 11 → codN (stdc i) (stdL i) v = 0) := by
  have h := std_has i (by omega) v hv
  unfold stdIs at h
  rw [if_pos hi] at h
  exact ⟨fun q => h.1 (decide_eq_true q), fun q => h.2 (decide_eq_false q)⟩

theorem std_high (i : Nat) (hi : 2 ≤ i ∧ i < 4) (v : Nat) (hv : v < 256) : ((v = 0 ∨ v = 240 ∨ (1 ≤ v % 16 ∧ v % 16 ≤ 10)) → 0 < codN (stdc i) (stdL i) v) ∧ (¬ (v = 0 ∨ v = 240 ∨ (1 ≤ v % 16 ∧ v % 16 ≤ 10)) → codN (stdc i) (stdL i) v = 0) := by
  have h := std_has i hi.2 v hv
  unfold stdIs at h
  rw [if_neg (by omega)] at h
  refine ⟨fun q => h.1 ?_, fun q => h.2 ?_⟩
  · simp only [Bool.or_eq_true, Bool.and_eq_true, decide_eq_true_eq]; omega
  · rw [← Bool.not_eq_true]
    simp only [Bool.or_eq_true, Bool.and_eq_true, decide_eq_true_eq]
    omega

theorem ix_odd (a b : Int) (ha : 0 ≤ a) : stdIx (a % 2) b < 4 ∧ (a % 2 = 1 ↔ 2 ≤ stdIx (a % 2) b) := by
  unfold stdIx
  split <;> split <;> omega

/-- How many of the first k values have a code. -/
def hasN (c : Nat → Int) (l : List Int) : Nat → Nat
  | 0 => 0
  | k + 1 => hasN c l k + if 0 < codN c l k then 1 else 0

theorem hasN_le (c : Nat → Int) (l : List Int) : ∀ k, hasN c l k ≤ k
  | 0 => Nat.le_refl _
  | k + 1 => by have := hasN_le c l k; unfold hasN; split <;> omega

theorem hasN_not {c : Nat → Int} {l : List Int} (h : ¬ OkT c l) : ∀ k, hasN c l k = 0
  | 0 => rfl
  | k + 1 => by unfold hasN; rw [hasN_not h k, (cod_not h k).1]; simp

theorem hasN_count {c : Nat → Int} {l : List Int} (h : OkT c l) : ∀ k, hasN c l k = ((List.range k).filter fun v : Nat => decide ((v : Int) ∈ l)).length
  | 0 => rfl
  | k + 1 => by
    unfold hasN
    rw [hasN_count h k, List.range_succ, List.filter_append, List.length_append]
    have hc := cod_has h k
    by_cases e : (k : Int) ∈ l
    · rw [if_pos (hc.1 e)]; simp [e]
    · rw [if_neg (by rw [hc.2 e]; omega)]; simp [e]

theorem hasN_all {c : Nat → Int} {l : List Int} (h : OkT c l) (hx : ∀ x ∈ l, 0 ≤ x ∧ x ≤ 255) : hasN c l 256 = l.length := by
  rw [hasN_count h 256]
  have hn : (l.map Int.toNat).Nodup := by
    rw [List.nodup_iff_pairwise_ne, List.pairwise_map]
    have := List.nodup_iff_pairwise_ne.1 h.once
    refine this.imp_of_mem ?_
    intro a b ha hb hne e
    have h1 := hx a ha
    have h2 := hx b hb
    exact hne (by omega)
  have hp : ((List.range 256).filter fun v : Nat => decide ((v : Int) ∈ l)).Perm (l.map Int.toNat) := by
    refine (List.perm_ext_iff_of_nodup (List.Nodup.sublist List.filter_sublist List.nodup_range) hn).2 (fun v => ?_)
    rw [List.mem_filter, List.mem_range, List.mem_map, decide_eq_true_eq]
    constructor
    · intro ⟨h1, h2⟩; exact ⟨(v : Int), h2, by simp⟩
    · rintro ⟨x, hm, rfl⟩
      have := hx x hm
      exact ⟨by omega, by rw [show ((x.toNat : Nat) : Int) = x by omega]; exact hm⟩
  rw [hp.length_eq, List.length_map]

theorem numP_small {n : Nat} {v : Int} (h : 1 ≤ n ∧ n ≤ 16 ∧ 0 ≤ v ∧ v < 2 ^ n - 1) (h2 : (1 : Int) ≤ 2 ^ n ∧ (2 : Int) ^ n ≤ 65536) : 0 ≤ v ∧ v ≤ 65536 := by omega

end Go.Proofs.Ytlpeplihbdcklaa
