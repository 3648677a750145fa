/- What the laws of layer 11 want: bits of a table, none other has less. No program. -/
import Derived.Test.YtlpeplihbdcklaaOpTab3
namespace Go.Proofs.Ytlpeplihbdcklaa
set_option linter.unusedVariables false

theorem sm_last (f : Nat → Int) : sm f 257 = sm f 256 + f 256 := rfl

theorem sm_block {g : Nat → Int} {x : Int} (a : Nat) : ∀ k, (∀ i, i < k → g (a + i) = x) → sm g (a + k) = sm g a + k * x
  | 0, _ => by simp
  | k + 1, h => by
    show sm g (a + k) + g (a + k) = _
    rw [sm_block a k (fun i hi => h i (by omega)), h k (by omega), show ((k + 1 : Nat) : Int) = (k : Int) + 1 by omega, Int.add_mul]
    omega

/-- What all codes take up, in parts of 2 ^ 16. -/
theorem sum_laid {c : Nat → Int} (h : OkC c 16) : ∀ m, m ≤ 16 → sm (fun p => (2 : Int) ^ (16 - lenP c p)) (cnt c m).toNat = endS c m
  | 0, _ => by show sm _ 0 = 0 * 2 ^ 16; simp [sm]
  | m + 1, hm => by
    have h0 := cnt_pos h m (by omega)
    have hc := (h m (by omega)).1
    have e : (cnt c (m + 1)).toNat = (cnt c m).toNat + (c m).toNat := by
      have : cnt c (m + 1) = cnt c m + c m := rfl
      omega
    rw [e, sm_block (x := (2 : Int) ^ (15 - m)) (cnt c m).toNat (c m).toNat (fun i hi => by
      have := (p_at h m (by omega) i ⟨by omega, by omega⟩ ((cnt c m).toNat + i) (by omega)).1
      show (2 : Int) ^ (16 - lenP c ((cnt c m).toNat + i)) = _
      rw [this, show 16 - (m + 1) = 15 - m by omega]), sum_laid h m (by omega), endS_succ c m (by omega), Int.toNat_of_nonneg hc]

theorem endC_room {c : Nat → Int} (h : OkC c 16) : ∀ m, m ≤ 16 → endC c m ≤ 2 ^ m - 1
  | 0, _ => by show (0 : Int) ≤ 2 ^ 0 - 1; decide
  | m + 1, hm => by
    have ih := endC_room h m (by omega)
    have hc := h m (by omega)
    by_cases e : 0 < c m
    · exact hc.2.2 e
    · show 2 * endC c m + c m ≤ 2 ^ (m + 1) - 1
      rw [Int.pow_succ]
      omega

theorem sum_all {c : Nat → Int} {l : List Int} (h : OkT c l) : sm (fun p => (2 : Int) ^ (16 - lenP c p)) l.length ≤ 65535 := by
  have e := sum_laid h.ok 16 (Nat.le_refl _)
  rw [h.sum, Int.toNat_natCast] at e
  rw [e]
  have := endC_room h.ok 16 (Nat.le_refl _)
  have e2 : (2 : Int) ^ 16 = 65536 := by decide
  unfold endS
  rw [e2] at this
  simp
  omega

/-- The same, summed over values. -/
theorem sum_codes {c : Nat → Int} {l : List Int} (h : OkT c l) : ∀ p, p ≤ l.length → sm (fun v => if (v : Int) ∈ l.take p then (2 : Int) ^ (16 - lenP c (l.idxOf (v : Int))) else 0) 256 ≤ sm (fun p => (2 : Int) ^ (16 - lenP c p)) p
  | 0, _ => by
    rw [sm_zero (fun i _ => by simp)]
    exact Int.le_refl _
  | p + 1, hp => by
    have ih := sum_codes h p (by omega)
    have hp' : p < l.length := by omega
    show _ ≤ sm (fun p => (2 : Int) ^ (16 - lenP c p)) p + 2 ^ (16 - lenP c p)
    have hx := one_le_pow (16 - lenP c p)
    have hnot : l[p] ∉ l.take p := fun q => by
      obtain ⟨i, hi, e⟩ := List.getElem_of_mem q
      rw [List.length_take] at hi
      rw [List.getElem_take] at e
      have e2 := idx_at h.once i (by omega)
      rw [e, idx_at h.once p hp'] at e2
      omega
    have hf : ∀ v : Nat, (v : Int) ≠ l[p] → (if (v : Int) ∈ l.take (p + 1) then (2 : Int) ^ (16 - lenP c (l.idxOf (v : Int))) else 0) = if (v : Int) ∈ l.take p then (2 : Int) ^ (16 - lenP c (l.idxOf (v : Int))) else 0 := fun v hv => by
      rw [List.take_succ_eq_append_getElem hp']
      simp only [List.mem_append, List.mem_singleton, hv, or_false]
    by_cases q : 0 ≤ l[p] ∧ l[p] < 256
    · have e1 : ((l[p].toNat : Nat) : Int) = l[p] := Int.toNat_of_nonneg q.1
      have o := sm_one (f := fun v : Nat => if (v : Int) ∈ l.take (p + 1) then (2 : Int) ^ (16 - lenP c (l.idxOf (v : Int))) else 0) (g := fun v : Nat => if (v : Int) ∈ l.take p then (2 : Int) ^ (16 - lenP c (l.idxOf (v : Int))) else 0) (k := l[p].toNat) (n := 256) (fun v hv => hf v (fun x => hv (by omega))) (by omega)
      rw [o, e1, if_neg hnot, idx_at h.once p hp', if_pos (by rw [List.take_succ_eq_append_getElem hp']; exact List.mem_append_right _ (List.mem_singleton.2 rfl))]
      omega
    · rw [sm_congr (fun v hv => hf v (fun x => q (by omega)))]
      omega

/-- The lengths that a table has of those that come, and 16 for 256, may be. -/
theorem lens_ok {W : Nat → Int} (h : Wt W) {c : Nat → Int} {l : List Int} (ht : OkT c l) (hc : ∀ v, v < 256 → 0 < W v → codN c l v ≠ 0) : Ok W 257 16 (fun i => if i = 256 then 16 else (codN c l i).toNat) := by
  have hcod : ∀ v, v < 256 → 0 < W v → (v : Int) ∈ l ∧ (codN c l v).toNat = lenP c (l.idxOf (v : Int)) ∧ lenP c (l.idxOf (v : Int)) ≤ 16 := fun v hv hw => by
    have hm : (v : Int) ∈ l := Classical.byContradiction fun q => hc v hv hw (cod_none v q).1
    obtain ⟨p, hp, e⟩ := List.getElem_of_mem hm
    have := (cod_of ht p hp v e.symm).1
    have := (p_in ht hp).2.1
    rw [← e, idx_at ht.once p hp, e]
    exact ⟨hm, by omega, by omega⟩
  refine ⟨fun i hi hw => ?_, ?_⟩
  · show (if i = 256 then 16 else (codN c l i).toNat) ≤ 16
    by_cases e : i = 256
    · rw [if_pos e]; exact Nat.le_refl _
    · rw [if_neg e]
      obtain ⟨-, h1, h2⟩ := hcod i (by omega) hw
      omega
  · show sm (kr (fun i => 0 < W i) 16 (fun i => if i = 256 then 16 else (codN c l i).toNat)) 256 + kr (fun i => 0 < W i) 16 (fun i => if i = 256 then 16 else (codN c l i).toNat) 256 ≤ 2 ^ 16
    have h1 : sm (kr (fun i => 0 < W i) 16 (fun i => if i = 256 then 16 else (codN c l i).toNat)) 256 ≤ sm (fun v : Nat => if (v : Int) ∈ l.take l.length then (2 : Int) ^ (16 - lenP c (l.idxOf (v : Int))) else 0) 256 := sm_le (fun v hv => by
      unfold kr
      dsimp only
      by_cases q : 0 < W v
      · obtain ⟨m1, m2, m3⟩ := hcod v hv q
        rw [if_pos q, if_neg (by omega), List.take_length, if_pos m1, m2]
        exact Int.le_refl _
      · rw [if_neg q]
        have := one_le_pow (16 - lenP c (l.idxOf (v : Int)))
        split <;> omega)
    have h2 := sum_codes ht l.length (Nat.le_refl _)
    have h3 := sum_all ht
    have h4 : kr (fun i => 0 < W i) 16 (fun i => if i = 256 then 16 else (codN c l i).toNat) 256 = 1 := by
      unfold kr
      dsimp only
      have w : 0 < W 256 := by rw [h.one]; omega
      rw [if_pos w, if_pos rfl]
      rfl
    rw [h4]
    have e2 : (2 : Int) ^ 16 = 65536 := by decide
    rw [e2]
    omega

/-- How many bits a table has of all. -/
def bits (c : Nat → Int) (l : List Int) (W : Nat → Int) : Int := sm (fun v => W v * codN c l v) 256

theorem bits_zero {c : Nat → Int} {l : List Int} {W : Nat → Int} (hn : ∀ v, v < 256 → W v = 0) : bits c l W = 0 := sm_zero (fun v hv => by rw [hn v hv, Int.zero_mul])

theorem bits_own {W : Nat → Int} (h : Wt W) (hs : ∀ v, v < 256 → szF W v ≤ 15) : bits (tabC (szF W)) (tabV (szF W)) W ≤ sm (fun v => (szF W v : Int) * W v) 256 := by
  refine sm_le (fun v hv => ?_)
  rw [Int.mul_comm (szF W v : Int)]
  by_cases hw : 0 < W v
  · refine Int.mul_le_mul_of_nonneg_left ?_ (by omega)
    have hm := (tab_mem h v hv).2 hw
    obtain ⟨p, hp, e⟩ := List.getElem_of_mem hm
    rw [(cod_of (tab_ok h) p hp v e.symm).1]
    obtain ⟨u, h1, h2, h3⟩ := len_le h hv hw hs p hp
    obtain rfl : u = v := by omega
    omega
  · have : W v = 0 := by have := h.pos v (by omega); omega
    rw [this, Int.zero_mul, Int.zero_mul]; exact Int.le_refl _

/-- No other has sixteen bits less. -/
theorem bits_least {W : Nat → Int} (h : Wt W) (hs : ∀ v, v < 256 → szF W v ≤ 15) {c : Nat → Int} {l : List Int} (hc : ∀ v, v < 256 → 0 < W v → codN c l v ≠ 0) : bits (tabC (szF W)) (tabV (szF W)) W ≤ bits c l W + 15 := by
  by_cases hx : ∃ v, v < 256 ∧ 0 < W v
  · obtain ⟨v, hv, hw⟩ := hx
    have ht : OkT c l := Classical.byContradiction fun q => hc v hv hw (cod_not q v).1
    have h1 := sizes_least h.pos (lens_ok h ht hc)
    have h2 := bits_own h hs
    have h3 : cost W 257 (sizesF W 257) = sm (fun v => (szF W v : Int) * W v) 256 + (szF W 256 : Int) := by
      unfold cost
      rw [sm_last, h.one, Int.one_mul, sm_congr (f := fun i => W i * (sizesF W 257 i : Int)) (g := fun v => (szF W v : Int) * W v) (fun i _ => Int.mul_comm _ _)]
    have h4 : cost W 257 (fun i => if i = 256 then 16 else (codN c l i).toNat) = bits c l W + 16 := by
      unfold cost
      rw [sm_last, h.one]
      have e : ∀ i, i < 256 → W i * (((fun i => if i = 256 then 16 else (codN c l i).toNat) i : Nat) : Int) = W i * codN c l i := fun i hi => by
        dsimp only
        rw [if_neg (by omega)]
        have : 0 ≤ codN c l i := by
          rcases cod_cases c l i with q | ⟨_, p, _, _, q, _⟩
          · omega
          · omega
        rw [Int.toNat_of_nonneg this]
      rw [sm_congr e]
      dsimp only
      rw [if_pos rfl]
      rfl
    have h5 := (size_iff h hv hw 256 (by omega)).2 (by rw [h.one]; omega)
    omega
  · have hz : ∀ v, v < 256 → W v = 0 := fun v hv => by
      have := h.pos v (by omega)
      have : ¬ 0 < W v := fun q => hx ⟨v, hv, q⟩
      omega
    rw [bits_zero hz, bits_zero hz]
    omega

end Go.Proofs.Ytlpeplihbdcklaa
