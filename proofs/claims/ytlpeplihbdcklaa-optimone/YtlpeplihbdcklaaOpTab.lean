/- The table that trees give: it may be. No program. -/
import Derived.Test.YtlpeplihbdcklaaOpCut
import Derived.Test.YtlpeplihbdcklaaHuLaw
namespace Go.Proofs.Ytlpeplihbdcklaa
set_option linter.unusedVariables false

theorem run_size {n : Nat} : ∀ (k : Nat) (f : Fo) (i : Nat), (runF n k f).size i ≤ f.size i + k
  | 0, f, i => Nat.le_refl _
  | k + 1, f, i => by
    unfold runF
    cases e : pairOf n f.w with
    | none => show f.size i ≤ _; omega
    | some x =>
      obtain ⟨A, B⟩ := x
      have := run_size (n := n) k (joinF f A B) i
      have e2 : (joinF f A B).size i ≤ f.size i + 1 := by
        show (if f.tree i = A ∨ f.tree i = B then f.size i + 1 else f.size i) ≤ _
        split <;> omega
      show (runF n k (joinF f A B)).size i ≤ _
      omega

theorem sizes_le (W : Nat → Int) (n i : Nat) : sizesF W n i ≤ n := by
  have := run_size (n := n) n (startF W) i
  have e : (startF W).size i = 0 := rfl
  unfold sizesF
  omega

/-- Weights that may be: 257 of them, the last one is 1. -/
structure Wt (W : Nat → Int) : Prop where
  pos : ∀ i, i < 257 → 0 ≤ W i
  one : W 256 = 1

/-- How many are of size s. -/
def cntF (z : Nat → Nat) (n s : Nat) : Int := sm (fun i => if 0 < z i ∧ z i = s then 1 else 0) n

theorem cntF_zero (z : Nat → Nat) (n : Nat) : cntF z n 0 = 0 := sm_zero (fun i _ => by rw [if_neg (by omega)])
theorem cntF_pos (z : Nat → Nat) (n s : Nat) : 0 ≤ cntF z n s := sm_pos (fun i _ => by split <;> omega)

/-- A sum over sizes is a sum over all. -/
theorem sum_sizes (z : Nat → Nat) (M : Nat) (g : Nat → Int) : ∀ n, (∀ i, i < n → z i < M) → sm (fun s => cntF z n s * g s) M = sm (fun i => if 0 < z i then g (z i) else 0) n
  | 0, _ => by show sm (fun s => 0 * g s) M = 0; exact sm_zero (fun i _ => Int.zero_mul _)
  | n + 1, h => by
    have ih := sum_sizes z M g n (fun i hi => h i (by omega))
    show _ = sm (fun i => if 0 < z i then g (z i) else 0) n + (if 0 < z n then g (z n) else 0)
    rw [← ih]
    have e : sm (fun s => cntF z (n + 1) s * g s) M = sm (fun s => cntF z n s * g s + (if s = z n then (if 0 < z n then g (z n) else 0) else 0)) M := sm_congr (fun s hs => by
      show (cntF z n s + (if 0 < z n ∧ z n = s then 1 else 0)) * g s = _
      rw [Int.add_mul]
      congr 1
      by_cases q : s = z n
      · subst q
        by_cases r : 0 < z n
        · simp [r]
        · simp [r]
      · rw [if_neg (fun x => q x.2.symm), if_neg q, Int.zero_mul])
    rw [e, sm_add, sm_at (h n (by omega))]

theorem sum_counts (z : Nat → Nat) (M n : Nat) (h : ∀ i, i < n → z i < M) : sm (cntF z n) M = sm (fun i => if 0 < z i then 1 else 0) n := by
  rw [← sum_sizes z M (fun _ => 1) n h]
  exact sm_congr (fun s _ => (Int.mul_one _).symm)

/-- All that have a size. -/
def many (z : Nat → Nat) (n : Nat) : Int := sm (fun i => if 0 < z i then 1 else 0) n

theorem many_le (z : Nat → Nat) (n : Nat) : 0 ≤ many z n ∧ many z n ≤ n := by
  refine ⟨sm_pos (fun i _ => by split <;> omega), ?_⟩
  have := sm_le (f := fun i => if 0 < z i then (1 : Int) else 0) (g := fun _ => 1) (n := n) (fun i _ => by split <;> omega)
  have e : ∀ n, sm (fun _ => 1) n = (n : Int) := fun n => by
    induction n with
    | zero => rfl
    | succ n ih => unfold sm; rw [ih]; omega
  rw [e] at this
  exact this

abbrev szF (W : Nat → Int) : Nat → Nat := sizesF W 257

/-- Who comes has a size, if any value comes at all. -/
theorem size_iff {W : Nat → Int} (h : Wt W) {v : Nat} (hv : v < 256) (hw : 0 < W v) : ∀ i, i < 257 → (0 < szF W i ↔ 0 < W i) := fun i hi => by
  constructor
  · intro hs
    apply Classical.byContradiction
    intro q
    have := sizes_none h.pos i hi q
    unfold szF at hs
    omega
  · intro wi
    by_cases e : i = v
    · subst e; exact sizes_some h.pos i 256 hi (by omega) (by omega) wi (by rw [h.one]; omega)
    · exact sizes_some h.pos i v hi (by omega) e wi hw

theorem full_start {W : Nat → Int} (h : Wt W) {v : Nat} (hv : v < 256) (hw : 0 < W v) : Full (cntF (szF W) 257) 259 (many (szF W) 257) := by
  have hlt : ∀ i, i < 257 → szF W i < 260 := fun i hi => by have := sizes_le W 257 i; unfold szF; omega
  refine ⟨fun s hs => cntF_pos _ _ _, cntF_zero _ _, fun s h1 h2 => by omega, ?_, sum_counts _ _ _ hlt⟩
  rw [sum_sizes _ _ (fun s => 2 ^ (259 - s)) _ hlt, ← sizes_kraft h.pos ⟨v, by omega, hw⟩ 259 (fun i hi _ => by have := hlt i hi; unfold szF at this; omega)]
  refine sm_congr (fun i hi => ?_)
  unfold kr
  have := size_iff h hv hw i hi
  by_cases q : 0 < W i
  · rw [if_pos (this.2 q), if_pos q]
  · rw [if_neg (fun x => q (this.1 x)), if_neg q]

/-- No value comes: nothing has a size. -/
theorem size_all_none {W : Nat → Int} (h : Wt W) (hn : ∀ v, v < 256 → ¬ 0 < W v) : ∀ i, i < 257 → szF W i = 0 := fun i hi => by
  by_cases e : i = 256
  · subst e
    have w256 : 0 < W 256 := by rw [h.one]; omega
    have hk := sizes_kraft h.pos ⟨256, by omega, by rw [h.one]; omega⟩ 257 (fun i _ _ => sizes_le W 257 i)
    have o : sm (kr (fun i => 0 < W i) 257 (sizesF W 257)) 257 = sm (fun i => if i = 256 then (2 : Int) ^ (257 - sizesF W 257 256) else 0) 257 := sm_congr (fun i hi => by
      unfold kr
      by_cases e : i = 256
      · subst e; rw [if_pos w256, if_pos rfl]
      · rw [if_neg (hn i (by omega)), if_neg e])
    rw [o, sm_at (by omega)] at hk
    rcases Nat.eq_zero_or_pos (sizesF W 257 256) with z | z
    · exact z
    · exfalso
      have h1 := pow_le (show 257 - sizesF W 257 256 ≤ 256 by omega)
      have h2 : (2 : Int) ^ 257 = 2 * 2 ^ 256 := by rw [Int.pow_succ]; omega
      have h3 := one_le_pow 256
      omega
  · exact sizes_none h.pos i hi (hn i (by omega))

end Go.Proofs.Ytlpeplihbdcklaa
