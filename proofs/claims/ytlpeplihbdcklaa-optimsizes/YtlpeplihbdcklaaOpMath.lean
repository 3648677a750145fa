/- Trees that are joined, the two lightest at a time. No program. -/
import Derived.Test.YtlpeplihbdcklaaWord
namespace Go.Proofs.Ytlpeplihbdcklaa
set_option linter.unusedVariables false

/-- A sum of the first n. -/
def sm (f : Nat → Int) : Nat → Int
  | 0 => 0
  | n + 1 => sm f n + f n

theorem sm_congr {f g : Nat → Int} : ∀ {n : Nat}, (∀ i, i < n → f i = g i) → sm f n = sm g n
  | 0, _ => rfl
  | n + 1, h => by unfold sm; rw [sm_congr (fun i hi => h i (by omega)), h n (by omega)]

theorem sm_add (f g : Nat → Int) : ∀ n, sm (fun i => f i + g i) n = sm f n + sm g n
  | 0 => rfl
  | n + 1 => by unfold sm; rw [sm_add f g n]; omega

theorem sm_le {f g : Nat → Int} : ∀ {n : Nat}, (∀ i, i < n → f i ≤ g i) → sm f n ≤ sm g n
  | 0, _ => Int.le_refl _
  | n + 1, h => by have := sm_le (n := n) (fun i hi => h i (by omega)); have := h n (by omega); unfold sm; omega

theorem sm_zero {f : Nat → Int} {n : Nat} (h : ∀ i, i < n → f i = 0) : sm f n = 0 := by
  rw [sm_congr (g := fun _ => 0) h]
  clear h
  induction n with
  | zero => rfl
  | succ n ih => unfold sm; omega

theorem sm_pos {f : Nat → Int} {n : Nat} (h : ∀ i, i < n → 0 ≤ f i) : 0 ≤ sm f n := by
  have := sm_le (f := fun _ => 0) (g := f) h
  rw [sm_zero (fun _ _ => rfl)] at this
  exact this

theorem sm_mul (c : Int) (f : Nat → Int) : ∀ n, sm (fun i => c * f i) n = c * sm f n
  | 0 => by simp [sm]
  | n + 1 => by unfold sm; rw [sm_mul c f n, Int.mul_add]

/-- One of them is another one. -/
theorem sm_one {f g : Nat → Int} {k : Nat} (h : ∀ i, i ≠ k → f i = g i) : ∀ {n : Nat}, k < n → sm f n = sm g n - g k + f k
  | 0, hk => by omega
  | n + 1, hk => by
    unfold sm
    by_cases e : k = n
    · subst e
      rw [sm_congr (fun i hi => h i (by omega))]
      omega
    · rw [sm_one h (show k < n by omega), h n (fun q => e q.symm)]
      omega

/-- Two of them are others. -/
theorem sm_two {f g : Nat → Int} {k l : Nat} (hkl : k ≠ l) (h : ∀ i, i ≠ k → i ≠ l → f i = g i) {n : Nat} (hk : k < n) (hl : l < n) : sm f n = sm g n - g k + f k - g l + f l := by
  have h1 := sm_one (f := f) (g := fun i => if i = k then f k else g i) (k := l) (fun i hi => by
    by_cases e : i = k
    · subst e; simp
    · simp [e, h i e hi]) hl
  have h2 := sm_one (f := fun i => if i = k then f k else g i) (g := g) (k := k) (fun i hi => by simp [hi]) hk
  rw [h1, h2]
  simp [Ne.symm hkl]

theorem sm_term {f : Nat → Int} {n : Nat} (h : ∀ i, i < n → 0 ≤ f i) {k : Nat} (hk : k < n) : f k ≤ sm f n := by
  have h1 := sm_one (f := fun i => if i = k then 0 else f i) (g := f) (k := k) (fun i hi => by simp [hi]) hk
  have h2 := sm_pos (f := fun i => if i = k then 0 else f i) (n := n) (fun i hi => by
    by_cases e : i = k
    · simp [e]
    · simp [e]; exact h i hi)
  simp at h1
  omega

theorem sm_term2 {f : Nat → Int} {n : Nat} (h : ∀ i, i < n → 0 ≤ f i) {k l : Nat} (hk : k < n) (hl : l < n) (hkl : k ≠ l) : f k + f l ≤ sm f n := by
  have h1 := sm_two (f := fun i => if i = k ∨ i = l then 0 else f i) (g := f) hkl (fun i hi hj => by simp [hi, hj]) hk hl
  have h2 := sm_pos (f := fun i => if i = k ∨ i = l then 0 else f i) (n := n) (fun i hi => by
    by_cases e : i = k ∨ i = l
    · simp [e]
    · simp [e]; exact h i hi)
  simp at h1
  omega

/-- What lengths d of those that are alive take up, in parts of 2 ^ N. -/
def kr (al : Nat → Prop) [DecidablePred al] (N : Nat) (d : Nat → Nat) (i : Nat) : Int := if al i then 2 ^ (N - d i) else 0

theorem kr_pos (al : Nat → Prop) [DecidablePred al] (N : Nat) (d : Nat → Nat) (i : Nat) : 0 ≤ kr al N d i := by
  unfold kr
  split
  · have := one_le_pow (N - d i); omega
  · omega

/-- Lengths that may be: all of them at most N. -/
structure Ok (w : Nat → Int) (n N : Nat) (d : Nat → Nat) : Prop where
  le : ∀ i, i < n → 0 < w i → d i ≤ N
  kraft : sm (kr (fun i => 0 < w i) N d) n ≤ 2 ^ N

/-- What they cost. -/
def cost (w : Nat → Int) (n : Nat) (d : Nat → Nat) : Int := sm (fun i => w i * (d i : Int)) n

def swp (d : Nat → Nat) (a b : Nat) : Nat → Nat := fun i => if i = a then d b else if i = b then d a else d i

theorem Ok.swap {w : Nat → Int} {n N : Nat} {d : Nat → Nat} (h : Ok w n N d) {a b : Nat} (ha : a < n) (hb : b < n) (wa : 0 < w a) (wb : 0 < w b) : Ok w n N (swp d a b) := by
  by_cases hab : a = b
  · subst hab
    have e : swp d a a = d := by funext i; unfold swp; split <;> simp_all
    rw [e]; exact h
  refine ⟨fun i hi hw => ?_, ?_⟩
  · unfold swp
    split
    · exact h.le b hb wb
    · split
      · exact h.le a ha wa
      · exact h.le i hi hw
  · have := sm_two (f := kr (fun i => 0 < w i) N (swp d a b)) (g := kr (fun i => 0 < w i) N d) hab (fun i h1 h2 => by unfold kr swp; simp [h1, h2]) ha hb
    rw [this]
    have hk := h.kraft
    unfold kr swp at *
    simp [wa, wb, Ne.symm hab] at *
    omega

theorem cost_swap {w : Nat → Int} {n : Nat} {d : Nat → Nat} {a b : Nat} (ha : a < n) (hb : b < n) (hw : w a ≤ w b) (hd : d a ≤ d b) : cost w n (swp d a b) ≤ cost w n d := by
  by_cases hab : a = b
  · subst hab
    have e : swp d a a = d := by funext i; unfold swp; split <;> simp_all
    rw [e]; exact Int.le_refl _
  unfold cost
  have := sm_two (f := fun i => w i * (swp d a b i : Int)) (g := fun i => w i * (d i : Int)) hab (fun i h1 h2 => by unfold swp; simp [h1, h2]) ha hb
  rw [this]
  have e1 : swp d a b a = d b := by unfold swp; simp
  have e2 : swp d a b b = d a := by unfold swp; simp [Ne.symm hab]
  rw [e1, e2]
  have hm := Int.mul_nonneg (show 0 ≤ w b - w a by omega) (show 0 ≤ (d b : Int) - d a by omega)
  rw [Int.sub_mul, Int.mul_sub, Int.mul_sub] at hm
  omega

theorem max_of (P : Nat → Prop) [DecidablePred P] (f : Nat → Nat) : ∀ n, (∃ i, i < n ∧ P i) → ∃ i, i < n ∧ P i ∧ ∀ j, j < n → P j → f j ≤ f i
  | 0, h => by obtain ⟨i, hi, _⟩ := h; omega
  | n + 1, h => by
    by_cases hs : ∃ i, i < n ∧ P i
    · obtain ⟨i, hi, hp, hm⟩ := max_of P f n hs
      by_cases hn : P n ∧ f i < f n
      · refine ⟨n, by omega, hn.1, fun j hj hpj => ?_⟩
        by_cases e : j = n
        · subst e; exact Nat.le_refl _
        · have := hm j (by omega) hpj; omega
      · refine ⟨i, by omega, hp, fun j hj hpj => ?_⟩
        by_cases e : j = n
        · subst e
          have : ¬ f i < f j := fun q => hn ⟨hpj, q⟩
          omega
        · exact hm j (by omega) hpj
    · obtain ⟨i, hi, hp⟩ := h
      have e : i = n := by
        by_cases e : i = n
        · exact e
        · exact absurd ⟨i, by omega, hp⟩ hs
      subst e
      refine ⟨i, by omega, hp, fun j hj hpj => ?_⟩
      by_cases e : j = i
      · subst e; exact Nat.le_refl _
      · exact absurd ⟨j, by omega, hpj⟩ hs

theorem sm_dvd {f : Nat → Int} {c : Int} : ∀ {n : Nat}, (∀ i, i < n → ∃ r, f i = r * c) → ∃ R, sm f n = R * c
  | 0, _ => ⟨0, by simp [sm]⟩
  | n + 1, h => by
    obtain ⟨R, hR⟩ := sm_dvd (n := n) (fun i hi => h i (by omega))
    obtain ⟨r, hr⟩ := h n (by omega)
    exact ⟨R + r, by unfold sm; rw [hR, hr, Int.add_mul]⟩

theorem pow_le {a b : Nat} (h : a ≤ b) : (2 : Int) ^ a ≤ 2 ^ b := by
  obtain ⟨c, rfl⟩ := Nat.exists_eq_add_of_le h
  rw [Int.pow_add]
  have h1 := one_le_pow a
  have h2 := one_le_pow c
  have := Int.mul_le_mul_of_nonneg_left h2 (show 0 ≤ (2 : Int) ^ a by omega)
  omega

/-- The two lightest. -/
structure Pair (w : Nat → Int) (n A B : Nat) : Prop where
  a : A < n
  b : B < n
  ne : A ≠ B
  wa : 0 < w A
  wb : 0 < w B
  la : ∀ i, i < n → 0 < w i → w A ≤ w i
  lb : ∀ i, i < n → i ≠ A → 0 < w i → w B ≤ w i

def set1 (d : Nat → Nat) (a v : Nat) : Nat → Nat := fun i => if i = a then v else d i

/-- The two lightest have one length. -/
theorem Ok.even {w : Nat → Int} {n N : Nat} {d : Nat → Nat} (h : Ok w n N d) {A B : Nat} (p : Pair w n A B) : ∃ d', Ok w n N d' ∧ cost w n d' ≤ cost w n d ∧ d' A = d' B ∧ 1 ≤ d' A := by
  obtain ⟨X, hX, wX, mX⟩ := max_of (fun i => 0 < w i) d n ⟨A, p.a, p.wa⟩
  obtain ⟨d1, hd1⟩ : ∃ d1, swp d A X = d1 := ⟨_, rfl⟩
  have h1 : Ok w n N d1 := hd1 ▸ h.swap p.a hX p.wa wX
  have c1 : cost w n d1 ≤ cost w n d := hd1 ▸ cost_swap p.a hX (p.la X hX wX) (mX A p.a p.wa)
  have m1 : ∀ i, i < n → 0 < w i → d1 i ≤ d1 A := fun i hi hw => by
    rw [← hd1]
    unfold swp
    rw [if_pos rfl]
    split
    · exact Nat.le_refl _
    · split
      · exact mX A p.a p.wa
      · exact mX i hi hw
  obtain ⟨Y, hY, ⟨wY, nY⟩, mY⟩ := max_of (fun i => 0 < w i ∧ i ≠ A) d1 n ⟨B, p.b, p.wb, p.ne.symm⟩
  obtain ⟨d2, hd2⟩ : ∃ d2, swp d1 B Y = d2 := ⟨_, rfl⟩
  have h2 : Ok w n N d2 := hd2 ▸ h1.swap p.b hY p.wb wY
  have c2 : cost w n d2 ≤ cost w n d1 := hd2 ▸ cost_swap p.b hY (p.lb Y hY nY wY) (mY B p.b ⟨p.wb, p.ne.symm⟩)
  have eA : d2 A = d1 A := by rw [← hd2]; unfold swp; rw [if_neg p.ne, if_neg (Ne.symm nY)]
  have eB : d2 B = d1 Y := by rw [← hd2]; unfold swp; rw [if_pos rfl]
  have m2 : ∀ i, i < n → 0 < w i → i ≠ A → d2 i ≤ d2 B := fun i hi hw hn => by
    rw [eB, ← hd2]
    unfold swp
    split
    · exact Nat.le_refl _
    · split
      · exact mY B p.b ⟨p.wb, p.ne.symm⟩
      · exact mY i hi ⟨hw, hn⟩
  have lt : d2 B ≤ d2 A := by rw [eA, eB]; exact m1 Y hY wY
  have hA := h2.le A p.a p.wa
  have two := sm_term2 (f := kr (fun i => 0 < w i) N d2) (fun i _ => kr_pos _ _ _ _) p.a p.b p.ne
  have kk := h2.kraft
  have kA : kr (fun i => 0 < w i) N d2 A = 2 ^ (N - d2 A) := if_pos p.wa
  have kB : kr (fun i => 0 < w i) N d2 B = 2 ^ (N - d2 B) := if_pos p.wb
  have pA := one_le_pow (N - d2 A)
  by_cases e : d2 A = d2 B
  · refine ⟨d2, h2, Int.le_trans c2 c1, e, ?_⟩
    rcases Nat.eq_zero_or_pos (d2 A) with z | z
    · exfalso
      rw [kA, kB, ← e, z, Nat.sub_zero] at two
      have := one_le_pow N
      omega
    · exact z
  · obtain ⟨d3, hd3⟩ : ∃ d3, set1 d2 A (d2 B) = d3 := ⟨_, rfl⟩
    have e3 : ∀ i, i ≠ A → d3 i = d2 i := fun i hi => by rw [← hd3]; unfold set1; rw [if_neg hi]
    have e3A : d3 A = d2 B := by rw [← hd3]; unfold set1; rw [if_pos rfl]
    have o1 := sm_one (f := fun i => if i = A then 0 else kr (fun i => 0 < w i) N d2 i) (g := kr (fun i => 0 < w i) N d2) (k := A) (fun i hi => by simp [hi]) p.a
    obtain ⟨R, hR⟩ := sm_dvd (f := fun i => if i = A then 0 else kr (fun i => 0 < w i) N d2 i) (c := 2 ^ (N - d2 B)) (n := n) (fun i hi => by
      by_cases ei : i = A
      · exact ⟨0, by simp [ei]⟩
      · by_cases wi : 0 < w i
        · refine ⟨2 ^ (d2 B - d2 i), ?_⟩
          have := m2 i hi wi ei
          have hB := h2.le B p.b p.wb
          simp only [if_neg ei, kr, if_pos wi]
          rw [← Int.pow_add, show d2 B - d2 i + (N - d2 B) = N - d2 i by omega]
        · exact ⟨0, by simp [ei, kr, wi]⟩)
    have hB := h2.le B p.b p.wb
    have hN : (2 : Int) ^ N = 2 ^ d2 B * 2 ^ (N - d2 B) := by rw [← Int.pow_add, show d2 B + (N - d2 B) = N by omega]
    have pB := one_le_pow (N - d2 B)
    simp only [if_true] at o1
    rw [hR, kA] at o1
    have hlt : R < 2 ^ d2 B := by
      have : R * 2 ^ (N - d2 B) < 2 ^ d2 B * 2 ^ (N - d2 B) := by rw [← hN]; omega
      exact Int.lt_of_mul_lt_mul_right this (by omega)
    have hle : (R + 1) * 2 ^ (N - d2 B) ≤ 2 ^ N := by rw [hN]; exact Int.mul_le_mul_of_nonneg_right (by omega) (by omega)
    have h3 : Ok w n N d3 := ⟨fun i hi hw => by
      by_cases ei : i = A
      · rw [ei, e3A]; exact hB
      · rw [e3 i ei]; exact h2.le i hi hw, by
      have o2 := sm_one (f := kr (fun i => 0 < w i) N d3) (g := fun i => if i = A then 0 else kr (fun i => 0 < w i) N d2 i) (k := A) (fun i hi => by simp [hi, kr, e3 i hi]) p.a
      simp only [if_true] at o2
      rw [o2, hR]
      unfold kr
      rw [if_pos p.wa, e3A]
      rw [Int.add_mul] at hle
      omega⟩
    have c3 : cost w n d3 ≤ cost w n d2 := by
      unfold cost
      refine sm_le (fun i hi => ?_)
      by_cases ei : i = A
      · subst ei
        rw [e3A]
        have := p.wa
        exact Int.mul_le_mul_of_nonneg_left (by omega) (by omega)
      · rw [e3 i ei]; exact Int.le_refl _
    refine ⟨d3, h3, Int.le_trans c3 (Int.le_trans c2 c1), by rw [e3A, e3 B p.ne.symm], ?_⟩
    rw [e3A]
    rcases Nat.eq_zero_or_pos (d2 B) with z | z
    · exfalso
      rw [kA, kB, z, Nat.sub_zero] at two
      omega
    · exact z

/-- The two are joined. -/
def joined (w : Nat → Int) (A B : Nat) : Nat → Int := fun i => if i = A then w A + w B else if i = B then 0 else w i

theorem Ok.join {w : Nat → Int} {n N : Nat} {d : Nat → Nat} (h : Ok w n N d) {A B : Nat} (p : Pair w n A B) (he : d A = d B) (h1 : 1 ≤ d A) :
    Ok (joined w A B) n N (set1 d A (d A - 1)) ∧ cost (joined w A B) n (set1 d A (d A - 1)) = cost w n d - (w A + w B) := by
  have jA : joined w A B A = w A + w B := by unfold joined; rw [if_pos rfl]
  have jB : joined w A B B = 0 := by unfold joined; rw [if_neg p.ne.symm, if_pos rfl]
  have jO : ∀ i, i ≠ A → i ≠ B → joined w A B i = w i := fun i h1 h2 => by unfold joined; rw [if_neg h1, if_neg h2]
  have sA : set1 d A (d A - 1) A = d A - 1 := by unfold set1; rw [if_pos rfl]
  have sO : ∀ i, i ≠ A → set1 d A (d A - 1) i = d i := fun i h1 => by unfold set1; rw [if_neg h1]
  have hA := h.le A p.a p.wa
  have pa := p.wa
  have pb := p.wb
  refine ⟨⟨fun i hi hw => ?_, ?_⟩, ?_⟩
  · by_cases eA : i = A
    · rw [eA, sA]; omega
    · rw [sO i eA]
      by_cases eB : i = B
      · rw [eB, jB] at hw; omega
      · rw [jO i eA eB] at hw; exact h.le i hi hw
  · have o := sm_two (f := kr (fun i => 0 < joined w A B i) N (set1 d A (d A - 1))) (g := kr (fun i => 0 < w i) N d) p.ne (fun i h1 h2 => by unfold kr; simp only [jO i h1 h2, sO i h1]) p.a p.b
    have hk := h.kraft
    have k1 : kr (fun i => 0 < w i) N d A = 2 ^ (N - d A) := if_pos p.wa
    have k2 : kr (fun i => 0 < w i) N d B = 2 ^ (N - d A) := by rw [he]; exact if_pos p.wb
    have k3 : kr (fun i => 0 < joined w A B i) N (set1 d A (d A - 1)) A = 2 ^ (N - d A) * 2 := by
      unfold kr
      rw [if_pos (show 0 < joined w A B A by rw [jA]; omega), sA, show N - (d A - 1) = (N - d A) + 1 by omega, Int.pow_succ]
    have k4 : kr (fun i => 0 < joined w A B i) N (set1 d A (d A - 1)) B = 0 := by
      unfold kr
      rw [if_neg (show ¬ 0 < joined w A B B by rw [jB]; omega)]
    rw [o, k1, k2, k3, k4]
    omega
  · unfold cost
    have o := sm_two (f := fun i => joined w A B i * (set1 d A (d A - 1) i : Int)) (g := fun i => w i * (d i : Int)) p.ne (fun i h1 h2 => by simp only [jO i h1 h2, sO i h1]) p.a p.b
    rw [o]
    simp only [jA, jB, sA]
    rw [← he, show ((d A - 1 : Nat) : Int) = (d A : Int) - 1 by omega, Int.zero_mul, Int.mul_sub, Int.add_mul]
    omega

/-- Joined to the end at this cost: no lengths that may be cost less. -/
def Joins (n : Nat) (w : Nat → Int) (t : Int) : Prop := ∀ (N : Nat) (d : Nat → Nat), Ok w n N d → t ≤ cost w n d

theorem Joins.done {n : Nat} (w : Nat → Int) (h0 : ∀ i, i < n → 0 ≤ w i) : Joins n w 0 := by
  intro N d hd
  unfold cost
  exact sm_pos (fun i hi => Int.mul_nonneg (h0 i hi) (by omega))

theorem Joins.step {n : Nat} (w : Nat → Int) (A B : Nat) (t : Int) (p : Pair w n A B) (h : Joins n (joined w A B) t) : Joins n w (w A + w B + t) := by
  intro N d hd
  obtain ⟨d', h1, h2, h3, h4⟩ := hd.even p
  obtain ⟨h5, h6⟩ := h1.join p h3 h4
  have := h _ _ h5
  rw [h6] at this
  omega

theorem Joins.least {n : Nat} {w : Nat → Int} {t : Int} (h : Joins n w t) {N : Nat} {d : Nat → Nat} (hd : Ok w n N d) : t ≤ cost w n d := h N d hd

end Go.Proofs.Ytlpeplihbdcklaa
