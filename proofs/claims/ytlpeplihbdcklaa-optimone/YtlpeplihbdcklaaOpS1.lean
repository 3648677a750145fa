/- Stable sorting by size: what the library's way of merging does. No program. -/
import Derived.Test.YtlpeplihbdcklaaOpTab3
namespace Go.Proofs.Ytlpeplihbdcklaa
set_option linter.unusedVariables false

/-- Ahead of: of less size; of the same one the lesser value. -/
def ltV (z : Nat → Nat) (x y : Int) : Prop := z x.toNat < z y.toNat ∨ (z x.toNat = z y.toNat ∧ x < y)
theorem ltV.trans {z : Nat → Nat} {a b c : Int} (h : ltV z a b) (k : ltV z b c) : ltV z a c := by unfold ltV at *; omega
theorem ltV.irr {z : Nat → Nat} {a : Int} (h : ltV z a a) : False := by unfold ltV at h; omega

def SortedOn (z : Nat → Nat) (f : Nat → Int) (a b : Nat) : Prop := ∀ i j, a ≤ i → i < j → j < b → ltV z (f i) (f j)
/-- From a to b the same values, elsewhere nothing has turned. -/
structure Same (f g : Nat → Int) (a b : Nat) : Prop where
  fwd : ∀ i, a ≤ i → i < b → ∃ j, (a ≤ j ∧ j < b) ∧ g j = f i
  bwd : ∀ j, a ≤ j → j < b → ∃ i, (a ≤ i ∧ i < b) ∧ f i = g j
  out : ∀ i, ¬ (a ≤ i ∧ i < b) → g i = f i

theorem Same.refl (f : Nat → Int) (a b : Nat) : Same f f a b := ⟨fun i h1 h2 => ⟨i, ⟨h1, h2⟩, rfl⟩, fun i h1 h2 => ⟨i, ⟨h1, h2⟩, rfl⟩, fun _ _ => rfl⟩
theorem Same.trans {f g h : Nat → Int} {a b : Nat} (p : Same f g a b) (q : Same g h a b) : Same f h a b := by
  refine ⟨fun i h1 h2 => ?_, fun i h1 h2 => ?_, fun i hi => (q.out i hi).trans (p.out i hi)⟩
  · obtain ⟨j, hj, e⟩ := p.fwd i h1 h2
    obtain ⟨k, hk, e2⟩ := q.fwd j hj.1 hj.2
    exact ⟨k, hk, e2.trans e⟩
  · obtain ⟨j, hj, e⟩ := q.bwd i h1 h2
    obtain ⟨k, hk, e2⟩ := p.bwd j hj.1 hj.2
    exact ⟨k, hk, e2.trans e⟩
theorem Same.wide {f g : Nat → Int} {a b c d : Nat} (p : Same f g a b) (h1 : c ≤ a) (h2 : b ≤ d) : Same f g c d := by
  refine ⟨fun i h3 h4 => ?_, fun i h3 h4 => ?_, fun i hi => p.out i (by omega)⟩
  · by_cases q : a ≤ i ∧ i < b
    · obtain ⟨j, hj, e⟩ := p.fwd i q.1 q.2
      exact ⟨j, by omega, e⟩
    · exact ⟨i, by omega, p.out i q⟩
  · by_cases q : a ≤ i ∧ i < b
    · obtain ⟨j, hj, e⟩ := p.bwd i q.1 q.2
      exact ⟨j, by omega, e⟩
    · exact ⟨i, by omega, (p.out i q).symm⟩

/-- Two change places. -/
def swpI (f : Nat → Int) (i j : Nat) : Nat → Int := fun k => if k = j then f i else if k = i then f j else f k
theorem swpI_l (f : Nat → Int) (i j : Nat) : swpI f i j i = f j := by
  unfold swpI
  by_cases e : i = j
  · subst e; rw [if_pos rfl]
  · rw [if_neg e, if_pos rfl]
theorem swpI_r (f : Nat → Int) (i j : Nat) : swpI f i j j = f i := if_pos rfl
theorem swpI_o (f : Nat → Int) (i j : Nat) {k : Nat} (h1 : k ≠ i) (h2 : k ≠ j) : swpI f i j k = f k := by unfold swpI; rw [if_neg h2, if_neg h1]
theorem Same.swap (f : Nat → Int) {i j a b : Nat} (hi : a ≤ i ∧ i < b) (hj : a ≤ j ∧ j < b) : Same f (swpI f i j) a b := by
  refine ⟨fun k h1 h2 => ?_, fun k h1 h2 => ?_, fun k hk => swpI_o f i j (by omega) (by omega)⟩
  · by_cases e1 : k = i
    · exact ⟨j, hj, by rw [swpI_r, e1]⟩
    · by_cases e2 : k = j
      · exact ⟨i, hi, by rw [swpI_l, e2]⟩
      · exact ⟨k, ⟨h1, h2⟩, swpI_o f i j e1 e2⟩
  · by_cases e1 : k = i
    · exact ⟨j, hj, by rw [e1, swpI_l]⟩
    · by_cases e2 : k = j
      · exact ⟨i, hi, by rw [e2, swpI_r]⟩
      · exact ⟨k, ⟨h1, h2⟩, (swpI_o f i j e1 e2).symm⟩

/-- What lies from s to m and from m to e change places. -/
def rotF (f : Nat → Int) (s m e : Nat) : Nat → Int := fun k => if s ≤ k ∧ k < e then (if k < s + (e - m) then f (m + (k - s)) else f (s + (k - (s + (e - m))))) else f k
theorem rotF_out (f : Nat → Int) (s m e k : Nat) (h : ¬ (s ≤ k ∧ k < e)) : rotF f s m e k = f k := if_neg h
theorem rotF_lo (f : Nat → Int) (s m e k : Nat) (h1 : s ≤ k) (h2 : k < s + (e - m)) (hm : s ≤ m) (he : m ≤ e) : rotF f s m e k = f (m + (k - s)) := by unfold rotF; rw [if_pos (by omega), if_pos h2]
theorem rotF_hi (f : Nat → Int) (s m e k : Nat) (h1 : s + (e - m) ≤ k) (h2 : k < e) : rotF f s m e k = f (s + (k - (s + (e - m)))) := by unfold rotF; rw [if_pos (by omega), if_neg (by omega)]
theorem Same.rot (f : Nat → Int) {s m e a b : Nat} (h1 : a ≤ s) (h2 : s ≤ m) (h3 : m ≤ e) (h4 : e ≤ b) : Same f (rotF f s m e) a b := by
  refine ⟨fun i i1 i2 => ?_, fun i i1 i2 => ?_, fun i hi => rotF_out _ _ _ _ _ (by omega)⟩
  · by_cases q : s ≤ i ∧ i < e
    · by_cases q2 : i < m
      · exact ⟨s + (e - m) + (i - s), by omega, by rw [rotF_hi _ _ _ _ _ (by omega) (by omega)]; congr 1; omega⟩
      · exact ⟨s + (i - m), by omega, by rw [rotF_lo _ _ _ _ _ (by omega) (by omega) h2 h3]; congr 1; omega⟩
    · exact ⟨i, by omega, rotF_out _ _ _ _ _ q⟩
  · by_cases q : s ≤ i ∧ i < e
    · by_cases q2 : i < s + (e - m)
      · exact ⟨m + (i - s), by omega, (rotF_lo _ _ _ _ _ q.1 q2 h2 h3).symm⟩
      · exact ⟨s + (i - (s + (e - m))), by omega, (rotF_hi _ _ _ _ _ (by omega) q.2).symm⟩
    · exact ⟨i, by omega, (rotF_out _ _ _ _ _ q).symm⟩

/-- Between the two halves: of the same size the lesser values first. -/
def Cr (z : Nat → Nat) (f : Nat → Int) (a m b : Nat) : Prop := ∀ i j, a ≤ i → i < m → m ≤ j → j < b → z (f i).toNat = z (f j).toNat → f i < f j

theorem Cr.lt {z : Nat → Nat} {f : Nat → Int} {a m b : Nat} (h : Cr z f a m b) {i j : Nat} (h1 : a ≤ i) (h2 : i < m) (h3 : m ≤ j) (h4 : j < b) : (z (f j).toNat < z (f i).toNat ↔ ltV z (f j) (f i)) ∧ (¬ z (f j).toNat < z (f i).toNat ↔ ltV z (f i) (f j)) := by
  have := h i j h1 h2 h3 h4
  unfold ltV
  omega

theorem SortedOn.le {z : Nat → Nat} {f : Nat → Int} {a b i j : Nat} (h : SortedOn z f a b) (h1 : a ≤ i) (h2 : i ≤ j) (h3 : j < b) {x : Int} (hx : ltV z (f j) x) : ltV z (f i) x := by
  rcases Nat.lt_or_ge i j with q | q
  · exact (h i j h1 q h3).trans hx
  · obtain rfl : i = j := by omega
    exact hx
theorem SortedOn.ge {z : Nat → Nat} {f : Nat → Int} {a b i j : Nat} (h : SortedOn z f a b) (h1 : a ≤ i) (h2 : i ≤ j) (h3 : j < b) {x : Int} (hx : ltV z x (f i)) : ltV z x (f j) := by
  rcases Nat.lt_or_ge i j with q | q
  · exact hx.trans (h i j h1 q h3)
  · obtain rfl : i = j := by omega
    exact hx
theorem SortedOn.sub {z : Nat → Nat} {f : Nat → Int} {a b c d : Nat} (h : SortedOn z f a b) (h1 : a ≤ c) (h2 : d ≤ b) : SortedOn z f c d := fun i j h3 h4 h5 => h i j (by omega) h4 (by omega)
theorem SortedOn.eq {z : Nat → Nat} {f g : Nat → Int} {a b : Nat} (h : SortedOn z f a b) (e : ∀ i, a ≤ i → i < b → g i = f i) : SortedOn z g a b := fun i j h3 h4 h5 => by rw [e i h3 (by omega), e j (by omega) h5]; exact h i j h3 h4 h5
theorem SortedOn.join {z : Nat → Nat} {g : Nat → Int} {a m b : Nat} (h : SortedOn z g a m) (k : SortedOn z g m b) (l : ∀ i j, a ≤ i → i < m → m ≤ j → j < b → ltV z (g i) (g j)) : SortedOn z g a b := fun i j h1 h2 h3 => by
  by_cases q : j < m
  · exact h i j h1 h2 q
  · by_cases q2 : i < m
    · exact l i j h1 q2 (by omega) h3
    · exact k i j (by omega) h2 h3

/-- Where the two halves are split. -/
structure Spl (z : Nat → Nat) (f : Nat → Int) (a s m e b : Nat) : Prop where
  as : a ≤ s
  sm : s ≤ m
  me : m ≤ e
  eb : e ≤ b
  up : a < s → e < b → ltV z (f (s - 1)) (f e)
  dn : m < e → s < m → ltV z (f (e - 1)) (f s)

/-- Behind turning them all on the left are ahead of all on the right. -/
theorem Spl.lt {z : Nat → Nat} {f : Nat → Int} {a s m e b : Nat} (S : Spl z f a s m e b) (A : SortedOn z f a m) (B : SortedOn z f m b) : ∀ i j, a ≤ i → i < s + (e - m) → s + (e - m) ≤ j → j < b → ltV z (rotF f s m e i) (rotF f s m e j) := fun i j i1 i2 j1 j2 => by
  obtain ⟨s1, s2, s3, s4, s5, s6⟩ := S
  by_cases qi : i < s
  · rw [rotF_out _ _ _ _ _ (by omega : ¬ (s ≤ i ∧ i < e))]
    by_cases qj : j < e
    · rw [rotF_hi _ _ _ _ _ j1 qj]
      exact A i _ i1 (by omega) (by omega)
    · rw [rotF_out _ _ _ _ _ (by omega : ¬ (s ≤ j ∧ j < e))]
      exact A.le i1 (show i ≤ s - 1 by omega) (by omega) (B.ge (by omega) (show e ≤ j by omega) j2 (s5 (by omega) (by omega)))
  · rw [rotF_lo _ _ _ _ _ (by omega) i2 s2 s3]
    by_cases qj : j < e
    · rw [rotF_hi _ _ _ _ _ j1 qj]
      exact B.le (by omega) (show m + (i - s) ≤ e - 1 by omega) (by omega) (A.ge (by omega) (show s ≤ s + (j - (s + (e - m))) by omega) (by omega) (s6 (by omega) (by omega)))
    · rw [rotF_out _ _ _ _ _ (by omega : ¬ (s ≤ j ∧ j < e))]
      exact B _ j (by omega) (by omega) j2

/-- The left half, turned: two sorted runs again. -/
theorem Spl.left {z : Nat → Nat} {f : Nat → Int} {a s m e b : Nat} (S : Spl z f a s m e b) (A : SortedOn z f a m) (B : SortedOn z f m b) : SortedOn z (rotF f s m e) a s ∧ SortedOn z (rotF f s m e) s (s + (e - m)) := by
  obtain ⟨s1, s2, s3, s4, s5, s6⟩ := S
  refine ⟨(A.sub (Nat.le_refl _) s2).eq (fun i h1 h2 => rotF_out _ _ _ _ _ (by omega)), fun i j h1 h2 h3 => ?_⟩
  rw [rotF_lo _ _ _ _ _ h1 (by omega) s2 s3, rotF_lo _ _ _ _ _ (by omega) h3 s2 s3]
  exact B _ _ (by omega) (by omega) (by omega)
theorem Spl.right {z : Nat → Nat} {f : Nat → Int} {a s m e b : Nat} (S : Spl z f a s m e b) (A : SortedOn z f a m) (B : SortedOn z f m b) : SortedOn z (rotF f s m e) (s + (e - m)) e ∧ SortedOn z (rotF f s m e) e b := by
  obtain ⟨s1, s2, s3, s4, s5, s6⟩ := S
  refine ⟨fun i j h1 h2 h3 => ?_, (B.sub s3 (Nat.le_refl _)).eq (fun i h1 h2 => rotF_out _ _ _ _ _ (by omega))⟩
  rw [rotF_hi _ _ _ _ _ h1 (by omega), rotF_hi _ _ _ _ _ (by omega) h3]
  exact A _ _ (by omega) (by omega) (by omega)
theorem Spl.crl {z : Nat → Nat} {f : Nat → Int} {a s m e b : Nat} (S : Spl z f a s m e b) (C : Cr z f a m b) : Cr z (rotF f s m e) a s (s + (e - m)) := fun i j h1 h2 h3 h4 => by
  obtain ⟨s1, s2, s3, s4, s5, s6⟩ := S
  rw [rotF_out _ _ _ _ _ (by omega : ¬ (s ≤ i ∧ i < e)), rotF_lo _ _ _ _ _ h3 h4 s2 s3]
  exact C _ _ h1 (by omega) (by omega) (by omega)
theorem Spl.crr {z : Nat → Nat} {f : Nat → Int} {a s m e b : Nat} (S : Spl z f a s m e b) (C : Cr z f a m b) : Cr z (rotF f s m e) (s + (e - m)) e b := fun i j h1 h2 h3 h4 => by
  obtain ⟨s1, s2, s3, s4, s5, s6⟩ := S
  rw [rotF_hi _ _ _ _ _ h1 h2, rotF_out _ _ _ _ _ (by omega : ¬ (s ≤ j ∧ j < e))]
  exact C _ _ (by omega) (by omega) (by omega) h4

/-- Both halves merged, each for itself: all is sorted. -/
theorem merged {z : Nat → Nat} {f g1 g2 : Nat → Int} {a s m e b : Nat} (S : Spl z f a s m e b) (A : SortedOn z f a m) (B : SortedOn z f m b) (h1 : SortedOn z g1 a (s + (e - m))) (k1 : Same (rotF f s m e) g1 a (s + (e - m))) (h2 : SortedOn z g2 (s + (e - m)) b) (k2 : Same g1 g2 (s + (e - m)) b) : SortedOn z g2 a b ∧ Same f g2 a b := by
  have hlt := S.lt A B
  obtain ⟨s1, s2, s3, s4, s5, s6⟩ := S
  refine ⟨SortedOn.join (h1.eq (fun i i1 i2 => k2.out i (by omega))) h2 (fun i j i1 i2 j1 j2 => ?_), ((Same.rot f s1 s2 s3 s4).trans (k1.wide (Nat.le_refl _) (by omega))).trans (k2.wide (by omega) (Nat.le_refl _))⟩
  rw [k2.out i (by omega)]
  obtain ⟨i', hi, e1⟩ := k1.bwd i i1 i2
  obtain ⟨j', hj, e2⟩ := k2.bwd j j1 j2
  rw [← e1, ← e2, k1.out j' (by omega)]
  exact hlt i' j' hi.1 hi.2 hj.1 hj.2

/-- Sorted in classes; classes by rising values. -/
structure St (z : Nat → Nat) (n : Nat) (g : Nat → Int) (d : Nat → Nat) : Prop where
  inn : ∀ i j, i < j → j < n → d i = d j → ltV z (g i) (g j)
  btw : ∀ i j, i < n → j < n → d i < d j → g i < g j

theorem St.block {z : Nat → Nat} {n a b c : Nat} {g h : Nat → Int} {d d' : Nat → Nat} (S : St z n g d) (hb : b ≤ n) (hs : SortedOn z h a b) (hk : Same g h a b)
    (h1 : ∀ i, i < n → ¬ (a ≤ i ∧ i < b) → d' i = d i) (h2 : ∀ i, a ≤ i → i < b → d' i = c) (h3 : ∀ i, i < n → ¬ (a ≤ i ∧ i < b) → d i ≠ c ∧ ∀ j, a ≤ j → j < b → (d i < c → d i < d j) ∧ (c < d i → d j < d i)) : St z n h d' := by
  refine ⟨fun i j hij hj e => ?_, fun i j hi hj e => ?_⟩
  · by_cases qi : a ≤ i ∧ i < b
    · by_cases qj : a ≤ j ∧ j < b
      · exact hs i j qi.1 hij qj.2
      · rw [h2 i qi.1 qi.2, h1 j hj qj] at e
        exact absurd e.symm (h3 j hj qj).1
    · by_cases qj : a ≤ j ∧ j < b
      · rw [h1 i (by omega) qi, h2 j qj.1 qj.2] at e
        exact absurd e (h3 i (by omega) qi).1
      · rw [h1 i (by omega) qi, h1 j hj qj] at e
        rw [hk.out i qi, hk.out j qj]
        exact S.inn i j hij hj e
  · by_cases qi : a ≤ i ∧ i < b
    · by_cases qj : a ≤ j ∧ j < b
      · rw [h2 i qi.1 qi.2, h2 j qj.1 qj.2] at e; omega
      · rw [h2 i qi.1 qi.2, h1 j hj qj] at e
        obtain ⟨i', hi', e2⟩ := hk.bwd i qi.1 qi.2
        rw [← e2, hk.out j qj]
        exact S.btw i' j (by omega) hj (((h3 j hj qj).2 i' hi'.1 hi'.2).2 e)
    · by_cases qj : a ≤ j ∧ j < b
      · rw [h1 i hi qi, h2 j qj.1 qj.2] at e
        obtain ⟨j', hj', e2⟩ := hk.bwd j qj.1 qj.2
        rw [← e2, hk.out i qi]
        exact S.btw i j' hi (by omega) (((h3 i hi qi).2 j' hj'.1 hj'.2).1 e)
      · rw [h1 i hi qi, h1 j hj qj] at e
        rw [hk.out i qi, hk.out j qj]
        exact S.btw i j hi hj e

theorem St.cong {z : Nat → Nat} {n : Nat} {g : Nat → Int} {d d' : Nat → Nat} (S : St z n g d) (h1 : ∀ i j, i < n → j < n → d' i = d' j → d i = d j) (h2 : ∀ i j, i < n → j < n → d' i < d' j → d i < d j) : St z n g d' :=
  ⟨fun i j hij hj e => S.inn i j hij hj (h1 i j (by omega) hj e), fun i j hi hj e => S.btw i j hi hj (h2 i j hi hj e)⟩

end Go.Proofs.Ytlpeplihbdcklaa
