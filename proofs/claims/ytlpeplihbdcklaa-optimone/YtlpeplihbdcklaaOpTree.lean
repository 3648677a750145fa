/- Trees of values: how they are joined, what sizes that gives. No program. -/
import Derived.Test.YtlpeplihbdcklaaOpMath
namespace Go.Proofs.Ytlpeplihbdcklaa
set_option linter.unusedVariables false

/-- The lightest of the first n that are there, but one: of as light ones the last; below 0: none. -/
def leastI (w : Nat → Int) (but : Int) : Nat → Int
  | 0 => -1
  | n + 1 => if (n : Int) ≠ but ∧ 0 < w n ∧ (leastI w but n < 0 ∨ w n ≤ w (leastI w but n).toNat) then n else leastI w but n

theorem leastI_spec (w : Nat → Int) (but : Int) : ∀ n, (leastI w but n = -1 ∧ ∀ i, i < n → (i : Int) ≠ but → ¬ 0 < w i) ∨
    (∃ b, leastI w but n = (b : Nat) ∧ b < n ∧ (b : Int) ≠ but ∧ 0 < w b ∧ ∀ i, i < n → (i : Int) ≠ but → 0 < w i → w b < w i ∨ (w b = w i ∧ i ≤ b))
  | 0 => .inl ⟨rfl, fun i hi => by omega⟩
  | n + 1 => by
    have ih := leastI_spec w but n
    unfold leastI
    by_cases h : (n : Int) ≠ but ∧ 0 < w n ∧ (leastI w but n < 0 ∨ w n ≤ w (leastI w but n).toNat)
    · rw [if_pos h]
      refine .inr ⟨n, rfl, by omega, h.1, h.2.1, fun i hi hne hw => ?_⟩
      by_cases e : i = n
      · subst e; exact .inr ⟨rfl, Nat.le_refl _⟩
      · rcases ih with ⟨e1, e2⟩ | ⟨b, e1, e2, e3, e4, e5⟩
        · exact absurd hw (e2 i (by omega) hne)
        · have h3 := h.2.2
          rw [e1] at h3
          simp only [Int.toNat_natCast] at h3
          have := e5 i (by omega) hne hw
          rcases h3 with h3 | h3
          · omega
          · by_cases q : w n = w i
            · exact .inr ⟨q, by omega⟩
            · exact .inl (by omega)
    · rw [if_neg h]
      rcases ih with ⟨e1, e2⟩ | ⟨b, e1, e2, e3, e4, e5⟩
      · refine .inl ⟨e1, fun i hi hne hw => ?_⟩
        by_cases e : i = n
        · subst e; exact h ⟨hne, hw, .inl (by rw [e1]; omega)⟩
        · exact e2 i (by omega) hne hw
      · refine .inr ⟨b, e1, by omega, e3, e4, fun i hi hne hw => ?_⟩
        by_cases e : i = n
        · subst e
          have : ¬ w i ≤ w b := fun q => h ⟨hne, hw, .inr (by rw [e1]; simpa using q)⟩
          exact .inl (by omega)
        · exact e5 i (by omega) hne hw

/-- The two that are joined next. -/
def pairOf (n : Nat) (w : Nat → Int) : Option (Nat × Nat) :=
  if leastI w (leastI w (-1) n) n < 0 then none else some ((leastI w (-1) n).toNat, (leastI w (leastI w (-1) n) n).toNat)

theorem pairOf_some {n : Nat} {w : Nat → Int} {A B : Nat} (h : pairOf n w = some (A, B)) : Pair w n A B ∧ leastI w (-1) n = A ∧ leastI w (A : Int) n = B := by
  unfold pairOf at h
  by_cases h0 : leastI w (leastI w (-1) n) n < 0
  · rw [if_pos h0] at h; cases h
  · rw [if_neg h0] at h
    simp only [Option.some.injEq, Prod.mk.injEq] at h
    obtain ⟨h1, h2⟩ := h
    rcases leastI_spec w (-1) n with ⟨e1, e2⟩ | ⟨a, e1, e2, e3, e4, e5⟩
    · exfalso
      rw [e1] at h0
      rcases leastI_spec w (-1) n with ⟨f1, f2⟩ | ⟨b, f1, f2, f3, f4, f5⟩
      · omega
      · omega
    · rw [e1] at h0 h1 h2
      simp only [Int.toNat_natCast] at h1
      subst h1
      rcases leastI_spec w (a : Int) n with ⟨f1, f2⟩ | ⟨b, f1, f2, f3, f4, f5⟩
      · omega
      · rw [f1] at h2
        simp only [Int.toNat_natCast] at h2
        subst h2
        refine ⟨⟨e2, f2, fun q => f3 (by rw [q]), e4, f4, fun i hi hw => ?_, fun i hi hn hw => ?_⟩, e1, f1⟩
        · have := e5 i hi (by omega) hw; omega
        · have := f5 i hi (by omega) hw; omega

theorem pairOf_none {n : Nat} {w : Nat → Int} (h : pairOf n w = none) : ∀ i j, i < n → j < n → 0 < w i → 0 < w j → i = j := by
  unfold pairOf at h
  by_cases h0 : leastI w (leastI w (-1) n) n < 0
  · intro i j hi hj wi wj
    rcases leastI_spec w (-1) n with ⟨e1, e2⟩ | ⟨a, e1, e2, e3, e4, e5⟩
    · exact absurd wi (e2 i hi (by omega))
    · rw [e1] at h0
      rcases leastI_spec w (a : Int) n with ⟨f1, f2⟩ | ⟨b, f1, f2, f3, f4, f5⟩
      · have hi2 : i = a := by
          by_cases q : i = a
          · exact q
          · exact absurd wi (f2 i hi (by omega))
        have hj2 : j = a := by
          by_cases q : j = a
          · exact q
          · exact absurd wj (f2 j hj (by omega))
        omega
      · omega
  · rw [if_neg h0] at h; cases h

/-- The trees: how heavy each is, of which a value is, how often it was joined. -/
structure Fo where
  w : Nat → Int
  tree : Nat → Nat
  size : Nat → Nat

def startF (W : Nat → Int) : Fo := ⟨W, fun i => i, fun _ => 0⟩
def joinF (f : Fo) (A B : Nat) : Fo := ⟨joined f.w A B, fun i => if f.tree i = A ∨ f.tree i = B then A else f.tree i, fun i => if f.tree i = A ∨ f.tree i = B then f.size i + 1 else f.size i⟩
def runF (n : Nat) : Nat → Fo → Fo
  | 0, f => f
  | k + 1, f => match pairOf n f.w with
    | none => f
    | some (A, B) => runF n k (joinF f A B)

/-- What holds of trees out of weights W. -/
structure FInv (W : Nat → Int) (n : Nat) (f : Fo) : Prop where
  pos : ∀ i, i < n → 0 ≤ f.w i
  dead : ∀ i, i < n → ¬ 0 < W i → f.tree i = i ∧ f.size i = 0 ∧ f.w i = 0
  live : ∀ i, i < n → 0 < W i → f.tree i < n ∧ 0 < f.w (f.tree i)
  weight : ∀ a, a < n → 0 < f.w a → f.w a = sm (fun i => if 0 < W i ∧ f.tree i = a then W i else 0) n
  kraft : ∀ a, a < n → 0 < f.w a → ∀ N, (∀ i, i < n → 0 < W i → f.tree i = a → f.size i ≤ N) → sm (fun i => if 0 < W i ∧ f.tree i = a then 2 ^ (N - f.size i) else 0) n = 2 ^ N

theorem sm_at {n a : Nat} (ha : a < n) (x : Int) : sm (fun i => if i = a then x else 0) n = x := by
  have := sm_one (f := fun i => if i = a then x else 0) (g := fun _ => 0) (k := a) (fun i hi => by simp [hi]) ha
  rw [sm_zero (fun _ _ => rfl)] at this
  simpa using this

theorem FInv.start {W : Nat → Int} {n : Nat} (hW : ∀ i, i < n → 0 ≤ W i) : FInv W n (startF W) := by
  refine ⟨hW, fun i hi hw => ⟨rfl, rfl, by have := hW i hi; show W i = 0; omega⟩, fun i hi hw => ⟨hi, hw⟩, fun a ha hw => ?_, fun a ha hw N _ => ?_⟩
  · refine (sm_at ha (W a)).symm.trans (sm_congr (fun i hi => ?_))
    show (if i = a then W a else 0) = if 0 < W i ∧ i = a then W i else 0
    by_cases e : i = a
    · subst e; rw [if_pos rfl, if_pos ⟨hw, rfl⟩]
    · rw [if_neg e, if_neg (fun q => e q.2)]
  · refine Eq.trans (sm_congr (fun i hi => ?_)) (sm_at ha ((2 : Int) ^ N))
    show (if 0 < W i ∧ i = a then (2 : Int) ^ (N - 0) else 0) = if i = a then 2 ^ N else 0
    by_cases e : i = a
    · subst e; rw [if_pos rfl, if_pos ⟨hw, rfl⟩, Nat.sub_zero]
    · rw [if_neg e, if_neg (fun q => e q.2)]

theorem FInv.join {W : Nat → Int} {n : Nat} {f : Fo} (h : FInv W n f) {A B : Nat} (p : Pair f.w n A B) : FInv W n (joinF f A B) := by
  have jA : joined f.w A B A = f.w A + f.w B := by unfold joined; rw [if_pos rfl]
  have jB : joined f.w A B B = 0 := by unfold joined; rw [if_neg p.ne.symm, if_pos rfl]
  have jO : ∀ i, i ≠ A → i ≠ B → joined f.w A B i = f.w i := fun i h1 h2 => by unfold joined; rw [if_neg h1, if_neg h2]
  have pa := p.wa
  have pb := p.wb
  have nodead : ∀ i, i < n → ¬ 0 < W i → ¬ (f.tree i = A ∨ f.tree i = B) := fun i hi hw q => by
    obtain ⟨e1, e2, e3⟩ := h.dead i hi hw
    rw [e1] at q
    rcases q with rfl | rfl <;> omega
  refine ⟨fun i hi => ?_, fun i hi hw => ?_, fun i hi hw => ?_, fun a ha hw => ?_, fun a ha hw N hN => ?_⟩
  · show 0 ≤ joined f.w A B i
    by_cases e1 : i = A
    · rw [e1, jA]; omega
    · by_cases e2 : i = B
      · rw [e2, jB]; omega
      · rw [jO i e1 e2]; exact h.pos i hi
  · have nd := nodead i hi hw
    obtain ⟨e1, e2, e3⟩ := h.dead i hi hw
    refine ⟨?_, ?_, ?_⟩
    · show (if f.tree i = A ∨ f.tree i = B then A else f.tree i) = i
      rw [if_neg nd, e1]
    · show (if f.tree i = A ∨ f.tree i = B then f.size i + 1 else f.size i) = 0
      rw [if_neg nd, e2]
    · show joined f.w A B i = 0
      rw [e1] at nd
      rw [jO i (fun q => nd (.inl q)) (fun q => nd (.inr q)), e3]
  · obtain ⟨e1, e2⟩ := h.live i hi hw
    show (if f.tree i = A ∨ f.tree i = B then A else f.tree i) < n ∧ 0 < joined f.w A B (if f.tree i = A ∨ f.tree i = B then A else f.tree i)
    by_cases q : f.tree i = A ∨ f.tree i = B
    · rw [if_pos q, jA]; exact ⟨p.a, by omega⟩
    · rw [if_neg q, jO _ (fun x => q (.inl x)) (fun x => q (.inr x))]; exact ⟨e1, e2⟩
  · show joined f.w A B a = sm (fun i => if 0 < W i ∧ (if f.tree i = A ∨ f.tree i = B then A else f.tree i) = a then W i else 0) n
    by_cases e1 : a = A
    · subst e1
      rw [jA, h.weight a p.a p.wa, h.weight B p.b p.wb, ← sm_add]
      refine sm_congr (fun i hi => ?_)
      by_cases q : f.tree i = a
      · have : ¬ f.tree i = B := fun x => p.ne (q.symm.trans x)
        simp [q, p.ne]
      · by_cases r : f.tree i = B
        · simp [r, p.ne.symm]
        · simp [q, r]
    · by_cases e2 : a = B
      · rw [e2] at hw
        have : (joinF f A B).w B = 0 := jB
        omega
      · rw [jO a e1 e2]
        have hw2 : 0 < f.w a := by have : (joinF f A B).w a = f.w a := jO a e1 e2; omega
        rw [h.weight a ha hw2]
        refine sm_congr (fun i hi => ?_)
        by_cases q : f.tree i = A ∨ f.tree i = B
        · have h1 : ¬ f.tree i = a := fun x => by rcases q with q | q <;> omega
          simp [q, h1, Ne.symm e1]
        · simp [q]
  · show sm (fun i => if 0 < W i ∧ (if f.tree i = A ∨ f.tree i = B then A else f.tree i) = a then (2 : Int) ^ (N - (if f.tree i = A ∨ f.tree i = B then f.size i + 1 else f.size i)) else 0) n = 2 ^ N
    by_cases e1 : a = A
    · subst e1
      have hm : ∀ i, i < n → 0 < W i → f.tree i = a ∨ f.tree i = B → f.size i + 1 ≤ N := fun i hi hwi q => by
        have := hN i hi hwi (show (if f.tree i = a ∨ f.tree i = B then a else f.tree i) = a by rw [if_pos q])
        have e : (joinF f a B).size i = f.size i + 1 := by show (if f.tree i = a ∨ f.tree i = B then f.size i + 1 else f.size i) = _; rw [if_pos q]
        omega
      have hN1 : 1 ≤ N := by
        rcases Nat.eq_zero_or_pos N with z | z
        · exfalso
          have h1 : f.w a = 0 := by
            rw [h.weight a p.a p.wa]
            refine sm_zero (fun i hi => ?_)
            by_cases q : 0 < W i ∧ f.tree i = a
            · have := hm i hi q.1 (.inl q.2); omega
            · rw [if_neg q]
          omega
        · exact z
      have k1 := h.kraft a p.a p.wa (N - 1) (fun i hi hwi q => by have := hm i hi hwi (.inl q); omega)
      have k2 := h.kraft B p.b p.wb (N - 1) (fun i hi hwi q => by have := hm i hi hwi (.inr q); omega)
      have e : (2 : Int) ^ N = 2 ^ (N - 1) + 2 ^ (N - 1) := by rw [show N = (N - 1) + 1 by omega, Int.pow_succ, Nat.add_sub_cancel]; omega
      rw [e]
      conv => rhs; rw [← k1]
      conv => rhs; rhs; rw [k1, ← k2]
      rw [← sm_add]
      refine sm_congr (fun i hi => ?_)
      by_cases q : f.tree i = a
      · have : ¬ f.tree i = B := fun x => p.ne (q.symm.trans x)
        simp [q, p.ne]
        rw [show N - (f.size i + 1) = N - 1 - f.size i by omega]
      · by_cases r : f.tree i = B
        · simp [r, p.ne.symm]
          rw [show N - (f.size i + 1) = N - 1 - f.size i by omega]
        · simp [q, r]
    · by_cases e2 : a = B
      · rw [e2] at hw
        have : (joinF f A B).w B = 0 := jB
        omega
      · have hw2 : 0 < f.w a := by have : (joinF f A B).w a = f.w a := jO a e1 e2; omega
        have key : ∀ i, f.tree i = a → ¬ (f.tree i = A ∨ f.tree i = B) := fun i q x => by rcases x with x | x <;> omega
        rw [← h.kraft a ha hw2 N (fun i hi hwi q => by
          have := hN i hi hwi (show (if f.tree i = A ∨ f.tree i = B then A else f.tree i) = a by rw [if_neg (key i q), q])
          have e : (joinF f A B).size i = f.size i := by show (if f.tree i = A ∨ f.tree i = B then f.size i + 1 else f.size i) = _; rw [if_neg (key i q)]
          omega)]
        refine sm_congr (fun i hi => ?_)
        by_cases q : f.tree i = A ∨ f.tree i = B
        · have h1 : ¬ f.tree i = a := fun x => key i x q
          simp [q, h1, Ne.symm e1]
        · simp [q]

/-- What joining costs. -/
theorem FInv.cost {W : Nat → Int} {n : Nat} {f : Fo} (h : FInv W n f) {A B : Nat} (p : Pair f.w n A B) : cost W n (joinF f A B).size = cost W n f.size + (f.w A + f.w B) := by
  unfold Proofs.Ytlpeplihbdcklaa.cost
  rw [h.weight A p.a p.wa, h.weight B p.b p.wb, ← sm_add, ← sm_add]
  refine sm_congr (fun i hi => ?_)
  show W i * ((if f.tree i = A ∨ f.tree i = B then f.size i + 1 else f.size i : Nat) : Int) = _
  by_cases hw : 0 < W i
  · by_cases q : f.tree i = A
    · have : ¬ f.tree i = B := fun x => p.ne (q.symm.trans x)
      simp [q, hw, p.ne, Int.mul_add]
    · by_cases r : f.tree i = B
      · simp [r, hw, p.ne.symm, Int.mul_add]
      · simp [q, r]
  · have nd : ¬ (f.tree i = A ∨ f.tree i = B) := fun q => by
      obtain ⟨e1, e2, e3⟩ := h.dead i hi hw
      have pa := p.wa
      have pb := p.wb
      rw [e1] at q
      rcases q with rfl | rfl <;> omega
    simp [nd, hw]

/-- How many trees there are. -/
def alive (w : Nat → Int) (n : Nat) : Int := sm (fun i => if 0 < w i then 1 else 0) n

theorem alive_join {w : Nat → Int} {n A B : Nat} (p : Pair w n A B) : alive (joined w A B) n = alive w n - 1 := by
  have jA : joined w A B A = w A + w B := by unfold joined; rw [if_pos rfl]
  have jB : joined w A B B = 0 := by unfold joined; rw [if_neg p.ne.symm, if_pos rfl]
  have pa := p.wa
  have pb := p.wb
  unfold alive
  have o := sm_two (f := fun i => if 0 < joined w A B i then 1 else 0) (g := fun i => if 0 < w i then 1 else 0) p.ne (fun i h1 h2 => by
    have : joined w A B i = w i := by unfold joined; rw [if_neg h1, if_neg h2]
    simp only [this]) p.a p.b
  rw [o]
  simp only [jA, jB]
  rw [if_pos p.wa, if_pos p.wb, if_pos (by omega), if_neg (by omega)]
  omega

theorem alive_two {w : Nat → Int} {n A B : Nat} (p : Pair w n A B) : 2 ≤ alive w n := by
  have := sm_term2 (f := fun i => if 0 < w i then 1 else 0) (n := n) (fun i _ => by split <;> omega) p.a p.b p.ne
  rw [if_pos p.wa, if_pos p.wb] at this
  exact this

/-- To the end. -/
theorem run_all {W : Nat → Int} {n : Nat} : ∀ (k : Nat) (f : Fo) (h : FInv W n f) (hk : alive f.w n ≤ k), FInv W n (runF n k f) ∧ pairOf n (runF n k f).w = none ∧ ∃ t, Joins n f.w t ∧ cost W n (runF n k f).size = cost W n f.size + t
  | 0, f, h, hk => by
    have hn : pairOf n f.w = none := by
      cases e : pairOf n f.w with
      | none => rfl
      | some x =>
        obtain ⟨A, B⟩ := x
        have := alive_two (pairOf_some e).1
        omega
    exact ⟨h, hn, 0, .done _ h.pos, by show cost W n f.size = _; omega⟩
  | k + 1, f, h, hk => by
    unfold runF
    cases e : pairOf n f.w with
    | none => exact ⟨h, e, 0, .done _ h.pos, by show cost W n f.size = _; omega⟩
    | some x =>
      obtain ⟨A, B⟩ := x
      have p := (pairOf_some e).1
      obtain ⟨h1, h2, t, h3, h4⟩ := run_all k (joinF f A B) (h.join p) (by show alive (joined f.w A B) n ≤ k; rw [alive_join p]; omega)
      refine ⟨h1, h2, _, .step _ A B t p h3, ?_⟩
      show cost W n (runF n k (joinF f A B)).size = _
      rw [h4, h.cost p]
      omega

theorem alive_le (w : Nat → Int) (n : Nat) : alive w n ≤ n := by
  have := sm_le (f := fun i => if 0 < w i then 1 else 0) (g := fun _ => 1) (n := n) (fun i _ => by split <;> omega)
  have e : ∀ n, sm (fun _ => 1) n = (n : Int) := fun n => by
    induction n with
    | zero => rfl
    | succ n ih => unfold sm; rw [ih]; omega
  rw [e] at this
  exact this

/-- Sizes at the end. -/
def sizesF (W : Nat → Int) (n : Nat) : Nat → Nat := (runF n n (startF W)).size

/-- All that come fill just what there is. -/
theorem sizes_kraft {W : Nat → Int} {n : Nat} (hW : ∀ i, i < n → 0 ≤ W i) (hx : ∃ i, i < n ∧ 0 < W i) (N : Nat) (hN : ∀ i, i < n → 0 < W i → sizesF W n i ≤ N) : sm (kr (fun i => 0 < W i) N (sizesF W n)) n = 2 ^ N := by
  obtain ⟨h, hp, -⟩ := run_all n (startF W) (FInv.start hW) (alive_le _ _)
  obtain ⟨x, hx1, hx2⟩ := hx
  obtain ⟨a1, a2⟩ := h.live x hx1 hx2
  rw [← h.kraft _ a1 a2 N (fun i hi hw _ => hN i hi hw)]
  refine sm_congr (fun i hi => ?_)
  unfold kr
  by_cases hw : 0 < W i
  · obtain ⟨b1, b2⟩ := h.live i hi hw
    have := pairOf_none hp _ _ b1 a1 b2 a2
    rw [if_pos hw, if_pos ⟨hw, this⟩]
    rfl
  · rw [if_neg hw, if_neg (fun q => hw q.1)]

/-- No lengths cost less. -/
theorem sizes_least {W : Nat → Int} {n : Nat} (hW : ∀ i, i < n → 0 ≤ W i) {N : Nat} {d : Nat → Nat} (hd : Ok W n N d) : cost W n (sizesF W n) ≤ cost W n d := by
  obtain ⟨h, hp, t, h3, h4⟩ := run_all n (startF W) (FInv.start hW) (alive_le _ _)
  have h5 : t ≤ cost W n d := h3.least hd
  have e : cost W n (startF W).size = 0 := sm_zero (fun i _ => by show W i * ((0 : Nat) : Int) = 0; simp)
  unfold sizesF
  rw [h4, e]
  omega

/-- What does not come has none. -/
theorem sizes_none {W : Nat → Int} {n : Nat} (hW : ∀ i, i < n → 0 ≤ W i) (i : Nat) (hi : i < n) (hw : ¬ 0 < W i) : sizesF W n i = 0 :=
  ((run_all n (startF W) (FInv.start hW) (alive_le _ _)).1.dead i hi hw).2.1

/-- What comes has one, if it is not alone. -/
theorem sizes_some {W : Nat → Int} {n : Nat} (hW : ∀ i, i < n → 0 ≤ W i) (i j : Nat) (hi : i < n) (hj : j < n) (hij : i ≠ j) (wi : 0 < W i) (wj : 0 < W j) : 1 ≤ sizesF W n i := by
  obtain ⟨X, hX, wX, mX⟩ := max_of (fun i => 0 < W i) (sizesF W n) n ⟨i, hi, wi⟩
  have hk := sizes_kraft hW ⟨i, hi, wi⟩ (sizesF W n X) mX
  have := sm_term2 (f := kr (fun i => 0 < W i) (sizesF W n X) (sizesF W n)) (fun i _ => kr_pos _ _ _ _) hi hj hij
  rw [hk] at this
  unfold kr at this
  dsimp only at this
  rw [if_pos wi, if_pos wj] at this
  have p1 := one_le_pow (sizesF W n X - sizesF W n j)
  rcases Nat.eq_zero_or_pos (sizesF W n i) with z | z
  · rw [z, Nat.sub_zero] at this; omega
  · exact z

/-- What comes more often has no greater size. -/
theorem sizes_order {W : Nat → Int} {n : Nat} (hW : ∀ i, i < n → 0 ≤ W i) (i j : Nat) (hi : i < n) (hj : j < n) (wj : 0 < W j) (hij : W j < W i) : sizesF W n i ≤ sizesF W n j := by
  obtain ⟨X, hX, wX, mX⟩ := max_of (fun i => 0 < W i) (sizesF W n) n ⟨j, hj, wj⟩
  have hok : Ok W n (sizesF W n X) (sizesF W n) := ⟨mX, Int.le_of_eq (sizes_kraft hW ⟨j, hj, wj⟩ _ mX)⟩
  have h1 := sizes_least hW (hok.swap hi hj (by omega) wj)
  have hne : i ≠ j := fun e => by subst e; omega
  unfold cost at h1
  have o := sm_two (f := fun k => W k * (swp (sizesF W n) i j k : Int)) (g := fun k => W k * (sizesF W n k : Int)) hne (fun k h1 h2 => by unfold swp; simp [h1, h2]) hi hj
  have e1 : swp (sizesF W n) i j i = sizesF W n j := by unfold swp; simp
  have e2 : swp (sizesF W n) i j j = sizesF W n i := by unfold swp; simp [Ne.symm hne]
  rw [o, e1, e2] at h1
  apply Nat.le_of_not_lt
  intro hlt
  have hm := Int.mul_le_mul (show (1 : Int) ≤ W i - W j by omega) (show (1 : Int) ≤ (sizesF W n i : Int) - sizesF W n j by omega) (by omega) (by omega)
  rw [Int.sub_mul, Int.mul_sub, Int.mul_sub] at hm
  omega

end Go.Proofs.Ytlpeplihbdcklaa
