/- The table that trees give, second part: its counts and its values. No program. -/
import Derived.Test.YtlpeplihbdcklaaOpTab
namespace Go.Proofs.Ytlpeplihbdcklaa
set_option linter.unusedVariables false

theorem sm_cut {f : Nat → Int} {m : Nat} : ∀ {n : Nat}, m ≤ n → (∀ s, m ≤ s → s < n → f s = 0) → sm f n = sm f m
  | 0, h, _ => by obtain rfl : m = 0 := by omega
                  rfl
  | n + 1, h, h0 => by
    by_cases e : m = n + 1
    · rw [e]
    · show sm f n + f n = sm f m
      rw [sm_cut (n := n) (by omega) (fun s h1 h2 => h0 s h1 (by omega)), h0 n (by omega) (by omega)]
      omega

theorem sm_mono {f : Nat → Int} {m : Nat} : ∀ {n : Nat}, m ≤ n → (∀ s, m ≤ s → s < n → 0 ≤ f s) → sm f m ≤ sm f n
  | 0, h, _ => by obtain rfl : m = 0 := by omega
                  exact Int.le_refl _
  | n + 1, h, h0 => by
    by_cases e : m = n + 1
    · rw [e]; exact Int.le_refl _
    · have := sm_mono (n := n) (by omega) (fun s h1 h2 => h0 s h1 (by omega))
      have := h0 n (by omega) (by omega)
      show _ ≤ sm f n + f n
      omega

/-- The first k values of size s. -/
def rowTo (z : Nat → Nat) (s : Nat) : Nat → List Int
  | 0 => []
  | k + 1 => if z k = s then rowTo z s k ++ [(k : Int)] else rowTo z s k
/-- Values of sizes 1 to m. -/
def valsTo (z : Nat → Nat) : Nat → List Int
  | 0 => []
  | m + 1 => valsTo z m ++ rowTo z (m + 1) 256

theorem row_len (z : Nat → Nat) (s : Nat) (hs : 0 < s) : ∀ k, ((rowTo z s k).length : Int) = cntF z k s
  | 0 => rfl
  | k + 1 => by
    have ih := row_len z s hs k
    show ((if z k = s then rowTo z s k ++ [(k : Int)] else rowTo z s k).length : Int) = cntF z k s + (if 0 < z k ∧ z k = s then 1 else 0)
    by_cases e : z k = s
    · rw [if_pos e, if_pos ⟨by omega, e⟩, List.length_append, List.length_singleton]; omega
    · rw [if_neg e, if_neg (fun x => e x.2)]; omega

theorem row_mem (z : Nat → Nat) (s : Nat) (x : Int) : ∀ k, x ∈ rowTo z s k ↔ ∃ u : Nat, u < k ∧ x = u ∧ z u = s
  | 0 => by unfold rowTo; simp
  | k + 1 => by
    have ih := row_mem z s x k
    unfold rowTo
    by_cases e : z k = s
    · rw [if_pos e, List.mem_append, List.mem_singleton, ih]
      constructor
      · rintro (⟨u, h1, h2, h3⟩ | h)
        · exact ⟨u, by omega, h2, h3⟩
        · exact ⟨k, by omega, h, e⟩
      · rintro ⟨u, h1, h2, h3⟩
        by_cases q : u = k
        · exact .inr (by rw [h2, q])
        · exact .inl ⟨u, by omega, h2, h3⟩
    · rw [if_neg e, ih]
      constructor
      · rintro ⟨u, h1, h2, h3⟩; exact ⟨u, by omega, h2, h3⟩
      · rintro ⟨u, h1, h2, h3⟩
        refine ⟨u, ?_, h2, h3⟩
        have : u ≠ k := fun q => e (q ▸ h3)
        omega

theorem row_once (z : Nat → Nat) (s : Nat) : ∀ k, (rowTo z s k).Nodup
  | 0 => List.nodup_nil
  | k + 1 => by
    have ih := row_once z s k
    unfold rowTo
    split
    · rw [List.nodup_append]
      refine ⟨ih, by simp, fun a ha b hb e => ?_⟩
      rw [List.mem_singleton] at hb
      obtain ⟨u, h1, h2, h3⟩ := (row_mem z s a k).1 ha
      omega
    · exact ih

theorem vals_mem (z : Nat → Nat) (x : Int) : ∀ m, x ∈ valsTo z m ↔ ∃ u : Nat, u < 256 ∧ x = u ∧ 0 < z u ∧ z u ≤ m
  | 0 => by unfold valsTo; simp; omega
  | m + 1 => by
    unfold valsTo
    rw [List.mem_append, vals_mem z x m, row_mem]
    constructor
    · rintro (⟨u, h1, h2, h3, h4⟩ | ⟨u, h1, h2, h3⟩)
      · exact ⟨u, h1, h2, h3, by omega⟩
      · exact ⟨u, h1, h2, by omega, by omega⟩
    · rintro ⟨u, h1, h2, h3, h4⟩
      by_cases q : z u = m + 1
      · exact .inr ⟨u, h1, h2, q⟩
      · exact .inl ⟨u, h1, h2, h3, by omega⟩

theorem vals_once (z : Nat → Nat) : ∀ m, (valsTo z m).Nodup
  | 0 => List.nodup_nil
  | m + 1 => by
    unfold valsTo
    rw [List.nodup_append]
    refine ⟨vals_once z m, row_once z _ _, fun a ha b hb e => ?_⟩
    obtain ⟨u, h1, h2, h3, h4⟩ := (vals_mem z a m).1 ha
    obtain ⟨v, g1, g2, g3⟩ := (row_mem z _ b _).1 hb
    have : u = v := by omega
    subst this
    omega

theorem vals_len (z : Nat → Nat) : ∀ m, ((valsTo z m).length : Int) = sm (cntF z 256) (m + 1)
  | 0 => by show (0 : Int) = 0 + cntF z 256 0; rw [cntF_zero]; rfl
  | m + 1 => by
    show ((valsTo z m ++ rowTo z (m + 1) 256).length : Int) = sm (cntF z 256) (m + 1) + cntF z 256 (m + 1)
    rw [List.length_append, ← vals_len z m, ← row_len z (m + 1) (by omega)]
    omega

/-- Where a value stands: behind no more than there are of sizes up to its own. -/
theorem vals_at (z : Nat → Nat) : ∀ (m p : Nat) (hp : p < (valsTo z m).length), ∃ u : Nat, u < 256 ∧ (valsTo z m)[p] = (u : Int) ∧ 0 < z u ∧ z u ≤ m ∧ (p : Int) < sm (cntF z 256) (z u + 1)
  | 0, p, hp => by simp [valsTo] at hp
  | m + 1, p, hp => by
    by_cases q : p < (valsTo z m).length
    · obtain ⟨u, h1, h2, h3, h4, h5⟩ := vals_at z m p q
      refine ⟨u, h1, ?_, h3, by omega, h5⟩
      rw [← h2]
      exact List.getElem_append_left q
    · have hl := vals_len z (m + 1)
      have hm := List.getElem_mem hp
      have hr : (valsTo z (m + 1))[p] ∈ rowTo z (m + 1) 256 := by
        have e : (valsTo z (m + 1))[p] = (rowTo z (m + 1) 256)[p - (valsTo z m).length]'(by simp only [valsTo, List.length_append] at hp; omega) := List.getElem_append_right (by omega)
        rw [e]
        exact List.getElem_mem _
      obtain ⟨u, h1, h2, h3⟩ := (row_mem z _ _ _).1 hr
      exact ⟨u, h1, h2, by omega, by omega, by rw [h3]; omega⟩

/-- The counts: those of all 257, made shorter, one of the greatest length less. -/
def lenL (z : Nat → Nat) : Nat → Int := cutAll 243 (cntF z 257)
def topL (z : Nat → Nat) : Nat := anyTo (lenL z) 16
def tabC (z : Nat → Nat) (n : Nat) : Int := if n + 1 = topL z then lenL z (n + 1) - 1 else lenL z (n + 1)
def tabV (z : Nat → Nat) : List Int := valsTo z 259

/-- What holds of the counts before one goes. -/
structure Cut (l : Nat → Int) (T : Int) (c : Nat → Int) (L : Nat) : Prop where
  full : Full l 16 T
  top : L = anyTo l 16
  c : ∀ n, c n = if n + 1 = L then l (n + 1) - 1 else l (n + 1)

theorem Full.ends {l : Nat → Int} {T : Int} (h : Full l 16 T) : ∀ m, m ≤ 16 → sm (fun s => l s * 2 ^ (259 - s)) (m + 1) = endC (fun n => l (n + 1)) m * 2 ^ (259 - m)
  | 0, _ => by show 0 + l 0 * _ = 0 * _; simp only [h.zero, Int.zero_mul, Int.add_zero]
  | m + 1, hm => by
    show sm (fun s => l s * 2 ^ (259 - s)) (m + 1) + l (m + 1) * 2 ^ (259 - (m + 1)) = (2 * endC (fun n => l (n + 1)) m + l (m + 1)) * 2 ^ (259 - (m + 1))
    rw [Full.ends h m (by omega), show 259 - m = (259 - (m + 1)) + 1 by omega, Int.pow_succ, Int.add_mul, Int.mul_comm 2 (endC _ m), Int.mul_assoc, Int.mul_comm 2]

theorem Full.cnts {l : Nat → Int} {T : Int} (h : Full l 16 T) : ∀ m, cnt (fun n => l (n + 1)) m = sm l (m + 1)
  | 0 => by show (0 : Int) = 0 + l 0; rw [h.zero]; rfl
  | m + 1 => by show cnt (fun n => l (n + 1)) m + l (m + 1) = sm l (m + 1) + l (m + 1); rw [Full.cnts h m]

theorem Full.some {l : Nat → Int} {i : Nat} {T : Int} (h : Full l i T) : ∃ s, s < 260 ∧ l s ≠ 0 := by
  apply Classical.byContradiction
  intro hn
  have hk := h.kraft
  rw [sm_zero (fun s hs => by
    have : l s = 0 := Classical.byContradiction fun q => hn ⟨s, hs, q⟩
    rw [this, Int.zero_mul])] at hk
  have h1 := one_le_pow 259
  rw [← hk] at h1
  exact absurd h1 (by decide)

theorem Cut.top_is {l : Nat → Int} {T : Int} {c : Nat → Int} {L : Nat} (h : Cut l T c L) : 1 ≤ L ∧ L ≤ 16 ∧ 0 < l L ∧ ∀ s, L < s → s < 260 → l s = 0 := by
  obtain ⟨s, h1, h2⟩ := h.full.some
  have h3 : s ≤ 16 := by
    apply Classical.byContradiction
    intro q
    exact h2 (h.full.top s (by omega) h1)
  have h4 : 1 ≤ s := by
    rcases Nat.eq_zero_or_pos s with e | e
    · exact absurd (e ▸ h.full.zero) h2
    · exact e
  obtain ⟨a1, a2⟩ := anyTo_at l 16 s h4 h3 h2
  have a3 := anyTo_le l 16
  rw [← h.top] at a1 a2 a3
  have := h.full.pos L (by omega)
  refine ⟨by omega, a3, by omega, fun t h5 h6 => ?_⟩
  by_cases q : t ≤ 16
  · exact anyTo_none l 16 t (by rw [← h.top]; exact h5) q
  · exact h.full.top t (by omega) h6

theorem endC_congr {c d : Nat → Int} : ∀ {m : Nat}, (∀ n, n < m → c n = d n) → endC c m = endC d m
  | 0, _ => rfl
  | m + 1, h => by unfold endC; rw [endC_congr (fun n hn => h n (by omega)), h m (by omega)]
theorem cnt_congr {c d : Nat → Int} : ∀ {m : Nat}, (∀ n, n < m → c n = d n) → cnt c m = cnt d m
  | 0, _ => rfl
  | m + 1, h => by unfold cnt; rw [cnt_congr (fun n hn => h n (by omega)), h m (by omega)]

theorem Cut.term {l : Nat → Int} {T : Int} {c : Nat → Int} {L : Nat} (h : Cut l T c L) (s : Nat) (hs : s < 260) : 0 ≤ l s * 2 ^ (259 - s) := by
  have := one_le_pow (259 - s)
  exact Int.mul_nonneg (h.full.pos s hs) (by omega)

/-- Up to the greatest length there is room; there it is full. -/
theorem Cut.room {l : Nat → Int} {T : Int} {c : Nat → Int} {L : Nat} (h : Cut l T c L) : (∀ m, m < L → endC (fun n => l (n + 1)) m ≤ 2 ^ m - 1) ∧ endC (fun n => l (n + 1)) L = 2 ^ L := by
  obtain ⟨a1, a2, a3, a4⟩ := h.top_is
  have hk := h.full.kraft
  refine ⟨fun m hm => ?_, ?_⟩
  · have e := h.full.ends m (by omega)
    have h1 : sm (fun s => l s * 2 ^ (259 - s)) (m + 1) ≤ sm (fun s => l s * 2 ^ (259 - s)) L := sm_mono (by omega) (fun s _ h2 => h.term s (by omega))
    have h2 : sm (fun s => l s * 2 ^ (259 - s)) (L + 1) ≤ sm (fun s => l s * 2 ^ (259 - s)) 260 := sm_mono (by omega) (fun s _ h2 => h.term s (by omega))
    have h3 : sm (fun s => l s * 2 ^ (259 - s)) (L + 1) = sm (fun s => l s * 2 ^ (259 - s)) L + l L * 2 ^ (259 - L) := rfl
    have h4 : (1 : Int) * 1 ≤ l L * 2 ^ (259 - L) := Int.mul_le_mul (by omega) (one_le_pow _) (by omega) (by omega)
    rw [hk] at h2
    have h5 : (2 : Int) ^ 259 = 2 ^ m * 2 ^ (259 - m) := by rw [← Int.pow_add, show m + (259 - m) = 259 by omega]
    rw [h5] at h2
    rw [e] at h1
    generalize (2 : Int) ^ 259 = u at *
    have h6 : endC (fun n => l (n + 1)) m * 2 ^ (259 - m) < 2 ^ m * 2 ^ (259 - m) := by omega
    have := Int.lt_of_mul_lt_mul_right h6 (by have := one_le_pow (259 - m); omega)
    omega
  · have e := h.full.ends L (by omega)
    have h1 : sm (fun s => l s * 2 ^ (259 - s)) 260 = sm (fun s => l s * 2 ^ (259 - s)) (L + 1) := sm_cut (by omega) (fun s h1 h2 => by rw [a4 s (by omega) h2, Int.zero_mul])
    have h5 : (2 : Int) ^ 259 = 2 ^ L * 2 ^ (259 - L) := by rw [← Int.pow_add, show L + (259 - L) = 259 by omega]
    rw [← h1, hk, h5] at e
    exact (Int.eq_of_mul_eq_mul_right (by have := one_le_pow (259 - L); omega) e).symm

theorem Cut.cntc {l : Nat → Int} {T : Int} {c : Nat → Int} {L : Nat} (h : Cut l T c L) : ∀ m, m ≤ 16 → cnt c m = if L ≤ m then sm l (m + 1) - 1 else sm l (m + 1) := fun m => by
  obtain ⟨a1, a2, a3, a4⟩ := h.top_is
  rw [← h.full.cnts]
  induction m with
  | zero => intro _; rw [if_neg (by omega)]; rfl
  | succ m ih =>
    intro hm
    show cnt c m + c m = if L ≤ m + 1 then cnt (fun n => l (n + 1)) m + l (m + 1) - 1 else cnt (fun n => l (n + 1)) m + l (m + 1)
    rw [ih (by omega), h.c]
    by_cases q : m + 1 = L
    · rw [if_pos q, if_neg (by omega), if_pos (by omega)]
      omega
    · rw [if_neg q]
      by_cases q2 : L ≤ m
      · rw [if_pos q2, if_pos (by omega)]; omega
      · rw [if_neg q2, if_neg (by omega)]

/-- Its counts may be. -/
theorem Cut.ok {l : Nat → Int} {T : Int} {c : Nat → Int} {L : Nat} (h : Cut l T c L) (hT : T ≤ 257) : OkC c 16 ∧ cnt c 16 = T - 1 := by
  obtain ⟨a1, a2, a3, a4⟩ := h.top_is
  obtain ⟨r1, r2⟩ := h.room
  have hf : Full l L T := ⟨h.full.pos, h.full.zero, a4, h.full.kraft, h.full.total⟩
  obtain ⟨r, hr⟩ := hf.even a1 (by omega)
  have hlL : l L ≤ T := by rw [← hf.total]; exact sm_term hf.pos (by omega)
  have hc : ∀ n, n + 1 ≠ L → c n = l (n + 1) := fun n hn => by rw [h.c, if_neg hn]
  have hcL : c (L - 1) = l L - 1 := by rw [h.c, if_pos (by omega), show L - 1 + 1 = L by omega]
  have hlow : ∀ m, m < L → endC c m = endC (fun n => l (n + 1)) m := fun m hm => endC_congr (fun n hn => hc n (by omega))
  have hat : endC c L = 2 ^ L - 1 := by
    have e1 : endC c (L - 1 + 1) = 2 * endC c (L - 1) + c (L - 1) := rfl
    have e2 : endC (fun n => l (n + 1)) (L - 1 + 1) = 2 * endC (fun n => l (n + 1)) (L - 1) + l (L - 1 + 1) := rfl
    rw [show L - 1 + 1 = L by omega] at e1 e2
    rw [hlow (L - 1) (by omega), hcL] at e1
    omega
  refine ⟨fun n hn => ?_, ?_⟩
  · by_cases e : n + 1 = L
    · obtain rfl : n = L - 1 := by omega
      rw [hcL, e]
      refine ⟨by omega, by omega, fun _ => by rw [hat]; exact Int.le_refl _⟩
    · rw [hc n e]
      have h0 := h.full.pos (n + 1) (by omega)
      by_cases q : n + 1 < L
      · have h1 : l (n + 1) + l L ≤ T := by rw [← hf.total]; exact sm_term2 hf.pos (by omega) (by omega) (by omega)
        refine ⟨h0, by omega, fun _ => by rw [hlow _ q]; exact r1 _ q⟩
      · rw [a4 (n + 1) (by omega) (by omega)]
        exact ⟨by omega, by omega, fun x => by omega⟩
  · have e1 : cnt (fun n => l (n + 1)) 16 = T := by
      rw [h.full.cnts, ← h.full.total]
      exact (sm_cut (by omega) (fun s h1 h2 => h.full.top s (by omega) h2)).symm
    rw [← e1]
    rw [h.cntc 16 (Nat.le_refl _), if_pos a2, h.full.cnts]

end Go.Proofs.Ytlpeplihbdcklaa
