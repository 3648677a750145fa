/- The table that trees give, third part: it may be; what it costs. No program. -/
import Derived.Test.YtlpeplihbdcklaaOpTab2
namespace Go.Proofs.Ytlpeplihbdcklaa
set_option linter.unusedVariables false

theorem tab_cut {W : Nat → Int} (h : Wt W) {v : Nat} (hv : v < 256) (hw : 0 < W v) : Cut (lenL (szF W)) (many (szF W) 257) (tabC (szF W)) (topL (szF W)) :=
  ⟨(full_start h hv hw).cutAll (many_le _ _).2 243 (by omega), rfl, fun n => rfl⟩

theorem many_last {W : Nat → Int} (h : Wt W) {v : Nat} (hv : v < 256) (hw : 0 < W v) : many (szF W) 257 = many (szF W) 256 + 1 := by
  have h1 := (size_iff h hv hw 256 (by omega)).2 (by rw [h.one]; omega)
  show many (szF W) 256 + (if 0 < szF W 256 then 1 else 0) = _
  rw [if_pos h1]

theorem tab_len (z : Nat → Nat) (hz : ∀ i, i < 256 → z i < 260) : ((tabV z).length : Int) = many z 256 := by
  unfold tabV
  rw [vals_len]
  exact sum_counts z 260 256 hz

theorem size_lt (W : Nat → Int) (i : Nat) : szF W i < 260 := by have := sizes_le W 257 i; unfold szF; omega

theorem tab_none {W : Nat → Int} (h : Wt W) (hn : ∀ v, v < 256 → ¬ 0 < W v) : tabV (szF W) = [] ∧ ∀ n, tabC (szF W) n = 0 := by
  have hz := size_all_none h hn
  refine ⟨?_, fun n => ?_⟩
  · rw [List.eq_nil_iff_forall_not_mem]
    intro x hx
    obtain ⟨u, h1, h2, h3, h4⟩ := (vals_mem _ _ _).1 hx
    have := hz u (by omega)
    omega
  · have hc : ∀ s, cntF (szF W) 257 s = 0 := fun s => sm_zero (fun i hi => by rw [hz i hi, if_neg (by omega)])
    have hl : lenL (szF W) = cntF (szF W) 257 := cutAll_none _ _ (fun s _ _ => by rw [hc]; exact Int.le_refl _)
    have ht : topL (szF W) = 0 := by
      unfold topL
      have go : ∀ k, anyTo (lenL (szF W)) k = 0 := fun k => by
        induction k with
        | zero => rfl
        | succ k ih => unfold anyTo; rw [hl, hc, if_pos rfl, ← hl]; exact ih
      exact go 16
    unfold tabC
    rw [ht, if_neg (by omega), hl, hc]

/-- It may be. -/
theorem tab_ok {W : Nat → Int} (h : Wt W) : OkT (tabC (szF W)) (tabV (szF W)) := by
  by_cases hx : ∃ v, v < 256 ∧ 0 < W v
  · obtain ⟨v, hv, hw⟩ := hx
    have hl := tab_len (szF W) (fun i _ => size_lt W i)
    have hm := many_last h hv hw
    obtain ⟨h1, h2⟩ := (tab_cut h hv hw).ok (many_le _ _).2
    have h3 := (many_le (szF W) 256).2
    exact ⟨h1, by omega, by omega, vals_once _ _⟩
  · obtain ⟨e1, e2⟩ := tab_none h (fun v hv hw => hx ⟨v, hv, hw⟩)
    refine ⟨fun i hi => by rw [e2]; exact ⟨by omega, by omega, fun q => by omega⟩, ?_, by rw [e1]; simp, by rw [e1]; simp⟩
    rw [e1]
    have go : ∀ m, cnt (tabC (szF W)) m = 0 := fun m => by
      induction m with
      | zero => rfl
      | succ m ih => unfold cnt; rw [ih, e2]; rfl
    rw [go]; rfl

theorem tab_mem {W : Nat → Int} (h : Wt W) (v : Nat) (hv : v < 256) : (v : Int) ∈ tabV (szF W) ↔ 0 < W v := by
  unfold tabV
  rw [vals_mem]
  constructor
  · rintro ⟨u, h1, h2, h3, h4⟩
    obtain rfl : v = u := by omega
    apply Classical.byContradiction
    intro q
    have := sizes_none h.pos v (by omega) q
    unfold szF at h3
    omega
  · intro hw
    have := (size_iff h hv hw v (by omega)).2 hw
    have := size_lt W v
    exact ⟨v, hv, rfl, by omega, by omega⟩

/-- Each value that comes has a code, and none else. -/
theorem tab_code {W : Nat → Int} (h : Wt W) (v : Nat) (hv : v < 256) : (0 < W v → 0 < codN (tabC (szF W)) (tabV (szF W)) v) ∧ (¬ 0 < W v → codN (tabC (szF W)) (tabV (szF W)) v = 0) := by
  have h1 := cod_has (tab_ok h) v
  have h2 := tab_mem h v hv
  exact ⟨fun q => h1.1 (h2.2 q), fun q => h1.2 (fun x => q (h2.1 x))⟩

theorem cntF_more (z : Nat → Nat) (s : Nat) : cntF z 256 s ≤ cntF z 257 s := by
  show _ ≤ cntF z 256 s + (if 0 < z 256 ∧ z 256 = s then 1 else 0)
  split <;> omega

/-- None is too long: nothing is cut. -/
theorem len_none {W : Nat → Int} (h : Wt W) {v : Nat} (hv : v < 256) (hw : 0 < W v) (hs : ∀ v, v < 256 → szF W v ≤ 15) : lenL (szF W) = cntF (szF W) 257 := by
  refine cutAll_none 243 _ (fun s h1 h2 => ?_)
  show cntF (szF W) 257 s ≤ 0
  have hlow : ∀ s, 15 < s → cntF (szF W) 256 s = 0 := fun s hs2 => sm_zero (fun i hi => by
    have := hs i hi
    rw [if_neg (by omega)])
  have e : cntF (szF W) 257 s = cntF (szF W) 256 s + (if 0 < szF W 256 ∧ szF W 256 = s then 1 else 0) := rfl
  by_cases q : 0 < szF W 256 ∧ szF W 256 = s
  · exfalso
    have hf := full_start h hv hw
    have hf2 : Full (cntF (szF W) 257) s (many (szF W) 257) := ⟨hf.pos, hf.zero, fun t h3 h4 => by
      show cntF (szF W) 256 t + (if 0 < szF W 256 ∧ szF W 256 = t then 1 else 0) = 0
      rw [hlow t (by omega), if_neg (by omega)]; rfl, hf.kraft, hf.total⟩
    obtain ⟨r, hr⟩ := hf2.even (by omega) (by omega)
    rw [e, hlow s (by omega), if_pos q] at hr
    omega
  · rw [e, hlow s (by omega), if_neg q]; exact Int.le_refl _

/-- No code is longer than its size. -/
theorem len_le {W : Nat → Int} (h : Wt W) {v : Nat} (hv : v < 256) (hw : 0 < W v) (hs : ∀ v, v < 256 → szF W v ≤ 15) (p : Nat) (hp : p < (tabV (szF W)).length) : ∃ u : Nat, u < 256 ∧ (tabV (szF W))[p] = (u : Int) ∧ lenP (tabC (szF W)) p ≤ szF W u := by
  obtain ⟨u, h1, h2, h3, h4, h5⟩ := vals_at (szF W) 259 p hp
  refine ⟨u, h1, h2, ?_⟩
  obtain ⟨n, k, n1, k1, k2, e1, e2, e3⟩ := p_place (tab_ok h) p hp
  rw [e2]
  apply Nat.le_of_not_lt
  intro hlt
  have hu := hs u h1
  have hc := tab_cut h hv hw
  have hm := cnt_mono (tab_ok h).ok (szF W u) n (by omega) (by omega)
  rw [hc.cntc (szF W u) (by omega), len_none h hv hw hs] at hm
  have hle : sm (cntF (szF W) 256) (szF W u + 1) ≤ sm (cntF (szF W) 257) (szF W u + 1) := sm_le (fun s _ => cntF_more _ s)
  by_cases q : topL (szF W) ≤ szF W u
  · rw [if_pos q] at hm
    obtain ⟨t1, t2, t3, t4⟩ := hc.top_is
    have hf := hc.full.total
    rw [len_none h hv hw hs] at t4 hf
    have e4 : sm (cntF (szF W) 257) 260 = sm (cntF (szF W) 257) (szF W u + 1) := sm_cut (by omega) (fun s x1 x2 => t4 s (by omega) x2)
    have hl := tab_len (szF W) (fun i _ => size_lt W i)
    have hm2 := many_last h hv hw
    rw [← e4, hf] at hm
    omega
  · rw [if_neg q] at hm
    omega

end Go.Proofs.Ytlpeplihbdcklaa
