/- What the laws of layer 11 want: one value alone; all alike; order. No program. -/
import Derived.Test.YtlpeplihbdcklaaOpLaw
namespace Go.Proofs.Ytlpeplihbdcklaa
set_option linter.unusedVariables false

/-- One value alone: one bit. -/
theorem one_alone {W : Nat → Int} (h : Wt W) {v : Nat} (hv : v < 256) (hw : 0 < W v) (ho : ∀ i, i < 256 → i ≠ v → W i = 0) : tabV (szF W) = [(v : Int)] ∧ tabC (szF W) 0 = 1 ∧ bits (tabC (szF W)) (tabV (szF W)) W = W v := by
  have w256 : 0 < W 256 := by rw [h.one]; omega
  have a1 := (size_iff h hv hw v (by omega)).2 hw
  have a2 := (size_iff h hv hw 256 (by omega)).2 w256
  have hn : ∀ i, i < 256 → i ≠ v → szF W i = 0 := fun i hi hne => sizes_none h.pos i (by omega) (by rw [ho i hi hne]; omega)
  have hk := sizes_kraft h.pos ⟨v, by omega, hw⟩ 257 (fun i _ _ => sizes_le W 257 i)
  rw [sm_last] at hk
  have e1 : sm (kr (fun i => 0 < W i) 257 (sizesF W 257)) 256 = 2 ^ (257 - szF W v) := by
    rw [← sm_at hv ((2 : Int) ^ (257 - szF W v))]
    refine sm_congr (fun i hi => ?_)
    unfold kr
    by_cases e : i = v
    · subst e; rw [if_pos hw, if_pos rfl]
    · have hni : ¬ 0 < W i := by rw [ho i hi e]; omega
      rw [if_neg hni, if_neg e]
  have e2 : kr (fun i => 0 < W i) 257 (sizesF W 257) 256 = 2 ^ (257 - szF W 256) := by unfold kr; rw [if_pos w256]
  rw [e1, e2] at hk
  have p1 := pow_le (show 257 - szF W 256 ≤ 256 by omega)
  have h257 : (2 : Int) ^ 257 = 2 * 2 ^ 256 := by rw [Int.pow_succ]; omega
  have hz : szF W v = 1 := by
    apply Classical.byContradiction
    intro q
    have p2 := pow_le (show 257 - szF W v ≤ 255 by omega)
    have h256 : (2 : Int) ^ 256 = 2 * 2 ^ 255 := by rw [Int.pow_succ]; omega
    have p3 := one_le_pow 255
    omega
  have hs : ∀ i, i < 256 → szF W i ≤ 15 := fun i hi => by
    by_cases e : i = v
    · subst e; omega
    · rw [hn i hi e]; omega
  have hl := tab_len (szF W) (fun i _ => size_lt W i)
  have hm : many (szF W) 256 = 1 := by
    rw [← sm_at hv 1]
    refine sm_congr (fun i hi => ?_)
    by_cases e : i = v
    · subst e; rw [if_pos a1, if_pos rfl]
    · rw [hn i hi e, if_neg (by omega), if_neg e]
  have hmem := (tab_mem h v hv).2 hw
  have hV : tabV (szF W) = [(v : Int)] := by
    match hq : tabV (szF W) with
    | [] => rw [hq] at hmem; simp at hmem
    | [x] => rw [hq] at hmem; rw [List.mem_singleton] at hmem; rw [hmem]
    | x :: y :: t => rw [hq] at hl; simp at hl; omega
  have hp : 0 < (tabV (szF W)).length := by rw [hV]; simp
  have h0 : (tabV (szF W))[0] = (v : Int) := by simp [hV]
  obtain ⟨u, u1, u2, u3⟩ := len_le h hv hw hs 0 hp
  obtain rfl : u = v := by omega
  obtain ⟨n, k, n1, k1, k2, f1, f2, f3⟩ := p_place (tab_ok h) 0 hp
  obtain rfl : n = 0 := by omega
  have hc := (tab_ok h).ok 0 (by omega)
  have hc2 := hc.2.2 (by omega)
  have hc3 : endC (tabC (szF W)) (0 + 1) = 2 * 0 + tabC (szF W) 0 := rfl
  have hc4 : (2 : Int) ^ (0 + 1) = 2 := by decide
  refine ⟨hV, by omega, ?_⟩
  unfold bits
  rw [← sm_at u1 (W u)]
  refine sm_congr (fun i hi => ?_)
  by_cases e : i = u
  · subst e
    rw [(cod_of (tab_ok h) 0 hp i h0.symm).1, f2, if_pos rfl]
    simp
  · rw [ho i hi e, if_neg e, Int.zero_mul]

theorem cntF_some {z : Nat → Nat} {n s : Nat} (h : 0 < cntF z n s) : ∃ i, i < n ∧ 0 < z i ∧ z i = s := by
  apply Classical.byContradiction
  intro hn
  have : cntF z n s = 0 := sm_zero (fun i hi => by rw [if_neg (fun q => hn ⟨i, hi, q⟩)])
  omega

/-- All alike: no size is two more than another. -/
theorem alike_near {W : Nat → Int} (h : Wt W) (ha : ∀ i, i < 256 → W i = 5) (X Y : Nat) (hX : X < 257) (hY : Y < 257) (hm : ∀ i, i < 257 → szF W i ≤ szF W X) : szF W X ≤ szF W Y + 1 := by
  have hp : ∀ i, i < 257 → 0 < W i := fun i hi => by
    by_cases e : i = 256
    · rw [e, h.one]; omega
    · rw [ha i (by omega)]; omega
  have hv : (0 : Nat) < 256 := by omega
  have hw := hp 0 (by omega)
  have hpos : ∀ i, i < 257 → 0 < szF W i := fun i hi => (size_iff h hv hw i hi).2 (hp i hi)
  apply Nat.le_of_not_lt
  intro hlt
  have hf := full_start h hv hw
  have hf2 : Full (cntF (szF W) 257) (szF W X) (many (szF W) 257) := ⟨hf.pos, hf.zero, fun t h3 h4 => by
    have := cntF_pos (szF W) 257 t
    apply Classical.byContradiction
    intro q
    obtain ⟨i, hi, _, e⟩ := cntF_some (z := szF W) (n := 257) (s := t) (by omega)
    have := hm i hi
    omega, hf.kraft, hf.total⟩
  obtain ⟨r, hr⟩ := hf2.even (hpos X hX) (size_lt W X)
  have hX' : ∃ X', X' < 257 ∧ X' ≠ X ∧ szF W X' = szF W X := by
    apply Classical.byContradiction
    intro hn
    have e : cntF (szF W) 257 (szF W X) = 1 := by
      rw [← sm_at hX 1]
      refine sm_congr (fun i hi => ?_)
      by_cases e : i = X
      · subst e; rw [if_pos ⟨hpos i hi, rfl⟩, if_pos rfl]
      · rw [if_neg (fun q => hn ⟨i, hi, e, q.2⟩), if_neg e]
    omega
  obtain ⟨Z, hZ, hZX, ez⟩ := hX'
  have hZY : Z ≠ Y := fun e => by rw [e] at ez; omega
  have hXY : X ≠ Y := fun e => by rw [e] at hlt; omega
  obtain ⟨M, hM⟩ : ∃ M, szF W X = M := ⟨_, rfl⟩
  obtain ⟨m, hm'⟩ : ∃ m, szF W Y = m := ⟨_, rfl⟩
  have hMle : M ≤ 257 := by rw [← hM]; exact sizes_le W 257 X
  rw [hM] at hlt ez
  rw [hm'] at hlt
  have hk := sizes_kraft h.pos ⟨X, hX, hp X hX⟩ 257 (fun i _ _ => sizes_le W 257 i)
  have hmY := hpos Y hY
  rw [hm'] at hmY
  -- three are set anew
  obtain ⟨d1, hd1⟩ : ∃ d, set1 (szF W) Y (m + 1) = d := ⟨_, rfl⟩
  obtain ⟨d, hd⟩ : ∃ d, (fun i => if i = X then m + 1 else if i = Z then M - 1 else d1 i) = d := ⟨_, rfl⟩
  have dX : d X = m + 1 := by rw [← hd]; simp
  have dZ : d Z = M - 1 := by rw [← hd]; simp [hZX]
  have dO : ∀ i, i ≠ X → i ≠ Z → d i = d1 i := fun i h1 h2 => by rw [← hd]; simp [h1, h2]
  have d1X : d1 X = M := by rw [← hd1]; unfold set1; rw [if_neg hXY, hM]
  have d1Z : d1 Z = M := by rw [← hd1]; unfold set1; rw [if_neg hZY, ez]
  have d1Y : d1 Y = m + 1 := by rw [← hd1]; unfold set1; rw [if_pos rfl]
  have d1O : ∀ i, i ≠ Y → d1 i = szF W i := fun i h1 => by rw [← hd1]; unfold set1; rw [if_neg h1]
  have k1 := sm_one (f := kr (fun i => 0 < W i) 257 d1) (g := kr (fun i => 0 < W i) 257 (szF W)) (k := Y) (n := 257) (fun i hi => by unfold kr; rw [d1O i hi]) hY
  have k2 := sm_two (f := kr (fun i => 0 < W i) 257 d) (g := kr (fun i => 0 < W i) 257 d1) (k := X) (l := Z) (n := 257) hZX.symm (fun i h1 h2 => by unfold kr; rw [dO i h1 h2]) hX hZ
  have krp : ∀ (q : Nat → Nat) (i : Nat), i < 257 → kr (fun i => 0 < W i) 257 q i = 2 ^ (257 - q i) := fun q i hi => by unfold kr; rw [if_pos (hp i hi)]
  rw [krp _ Y hY, krp _ Y hY, d1Y, hm', hk] at k1
  rw [krp _ X hX, krp _ X hX, krp _ Z hZ, krp _ Z hZ, dX, dZ, d1X, d1Z, k1] at k2
  have q1 : (2 : Int) ^ (257 - m) = 2 * 2 ^ (257 - (m + 1)) := by rw [show 257 - m = (257 - (m + 1)) + 1 by omega, Int.pow_succ]; omega
  have q2 : (2 : Int) ^ (257 - (M - 1)) = 2 * 2 ^ (257 - M) := by rw [show 257 - (M - 1) = (257 - M) + 1 by omega, Int.pow_succ]; omega
  rw [q1, q2] at k2
  have hok : Ok W 257 257 d := ⟨fun i hi _ => by
    by_cases e1 : i = X
    · rw [e1, dX]; omega
    · by_cases e2 : i = Z
      · rw [e2, dZ]; omega
      · rw [dO i e1 e2]
        by_cases e3 : i = Y
        · rw [e3, d1Y]; omega
        · rw [d1O i e3]; exact sizes_le W 257 i, by
    rw [k2]
    generalize (2 : Int) ^ (257 - (m + 1)) = a
    generalize (2 : Int) ^ (257 - M) = b
    generalize (2 : Int) ^ 257 = c
    omega⟩
  have hl := sizes_least h.pos hok
  unfold cost at hl
  have hm2 : sizesF W 257 Y = m := hm'
  have c1 := sm_one (f := fun i => W i * (d1 i : Int)) (g := fun i => W i * (sizesF W 257 i : Int)) (k := Y) (n := 257) (fun i hi => by rw [d1O i hi]) hY
  have c2 := sm_two (f := fun i => W i * (d i : Int)) (g := fun i => W i * (d1 i : Int)) (k := X) (l := Z) (n := 257) hZX.symm (fun i h1 h2 => by rw [dO i h1 h2]) hX hZ
  rw [c2, c1] at hl
  simp only [dX, dZ, d1X, d1Z, d1Y, hm2] at hl
  have wY : W Y ≤ 5 := by
    by_cases e : Y = 256
    · rw [e, h.one]; omega
    · rw [ha Y (by omega)]; omega
  have wXZ : 6 ≤ W X + W Z := by
    by_cases e : X = 256
    · rw [e, h.one, ha Z (by omega)]; omega
    · by_cases e2 : Z = 256
      · rw [e2, h.one, ha X (by omega)]; omega
      · rw [ha X (by omega), ha Z (by omega)]; omega
  have wX := hp X hX
  have g1 : W Y * ((m + 1 : Nat) : Int) = W Y * (m : Int) + W Y := by rw [show ((m + 1 : Nat) : Int) = (m : Int) + 1 by omega, Int.mul_add]; omega
  have g2 : W Z * ((M - 1 : Nat) : Int) = W Z * (M : Int) - W Z := by rw [show ((M - 1 : Nat) : Int) = (M : Int) - 1 by omega, Int.mul_sub]; omega
  have g3 : W X * ((m + 1 : Nat) : Int) ≤ W X * (M : Int) - W X := by
    have := Int.mul_le_mul_of_nonneg_left (show ((m + 1 : Nat) : Int) ≤ (M : Int) - 1 by omega) (show 0 ≤ W X by omega)
    rw [Int.mul_sub] at this
    omega
  rw [g1, g2] at hl
  generalize sm (fun i => W i * (sizesF W 257 i : Int)) 257 = s at hl
  omega

/-- All alike: eight bits or nine. -/
theorem alike_sizes {W : Nat → Int} (h : Wt W) (ha : ∀ i, i < 256 → W i = 5) (i : Nat) (hi : i < 257) : szF W i = 8 ∨ szF W i = 9 := by
  have hp : ∀ i, i < 257 → 0 < W i := fun i hi => by
    by_cases e : i = 256
    · rw [e, h.one]; omega
    · rw [ha i (by omega)]; omega
  have hk := sizes_kraft h.pos ⟨0, by omega, hp 0 (by omega)⟩ 257 (fun i _ _ => sizes_le W 257 i)
  obtain ⟨X, hX, -, mX⟩ := max_of (fun _ => True) (szF W) 257 ⟨0, by omega, trivial⟩
  have hnear : ∀ Y, Y < 257 → szF W X ≤ szF W Y + 1 := fun Y hY => alike_near h ha X Y hX hY (fun i hi => mX i hi trivial)
  have krp : ∀ i, i < 257 → kr (fun i => 0 < W i) 257 (sizesF W 257) i = 2 ^ (257 - szF W i) := fun i hi => by unfold kr; rw [if_pos (hp i hi)]
  have hone : ∀ n, sm (fun _ => 1) n = (n : Int) := fun n => by
    induction n with
    | zero => rfl
    | succ n ih => unfold sm; rw [ih]; omega
  have e8 : (2 : Int) ^ 257 = 256 * 2 ^ 249 := by rw [show 257 = 8 + 249 from rfl, Int.pow_add]; rfl
  have e9 : (2 : Int) ^ 257 = 512 * 2 ^ 248 := by rw [show 257 = 9 + 248 from rfl, Int.pow_add]; rfl
  have n8 := one_le_pow 249
  have n9 := one_le_pow 248
  have hXX := hnear i hi
  have hiX := mX i hi trivial
  -- not all are up to 8
  have h1 : ¬ szF W X ≤ 8 := fun q => by
    have hle : sm (fun i => (2 : Int) ^ 249 * 1) 257 ≤ sm (kr (fun i => 0 < W i) 257 (sizesF W 257)) 257 := sm_le (fun i hi => by
      have := mX i hi trivial
      rw [krp i hi, Int.mul_one]
      exact pow_le (by omega))
    rw [sm_mul _ (fun _ => 1), hone, hk, e8] at hle
    generalize (2 : Int) ^ 249 = u at *
    omega
  -- not all are from 9 on
  have h2 : ¬ 10 ≤ szF W X := fun q => by
    have hle : sm (kr (fun i => 0 < W i) 257 (sizesF W 257)) 257 ≤ sm (fun i => (2 : Int) ^ 248 * 1) 257 := sm_le (fun i hi => by
      have := hnear i hi
      rw [krp i hi, Int.mul_one]
      exact pow_le (by omega))
    rw [sm_mul _ (fun _ => 1), hone, hk, e9] at hle
    generalize (2 : Int) ^ 248 = u at *
    omega
  omega

theorem alike_codes {W : Nat → Int} (h : Wt W) (ha : ∀ i, i < 256 → W i = 5) (v : Nat) (hv : v < 256) : codN (tabC (szF W)) (tabV (szF W)) v = 8 ∨ codN (tabC (szF W)) (tabV (szF W)) v = 9 := by
  have hw : 0 < W v := by rw [ha v hv]; omega
  have hz := alike_sizes h ha
  obtain ⟨p, hp, e⟩ := List.getElem_of_mem ((tab_mem h v hv).2 hw)
  rw [(cod_of (tab_ok h) p hp v e.symm).1]
  obtain ⟨n, k, n1, k1, k2, f1, f2, f3⟩ := p_place (tab_ok h) p hp
  have hl := len_none h hv hw (fun v hv => by have := hz v (by omega); omega)
  have hc : tabC (szF W) n ≤ cntF (szF W) 257 (n + 1) := by
    unfold tabC
    rw [hl]
    split <;> omega
  obtain ⟨i, hi, _, q⟩ := cntF_some (z := szF W) (n := 257) (s := n + 1) (by omega)
  have := hz i hi
  omega

/-- What comes more often has no greater size; what does not come has none. -/
theorem size_order {W : Nat → Int} (h : Wt W) (i j : Nat) (hi : i < 256) (hj : j < 256) : (W i = 0 ↔ szF W i = 0) ∧ (W j = 0 ∨ W i ≤ W j ∨ szF W i ≤ szF W j) := by
  have hpi := h.pos i (by omega)
  have hpj := h.pos j (by omega)
  refine ⟨⟨fun q => sizes_none h.pos i (by omega) (by omega), fun q => ?_⟩, ?_⟩
  · apply Classical.byContradiction
    intro r
    have := (size_iff h hi (by omega) i (by omega)).2 (by omega)
    omega
  · by_cases q : W j = 0
    · exact .inl q
    · by_cases r : W i ≤ W j
      · exact .inr (.inl r)
      · exact .inr (.inr (sizes_order h.pos i j (by omega) (by omega) (by omega) (by omega)))

end Go.Proofs.Ytlpeplihbdcklaa
