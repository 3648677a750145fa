/- What holds of the sums of layer 8: there and back, below 0, turned round, with as many more. No program. -/
import Derived.Test.YthaekjdnaaikfaaDoorDcMath
namespace Go.Proofs.YthaekjdnaaikfaaDoor
set_option linter.unusedVariables false

theorem wgt_add (t : Nat → Nat → Int) (a b : Nat → Int) (j : Nat) : wgt t (fun i => a i + b i) j = wgt t a j + wgt t b j := by
  unfold wgt
  rw [← sumTo_add]
  exact sumTo_congr 8 (fun s _ => Int.mul_add _ _ _)

theorem wgt_mul (t : Nat → Nat → Int) (c : Int) (b : Nat → Int) (j : Nat) : wgt t (fun i => c * b i) j = c * wgt t b j := by
  unfold wgt
  rw [← sumTo_mul]
  exact sumTo_congr 8 (fun s _ => by rw [Int.mul_left_comm])

theorem wgt_neg (t : Nat → Nat → Int) (b : Nat → Int) (j : Nat) : wgt t (fun i => -b i) j = -wgt t b j := by
  unfold wgt
  rw [← sumTo_neg]
  exact sumTo_congr 8 (fun s _ => Int.mul_neg _ _)

theorem wgt_split (t : Nat → Nat → Int) (b : Nat → Int) (k r : Nat) (hr : r < 8) : wgt t b (8 * k + r) = sumTo (fun s => t k s * b (8 * r + s)) 8 := by
  unfold wgt
  rw [show (8 * k + r) / 8 = k by omega, show (8 * k + r) % 8 = r by omega]

/-- How columns of the table are to each other. -/
def gram (k x : Nat) : Int := sumTo (fun s => fac s k * fac s x) 8

theorem gram_near : ∀ k, k < 8 → ∀ x, x < 8 → -2097152 ≤ gram k x - (if x = k then 1099511627776 else 0) ∧ gram k x - (if x = k then 1099511627776 else 0) ≤ 2097152 := by decide +kernel

theorem gram_of (k : Nat) (a : Nat → Int) : sumTo (fun s => fac s k * sumTo (fun x => fac s x * a x) 8) 8 = sumTo (fun x => gram k x * a x) 8 := by
  have h1 : sumTo (fun s => fac s k * sumTo (fun x => fac s x * a x) 8) 8 = sumTo (fun s => sumTo (fun x => fac s k * (fac s x * a x)) 8) 8 := sumTo_congr 8 (fun s _ => (sumTo_mul _ _ _).symm)
  rw [h1, sumTo_swap]
  refine sumTo_congr 8 (fun x _ => ?_)
  unfold gram
  rw [Int.mul_comm, ← sumTo_mul]
  exact sumTo_congr 8 (fun s _ => by rw [← Int.mul_assoc, Int.mul_comm])

theorem pick_one (k : Nat) (hk : k < 8) (a : Nat → Int) : sumTo (fun x => (if x = k then 1099511627776 else 0) * a x) 8 = 1099511627776 * a k := by
  have h : k = 0 ∨ k = 1 ∨ k = 2 ∨ k = 3 ∨ k = 4 ∨ k = 5 ∨ k = 6 ∨ k = 7 := by omega
  rcases h with rfl | rfl | rfl | rfl | rfl | rfl | rfl | rfl <;> simp [sumTo]

theorem gram_off (k : Nat) (hk : k < 8) (a : Nat → Int) (A : Int) (ha : ∀ x, x < 8 → -A ≤ a x ∧ a x ≤ A) :
    -(16777216 * A) ≤ sumTo (fun x => gram k x * a x) 8 - 1099511627776 * a k ∧ sumTo (fun x => gram k x * a x) 8 - 1099511627776 * a k ≤ 16777216 * A := by
  have h1 : sumTo (fun x => gram k x * a x) 8 = sumTo (fun x => (gram k x - (if x = k then 1099511627776 else 0)) * a x) 8 + sumTo (fun x => (if x = k then 1099511627776 else 0) * a x) 8 := by
    rw [← sumTo_add]
    exact sumTo_congr 8 (fun x _ => by rw [← Int.add_mul]; congr 1; omega)
  rw [h1, pick_one k hk]
  have h2 := sumTo_le (f := fun x => (gram k x - (if x = k then 1099511627776 else 0)) * a x) (M := 2097152 * A) 8 (fun x hx => mul_bd (gram_near k hk x hx) (ha x hx))
  omega

/-- There and back, before anything is rounded. -/
theorem there_back (b : Nat → Int) (k r : Nat) (hk : k < 8) (hr : r < 8) :
    wgt facT (wgt facT (wgt fac (wgt fac b))) (8 * k + r) = sumTo (fun x => gram k x * sumTo (fun y => gram r y * b (8 * x + y)) 8) 8 := by
  have step : ∀ k, k < 8 → ∀ r, r < 8 → wgt facT (wgt fac (wgt fac b)) (8 * k + r) = sumTo (fun x => fac r x * sumTo (fun y => gram k y * b (8 * x + y)) 8) 8 := by
    intro k hk r hr
    rw [wgt_split _ _ k r hr]
    have h1 : sumTo (fun s => facT k s * wgt fac (wgt fac b) (8 * r + s)) 8 = sumTo (fun s => sumTo (fun x => fac r x * (fac s k * sumTo (fun y => fac s y * b (8 * x + y)) 8)) 8) 8 := by
      refine sumTo_congr 8 (fun s hs => ?_)
      rw [wgt_split _ _ r s hs, ← sumTo_mul]
      refine sumTo_congr 8 (fun x hx => ?_)
      rw [wgt_split _ _ s x hx]
      unfold facT
      rw [Int.mul_left_comm]
    rw [h1, sumTo_swap]
    refine sumTo_congr 8 (fun x hx => ?_)
    rw [sumTo_mul, gram_of k (fun y => b (8 * x + y))]
  rw [wgt_split _ _ k r hr]
  have h2 : sumTo (fun s => facT k s * wgt facT (wgt fac (wgt fac b)) (8 * r + s)) 8 = sumTo (fun s => fac s k * sumTo (fun x => fac s x * sumTo (fun y => gram r y * b (8 * x + y)) 8) 8) 8 :=
    sumTo_congr 8 (fun s hs => by rw [step r hr s hs]; rfl)
  rw [h2, gram_of k (fun x => sumTo (fun y => gram r y * b (8 * x + y)) 8)]

theorem there_near (b : Nat → Int) (hb : ∀ j, j < 64 → -128 ≤ b j ∧ b j ≤ 128) (j : Nat) (hj : j < 64) :
    -9444732965739290427392 ≤ wgt facT (wgt facT (wgt fac (wgt fac b))) j - 1208925819614629174706176 * b j ∧ wgt facT (wgt facT (wgt fac (wgt fac b))) j - 1208925819614629174706176 * b j ≤ 9444732965739290427392 := by
  obtain ⟨k, r, hk, hr, rfl⟩ : ∃ k r, k < 8 ∧ r < 8 ∧ j = 8 * k + r := ⟨j / 8, j % 8, by omega, by omega, by omega⟩
  rw [there_back b k r hk hr]
  have p1 : ∀ x, x < 8 → -(16777216 * 128) ≤ sumTo (fun y => gram r y * b (8 * x + y)) 8 - 1099511627776 * b (8 * x + r) ∧ sumTo (fun y => gram r y * b (8 * x + y)) 8 - 1099511627776 * b (8 * x + r) ≤ 16777216 * 128 :=
    fun x hx => gram_off r hr (fun y => b (8 * x + y)) 128 (fun y hy => hb _ (by omega))
  have p2 := gram_off k hk (fun x => sumTo (fun y => gram r y * b (8 * x + y)) 8) 140739635838976 (fun x hx => by
    have h1 := p1 x hx
    have h2 := hb (8 * x + r) (by omega)
    show -140739635838976 ≤ sumTo (fun y => gram r y * b (8 * x + y)) 8 ∧ sumTo (fun y => gram r y * b (8 * x + y)) 8 ≤ 140739635838976
    omega)
  have p3 := p1 k hk
  omega

/-- Sums of amounts of a column. -/
theorem col_abs : ∀ x, x < 8 → sumTo (fun s => ((fac s x).natAbs : Int)) 8 = 2770178 := by decide +kernel

theorem wgtT_bd {e : Nat → Int} {M : Int} (he : ∀ j, j < 64 → -M ≤ e j ∧ e j ≤ M) (j : Nat) (hj : j < 64) : -(2770178 * M) ≤ wgt facT e j ∧ wgt facT e j ≤ 2770178 * M := by
  unfold wgt
  have h := sumTo_bd (f := fun s => facT (j / 8) s * e (8 * (j % 8) + s)) (c := fun s => ((fac s (j / 8)).natAbs : Int)) (M := M) 8 (fun s hs => by
    refine mul_bd ?_ (he _ (by omega))
    unfold facT
    omega)
  rw [col_abs _ (by omega)] at h
  exact h

theorem fwd_of (b : Nat → Int) (hb : ∀ j, j < 64 → -4096 ≤ b j ∧ b j ≤ 4096) (j : Nat) (hj : j < 64) : fwd b j = rnd (wgt fac (wgt fac b) j) := by
  unfold fwd turnF
  rw [wgt_congr (fun i hi => wgt_congr (c := b) (fun k hk => clp_in b k (hb k hk).1 (hb k hk).2) i hi) j hj]

theorem bck_of (b : Nat → Int) (hb : ∀ j, j < 64 → -32768 ≤ b j ∧ b j ≤ 32767) (j : Nat) (hj : j < 64) : bck b j = rnd (wgt facT (wgt facT b) j) := by
  unfold bck turnF
  rw [wgt_congr (fun i hi => wgt_congr (c := b) (fun k hk => clp_in b k (hb k hk).1 (hb k hk).2) i hi) j hj]

/-- The least and the greatest that bytes may come to. -/
def mostK (i k : Nat) : Int := let m := fac (i % 8) (k % 8) * fac (i / 8) (k / 8); if m < 0 then -128 * m else 127 * m
def leastK (i k : Nat) : Int := let m := fac (i % 8) (k % 8) * fac (i / 8) (k / 8); if m < 0 then 127 * m else -128 * m

theorem most_ends : ∀ i, i < 64 → (rnd (sumTo (mostK i) 64) ≤ 1024 ∧ -1024 ≤ rnd (sumTo (leastK i) 64)) ∧ (0 < i → rnd (sumTo (mostK i) 64) ≤ 1023 ∧ -1023 ≤ rnd (sumTo (leastK i) 64)) := by decide +kernel

theorem sumTo_mono {f g : Nat → Int} : ∀ (n : Nat), (∀ i, i < n → f i ≤ g i) → sumTo f n ≤ sumTo g n
  | 0, _ => Int.le_refl _
  | n + 1, h => by
    have h1 := sumTo_mono n (fun i hi => h i (by omega))
    have h2 := h n (by omega)
    rw [sumTo, sumTo]
    omega

theorem fwd_ends (b : Nat → Int) (hb : ∀ j, j < 64 → -128 ≤ b j ∧ b j ≤ 127) (i : Nat) (hi : i < 64) : (-1024 ≤ fwd b i ∧ fwd b i ≤ 1024) ∧ (0 < i → -1023 ≤ fwd b i ∧ fwd b i ≤ 1023) := by
  rw [fwd_of b (fun j hj => by have := hb j hj; omega) i hi, wgt_wgt _ _ _ hi]
  have hm : ∀ k, k < 64 → leastK i k ≤ b k * fac (i % 8) (k % 8) * fac (i / 8) (k / 8) ∧ b k * fac (i % 8) (k % 8) * fac (i / 8) (k / 8) ≤ mostK i k := by
    intro k hk
    have h := hb k hk
    rw [Int.mul_assoc]
    unfold leastK mostK
    dsimp only
    generalize fac (i % 8) (k % 8) * fac (i / 8) (k / 8) = m
    by_cases hn : m < 0
    · rw [if_pos hn, if_pos hn]
      have a1 := Int.mul_le_mul_of_nonpos_right (c := m) (show b k ≤ 127 by omega) (by omega)
      have a2 := Int.mul_le_mul_of_nonpos_right (c := m) (show -128 ≤ b k by omega) (by omega)
      omega
    · rw [if_neg hn, if_neg hn]
      have a1 := Int.mul_le_mul_of_nonneg_right (c := m) (show b k ≤ 127 by omega) (by omega)
      have a2 := Int.mul_le_mul_of_nonneg_right (c := m) (show -128 ≤ b k by omega) (by omega)
      omega
  have h1 := rnd_mono (sumTo_mono 64 (fun k hk => (hm k hk).1))
  have h2 := rnd_mono (sumTo_mono 64 (fun k hk => (hm k hk).2))
  have h3 := most_ends i hi
  constructor
  · omega
  · intro h0
    have := h3.2 h0
    omega

/-- There and back no number is further off than four. -/
theorem near_four (b : Nat → Int) (hb : ∀ j, j < 64 → -128 ≤ b j ∧ b j ≤ 127) (j : Nat) (hj : j < 64) : bck (fwd b) j - b j ≤ 4 ∧ b j - bck (fwd b) j ≤ 4 := by
  have hf := fun i hi => (fwd_ends b hb i hi).1
  rw [bck_of (fwd b) (fun i hi => by have := hf i hi; omega) j hj]
  have e1 : ∀ i, i < 64 → 1099511627776 * fwd b i = wgt fac (wgt fac b) i + (1099511627776 * fwd b i - wgt fac (wgt fac b) i) := fun i hi => by omega
  have e2 : 1099511627776 * wgt facT (wgt facT (fwd b)) j = wgt facT (wgt facT (wgt fac (wgt fac b))) j + wgt facT (wgt facT (fun i => 1099511627776 * fwd b i - wgt fac (wgt fac b) i)) j := by
    rw [← wgt_mul, wgt_congr (c := fun i => wgt facT (fun m => 1099511627776 * fwd b m) i) (fun i hi => (wgt_mul facT _ _ i).symm) j hj,
      wgt_congr (fun i hi => wgt_congr e1 i hi) j hj, wgt_congr (fun i hi => wgt_add facT _ _ i) j hj, wgt_add]
  have h1 := there_near b (fun i hi => by have := hb i hi; omega) j hj
  have h2 := wgtT_bd (e := wgt facT (fun i => 1099511627776 * fwd b i - wgt fac (wgt fac b) i)) (M := 2770178 * 549755813888) (fun i hi => wgtT_bd (M := 549755813888) (fun m hm => by
    show -549755813888 ≤ 1099511627776 * fwd b m - wgt fac (wgt fac b) m ∧ 1099511627776 * fwd b m - wgt fac (wgt fac b) m ≤ 549755813888
    rw [fwd_of b (fun k hk => by have := hb k hk; omega) m hm]
    exact rnd_off _) i hi) j hj
  have h3 := rnd_off (wgt facT (wgt facT (fwd b)) j)
  omega

/-- Below 0. -/
theorem fwd_neg (b : Nat → Int) (hb : ∀ j, j < 64 → -4096 ≤ b j ∧ b j ≤ 4096) (j : Nat) (hj : j < 64) : fwd (fun i => -b i) j = -fwd b j := by
  rw [fwd_of b hb j hj, fwd_of (fun i => -b i) (fun i hi => by have := hb i hi; omega) j hj, ← rnd_neg]
  congr 1
  rw [wgt_congr (fun i hi => wgt_neg fac b i) j hj, wgt_neg]

/-- Rows are columns. -/
def tr (j : Nat) : Nat := j % 8 * 8 + j / 8
theorem tr_lt (j : Nat) (h : j < 64) : tr j < 64 := by unfold tr; omega
theorem tr_tr (j : Nat) (h : j < 64) : tr (tr j) = j := by unfold tr; omega

theorem fwd_tr (b : Nat → Int) (hb : ∀ j, j < 64 → -4096 ≤ b j ∧ b j ≤ 4096) (j : Nat) (hj : j < 64) : fwd (fun i => b (tr i)) (tr j) = fwd b j := by
  rw [fwd_of b hb j hj, fwd_of (fun i => b (tr i)) (fun i hi => hb _ (tr_lt i hi)) (tr j) (tr_lt j hj)]
  congr 1
  rw [wgt_wgt _ _ _ (tr_lt j hj), wgt_wgt _ _ _ hj, sumTo_split, sumTo_split, sumTo_swap]
  refine sumTo_congr 8 (fun y hy => sumTo_congr 8 (fun x hx => ?_))
  have t1 : tr (8 * x + y) = 8 * y + x := by unfold tr; omega
  have t2 : tr j % 8 = j / 8 := by unfold tr; omega
  have t3 : tr j / 8 = j % 8 := by unfold tr; omega
  rw [t1, t2, t3, show (8 * x + y) % 8 = y by omega, show (8 * x + y) / 8 = x by omega, show (8 * y + x) % 8 = x by omega, show (8 * y + x) / 8 = y by omega, Int.mul_assoc, Int.mul_assoc, Int.mul_comm (fac (j / 8) y)]

/-- As many more. -/
theorem row_sum : ∀ i, 0 < i → i < 64 → sumTo (fun k => fac (i % 8) (k % 8) * fac (i / 8) (k / 8)) 64 = 0 := by
  have : ∀ i, i < 64 → 0 < i → sumTo (fun k => fac (i % 8) (k % 8) * fac (i / 8) (k / 8)) 64 = 0 := by decide +kernel
  exact fun i h0 h => this i h h0

theorem sums_more (b : Nat → Int) (m : Int) (i : Nat) (hi : i < 64) : wgt fac (wgt fac (fun j => b j + m)) i = wgt fac (wgt fac b) i + m * sumTo (fun k => fac (i % 8) (k % 8) * fac (i / 8) (k / 8)) 64 := by
  rw [wgt_wgt _ _ _ hi, wgt_wgt _ _ _ hi, ← sumTo_mul, ← sumTo_add]
  refine sumTo_congr 64 (fun k _ => ?_)
  rw [Int.mul_assoc, Int.mul_assoc, Int.add_mul]

theorem fwd_more (b : Nat → Int) (m : Int) (hm : 0 ≤ m ∧ m ≤ 255) (hb : ∀ j, j < 64 → -128 ≤ b j ∧ b j ≤ 127) : (∀ i, 0 < i → i < 64 → fwd (fun j => b j + m) i = fwd b i) ∧ fwd b 0 ≤ fwd (fun j => b j + m) 0 := by
  have h1 : ∀ j, j < 64 → -4096 ≤ b j ∧ b j ≤ 4096 := fun j hj => by have := hb j hj; omega
  have h2 : ∀ j, j < 64 → -4096 ≤ b j + m ∧ b j + m ≤ 4096 := fun j hj => by have := hb j hj; omega
  constructor
  · intro i h0 hi
    rw [fwd_of b h1 i hi, fwd_of (fun j => b j + m) h2 i hi, sums_more b m i hi, row_sum i h0 hi, Int.mul_zero, Int.add_zero]
  · rw [fwd_of b h1 0 (by omega), fwd_of (fun j => b j + m) h2 0 (by omega), sums_more b m 0 (by omega)]
    apply rnd_mono
    have h3 : 0 ≤ sumTo (fun k => fac (0 % 8) (k % 8) * fac (0 / 8) (k / 8)) 64 := by decide +kernel
    have h4 := Int.mul_nonneg hm.1 h3
    omega

theorem first_is (b : Nat → Int) (hb : ∀ j, j < 64 → -128 ≤ b j ∧ b j ≤ 127) : -5 ≤ 8 * fwd b 0 - sumTo b 64 ∧ 8 * fwd b 0 - sumTo b 64 ≤ 5 := by
  rw [fwd_of b (fun j hj => by have := hb j hj; omega) 0 (by omega), wgt_wgt _ _ _ (by omega)]
  have h1 : sumTo (fun k => b k * fac (0 % 8) (k % 8) * fac (0 / 8) (k / 8)) 64 = 137439249984 * sumTo b 64 := by
    rw [← sumTo_mul]
    refine sumTo_congr 64 (fun k hk => ?_)
    have f0 : ∀ x, x < 8 → fac 0 x = 370728 := by decide
    rw [show 0 % 8 = 0 from rfl, show 0 / 8 = 0 from rfl, f0 _ (by omega), f0 _ (by omega)]
    omega
  rw [h1]
  have h2 := rnd_off (137439249984 * sumTo b 64)
  have h3 := sumTo_le (f := b) (M := 128) 64 (fun i hi => by have := hb i hi; omega)
  omega

end Go.Proofs.YthaekjdnaaikfaaDoor
