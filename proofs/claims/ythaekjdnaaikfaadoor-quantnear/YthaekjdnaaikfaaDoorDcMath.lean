/- The sums of layer 8: factors, sums over eight, rounding by 2^40; what is told of them. No program. -/
import Derived.Test.YthaekjdnaaikfaaDoorWord
namespace Go.Proofs.YthaekjdnaaikfaaDoor
set_option linter.unusedVariables false

/-- The factors, row by row. -/
def facL : List Int :=
  [370728, 370728, 370728, 370728, 370728, 370728, 370728, 370728,
   514214, 435930, 291279, 102284, -102284, -291279, -435930, -514214,
   484379, 200636, -200636, -484379, -484379, -200636, 200636, 484379,
   435930, -102284, -514214, -291279, 291279, 514214, 102284, -435930,
   370728, -370728, -370728, 370728, 370728, -370728, -370728, 370728,
   291279, -514214, 102284, 435930, -435930, -102284, 514214, -291279,
   200636, -484379, 484379, -200636, -200636, 484379, -484379, 200636,
   102284, -291279, 435930, -514214, 514214, -435930, 291279, -102284]

def fac (u x : Nat) : Int := facL.getD (8 * u + x) 0

def facI (u x : Int) : Int := if 0 ≤ u ∧ u < 8 ∧ 0 ≤ x ∧ x < 8 then fac u.toNat x.toNat else 0

theorem facI_in (u x : Nat) (hu : u < 8) (hx : x < 8) : facI (u : Int) (x : Int) = fac u x := by
  unfold facI; rw [if_pos (by omega)]; rfl

theorem fac_bd : ∀ u, u < 8 → ∀ x, x < 8 → -514214 ≤ fac u x ∧ fac u x ≤ 514214 := by decide +kernel

/-- The sum of the first k. -/
def sumTo (f : Nat → Int) : Nat → Int
  | 0 => 0
  | k + 1 => sumTo f k + f k

theorem sumTo_congr {f g : Nat → Int} : ∀ (n : Nat), (∀ i, i < n → f i = g i) → sumTo f n = sumTo g n
  | 0, _ => rfl
  | n + 1, h => by rw [sumTo, sumTo, sumTo_congr n (fun i hi => h i (by omega)), h n (by omega)]

theorem sumTo_add (f g : Nat → Int) : ∀ n, sumTo (fun i => f i + g i) n = sumTo f n + sumTo g n
  | 0 => rfl
  | n + 1 => by rw [sumTo, sumTo, sumTo, sumTo_add f g n]; omega

theorem sumTo_mul (c : Int) (f : Nat → Int) : ∀ n, sumTo (fun i => c * f i) n = c * sumTo f n
  | 0 => by simp [sumTo]
  | n + 1 => by rw [sumTo, sumTo, sumTo_mul c f n, Int.mul_add]

theorem sumTo_zero : ∀ n, sumTo (fun _ => 0) n = 0
  | 0 => rfl
  | n + 1 => by rw [sumTo, sumTo_zero n]; rfl

theorem sumTo_neg (f : Nat → Int) : ∀ n, sumTo (fun i => -f i) n = -sumTo f n
  | 0 => rfl
  | n + 1 => by rw [sumTo, sumTo, sumTo_neg f n]; omega

theorem sumTo_swap (f : Nat → Nat → Int) (m : Nat) : ∀ n, sumTo (fun i => sumTo (fun j => f i j) m) n = sumTo (fun j => sumTo (fun i => f i j) n) m
  | 0 => by simp only [sumTo]; exact (sumTo_zero m).symm
  | n + 1 => by simp only [sumTo]; rw [sumTo_swap f m n, ← sumTo_add]

/-- Each no further off than c i * M. -/
theorem sumTo_bd {f c : Nat → Int} {M : Int} : ∀ (n : Nat), (∀ i, i < n → -(c i * M) ≤ f i ∧ f i ≤ c i * M) → -(sumTo c n * M) ≤ sumTo f n ∧ sumTo f n ≤ sumTo c n * M
  | 0, _ => by simp [sumTo]
  | n + 1, h => by
    have h1 := sumTo_bd n (fun i hi => h i (by omega))
    have h2 := h n (by omega)
    rw [sumTo, sumTo, Int.add_mul]
    omega

theorem mul_bd {a b A B : Int} (ha : -A ≤ a ∧ a ≤ A) (hb : -B ≤ b ∧ b ≤ B) : -(A * B) ≤ a * b ∧ a * b ≤ A * B := by
  have hA : 0 ≤ A := by omega
  have hB : 0 ≤ B := by omega
  have h1 : a.natAbs * b.natAbs ≤ A.natAbs * B.natAbs := Nat.mul_le_mul (by omega) (by omega)
  have h2 : ((a * b).natAbs : Int) ≤ ((A * B).natAbs : Int) := by rw [Int.natAbs_mul, Int.natAbs_mul]; exact_mod_cast h1
  have h3 : 0 ≤ A * B := Int.mul_nonneg hA hB
  omega

/-- So many, each of an amount up to M. -/
theorem sumTo_le {f : Nat → Int} {M : Int} : ∀ (n : Nat), (∀ i, i < n → -M ≤ f i ∧ f i ≤ M) → -((n : Int) * M) ≤ sumTo f n ∧ sumTo f n ≤ (n : Int) * M
  | 0, _ => by simp [sumTo]
  | n + 1, h => by
    have h1 := sumTo_le n (fun i hi => h i (by omega))
    have h2 := h n (by omega)
    rw [sumTo, Int.natCast_add, Int.add_mul]
    omega

/-- The sums of each row, laid as a column. -/
def wgt (t : Nat → Nat → Int) (b : Nat → Int) (j : Nat) : Int := sumTo (fun s => t (j / 8) s * b (8 * (j % 8) + s)) 8

theorem wgt_bd {t : Nat → Nat → Int} {b : Nat → Int} {M : Int} (ht : ∀ u, u < 8 → ∀ x, x < 8 → -514214 ≤ t u x ∧ t u x ≤ 514214) (hb : ∀ j, j < 64 → -M ≤ b j ∧ b j ≤ M) (j : Nat) (hj : j < 64) (k : Nat) (hk : k ≤ 8) :
    -((k : Int) * (514214 * M)) ≤ sumTo (fun s => t (j / 8) s * b (8 * (j % 8) + s)) k ∧ sumTo (fun s => t (j / 8) s * b (8 * (j % 8) + s)) k ≤ (k : Int) * (514214 * M) :=
  sumTo_le k (fun i hi => mul_bd (ht _ (by omega) _ (by omega)) (hb _ (by omega)))

theorem wgt_in {t : Nat → Nat → Int} {b : Nat → Int} {M : Int} (ht : ∀ u, u < 8 → ∀ x, x < 8 → -514214 ≤ t u x ∧ t u x ≤ 514214) (hb : ∀ j, j < 64 → -M ≤ b j ∧ b j ≤ M) (j : Nat) (hj : j < 64) :
    -(4113712 * M) ≤ wgt t b j ∧ wgt t b j ≤ 4113712 * M := by
  have := wgt_bd ht hb j hj 8 (by omega)
  unfold wgt
  omega

/-- By 2^40, to the nearest, halves away from 0. -/
def rnd (n : Int) : Int := if n < 0 then -((-n + 549755813888) / 1099511627776) else (n + 549755813888) / 1099511627776

theorem rnd_off (n : Int) : -549755813888 ≤ 1099511627776 * rnd n - n ∧ 1099511627776 * rnd n - n ≤ 549755813888 := by unfold rnd; split <;> omega
theorem rnd_neg (n : Int) : rnd (-n) = -rnd n := by unfold rnd; split <;> split <;> omega
theorem rnd_mono {n m : Int} (h : n ≤ m) : rnd n ≤ rnd m := by unfold rnd; split <;> split <;> omega
/-- As secrets are rounded. -/
theorem rnd_sec (n : Int) : (n + 549755813888 + (if n < 0 then -1 else 0)) / 1099511627776 = rnd n := by unfold rnd; split <;> omega

/-- What is clipped. -/
def clp (lo hi : Int) (b : Nat → Int) (j : Nat) : Int := if b j < lo then lo else if hi < b j then hi else b j

/-- Across, and down, and rounded. -/
def turnF (lo hi : Int) (t : Nat → Nat → Int) (b : Nat → Int) (j : Nat) : Int := rnd (wgt t (wgt t (clp lo hi b)) j)

def facT (x u : Nat) : Int := fac u x

def fwd : (Nat → Int) → Nat → Int := turnF (-4096) 4096 fac
def bck : (Nat → Int) → Nat → Int := turnF (-32768) 32767 facT

theorem facT_bd : ∀ u, u < 8 → ∀ x, x < 8 → -514214 ≤ facT u x ∧ facT u x ≤ 514214 := fun u hu x hx => fac_bd x hx u hu

theorem wgt_congr {t : Nat → Nat → Int} {b c : Nat → Int} (h : ∀ j, j < 64 → b j = c j) (j : Nat) (hj : j < 64) : wgt t b j = wgt t c j :=
  sumTo_congr 8 (fun s hs => by rw [h _ (by omega)])

theorem clp_congr {lo hi : Int} {b c : Nat → Int} (j : Nat) (h : b j = c j) : clp lo hi b j = clp lo hi c j := by unfold clp; rw [h]

theorem turnF_congr {lo hi : Int} {t : Nat → Nat → Int} {b c : Nat → Int} (h : ∀ j, j < 64 → clp lo hi b j = clp lo hi c j) (j : Nat) (hj : j < 64) : turnF lo hi t b j = turnF lo hi t c j := by
  unfold turnF
  rw [wgt_congr (wgt_congr h) j hj]

theorem clp_in {lo hi : Int} (b : Nat → Int) (j : Nat) (h1 : lo ≤ b j) (h2 : b j ≤ hi) : clp lo hi b j = b j := by unfold clp; rw [if_neg (by omega), if_neg (by omega)]
theorem clp_bd {lo hi : Int} (b : Nat → Int) (j : Nat) (h : lo ≤ hi) : lo ≤ clp lo hi b j ∧ clp lo hi b j ≤ hi := by unfold clp; split <;> (try split) <;> omega

/-- The sum over all places at once. -/
theorem sumTo_split (g : Nat → Int) : sumTo g 64 = sumTo (fun t => sumTo (fun s => g (8 * t + s)) 8) 8 := by
  simp only [sumTo, Int.zero_add]
  simp only [Nat.reduceMul, Nat.reduceAdd]
  omega

/-- Twice weighed is the sum over all 64. -/
theorem wgt_wgt (t : Nat → Nat → Int) (b : Nat → Int) (j : Nat) (hj : j < 64) : wgt t (wgt t b) j = sumTo (fun k => b k * t (j % 8) (k % 8) * t (j / 8) (k / 8)) 64 := by
  rw [sumTo_split]
  unfold wgt
  refine sumTo_congr 8 (fun y hy => ?_)
  rw [← sumTo_mul]
  refine sumTo_congr 8 (fun x hx => ?_)
  rw [show (8 * (j % 8) + y) / 8 = j % 8 by omega, show (8 * (j % 8) + y) % 8 = y by omega, show (8 * y + x) % 8 = x by omega, show (8 * y + x) / 8 = y by omega]
  rw [Int.mul_comm (t (j % 8) x) (b (8 * y + x)), Int.mul_comm (t (j / 8) y)]

end Go.Proofs.YthaekjdnaaikfaaDoor
