/- The order, the lists, and what is told by steps, in plain numbers. No program. -/
import Derived.Test.YthaekjdnaaikfaaDoorSecNum
import Derived.Test.YthaekjdnaaikfaaDoorQuScan
import Derived.Test.YthaekjdnaaikfaaDoorPlMem
namespace Go.Proofs.YthaekjdnaaikfaaDoor
set_option linter.unusedVariables false
open Go.ChangeShapes Go.WideShapes Go.ChangeAt Go.RowKit

def zzL : List Nat := [0, 1, 8, 16, 9, 2, 3, 10, 17, 24, 32, 25, 18, 11, 4, 5,
  12, 19, 26, 33, 40, 48, 41, 34, 27, 20, 13, 6, 7, 14, 21, 28,
  35, 42, 49, 56, 57, 50, 43, 36, 29, 22, 15, 23, 30, 37, 44, 51,
  58, 59, 52, 45, 38, 31, 39, 46, 53, 60, 61, 54, 47, 55, 62, 63]

/-- The place of the i-th number. -/
def zz (i : Nat) : Nat := zzL.getD i 0
/-- Which number a place has. -/
def uz (j : Nat) : Nat := zzL.idxOf j

def lumaL : List Int := [16, 11, 10, 16, 24, 40, 51, 61,
  12, 12, 14, 19, 26, 58, 60, 55,
  14, 13, 16, 24, 40, 57, 69, 56,
  14, 17, 22, 29, 51, 87, 80, 62,
  18, 22, 37, 56, 68, 109, 103, 77,
  24, 35, 55, 64, 81, 104, 113, 92,
  49, 64, 78, 87, 103, 121, 120, 101,
  72, 92, 95, 98, 112, 100, 103, 99]
def colorL : List Int := [17, 18, 24, 47, 99, 99, 99, 99,
  18, 21, 26, 66, 99, 99, 99, 99,
  24, 26, 56, 99, 99, 99, 99, 99,
  47, 66, 99, 99, 99, 99, 99, 99,
  99, 99, 99, 99, 99, 99, 99, 99,
  99, 99, 99, 99, 99, 99, 99, 99,
  99, 99, 99, 99, 99, 99, 99, 99,
  99, 99, 99, 99, 99, 99, 99, 99]
def lst (p j : Nat) : Int := if p = 0 then lumaL.getD j 0 else colorL.getD j 0
/-- Which list a part has. -/
def pl (part : Int) : Nat := if part = 0 then 0 else 1

theorem zz_lt : ∀ i, i < 64 → zz i < 64 := by decide +kernel
theorem uz_lt : ∀ j, j < 64 → uz j < 64 := by decide +kernel
theorem uz_zz : ∀ i, i < 64 → uz (zz i) = i := by decide +kernel
theorem zz_uz : ∀ j, j < 64 → zz (uz j) = j := by decide +kernel
theorem uz_zero : ∀ j, j < 64 → (uz j = 0 ↔ j = 0) := by decide +kernel
theorem zz_zero : ∀ j, j < 64 → (zz j = 0 ↔ j = 0) := by decide +kernel
theorem lst_bd : ∀ p, p < 2 → ∀ j, j < 64 → 1 ≤ lst p j ∧ lst p j ≤ 121 := by decide +kernel
theorem pl_lt (part : Int) : pl part < 2 := by unfold pl; split <;> omega

def zigF (i : Int) : Int := if 0 ≤ i ∧ i < 64 then (zz i.toNat : Nat) else 0
theorem zigF_in (i : Nat) (h : i < 64) : zigF (i : Int) = (zz i : Nat) := by unfold zigF; rw [if_pos (by omega)]; rfl

/-- How many hundredths. -/
def scaleF (quality : Int) : Int := if clipF quality 1 100 < 50 then 5000 / clipF quality 1 100 else 200 - 2 * clipF quality 1 100
def tableF (part quality : Int) (j : Nat) : Int := clipF ((scaleF quality * lst (pl part) j + 50) / 100) 1 255

theorem clipF_bd (a lo hi : Int) (h : lo ≤ hi) : lo ≤ clipF a lo hi ∧ clipF a lo hi ≤ hi := by unfold clipF; split; omega; split <;> omega
theorem clipF_id (a lo hi : Int) (h0 : lo ≤ a) (h1 : a ≤ hi) : clipF a lo hi = a := by unfold clipF; rw [if_neg (by omega), if_neg (by omega)]
theorem scaleF_bd (q : Int) : 0 ≤ scaleF q ∧ scaleF q ≤ 5000 := by
  unfold scaleF
  have := clipF_bd q 1 100 (by omega)
  split
  · exact ⟨Int.ediv_nonneg (by omega) (by omega), Int.ediv_le_self _ (by omega)⟩
  · omega
theorem mulS_bd {s b : Int} (h0 : 0 ≤ s ∧ s ≤ 5000) (h1 : 1 ≤ b ∧ b ≤ 121) : 0 ≤ s * b ∧ s * b ≤ 605000 := by
  have l0 := Int.mul_nonneg h0.1 (show 0 ≤ b by omega)
  have l1 : s * b ≤ 5000 * 121 := Int.mul_le_mul h0.2 h1.2 (by omega) (by omega)
  omega

/-- The first one may be lower by one. -/
def leastF (i : Nat) : Int := if i = 0 then -1024 else -1023
def qfwd (b q : Nat → Int) (i : Nat) : Int := clipF (nearF (clipF (b (zz i)) (-32767) 32767) (q (zz i))) (leastF i) 1023
def qbck (z q : Nat → Int) (j : Nat) : Int := clipF (z (uz j)) (-2048) 2047 * q j

/-- Steps. -/
def Stp (q : Nat → Int) : Prop := ∀ j, j < 64 → 1 ≤ q j ∧ q j ≤ 255

theorem nearF_bd (n d : Int) (h0 : -32767 ≤ n) (h1 : n ≤ 32767) (d0 : 1 ≤ d) (e1 : d ≤ 255) : -32894 ≤ nearF n d ∧ nearF n d ≤ 32894 := by
  unfold nearF
  split
  · have r0 := Int.ediv_nonneg (show 0 ≤ -n + d / 2 by omega) (show 0 ≤ d by omega)
    have r1 := Int.ediv_le_self d (show 0 ≤ -n + d / 2 by omega)
    omega
  · have r0 := Int.ediv_nonneg (show 0 ≤ n + d / 2 by omega) (show 0 ≤ d by omega)
    have r1 := Int.ediv_le_self d (show 0 ≤ n + d / 2 by omega)
    omega

theorem back_bd {z q : Int} (h : 1 ≤ q ∧ q ≤ 255) : -522240 ≤ clipF z (-2048) 2047 * q ∧ clipF z (-2048) 2047 * q ≤ 522240 := by
  have hb := clipF_bd z (-2048) 2047 (by omega)
  have l0 : clipF z (-2048) 2047 * q ≤ 2047 * q := Int.mul_le_mul_of_nonneg_right hb.2 (by omega)
  have l1 : -2048 * q ≤ clipF z (-2048) 2047 * q := Int.mul_le_mul_of_nonneg_right hb.1 (by omega)
  omega

theorem back_set (z q : Nat → Int) (k : Nat) (hk : k < 64) (j : Nat) (hj : j < 64) : upd (fun j => if uz j < k then qbck z q j else 0) (zz k) (clipF (z k) (-2048) 2047 * q (zz k)) j = if uz j < k + 1 then qbck z q j else 0 := by
  unfold upd
  by_cases e : j = zz k
  · subst e
    rw [if_pos rfl, if_pos (by rw [uz_zz k hk]; omega)]
    unfold qbck
    rw [uz_zz k hk]
  · rw [if_neg e]
    have hne : uz j ≠ k := fun h => e (by rw [← h, zz_uz j hj])
    by_cases h : uz j < k
    · simp only [if_pos h, if_pos (show uz j < k + 1 by omega)]
    · simp only [if_neg h, if_neg (show ¬ uz j < k + 1 by omega)]

theorem back_tab (z q : Nat → Int) (k : Nat) (hk : k < 64) : tab .i64 64 (upd (fun j => if uz j < k then qbck z q j else 0) (zz k) (clipF (z k) (-2048) 2047 * q (zz k))) = tab .i64 64 (fun j => if uz j < k + 1 then qbck z q j else 0) := tab_congr _ _ _ _ (fun j hj => back_set z q k hk j hj)
theorem back_start (z q : Nat → Int) : tab .i64 64 (fun j => if uz j < 0 then qbck z q j else 0) = tab .i64 64 (fun _ => 0) := tab_congr _ _ _ _ (fun j hj => if_neg (by omega))
theorem back_full (z q : Nat → Int) : tab .i64 64 (fun j => if uz j < 64 then qbck z q j else 0) = tab .i64 64 (qbck z q) := tab_congr _ _ _ _ (fun j hj => if_pos (uz_lt j hj))

theorem fwd_start (b q : Nat → Int) : tab .i64 64 (fun j => if j < 0 then qfwd b q j else 0) = tab .i64 64 (fun _ => 0) := tab_congr _ _ _ _ (fun j hj => if_neg (by omega))
theorem fwd_set (b q : Nat → Int) (k : Nat) : (tab .i64 64 (fun j => if j < k then qfwd b q j else 0)).set k (.int .i64 (qfwd b q k)) = tab .i64 64 (fun j => if j < k + 1 then qfwd b q j else 0) := tab_grow .i64 64 (qfwd b q) (fun _ => 0) k
theorem fwd_full (b q : Nat → Int) : tab .i64 64 (fun j => if j < 64 then qfwd b q j else 0) = tab .i64 64 (qfwd b q) := tab_congr _ _ _ _ (fun j hj => if_pos hj)
theorem bck_set (z q : Nat → Int) (k : Nat) (hk : k < 64) : (tab .i64 64 (fun j => if uz j < k then qbck z q j else 0)).set (zz k) (.int .i64 (clipF (z k) (-2048) 2047 * q (zz k))) = tab .i64 64 (fun j => if uz j < k + 1 then qbck z q j else 0) := by rw [tab_set]; exact back_tab z q k hk

end Go.Proofs.YthaekjdnaaikfaaDoor
