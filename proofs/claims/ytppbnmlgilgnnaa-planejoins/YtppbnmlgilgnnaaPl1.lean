/- What the small calls of package plane answer: Sides, Side, Grid, and Ceil and Clip of package num; the document's likewise. -/
import Derived.Test.YtppbnmlgilgnnaaKeep
import Derived.BigQuiet
namespace Go.Proofs.Ytppbnmlgilgnnaa
open Go.ChangeShapes Go.WideShapes Go.ChangeAt Go.RowKit

theorem But.drewN {S : Nat → Prop} {a w : World} (h : But S a w) (n : Nat) : But S a (w.drewN n) := ⟨h.os, h.tape, h.output, h.size, h.block⟩

/-- The cells that numbers take. -/
def nums (l : List Int) : List Value := l.map (fun n => .int .i64 n)

/-- How many blocks across and down an MCU has of each part, one after the other. -/
def sidesC (m : Int) : List Int := if m = 1 then [1, 1] else if m = 2 then [1, 1, 1, 1, 1, 1] else if m = 3 then [2, 1, 1, 1, 1, 1] else if m = 4 then [2, 2, 1, 1, 1, 1] else []
/-- How many parts. -/
def partsN (m : Int) : Nat := if m = 1 then 1 else 3

theorem mode_cases {m : Int} (h : 1 ≤ m ∧ m ≤ 4) : m = 1 ∨ m = 2 ∨ m = 3 ∨ m = 4 := by omega

set_option maxHeartbeats 1600000 in
theorem sides_some (m : Int) (hm : 1 ≤ m ∧ m ≤ 4) (w : World) : Calls Try.prog 22 #[.int .i64 m] w fun e w' =>
    e = .returned (.slice (some ⟨w.heap.size, 0, none⟩) (partsN m) (partsN m)) ∧ Keep w w' [(w.heap.size, 49, nums (sidesC m))] ∧ w'.heap.size = w.heap.size + 1 := by
  rcases mode_cases hm with rfl | rfl | rfl | rfl <;>
  · go_enter Try.func22, Try.ntmps22
    go_wp2
    go_ret
    exact ⟨rfl, (Keep.start w).made 49 _, by simp⟩

set_option maxHeartbeats 400000 in
theorem sides_none (m : Int) (hm : m < 1 ∨ 4 < m) (w : World) : Calls Try.prog 22 #[.int .i64 m] w fun e w' => e = .returned (.slice none 0 0) ∧ w' = w := by
  have h1 : (m == 1) = false := by simp; omega
  have h2 : (m == 2) = false := by simp; omega
  have h3 : (m == 3) = false := by simp; omega
  have h4 : (m == 4) = false := by simp; omega
  go_enter Try.func22, Try.ntmps22
  go_wp2
  go_ret
  exact ⟨rfl, rfl⟩

/-- How wide and high an MCU is. -/
def sideW (m : Int) : Int := if m = 1 then 8 else if m = 2 then 8 else if m = 3 then 16 else if m = 4 then 16 else 0
def sideH (m : Int) : Int := if m = 1 then 8 else if m = 2 then 8 else if m = 3 then 8 else if m = 4 then 16 else 0

theorem side_none (m : Int) (hm : m < 1 ∨ 4 < m) : sideW m = 0 ∧ sideH m = 0 := by unfold sideW sideH; constructor <;> (repeat' split) <;> omega

/-- Two numbers as a call's answer. -/
abbrev two (a b : Int) : Value := .tuple #[.int .i64 a, .int .i64 b]

set_option maxHeartbeats 1600000 in
theorem side_any (m : Int) (w : World) : Calls Try.prog 18 #[.int .i64 m] w fun e w' => e = .returned (two (sideW m) (sideH m)) ∧ But Nowhere w w' := by
  by_cases hm : 1 ≤ m ∧ m ≤ 4
  · rcases mode_cases hm with rfl | rfl | rfl | rfl <;>
    · go_enter Try.func18, Try.ntmps18
      go_wp2_with fail
      refine (sides_some _ (by omega) _).mono ?_
      rintro e w1 ⟨rfl, kk, -⟩
      have hp1 : partsN 1 = 1 := rfl
      have hp2 : partsN 2 = 3 := rfl
      have hp3 : partsN 3 = 3 := rfl
      have hp4 : partsN 4 = 3 := rfl
      have c0 := kk.head.at 0
      have c1 := kk.head.at 1
      simp [nums, sidesC] at c0 c1
      go_wp2_with fail
      go_quiet (fail)
      go_wp2_with fail
      go_ret2
      exact ⟨rfl, kk.but.drewN _⟩
  · obtain ⟨h1, h2⟩ := side_none m (by omega)
    rw [h1, h2]
    go_enter Try.func18, Try.ntmps18
    go_wp2_with fail
    refine (sides_none _ (by omega) _).mono ?_
    rintro e w1 ⟨rfl, rfl⟩
    go_wp2_with fail
    go_ret2
    exact ⟨rfl, But.refl _ _⟩

/-- n by d, rounded up. -/
def ceilF (n d : Int) : Int := if n < 0 ∨ 1099511627776 < n ∨ d < 1 ∨ 1099511627776 < d then 0 else (n + d - 1) / d

set_option maxHeartbeats 400000 in
theorem numCeil_any (n d : Int) (w : World) (h0 : 0 ≤ n) (h1 : n ≤ 1099511627776) (h2 : 0 ≤ d) (h3 : d ≤ 1099511627776) : Calls Try.prog 19 #[.int .i64 n, .int .i64 d] w fun e w' => e = .returned (.int .i64 (ceilF n d)) ∧ w' = w := by
  unfold ceilF
  by_cases hd : d < 1
  · rw [if_pos (by omega)]
    go_enter Try.func19, Try.ntmps19
    go_wp2
    go_ret
    exact ⟨rfl, rfl⟩
  · rw [if_neg (by omega)]
    go_enter Try.func19, Try.ntmps19
    go_wp2
    go_ret
    exact ⟨rfl, rfl⟩

theorem ceil_up (n d : Int) (h2 : 1 ≤ d) : (n + d - 1) / d = if n / d * d < n then n / d + 1 else n / d := by
  have e := Int.emod_add_mul_ediv n d
  have r0 := Int.emod_nonneg n (show d ≠ 0 by omega)
  have r1 := Int.emod_lt_of_pos n (show 0 < d by omega)
  have hc : n / d * d = d * (n / d) := Int.mul_comm _ _
  split
  · rw [show n + d - 1 = (n % d - 1) + d * (n / d + 1) by rw [Int.mul_add]; omega, Int.add_mul_ediv_left _ _ (by omega), Int.ediv_eq_zero_of_lt (by omega) (by omega)]; omega
  · rw [show n + d - 1 = (n % d + d - 1) + d * (n / d) by omega, Int.add_mul_ediv_left _ _ (by omega), Int.ediv_eq_zero_of_lt (by omega) (by omega)]; omega

set_option maxHeartbeats 400000 in
theorem refCeil_any (n d : Int) (w : World) (h0 : 0 ≤ n) (h1 : n ≤ 1099511627776) (h2 : 1 ≤ d) (h3 : d ≤ 1099511627776) : Calls Try.prog 21 #[.int .i64 n, .int .i64 d] w fun e w' => e = .returned (.int .i64 (ceilF n d)) ∧ w' = w := by
  unfold ceilF
  rw [if_neg (by omega), ceil_up n d h2]
  have q0 := Int.ediv_nonneg (show 0 ≤ n by omega) (show 0 ≤ d by omega)
  have q1 := Int.ediv_le_self d (show 0 ≤ n by omega)
  have q2 := Int.ediv_mul_le n (show d ≠ 0 by omega)
  have q3 : 0 ≤ n / d * d := Int.mul_nonneg q0 (by omega)
  have e1 : wrap64 (n / d * d) = n / d * d := w64 _ (by omega)
  by_cases hc : n / d * d < n
  · rw [if_pos hc]
    go_enter Try.func21, Try.ntmps21
    go_wp2
    go_ret
    exact ⟨rfl, rfl⟩
  · rw [if_neg hc]
    go_enter Try.func21, Try.ntmps21
    go_wp2
    go_ret
    exact ⟨rfl, rfl⟩

/-- Whether an image may be so wide, or high. -/
def isSideB (n : Int) : Bool := decide (1 ≤ n) && decide (n ≤ 65535)

set_option maxHeartbeats 400000 in
theorem isSide_any (n : Int) (w : World) : Calls Try.prog 17 #[.int .i64 n] w fun e w' => e = .returned (.bool (isSideB n)) ∧ w' = w := by
  unfold isSideB
  by_cases h1 : 1 ≤ n <;> by_cases h2 : n ≤ 65535 <;>
  · simp only [h1, h2, decide_true, decide_false, Bool.and_true, Bool.and_false]
    go_enter Try.func17, Try.ntmps17
    go_wp2
    go_ret
    exact ⟨rfl, rfl⟩

/-- What is public, as a value. -/
abbrev pV (W H m q i c : Int) : Value := .agg #[.int .i64 W, .int .i64 H, .int .i64 m, .int .i64 q, .int .i64 i, .int .i64 c]
abbrev pC (W H m q i c : Int) : List Value := [.int .i64 W, .int .i64 H, .int .i64 m, .int .i64 q, .int .i64 i, .int .i64 c]

/-- How many MCUs across, and down. -/
def gridW (W H m : Int) : Int := if isSideB W && isSideB H then ceilF W (sideW m) else 0
def gridH (W H m : Int) : Int := if isSideB W && isSideB H then ceilF H (sideH m) else 0

theorem side_in (m : Int) : 0 ≤ sideW m ∧ sideW m ≤ 16 ∧ 0 ≤ sideH m ∧ sideH m ≤ 16 := by unfold sideW sideH; (repeat' split) <;> omega
theorem isSide_in {n : Int} (h : isSideB n = true) : 1 ≤ n ∧ n ≤ 65535 := by simpa [isSideB] using h

set_option maxHeartbeats 3200000 in
theorem grid_any (W H m q i c : Int) (w : World) : Calls Try.prog 5 #[pV W H m q i c] w fun e w' => e = .returned (two (gridW W H m) (gridH W H m)) ∧ But Nowhere w w' := by
  have kk := (Keep.start w).made 23 (pC W H m q i c)
  have s0 := side_in m
  unfold gridW gridH
  cases hW : isSideB W
  · go_enter Try.func5, Try.ntmps5
    go_wp2_with (go_at_call 17; refine (isSide_any _ _).mono ?_; rintro e w' ⟨rfl, rfl⟩)
    go_ret2
    exact ⟨rfl, (But.refl _ _).alloc _⟩
  cases hH : isSideB H
  · go_enter Try.func5, Try.ntmps5
    go_wp2_with (go_at_call 17; refine (isSide_any _ _).mono ?_; rintro e w' ⟨rfl, rfl⟩)
    go_ret2
    exact ⟨rfl, (But.refl _ _).alloc _⟩
  have hw := isSide_in hW
  have hh := isSide_in hH
  go_enter Try.func5, Try.ntmps5
  go_wp2_with (go_at_call 17; refine (isSide_any _ _).mono ?_; rintro e w' ⟨rfl, rfl⟩)
  refine (side_any _ _).mono ?_
  rintro e w1 ⟨rfl, hb⟩
  replace kk := kk.step hb
  have c0 := kk.head.at 0
  have c1 := kk.head.at 1
  simp only [List.getElem?_cons_zero, List.getElem?_cons_succ] at c0 c1
  clear hb
  go_wp2_with fail
  go_quiet ((go_at_call 19; exact Calls.quiet_of_same (numCeil_any _ _ _ (by omega) (by omega) (by omega) (by omega))))
  go_wp2_with fail
  go_ret2
  exact ⟨rfl, kk.but.drewN _⟩

end Go.Proofs.Ytppbnmlgilgnnaa
