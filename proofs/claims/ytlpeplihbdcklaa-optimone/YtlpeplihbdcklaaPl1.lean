/- What the small calls of package plane answer: Sides, Side, Grid, and Ceil and Clip of package num; the document's likewise. -/
import Derived.Test.YtlpeplihbdcklaaKeep
import Derived.BigQuiet
namespace Go.Proofs.Ytlpeplihbdcklaa
open Go.ChangeShapes Go.WideShapes Go.ChangeAt Go.RowKit

theorem But.drewN {S : Nat → Prop} {a w : World} (h : But S a w) (n : Nat) : But S a (w.drewN n) := ⟨h.os, h.tape, h.output, h.size, h.block⟩

/-- The cells that numbers take. -/
def nums (l : List Int) : List Value := l.map (fun n => .int .i64 n)

/-- How many blocks across and down an MCU has of each part, one after the other. -/
def sidesC (m : Int) : List Int := if m = 1 then [1, 1] else if m = 2 then [1, 1, 1, 1, 1, 1] else if m = 3 then [2, 1, 1, 1, 1, 1] else if m = 4 then [2, 2, 1, 1, 1, 1] else []
/-- How many parts. -/
def partsN (m : Int) : Nat := if m = 1 then 1 else 3

theorem mode_cases {m : Int} (h : 1 ≤ m ∧ m ≤ 4) : m = 1 ∨ m = 2 ∨ m = 3 ∨ m = 4 := by omega

/-- How wide and high an MCU is. -/
def sideW (m : Int) : Int := if m = 1 then 8 else if m = 2 then 8 else if m = 3 then 16 else if m = 4 then 16 else 0
def sideH (m : Int) : Int := if m = 1 then 8 else if m = 2 then 8 else if m = 3 then 8 else if m = 4 then 16 else 0

theorem side_none (m : Int) (hm : m < 1 ∨ 4 < m) : sideW m = 0 ∧ sideH m = 0 := by unfold sideW sideH; constructor <;> (repeat' split) <;> omega

/-- Two numbers as a call's answer. -/
abbrev two (a b : Int) : Value := .tuple #[.int .i64 a, .int .i64 b]

/-- n by d, rounded up. -/
def ceilF (n d : Int) : Int := if n < 0 ∨ 1099511627776 < n ∨ d < 1 ∨ 1099511627776 < d then 0 else (n + d - 1) / d

theorem ceil_up (n d : Int) (h2 : 1 ≤ d) : (n + d - 1) / d = if n / d * d < n then n / d + 1 else n / d := by
  have e := Int.emod_add_mul_ediv n d
  have r0 := Int.emod_nonneg n (show d ≠ 0 by omega)
  have r1 := Int.emod_lt_of_pos n (show 0 < d by omega)
  have hc : n / d * d = d * (n / d) := Int.mul_comm _ _
  split
  · rw [show n + d - 1 = (n % d - 1) + d * (n / d + 1) by rw [Int.mul_add]; omega, Int.add_mul_ediv_left _ _ (by omega), Int.ediv_eq_zero_of_lt (by omega) (by omega)]; omega
  · rw [show n + d - 1 = (n % d + d - 1) + d * (n / d) by omega, Int.add_mul_ediv_left _ _ (by omega), Int.ediv_eq_zero_of_lt (by omega) (by omega)]; omega

/-- Whether an image may be so wide, or high. -/
def isSideB (n : Int) : Bool := decide (1 ≤ n) && decide (n ≤ 65535)

/-- What is public, as a value. -/
abbrev pV (W H m q i c : Int) : Value := .agg #[.int .i64 W, .int .i64 H, .int .i64 m, .int .i64 q, .int .i64 i, .int .i64 c]
abbrev pC (W H m q i c : Int) : List Value := [.int .i64 W, .int .i64 H, .int .i64 m, .int .i64 q, .int .i64 i, .int .i64 c]

/-- How many MCUs across, and down. -/
def gridW (W H m : Int) : Int := if isSideB W && isSideB H then ceilF W (sideW m) else 0
def gridH (W H m : Int) : Int := if isSideB W && isSideB H then ceilF H (sideH m) else 0

theorem side_in (m : Int) : 0 ≤ sideW m ∧ sideW m ≤ 16 ∧ 0 ≤ sideH m ∧ sideH m ≤ 16 := by unfold sideW sideH; (repeat' split) <;> omega
theorem isSide_in {n : Int} (h : isSideB n = true) : 1 ≤ n ∧ n ≤ 65535 := by simpa [isSideB] using h

end Go.Proofs.Ytlpeplihbdcklaa
