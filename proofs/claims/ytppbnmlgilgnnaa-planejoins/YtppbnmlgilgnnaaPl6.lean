/- What a SAMPLE is of its pixels: sample. -/
import Derived.Test.YtppbnmlgilgnnaaPl5
import Derived.Test.YtppbnmlgilgnnaaPlTab
import Derived.Test.YtppbnmlgilgnnaaColMath
namespace Go.Proofs.Ytppbnmlgilgnnaa
open Go.ChangeShapes Go.WideShapes Go.ChangeAt Go.RowKit Go.Shelf

attribute [local go_sem] Oper.semAt_some wide_fn wide_depth Fence.inRound_fn Fence.inRound_depth

/-- What stands behind a function that holds a range over a function and never panics. -/
def bodyPostN (F : Fence) (n : Nat) (P : Program) (fn : Func) (R : Ending → World → Prop) : Exit → Act → World → Prop
  | .normal, a, w | .ret, a, w => LeavesInM F n P fn a.tmps R a.defers .returning w
  | _, _, _ => False

theorem callsIn_of_wp_quiet {F : Fence} {n : Nat} {P : Program} {f : FuncId} {fn : Func} {c : Code} {args : Array Value} {w : World} {R : Ending → World → Prop}
    (hf : P.funcs[f]? = some fn) (hb : fn.body = some c) (hF : F.fn f)
    (h : c.wpIn F n P (bodyPostN F n P fn R) { tmps := args ++ Array.replicate (fn.ntmps - args.size) undef, defers := [] } w) (hro : F.round = none := by rfl) : CallsIn F n P f args w R :=
  callsIn_of_wp_marks hf hb hF (wpIn_mono h (fun e a w hq => by cases e <;> first | exact hq | exact hq.elim)) hro

/-- How numbers are reckoned with, and secrets. -/
abbrev byPN : List Value := [.func (.func 58) #[] #[], .func (.func 59) #[] #[], .func (.func 60) #[] #[], .func (.func 61) #[] #[], .func (.func 62) #[] #[], .func (.func 63) #[] #[]]

abbrev byPS : List Value := [.func (.func 31) #[] #[], .func (.func 49) #[] #[], .func (.func 50) #[] #[], .func (.func 51) #[] #[], .func (.func 52) #[] #[], .func (.func 53) #[] #[]]

set_option maxHeartbeats 400000 in
theorem planePlain_any (w : World) : Calls Try.prog 35 #[] w fun e w' => e = .returned (.agg byPN.toArray) ∧ But Nowhere w w' := by
  have hu := Try.underlying75
  go_enter Try.func35, Try.ntmps35
  go_wp2
  exact bodyPost_ret (results_cells rfl (Cells.new w 75 byPN) hu rfl (by kernel_rfl) _ rfl) rfl ⟨rfl, (But.refl _ _).alloc _⟩

set_option maxHeartbeats 400000 in
theorem planeSecret_any (w : World) : Calls Try.prog 30 #[] w fun e w' => e = .returned (.agg byPS.toArray) ∧ But Nowhere w w' := by
  have hu := Try.underlying67
  go_enter Try.func30, Try.ntmps30
  go_wp2
  exact bodyPost_ret (results_cells rfl (Cells.new w 67 byPS) hu rfl (by kernel_rfl) _ rfl) rfl ⟨rfl, (But.refl _ _).alloc _⟩

set_option maxHeartbeats 400000 in
theorem itself_any (n : Int) (w : World) : Calls Try.prog 58 #[.int .i64 n] w fun e w' => e = .returned (.int .i64 n) ∧ w' = w := by
  go_enter Try.func58, Try.ntmps58
  go_wp2
  go_ret
  exact ⟨rfl, rfl⟩

set_option maxHeartbeats 400000 in
theorem added_any (a b : Int) (h : -1000000 ≤ a + b ∧ a + b ≤ 1000000) (w : World) : Calls Try.prog 59 #[.int .i64 a, .int .i64 b] w fun e w' => e = .returned (.int .i64 (a + b)) ∧ w' = w := by
  have e1 : wrap64 (a + b) = a + b := w64 _ (by omega)
  go_enter Try.func59, Try.ntmps59
  go_wp2
  go_ret
  exact ⟨rfl, rfl⟩

/-- So many times halved. -/
def halved (a n : Int) : Int := if n = 0 then a else if n = 1 then a / 2 else a / 4

set_option maxHeartbeats 400000 in
theorem shifted_any (a n : Int) (hn : n = 0 ∨ n = 1 ∨ n = 2) (w : World) : Calls Try.prog 60 #[.int .i64 a, .int .i64 n] w fun e w' => e = .returned (.int .i64 (halved a n)) ∧ w' = w := by
  rcases hn with rfl | rfl | rfl <;>
  · go_enter Try.func60, Try.ntmps60
    go_wp2
    go_ret
    exact ⟨rfl, rfl⟩

theorem View.at {w : World} {k : IntKind} {ao : Option Addr} {n cap : Nat} {l : List Int} (h : View w k (.slice ao n cap) l) (i : Nat) (hi : i < l.length) :
    n = l.length ∧ ∃ b off, ao = some ⟨b, off, none⟩ ∧ b < w.heap.size ∧ w.cell? ⟨b, off + i, none⟩ = some (.int k l[i]) := by
  obtain ⟨ao', cap', e, h⟩ := h
  cases e
  obtain ⟨b, off, e, hlt, hc⟩ := h (fun e => by subst e; simp at hi)
  exact ⟨rfl, b, off, e, hlt, hc i hi⟩

theorem View.slice {w : World} {k : IntKind} {v : Value} {l : List Int} (h : View w k v l) : ∃ ao cap, v = .slice ao l.length cap := by
  obtain ⟨ao, cap, e, -⟩ := h
  exact ⟨ao, cap, e⟩

/-- The word at a place. -/
def gat (l : List Int) (j : Int) : Int := l.getD j.toNat 0

/-- The sum of the first n. -/
def accF (f : Nat → Int) : Nat → Int
  | 0 => 0
  | n + 1 => accF f n + f n

/-- Where the word stands of a SAMPLE's n-th pixel. -/
def idxF (Wd Ht : Int) (s : Spot) (X Y : Int) (n : Nat) : Int := (min (Y + (n : Int) / s.wide) (Ht - 1) * Wd + min (X + (n : Int) % s.wide) (Wd - 1)) * s.parts + s.part

/-- A SAMPLE. -/
def sampleF (Wd Ht : Int) (l : List Int) (s : Spot) (k : Int) : Int :=
  halved (s.wide * s.high / 2 + accF (fun n => gat l (idxF Wd Ht s (s.x + k % 8 * s.wide) (s.y + k / 8 * s.high) n)) (s.wide * s.high).toNat) (tzF (s.wide * s.high))

theorem gat_in {l : List Int} (h : ∀ x ∈ l, 0 ≤ x ∧ x ≤ 255) (j : Int) : 0 ≤ gat l j ∧ gat l j ≤ 255 := by
  unfold gat
  rw [List.getD_eq_getElem?_getD]
  cases e : l[j.toNat]? with
  | none => simp
  | some x => exact h x (List.mem_of_getElem? e)

theorem accF_in (f : Nat → Int) (h : ∀ n, 0 ≤ f n ∧ f n ≤ 255) (n : Nat) : 0 ≤ accF f n ∧ accF f n ≤ 255 * n := by
  induction n with
  | zero => simp [accF]
  | succ n ih => have := h n; simp only [accF]; omega

theorem idxF_in (Wd Ht : Int) (s : Spot) (X Y : Int) (n : Nat) (hW : 1 ≤ Wd) (hH : 1 ≤ Ht) (hX : 0 ≤ X) (hY : 0 ≤ Y) (hs : s.ok) (hp : s.part < s.parts) :
    (0 ≤ min (X + (n : Int) % s.wide) (Wd - 1) ∧ min (X + (n : Int) % s.wide) (Wd - 1) ≤ Wd - 1) ∧ (0 ≤ min (Y + (n : Int) / s.wide) (Ht - 1) ∧ min (Y + (n : Int) / s.wide) (Ht - 1) ≤ Ht - 1) ∧ 0 ≤ idxF Wd Ht s X Y n ∧ idxF Wd Ht s X Y n < Wd * Ht * s.parts := by
  obtain ⟨s1, s2, s3, s4, s5, s6, s7, s8, s9, s10, s11, s12⟩ := hs
  have q0 : 0 ≤ (n : Int) % s.wide := Int.emod_nonneg _ (by omega)
  have q2 : 0 ≤ (n : Int) / s.wide := Int.ediv_nonneg (by omega) (by omega)
  have hx : 0 ≤ min (X + (n : Int) % s.wide) (Wd - 1) ∧ min (X + (n : Int) % s.wide) (Wd - 1) ≤ Wd - 1 := by omega
  have hy : 0 ≤ min (Y + (n : Int) / s.wide) (Ht - 1) ∧ min (Y + (n : Int) / s.wide) (Ht - 1) ≤ Ht - 1 := by omega
  refine ⟨hx, hy, ?_⟩
  unfold idxF
  revert hx hy
  generalize min (X + (n : Int) % s.wide) (Wd - 1) = x
  generalize min (Y + (n : Int) / s.wide) (Ht - 1) = y
  intro hx hy
  have a0 : 0 ≤ y * Wd := Int.mul_nonneg hy.1 (by omega)
  have a1 : y * Wd ≤ (Ht - 1) * Wd := Int.mul_le_mul_of_nonneg_right hy.2 (by omega)
  have a2 : (Ht - 1) * Wd = Wd * Ht - Wd := by rw [Int.sub_mul, Int.one_mul, Int.mul_comm]
  have b0 : 0 ≤ (y * Wd + x) * s.parts := Int.mul_nonneg (by omega) (by omega)
  have b1 : (y * Wd + x) * s.parts ≤ (Wd * Ht - 1) * s.parts := Int.mul_le_mul_of_nonneg_right (by omega) (by omega)
  have b2 : (Wd * Ht - 1) * s.parts = Wd * Ht * s.parts - s.parts := by rw [Int.sub_mul, Int.one_mul]
  omega

end Go.Proofs.Ytppbnmlgilgnnaa
