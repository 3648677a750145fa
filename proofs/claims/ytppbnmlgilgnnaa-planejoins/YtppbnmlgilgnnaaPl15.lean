/- Blocks that are too many or too few have no image: isWhole, Join; images that do not fit have no blocks: Split. -/
import Derived.Test.YtppbnmlgilgnnaaPl12
namespace Go.Proofs.Ytppbnmlgilgnnaa
open Go.ChangeShapes Go.WideShapes Go.ChangeAt Go.RowKit

set_option maxHeartbeats 3200000 in
set_option maxRecDepth 100000 in
theorem isWhole_not (W H m q i c : Int) (f : Fit W H m) (vo : Option Addr) (n vc : Nat) (hn : n ≠ (gridW W H m * gridH W H m).toNat) (w : World) : Calls Try.prog 33 #[pV W H m q i c, .slice vo n vc] w fun e w' => e = .returned (.bool false) ∧ But Nowhere w w' := by
  obtain ⟨-, -, g3, g4, g5, g6⟩ := f.grid
  have kk := (Keep.start w).made 23 (pC W H m q i c)
  obtain ⟨a, ha⟩ : ∃ a, gridW W H m = a := ⟨_, rfl⟩
  obtain ⟨b, hb⟩ : ∃ b, gridH W H m = b := ⟨_, rfl⟩
  rw [ha, hb] at hn
  rw [ha] at g3 g4
  rw [hb] at g5 g6
  obtain ⟨N, hN, N0, N1⟩ : ∃ N : Int, a * b = N ∧ 0 ≤ N ∧ N ≤ 8192 * 8192 := ⟨_, rfl, Int.mul_nonneg (by omega) (by omega), Int.mul_le_mul g4 g6 (by omega) (by omega)⟩
  have e0 : wrap64 (a * b) = N := by rw [hN]; exact w64 _ (by omega)
  rw [hN] at hn
  have e1 : ((n : Int) == N) = false := by simp; omega
  obtain ⟨Z, hZ, Z1⟩ : ∃ Z, W * H * (partsN m : Int) = Z ∧ 0 < Z := by
    refine ⟨_, rfl, ?_⟩
    have h1 := f.w
    have h2 := f.h
    have q1 : 1 * 1 ≤ W * H := Int.mul_le_mul h1.1 h2.1 (by omega) (by omega)
    have p1 : 1 ≤ (partsN m : Int) := by unfold partsN; split <;> simp
    have q2 : 1 * 1 ≤ W * H * (partsN m : Int) := Int.mul_le_mul (by omega) p1 (by omega) (by omega)
    omega
  have HG : Hid (gridW W H m = a ∧ gridH W H m = b) := ⟨ha, hb⟩
  clear hN ha hb hn
  go_enter Try.func33, Try.ntmps33
  go_wp2_with fail
  refine (grid_any _ _ _ _ _ _ _).mono ?_
  rintro e w1 ⟨rfl, b1⟩
  rw [HG.out.1, HG.out.2]
  replace kk := kk.step b1
  clear b1
  have c2 := kk.head.at 2
  simp only [List.getElem?_cons_zero, List.getElem?_cons_succ] at c2
  go_wp2_with fail
  refine (unit_any m f.m _).mono ?_
  rintro e w2 ⟨v, rfl, L⟩
  obtain ⟨uo, uc, rfl⟩ := L.slice
  replace kk := kk.step L.but
  have hl := kk.head.lt
  have d0 := kk.head.at 0
  have d1 := kk.head.at 1
  have d2 := kk.head.at 2
  have d3 := kk.head.at 3
  have d4 := kk.head.at 4
  have d5 := kk.head.at 5
  simp only [List.getElem?_cons_zero, List.getElem?_cons_succ] at d0 d1 d2 d3 d4 d5
  clear L c2
  go_wp2_with fail
  refine (size_fit _ _ _ _ _ _ f _).mono ?_
  rintro e w3 ⟨rfl, b3⟩
  rw [hZ]
  have HB : Hid (But Nowhere w w3) := (kk.but.alloc _).trans b3
  clear b3 kk d0 d1 d2 d3 d4 d5 hl
  go_wp2_with fail
  go_ret
  exact ⟨rfl, HB.out⟩

set_option maxHeartbeats 1600000 in
set_option maxRecDepth 100000 in
theorem join_not (W H m q i c : Int) (f : Fit W H m) (vo : Option Addr) (n vc : Nat) (hn : n ≠ (gridW W H m * gridH W H m).toNat) (w : World) : Calls Try.prog 16 #[pV W H m q i c, .slice vo n vc] w fun e w' => e = .returned (imV 0 0 false (.slice none 0 0)) ∧ But Nowhere w w' := by
  have hu := Try.underlying34
  have kk := ((Keep.start w).made 23 (pC W H m q i c)).made 34 (imC 0 0 false (.slice none 0 0))
  simp only [World.size_alloc] at kk
  go_enter Try.func16, Try.ntmps16
  go_wp2_with fail
  refine (isWhole_not _ _ _ _ _ _ f _ _ _ hn _).mono ?_
  rintro e w1 ⟨rfl, b1⟩
  replace kk := kk.step b1
  clear b1
  have d0 := kk.head.at 0
  have d1 := kk.head.at 1
  have d2 := kk.head.at 2
  have d3 := kk.head.at 3
  have f0 := kk.head.frozen 0
  have f1 := kk.head.frozen 1
  have f2 := kk.head.frozen 2
  have f3 := kk.head.frozen 3
  simp only [List.getElem?_cons_zero, List.getElem?_cons_succ] at d0 d1 d2 d3
  replace kk := (((kk.set 0 (.int .i64 0)).set 1 (.int .i64 0)).set 2 (.bool false)).set 3 (.slice none 0 0)
  simp only [List.set_cons_zero, List.set_cons_succ] at kk
  go_wp2_with fail
  exact bodyPost_ret (results_cells rfl kk.head hu rfl (by kernel_rfl) _ rfl) rfl ⟨rfl, kk.but⟩

set_option maxRecDepth 100000 in
/-- A list but its first. -/
theorem slice_rest (g n : Nat) (h : 1 ≤ n) (w : World) : (Instr.slice 29 (.slice (some ⟨g, 0, none⟩) n n) (some (.int .i64 1)) none none).run Try.prog w = .ok (.slice (if n = 1 then some ⟨g, 0, none⟩ else some ((⟨g, 0, none⟩ : Addr).add (1 * 1))) (n - 1) (n - 1)) w := by
  have hi : (Try.prog.info? (Try.prog.elem 29)).map (·.size) = some 1 := by kernel_rfl
  rw [run_slice_l w _ _ _ _ (by kernel_rfl) .i64 1 (by omega) (by omega)]
  cases hq : Try.prog.info? (Try.prog.elem 29) with
  | none => simp [hq] at hi
  | some i =>
    have hs : i.size = 1 := by simpa [hq] using hi
    simp [sizeOf, typeInfo, hq, hs, sliced]

end Go.Proofs.Ytppbnmlgilgnnaa
