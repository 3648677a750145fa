import Derived.Test.YtppbnmlgilgnnaaDoorPl12
import Derived.Test.YtppbnmlgilgnnaaDoorMgB
import Derived.Test.YtppbnmlgilgnnaaDoorMgC

/- Blocks that are too many or too few have no image: isWhole, Join; images that do not fit have no blocks: Split. -/
namespace Go.Proofs.YtppbnmlgilgnnaaDoor
open Go.ChangeShapes Go.WideShapes Go.ChangeAt Go.RowKit

set_option maxHeartbeats 3200000 in
set_option maxRecDepth 100000 in
theorem isWhole_not (W H m q i c : Int) (f : Fit W H m) (vo : Option Addr) (n vc : Nat) (hn : n ≠ (gridW W H m * gridH W H m).toNat) (w : World) : Calls Tryd.prog 39 #[pV W H m q i c, .slice vo n vc] w fun e w' => e = .returned (.bool false) ∧ But Nowhere w w' := by
  obtain ⟨-, -, g3, g4, g5, g6⟩ := f.grid
  have kk := (Keep.start w).made 23 (pC W H m q i c)
  obtain ⟨a, ha⟩ : ∃ a, gridW W H m = a := ⟨_, rfl⟩
  obtain ⟨b, hb⟩ : ∃ b, gridH W H m = b := ⟨_, rfl⟩
  rw [ha, hb] at hn
  rw [ha] at g3 g4
  rw [hb] at g5 g6
  obtain ⟨N, hN, N0, N1⟩ : ∃ N : Int, a * b = N ∧ 0 ≤ N ∧ N ≤ 8192 * 8192 := ⟨_, rfl, Int.mul_nonneg (by omega) (by omega), Int.mul_le_mul g4 g6 (by omega) (by omega)⟩
  have e0 : wrap64 (a * b) = N := by rw [hN]; exact w64 _ (by omega)
  rw [hN] at hn
  have e1 : ((n : Int) == N) = false := by simp; omega
  obtain ⟨Z, hZ, Z1⟩ : ∃ Z, W * H * (partsN m : Int) = Z ∧ 0 < Z := by
    refine ⟨_, rfl, ?_⟩
    have h1 := f.w
    have h2 := f.h
    have q1 : 1 * 1 ≤ W * H := Int.mul_le_mul h1.1 h2.1 (by omega) (by omega)
    have p1 : 1 ≤ (partsN m : Int) := by unfold partsN; split <;> simp
    have q2 : 1 * 1 ≤ W * H * (partsN m : Int) := Int.mul_le_mul (by omega) p1 (by omega) (by omega)
    omega
  have HG : Hid (gridW W H m = a ∧ gridH W H m = b) := ⟨ha, hb⟩
  clear hN ha hb hn
  go_enter Tryd.func39, Tryd.ntmps39
  go_wp2_with fail
  refine (grid_any _ _ _ _ _ _ _).mono ?_
  rintro e w1 ⟨rfl, b1⟩
  rw [HG.out.1, HG.out.2]
  replace kk := kk.step b1
  clear b1
  have c2 := kk.head.at 2
  simp only [List.getElem?_cons_zero, List.getElem?_cons_succ] at c2
  go_wp2_with fail
  refine (unit_any m f.m _).mono ?_
  rintro e w2 ⟨v, rfl, L⟩
  obtain ⟨uo, uc, rfl⟩ := L.slice
  replace kk := kk.step L.but
  have hl := kk.head.lt
  have d0 := kk.head.at 0
  have d1 := kk.head.at 1
  have d2 := kk.head.at 2
  have d3 := kk.head.at 3
  have d4 := kk.head.at 4
  have d5 := kk.head.at 5
  simp only [List.getElem?_cons_zero, List.getElem?_cons_succ] at d0 d1 d2 d3 d4 d5
  clear L c2
  go_wp2_with fail
  refine (size_fit _ _ _ _ _ _ f _).mono ?_
  rintro e w3 ⟨rfl, b3⟩
  rw [hZ]
  have HB : Hid (But Nowhere w w3) := (kk.but.alloc _).trans b3
  clear b3 kk d0 d1 d2 d3 d4 d5 hl
  go_wp2_with fail
  go_ret
  exact ⟨rfl, HB.out⟩

set_option maxHeartbeats 1600000 in
set_option maxRecDepth 100000 in
theorem join_not (W H m q i c : Int) (f : Fit W H m) (vo : Option Addr) (n vc : Nat) (hn : n ≠ (gridW W H m * gridH W H m).toNat) (w : World) : Calls Tryd.prog 20 #[pV W H m q i c, .slice vo n vc] w fun e w' => e = .returned (imV 0 0 false (.slice none 0 0)) ∧ But Nowhere w w' := by
  have hu := Tryd.underlying26
  have kk := ((Keep.start w).made 23 (pC W H m q i c)).made 26 (imC 0 0 false (.slice none 0 0))
  simp only [World.size_alloc] at kk
  go_enter Tryd.func20, Tryd.ntmps20
  go_wp2_with fail
  refine (isWhole_not _ _ _ _ _ _ f _ _ _ hn _).mono ?_
  rintro e w1 ⟨rfl, b1⟩
  replace kk := kk.step b1
  clear b1
  have d0 := kk.head.at 0
  have d1 := kk.head.at 1
  have d2 := kk.head.at 2
  have d3 := kk.head.at 3
  have f0 := kk.head.frozen 0
  have f1 := kk.head.frozen 1
  have f2 := kk.head.frozen 2
  have f3 := kk.head.frozen 3
  simp only [List.getElem?_cons_zero, List.getElem?_cons_succ] at d0 d1 d2 d3
  replace kk := (((kk.set 0 (.int .i64 0)).set 1 (.int .i64 0)).set 2 (.bool false)).set 3 (.slice none 0 0)
  simp only [List.set_cons_zero, List.set_cons_succ] at kk
  go_wp2_with fail
  exact bodyPost_ret (results_cells rfl kk.head hu rfl (by kernel_rfl) _ rfl) rfl ⟨rfl, kk.but⟩

set_option maxHeartbeats 3200000 in
set_option maxRecDepth 100000 in
theorem planeSplit_not (W H m q i c : Int) (f : Fit W H m) (W' H' : Int) (r' : Bool) (vo : Option Addr) (n vc : Nat) (hn : W' ≠ W ∨ H' ≠ H ∨ r' ≠ (m != 1) ∨ (n : Int) ≠ W * H * partsN m) (w : World) :
    Calls Tryd.prog 14 #[pV W H m q i c, imV W' H' r' (.slice vo n vc)] w fun e w' => e = .returned (.slice none 0 0) ∧ But Nowhere w w' := by
  have kk := ((Keep.start w).made 23 (pC W H m q i c)).made 26 (imC W' H' r' (.slice vo n vc))
  simp only [World.size_alloc] at kk
  by_cases h1 : W' = W
  · subst h1
    by_cases h2 : H' = H
    · subst h2
      obtain ⟨r, hr⟩ : ∃ r, (m != 1) = r := ⟨_, rfl⟩
      rw [hr] at hn
      by_cases h3 : r' = r
      · subst h3
        have h4 : (n : Int) ≠ W' * H' * partsN m := by
          rcases hn with q | q | q | q
          · exact absurd rfl q
          · exact absurd rfl q
          · exact absurd rfl q
          · exact q
        have hd : decide ((n : Int) = W' * H' * partsN m) = false := by simpa using h4
        clear hn h4
        go_enter Tryd.func14, Tryd.ntmps14
        go_wp2_with fail
        refine (counts_fit _ _ _ _ _ _ _ f _).mono ?_
        rintro e w1 ⟨rfl, b1⟩
        rw [hd]
        have HB : Hid (But Nowhere w w1) := kk.but.trans b1
        clear b1 kk hd
        go_wp2_with fail
        go_ret
        exact ⟨rfl, HB.out⟩
      · clear hn
        cases r' <;> cases r
        · exact absurd rfl h3
        · clear h3
          go_enter Tryd.func14, Tryd.ntmps14
          go_wp2_with fail
          go_ret
          exact ⟨rfl, kk.but⟩
        · clear h3
          go_enter Tryd.func14, Tryd.ntmps14
          go_wp2_with fail
          go_ret
          exact ⟨rfl, kk.but⟩
        · exact absurd rfl h3
    · have h2b : (H' != H) = true := by simpa using h2
      clear hn h2
      go_enter Tryd.func14, Tryd.ntmps14
      go_wp2_with fail
      go_ret
      exact ⟨rfl, kk.but⟩
  · have h1b : (W' != W) = true := by simpa using h1
    clear hn h1
    go_enter Tryd.func14, Tryd.ntmps14
    go_wp2_with fail
    go_ret
    exact ⟨rfl, kk.but⟩

set_option maxRecDepth 100000 in
/-- A list but its first. -/
theorem slice_rest (g n : Nat) (h : 1 ≤ n) (w : World) : (Instr.slice 30 (.slice (some ⟨g, 0, none⟩) n n) (some (.int .i64 1)) none none).run Tryd.prog w = .ok (.slice (if n = 1 then some ⟨g, 0, none⟩ else some ((⟨g, 0, none⟩ : Addr).add (1 * 1))) (n - 1) (n - 1)) w := by
  have hi : (Tryd.prog.info? (Tryd.prog.elem 30)).map (·.size) = some 1 := by kernel_rfl
  rw [run_slice_l w _ _ _ _ (by kernel_rfl) .i64 1 (by omega) (by omega)]
  cases hq : Tryd.prog.info? (Tryd.prog.elem 30) with
  | none => simp [hq] at hi
  | some i =>
    have hs : i.size = 1 := by simpa [hq] using hi
    simp [sizeOf, typeInfo, hq, hs, sliced]

end Go.Proofs.YtppbnmlgilgnnaaDoor

/- Images that do not fit, whatever their public numbers: size, counts, Split. -/
namespace Go.Proofs.YtppbnmlgilgnnaaDoor
open Go.ChangeShapes Go.WideShapes Go.ChangeAt Go.RowKit

theorem not_fit {W H m : Int} (hn : ¬ Fit W H m) : gridW W H m = 0 ∨ ((1 ≤ W ∧ W ≤ 65535) ∧ (1 ≤ H ∧ H ≤ 65535) ∧ gridW W H m ≠ 0 ∧ 1048576 < W * H) := by
  by_cases g : gridW W H m = 0
  · exact Or.inl g
  · right
    unfold gridW at g
    split at g
    · rename_i hs
      simp only [Bool.and_eq_true] at hs
      have hW := isSide_in hs.1
      have hH := isSide_in hs.2
      have hm : 1 ≤ m ∧ m ≤ 4 := by
        unfold sideW at g
        (repeat' split at g) <;> first | omega | (exfalso; apply g; unfold ceilF; rw [if_pos (by omega)])
      refine ⟨hW, hH, ?_, ?_⟩
      · unfold gridW
        rw [if_pos (by simp [hs.1, hs.2])]
        exact g
      · rcases Int.lt_or_le 1048576 (W * H) with h | h
        · exact h
        · exact absurd ⟨hm, hW, hH, h⟩ hn
    · exact absurd rfl g

set_option maxHeartbeats 1600000 in
set_option maxRecDepth 100000 in
theorem size_not (W H m q i c : Int) (hn : ¬ Fit W H m) (w : World) : Calls Tryd.prog 47 #[pV W H m q i c] w fun e w' => e = .returned (.int .i64 0) ∧ But Nowhere w w' := by
  have kk := (Keep.start w).made 23 (pC W H m q i c)
  obtain ⟨b, hb⟩ : ∃ b, gridH W H m = b := ⟨_, rfl⟩
  rcases not_fit hn with g | ⟨hW, hH, g, hS⟩
  · have HG : Hid (gridW W H m = 0 ∧ gridH W H m = b) := ⟨g, hb⟩
    clear g hb hn
    go_enter Tryd.func47, Tryd.ntmps47
    go_wp2_with fail
    refine (grid_any _ _ _ _ _ _ _).mono ?_
    rintro e w1 ⟨rfl, b1⟩
    rw [HG.out.1, HG.out.2]
    replace kk := kk.step b1
    clear b1
    go_wp2_with fail
    go_quiet (fail)
    go_wp2_with fail
    go_ret
    exact ⟨rfl, kk.but.drewN _⟩
  · obtain ⟨a, ha⟩ : ∃ a, gridW W H m = a := ⟨_, rfl⟩
    rw [ha] at g
    have HG : Hid (gridW W H m = a ∧ gridH W H m = b) := ⟨ha, hb⟩
    have d0 : ¬ W ≤ 1048576 / H := by rw [Int.le_ediv_iff_mul_le (by omega)]; omega
    have d1 : (1048576 : Int).tdiv H = 1048576 / H := Int.tdiv_eq_ediv_of_nonneg (by omega)
    have d2 : 1048576 / H ≤ 1048576 := Int.ediv_le_self _ (by omega)
    have d2' : 0 ≤ 1048576 / H := Int.ediv_nonneg (by omega) (by omega)
    have d3 : IntKind.i64.wrap (1048576 / H) = 1048576 / H := by rw [wrap_i64_eq]; exact w64 _ (by omega)
    have d4 : ¬ H = 0 := by omega
    have e3 : (a == 0) = false := by simpa using g
    have e4 : decide (1048576 / H < W) = true := by simp; omega
    clear ha hb hn hS d0 d2 d2'
    go_enter Tryd.func47, Tryd.ntmps47
    go_wp2_with fail
    refine (grid_any _ _ _ _ _ _ _).mono ?_
    rintro e w1 ⟨rfl, b1⟩
    rw [HG.out.1, HG.out.2]
    replace kk := kk.step b1
    clear b1
    have c0 := kk.head.at 0
    have c1 := kk.head.at 1
    simp only [List.getElem?_cons_zero, List.getElem?_cons_succ] at c0 c1
    go_wp2_with fail
    go_quiet (fail)
    go_wp2_with fail
    go_ret
    exact ⟨rfl, kk.but.drewN _⟩

set_option maxHeartbeats 1600000 in
theorem counts_not (W H m q i c : Int) (n : Nat) (hn : ¬ Fit W H m) (w : World) : Calls Tryd.prog 28 #[pV W H m q i c, .int .i64 n] w fun e w' => e = .returned (.bool false) ∧ But Nowhere w w' := by
  have kk := (Keep.start w).made 23 (pC W H m q i c)
  have HSZ := size_not W H m q i c hn
  clear hn
  by_cases h0 : (n : Int) ≤ 0
  · clear HSZ
    go_enter Tryd.func28, Tryd.ntmps28
    go_wp2_with fail
    go_ret
    exact ⟨rfl, kk.but⟩
  · have h1 : 0 < (n : Int) := by omega
    have h2 : ((n : Int) == 0) = false := by simp; omega
    have h3 : ¬ n = 0 := by omega
    go_enter Tryd.func28, Tryd.ntmps28
    go_wp2_with fail
    refine (HSZ _).mono ?_
    rintro e w1 ⟨rfl, b1⟩
    have HB : Hid (But Nowhere w w1) := kk.but.trans b1
    clear HSZ b1 kk
    go_wp2_with fail
    go_ret
    exact ⟨rfl, HB.out⟩

set_option maxHeartbeats 3200000 in
set_option maxRecDepth 100000 in
/-- Public numbers of which no image fits. -/
theorem planeSplit_none (W H m q i c : Int) (hn : ¬ Fit W H m) (W' H' : Int) (r' : Bool) (vo : Option Addr) (n vc : Nat) (w : World) :
    Calls Tryd.prog 14 #[pV W H m q i c, imV W' H' r' (.slice vo n vc)] w fun e w' => e = .returned (.slice none 0 0) ∧ But Nowhere w w' := by
  have kk := ((Keep.start w).made 23 (pC W H m q i c)).made 26 (imC W' H' r' (.slice vo n vc))
  simp only [World.size_alloc] at kk
  have HCN := counts_not W H m q i c n hn
  clear hn
  by_cases h1 : W' = W
  · subst h1
    by_cases h2 : H' = H
    · subst h2
      obtain ⟨r, hr⟩ : ∃ r, (m != 1) = r := ⟨_, rfl⟩
      by_cases h3 : r' = r
      · subst h3
        go_enter Tryd.func14, Tryd.ntmps14
        go_wp2_with fail
        refine (HCN _).mono ?_
        rintro e w1 ⟨rfl, b1⟩
        have HB : Hid (But Nowhere w w1) := kk.but.trans b1
        clear b1 kk HCN
        go_wp2_with fail
        go_ret
        exact ⟨rfl, HB.out⟩
      · clear HCN
        cases r' <;> cases r
        · exact absurd rfl h3
        · clear h3
          go_enter Tryd.func14, Tryd.ntmps14
          go_wp2_with fail
          go_ret
          exact ⟨rfl, kk.but⟩
        · clear h3
          go_enter Tryd.func14, Tryd.ntmps14
          go_wp2_with fail
          go_ret
          exact ⟨rfl, kk.but⟩
        · exact absurd rfl h3
    · have h2b : (H' != H) = true := by simpa using h2
      clear h2 HCN
      go_enter Tryd.func14, Tryd.ntmps14
      go_wp2_with fail
      go_ret
      exact ⟨rfl, kk.but⟩
  · have h1b : (W' != W) = true := by simpa using h1
    clear h1 HCN
    go_enter Tryd.func14, Tryd.ntmps14
    go_wp2_with fail
    go_ret
    exact ⟨rfl, kk.but⟩

end Go.Proofs.YtppbnmlgilgnnaaDoor

/- The document's Right and Fits. -/
namespace Go.Proofs.YtppbnmlgilgnnaaDoor
open Go.ChangeShapes Go.WideShapes Go.ChangeAt Go.RowKit

set_option maxHeartbeats 1600000 in
set_option maxRecDepth 100000 in
theorem refRight_fit (W H m q i c : Int) (f : Fit W H m) (w : World) : Calls Tryd.prog 43 #[pV W H m q i c] w fun e w' => e = .returned (.bool true) ∧ But Nowhere w w' := by
  have kk := (Keep.start w).made 23 (pC W H m q i c)
  obtain ⟨-, -, g3, g4, g5, g6⟩ := f.grid
  obtain ⟨b, hb⟩ : ∃ b, gridH W H m = b := ⟨_, rfl⟩
  obtain ⟨a, ha⟩ : ∃ a, gridW W H m = a := ⟨_, rfl⟩
  rw [ha] at g3
  have HG : Hid (gridW W H m = a ∧ gridH W H m = b) := ⟨ha, hb⟩
  have hW := f.w
  have hH := f.h
  have hS := f.s
  have m0 : 0 ≤ W * H := Int.mul_nonneg (by omega) (by omega)
  obtain ⟨Z, hZ⟩ : ∃ Z, W * H = Z := ⟨_, rfl⟩
  have r1 : wrap64 (W * H) = Z := by rw [hZ]; exact w64 _ (by omega)
  have r2 : decide (Z ≤ 1048576) = true := by simp; omega
  have r3 : decide (0 < a) = true := by simp; omega
  have r4 : 0 < a := by omega
  have r5 : Z ≤ 1048576 := by omega
  clear ha hb g3 g4 g5 g6 hW hH hS m0 hZ f
  go_enter Tryd.func43, Tryd.ntmps43
  go_wp2_with fail
  refine (refGrid_any _ _ _ _ _ _ _).mono ?_
  rintro e w1 ⟨rfl, b1⟩
  rw [HG.out.1, HG.out.2]
  replace kk := kk.step b1
  clear b1
  have c0 := kk.head.at 0
  have c1 := kk.head.at 1
  simp only [List.getElem?_cons_zero, List.getElem?_cons_succ] at c0 c1
  go_wp2_with fail
  go_ret
  exact ⟨rfl, kk.but⟩

set_option maxHeartbeats 1600000 in
set_option maxRecDepth 100000 in
theorem refRight_not (W H m q i c : Int) (hn : ¬ Fit W H m) (w : World) : Calls Tryd.prog 43 #[pV W H m q i c] w fun e w' => e = .returned (.bool false) ∧ But Nowhere w w' := by
  have kk := (Keep.start w).made 23 (pC W H m q i c)
  obtain ⟨b, hb⟩ : ∃ b, gridH W H m = b := ⟨_, rfl⟩
  rcases not_fit hn with g | ⟨hW, hH, g, hS⟩
  · have HG : Hid (gridW W H m = 0 ∧ gridH W H m = b) := ⟨g, hb⟩
    clear g hb hn
    go_enter Tryd.func43, Tryd.ntmps43
    go_wp2_with fail
    refine (refGrid_any _ _ _ _ _ _ _).mono ?_
    rintro e w1 ⟨rfl, b1⟩
    rw [HG.out.1, HG.out.2]
    replace kk := kk.step b1
    clear b1
    go_wp2_with fail
    go_ret
    exact ⟨rfl, kk.but⟩
  · obtain ⟨a, ha⟩ : ∃ a, gridW W H m = a := ⟨_, rfl⟩
    rw [ha] at g
    have HG : Hid (gridW W H m = a ∧ gridH W H m = b) := ⟨ha, hb⟩
    have h8 : W * H ≤ 65535 * 65535 := Int.mul_le_mul hW.2 hH.2 (by omega) (by omega)
    obtain ⟨Z, hZ⟩ : ∃ Z, W * H = Z := ⟨_, rfl⟩
    rw [hZ] at h8 hS
    have r1 : wrap64 (W * H) = Z := by rw [hZ]; exact w64 _ (by omega)
    have r2 : decide (Z ≤ 1048576) = false := by simp; omega
    have r5 : ¬ Z ≤ 1048576 := by omega
    clear ha hb hn hS hW hH h8 hZ
    by_cases r4 : 0 < a
    · have r3 : decide (0 < a) = true := by simp; omega
      go_enter Tryd.func43, Tryd.ntmps43
      go_wp2_with fail
      refine (refGrid_any _ _ _ _ _ _ _).mono ?_
      rintro e w1 ⟨rfl, b1⟩
      rw [HG.out.1, HG.out.2]
      replace kk := kk.step b1
      clear b1
      have c0 := kk.head.at 0
      have c1 := kk.head.at 1
      simp only [List.getElem?_cons_zero, List.getElem?_cons_succ] at c0 c1
      go_wp2_with fail
      go_ret
      exact ⟨rfl, kk.but⟩
    · have r3 : decide (0 < a) = false := by simp; omega
      go_enter Tryd.func43, Tryd.ntmps43
      go_wp2_with fail
      refine (refGrid_any _ _ _ _ _ _ _).mono ?_
      rintro e w1 ⟨rfl, b1⟩
      rw [HG.out.1, HG.out.2]
      replace kk := kk.step b1
      clear b1
      go_wp2_with fail
      go_ret
      exact ⟨rfl, kk.but⟩

set_option maxHeartbeats 1600000 in
set_option maxRecDepth 100000 in
theorem refFits_none (W H m q i c : Int) (hn : ¬ Fit W H m) (W' H' : Int) (r' : Bool) (vo : Option Addr) (n vc : Nat) (w : World) : Calls Tryd.prog 23 #[pV W H m q i c, imV W' H' r' (.slice vo n vc)] w fun e w' => e = .returned (.bool false) ∧ But Nowhere w w' := by
  have kk := ((Keep.start w).made 23 (pC W H m q i c)).made 26 (imC W' H' r' (.slice vo n vc))
  simp only [World.size_alloc] at kk
  have HRI := refRight_not W H m q i c hn
  clear hn
  go_enter Tryd.func23, Tryd.ntmps23
  go_wp2_with fail
  refine (HRI _).mono ?_
  rintro e w1 ⟨rfl, b1⟩
  replace kk := kk.step b1
  clear b1
  have gI := kk.head
  have gP := kk.get (b := w.heap.size) (t := 23) (c := pC W H m q i c) (by simp)
  have d0 := gI.at 0
  have d1 := gI.at 1
  have d2 := gI.at 2
  have d3 := gI.at 3
  have p0 := gP.at 0
  have p1 := gP.at 1
  have p2 := gP.at 2
  simp only [List.getElem?_cons_zero, List.getElem?_cons_succ] at d0 d1 d2 d3 p0 p1 p2
  have HB : Hid (But Nowhere w w1) := kk.but
  clear gI gP kk
  go_wp2_with fail
  go_ret
  exact ⟨rfl, HB.out⟩

set_option maxHeartbeats 3200000 in
set_option maxRecDepth 100000 in
theorem refFits_not (W H m q i c : Int) (f : Fit W H m) (W' H' : Int) (r' : Bool) (vo : Option Addr) (n vc : Nat) (hn : W' ≠ W ∨ H' ≠ H ∨ r' ≠ (m != 1) ∨ (n : Int) ≠ W * H * partsN m) (w : World) : Calls Tryd.prog 23 #[pV W H m q i c, imV W' H' r' (.slice vo n vc)] w fun e w' => e = .returned (.bool false) ∧ But Nowhere w w' := by
  have kk := ((Keep.start w).made 23 (pC W H m q i c)).made 26 (imC W' H' r' (.slice vo n vc))
  simp only [World.size_alloc] at kk
  have HRI := refRight_fit W H m q i c f
  have hW := f.w
  have hH := f.h
  have hS := f.s
  have m0 : 0 ≤ W * H := Int.mul_nonneg (by omega) (by omega)
  by_cases h1 : W' = W
  · subst h1
    by_cases h2 : H' = H
    · subst h2
      obtain ⟨r, hr⟩ : ∃ r, (m != 1) = r := ⟨_, rfl⟩
      rw [hr] at hn
      by_cases h3 : r' = r
      · subst h3
        have h4 : (n : Int) ≠ W' * H' * partsN m := by
          rcases hn with q | q | q | q
          · exact absurd rfl q
          · exact absurd rfl q
          · exact absurd rfl q
          · exact q
        obtain ⟨Z, hZ⟩ : ∃ Z, W' * H' = Z := ⟨_, rfl⟩
        rw [hZ] at h4 hS m0
        have r1 : wrap64 (W' * H') = Z := by rw [hZ]; exact w64 _ (by omega)
        have r2 : wrap64 (3 * Z) = 3 * Z := w64 _ (by omega)
        cases r'
        · have hp : partsN m = 1 := by unfold partsN; rw [if_pos (by simpa using hr)]
          rw [hp] at h4
          have h5 : ¬ (n : Int) = Z := by omega
          have h6 : ((n : Int) == Z) = false := by simpa using h5
          clear hn h4 hS m0 hW hH hZ f hp r2
          go_enter Tryd.func23, Tryd.ntmps23
          go_wp2_with fail
          refine (HRI _).mono ?_
          rintro e w1 ⟨rfl, b1⟩
          replace kk := kk.step b1
          clear b1
          have gI := kk.head
          have gP := kk.get (b := w.heap.size) (t := 23) (c := pC W' H' m q i c) (by simp)
          have d0 := gI.at 0
          have d1 := gI.at 1
          have d2 := gI.at 2
          have d3 := gI.at 3
          have p0 := gP.at 0
          have p1 := gP.at 1
          have p2 := gP.at 2
          simp only [List.getElem?_cons_zero, List.getElem?_cons_succ] at d0 d1 d2 d3 p0 p1 p2
          have HB : Hid (But Nowhere w w1) := kk.but
          clear gI gP kk
          go_wp2_with fail
          go_ret
          exact ⟨rfl, HB.out⟩
        · have hp : partsN m = 3 := by unfold partsN; rw [if_neg (by simpa using hr)]
          rw [hp] at h4
          have h5 : ¬ (n : Int) = 3 * Z := by omega
          have h6 : ((n : Int) == 3 * Z) = false := by simpa using h5
          clear hn h4 hS m0 hW hH hZ f hp
          go_enter Tryd.func23, Tryd.ntmps23
          go_wp2_with fail
          refine (HRI _).mono ?_
          rintro e w1 ⟨rfl, b1⟩
          replace kk := kk.step b1
          clear b1
          have gI := kk.head
          have gP := kk.get (b := w.heap.size) (t := 23) (c := pC W' H' m q i c) (by simp)
          have d0 := gI.at 0
          have d1 := gI.at 1
          have d2 := gI.at 2
          have d3 := gI.at 3
          have p0 := gP.at 0
          have p1 := gP.at 1
          have p2 := gP.at 2
          simp only [List.getElem?_cons_zero, List.getElem?_cons_succ] at d0 d1 d2 d3 p0 p1 p2
          have HB : Hid (But Nowhere w w1) := kk.but
          clear gI gP kk
          go_wp2_with fail
          go_ret
          exact ⟨rfl, HB.out⟩
      · clear hn f hW hH hS m0
        cases r' <;> cases r
        · exact absurd rfl h3
        · clear h3
          go_enter Tryd.func23, Tryd.ntmps23
          go_wp2_with fail
          refine (HRI _).mono ?_
          rintro e w1 ⟨rfl, b1⟩
          replace kk := kk.step b1
          clear b1
          have gI := kk.head
          have gP := kk.get (b := w.heap.size) (t := 23) (c := pC W' H' m q i c) (by simp)
          have d0 := gI.at 0
          have d1 := gI.at 1
          have d2 := gI.at 2
          have d3 := gI.at 3
          have p0 := gP.at 0
          have p1 := gP.at 1
          have p2 := gP.at 2
          simp only [List.getElem?_cons_zero, List.getElem?_cons_succ] at d0 d1 d2 d3 p0 p1 p2
          have HB : Hid (But Nowhere w w1) := kk.but
          clear gI gP kk
          go_wp2_with fail
          go_ret
          exact ⟨rfl, HB.out⟩
        · clear h3
          go_enter Tryd.func23, Tryd.ntmps23
          go_wp2_with fail
          refine (HRI _).mono ?_
          rintro e w1 ⟨rfl, b1⟩
          replace kk := kk.step b1
          clear b1
          have gI := kk.head
          have gP := kk.get (b := w.heap.size) (t := 23) (c := pC W' H' m q i c) (by simp)
          have d0 := gI.at 0
          have d1 := gI.at 1
          have d2 := gI.at 2
          have d3 := gI.at 3
          have p0 := gP.at 0
          have p1 := gP.at 1
          have p2 := gP.at 2
          simp only [List.getElem?_cons_zero, List.getElem?_cons_succ] at d0 d1 d2 d3 p0 p1 p2
          have HB : Hid (But Nowhere w w1) := kk.but
          clear gI gP kk
          go_wp2_with fail
          go_ret
          exact ⟨rfl, HB.out⟩
        · exact absurd rfl h3
    · have h2b : (H' != H) = true := by simpa using h2
      clear hn f hW hH hS m0
      go_enter Tryd.func23, Tryd.ntmps23
      go_wp2_with fail
      refine (HRI _).mono ?_
      rintro e w1 ⟨rfl, b1⟩
      replace kk := kk.step b1
      clear b1
      have gI := kk.head
      have gP := kk.get (b := w.heap.size) (t := 23) (c := pC W' H m q i c) (by simp)
      have d0 := gI.at 0
      have d1 := gI.at 1
      have d2 := gI.at 2
      have d3 := gI.at 3
      have p0 := gP.at 0
      have p1 := gP.at 1
      have p2 := gP.at 2
      simp only [List.getElem?_cons_zero, List.getElem?_cons_succ] at d0 d1 d2 d3 p0 p1 p2
      have HB : Hid (But Nowhere w w1) := kk.but
      clear gI gP kk
      go_wp2_with fail
      go_ret
      exact ⟨rfl, HB.out⟩
  · have h1b : (W' != W) = true := by simpa using h1
    clear hn f hW hH hS m0
    go_enter Tryd.func23, Tryd.ntmps23
    go_wp2_with fail
    refine (HRI _).mono ?_
    rintro e w1 ⟨rfl, b1⟩
    replace kk := kk.step b1
    clear b1
    have gI := kk.head
    have gP := kk.get (b := w.heap.size) (t := 23) (c := pC W H m q i c) (by simp)
    have d0 := gI.at 0
    have d1 := gI.at 1
    have d2 := gI.at 2
    have d3 := gI.at 3
    have p0 := gP.at 0
    have p1 := gP.at 1
    have p2 := gP.at 2
    simp only [List.getElem?_cons_zero, List.getElem?_cons_succ] at d0 d1 d2 d3 p0 p1 p2
    have HB : Hid (But Nowhere w w1) := kk.but
    clear gI gP kk
    go_wp2_with fail
    go_ret
    exact ⟨rfl, HB.out⟩

set_option maxHeartbeats 3200000 in
set_option maxRecDepth 100000 in
theorem refFits_yes (W H m q i c : Int) (f : Fit W H m) (r' : Bool) (hr : r' = (m != 1)) (vo : Option Addr) (n vc : Nat) (hn : (n : Int) = W * H * partsN m) (w : World) : Calls Tryd.prog 23 #[pV W H m q i c, imV W H r' (.slice vo n vc)] w fun e w' => e = .returned (.bool true) ∧ But Nowhere w w' := by
  have kk := ((Keep.start w).made 23 (pC W H m q i c)).made 26 (imC W H r' (.slice vo n vc))
  simp only [World.size_alloc] at kk
  have HRI := refRight_fit W H m q i c f
  have hW := f.w
  have hH := f.h
  have hS := f.s
  have m0 : 0 ≤ W * H := Int.mul_nonneg (by omega) (by omega)
  obtain ⟨Z, hZ⟩ : ∃ Z, W * H = Z := ⟨_, rfl⟩
  rw [hZ] at hn hS m0
  have r1 : wrap64 (W * H) = Z := by rw [hZ]; exact w64 _ (by omega)
  have r2 : wrap64 (3 * Z) = 3 * Z := w64 _ (by omega)
  replace hr := hr.symm
  cases r'
  · have hp : partsN m = 1 := by unfold partsN; rw [if_pos (by simpa using hr)]
    rw [hp] at hn
    have h5 : (n : Int) = Z := by omega
    have h6 : ((n : Int) == Z) = true := by simpa using h5
    clear hn hS m0 hW hH hZ f hp r2 h5
    go_enter Tryd.func23, Tryd.ntmps23
    go_wp2_with fail
    refine (HRI _).mono ?_
    rintro e w1 ⟨rfl, b1⟩
    replace kk := kk.step b1
    clear b1
    have gI := kk.head
    have gP := kk.get (b := w.heap.size) (t := 23) (c := pC W H m q i c) (by simp)
    have d0 := gI.at 0
    have d1 := gI.at 1
    have d2 := gI.at 2
    have d3 := gI.at 3
    have p0 := gP.at 0
    have p1 := gP.at 1
    have p2 := gP.at 2
    simp only [List.getElem?_cons_zero, List.getElem?_cons_succ] at d0 d1 d2 d3 p0 p1 p2
    have HB : Hid (But Nowhere w w1) := kk.but
    clear gI gP kk
    go_wp2_with fail
    go_ret
    exact ⟨rfl, HB.out⟩
  · have hp : partsN m = 3 := by unfold partsN; rw [if_neg (by simpa using hr)]
    rw [hp] at hn
    have h5 : (n : Int) = 3 * Z := by omega
    have h6 : ((n : Int) == 3 * Z) = true := by simpa using h5
    clear hn hS m0 hW hH hZ f hp h5
    go_enter Tryd.func23, Tryd.ntmps23
    go_wp2_with fail
    refine (HRI _).mono ?_
    rintro e w1 ⟨rfl, b1⟩
    replace kk := kk.step b1
    clear b1
    have gI := kk.head
    have gP := kk.get (b := w.heap.size) (t := 23) (c := pC W H m q i c) (by simp)
    have d0 := gI.at 0
    have d1 := gI.at 1
    have d2 := gI.at 2
    have d3 := gI.at 3
    have p0 := gP.at 0
    have p1 := gP.at 1
    have p2 := gP.at 2
    simp only [List.getElem?_cons_zero, List.getElem?_cons_succ] at d0 d1 d2 d3 p0 p1 p2
    have HB : Hid (But Nowhere w w1) := kk.but
    clear gI gP kk
    go_wp2_with fail
    go_ret
    exact ⟨rfl, HB.out⟩

end Go.Proofs.YtppbnmlgilgnnaaDoor

/- The document's Split. -/
namespace Go.Proofs.YtppbnmlgilgnnaaDoor
open Go.ChangeShapes Go.WideShapes Go.ChangeAt Go.RowKit

/-- Rows of blocks, none of which lies where the list of them does. -/
structure Rws (V : World) (o : Value) (xs : List Value) (n M : Nat) (F : Nat → Nat → Int) : Prop where
  len : xs.length = n
  row : ∀ k, k < n → ∃ g c, xs[k]? = some (.slice (some ⟨g, 0, none⟩) M c) ∧ g < V.heap.size ∧ o.ownBlock ≠ some g ∧ ∀ j, j < M * 64 → V.cell? ⟨g, j, none⟩ = some (.int .i64 (F k j))

theorem Rws.but {V V' : World} {o : Value} {xs : List Value} {n M : Nat} {F : Nat → Nat → Int} (h : Rws V o xs n M F) (hb : But Nowhere V V') : Rws V' o xs n M F :=
  ⟨h.len, fun k hk => by
    obtain ⟨g, c, h1, h2, h3, h4⟩ := h.row k hk
    exact ⟨g, c, h1, Nat.lt_of_lt_of_le h2 hb.size, h3, fun j hj => hb.keeps (not_nowhere _) (h4 j hj)⟩⟩

theorem Rws.push {V V' : World} {o o' : Value} {xs : List Value} {n M : Nat} {F : Nat → Nat → Int} (h : Rws V o xs n M F) (g c : Nat) (hg : g < V.heap.size) (hne : o.ownBlock ≠ some g) (hc : ∀ j, j < M * 64 → V.cell? ⟨g, j, none⟩ = some (.int .i64 (F n j)))
    (hb : But (fun k => o.ownBlock = some k) V V') (g4 : Nat) (ho' : o'.ownBlock = some g4) (h4 : o.ownBlock = some g4 ∨ V.heap.size ≤ g4) : Rws V' o' (xs ++ [.slice (some ⟨g, 0, none⟩) M c]) (n + 1) M F := by
  have hn' : ∀ x, x < V.heap.size → o.ownBlock ≠ some x → o'.ownBlock ≠ some x := fun x hx hne e => by
    rw [ho'] at e
    have e : g4 = x := by injection e
    subst e
    rcases h4 with h4 | h4
    · exact hne h4
    · omega
  refine ⟨by simp [h.len], fun k hk => ?_⟩
  by_cases hkn : k < n
  · obtain ⟨g, c, h1, h2, h3, h5⟩ := h.row k hkn
    exact ⟨g, c, by rw [List.getElem?_append_left (by rw [h.len]; exact hkn)]; exact h1, Nat.lt_of_lt_of_le h2 hb.size, hn' g h2 h3, fun j hj => hb.keeps (S := fun k => o.ownBlock = some k) (p := ⟨g, j, none⟩) h3 (h5 j hj)⟩
  · obtain rfl : k = n := by omega
    exact ⟨g, c, by rw [List.getElem?_append_right (by rw [h.len]; omega), h.len, Nat.sub_self]; rfl, Nat.lt_of_lt_of_le hg hb.size, hn' g hg hne, fun j hj => hb.keeps (S := fun k => o.ownBlock = some k) (p := ⟨g, j, none⟩) hne (hc j hj)⟩

theorem Rws.bv {w V : World} {t : TypeId} {o : Value} {xs : List Value} {n M : Nat} {F : Nat → Nat → Int} (h : Rws V o xs n M F) (L : Lst w V t 1 o n xs) : BV V o n M F := by
  obtain ⟨a, cap, rfl⟩ := L.slice
  refine ⟨a, cap, rfl, fun hn => ?_⟩
  obtain ⟨go, cap', e, -, -, -, h4, -⟩ := L.at hn
  simp only [Value.slice.injEq] at e
  obtain ⟨rfl, -, rfl⟩ := e
  refine ⟨go, rfl, fun i hi => ?_⟩
  obtain ⟨g, c, h1, -, -, h5⟩ := h.row i hi
  exact ⟨g, c, h4 i _ h1, h5⟩

set_option maxHeartbeats 6400000 in
set_option maxRecDepth 100000 in
theorem refSplit_fit (W H m q i0 c : Int) (f : Fit W H m) (v : Value) (l : List Int) (w : World) (hv : View w .u8 v l) (hlen : (l.length : Int) = W * H * partsN m) (h255 : ∀ x ∈ l, 0 ≤ x ∧ x ≤ 255) (r : Bool) (hr : r = (m != 1)) :
    Calls Tryd.prog 12 #[pV W H m q i0 c, imV W H r v] w fun e w' => (∃ v', e = .returned v' ∧ BV w' v' (gridW W H m * gridH W H m).toNat (unitL m).length (splitF W H m l)) ∧ But Nowhere w w' := by
  obtain ⟨-, -, g3, g4, g5, g6⟩ := f.grid
  have hM0 := (unit_pos m).1
  have HMC : Hid (∀ (V : World) g, But Nowhere w V → Cells V g 51 (nums (sidesC m)) → ∀ k : Nat, k < (gridW W H m * gridH W H m).toNat → Calls Tryd.prog 25 #[imV W H r v, .slice (some ⟨g, 0, none⟩) (partsN m) (partsN m), .int .i64 ((k : Int) % gridW W H m), .int .i64 ((k : Int) / gridW W H m)] V fun e w' => ∃ v', e = .returned v' ∧ Lst V w' 46 64 v' (unitL m).length (tab .i64 ((unitL m).length * 64) (splitF W H m l k))) :=
    fun V g hb hs k hk => refMcu_any W H m f r hr v l k hk g V (hv.but hb) hlen h255 hs
  obtain ⟨vo, vc, rfl⟩ := hv.slice
  have HFT : Hid (∀ V, Calls Tryd.prog 23 #[pV W H m q i0 c, imV W H r (.slice vo l.length vc)] V fun e w' => e = .returned (.bool true) ∧ But Nowhere V w') := refFits_yes W H m q i0 c f r hr vo l.length vc hlen
  obtain ⟨a, ha⟩ : ∃ a, gridW W H m = a := ⟨_, rfl⟩
  obtain ⟨b, hb⟩ : ∃ b, gridH W H m = b := ⟨_, rfl⟩
  have HG : Hid (gridW W H m = a ∧ gridH W H m = b) := ⟨ha, hb⟩
  rw [ha, hb] at HMC ⊢
  rw [ha] at g3 g4
  rw [hb] at g5 g6
  obtain ⟨N0, N1⟩ : 0 ≤ a * b ∧ a * b ≤ 8192 * 8192 := ⟨Int.mul_nonneg (by omega) (by omega), Int.mul_le_mul g4 g6 (by omega) (by omega)⟩
  obtain ⟨N, hN⟩ : ∃ N : Nat, (a * b).toNat = N := ⟨_, rfl⟩
  have e0 : wrap64 (a * b) = (N : Int) := by rw [show a * b = (N : Int) by omega]; exact w64 _ (by omega)
  rw [hN] at HMC ⊢
  have hNs : N ≤ 100000000 := by omega
  obtain ⟨M, hM⟩ : ∃ M, (unitL m).length = M := ⟨_, rfl⟩
  rw [hM] at HMC hM0 ⊢
  obtain ⟨FF, hFF⟩ : ∃ FF, splitF W H m l = FF := ⟨_, rfl⟩
  rw [hFF] at HMC ⊢
  have kk := ((Keep.start w).made 23 (pC W H m q i0 c)).made 26 (imC W H r (.slice vo l.length vc))
  simp only [World.size_alloc] at kk
  clear hr hv hlen h255 ha hb N0 N1 hN hM hFF g4 g5 g6
  go_enter Tryd.func12, Tryd.ntmps12
  go_wp2_with fail
  refine (HFT.out _).mono ?_
  rintro e w1 ⟨rfl, b1⟩
  replace kk := kk.step b1
  clear b1 HFT
  have gP := kk.get (b := w.heap.size) (t := 23) (c := pC W H m q i0 c) (by simp)
  have p0 := gP.at 0
  have p1 := gP.at 1
  have p2 := gP.at 2
  have p3 := gP.at 3
  have p4 := gP.at 4
  have p5 := gP.at 5
  simp only [List.getElem?_cons_zero, List.getElem?_cons_succ] at p0 p1 p2 p3 p4 p5
  clear gP
  go_wp2_with fail
  refine (refGrid_any _ _ _ _ _ _ _).mono ?_
  rintro e w2 ⟨rfl, b2⟩
  rw [HG.out.1, HG.out.2]
  replace kk := kk.step b2
  clear b2 p0 p1 p2 p3 p4 p5
  go_wp2_with fail
  obtain ⟨PB, hPB⟩ : ∃ z, w.heap.size = z := ⟨_, rfl⟩
  have gP := kk.get (b := w.heap.size) (t := 23) (c := pC W H m q i0 c) (by simp)
  have gI := kk.head
  obtain ⟨IB, hIB⟩ : ∃ z, w.heap.size + 1 = z := ⟨_, rfl⟩
  rw [hIB] at gI ⊢
  rw [hPB] at gP ⊢
  have HS : ∀ V, But Nowhere w2 V → ((V.cell? ⟨IB, 0, none⟩ = some (.int .i64 W) ∧ V.cell? ⟨IB, 1, none⟩ = some (.int .i64 H) ∧ V.cell? ⟨IB, 2, none⟩ = some (.bool r) ∧ V.cell? ⟨IB, 3, none⟩ = some (.slice vo l.length vc)) ∧ V.cell? ⟨PB, 2, none⟩ = some (.int .i64 m)) := fun V bu => have gM := gI.but bu (not_nowhere _); have gQ := gP.but bu (not_nowhere _); ⟨⟨gM.at 0, gM.at 1, gM.at 2, gM.at 3⟩, gQ.at 2⟩
  clear gP gI hPB hIB
  go_loopw [7, 8] (fun o j V => ∃ k : Nat, k ≤ N ∧ j = .int .i64 k ∧ ∃ xs, Lst w2 V 44 1 o k xs ∧ Rws V o xs k M FF) (fun _ j _ => N - (intOf j).toNat)
  case atStart => exact ⟨0, Nat.zero_le _, rfl, [], Lst.start _ _ _, ⟨rfl, fun k hk => absurd hk (by omega)⟩⟩
  case round =>
    obtain ⟨k, hk, rfl, xs, LL, RW⟩ := hrel
    obtain ⟨po, pc, rfl⟩ := LL.slice
    by_cases hlt : k < N
    · have i2 : (k : Int) < (N : Int) := by omega
      have e7 : ((k : Int)).tmod a = (k : Int) % a := Int.tmod_eq_emod_of_nonneg (by omega)
      have e10 : ((k : Int)).tdiv a = (k : Int) / a := Int.tdiv_eq_ediv_of_nonneg (by omega)
      have z2 : 0 ≤ (k : Int) / a := Int.ediv_nonneg (by omega) (by omega)
      have z3 : (k : Int) / a ≤ (k : Int) := Int.ediv_le_self _ (by omega)
      have w1' : IntKind.i64.wrap ((k : Int) / a) = (k : Int) / a := by rw [wrap_i64_eq]; exact w64 _ (by omega)
      have hAn : ¬ a = 0 := by omega
      replace HMC : Hid (∀ (V : World) g, But Nowhere w V → Cells V g 51 (nums (sidesC m)) → Calls Tryd.prog 25 #[imV W H r (.slice vo l.length vc), .slice (some ⟨g, 0, none⟩) (partsN m) (partsN m), .int .i64 ((k : Int) % a), .int .i64 ((k : Int) / a)] V fun e w' => ∃ v', e = .returned v' ∧ Lst V w' 46 64 v' M (tab .i64 (M * 64) (FF k))) := fun V g hb hs => HMC.out V g hb hs k hlt
      obtain ⟨R, hR⟩ : ∃ R, (k : Int) % a = R := ⟨_, rfl⟩
      obtain ⟨QQ, hQQ⟩ : ∃ R, (k : Int) / a = R := ⟨_, rfl⟩
      rw [hR] at e7
      rw [hQQ] at e10 w1'
      have HX : Hid ((k : Int) % a = R ∧ (k : Int) / a = QQ) := ⟨hR, hQQ⟩
      have bu := LL.but
      clear hR hQQ z2 z3
      go_wp2_with fail
      replace bu := bu.drew
      replace LL := LL.step (But.refl Nowhere _).drew
      replace RW := RW.but (But.refl Nowhere _).drew
      refine wp_region_till (S := fun V => (V.cell? ⟨IB, 0, none⟩ = some (.int .i64 W) ∧ V.cell? ⟨IB, 1, none⟩ = some (.int .i64 H) ∧ V.cell? ⟨IB, 2, none⟩ = some (.bool r) ∧ V.cell? ⟨IB, 3, none⟩ = some (.slice vo l.length vc)) ∧ V.cell? ⟨PB, 2, none⟩ = some (.int .i64 m)) (R := fun _ => True) (k := 100) (m := 100) (by kernel_rfl) (HS _ bu) trivial ?_
      (refine Walk.take (i := 0) (oi := { dst := some 25, op := Op.move (Operand.tmp 7), type := 30, pos := "ref.go:112", after := #[], guard := none }) (v := ?_) rfl (by kernel_rfl) (by kernel_rfl) (by kernel_rfl) (by kernel_rfl) (fun _ _ _ h => h) (Or.inl ⟨by rfl, ?_⟩) ?_; rotate_left; (intro w hw; clear hw; (try go_split_ands); go_simp; try (with_reducible rfl)); simp only [Act.put, List.setIfInBounds_toArray, List.set_cons_zero, List.set_cons_succ])
      (refine Walk.take (i := 1) (oi := { dst := some 26, op := Op.load 26 (Operand.tmp 3), type := 26, pos := "ref.go:112", after := #[], guard := none }) (v := ?_) rfl (by kernel_rfl) (by kernel_rfl) (by kernel_rfl) (by kernel_rfl) (fun _ _ _ h => h) (Or.inl ⟨by rfl, ?_⟩) ?_; rotate_left; (intro w hw; have hS1 := hw.1 (by kernel_rfl); clear hw; (try dsimp only at hS1); (try go_split_ands); go_simp; try (with_reducible rfl)); simp only [Act.put, List.setIfInBounds_toArray, List.set_cons_zero, List.set_cons_succ])
      (refine Walk.take (i := 2) (oi := { dst := some 27, op := Op.fieldAddr 23 (Operand.tmp 2) 2, type := 0, pos := "ref.go:112", after := #[], guard := none }) (v := ?_) rfl (by kernel_rfl) (by kernel_rfl) (by kernel_rfl) (by kernel_rfl) (fun _ _ _ h => h) (Or.inl ⟨by rfl, ?_⟩) ?_; rotate_left; (intro w hw; clear hw; (try go_split_ands); go_simp; try (with_reducible rfl)); simp only [Act.put, List.setIfInBounds_toArray, List.set_cons_zero, List.set_cons_succ])
      (refine Walk.take (i := 3) (oi := { dst := some 28, op := Op.load 3 (Operand.tmp 27), type := 3, pos := "ref.go:112", after := #[{ on := 2, ground := Ground.data }], guard := none }) (v := ?_) rfl (by kernel_rfl) (by kernel_rfl) (by kernel_rfl) (by kernel_rfl) (fun _ _ _ h => h) (Or.inl ⟨by rfl, ?_⟩) ?_; rotate_left; (intro w hw; have hS1 := hw.1 (by kernel_rfl); clear hw; (try dsimp only at hS1); (try go_split_ands); go_simp; try (with_reducible rfl)); simp only [Act.put, List.setIfInBounds_toArray, List.set_cons_zero, List.set_cons_succ])
      (refine Walk.take (i := 5) (oi := { dst := some 30, op := Op.move (Operand.tmp 8), type := 3, pos := "ref.go:112", after := #[], guard := none }) (v := ?_) rfl (by kernel_rfl) (by kernel_rfl) (by kernel_rfl) (by kernel_rfl) (fun _ _ _ h => h) (Or.inl ⟨by rfl, ?_⟩) ?_; rotate_left; (intro w hw; clear hw; (try go_split_ands); go_simp; try (with_reducible rfl)); simp only [Act.put, List.setIfInBounds_toArray, List.set_cons_zero, List.set_cons_succ])
      (refine Walk.take (i := 6) (oi := { dst := some 31, op := Op.move (Operand.tmp 5), type := 3, pos := "ref.go:112", after := #[], guard := none }) (v := ?_) rfl (by kernel_rfl) (by kernel_rfl) (by kernel_rfl) (by kernel_rfl) (fun _ _ _ h => h) (Or.inl ⟨by rfl, ?_⟩) ?_; rotate_left; (intro w hw; clear hw; (try go_split_ands); go_simp; try (with_reducible rfl)); simp only [Act.put, List.setIfInBounds_toArray, List.set_cons_zero, List.set_cons_succ])
      (refine Walk.take (i := 7) (oi := { dst := some 32, op := Op.binOp BinOp.rem 3 (Operand.tmp 30) (Operand.tmp 31) 3, type := 3, pos := "ref.go:112", after := #[{ on := 5, ground := Ground.data }, { on := 6, ground := Ground.data }], guard := none }) (v := ?_) rfl (by kernel_rfl) (by kernel_rfl) (by kernel_rfl) (by kernel_rfl) (fun _ _ _ h => h) (Or.inl ⟨by rfl, ?_⟩) ?_; rotate_left; (intro w hw; clear hw; (try go_split_ands); go_simp; try (with_reducible rfl)); simp only [Act.put, List.setIfInBounds_toArray, List.set_cons_zero, List.set_cons_succ])
      (refine Walk.take (i := 8) (oi := { dst := some 33, op := Op.move (Operand.tmp 8), type := 3, pos := "ref.go:112", after := #[], guard := none }) (v := ?_) rfl (by kernel_rfl) (by kernel_rfl) (by kernel_rfl) (by kernel_rfl) (fun _ _ _ h => h) (Or.inl ⟨by rfl, ?_⟩) ?_; rotate_left; (intro w hw; clear hw; (try go_split_ands); go_simp; try (with_reducible rfl)); simp only [Act.put, List.setIfInBounds_toArray, List.set_cons_zero, List.set_cons_succ])
      (refine Walk.take (i := 9) (oi := { dst := some 34, op := Op.move (Operand.tmp 5), type := 3, pos := "ref.go:112", after := #[], guard := none }) (v := ?_) rfl (by kernel_rfl) (by kernel_rfl) (by kernel_rfl) (by kernel_rfl) (fun _ _ _ h => h) (Or.inl ⟨by rfl, ?_⟩) ?_; rotate_left; (intro w hw; clear hw; (try go_split_ands); go_simp; try (with_reducible rfl)); simp only [Act.put, List.setIfInBounds_toArray, List.set_cons_zero, List.set_cons_succ])
      (refine Walk.take (i := 10) (oi := { dst := some 35, op := Op.binOp BinOp.quo 3 (Operand.tmp 33) (Operand.tmp 34) 3, type := 3, pos := "ref.go:112", after := #[{ on := 8, ground := Ground.data }, { on := 9, ground := Ground.data }], guard := none }) (v := ?_) rfl (by kernel_rfl) (by kernel_rfl) (by kernel_rfl) (by kernel_rfl) (fun _ _ _ h => h) (Or.inl ⟨by rfl, ?_⟩) ?_; rotate_left; (intro w hw; clear hw; (try go_split_ands); go_simp; try (with_reducible rfl)); simp only [Act.put, List.setIfInBounds_toArray, List.set_cons_zero, List.set_cons_succ])
      (refine Walk.go (i := 4) (o := { dst := some 29, op := Op.call { callee := Callee.value (Operand.func 26), args := #[Operand.tmp 28], argTypes := #[3] }, type := 49, pos := "ref.go:112", after := #[{ on := 3, ground := Ground.data }], guard := none }) (by kernel_rfl) rfl (fun K hK => ?_); go_simp; ((go_at_call 26; refine (refSides_some m f.m _).mono ?_; rintro e x1 ⟨rfl, ks, -⟩; have gS := ks.head; have d := ks.but; replace bu := bu.trans d; replace LL := LL.step d; replace RW := RW.but d; clear d ks)); refine hK.out _ _ (⟨fun _ => HS _ bu, fun _ => trivial⟩) ?_; clear hK K; try simp only [Act.put, List.setIfInBounds_toArray, List.set_cons_zero, List.set_cons_succ])
      (refine Walk.go (i := 11) (o := { dst := some 36, op := Op.call { callee := Callee.value (Operand.func 25), args := #[Operand.tmp 26, Operand.tmp 29, Operand.tmp 32, Operand.tmp 35], argTypes := #[26, 49, 3, 3] }, type := 44, pos := "ref.go:112", after := #[{ on := 1, ground := Ground.data }, { on := 4, ground := Ground.data }, { on := 7, ground := Ground.data }, { on := 10, ground := Ground.data }, { on := 4, ground := Ground.chain }], guard := none }) (by kernel_rfl) rfl (fun K hK => ?_); go_simp; ((go_at_call 25; rw [← HX.out.1, ← HX.out.2]; refine (HMC.out _ _ (kk.but.trans bu) gS).mono ?_; rintro e x2 ⟨vr, rfl, LR⟩; have nr : ∀ x, (Value.slice po k pc).ownBlock = some x → x < _ := fun x hx => LL.lt hx; obtain ⟨gr, cr, rfl, gr1, gr2, gr3, gr4, gr5⟩ := LR.at hM0; have hne : (Value.slice po k pc).ownBlock ≠ some gr := fun e => absurd (nr gr e) (by omega); clear nr; have d := LR.but; replace bu := bu.trans d; replace LL := LL.step d; replace RW := RW.but d; clear d LR gS gr2 gr3 gr5)); refine hK.out _ _ (⟨fun _ => HS _ bu, fun _ => trivial⟩) ?_; clear hK K; try simp only [Act.put, List.setIfInBounds_toArray, List.set_cons_zero, List.set_cons_succ])
      (refine Walk.go (i := 12) (o := { dst := some 37, op := Op.buildSlice 30 1 #[(0, Operand.tmp 36)], type := 30, pos := "ref.go:112", after := #[{ on := 11, ground := Ground.data }], guard := none }) (by kernel_rfl) rfl (fun K hK => ?_); obtain ⟨g4, cap4, W4, hrun, L4, b4, hg4⟩ := Lst.push Tryd.elemBlocks LL [.slice (some ⟨gr, 0, none⟩) M cr] rfl (by simp [Value.oneCell']) (by omega) (by omega) _ rfl; refine wp_build_one Tryd.elemBlocks (.tmp 36) rfl (.slice (some ⟨gr, 0, none⟩) M cr) rfl [.slice (some ⟨gr, 0, none⟩) M cr] rfl rfl (by omega) _ rfl ?_; refine hK.out _ _ ⟨fun _ => HS _ (bu.alloc _), fun _ => trivial⟩ ?_; clear hK K; simp only [Act.put, List.setIfInBounds_toArray, List.set_cons_zero, List.set_cons_succ])
      (refine Walk.go (i := 13) (o := { dst := some 38, op := Op.call { callee := Callee.builtin Builtin.append, args := #[Operand.tmp 25, Operand.tmp 37], argTypes := #[30, 30] }, type := 30, pos := "ref.go:112", after := #[{ on := 0, ground := Ground.data }, { on := 12, ground := Ground.data }, { on := 11, ground := Ground.chain }], guard := none }) (by kernel_rfl) rfl (fun K hK => ?_); refine wp_append_run (.tmp 25) (.tmp 37) 30 rfl _ _ rfl rfl _ W4 hrun ?_; refine hK.out _ _ ⟨fun _ => HS _ L4.but, fun _ => trivial⟩ ?_; clear hK K; simp only [Act.put, List.setIfInBounds_toArray, List.set_cons_zero, List.set_cons_succ])
      (refine Walk.take (i := 14) (oi := { dst := some 7, op := Op.assign (Operand.tmp 38), type := 30, pos := "ref.go:112", after := #[{ on := 13, ground := Ground.data }, { on := 13, ground := Ground.chain }, { on := 0, ground := Ground.phase }, { on := 1, ground := Ground.phase }, { on := 2, ground := Ground.phase }, { on := 3, ground := Ground.phase }, { on := 4, ground := Ground.phase }, { on := 5, ground := Ground.phase }, { on := 6, ground := Ground.phase }, { on := 7, ground := Ground.phase }, { on := 8, ground := Ground.phase }, { on := 9, ground := Ground.phase }, { on := 10, ground := Ground.phase }, { on := 11, ground := Ground.phase }, { on := 12, ground := Ground.phase }, { on := 13, ground := Ground.phase }], guard := none }) (v := ?_) rfl (by kernel_rfl) (by kernel_rfl) (by kernel_rfl) (by kernel_rfl) (fun _ _ _ h => h) (Or.inl ⟨by rfl, ?_⟩) ?_; rotate_left; (intro w hw; clear hw; (try go_split_ands); go_simp; try (with_reducible rfl)); simp only [Act.put, List.setIfInBounds_toArray, List.set_cons_zero, List.set_cons_succ])
      refine Walk.done (by kernel_rfl) ?_ _
      have RW4 := RW.push (o' := .slice (some ⟨g4, 0, none⟩) (k + 1) cap4) gr cr gr1 hne (fun j hj => gr4 j _ (tab_at _ _ _ _ hj)) b4 g4 rfl hg4
      clear e7 e10 w1' hrun b4 hg4 RW
      go_wp2_with fail
      go_roundw
      case rel => exact ⟨k + 1, by omega, by go_num, _, L4, RW4⟩
      case measure => simp [intOf]; omega
    · obtain rfl : k = N := by omega
      have HF : Hid _ := And.intro (RW.bv LL) (kk.but.trans LL.but)
      clear HS kk LL RW
      go_wp2_with fail
      go_ret
      exact ⟨⟨_, rfl, HF.out.1⟩, HF.out.2⟩

set_option maxHeartbeats 1600000 in
set_option maxRecDepth 100000 in
theorem refSplit_not (W H m q i0 c W' H' : Int) (r' : Bool) (vo : Option Addr) (n vc : Nat) (w : World) (HFT : ∀ V, Calls Tryd.prog 23 #[pV W H m q i0 c, imV W' H' r' (.slice vo n vc)] V fun e w' => e = .returned (.bool false) ∧ But Nowhere V w') :
    Calls Tryd.prog 12 #[pV W H m q i0 c, imV W' H' r' (.slice vo n vc)] w fun e w' => e = .returned (.slice none 0 0) ∧ But Nowhere w w' := by
  have kk := ((Keep.start w).made 23 (pC W H m q i0 c)).made 26 (imC W' H' r' (.slice vo n vc))
  simp only [World.size_alloc] at kk
  go_enter Tryd.func12, Tryd.ntmps12
  go_wp2_with fail
  refine (HFT _).mono ?_
  rintro e w1 ⟨rfl, b1⟩
  replace kk := kk.step b1
  clear b1 HFT
  go_wp2_with fail
  go_ret
  exact ⟨rfl, kk.but⟩

end Go.Proofs.YtppbnmlgilgnnaaDoor

/- Split, the program's and the document's, of any public numbers and any image. -/
namespace Go.Proofs.YtppbnmlgilgnnaaDoor
open Go.ChangeShapes Go.WideShapes Go.ChangeAt Go.RowKit

theorem split_both (W H m q i c W' H' : Int) (r : Bool) (vo : Option Addr) (vc : Nat) (l : List Int) (hx : ∀ x ∈ l, 0 ≤ x ∧ x ≤ 255) : ∃ N M F, N ≤ 100000000 ∧ M ≤ 6 ∧
    (∀ V, Tab V → View V .u8 (.slice vo l.length vc) l → Calls Tryd.prog 14 #[pV W H m q i c, imV W' H' r (.slice vo l.length vc)] V fun e w' => (∃ v', e = .returned v' ∧ BV w' v' N M F) ∧ But Nowhere V w') ∧
    (∀ V, View V .u8 (.slice vo l.length vc) l → Calls Tryd.prog 12 #[pV W H m q i c, imV W' H' r (.slice vo l.length vc)] V fun e w' => (∃ v', e = .returned v' ∧ BV w' v' N M F) ∧ But Nowhere V w') := by
  by_cases f : Fit W H m
  · by_cases h : W' ≠ W ∨ H' ≠ H ∨ r ≠ (m != 1) ∨ (l.length : Int) ≠ W * H * partsN m
    · refine ⟨0, 0, fun _ _ => 0, by omega, by omega, fun V _ _ => ?_, fun V _ => ?_⟩
      · refine (planeSplit_not W H m q i c f W' H' r vo l.length vc h V).mono ?_
        rintro e w' ⟨rfl, b⟩
        exact ⟨⟨_, rfl, BV.empty _ _ _⟩, b⟩
      · refine (refSplit_not W H m q i c W' H' r vo l.length vc V (refFits_not W H m q i c f W' H' r vo l.length vc h)).mono ?_
        rintro e w' ⟨rfl, b⟩
        exact ⟨⟨_, rfl, BV.empty _ _ _⟩, b⟩
    · have h1 : W' = W := Classical.byContradiction fun e => h (Or.inl e)
      have h2 : H' = H := Classical.byContradiction fun e => h (Or.inr (Or.inl e))
      have h3 : r = (m != 1) := Classical.byContradiction fun e => h (Or.inr (Or.inr (Or.inl e)))
      have h4 : (l.length : Int) = W * H * partsN m := Classical.byContradiction fun e => h (Or.inr (Or.inr (Or.inr e)))
      subst h1 h2
      obtain ⟨-, -, g3, g4, g5, g6⟩ := f.grid
      have hN : gridW W' H' m * gridH W' H' m ≤ 8192 * 8192 := Int.mul_le_mul g4 g6 (by omega) (by omega)
      refine ⟨(gridW W' H' m * gridH W' H' m).toNat, (unitL m).length, splitF W' H' m l, by omega, (unit_pos m).2, fun V hT hv => ?_, fun V hv => ?_⟩
      · refine (planeSplit_fit W' H' m q i c f _ l V hT hv h4 hx r h3).mono ?_
        rintro e w' ⟨⟨v', go, G, rfl, hB, -, -⟩, b⟩
        exact ⟨⟨_, rfl, hB.bv⟩, b⟩
      · exact refSplit_fit W' H' m q i c f _ l V hv h4 hx r h3
  · refine ⟨0, 0, fun _ _ => 0, by omega, by omega, fun V _ _ => ?_, fun V _ => ?_⟩
    · refine (planeSplit_none W H m q i c f W' H' r vo l.length vc V).mono ?_
      rintro e w' ⟨rfl, b⟩
      exact ⟨⟨_, rfl, BV.empty _ _ _⟩, b⟩
    · refine (refSplit_not W H m q i c W' H' r vo l.length vc V (refFits_none W H m q i c f W' H' r vo l.length vc)).mono ?_
      rintro e w' ⟨rfl, b⟩
      exact ⟨⟨_, rfl, BV.empty _ _ _⟩, b⟩

end Go.Proofs.YtppbnmlgilgnnaaDoor
