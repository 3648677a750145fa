/- The document's Sides, Side and Grid; the chapter's example; Sides of both alike. -/
import Derived.Test.YtppbnmlgilgnnaaDoorPl1
namespace Go.Proofs.YtppbnmlgilgnnaaDoor
open Go.ChangeShapes Go.WideShapes Go.ChangeAt Go.RowKit

theorem all_range_nums : ∀ (xs ys : List Int), xs.length = ys.length → ((List.range xs.length).all fun i => xs.getD i 0 == ys.getD i 0) = (xs == ys)
  | [], [], _ => rfl
  | x :: xs, y :: ys, h => by
    have ih := all_range_nums xs ys (by simpa using h)
    rw [List.length_cons, List.range_succ_eq_map, List.all_cons, List.all_map]
    simp only [List.getD_cons_zero, Function.comp_def, List.getD_cons_succ, ih]
    simp [List.cons_beq_cons]
  | [], _ :: _, h => by simp at h
  | _ :: _, [], h => by simp at h

/-- Two arrays of numbers are the same, if their numbers are. -/
theorem run_equalIn_nums {P : Program} (w : World) (d : Nat) (t e : TypeId) (n : Nat) (ht : P.underlying t = some (.array n e)) (he : P.underlying e = some (.int .i64)) (hsz : ∀ w, (sizeOf e).run P w = .ok 1 w)
    (xs ys : List Int) (hx : xs.length = n) (hy : ys.length = n) :
    (Op.equalIn (d + 2) t (.agg (nums xs).toArray) (.agg (nums ys).toArray)).run P w = .ok (xs == ys) w := by
  rw [← all_range_nums xs ys (hx.trans hy.symm), hx, List.range_eq_range', Op.equalIn]
  simp only [Sem.run_bind, run_underlying ht, Result.andThen_ok, hsz, Std.Legacy.Range.forIn_eq_forIn_range', Std.Legacy.Range.size, Nat.sub_zero, Nat.add_sub_cancel, Nat.div_one]
  have hl : ∀ i ∈ List.range' 0 n 1, i < n := fun i hi => by simpa using (List.mem_range'_1.1 hi).2
  generalize List.range' 0 n 1 = l at hl ⊢
  induction l with
  | nil => simp
  | cons i l ih =>
    have hi : i < n := hl i (by simp)
    have px : (part e (nums xs).toArray (i * 1)).run P w = .ok (.int .i64 (xs.getD i 0)) w := by
      simp [part, isAgg, run_underlying he, List.getD, nums, List.getElem?_eq_getElem (show i < xs.length by omega)]
    have py : (part e (nums ys).toArray (i * 1)).run P w = .ok (.int .i64 (ys.getD i 0)) w := by
      simp [part, isAgg, run_underlying he, List.getD, nums, List.getElem?_eq_getElem (show i < ys.length by omega)]
    have pe : (Op.equalIn (d + 1) e (.int .i64 (xs.getD i 0)) (.int .i64 (ys.getD i 0))).run P w = .ok (xs.getD i 0 == ys.getD i 0) w := run_equalIn_int w d e .i64 .i64 _ _ he
    simp only [List.forIn_cons, Sem.run_bind, px, py, pe, Result.andThen_ok, List.all_cons]
    cases hb : (xs.getD i 0 == ys.getD i 0)
    · simp
    · simp only [Bool.not_true, Bool.false_eq_true, if_false, Sem.run_pure, Result.andThen_ok, Bool.true_and]
      exact ih fun j hj => hl j (by simp [hj])

theorem sizeOf_int (w : World) : (sizeOf 3).run Tryd.prog w = .ok 1 w := by
  have h : (Tryd.prog.info? 3).isSome = true := by kernel_rfl
  obtain ⟨i, hi⟩ := Option.isSome_iff_exists.1 h
  have hc : Tryd.prog.cellsOf 3 = 1 := by kernel_rfl
  rw [run_sizeOf w hi, hc]

set_option maxRecDepth 100000 in
theorem equal_pair (x y : Int) (w : World) : (Op.equalIn 10000 51 (.agg #[.int .i64 x, .int .i64 y]) (.agg #[.int .i64 x, .int .i64 y])).run Tryd.prog w = .ok true w := by
  have h := run_equalIn_nums w 9998 51 3 2 Tryd.underlying51 Tryd.underlying3 sizeOf_int [x, y] [x, y] rfl rfl
  rw [beq_self_eq_true] at h
  exact h

set_option maxHeartbeats 1600000 in
theorem refSides_some (m : Int) (hm : 1 ≤ m ∧ m ≤ 4) (w : World) : Calls Tryd.prog 26 #[.int .i64 m] w fun e w' =>
    e = .returned (.slice (some ⟨w.heap.size, 0, none⟩) (partsN m) (partsN m)) ∧ Keep w w' [(w.heap.size, 51, nums (sidesC m))] ∧ w'.heap.size = w.heap.size + 1 := by
  rcases mode_cases hm with rfl | rfl | rfl | rfl <;>
  · go_enter Tryd.func26, Tryd.ntmps26
    go_wp2
    go_ret
    exact ⟨rfl, (Keep.start w).made 51 _, by simp⟩

set_option maxHeartbeats 400000 in
theorem refSides_none (m : Int) (hm : m < 1 ∨ 4 < m) (w : World) : Calls Tryd.prog 26 #[.int .i64 m] w fun e w' => e = .returned (.slice none 0 0) ∧ w' = w := by
  have h1 : (m == 1) = false := by simp; omega
  have h2 : (m == 2) = false := by simp; omega
  have h3 : (m == 3) = false := by simp; omega
  have h4 : (m == 4) = false := by simp; omega
  go_enter Tryd.func26, Tryd.ntmps26
  go_wp2
  go_ret
  exact ⟨rfl, rfl⟩

set_option maxHeartbeats 1600000 in
theorem refSide_any (m : Int) (w : World) : Calls Tryd.prog 44 #[.int .i64 m] w fun e w' => e = .returned (two (sideW m) (sideH m)) ∧ But Nowhere w w' := by
  by_cases hm : 1 ≤ m ∧ m ≤ 4
  · rcases mode_cases hm with rfl | rfl | rfl | rfl <;>
    · go_enter Tryd.func44, Tryd.ntmps44
      go_wp2_with fail
      refine (refSides_some _ (by omega) _).mono ?_
      rintro e w1 ⟨rfl, kk, -⟩
      have hp1 : partsN 1 = 1 := rfl
      have hp2 : partsN 2 = 3 := rfl
      have hp3 : partsN 3 = 3 := rfl
      have hp4 : partsN 4 = 3 := rfl
      have c0 := kk.head.at 0
      have c1 := kk.head.at 1
      simp [nums, sidesC] at c0 c1
      go_wp2_with fail
      go_quiet (fail)
      go_wp2_with fail
      go_ret2
      exact ⟨rfl, kk.but.drewN _⟩
  · obtain ⟨h1, h2⟩ := side_none m (by omega)
    rw [h1, h2]
    go_enter Tryd.func44, Tryd.ntmps44
    go_wp2_with fail
    refine (refSides_none _ (by omega) _).mono ?_
    rintro e w1 ⟨rfl, rfl⟩
    go_wp2_with fail
    go_ret2
    exact ⟨rfl, But.refl _ _⟩

theorem grid_out (W H m : Int) (h : sideW m = 0 ∨ W < 1 ∨ 65535 < W ∨ H < 1 ∨ 65535 < H) : gridW W H m = 0 ∧ gridH W H m = 0 := by
  unfold gridW gridH
  split
  · rename_i hs
    rw [Bool.and_eq_true] at hs
    have h1 := isSide_in hs.1
    have h2 := isSide_in hs.2
    have h3 : sideW m = 0 := by omega
    have h4 : sideH m = 0 := by
      unfold sideW at h3; unfold sideH
      (repeat' split) <;> first | rfl | (exfalso; simp_all)
    rw [h3, h4]
    constructor <;> (unfold ceilF; rw [if_pos (by omega)])
  · exact ⟨rfl, rfl⟩

theorem side_pos (m : Int) (h : sideW m ≠ 0) : (m = 1 ∨ m = 2 ∨ m = 3 ∨ m = 4) ∧ 8 ≤ sideW m ∧ 8 ≤ sideH m := by
  by_cases hm : 1 ≤ m ∧ m ≤ 4
  · refine ⟨mode_cases hm, ?_⟩
    rcases mode_cases hm with rfl | rfl | rfl | rfl <;> simp [sideW, sideH]
  · exact absurd (side_none m (by omega)).1 h

set_option maxHeartbeats 3200000 in
theorem refGrid_any (W H m q i c : Int) (w : World) : Calls Tryd.prog 24 #[pV W H m q i c] w fun e w' => e = .returned (two (gridW W H m) (gridH W H m)) ∧ But Nowhere w w' := by
  have kk := (Keep.start w).made 23 (pC W H m q i c)
  by_cases ho : sideW m = 0 ∨ W < 1 ∨ 65535 < W ∨ H < 1 ∨ 65535 < H
  · obtain ⟨g1, g2⟩ := grid_out W H m ho
    rw [g1, g2]
    go_enter Tryd.func24, Tryd.ntmps24
    go_wp2_with fail
    refine (refSide_any _ _).mono ?_
    rintro e w1 ⟨rfl, hb⟩
    replace kk := kk.step hb
    have c0 := kk.head.at 0
    have c1 := kk.head.at 1
    simp only [List.getElem?_cons_zero, List.getElem?_cons_succ] at c0 c1
    clear hb g1 g2
    obtain ⟨s, hs⟩ : ∃ s, sideW m = s := ⟨_, rfl⟩
    obtain ⟨t, ht⟩ : ∃ s, sideH m = s := ⟨_, rfl⟩
    rw [hs, ht]
    rw [hs] at ho
    clear hs ht
    by_cases h0 : s = 0
    · subst h0
      go_wp2_with fail
      go_ret2
      exact ⟨rfl, kk.but⟩
    by_cases h1 : W < 1
    · go_wp2_with fail
      go_ret2
      exact ⟨rfl, kk.but⟩
    by_cases h2 : 65535 < W
    · go_wp2_with fail
      go_ret2
      exact ⟨rfl, kk.but⟩
    by_cases h3 : H < 1
    · go_wp2_with fail
      go_ret2
      exact ⟨rfl, kk.but⟩
    have h4 : 65535 < H := by omega
    go_wp2_with fail
    go_ret2
    exact ⟨rfl, kk.but⟩
  · have h0 : sideW m ≠ 0 := by omega
    have s0 := side_in m
    have s1 := (side_pos m h0).2
    have hW : isSideB W = true := by simp [isSideB]; omega
    have hH : isSideB H = true := by simp [isSideB]; omega
    unfold gridW gridH
    rw [hW, hH]
    simp only [Bool.and_self, if_true]
    obtain ⟨s, hs⟩ : ∃ s, sideW m = s := ⟨_, rfl⟩
    obtain ⟨t, ht⟩ : ∃ s, sideH m = s := ⟨_, rfl⟩
    rw [hs] at h0
    rw [hs, ht] at s0 s1
    rw [hs, ht]
    go_enter Tryd.func24, Tryd.ntmps24
    go_wp2_with fail
    refine (refSide_any _ _).mono ?_
    rintro e w1 ⟨rfl, hb⟩
    rw [hs, ht]
    replace kk := kk.step hb
    have c0 := kk.head.at 0
    have c1 := kk.head.at 1
    simp only [List.getElem?_cons_zero, List.getElem?_cons_succ] at c0 c1
    clear hb hs ht hW hH
    have q0 : (s == 0) = false := by simpa using h0
    have q1 : 1 ≤ W := by omega
    have q2 : W ≤ 65535 := by omega
    have q3 : 1 ≤ H := by omega
    have q4 : H ≤ 65535 := by omega
    clear ho
    go_wp2_with fail
    go_quiet ((go_at_call 45; exact Calls.quiet_of_same (refCeil_any _ _ _ (by omega) (by omega) (by omega) (by omega))))
    go_wp2_with fail
    go_ret2
    exact ⟨rfl, kk.but.drewN _⟩

set_option maxHeartbeats 1600000 in
theorem known_any (w : World) : Calls Tryd.prog 9 #[] w fun e w' => e = .returned (.bool true) ∧ But Nowhere w w' := by
  have e1 : gridW 17 9 4 = 2 := by decide
  have e2 : gridH 17 9 4 = 1 := by decide
  have e3 : sideW 3 = 16 := rfl
  have e4 : sideH 3 = 8 := rfl
  go_enter Tryd.func9, Tryd.ntmps9
  go_wp2_with fail
  refine (grid_any _ _ _ _ _ _ _).mono ?_
  rintro e w1 ⟨rfl, b1⟩
  rw [e1, e2]
  go_wp2_with fail
  refine (side_any _ _).mono ?_
  rintro e w2 ⟨rfl, b2⟩
  rw [e3, e4]
  go_wp2_with (go_at_call 22; refine (sides_none _ (by omega) _).mono ?_; rintro e w3 ⟨rfl, rfl⟩)
  go_ret
  exact ⟨rfl, b1.trans b2⟩

end Go.Proofs.YtppbnmlgilgnnaaDoor
