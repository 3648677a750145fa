/- The document's Sides, Side and Grid; the chapter's example; Sides of both alike. -/
import Derived.Test.YtppbnmlgilgnnaaPl1
namespace Go.Proofs.Ytppbnmlgilgnnaa
open Go.ChangeShapes Go.WideShapes Go.ChangeAt Go.RowKit

theorem all_range_nums : ∀ (xs ys : List Int), xs.length = ys.length → ((List.range xs.length).all fun i => xs.getD i 0 == ys.getD i 0) = (xs == ys)
  | [], [], _ => rfl
  | x :: xs, y :: ys, h => by
    have ih := all_range_nums xs ys (by simpa using h)
    rw [List.length_cons, List.range_succ_eq_map, List.all_cons, List.all_map]
    simp only [List.getD_cons_zero, Function.comp_def, List.getD_cons_succ, ih]
    simp [List.cons_beq_cons]
  | [], _ :: _, h => by simp at h
  | _ :: _, [], h => by simp at h

/-- Two arrays of numbers are the same, if their numbers are. -/
theorem run_equalIn_nums {P : Program} (w : World) (d : Nat) (t e : TypeId) (n : Nat) (ht : P.underlying t = some (.array n e)) (he : P.underlying e = some (.int .i64)) (hsz : ∀ w, (sizeOf e).run P w = .ok 1 w)
    (xs ys : List Int) (hx : xs.length = n) (hy : ys.length = n) :
    (Op.equalIn (d + 2) t (.agg (nums xs).toArray) (.agg (nums ys).toArray)).run P w = .ok (xs == ys) w := by
  rw [← all_range_nums xs ys (hx.trans hy.symm), hx, List.range_eq_range', Op.equalIn]
  simp only [Sem.run_bind, run_underlying ht, Result.andThen_ok, hsz, Std.Legacy.Range.forIn_eq_forIn_range', Std.Legacy.Range.size, Nat.sub_zero, Nat.add_sub_cancel, Nat.div_one]
  have hl : ∀ i ∈ List.range' 0 n 1, i < n := fun i hi => by simpa using (List.mem_range'_1.1 hi).2
  generalize List.range' 0 n 1 = l at hl ⊢
  induction l with
  | nil => simp
  | cons i l ih =>
    have hi : i < n := hl i (by simp)
    have px : (part e (nums xs).toArray (i * 1)).run P w = .ok (.int .i64 (xs.getD i 0)) w := by
      simp [part, isAgg, run_underlying he, List.getD, nums, List.getElem?_eq_getElem (show i < xs.length by omega)]
    have py : (part e (nums ys).toArray (i * 1)).run P w = .ok (.int .i64 (ys.getD i 0)) w := by
      simp [part, isAgg, run_underlying he, List.getD, nums, List.getElem?_eq_getElem (show i < ys.length by omega)]
    have pe : (Op.equalIn (d + 1) e (.int .i64 (xs.getD i 0)) (.int .i64 (ys.getD i 0))).run P w = .ok (xs.getD i 0 == ys.getD i 0) w := run_equalIn_int w d e .i64 .i64 _ _ he
    simp only [List.forIn_cons, Sem.run_bind, px, py, pe, Result.andThen_ok, List.all_cons]
    cases hb : (xs.getD i 0 == ys.getD i 0)
    · simp
    · simp only [Bool.not_true, Bool.false_eq_true, if_false, Sem.run_pure, Result.andThen_ok, Bool.true_and]
      exact ih fun j hj => hl j (by simp [hj])

theorem sizeOf_int (w : World) : (sizeOf 3).run Try.prog w = .ok 1 w := by
  have h : (Try.prog.info? 3).isSome = true := by kernel_rfl
  obtain ⟨i, hi⟩ := Option.isSome_iff_exists.1 h
  have hc : Try.prog.cellsOf 3 = 1 := by kernel_rfl
  rw [run_sizeOf w hi, hc]

set_option maxRecDepth 100000 in
theorem equal_pair (x y : Int) (w : World) : (Op.equalIn 10000 49 (.agg #[.int .i64 x, .int .i64 y]) (.agg #[.int .i64 x, .int .i64 y])).run Try.prog w = .ok true w := by
  have h := run_equalIn_nums w 9998 49 3 2 Try.underlying49 Try.underlying3 sizeOf_int [x, y] [x, y] rfl rfl
  rw [beq_self_eq_true] at h
  exact h

set_option maxHeartbeats 1600000 in
theorem refSides_some (m : Int) (hm : 1 ≤ m ∧ m ≤ 4) (w : World) : Calls Try.prog 23 #[.int .i64 m] w fun e w' =>
    e = .returned (.slice (some ⟨w.heap.size, 0, none⟩) (partsN m) (partsN m)) ∧ Keep w w' [(w.heap.size, 49, nums (sidesC m))] ∧ w'.heap.size = w.heap.size + 1 := by
  rcases mode_cases hm with rfl | rfl | rfl | rfl <;>
  · go_enter Try.func23, Try.ntmps23
    go_wp2
    go_ret
    exact ⟨rfl, (Keep.start w).made 49 _, by simp⟩

set_option maxHeartbeats 400000 in
theorem refSides_none (m : Int) (hm : m < 1 ∨ 4 < m) (w : World) : Calls Try.prog 23 #[.int .i64 m] w fun e w' => e = .returned (.slice none 0 0) ∧ w' = w := by
  have h1 : (m == 1) = false := by simp; omega
  have h2 : (m == 2) = false := by simp; omega
  have h3 : (m == 3) = false := by simp; omega
  have h4 : (m == 4) = false := by simp; omega
  go_enter Try.func23, Try.ntmps23
  go_wp2
  go_ret
  exact ⟨rfl, rfl⟩

set_option maxHeartbeats 1600000 in
theorem refSide_any (m : Int) (w : World) : Calls Try.prog 20 #[.int .i64 m] w fun e w' => e = .returned (two (sideW m) (sideH m)) ∧ But Nowhere w w' := by
  by_cases hm : 1 ≤ m ∧ m ≤ 4
  · rcases mode_cases hm with rfl | rfl | rfl | rfl <;>
    · go_enter Try.func20, Try.ntmps20
      go_wp2_with fail
      refine (refSides_some _ (by omega) _).mono ?_
      rintro e w1 ⟨rfl, kk, -⟩
      have hp1 : partsN 1 = 1 := rfl
      have hp2 : partsN 2 = 3 := rfl
      have hp3 : partsN 3 = 3 := rfl
      have hp4 : partsN 4 = 3 := rfl
      have c0 := kk.head.at 0
      have c1 := kk.head.at 1
      simp [nums, sidesC] at c0 c1
      go_wp2_with fail
      go_quiet (fail)
      go_wp2_with fail
      go_ret2
      exact ⟨rfl, kk.but.drewN _⟩
  · obtain ⟨h1, h2⟩ := side_none m (by omega)
    rw [h1, h2]
    go_enter Try.func20, Try.ntmps20
    go_wp2_with fail
    refine (refSides_none _ (by omega) _).mono ?_
    rintro e w1 ⟨rfl, rfl⟩
    go_wp2_with fail
    go_ret2
    exact ⟨rfl, But.refl _ _⟩

theorem grid_out (W H m : Int) (h : sideW m = 0 ∨ W < 1 ∨ 65535 < W ∨ H < 1 ∨ 65535 < H) : gridW W H m = 0 ∧ gridH W H m = 0 := by
  unfold gridW gridH
  split
  · rename_i hs
    rw [Bool.and_eq_true] at hs
    have h1 := isSide_in hs.1
    have h2 := isSide_in hs.2
    have h3 : sideW m = 0 := by omega
    have h4 : sideH m = 0 := by
      unfold sideW at h3; unfold sideH
      (repeat' split) <;> first | rfl | (exfalso; simp_all)
    rw [h3, h4]
    constructor <;> (unfold ceilF; rw [if_pos (by omega)])
  · exact ⟨rfl, rfl⟩

theorem side_pos (m : Int) (h : sideW m ≠ 0) : (m = 1 ∨ m = 2 ∨ m = 3 ∨ m = 4) ∧ 8 ≤ sideW m ∧ 8 ≤ sideH m := by
  by_cases hm : 1 ≤ m ∧ m ≤ 4
  · refine ⟨mode_cases hm, ?_⟩
    rcases mode_cases hm with rfl | rfl | rfl | rfl <;> simp [sideW, sideH]
  · exact absurd (side_none m (by omega)).1 h

set_option maxHeartbeats 3200000 in
theorem refGrid_any (W H m q i c : Int) (w : World) : Calls Try.prog 6 #[pV W H m q i c] w fun e w' => e = .returned (two (gridW W H m) (gridH W H m)) ∧ But Nowhere w w' := by
  have kk := (Keep.start w).made 23 (pC W H m q i c)
  by_cases ho : sideW m = 0 ∨ W < 1 ∨ 65535 < W ∨ H < 1 ∨ 65535 < H
  · obtain ⟨g1, g2⟩ := grid_out W H m ho
    rw [g1, g2]
    go_enter Try.func6, Try.ntmps6
    go_wp2_with fail
    refine (refSide_any _ _).mono ?_
    rintro e w1 ⟨rfl, hb⟩
    replace kk := kk.step hb
    have c0 := kk.head.at 0
    have c1 := kk.head.at 1
    simp only [List.getElem?_cons_zero, List.getElem?_cons_succ] at c0 c1
    clear hb g1 g2
    obtain ⟨s, hs⟩ : ∃ s, sideW m = s := ⟨_, rfl⟩
    obtain ⟨t, ht⟩ : ∃ s, sideH m = s := ⟨_, rfl⟩
    rw [hs, ht]
    rw [hs] at ho
    clear hs ht
    by_cases h0 : s = 0
    · subst h0
      go_wp2_with fail
      go_ret2
      exact ⟨rfl, kk.but⟩
    by_cases h1 : W < 1
    · go_wp2_with fail
      go_ret2
      exact ⟨rfl, kk.but⟩
    by_cases h2 : 65535 < W
    · go_wp2_with fail
      go_ret2
      exact ⟨rfl, kk.but⟩
    by_cases h3 : H < 1
    · go_wp2_with fail
      go_ret2
      exact ⟨rfl, kk.but⟩
    have h4 : 65535 < H := by omega
    go_wp2_with fail
    go_ret2
    exact ⟨rfl, kk.but⟩
  · have h0 : sideW m ≠ 0 := by omega
    have s0 := side_in m
    have s1 := (side_pos m h0).2
    have hW : isSideB W = true := by simp [isSideB]; omega
    have hH : isSideB H = true := by simp [isSideB]; omega
    unfold gridW gridH
    rw [hW, hH]
    simp only [Bool.and_self, if_true]
    obtain ⟨s, hs⟩ : ∃ s, sideW m = s := ⟨_, rfl⟩
    obtain ⟨t, ht⟩ : ∃ s, sideH m = s := ⟨_, rfl⟩
    rw [hs] at h0
    rw [hs, ht] at s0 s1
    rw [hs, ht]
    go_enter Try.func6, Try.ntmps6
    go_wp2_with fail
    refine (refSide_any _ _).mono ?_
    rintro e w1 ⟨rfl, hb⟩
    rw [hs, ht]
    replace kk := kk.step hb
    have c0 := kk.head.at 0
    have c1 := kk.head.at 1
    simp only [List.getElem?_cons_zero, List.getElem?_cons_succ] at c0 c1
    clear hb hs ht hW hH
    have q0 : (s == 0) = false := by simpa using h0
    have q1 : 1 ≤ W := by omega
    have q2 : W ≤ 65535 := by omega
    have q3 : 1 ≤ H := by omega
    have q4 : H ≤ 65535 := by omega
    clear ho
    go_wp2_with fail
    go_quiet ((go_at_call 21; exact Calls.quiet_of_same (refCeil_any _ _ _ (by omega) (by omega) (by omega) (by omega))))
    go_wp2_with fail
    go_ret2
    exact ⟨rfl, kk.but.drewN _⟩

set_option maxHeartbeats 1600000 in
theorem known_any (w : World) : Calls Try.prog 7 #[] w fun e w' => e = .returned (.bool true) ∧ But Nowhere w w' := by
  have e1 : gridW 17 9 4 = 2 := by decide
  have e2 : gridH 17 9 4 = 1 := by decide
  have e3 : sideW 3 = 16 := rfl
  have e4 : sideH 3 = 8 := rfl
  go_enter Try.func7, Try.ntmps7
  go_wp2_with fail
  refine (grid_any _ _ _ _ _ _ _).mono ?_
  rintro e w1 ⟨rfl, b1⟩
  rw [e1, e2]
  go_wp2_with fail
  refine (side_any _ _).mono ?_
  rintro e w2 ⟨rfl, b2⟩
  rw [e3, e4]
  go_wp2_with (go_at_call 22; refine (sides_none _ (by omega) _).mono ?_; rintro e w3 ⟨rfl, rfl⟩)
  go_ret
  exact ⟨rfl, b1.trans b2⟩

set_option maxHeartbeats 3200000 in
theorem lawSides_any (m : Int) (w : World) : Calls Try.prog 8 #[.int .i64 m] w fun e w' => e = .returned (.bool true) ∧ But Nowhere w w' := by
  obtain ⟨s, hs⟩ : ∃ s, sideW m = s := ⟨_, rfl⟩
  obtain ⟨t, ht⟩ : ∃ s, sideH m = s := ⟨_, rfl⟩
  go_enter Try.func8, Try.ntmps8
  go_wp2_with fail
  refine (side_any _ _).mono ?_
  rintro e w1 ⟨rfl, b1⟩
  rw [hs, ht]
  go_wp2_with fail
  refine (refSide_any _ _).mono ?_
  rintro e w2 ⟨rfl, b2⟩
  rw [hs, ht]
  replace b2 := b1.trans b2
  clear b1 hs ht
  go_wp2_with fail
  by_cases hm : 1 ≤ m ∧ m ≤ 4
  · refine (sides_some _ hm _).mono ?_
    rintro e w3 ⟨rfl, k3, z3⟩
    have hk := k3.head
    have g3 : w2.heap.size < w3.heap.size := hk.lt
    go_wp2_with fail
    refine (refSides_some _ hm _).mono ?_
    rintro e w4 ⟨rfl, k4, -⟩
    have A := k4.head
    have B := hk.but k4.but (not_nowhere _)
    have b4 := b2.trans (k3.but.trans k4.but)
    clear k3 k4 z3 hk g3 b2
    have hg : Try.prog.eqGuardType Try.prog.depth 49 = false := by kernel_rfl
    have HB : Hid (But Nowhere w w4) := b4
    clear b4
    obtain ⟨n, hn, hl, hn3⟩ : ∃ n, partsN m = n ∧ (sidesC m).length = 2 * n ∧ n ≤ 3 := by
      refine ⟨partsN m, rfl, ?_⟩
      rcases mode_cases hm with rfl | rfl | rfl | rfl <;> exact ⟨rfl, by decide⟩
    rw [hn]
    clear hn hm
    obtain ⟨B3, hB3⟩ : ∃ b, w3.heap.size = b := ⟨_, rfl⟩
    obtain ⟨B2, hB2⟩ : ∃ b, w2.heap.size = b := ⟨_, rfl⟩
    rw [hB3] at A ⊢
    rw [hB2] at B ⊢
    clear hB3 hB2
    go_wp2_with fail
    go_loopw [9] (fun i W => ∃ k : Nat, k ≤ n ∧ i = .int .i64 k ∧ ∃ q, W = w4.drewN q) (fun i _ => n - (intOf i).toNat)
    case atStart => exact ⟨0, Nat.zero_le _, rfl, 0, rfl⟩
    case round =>
      obtain ⟨k, hk, rfl, q, rfl⟩ := hrel
      by_cases hlt : k < n
      · have a0 : w4.cell? ⟨B3, k * 2, none⟩ = some (.int .i64 ((sidesC m)[k * 2]'(by omega))) := by
          have := A.at (k * 2)
          simp only [nums, List.getElem?_map, List.getElem?_eq_getElem (show k * 2 < (sidesC m).length by omega), Option.map_some] at this
          exact this
        have a1 : w4.cell? ⟨B3, k * 2 + 1, none⟩ = some (.int .i64 ((sidesC m)[k * 2 + 1]'(by omega))) := by
          have := A.at (k * 2 + 1)
          simp only [nums, List.getElem?_map, List.getElem?_eq_getElem (show k * 2 + 1 < (sidesC m).length by omega), Option.map_some] at this
          exact this
        have b0 : w4.cell? ⟨B2, k * 2, none⟩ = some (.int .i64 ((sidesC m)[k * 2]'(by omega))) := by
          have := B.at (k * 2)
          simp only [nums, List.getElem?_map, List.getElem?_eq_getElem (show k * 2 < (sidesC m).length by omega), Option.map_some] at this
          exact this
        have b1 : w4.cell? ⟨B2, k * 2 + 1, none⟩ = some (.int .i64 ((sidesC m)[k * 2 + 1]'(by omega))) := by
          have := B.at (k * 2 + 1)
          simp only [nums, List.getElem?_map, List.getElem?_eq_getElem (show k * 2 + 1 < (sidesC m).length by omega), Option.map_some] at this
          exact this
        obtain ⟨x, hx⟩ : ∃ x, (sidesC m)[k * 2]'(by omega) = x := ⟨_, rfl⟩
        obtain ⟨y, hy⟩ : ∃ x, (sidesC m)[k * 2 + 1]'(by omega) = x := ⟨_, rfl⟩
        rw [hx] at a0 b0
        rw [hy] at a1 b1
        have he := equal_pair x y
        have i0 : (0 : Int) ≤ (k : Int) := by omega
        have i1 : (k : Int) < (n : Int) := by omega
        clear hx hy A B
        go_wp2
        go_quiet (fail)
        go_wp2
        go_roundw
        case rel => exact ⟨k + 1, by omega, by go_num, _, rfl⟩
        case measure => simp [intOf]; omega
      · have e0 : k = n := by omega
        subst e0
        go_wp2
        go_ret
        exact ⟨rfl, HB.out.drewN _⟩
  · refine (sides_none _ (by omega) _).mono ?_
    rintro e w3 ⟨rfl, rfl⟩
    go_wp2_with fail
    refine (refSides_none _ (by omega) _).mono ?_
    rintro e w4 ⟨rfl, rfl⟩
    go_wp2_with fail
    go_loopw [9] (fun i W => i = .int .i64 0 ∧ W = w4) (fun _ _ => 0)
    case atStart => exact ⟨rfl, rfl⟩
    case round =>
      obtain ⟨rfl, rfl⟩ := hrel
      go_wp2
      go_ret
      exact ⟨rfl, b2⟩

end Go.Proofs.Ytppbnmlgilgnnaa
