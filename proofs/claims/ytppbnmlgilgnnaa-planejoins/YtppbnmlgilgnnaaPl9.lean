/- How many words an image has; its MCUs, of noughts: size, counts, vacant. -/
import Derived.Test.YtppbnmlgilgnnaaPlMid
import Derived.Test.YtppbnmlgilgnnaaPl5
namespace Go.Proofs.Ytppbnmlgilgnnaa
open Go.ChangeShapes Go.WideShapes Go.ChangeAt Go.RowKit

/-- There may be such an image. -/
structure Fit (W H m : Int) : Prop where
  m : 1 ≤ m ∧ m ≤ 4
  w : 1 ≤ W ∧ W ≤ 65535
  h : 1 ≤ H ∧ H ≤ 65535
  s : W * H ≤ 1048576

theorem Fit.side {W H m : Int} (f : Fit W H m) : isSideB W = true ∧ isSideB H = true := by
  have := f.w
  have := f.h
  constructor <;> (simp [isSideB]; omega)

theorem ceil_in (n d : Int) (h0 : 1 ≤ n) (h1 : n ≤ 65535) (h2 : 8 ≤ d) (h3 : d ≤ 16) : ceilF n d = (n + d - 1) / d ∧ 1 ≤ ceilF n d ∧ ceilF n d ≤ 8192 ∧ ceilF n d * d ≥ n ∧ (ceilF n d - 1) * d < n := by
  have e : ceilF n d = (n + d - 1) / d := by unfold ceilF; rw [if_neg (by omega)]
  refine ⟨e, ?_⟩
  rw [e]
  have e1 := Int.emod_add_mul_ediv (n + d - 1) d
  have r0 := Int.emod_nonneg (n + d - 1) (show d ≠ 0 by omega)
  have r1 := Int.emod_lt_of_pos (n + d - 1) (show 0 < d by omega)
  have q0 : 1 ≤ (n + d - 1) / d := by rw [Int.le_ediv_iff_mul_le (by omega)]; omega
  have q1 : (n + d - 1) / d ≤ (65535 + 8 - 1) / 8 := by
    have a1 : (n + d - 1) / d * d ≤ n + d - 1 := Int.ediv_mul_le _ (by omega)
    have a2 : (n + d - 1) / d * 8 ≤ (n + d - 1) / d * d := Int.mul_le_mul_of_nonneg_left h2 (by omega)
    have a3 : (n + d - 1) / d * d = d * ((n + d - 1) / d) := Int.mul_comm _ _
    by_cases hd : d = 8
    · subst hd; omega
    · have a4 : (n + d - 1) / d * 9 ≤ (n + d - 1) / d * d := Int.mul_le_mul_of_nonneg_left (by omega) (by omega)
      omega
  have c1 : (n + d - 1) / d * d = d * ((n + d - 1) / d) := Int.mul_comm _ _
  have c2 : ((n + d - 1) / d - 1) * d = d * ((n + d - 1) / d) - d := by rw [Int.sub_mul, Int.one_mul, c1]
  refine ⟨q0, by omega, by omega, by omega⟩

theorem side_fit {m : Int} (h : 1 ≤ m ∧ m ≤ 4) : 8 ≤ sideW m ∧ sideW m ≤ 16 ∧ 8 ≤ sideH m ∧ sideH m ≤ 16 := by
  rcases mode_cases h with rfl | rfl | rfl | rfl <;> decide

theorem Fit.grid {W H m : Int} (f : Fit W H m) : gridW W H m = ceilF W (sideW m) ∧ gridH W H m = ceilF H (sideH m) ∧ 1 ≤ gridW W H m ∧ gridW W H m ≤ 8192 ∧ 1 ≤ gridH W H m ∧ gridH W H m ≤ 8192 := by
  have s := side_fit f.m
  have a := ceil_in W (sideW m) f.w.1 f.w.2 s.1 s.2.1
  have b := ceil_in H (sideH m) f.h.1 f.h.2 s.2.2.1 s.2.2.2
  unfold gridW gridH
  rw [f.side.1, f.side.2]
  simp only [Bool.and_self, if_true]
  exact ⟨trivial, trivial, a.2.1, a.2.2.1, b.2.1, b.2.2.1⟩

set_option maxHeartbeats 3200000 in
theorem size_fit (W H m q i c : Int) (f : Fit W H m) (w : World) : Calls Try.prog 42 #[pV W H m q i c] w fun e w' => e = .returned (.int .i64 (W * H * partsN m)) ∧ But Nowhere w w' := by
  obtain ⟨hm, hW, hH, hS⟩ := f
  have f : Fit W H m := ⟨hm, hW, hH, hS⟩
  obtain ⟨-, -, g1, g2, -, -⟩ := f.grid
  obtain ⟨a, ha⟩ : ∃ a, gridW W H m = a := ⟨_, rfl⟩
  obtain ⟨b, hb⟩ : ∃ b, gridH W H m = b := ⟨_, rfl⟩
  rw [ha] at g1 g2
  obtain ⟨n, hn, hn3⟩ : ∃ n, partsN m = n ∧ (n = 1 ∨ n = 3) := ⟨_, rfl, by unfold partsN; split <;> simp⟩
  have m0 : 0 ≤ W * H := Int.mul_nonneg (by omega) (by omega)
  have d0 : W ≤ 1048576 / H := by rw [Int.le_ediv_iff_mul_le (by omega)]; exact hS
  have d1 : (1048576 : Int).tdiv H = 1048576 / H := Int.tdiv_eq_ediv_of_nonneg (by omega)
  have d2 : 1048576 / H ≤ 1048576 := Int.ediv_le_self _ (by omega)
  have d3 : IntKind.i64.wrap (1048576 / H) = 1048576 / H := by rw [wrap_i64_eq]; exact w64 _ (by omega)
  have d4 : ¬ H = 0 := by omega
  have e1 : IntKind.i64.wrap (W * H) = W * H := by rw [wrap_i64_eq]; exact w64 _ (by omega)
  have e2 : IntKind.i64.wrap (W * H * (n : Int)) = W * H * n := by rw [wrap_i64_eq]; rcases hn3 with rfl | rfl <;> exact w64 _ (by omega)
  have e3 : (a == 0) = false := by simp; omega
  have e4 : decide (1048576 / H < W) = false := by simp; omega
  have kk := (Keep.start w).made 23 (pC W H m q i c)
  rw [hn]
  go_enter Try.func42, Try.ntmps42
  go_wp2_with fail
  refine (grid_any _ _ _ _ _ _ _).mono ?_
  rintro e w1 ⟨rfl, b1⟩
  rw [ha, hb]
  replace kk := kk.step b1
  clear b1 ha hb
  have c0 := kk.head.at 0
  have c1 := kk.head.at 1
  have c2 := kk.head.at 2
  simp only [List.getElem?_cons_zero, List.getElem?_cons_succ] at c0 c1 c2
  go_wp2_with fail
  go_quiet (fail)
  go_wp2_with fail
  replace kk := (kk.step ((But.refl _ _).drewN nq)).drew
  refine wp_region_till (S := fun u => u.cell? ⟨w.heap.size, 0, none⟩ = some (.int .i64 W) ∧ u.cell? ⟨w.heap.size, 1, none⟩ = some (.int .i64 H) ∧ u.cell? ⟨w.heap.size, 2, none⟩ = some (.int .i64 m)) (R := fun _ => True) (k := 100) (m := 100) (by kernel_rfl) ⟨kk.head.at 0, kk.head.at 1, kk.head.at 2⟩ trivial ?_
  (refine Walk.take (i := 0) (oi := { dst := some 20, op := Op.fieldAddr 23 (Operand.tmp 1) 0, type := 0, pos := "plane.go:234", after := #[], guard := none }) (v := ?_) rfl (by kernel_rfl) (by kernel_rfl) (by kernel_rfl) (by kernel_rfl) (fun _ _ _ h => h) (Or.inl ⟨by rfl, ?_⟩) ?_; rotate_left; (intro w hw; clear hw; (try go_split_ands); go_simp; try (with_reducible rfl)); simp only [Act.put, List.setIfInBounds_toArray, List.set_cons_zero, List.set_cons_succ])
  (refine Walk.take (i := 1) (oi := { dst := some 21, op := Op.load 3 (Operand.tmp 20), type := 3, pos := "plane.go:234", after := #[{ on := 0, ground := Ground.data }], guard := none }) (v := ?_) rfl (by kernel_rfl) (by kernel_rfl) (by kernel_rfl) (by kernel_rfl) (fun _ _ _ h => h) (Or.inl ⟨by rfl, ?_⟩) ?_; rotate_left; (intro w hw; have hS1 := hw.1 (by kernel_rfl); clear hw; (try dsimp only at hS1); (try go_split_ands); go_simp; try (with_reducible rfl)); simp only [Act.put, List.setIfInBounds_toArray, List.set_cons_zero, List.set_cons_succ])
  (refine Walk.take (i := 2) (oi := { dst := some 22, op := Op.fieldAddr 23 (Operand.tmp 1) 1, type := 0, pos := "plane.go:234", after := #[], guard := none }) (v := ?_) rfl (by kernel_rfl) (by kernel_rfl) (by kernel_rfl) (by kernel_rfl) (fun _ _ _ h => h) (Or.inl ⟨by rfl, ?_⟩) ?_; rotate_left; (intro w hw; clear hw; (try go_split_ands); go_simp; try (with_reducible rfl)); simp only [Act.put, List.setIfInBounds_toArray, List.set_cons_zero, List.set_cons_succ])
  (refine Walk.take (i := 3) (oi := { dst := some 23, op := Op.load 3 (Operand.tmp 22), type := 3, pos := "plane.go:234", after := #[{ on := 2, ground := Ground.data }], guard := none }) (v := ?_) rfl (by kernel_rfl) (by kernel_rfl) (by kernel_rfl) (by kernel_rfl) (fun _ _ _ h => h) (Or.inl ⟨by rfl, ?_⟩) ?_; rotate_left; (intro w hw; have hS1 := hw.1 (by kernel_rfl); clear hw; (try dsimp only at hS1); (try go_split_ands); go_simp; try (with_reducible rfl)); simp only [Act.put, List.setIfInBounds_toArray, List.set_cons_zero, List.set_cons_succ])
  (refine Walk.take (i := 4) (oi := { dst := some 24, op := Op.binOp BinOp.mul 3 (Operand.tmp 21) (Operand.tmp 23) 3, type := 3, pos := "plane.go:234", after := #[{ on := 1, ground := Ground.data }, { on := 3, ground := Ground.data }], guard := none }) (v := ?_) rfl (by kernel_rfl) (by kernel_rfl) (by kernel_rfl) (by kernel_rfl) (fun _ _ _ h => h) (Or.inl ⟨by rfl, ?_⟩) ?_; rotate_left; (intro w hw; clear hw; (try go_split_ands); go_simp; try (with_reducible rfl)); simp only [Act.put, List.setIfInBounds_toArray, List.set_cons_zero, List.set_cons_succ])
  (refine Walk.take (i := 5) (oi := { dst := some 25, op := Op.fieldAddr 23 (Operand.tmp 1) 2, type := 0, pos := "plane.go:234", after := #[], guard := none }) (v := ?_) rfl (by kernel_rfl) (by kernel_rfl) (by kernel_rfl) (by kernel_rfl) (fun _ _ _ h => h) (Or.inl ⟨by rfl, ?_⟩) ?_; rotate_left; (intro w hw; clear hw; (try go_split_ands); go_simp; try (with_reducible rfl)); simp only [Act.put, List.setIfInBounds_toArray, List.set_cons_zero, List.set_cons_succ])
  (refine Walk.take (i := 6) (oi := { dst := some 26, op := Op.load 3 (Operand.tmp 25), type := 3, pos := "plane.go:234", after := #[{ on := 5, ground := Ground.data }], guard := none }) (v := ?_) rfl (by kernel_rfl) (by kernel_rfl) (by kernel_rfl) (by kernel_rfl) (fun _ _ _ h => h) (Or.inl ⟨by rfl, ?_⟩) ?_; rotate_left; (intro w hw; have hS1 := hw.1 (by kernel_rfl); clear hw; (try dsimp only at hS1); (try go_split_ands); go_simp; try (with_reducible rfl)); simp only [Act.put, List.setIfInBounds_toArray, List.set_cons_zero, List.set_cons_succ])
  (refine Walk.go (i := 7) (o := { dst := some 27, op := Op.call { callee := Callee.value (Operand.func 22), args := #[Operand.tmp 26], argTypes := #[3] }, type := 47, pos := "plane.go:234", after := #[{ on := 6, ground := Ground.data }], guard := none }) (by kernel_rfl) rfl (fun K hK => ?_); go_simp; ((go_at_call 22; refine (sides_some m hm _).mono ?_; rintro e x7 ⟨rfl, k7, -⟩; rw [hn]; replace kk := kk.step k7.but; clear k7)); refine hK.out _ _ (⟨fun _ => ⟨kk.head.at 0, kk.head.at 1, kk.head.at 2⟩, fun _ => trivial⟩) ?_; clear hK K; try simp only [Act.put, List.setIfInBounds_toArray, List.set_cons_zero, List.set_cons_succ])
  (refine Walk.take (i := 8) (oi := { dst := some 28, op := Op.call { callee := Callee.builtin Builtin.len, args := #[Operand.tmp 27], argTypes := #[47] }, type := 3, pos := "plane.go:234", after := #[{ on := 7, ground := Ground.data }], guard := none }) (v := ?_) rfl (by kernel_rfl) (by kernel_rfl) (by kernel_rfl) (by kernel_rfl) (fun _ _ _ h => h) (Or.inl ⟨by rfl, ?_⟩) ?_; rotate_left; (intro w hw; clear hw; (try go_split_ands); go_simp; try (with_reducible rfl)); simp only [Act.put, List.setIfInBounds_toArray, List.set_cons_zero, List.set_cons_succ])
  (refine Walk.take (i := 9) (oi := { dst := some 29, op := Op.binOp BinOp.mul 3 (Operand.tmp 24) (Operand.tmp 28) 3, type := 3, pos := "plane.go:234", after := #[{ on := 4, ground := Ground.data }, { on := 8, ground := Ground.data }], guard := none }) (v := ?_) rfl (by kernel_rfl) (by kernel_rfl) (by kernel_rfl) (by kernel_rfl) (fun _ _ _ h => h) (Or.inl ⟨by rfl, ?_⟩) ?_; rotate_left; (intro w hw; clear hw; (try go_split_ands); go_simp; try (with_reducible rfl)); simp only [Act.put, List.setIfInBounds_toArray, List.set_cons_zero, List.set_cons_succ])
  (refine Walk.take (i := 10) (oi := { dst := some 2, op := Op.assign (Operand.tmp 29), type := 3, pos := "plane.go:234", after := #[{ on := 9, ground := Ground.data }, { on := 7, ground := Ground.chain }, { on := 0, ground := Ground.phase }, { on := 1, ground := Ground.phase }, { on := 2, ground := Ground.phase }, { on := 3, ground := Ground.phase }, { on := 4, ground := Ground.phase }, { on := 5, ground := Ground.phase }, { on := 6, ground := Ground.phase }, { on := 7, ground := Ground.phase }, { on := 8, ground := Ground.phase }, { on := 9, ground := Ground.phase }], guard := none }) (v := ?_) rfl (by kernel_rfl) (by kernel_rfl) (by kernel_rfl) (by kernel_rfl) (fun _ _ _ h => h) (Or.inl ⟨by rfl, ?_⟩) ?_; rotate_left; (intro w hw; clear hw; (try go_split_ands); go_simp; try (with_reducible rfl)); simp only [Act.put, List.setIfInBounds_toArray, List.set_cons_zero, List.set_cons_succ])
  refine Walk.done (by kernel_rfl) ?_ _
  go_wp2_with fail
  go_ret
  exact ⟨rfl, kk.but⟩

theorem zcell64 (j : Nat) (hj : j < 64) : (Value.agg (List.replicate 64 (Value.int .i64 0)).toArray).cells[j]! = .int .i64 0 := by
  have : (Value.agg (List.replicate 64 (Value.int .i64 0)).toArray).cells = (List.replicate 64 (Value.int .i64 0)).toArray := rfl
  rw [this, getElem!_pos _ _ (by simpa using hj)]
  simp only [List.getElem_toArray, List.getElem_replicate]

theorem Try.elemRowN : ElemInfo Try.prog 77 105 (.slice none 0 0) 1 24 := ⟨Try.underlying77, by kernel_rfl, rfl, by omega⟩

theorem Try.elem64N : ElemInfo Try.prog 105 52 (.agg (List.replicate 64 (Value.int .i64 0)).toArray) 64 512 := ⟨Try.underlying105, by kernel_rfl, rfl, by omega⟩

end Go.Proofs.Ytppbnmlgilgnnaa
