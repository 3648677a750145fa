/- The pixels of a SAMPLE, told one by one. -/
import Derived.Test.YtppbnmlgilgnnaaPl2
import Derived.Test.YtppbnmlgilgnnaaTillIn
namespace Go.Proofs.Ytppbnmlgilgnnaa
open Go.ChangeShapes Go.WideShapes Go.ChangeAt Go.RowKit Go.Shelf

attribute [local go_sem] Oper.semAt_some wide_fn wide_depth Fence.inRound_fn Fence.inRound_depth

set_option maxHeartbeats 3200000 in
set_option maxRecDepth 100000 in
theorem pixels_iter (s : Spot) (X Y : Int) (sb xb yb : Nat) (hs : s.ok) (hX : 0 ≤ X ∧ X ≤ 80000) (hY0 : 0 ≤ Y ∧ Y ≤ 80000) :
    Iter Try.prog 72 #[.pointer (some ⟨sb, 0, none⟩), .pointer (some ⟨xb, 0, none⟩), .pointer (some ⟨yb, 0, none⟩)] (s.wide * s.high).toNat
      (fun i => #[.int .i64 (X + i % s.wide), .int .i64 (Y + i / s.wide)]) (fun W => Cells W sb 91 s.cells ∧ Cells W xb 3 [.int .i64 X] ∧ Cells W yb 3 [.int .i64 Y]) := by
  obtain ⟨s1, s2, s3, s4, s5, s6, s7, s8, s9, s10, s11, s12⟩ := hs
  obtain ⟨C, hC, C0, C4⟩ : ∃ C, s.wide * s.high = C ∧ 0 ≤ C ∧ C ≤ 4 := ⟨_, rfl, Int.mul_nonneg (by omega) (by omega), Int.mul_le_mul s6 s8 (by omega) (by omega)⟩
  intro n lo W J HJ HI HY hJ0
  rw [hC] at HY ⊢
  have hmx : Try.prog.follows .mixedOrders = true := by kernel_rfl
  obtain ⟨i0, -, -⟩ := HI 0 W hJ0
  have c6 := i0.at 6
  have c7 := i0.at 7
  simp only [List.getElem?_cons_zero, List.getElem?_cons_succ] at c6 c7
  have e0 : wrap64 (s.wide * s.high) = C := by rw [hC]; exact w64 _ (by omega)
  clear i0 hC
  refine callsIn_of_wp Try.func72 rfl trivial ?_ rfl
  simp only [Try.ntmps72, List.size_toArray, List.length_cons, List.length_nil, Nat.reduceAdd, Nat.reduceSub, Array.replicate_succ, Array.replicate_zero, List.push_toArray, List.append_toArray, List.nil_append, List.cons_append]
  gi_wp2
  gi_loopw [11] (fun i wr => ∃ (k : Nat), k ≤ C.toNat ∧ i = .int .i64 k ∧ J k wr) (fun i _ => (C - intOf i).toNat)
  case atStart => exact ⟨0, Nat.zero_le _, by simp, hJ0⟩
  case round =>
    clear c6 c7 hJ0 e0
    obtain ⟨k, hk, rfl, hj⟩ := hrel
    by_cases hlt : (k : Int) < C
    · have hkN : k < C.toNat := by omega
      have q0 : 0 ≤ (k : Int) % s.wide := Int.emod_nonneg _ (by omega)
      have q1 : (k : Int) % s.wide < s.wide := Int.emod_lt_of_pos _ (by omega)
      have q2 : 0 ≤ (k : Int) / s.wide := Int.ediv_nonneg (by omega) (by omega)
      have q3 : (k : Int) / s.wide ≤ k := Int.ediv_le_self _ (by omega)
      have q4 : 1 ≤ s.wide := s5
      have q5 : ¬ s.wide = 0 := by omega
      have r1 : (k : Int).tmod s.wide = (k : Int) % s.wide := Int.tmod_eq_emod_of_nonneg (by omega)
      have r2 : (k : Int).tdiv s.wide = (k : Int) / s.wide := Int.tdiv_eq_ediv_of_nonneg (by omega)
      have r3 : IntKind.i64.wrap ((k : Int) / s.wide) = (k : Int) / s.wide := by rw [wrap_i64_eq]; exact w64 _ (by omega)
      have r4 : IntKind.i64.wrap (X + (k : Int) % s.wide) = X + (k : Int) % s.wide := by rw [wrap_i64_eq]; exact w64 _ (by omega)
      have r5 : IntKind.i64.wrap (Y + (k : Int) / s.wide) = Y + (k : Int) / s.wide := by rw [wrap_i64_eq]; exact w64 _ (by omega)
      have jd := HJ k _ _ hj (But.refl Nowhere _).drew
      obtain ⟨i0, i1, i2⟩ := HI k _ jd
      have c6 := i0.at 6
      have cX := i1.at 0
      have cY := i2.at 0
      simp only [List.getElem?_cons_zero, List.getElem?_cons_succ] at c6 cX cY
      obtain ⟨fn, tmps, assign, body, hy, hR⟩ := HY k _ hkN jd
      clear i0 i1 i2 hj q0 q1 q2 q3
      gi_wp2
      refine wide_region_walk (S := fun x => x.cell? ⟨sb, 6, none⟩ = some (.int .i64 s.wide) ∧ x.cell? ⟨xb, 0, none⟩ = some (.int .i64 X) ∧ x.cell? ⟨yb, 0, none⟩ = some (.int .i64 Y)) (R := fun _ => True) (k := 100) (m := 100) (by kernel_rfl) ⟨c6, cX, cY⟩ trivial ?_
      (refine WalkIn.take (i := 0) (oi := { dst := some 14, op := Op.move (Operand.tmp 0), type := 115, pos := "plane.go:216", after := #[], guard := none }) (v := ?_) rfl (by kernel_rfl) (by kernel_rfl) (by kernel_rfl) (by kernel_rfl) (fun _ _ _ h => h) (Or.inl ⟨by rfl, ?_⟩) ?_; rotate_left; (intro w hw; clear hw; (try go_split_ands); go_simp; try (with_reducible rfl)); simp only [Act.put, List.setIfInBounds_toArray, List.set_cons_zero, List.set_cons_succ])
      (refine WalkIn.take (i := 1) (oi := { dst := some 15, op := Op.load 3 (Operand.tmp 2), type := 3, pos := "plane.go:216", after := #[], guard := none }) (v := ?_) rfl (by kernel_rfl) (by kernel_rfl) (by kernel_rfl) (by kernel_rfl) (fun _ _ _ h => h) (Or.inl ⟨by rfl, ?_⟩) ?_; rotate_left; (intro w hw; have hS1 := hw.1 (by kernel_rfl); clear hw; (try dsimp only at hS1); (try go_split_ands); go_simp; try (with_reducible rfl)); simp only [Act.put, List.setIfInBounds_toArray, List.set_cons_zero, List.set_cons_succ])
      (refine WalkIn.take (i := 2) (oi := { dst := some 16, op := Op.move (Operand.tmp 5), type := 3, pos := "plane.go:216", after := #[], guard := none }) (v := ?_) rfl (by kernel_rfl) (by kernel_rfl) (by kernel_rfl) (by kernel_rfl) (fun _ _ _ h => h) (Or.inl ⟨by rfl, ?_⟩) ?_; rotate_left; (intro w hw; clear hw; (try go_split_ands); go_simp; try (with_reducible rfl)); simp only [Act.put, List.setIfInBounds_toArray, List.set_cons_zero, List.set_cons_succ])
      (refine WalkIn.take (i := 3) (oi := { dst := some 17, op := Op.fieldAddr 91 (Operand.tmp 1) 6, type := 0, pos := "plane.go:216", after := #[], guard := none }) (v := ?_) rfl (by kernel_rfl) (by kernel_rfl) (by kernel_rfl) (by kernel_rfl) (fun _ _ _ h => h) (Or.inl ⟨by rfl, ?_⟩) ?_; rotate_left; (intro w hw; clear hw; (try go_split_ands); go_simp; try (with_reducible rfl)); simp only [Act.put, List.setIfInBounds_toArray, List.set_cons_zero, List.set_cons_succ])
      (refine WalkIn.take (i := 4) (oi := { dst := some 18, op := Op.load 3 (Operand.tmp 17), type := 3, pos := "plane.go:216", after := #[{ on := 3, ground := Ground.data }], guard := none }) (v := ?_) rfl (by kernel_rfl) (by kernel_rfl) (by kernel_rfl) (by kernel_rfl) (fun _ _ _ h => h) (Or.inl ⟨by rfl, ?_⟩) ?_; rotate_left; (intro w hw; have hS1 := hw.1 (by kernel_rfl); clear hw; (try dsimp only at hS1); (try go_split_ands); go_simp; try (with_reducible rfl)); simp only [Act.put, List.setIfInBounds_toArray, List.set_cons_zero, List.set_cons_succ])
      (refine WalkIn.take (i := 5) (oi := { dst := some 19, op := Op.binOp BinOp.rem 3 (Operand.tmp 16) (Operand.tmp 18) 3, type := 3, pos := "plane.go:216", after := #[{ on := 2, ground := Ground.data }, { on := 4, ground := Ground.data }], guard := none }) (v := ?_) rfl (by kernel_rfl) (by kernel_rfl) (by kernel_rfl) (by kernel_rfl) (fun _ _ _ h => h) (Or.inl ⟨by rfl, ?_⟩) ?_; rotate_left; (intro w hw; clear hw; (try go_split_ands); go_simp; try (with_reducible rfl)); simp only [Act.put, List.setIfInBounds_toArray, List.set_cons_zero, List.set_cons_succ])
      (refine WalkIn.take (i := 6) (oi := { dst := some 20, op := Op.binOp BinOp.add 3 (Operand.tmp 15) (Operand.tmp 19) 3, type := 3, pos := "plane.go:216", after := #[{ on := 1, ground := Ground.data }, { on := 5, ground := Ground.data }], guard := none }) (v := ?_) rfl (by kernel_rfl) (by kernel_rfl) (by kernel_rfl) (by kernel_rfl) (fun _ _ _ h => h) (Or.inl ⟨by rfl, ?_⟩) ?_; rotate_left; (intro w hw; clear hw; (try go_split_ands); go_simp; try (with_reducible rfl)); simp only [Act.put, List.setIfInBounds_toArray, List.set_cons_zero, List.set_cons_succ])
      (refine WalkIn.take (i := 7) (oi := { dst := some 21, op := Op.load 3 (Operand.tmp 3), type := 3, pos := "plane.go:216", after := #[], guard := none }) (v := ?_) rfl (by kernel_rfl) (by kernel_rfl) (by kernel_rfl) (by kernel_rfl) (fun _ _ _ h => h) (Or.inl ⟨by rfl, ?_⟩) ?_; rotate_left; (intro w hw; have hS1 := hw.1 (by kernel_rfl); clear hw; (try dsimp only at hS1); (try go_split_ands); go_simp; try (with_reducible rfl)); simp only [Act.put, List.setIfInBounds_toArray, List.set_cons_zero, List.set_cons_succ])
      (refine WalkIn.take (i := 8) (oi := { dst := some 22, op := Op.move (Operand.tmp 5), type := 3, pos := "plane.go:216", after := #[], guard := none }) (v := ?_) rfl (by kernel_rfl) (by kernel_rfl) (by kernel_rfl) (by kernel_rfl) (fun _ _ _ h => h) (Or.inl ⟨by rfl, ?_⟩) ?_; rotate_left; (intro w hw; clear hw; (try go_split_ands); go_simp; try (with_reducible rfl)); simp only [Act.put, List.setIfInBounds_toArray, List.set_cons_zero, List.set_cons_succ])
      (refine WalkIn.take (i := 9) (oi := { dst := some 23, op := Op.fieldAddr 91 (Operand.tmp 1) 6, type := 0, pos := "plane.go:216", after := #[], guard := none }) (v := ?_) rfl (by kernel_rfl) (by kernel_rfl) (by kernel_rfl) (by kernel_rfl) (fun _ _ _ h => h) (Or.inl ⟨by rfl, ?_⟩) ?_; rotate_left; (intro w hw; clear hw; (try go_split_ands); go_simp; try (with_reducible rfl)); simp only [Act.put, List.setIfInBounds_toArray, List.set_cons_zero, List.set_cons_succ])
      (refine WalkIn.take (i := 10) (oi := { dst := some 24, op := Op.load 3 (Operand.tmp 23), type := 3, pos := "plane.go:216", after := #[{ on := 9, ground := Ground.data }], guard := none }) (v := ?_) rfl (by kernel_rfl) (by kernel_rfl) (by kernel_rfl) (by kernel_rfl) (fun _ _ _ h => h) (Or.inl ⟨by rfl, ?_⟩) ?_; rotate_left; (intro w hw; have hS1 := hw.1 (by kernel_rfl); clear hw; (try dsimp only at hS1); (try go_split_ands); go_simp; try (with_reducible rfl)); simp only [Act.put, List.setIfInBounds_toArray, List.set_cons_zero, List.set_cons_succ])
      (refine WalkIn.take (i := 11) (oi := { dst := some 25, op := Op.binOp BinOp.quo 3 (Operand.tmp 22) (Operand.tmp 24) 3, type := 3, pos := "plane.go:216", after := #[{ on := 8, ground := Ground.data }, { on := 10, ground := Ground.data }], guard := none }) (v := ?_) rfl (by kernel_rfl) (by kernel_rfl) (by kernel_rfl) (by kernel_rfl) (fun _ _ _ h => h) (Or.inl ⟨by rfl, ?_⟩) ?_; rotate_left; (intro w hw; clear hw; (try go_split_ands); go_simp; try (with_reducible rfl)); simp only [Act.put, List.setIfInBounds_toArray, List.set_cons_zero, List.set_cons_succ])
      (refine WalkIn.take (i := 12) (oi := { dst := some 26, op := Op.binOp BinOp.add 3 (Operand.tmp 21) (Operand.tmp 25) 3, type := 3, pos := "plane.go:216", after := #[{ on := 7, ground := Ground.data }, { on := 11, ground := Ground.data }], guard := none }) (v := ?_) rfl (by kernel_rfl) (by kernel_rfl) (by kernel_rfl) (by kernel_rfl) (fun _ _ _ h => h) (Or.inl ⟨by rfl, ?_⟩) ?_; rotate_left; (intro w hw; clear hw; (try go_split_ands); go_simp; try (with_reducible rfl)); simp only [Act.put, List.setIfInBounds_toArray, List.set_cons_zero, List.set_cons_succ])
      (refine WalkIn.go (i := 13) (o := { dst := some 27, op := Op.call { callee := Callee.value (Operand.tmp 14), args := #[Operand.tmp 20, Operand.tmp 26], argTypes := #[3, 3] }, type := 4, pos := "plane.go:216", after := #[{ on := 0, ground := Ground.data }, { on := 6, ground := Ground.data }, { on := 12, ground := Ground.data }], guard := none }) (by kernel_rfl) rfl (fun K hK => ?_); go_simp; ((refine hR.mono ?_; rintro e W4 ⟨rfl, j4⟩; have hi4 := HI (k + 1) _ j4)); refine hK.out _ _ (⟨fun _ => ⟨hi4.1.at 6, hi4.2.1.at 0, hi4.2.2.at 0⟩, fun _ => trivial⟩) ?_; clear hK K; try simp only [Act.put, List.setIfInBounds_toArray, List.set_cons_zero, List.set_cons_succ])
      (refine WalkIn.go (i := 14) (o := { dst := some 28, op := Op.unOp UnOp.not 4 (Operand.tmp 27), type := 4, pos := "plane.go:216", after := #[{ on := 13, ground := Ground.data }], guard := none }) (by kernel_rfl) rfl (fun K hK => ?_); go_simp; (skip); refine hK.out _ _ (⟨fun _ => ⟨hi4.1.at 6, hi4.2.1.at 0, hi4.2.2.at 0⟩, fun _ => trivial⟩) ?_; clear hK K; try simp only [Act.put, List.setIfInBounds_toArray, List.set_cons_zero, List.set_cons_succ])
      refine WalkIn.done (by kernel_rfl) ?_ _
      clear hy hR jd hi4
      gi_wp2
      go_roundw
      case rel => exact ⟨k + 1, by omega, by go_num, j4⟩
      case measure => simp [intOf]; omega
    · have hkN : k = C.toNat := by omega
      gi_wp2
      go_end0
      first | exact ⟨⟨_, rfl⟩, hj⟩ | (rw [← hkN]; exact ⟨⟨_, rfl⟩, hj⟩)

end Go.Proofs.Ytppbnmlgilgnnaa
