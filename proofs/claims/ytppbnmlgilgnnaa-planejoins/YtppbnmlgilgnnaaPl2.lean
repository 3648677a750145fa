/- Where a block stands: spots; the pixels of a SAMPLE: pixels, place. -/
import Derived.Test.YtppbnmlgilgnnaaPl1
import Derived.Test.YtppbnmlgilgnnaaRng
import Derived.RangeFuncBound
import Derived.Shelf.Abstract
import Derived.Shelf.RegionOpen
import Derived.OwnWalkIn
import Derived.TacticsInMore
import Derived.LoopNIn
import Derived.LoopIn
namespace Go.Proofs.Ytppbnmlgilgnnaa
open Go.ChangeShapes Go.WideShapes Go.ChangeAt Go.RowKit Go.Shelf

theorem wide_fn (k : Nat) : Fence.wide.fn k = True := rfl
theorem wide_depth : Fence.wide.depth = none := rfl

attribute [local go_sem] Oper.semAt_some wide_fn wide_depth Fence.inRound_fn Fence.inRound_depth

/-- Where a block stands. -/
structure Spot where
  mcu : Int
  block : Int
  part : Int
  parts : Int
  x : Int
  y : Int
  wide : Int
  high : Int

abbrev Spot.cells (s : Spot) : List Value := [.int .i64 s.mcu, .int .i64 s.block, .int .i64 s.part, .int .i64 s.parts, .int .i64 s.x, .int .i64 s.y, .int .i64 s.wide, .int .i64 s.high]
abbrev Spot.val (s : Spot) : Value := .agg #[.int .i64 s.mcu, .int .i64 s.block, .int .i64 s.part, .int .i64 s.parts, .int .i64 s.x, .int .i64 s.y, .int .i64 s.wide, .int .i64 s.high]

/-- Its numbers are small. -/
def Spot.ok (s : Spot) : Prop := 0 ≤ s.x ∧ s.x ≤ 70000 ∧ 0 ≤ s.y ∧ s.y ≤ 70000 ∧ 1 ≤ s.wide ∧ s.wide ≤ 2 ∧ 1 ≤ s.high ∧ s.high ≤ 2 ∧ 0 ≤ s.part ∧ s.part ≤ 2 ∧ 1 ≤ s.parts ∧ s.parts ≤ 3

set_option maxHeartbeats 1600000 in
theorem place_any (s : Spot) (W H m q i c x y : Int) (w : World) (hs : s.ok) (hW : 0 ≤ W ∧ W ≤ 65535) (hx : 0 ≤ x ∧ x ≤ 70000) (hy : 0 ≤ y ∧ y ≤ 70000) :
    Calls Try.prog 47 #[s.val, pV W H m q i c, .int .i64 x, .int .i64 y] w fun e w' => e = .returned (.int .i64 ((y * W + x) * s.parts + s.part)) ∧ But Nowhere w w' := by
  obtain ⟨s1, s2, s3, s4, s5, s6, s7, s8, s9, s10, s11, s12⟩ := hs
  have m0 : 0 ≤ y * W := Int.mul_nonneg hy.1 hW.1
  have m1 : y * W ≤ 70000 * 65535 := Int.mul_le_mul hy.2 hW.2 hW.1 (by omega)
  have m2 : 0 ≤ (y * W + x) * s.parts := Int.mul_nonneg (by omega) (by omega)
  have m3 : (y * W + x) * s.parts ≤ (70000 * 65535 + 70000) * 3 := Int.mul_le_mul (by omega) s12 (by omega) (by omega)
  have e1 : wrap64 (y * W) = y * W := w64 _ (by omega)
  have e2 : wrap64 (y * W + x) = y * W + x := w64 _ (by omega)
  have e3 : wrap64 ((y * W + x) * s.parts) = (y * W + x) * s.parts := w64 _ (by omega)
  have e4 : wrap64 ((y * W + x) * s.parts + s.part) = (y * W + x) * s.parts + s.part := w64 _ (by omega)
  clear m0 m1 m2 m3
  go_enter Try.func47, Try.ntmps47
  go_wp2
  go_ret
  exact ⟨by show Ending.returned (Value.int IntKind.i64 (wrap64 ((y * W + x) * s.parts + s.part))) = _; rw [e4], ((But.refl _ _).alloc _).alloc _⟩

theorem spot_four {W : World} {b : Nat} {t : TypeId} {s : Spot} (h : Cells W b t s.cells) : W.cell? ⟨b, 4, none⟩ = some (.int .i64 s.x) ∧ W.cell? ⟨b, 5, none⟩ = some (.int .i64 s.y) ∧ W.cell? ⟨b, 6, none⟩ = some (.int .i64 s.wide) ∧ W.cell? ⟨b, 7, none⟩ = some (.int .i64 s.high) := ⟨h.at 4, h.at 5, h.at 6, h.at 7⟩

set_option maxHeartbeats 3200000 in
set_option maxRecDepth 100000 in
theorem pixels_any (s : Spot) (k : Int) (w : World) (hs : s.ok) (hk : 0 ≤ k ∧ k < 64) :
    Calls Try.prog 46 #[s.val, .int .i64 k] w fun e w' => ∃ xb yb, e = .returned (.func (.func 72) #[] #[.pointer (some ⟨w.heap.size, 0, none⟩), .pointer (some ⟨xb, 0, none⟩), .pointer (some ⟨yb, 0, none⟩)]) ∧
      Keep w w' [(xb, 3, [.int .i64 (s.x + k % 8 * s.wide)]), (yb, 3, [.int .i64 (s.y + k / 8 * s.high)]), (w.heap.size, 91, s.cells)] := by
  obtain ⟨s1, s2, s3, s4, s5, s6, s7, s8, s9, s10, s11, s12⟩ := hs
  have m0 : 0 ≤ k % 8 * s.wide := Int.mul_nonneg (by omega) (by omega)
  have m1 : k % 8 * s.wide ≤ 8 * 2 := Int.mul_le_mul (by omega) s6 (by omega) (by omega)
  have m2 : 0 ≤ k / 8 * s.high := Int.mul_nonneg (by omega) (by omega)
  have m3 : k / 8 * s.high ≤ 8 * 2 := Int.mul_le_mul (by omega) s8 (by omega) (by omega)
  have r1 : k.tmod 8 = k % 8 := Int.tmod_eq_emod_of_nonneg hk.1
  have r2 : IntKind.i64.wrap (k % 8 * s.wide) = k % 8 * s.wide := by rw [wrap_i64_eq]; exact w64 _ (by omega)
  have r3 : IntKind.i64.wrap (s.x + k % 8 * s.wide) = s.x + k % 8 * s.wide := by rw [wrap_i64_eq]; exact w64 _ (by omega)
  have r4 : k.tdiv 8 = k / 8 := Int.tdiv_eq_ediv_of_nonneg hk.1
  have r7 : IntKind.i64.wrap (k / 8) = k / 8 := by rw [wrap_i64_eq]; exact w64 _ (by omega)
  have r5 : IntKind.i64.wrap (k / 8 * s.high) = k / 8 * s.high := by rw [wrap_i64_eq]; exact w64 _ (by omega)
  have r6 : IntKind.i64.wrap (s.y + k / 8 * s.high) = s.y + k / 8 * s.high := by rw [wrap_i64_eq]; exact w64 _ (by omega)
  clear m0 m1 m2 m3
  have kk := (Keep.start w).made 91 s.cells
  go_enter Try.func46, Try.ntmps46
  go_wp2_with fail
  revert kk
  generalize w.alloc (.cells #[.int .i64 s.mcu, .int .i64 s.block, .int .i64 s.part, .int .i64 s.parts, .int .i64 s.x, .int .i64 s.y, .int .i64 s.wide, .int .i64 s.high] 91) = W0
  intro kk
  replace kk := kk.drew
  refine wp_region_till (S := fun u => u.cell? ⟨w.heap.size, 4, none⟩ = some (.int .i64 s.x) ∧ u.cell? ⟨w.heap.size, 5, none⟩ = some (.int .i64 s.y) ∧ u.cell? ⟨w.heap.size, 6, none⟩ = some (.int .i64 s.wide) ∧ u.cell? ⟨w.heap.size, 7, none⟩ = some (.int .i64 s.high)) (R := fun _ => True) (k := 100) (m := 100) (by kernel_rfl) (spot_four (kk.get (b := w.heap.size) (t := 91) (c := s.cells) (by simp))) trivial ?_
  revert kk
  generalize W0.drew = WD
  intro kk
  (refine Walk.take (i := 0) (oi := { dst := some 7, op := Op.fieldAddr 91 (Operand.tmp 2) 4, type := 0, pos := "plane.go:213", after := #[], guard := none }) (v := ?_) rfl (by kernel_rfl) (by kernel_rfl) (by kernel_rfl) (by kernel_rfl) (fun _ _ _ h => h) (Or.inl ⟨by rfl, ?_⟩) ?_; rotate_left; (intro w hw; clear hw; (try go_split_ands); go_simp; try (with_reducible rfl)); simp only [Act.put, List.setIfInBounds_toArray, List.set_cons_zero, List.set_cons_succ])
  (refine Walk.take (i := 1) (oi := { dst := some 8, op := Op.load 3 (Operand.tmp 7), type := 3, pos := "plane.go:213", after := #[{ on := 0, ground := Ground.data }], guard := none }) (v := ?_) rfl (by kernel_rfl) (by kernel_rfl) (by kernel_rfl) (by kernel_rfl) (fun _ _ _ h => h) (Or.inl ⟨by rfl, ?_⟩) ?_; rotate_left; (intro w hw; have hS1 := hw.1 (by kernel_rfl); clear hw; (try dsimp only at hS1); (try go_split_ands); go_simp; try (with_reducible rfl)); simp only [Act.put, List.setIfInBounds_toArray, List.set_cons_zero, List.set_cons_succ])
  (refine Walk.take (i := 2) (oi := { dst := some 9, op := Op.move (Operand.tmp 1), type := 3, pos := "plane.go:213", after := #[], guard := none }) (v := ?_) rfl (by kernel_rfl) (by kernel_rfl) (by kernel_rfl) (by kernel_rfl) (fun _ _ _ h => h) (Or.inl ⟨by rfl, ?_⟩) ?_; rotate_left; (intro w hw; clear hw; (try go_split_ands); go_simp; try (with_reducible rfl)); simp only [Act.put, List.setIfInBounds_toArray, List.set_cons_zero, List.set_cons_succ])
  (refine Walk.take (i := 3) (oi := { dst := some 10, op := Op.binOp BinOp.rem 3 (Operand.tmp 9) (Operand.const (Value.int IntKind.i64 8)) 3, type := 3, pos := "plane.go:213", after := #[{ on := 2, ground := Ground.data }], guard := none }) (v := ?_) rfl (by kernel_rfl) (by kernel_rfl) (by kernel_rfl) (by kernel_rfl) (fun _ _ _ h => h) (Or.inl ⟨by rfl, ?_⟩) ?_; rotate_left; (intro w hw; clear hw; (try go_split_ands); go_simp; try (with_reducible rfl)); simp only [Act.put, List.setIfInBounds_toArray, List.set_cons_zero, List.set_cons_succ])
  (refine Walk.take (i := 4) (oi := { dst := some 11, op := Op.fieldAddr 91 (Operand.tmp 2) 6, type := 0, pos := "plane.go:213", after := #[], guard := none }) (v := ?_) rfl (by kernel_rfl) (by kernel_rfl) (by kernel_rfl) (by kernel_rfl) (fun _ _ _ h => h) (Or.inl ⟨by rfl, ?_⟩) ?_; rotate_left; (intro w hw; clear hw; (try go_split_ands); go_simp; try (with_reducible rfl)); simp only [Act.put, List.setIfInBounds_toArray, List.set_cons_zero, List.set_cons_succ])
  (refine Walk.take (i := 5) (oi := { dst := some 12, op := Op.load 3 (Operand.tmp 11), type := 3, pos := "plane.go:213", after := #[{ on := 4, ground := Ground.data }], guard := none }) (v := ?_) rfl (by kernel_rfl) (by kernel_rfl) (by kernel_rfl) (by kernel_rfl) (fun _ _ _ h => h) (Or.inl ⟨by rfl, ?_⟩) ?_; rotate_left; (intro w hw; have hS1 := hw.1 (by kernel_rfl); clear hw; (try dsimp only at hS1); (try go_split_ands); go_simp; try (with_reducible rfl)); simp only [Act.put, List.setIfInBounds_toArray, List.set_cons_zero, List.set_cons_succ])
  (refine Walk.take (i := 6) (oi := { dst := some 13, op := Op.binOp BinOp.mul 3 (Operand.tmp 10) (Operand.tmp 12) 3, type := 3, pos := "plane.go:213", after := #[{ on := 3, ground := Ground.data }, { on := 5, ground := Ground.data }], guard := none }) (v := ?_) rfl (by kernel_rfl) (by kernel_rfl) (by kernel_rfl) (by kernel_rfl) (fun _ _ _ h => h) (Or.inl ⟨by rfl, ?_⟩) ?_; rotate_left; (intro w hw; clear hw; (try go_split_ands); go_simp; try (with_reducible rfl)); simp only [Act.put, List.setIfInBounds_toArray, List.set_cons_zero, List.set_cons_succ])
  (refine Walk.take (i := 7) (oi := { dst := some 14, op := Op.binOp BinOp.add 3 (Operand.tmp 8) (Operand.tmp 13) 3, type := 3, pos := "plane.go:213", after := #[{ on := 1, ground := Ground.data }, { on := 6, ground := Ground.data }], guard := none }) (v := ?_) rfl (by kernel_rfl) (by kernel_rfl) (by kernel_rfl) (by kernel_rfl) (fun _ _ _ h => h) (Or.inl ⟨by rfl, ?_⟩) ?_; rotate_left; (intro w hw; clear hw; (try go_split_ands); go_simp; try (with_reducible rfl)); simp only [Act.put, List.setIfInBounds_toArray, List.set_cons_zero, List.set_cons_succ])
  (refine Walk.take (i := 8) (oi := { dst := some 15, op := Op.fieldAddr 91 (Operand.tmp 2) 5, type := 0, pos := "plane.go:213", after := #[{ on := 18, ground := Ground.gcOnly Departure.lateStores }], guard := none }) (v := ?_) rfl (by kernel_rfl) (by kernel_rfl) (by kernel_rfl) (by kernel_rfl) (fun _ _ _ h => h) (Or.inl ⟨by rfl, ?_⟩) ?_; rotate_left; (intro w hw; clear hw; (try go_split_ands); go_simp; try (with_reducible rfl)); simp only [Act.put, List.setIfInBounds_toArray, List.set_cons_zero, List.set_cons_succ])
  (refine Walk.take (i := 9) (oi := { dst := some 16, op := Op.load 3 (Operand.tmp 15), type := 3, pos := "plane.go:213", after := #[{ on := 8, ground := Ground.data }, { on := 18, ground := Ground.gcOnly Departure.lateStores }], guard := none }) (v := ?_) rfl (by kernel_rfl) (by kernel_rfl) (by kernel_rfl) (by kernel_rfl) (fun _ _ _ h => h) (Or.inl ⟨by rfl, ?_⟩) ?_; rotate_left; (intro w hw; have hS1 := hw.1 (by kernel_rfl); clear hw; (try dsimp only at hS1); (try go_split_ands); go_simp; try (with_reducible rfl)); simp only [Act.put, List.setIfInBounds_toArray, List.set_cons_zero, List.set_cons_succ])
  (refine Walk.take (i := 10) (oi := { dst := some 17, op := Op.move (Operand.tmp 1), type := 3, pos := "plane.go:213", after := #[{ on := 18, ground := Ground.gcOnly Departure.lateStores }], guard := none }) (v := ?_) rfl (by kernel_rfl) (by kernel_rfl) (by kernel_rfl) (by kernel_rfl) (fun _ _ _ h => h) (Or.inl ⟨by rfl, ?_⟩) ?_; rotate_left; (intro w hw; clear hw; (try go_split_ands); go_simp; try (with_reducible rfl)); simp only [Act.put, List.setIfInBounds_toArray, List.set_cons_zero, List.set_cons_succ])
  (refine Walk.take (i := 11) (oi := { dst := some 18, op := Op.binOp BinOp.quo 3 (Operand.tmp 17) (Operand.const (Value.int IntKind.i64 8)) 3, type := 3, pos := "plane.go:213", after := #[{ on := 10, ground := Ground.data }, { on := 18, ground := Ground.gcOnly Departure.lateStores }], guard := none }) (v := ?_) rfl (by kernel_rfl) (by kernel_rfl) (by kernel_rfl) (by kernel_rfl) (fun _ _ _ h => h) (Or.inl ⟨by rfl, ?_⟩) ?_; rotate_left; (intro w hw; clear hw; (try go_split_ands); go_simp; try (with_reducible rfl)); simp only [Act.put, List.setIfInBounds_toArray, List.set_cons_zero, List.set_cons_succ])
  (refine Walk.take (i := 12) (oi := { dst := some 19, op := Op.fieldAddr 91 (Operand.tmp 2) 7, type := 0, pos := "plane.go:213", after := #[{ on := 18, ground := Ground.gcOnly Departure.lateStores }], guard := none }) (v := ?_) rfl (by kernel_rfl) (by kernel_rfl) (by kernel_rfl) (by kernel_rfl) (fun _ _ _ h => h) (Or.inl ⟨by rfl, ?_⟩) ?_; rotate_left; (intro w hw; clear hw; (try go_split_ands); go_simp; try (with_reducible rfl)); simp only [Act.put, List.setIfInBounds_toArray, List.set_cons_zero, List.set_cons_succ])
  (refine Walk.take (i := 13) (oi := { dst := some 20, op := Op.load 3 (Operand.tmp 19), type := 3, pos := "plane.go:213", after := #[{ on := 12, ground := Ground.data }, { on := 18, ground := Ground.gcOnly Departure.lateStores }], guard := none }) (v := ?_) rfl (by kernel_rfl) (by kernel_rfl) (by kernel_rfl) (by kernel_rfl) (fun _ _ _ h => h) (Or.inl ⟨by rfl, ?_⟩) ?_; rotate_left; (intro w hw; have hS1 := hw.1 (by kernel_rfl); clear hw; (try dsimp only at hS1); (try go_split_ands); go_simp; try (with_reducible rfl)); simp only [Act.put, List.setIfInBounds_toArray, List.set_cons_zero, List.set_cons_succ])
  (refine Walk.take (i := 14) (oi := { dst := some 21, op := Op.binOp BinOp.mul 3 (Operand.tmp 18) (Operand.tmp 20) 3, type := 3, pos := "plane.go:213", after := #[{ on := 11, ground := Ground.data }, { on := 13, ground := Ground.data }, { on := 18, ground := Ground.gcOnly Departure.lateStores }], guard := none }) (v := ?_) rfl (by kernel_rfl) (by kernel_rfl) (by kernel_rfl) (by kernel_rfl) (fun _ _ _ h => h) (Or.inl ⟨by rfl, ?_⟩) ?_; rotate_left; (intro w hw; clear hw; (try go_split_ands); go_simp; try (with_reducible rfl)); simp only [Act.put, List.setIfInBounds_toArray, List.set_cons_zero, List.set_cons_succ])
  (refine Walk.take (i := 15) (oi := { dst := some 22, op := Op.binOp BinOp.add 3 (Operand.tmp 16) (Operand.tmp 21) 3, type := 3, pos := "plane.go:213", after := #[{ on := 9, ground := Ground.data }, { on := 14, ground := Ground.data }, { on := 18, ground := Ground.gcOnly Departure.lateStores }], guard := none }) (v := ?_) rfl (by kernel_rfl) (by kernel_rfl) (by kernel_rfl) (by kernel_rfl) (fun _ _ _ h => h) (Or.inl ⟨by rfl, ?_⟩) ?_; rotate_left; (intro w hw; clear hw; (try go_split_ands); go_simp; try (with_reducible rfl)); simp only [Act.put, List.setIfInBounds_toArray, List.set_cons_zero, List.set_cons_succ])
  refine Walk.both (i := 16) (j := 17) (oi := { dst := some 5, op := Op.alloc 3, type := 0, pos := "plane.go:213", after := #[], guard := none }) (oj := { dst := some 6, op := Op.alloc 3, type := 0, pos := "plane.go:213", after := #[], guard := none }) (by kernel_rfl) rfl rfl (fun K hK => ?_) (fun K hK => ?_)
  · go_simp; (replace kk := kk.made 3 [.int .i64 0]); refine hK.out _ _ (⟨fun _ => spot_four (kk.get (b := w.heap.size) (t := 91) (c := s.cells) (by simp)), fun _ => trivial⟩) ?_; clear hK K; try simp only [Act.put, List.setIfInBounds_toArray, List.set_cons_zero, List.set_cons_succ]
    have hn1 := kk.head.lt
    (refine Walk.go (i := 17) (o := { dst := some 6, op := Op.alloc 3, type := 0, pos := "plane.go:213", after := #[], guard := none }) (by kernel_rfl) rfl (fun K hK => ?_); go_simp; (replace kk := kk.made 3 [.int .i64 0]); refine hK.out _ _ (⟨fun _ => spot_four (kk.get (b := w.heap.size) (t := 91) (c := s.cells) (by simp)), fun _ => trivial⟩) ?_; clear hK K; try simp only [Act.put, List.setIfInBounds_toArray, List.set_cons_zero, List.set_cons_succ])
    simp only [World.size_alloc] at kk
    revert kk
    generalize (WD.alloc (.cells #[.int .i64 0] 3)).alloc (.cells #[.int .i64 0] 3) = W2
    intro kk
    replace kk := kk.swap
    have qq := kk.head.at 0
    have ff := kk.head.frozen 0
    simp only [List.getElem?_cons_zero] at qq
    (refine Walk.go (i := 18) (o := { dst := none, op := Op.store 3 (Operand.tmp 5) (Operand.tmp 14), type := 0, pos := "plane.go:213", after := #[{ on := 16, ground := Ground.data }, { on := 7, ground := Ground.data }, { on := 0, ground := Ground.phase }, { on := 1, ground := Ground.phase }, { on := 2, ground := Ground.phase }, { on := 3, ground := Ground.phase }, { on := 4, ground := Ground.phase }, { on := 5, ground := Ground.phase }, { on := 6, ground := Ground.phase }, { on := 7, ground := Ground.phase }, { on := 8, ground := Ground.textOnly Departure.lateStores }, { on := 9, ground := Ground.textOnly Departure.lateStores }, { on := 10, ground := Ground.textOnly Departure.lateStores }, { on := 11, ground := Ground.textOnly Departure.lateStores }, { on := 12, ground := Ground.textOnly Departure.lateStores }, { on := 13, ground := Ground.textOnly Departure.lateStores }, { on := 14, ground := Ground.textOnly Departure.lateStores }, { on := 15, ground := Ground.textOnly Departure.lateStores }, { on := 16, ground := Ground.phase }, { on := 17, ground := Ground.phase }], guard := none }) (by kernel_rfl) rfl (fun K hK => ?_); go_simp; (replace kk := kk.set 0 (.int .i64 (s.x + k % 8 * s.wide)); clear qq ff); refine hK.out _ _ (⟨fun _ => spot_four (kk.get (b := w.heap.size) (t := 91) (c := s.cells) (by simp)), fun _ => trivial⟩) ?_; clear hK K; try simp only [Act.put, List.setIfInBounds_toArray, List.set_cons_zero, List.set_cons_succ])
    replace kk := kk.swap
    have qq := kk.head.at 0
    have ff := kk.head.frozen 0
    simp only [List.getElem?_cons_zero] at qq
    (refine Walk.go (i := 19) (o := { dst := none, op := Op.store 3 (Operand.tmp 6) (Operand.tmp 22), type := 0, pos := "plane.go:213", after := #[{ on := 17, ground := Ground.data }, { on := 15, ground := Ground.data }, { on := 18, ground := Ground.chain }, { on := 0, ground := Ground.phase }, { on := 1, ground := Ground.phase }, { on := 2, ground := Ground.phase }, { on := 3, ground := Ground.phase }, { on := 4, ground := Ground.phase }, { on := 5, ground := Ground.phase }, { on := 6, ground := Ground.phase }, { on := 7, ground := Ground.phase }, { on := 8, ground := Ground.phase }, { on := 9, ground := Ground.phase }, { on := 10, ground := Ground.phase }, { on := 11, ground := Ground.phase }, { on := 12, ground := Ground.phase }, { on := 13, ground := Ground.phase }, { on := 14, ground := Ground.phase }, { on := 15, ground := Ground.phase }, { on := 16, ground := Ground.phase }, { on := 17, ground := Ground.phase }, { on := 18, ground := Ground.phase }], guard := none }) (by kernel_rfl) rfl (fun K hK => ?_); go_simp; (replace kk := kk.set 0 (.int .i64 (s.y + k / 8 * s.high)); clear qq ff); refine hK.out _ _ (⟨fun _ => spot_four (kk.get (b := w.heap.size) (t := 91) (c := s.cells) (by simp)), fun _ => trivial⟩) ?_; clear hK K; try simp only [Act.put, List.setIfInBounds_toArray, List.set_cons_zero, List.set_cons_succ])
    refine Walk.done (by kernel_rfl) ?_ _
    go_wp2_with fail
    go_ret
    exact ⟨_, _, rfl, kk.swap⟩
  · go_simp; (replace kk := kk.made 3 [.int .i64 0]); refine hK.out _ _ (⟨fun _ => spot_four (kk.get (b := w.heap.size) (t := 91) (c := s.cells) (by simp)), fun _ => trivial⟩) ?_; clear hK K; try simp only [Act.put, List.setIfInBounds_toArray, List.set_cons_zero, List.set_cons_succ]
    have hn1 := kk.head.lt
    (refine Walk.go (i := 16) (o := { dst := some 5, op := Op.alloc 3, type := 0, pos := "plane.go:213", after := #[], guard := none }) (by kernel_rfl) rfl (fun K hK => ?_); go_simp; (replace kk := kk.made 3 [.int .i64 0]); refine hK.out _ _ (⟨fun _ => spot_four (kk.get (b := w.heap.size) (t := 91) (c := s.cells) (by simp)), fun _ => trivial⟩) ?_; clear hK K; try simp only [Act.put, List.setIfInBounds_toArray, List.set_cons_zero, List.set_cons_succ])
    simp only [World.size_alloc] at kk
    revert kk
    generalize (WD.alloc (.cells #[.int .i64 0] 3)).alloc (.cells #[.int .i64 0] 3) = W2
    intro kk
    have qq := kk.head.at 0
    have ff := kk.head.frozen 0
    simp only [List.getElem?_cons_zero] at qq
    (refine Walk.go (i := 18) (o := { dst := none, op := Op.store 3 (Operand.tmp 5) (Operand.tmp 14), type := 0, pos := "plane.go:213", after := #[{ on := 16, ground := Ground.data }, { on := 7, ground := Ground.data }, { on := 0, ground := Ground.phase }, { on := 1, ground := Ground.phase }, { on := 2, ground := Ground.phase }, { on := 3, ground := Ground.phase }, { on := 4, ground := Ground.phase }, { on := 5, ground := Ground.phase }, { on := 6, ground := Ground.phase }, { on := 7, ground := Ground.phase }, { on := 8, ground := Ground.textOnly Departure.lateStores }, { on := 9, ground := Ground.textOnly Departure.lateStores }, { on := 10, ground := Ground.textOnly Departure.lateStores }, { on := 11, ground := Ground.textOnly Departure.lateStores }, { on := 12, ground := Ground.textOnly Departure.lateStores }, { on := 13, ground := Ground.textOnly Departure.lateStores }, { on := 14, ground := Ground.textOnly Departure.lateStores }, { on := 15, ground := Ground.textOnly Departure.lateStores }, { on := 16, ground := Ground.phase }, { on := 17, ground := Ground.phase }], guard := none }) (by kernel_rfl) rfl (fun K hK => ?_); go_simp; (replace kk := kk.set 0 (.int .i64 (s.x + k % 8 * s.wide)); clear qq ff); refine hK.out _ _ (⟨fun _ => spot_four (kk.get (b := w.heap.size) (t := 91) (c := s.cells) (by simp)), fun _ => trivial⟩) ?_; clear hK K; try simp only [Act.put, List.setIfInBounds_toArray, List.set_cons_zero, List.set_cons_succ])
    replace kk := kk.swap
    have qq := kk.head.at 0
    have ff := kk.head.frozen 0
    simp only [List.getElem?_cons_zero] at qq
    (refine Walk.go (i := 19) (o := { dst := none, op := Op.store 3 (Operand.tmp 6) (Operand.tmp 22), type := 0, pos := "plane.go:213", after := #[{ on := 17, ground := Ground.data }, { on := 15, ground := Ground.data }, { on := 18, ground := Ground.chain }, { on := 0, ground := Ground.phase }, { on := 1, ground := Ground.phase }, { on := 2, ground := Ground.phase }, { on := 3, ground := Ground.phase }, { on := 4, ground := Ground.phase }, { on := 5, ground := Ground.phase }, { on := 6, ground := Ground.phase }, { on := 7, ground := Ground.phase }, { on := 8, ground := Ground.phase }, { on := 9, ground := Ground.phase }, { on := 10, ground := Ground.phase }, { on := 11, ground := Ground.phase }, { on := 12, ground := Ground.phase }, { on := 13, ground := Ground.phase }, { on := 14, ground := Ground.phase }, { on := 15, ground := Ground.phase }, { on := 16, ground := Ground.phase }, { on := 17, ground := Ground.phase }, { on := 18, ground := Ground.phase }], guard := none }) (by kernel_rfl) rfl (fun K hK => ?_); go_simp; (replace kk := kk.set 0 (.int .i64 (s.y + k / 8 * s.high)); clear qq ff); refine hK.out _ _ (⟨fun _ => spot_four (kk.get (b := w.heap.size) (t := 91) (c := s.cells) (by simp)), fun _ => trivial⟩) ?_; clear hK K; try simp only [Act.put, List.setIfInBounds_toArray, List.set_cons_zero, List.set_cons_succ])
    refine Walk.done (by kernel_rfl) ?_ _
    go_wp2_with fail
    go_ret
    exact ⟨_, _, rfl, kk.swap⟩

end Go.Proofs.Ytppbnmlgilgnnaa
