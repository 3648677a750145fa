/- For every block of numbers, every list of bytes and every byte k, the law DctTurns of layer 8 returns true: Forward and Back of any block, and of choices, are what the chapter says. No condition. -/
import Derived.Test.YtlidijlmbelhhaaDoorDcTab
import Derived.Test.YtlidijlmbelhhaaDoorDcLaw
import Derived.Test.YtlidijlmbelhhaaDoorDcBlk
import Derived.Test.YtlidijlmbelhhaaDoorDc8
import Derived.Test.YtlidijlmbelhhaaDoorDc9
import Derived.Test.YtlidijlmbelhhaaDoorFrame
import Derived.Test.YtlidijlmbelhhaaDoorRows
import Derived.Test.YtlidijlmbelhhaaDoorDcTab
import Derived.Test.YtlidijlmbelhhaaDoorCards
import Derived.Test.YtlidijlmbelhhaaDoorTie
namespace Go.Proofs.YtlidijlmbelhhaaDoor.dctTurns
open Go.ChangeShapes Go.WideShapes Go.ChangeAt Go.RowKit
set_option linter.unusedVariables false

theorem own : ownKnob Tryd.prog.godebug = none := by kernel_rfl
theorem laidOut : laidOutB Tryd.prog = true := by kernel_rfl
theorem readable : ∀ t ∈ Tryd.f3.params.toList, Tryd.prog.readableRec t = true ∧ t < Tryd.prog.types.size := by
  rw [Tryd.params3]
  simp only [List.mem_cons, List.not_mem_nil, or_false, forall_eq_or_imp, forall_eq]
  refine ⟨⟨by kernel_rfl, of_decide_eq_true (by kernel_rfl)⟩, ⟨by kernel_rfl, of_decide_eq_true (by kernel_rfl)⟩, ⟨by kernel_rfl, of_decide_eq_true (by kernel_rfl)⟩⟩

set_option maxHeartbeats 20000000 in
set_option maxRecDepth 100000 in
theorem walk (w : World) (hT : Tab w) (b0 : Nat → Int) (y0 : ∀ j, j < 64 → I64 (b0 j)) (v1 : Value) (l1 : List Int) (s1 : View w .u8 v1 l1) (x1 : ∀ x ∈ l1, 0 ≤ x ∧ x ≤ 255) (n1 : l1.length ≤ 140737488355328) (a2 : Int) (w2 : (Lit.int .u8 a2).wf = true) :
    Calls Tryd.prog 3 #[.agg (tab .i64 64 b0).toArray, v1, .int .u8 a2] w fun e w' => e = .returned (.bool true) ∧ But Nowhere w w' := by
  have hu := Tryd.underlying23
  have hiA : ∀ f, (Tryd.prog.info? 23).map (·.size) = some (tab .i64 64 f).length := fun f => by rw [tab_length]; kernel_rfl
  have hiB : ∀ f, (Tryd.prog.info? 23).map (·.size) = some (tab .i64 64 f).toArray.size := fun f => by rw [List.size_toArray, tab_length]; kernel_rfl
  have u2 := u8_in w2
  have kk := (Keep.start w).made 23 (tab .i64 64 b0)
  go_enter Tryd.func3, Tryd.ntmps3
  go_wp2_with fail
  refine (block_any v1 l1 a2 u2 _ (s1.but kk.but) x1 (by omega)).mono ?_
  rintro e x9 ⟨f, rfl, hf, dd⟩
  replace kk := kk.step dd
  clear dd
  replace kk := kk.zero 23
  have hth := kk.head.there 0 (tab .i64 64 f).toArray.size (by rw [List.size_toArray, tab_length, tab_length]; omega)
  replace kk := kk.layAll f
  have HX : Hid _ := kk
  clear kk
  go_upto_region 2 with (refine wpList_store_mid rfl 23 (.tmp 7) (.tmp 11) rfl x9.heap.size 0 (tab .i64 64 f).toArray rfl rfl ?_ (hiB _) (tab_all _ _ _) ?_; exact hth)
  have kk := HX.out
  clear HX hth
  revert kk
  obtain ⟨XB, hXB⟩ : ∃ b, x9.heap.size = b := ⟨_, rfl⟩
  rw [hXB]
  clear hXB
  generalize (x9.alloc (.cells (Value.int .i64 0 :: Value.int .i64 0 :: Value.int .i64 0 :: Value.int .i64 0 :: Value.int .i64 0 :: Value.int .i64 0 :: Value.int .i64 0 :: Value.int .i64 0 :: Value.int .i64 0 :: Value.int .i64 0 :: Value.int .i64 0 :: Value.int .i64 0 :: Value.int .i64 0 :: Value.int .i64 0 :: Value.int .i64 0 :: Value.int .i64 0 :: Value.int .i64 0 :: Value.int .i64 0 :: Value.int .i64 0 :: Value.int .i64 0 :: Value.int .i64 0 :: Value.int .i64 0 :: Value.int .i64 0 :: Value.int .i64 0 :: Value.int .i64 0 :: Value.int .i64 0 :: Value.int .i64 0 :: Value.int .i64 0 :: Value.int .i64 0 :: Value.int .i64 0 :: Value.int .i64 0 :: Value.int .i64 0 :: Value.int .i64 0 :: Value.int .i64 0 :: Value.int .i64 0 :: Value.int .i64 0 :: Value.int .i64 0 :: Value.int .i64 0 :: Value.int .i64 0 :: Value.int .i64 0 :: Value.int .i64 0 :: Value.int .i64 0 :: Value.int .i64 0 :: Value.int .i64 0 :: Value.int .i64 0 :: Value.int .i64 0 :: Value.int .i64 0 :: Value.int .i64 0 :: Value.int .i64 0 :: Value.int .i64 0 :: Value.int .i64 0 :: Value.int .i64 0 :: Value.int .i64 0 :: Value.int .i64 0 :: Value.int .i64 0 :: Value.int .i64 0 :: Value.int .i64 0 :: Value.int .i64 0 :: Value.int .i64 0 :: Value.int .i64 0 :: Value.int .i64 0 :: Value.int .i64 0 :: Value.int .i64 0 :: Value.int .i64 0 :: []).toArray 23)).setCells XB 0 (tab .i64 64 f) = WXB
  intro kk
  try simp only [Act.put]
  have hr := (kk.get (b := XB) (t := 23) (c := tab .i64 64 f) (by simp)).all
  go_wp2_with (refine wpList_load_mid rfl 23 (.tmp 7) rfl XB 0 rfl (tab .i64 64 f) _ ?_ hu rfl (hiA _) ?_; exact hr)
  refine (refForward_any f _).mono ?_
  rintro e x8 ⟨rfl, dd⟩
  replace kk := kk.step dd
  clear dd hr
  replace kk := kk.zero 23
  have hth := kk.head.there 0 (tab .i64 64 (fwd f)).toArray.size (by rw [List.size_toArray, tab_length, tab_length]; omega)
  replace kk := kk.layAll (fwd f)
  have HX : Hid _ := kk
  clear kk
  go_upto_region 3 with (refine wpList_store_mid rfl 23 (.tmp 8) (.tmp 13) rfl x8.heap.size 0 (tab .i64 64 (fwd f)).toArray rfl rfl ?_ (hiB _) (tab_all _ _ _) ?_; exact hth)
  have kk := HX.out
  clear HX hth
  revert kk
  obtain ⟨YB, hYB⟩ : ∃ b, x8.heap.size = b := ⟨_, rfl⟩
  rw [hYB]
  clear hYB
  generalize (x8.alloc (.cells (Value.int .i64 0 :: Value.int .i64 0 :: Value.int .i64 0 :: Value.int .i64 0 :: Value.int .i64 0 :: Value.int .i64 0 :: Value.int .i64 0 :: Value.int .i64 0 :: Value.int .i64 0 :: Value.int .i64 0 :: Value.int .i64 0 :: Value.int .i64 0 :: Value.int .i64 0 :: Value.int .i64 0 :: Value.int .i64 0 :: Value.int .i64 0 :: Value.int .i64 0 :: Value.int .i64 0 :: Value.int .i64 0 :: Value.int .i64 0 :: Value.int .i64 0 :: Value.int .i64 0 :: Value.int .i64 0 :: Value.int .i64 0 :: Value.int .i64 0 :: Value.int .i64 0 :: Value.int .i64 0 :: Value.int .i64 0 :: Value.int .i64 0 :: Value.int .i64 0 :: Value.int .i64 0 :: Value.int .i64 0 :: Value.int .i64 0 :: Value.int .i64 0 :: Value.int .i64 0 :: Value.int .i64 0 :: Value.int .i64 0 :: Value.int .i64 0 :: Value.int .i64 0 :: Value.int .i64 0 :: Value.int .i64 0 :: Value.int .i64 0 :: Value.int .i64 0 :: Value.int .i64 0 :: Value.int .i64 0 :: Value.int .i64 0 :: Value.int .i64 0 :: Value.int .i64 0 :: Value.int .i64 0 :: Value.int .i64 0 :: Value.int .i64 0 :: Value.int .i64 0 :: Value.int .i64 0 :: Value.int .i64 0 :: Value.int .i64 0 :: Value.int .i64 0 :: Value.int .i64 0 :: Value.int .i64 0 :: Value.int .i64 0 :: Value.int .i64 0 :: Value.int .i64 0 :: Value.int .i64 0 :: Value.int .i64 0 :: Value.int .i64 0 :: []).toArray 23)).setCells YB 0 (tab .i64 64 (fwd f)) = WYB
  intro kk
  try simp only [Act.put]
  have hEq : ∀ g V, (Op.equalIn 10000 23 (.agg (tab .i64 64 g).toArray) (.agg (tab .i64 64 g).toArray)).run Tryd.prog V = .ok true V := fun g V => equal_block g g (fun _ _ => rfl) V
  replace kk := kk.drew
  refine wp_region_till (S := fun V => V.rangeAt XB 0 (tab .i64 64 f) ∧ V.rangeAt YB 0 (tab .i64 64 (fwd f)) ∧ V.rangeAt w.heap.size 0 (tab .i64 64 b0)) (R := fun _ => True) (k := 100) (m := 100) (by kernel_rfl) ⟨(kk.get (b := XB) (t := 23) (c := tab .i64 64 f) (by simp)).all, (kk.get (b := YB) (t := 23) (c := tab .i64 64 (fwd f)) (by simp)).all, (kk.get (b := w.heap.size) (t := 23) (c := tab .i64 64 b0) (by simp)).all⟩ trivial ?_
  revert kk
  generalize WYB.drew = WG
  intro kk
  (refine Walk.go (i := 0) (o := { dst := some 14, op := Op.call { callee := Callee.value (Operand.func 12), args := #[], argTypes := #[] }, type := 4, pos := "law.go:56", after := #[], guard := none }) (by kernel_rfl) rfl (fun K hK => ?_); go_simp; ((go_at_call 12; refine (known_any _ (hT.but kk.but)).mono ?_; rintro e y1 ⟨rfl, dd⟩; replace kk := kk.step dd; clear dd)); refine hK.out _ _ (⟨fun _ => ⟨(kk.get (b := XB) (t := 23) (c := tab .i64 64 f) (by simp)).all, (kk.get (b := YB) (t := 23) (c := tab .i64 64 (fwd f)) (by simp)).all, (kk.get (b := w.heap.size) (t := 23) (c := tab .i64 64 b0) (by simp)).all⟩, fun _ => trivial⟩) ?_; clear hK K; try simp only [Act.put, List.setIfInBounds_toArray, List.set_cons_zero, List.set_cons_succ])
  (refine Walk.take (i := 1) (oi := { dst := some 15, op := Op.move (Operand.tmp 14), type := 4, pos := "law.go:56", after := #[{ on := 0, ground := Ground.data }, { on := 0, ground := Ground.chain }], guard := none }) (v := ?_) rfl (by kernel_rfl) (by kernel_rfl) (by kernel_rfl) (by kernel_rfl) (fun _ _ _ h => h) (Or.inl ⟨by rfl, ?_⟩) ?_; rotate_left; (intro w hw; clear hw; (try go_split_ands); go_simp; try (with_reducible rfl)); simp only [Act.put, List.setIfInBounds_toArray, List.set_cons_zero, List.set_cons_succ])
  (refine Walk.take (i := 2) (oi := { dst := some 16, op := Op.load 23 (Operand.tmp 3), type := 23, pos := "law.go:56", after := #[{ on := 1, ground := Ground.guard }], guard := some (1, true) }) (v := .agg (tab .i64 64 b0).toArray) rfl (by kernel_rfl) (by kernel_rfl) (by kernel_rfl) (by kernel_rfl) (fun _ _ _ h => h) (yieldsIf_load_mid rfl 23 (.tmp 3) rfl (w.heap.size) 0 rfl (tab .i64 64 b0) _ (fun w hw => (hw.1 (by kernel_rfl)).2.2) hu rfl (hiA _)) ?_; simp only [Act.put, List.setIfInBounds_toArray, List.set_cons_zero, List.set_cons_succ])
  (refine Walk.take (i := 4) (oi := { dst := some 18, op := Op.load 23 (Operand.tmp 3), type := 23, pos := "law.go:56", after := #[{ on := 1, ground := Ground.guard }], guard := some (1, true) }) (v := .agg (tab .i64 64 b0).toArray) rfl (by kernel_rfl) (by kernel_rfl) (by kernel_rfl) (by kernel_rfl) (fun _ _ _ h => h) (yieldsIf_load_mid rfl 23 (.tmp 3) rfl (w.heap.size) 0 rfl (tab .i64 64 b0) _ (fun w hw => (hw.1 (by kernel_rfl)).2.2) hu rfl (hiA _)) ?_; simp only [Act.put, List.setIfInBounds_toArray, List.set_cons_zero, List.set_cons_succ])
  (refine Walk.go (i := 3) (o := { dst := some 17, op := Op.call { callee := Callee.value (Operand.func 13), args := #[Operand.tmp 16], argTypes := #[23] }, type := 23, pos := "law.go:56", after := #[{ on := 2, ground := Ground.data }, { on := 1, ground := Ground.chain }, { on := 1, ground := Ground.guard }], guard := some (1, true) }) (by kernel_rfl) rfl (fun K hK => ?_); go_simp; ((go_at_call 13; refine (dctForward_any b0 _ (hT.but kk.but)).mono ?_; rintro e y2 ⟨rfl, dd⟩; replace kk := kk.step dd; clear dd)); refine hK.out _ _ (⟨fun _ => ⟨(kk.get (b := XB) (t := 23) (c := tab .i64 64 f) (by simp)).all, (kk.get (b := YB) (t := 23) (c := tab .i64 64 (fwd f)) (by simp)).all, (kk.get (b := w.heap.size) (t := 23) (c := tab .i64 64 b0) (by simp)).all⟩, fun _ => trivial⟩) ?_; clear hK K; try simp only [Act.put, List.setIfInBounds_toArray, List.set_cons_zero, List.set_cons_succ])
  (refine Walk.go (i := 5) (o := { dst := some 19, op := Op.call { callee := Callee.value (Operand.func 11), args := #[Operand.tmp 18], argTypes := #[23] }, type := 23, pos := "law.go:56", after := #[{ on := 4, ground := Ground.data }, { on := 3, ground := Ground.chain }, { on := 1, ground := Ground.guard }], guard := some (1, true) }) (by kernel_rfl) rfl (fun K hK => ?_); go_simp; ((go_at_call 11; refine (refForward_any b0 _).mono ?_; rintro e y3 ⟨rfl, dd⟩; replace kk := kk.step dd; clear dd)); refine hK.out _ _ (⟨fun _ => ⟨(kk.get (b := XB) (t := 23) (c := tab .i64 64 f) (by simp)).all, (kk.get (b := YB) (t := 23) (c := tab .i64 64 (fwd f)) (by simp)).all, (kk.get (b := w.heap.size) (t := 23) (c := tab .i64 64 b0) (by simp)).all⟩, fun _ => trivial⟩) ?_; clear hK K; try simp only [Act.put, List.setIfInBounds_toArray, List.set_cons_zero, List.set_cons_succ])
  (refine Walk.take (i := 6) (oi := { dst := some 20, op := Op.binOp BinOp.eql 23 (Operand.tmp 17) (Operand.tmp 19) 23, type := 4, pos := "law.go:56", after := #[{ on := 3, ground := Ground.data }, { on := 5, ground := Ground.data }, { on := 1, ground := Ground.guard }], guard := some (1, true) }) (v := ?_) rfl (by kernel_rfl) (by kernel_rfl) (by kernel_rfl) (by kernel_rfl) (fun _ _ _ h => h) (Or.inl ⟨by rfl, ?_⟩) ?_; rotate_left; (intro w hw; clear hw; (try go_split_ands); go_simp; try (with_reducible rfl)); simp only [Act.put, List.setIfInBounds_toArray, List.set_cons_zero, List.set_cons_succ])
  (refine Walk.take (i := 7) (oi := { dst := some 21, op := Op.pick (Operand.tmp 15) (Operand.tmp 20) (Operand.const (Value.bool false)), type := 4, pos := "law.go:56", after := #[{ on := 1, ground := Ground.data }, { on := 6, ground := Ground.data }], guard := none }) (v := ?_) rfl (by kernel_rfl) (by kernel_rfl) (by kernel_rfl) (by kernel_rfl) (fun _ _ _ h => h) (Or.inl ⟨by rfl, ?_⟩) ?_; rotate_left; (intro w hw; clear hw; (try go_split_ands); go_simp; try (with_reducible rfl)); simp only [Act.put, List.setIfInBounds_toArray, List.set_cons_zero, List.set_cons_succ])
  (refine Walk.take (i := 8) (oi := { dst := some 22, op := Op.move (Operand.tmp 21), type := 4, pos := "law.go:56", after := #[{ on := 7, ground := Ground.data }, { on := 5, ground := Ground.chain }], guard := none }) (v := ?_) rfl (by kernel_rfl) (by kernel_rfl) (by kernel_rfl) (by kernel_rfl) (fun _ _ _ h => h) (Or.inl ⟨by rfl, ?_⟩) ?_; rotate_left; (intro w hw; clear hw; (try go_split_ands); go_simp; try (with_reducible rfl)); simp only [Act.put, List.setIfInBounds_toArray, List.set_cons_zero, List.set_cons_succ])
  (refine Walk.take (i := 9) (oi := { dst := some 23, op := Op.load 23 (Operand.tmp 3), type := 23, pos := "law.go:56", after := #[{ on := 8, ground := Ground.guard }], guard := some (8, true) }) (v := .agg (tab .i64 64 b0).toArray) rfl (by kernel_rfl) (by kernel_rfl) (by kernel_rfl) (by kernel_rfl) (fun _ _ _ h => h) (yieldsIf_load_mid rfl 23 (.tmp 3) rfl (w.heap.size) 0 rfl (tab .i64 64 b0) _ (fun w hw => (hw.1 (by kernel_rfl)).2.2) hu rfl (hiA _)) ?_; simp only [Act.put, List.setIfInBounds_toArray, List.set_cons_zero, List.set_cons_succ])
  (refine Walk.take (i := 11) (oi := { dst := some 25, op := Op.load 23 (Operand.tmp 3), type := 23, pos := "law.go:56", after := #[{ on := 8, ground := Ground.guard }], guard := some (8, true) }) (v := .agg (tab .i64 64 b0).toArray) rfl (by kernel_rfl) (by kernel_rfl) (by kernel_rfl) (by kernel_rfl) (fun _ _ _ h => h) (yieldsIf_load_mid rfl 23 (.tmp 3) rfl (w.heap.size) 0 rfl (tab .i64 64 b0) _ (fun w hw => (hw.1 (by kernel_rfl)).2.2) hu rfl (hiA _)) ?_; simp only [Act.put, List.setIfInBounds_toArray, List.set_cons_zero, List.set_cons_succ])
  (refine Walk.go (i := 10) (o := { dst := some 24, op := Op.call { callee := Callee.value (Operand.func 14), args := #[Operand.tmp 23], argTypes := #[23] }, type := 23, pos := "law.go:56", after := #[{ on := 9, ground := Ground.data }, { on := 8, ground := Ground.chain }, { on := 8, ground := Ground.guard }], guard := some (8, true) }) (by kernel_rfl) rfl (fun K hK => ?_); go_simp; ((go_at_call 14; refine (dctBack_any b0 _ (hT.but kk.but)).mono ?_; rintro e y4 ⟨rfl, dd⟩; replace kk := kk.step dd; clear dd)); refine hK.out _ _ (⟨fun _ => ⟨(kk.get (b := XB) (t := 23) (c := tab .i64 64 f) (by simp)).all, (kk.get (b := YB) (t := 23) (c := tab .i64 64 (fwd f)) (by simp)).all, (kk.get (b := w.heap.size) (t := 23) (c := tab .i64 64 b0) (by simp)).all⟩, fun _ => trivial⟩) ?_; clear hK K; try simp only [Act.put, List.setIfInBounds_toArray, List.set_cons_zero, List.set_cons_succ])
  (refine Walk.go (i := 12) (o := { dst := some 26, op := Op.call { callee := Callee.value (Operand.func 15), args := #[Operand.tmp 25], argTypes := #[23] }, type := 23, pos := "law.go:56", after := #[{ on := 11, ground := Ground.data }, { on := 10, ground := Ground.chain }, { on := 8, ground := Ground.guard }], guard := some (8, true) }) (by kernel_rfl) rfl (fun K hK => ?_); go_simp; ((go_at_call 15; refine (refBack_any b0 _).mono ?_; rintro e y5 ⟨rfl, dd⟩; replace kk := kk.step dd; clear dd)); refine hK.out _ _ (⟨fun _ => ⟨(kk.get (b := XB) (t := 23) (c := tab .i64 64 f) (by simp)).all, (kk.get (b := YB) (t := 23) (c := tab .i64 64 (fwd f)) (by simp)).all, (kk.get (b := w.heap.size) (t := 23) (c := tab .i64 64 b0) (by simp)).all⟩, fun _ => trivial⟩) ?_; clear hK K; try simp only [Act.put, List.setIfInBounds_toArray, List.set_cons_zero, List.set_cons_succ])
  (refine Walk.take (i := 13) (oi := { dst := some 27, op := Op.binOp BinOp.eql 23 (Operand.tmp 24) (Operand.tmp 26) 23, type := 4, pos := "law.go:56", after := #[{ on := 10, ground := Ground.data }, { on := 12, ground := Ground.data }, { on := 8, ground := Ground.guard }], guard := some (8, true) }) (v := ?_) rfl (by kernel_rfl) (by kernel_rfl) (by kernel_rfl) (by kernel_rfl) (fun _ _ _ h => h) (Or.inl ⟨by rfl, ?_⟩) ?_; rotate_left; (intro w hw; clear hw; (try go_split_ands); go_simp; try (with_reducible rfl)); simp only [Act.put, List.setIfInBounds_toArray, List.set_cons_zero, List.set_cons_succ])
  (refine Walk.take (i := 14) (oi := { dst := some 28, op := Op.pick (Operand.tmp 22) (Operand.tmp 27) (Operand.const (Value.bool false)), type := 4, pos := "law.go:56", after := #[{ on := 8, ground := Ground.data }, { on := 13, ground := Ground.data }], guard := none }) (v := ?_) rfl (by kernel_rfl) (by kernel_rfl) (by kernel_rfl) (by kernel_rfl) (fun _ _ _ h => h) (Or.inl ⟨by rfl, ?_⟩) ?_; rotate_left; (intro w hw; clear hw; (try go_split_ands); go_simp; try (with_reducible rfl)); simp only [Act.put, List.setIfInBounds_toArray, List.set_cons_zero, List.set_cons_succ])
  (refine Walk.take (i := 15) (oi := { dst := some 29, op := Op.move (Operand.tmp 28), type := 4, pos := "law.go:56", after := #[{ on := 14, ground := Ground.data }, { on := 12, ground := Ground.chain }], guard := none }) (v := ?_) rfl (by kernel_rfl) (by kernel_rfl) (by kernel_rfl) (by kernel_rfl) (fun _ _ _ h => h) (Or.inl ⟨by rfl, ?_⟩) ?_; rotate_left; (intro w hw; clear hw; (try go_split_ands); go_simp; try (with_reducible rfl)); simp only [Act.put, List.setIfInBounds_toArray, List.set_cons_zero, List.set_cons_succ])
  (refine Walk.take (i := 16) (oi := { dst := some 30, op := Op.load 23 (Operand.tmp 7), type := 23, pos := "law.go:56", after := #[{ on := 15, ground := Ground.guard }], guard := some (15, true) }) (v := .agg (tab .i64 64 f).toArray) rfl (by kernel_rfl) (by kernel_rfl) (by kernel_rfl) (by kernel_rfl) (fun _ _ _ h => h) (yieldsIf_load_mid rfl 23 (.tmp 7) rfl (XB) 0 rfl (tab .i64 64 f) _ (fun w hw => (hw.1 (by kernel_rfl)).1) hu rfl (hiA _)) ?_; simp only [Act.put, List.setIfInBounds_toArray, List.set_cons_zero, List.set_cons_succ])
  (refine Walk.take (i := 18) (oi := { dst := some 32, op := Op.load 23 (Operand.tmp 8), type := 23, pos := "law.go:56", after := #[{ on := 15, ground := Ground.guard }], guard := some (15, true) }) (v := .agg (tab .i64 64 (fwd f)).toArray) rfl (by kernel_rfl) (by kernel_rfl) (by kernel_rfl) (by kernel_rfl) (fun _ _ _ h => h) (yieldsIf_load_mid rfl 23 (.tmp 8) rfl (YB) 0 rfl (tab .i64 64 (fwd f)) _ (fun w hw => (hw.1 (by kernel_rfl)).2.1) hu rfl (hiA _)) ?_; simp only [Act.put, List.setIfInBounds_toArray, List.set_cons_zero, List.set_cons_succ])
  (refine Walk.go (i := 17) (o := { dst := some 31, op := Op.call { callee := Callee.value (Operand.func 13), args := #[Operand.tmp 30], argTypes := #[23] }, type := 23, pos := "law.go:56", after := #[{ on := 16, ground := Ground.data }, { on := 15, ground := Ground.chain }, { on := 15, ground := Ground.guard }], guard := some (15, true) }) (by kernel_rfl) rfl (fun K hK => ?_); go_simp; ((go_at_call 13; refine (dctForward_any f _ (hT.but kk.but)).mono ?_; rintro e y6 ⟨rfl, dd⟩; replace kk := kk.step dd; clear dd)); refine hK.out _ _ (⟨fun _ => ⟨(kk.get (b := XB) (t := 23) (c := tab .i64 64 f) (by simp)).all, (kk.get (b := YB) (t := 23) (c := tab .i64 64 (fwd f)) (by simp)).all, (kk.get (b := w.heap.size) (t := 23) (c := tab .i64 64 b0) (by simp)).all⟩, fun _ => trivial⟩) ?_; clear hK K; try simp only [Act.put, List.setIfInBounds_toArray, List.set_cons_zero, List.set_cons_succ])
  (refine Walk.take (i := 19) (oi := { dst := some 33, op := Op.binOp BinOp.eql 23 (Operand.tmp 31) (Operand.tmp 32) 23, type := 4, pos := "law.go:56", after := #[{ on := 17, ground := Ground.data }, { on := 18, ground := Ground.data }, { on := 15, ground := Ground.guard }], guard := some (15, true) }) (v := ?_) rfl (by kernel_rfl) (by kernel_rfl) (by kernel_rfl) (by kernel_rfl) (fun _ _ _ h => h) (Or.inl ⟨by rfl, ?_⟩) ?_; rotate_left; (intro w hw; clear hw; (try go_split_ands); go_simp; try (with_reducible rfl)); simp only [Act.put, List.setIfInBounds_toArray, List.set_cons_zero, List.set_cons_succ])
  (refine Walk.take (i := 20) (oi := { dst := some 34, op := Op.pick (Operand.tmp 29) (Operand.tmp 33) (Operand.const (Value.bool false)), type := 4, pos := "law.go:56", after := #[{ on := 15, ground := Ground.data }, { on := 19, ground := Ground.data }], guard := none }) (v := ?_) rfl (by kernel_rfl) (by kernel_rfl) (by kernel_rfl) (by kernel_rfl) (fun _ _ _ h => h) (Or.inl ⟨by rfl, ?_⟩) ?_; rotate_left; (intro w hw; clear hw; (try go_split_ands); go_simp; try (with_reducible rfl)); simp only [Act.put, List.setIfInBounds_toArray, List.set_cons_zero, List.set_cons_succ])
  (refine Walk.take (i := 21) (oi := { dst := some 35, op := Op.move (Operand.tmp 34), type := 4, pos := "law.go:56", after := #[{ on := 20, ground := Ground.data }, { on := 17, ground := Ground.chain }], guard := none }) (v := ?_) rfl (by kernel_rfl) (by kernel_rfl) (by kernel_rfl) (by kernel_rfl) (fun _ _ _ h => h) (Or.inl ⟨by rfl, ?_⟩) ?_; rotate_left; (intro w hw; clear hw; (try go_split_ands); go_simp; try (with_reducible rfl)); simp only [Act.put, List.setIfInBounds_toArray, List.set_cons_zero, List.set_cons_succ])
  (refine Walk.take (i := 22) (oi := { dst := some 36, op := Op.load 23 (Operand.tmp 8), type := 23, pos := "law.go:56", after := #[{ on := 21, ground := Ground.guard }], guard := some (21, true) }) (v := .agg (tab .i64 64 (fwd f)).toArray) rfl (by kernel_rfl) (by kernel_rfl) (by kernel_rfl) (by kernel_rfl) (fun _ _ _ h => h) (yieldsIf_load_mid rfl 23 (.tmp 8) rfl (YB) 0 rfl (tab .i64 64 (fwd f)) _ (fun w hw => (hw.1 (by kernel_rfl)).2.1) hu rfl (hiA _)) ?_; simp only [Act.put, List.setIfInBounds_toArray, List.set_cons_zero, List.set_cons_succ])
  (refine Walk.take (i := 24) (oi := { dst := some 38, op := Op.load 23 (Operand.tmp 8), type := 23, pos := "law.go:56", after := #[{ on := 21, ground := Ground.guard }], guard := some (21, true) }) (v := .agg (tab .i64 64 (fwd f)).toArray) rfl (by kernel_rfl) (by kernel_rfl) (by kernel_rfl) (by kernel_rfl) (fun _ _ _ h => h) (yieldsIf_load_mid rfl 23 (.tmp 8) rfl (YB) 0 rfl (tab .i64 64 (fwd f)) _ (fun w hw => (hw.1 (by kernel_rfl)).2.1) hu rfl (hiA _)) ?_; simp only [Act.put, List.setIfInBounds_toArray, List.set_cons_zero, List.set_cons_succ])
  (refine Walk.go (i := 23) (o := { dst := some 37, op := Op.call { callee := Callee.value (Operand.func 14), args := #[Operand.tmp 36], argTypes := #[23] }, type := 23, pos := "law.go:56", after := #[{ on := 22, ground := Ground.data }, { on := 21, ground := Ground.chain }, { on := 21, ground := Ground.guard }], guard := some (21, true) }) (by kernel_rfl) rfl (fun K hK => ?_); go_simp; ((go_at_call 14; refine (dctBack_any (fwd f) _ (hT.but kk.but)).mono ?_; rintro e y7 ⟨rfl, dd⟩; replace kk := kk.step dd; clear dd)); refine hK.out _ _ (⟨fun _ => ⟨(kk.get (b := XB) (t := 23) (c := tab .i64 64 f) (by simp)).all, (kk.get (b := YB) (t := 23) (c := tab .i64 64 (fwd f)) (by simp)).all, (kk.get (b := w.heap.size) (t := 23) (c := tab .i64 64 b0) (by simp)).all⟩, fun _ => trivial⟩) ?_; clear hK K; try simp only [Act.put, List.setIfInBounds_toArray, List.set_cons_zero, List.set_cons_succ])
  (refine Walk.go (i := 25) (o := { dst := some 39, op := Op.call { callee := Callee.value (Operand.func 15), args := #[Operand.tmp 38], argTypes := #[23] }, type := 23, pos := "law.go:56", after := #[{ on := 24, ground := Ground.data }, { on := 23, ground := Ground.chain }, { on := 21, ground := Ground.guard }], guard := some (21, true) }) (by kernel_rfl) rfl (fun K hK => ?_); go_simp; ((go_at_call 15; refine (refBack_any (fwd f) _).mono ?_; rintro e y8 ⟨rfl, dd⟩; replace kk := kk.step dd; clear dd)); refine hK.out _ _ (⟨fun _ => ⟨(kk.get (b := XB) (t := 23) (c := tab .i64 64 f) (by simp)).all, (kk.get (b := YB) (t := 23) (c := tab .i64 64 (fwd f)) (by simp)).all, (kk.get (b := w.heap.size) (t := 23) (c := tab .i64 64 b0) (by simp)).all⟩, fun _ => trivial⟩) ?_; clear hK K; try simp only [Act.put, List.setIfInBounds_toArray, List.set_cons_zero, List.set_cons_succ])
  (refine Walk.take (i := 26) (oi := { dst := some 40, op := Op.binOp BinOp.eql 23 (Operand.tmp 37) (Operand.tmp 39) 23, type := 4, pos := "law.go:56", after := #[{ on := 23, ground := Ground.data }, { on := 25, ground := Ground.data }, { on := 21, ground := Ground.guard }], guard := some (21, true) }) (v := ?_) rfl (by kernel_rfl) (by kernel_rfl) (by kernel_rfl) (by kernel_rfl) (fun _ _ _ h => h) (Or.inl ⟨by rfl, ?_⟩) ?_; rotate_left; (intro w hw; clear hw; (try go_split_ands); go_simp; try (with_reducible rfl)); simp only [Act.put, List.setIfInBounds_toArray, List.set_cons_zero, List.set_cons_succ])
  (refine Walk.take (i := 27) (oi := { dst := some 41, op := Op.pick (Operand.tmp 35) (Operand.tmp 40) (Operand.const (Value.bool false)), type := 4, pos := "law.go:56", after := #[{ on := 21, ground := Ground.data }, { on := 26, ground := Ground.data }], guard := none }) (v := ?_) rfl (by kernel_rfl) (by kernel_rfl) (by kernel_rfl) (by kernel_rfl) (fun _ _ _ h => h) (Or.inl ⟨by rfl, ?_⟩) ?_; rotate_left; (intro w hw; clear hw; (try go_split_ands); go_simp; try (with_reducible rfl)); simp only [Act.put, List.setIfInBounds_toArray, List.set_cons_zero, List.set_cons_succ])
  (refine Walk.take (i := 28) (oi := { dst := some 6, op := Op.assign (Operand.tmp 41), type := 4, pos := "law.go:56", after := #[{ on := 27, ground := Ground.data }, { on := 25, ground := Ground.chain }, { on := 0, ground := Ground.phase }, { on := 1, ground := Ground.phase }, { on := 2, ground := Ground.phase }, { on := 3, ground := Ground.phase }, { on := 4, ground := Ground.phase }, { on := 5, ground := Ground.phase }, { on := 6, ground := Ground.phase }, { on := 7, ground := Ground.phase }, { on := 8, ground := Ground.phase }, { on := 9, ground := Ground.phase }, { on := 10, ground := Ground.phase }, { on := 11, ground := Ground.phase }, { on := 12, ground := Ground.phase }, { on := 13, ground := Ground.phase }, { on := 14, ground := Ground.phase }, { on := 15, ground := Ground.phase }, { on := 16, ground := Ground.phase }, { on := 17, ground := Ground.phase }, { on := 18, ground := Ground.phase }, { on := 19, ground := Ground.phase }, { on := 20, ground := Ground.phase }, { on := 21, ground := Ground.phase }, { on := 22, ground := Ground.phase }, { on := 23, ground := Ground.phase }, { on := 24, ground := Ground.phase }, { on := 25, ground := Ground.phase }, { on := 26, ground := Ground.phase }, { on := 27, ground := Ground.phase }], guard := none }) (v := ?_) rfl (by kernel_rfl) (by kernel_rfl) (by kernel_rfl) (by kernel_rfl) (fun _ _ _ h => h) (Or.inl ⟨by rfl, ?_⟩) ?_; rotate_left; (intro w hw; clear hw; (try go_split_ands); go_simp; try (with_reducible rfl)); simp only [Act.put, List.setIfInBounds_toArray, List.set_cons_zero, List.set_cons_succ])
  refine Walk.done (by kernel_rfl) ?_ _
  go_wp2_with fail
  go_ret
  exact ⟨rfl, kk.but⟩

set_option maxRecDepth 100000 in
theorem lifted (os : Os) (started : os.Started) (H : Type) (enc : TypeId × Value → H) :
    ReturnsInHanded {} Tryd.checked os 3 .any (fun w args => (Rows.dctTurnsSpec.pre enc Tryd.prog Tryd.f3 Rows.dctTurnsRow.domain false w args ∧ laidMetH Tryd.prog Rows.dctTurnsRow.laid w) ∧ sizedMet enc Tryd.prog Tryd.f3 (OpenSpec.ofChange Rows.dctTurnsSpec) false w args) (Rows.dctTurnsSpec.post enc Tryd.prog Tryd.f3 false true false false) := by
  refine returnsInHanded_of_change_and (C := Tryd.checked) (X := fun w _ => laidMetH Tryd.prog laidL w) (fun _ _ _ hh h => h.of_heap hh) own started (by kernel_rfl) Tryd.func3
    (ChangeSpec.witness_shaped (enc := enc) (C := Tryd.checked) (os := os) (X := fun w _ => laidMetH Tryd.prog laidL w) false (World.laidAll Tryd.prog os laidL) #[.agg #[.int .i64 0, .int .i64 0, .int .i64 0, .int .i64 0, .int .i64 0, .int .i64 0, .int .i64 0, .int .i64 0, .int .i64 0, .int .i64 0, .int .i64 0, .int .i64 0, .int .i64 0, .int .i64 0, .int .i64 0, .int .i64 0, .int .i64 0, .int .i64 0, .int .i64 0, .int .i64 0, .int .i64 0, .int .i64 0, .int .i64 0, .int .i64 0, .int .i64 0, .int .i64 0, .int .i64 0, .int .i64 0, .int .i64 0, .int .i64 0, .int .i64 0, .int .i64 0, .int .i64 0, .int .i64 0, .int .i64 0, .int .i64 0, .int .i64 0, .int .i64 0, .int .i64 0, .int .i64 0, .int .i64 0, .int .i64 0, .int .i64 0, .int .i64 0, .int .i64 0, .int .i64 0, .int .i64 0, .int .i64 0, .int .i64 0, .int .i64 0, .int .i64 0, .int .i64 0, .int .i64 0, .int .i64 0, .int .i64 0, .int .i64 0, .int .i64 0, .int .i64 0, .int .i64 0, .int .i64 0, .int .i64 0, .int .i64 0, .int .i64 0, .int .i64 0], .slice none 0 0, .int .u8 0] 8 (World.laidAll_os _ _ _) (World.shaped_of_ZipB (by kernel_rfl) (by kernel_rfl)) (by kernel_rfl) (by kernel_rfl) (by kernel_rfl) (by rw [MakeChecks.laidMetH_plain _ _ _ (by kernel_rfl)]; exact laidMet_laidAll _ (by kernel_rfl) (by kernel_rfl))) ?_
  intro W base args ds gs before hval0 hW hcnd hsz0 hL0 _
  have hTW := tab_of_laid hL0
  have hval : ∀ (j : Nat) t v, Tryd.f3.params[j]? = some t → args[j]? = some v → Value.okWide Tryd.prog W .any base t v := hval0
  have hsz : (DataW.weightsEach Tryd.prog (Tryd.f3.params.toList ++ Rows.dctTurnsSpec.plain.varTypes Tryd.prog) (ds ++ gs)).all (· ≤ reachBytes) = true := hsz0
  have hW' := hW
  obtain ⟨p, q, hA0, hV, rfl, hfz, hnd⟩ := hW
  have hA : DataW.TrodAll enc Tryd.prog W 0 (fun _ => true) true Tryd.f3.params.toList args.toList ds p := hA0
  rw [Tryd.params3] at hA hval hsz
  obtain ⟨v0, vs0, d0, ds0, p0, q0, hargs, rfl, rfl, h0, r0⟩ := trodAll_cons hA
  obtain ⟨v1, vs1, d1, ds1, p1, q1, rfl, rfl, rfl, h1, r1⟩ := trodAll_cons r0
  obtain ⟨v2, vs2, d2, ds2, p2, q2, rfl, rfl, rfl, h2, r2⟩ := trodAll_cons r1
  obtain ⟨rfl, rfl, rfl⟩ := trodAll_nil r2
  obtain rfl : args = #[v0, v1, v2] := by cases args; simp_all
  obtain ⟨rfl, rfl⟩ := trodVars_none hV
  obtain ⟨b0, rfl, y0⟩ := open_block (hval 0 23 v0 rfl rfl) h0
  obtain ⟨l1, ⟨s1, x1⟩, e1⟩ := open_bytes (hval 1 24 v1 rfl rfl) h1
  have n1 := bytes_small hsz (j := 1) rfl rfl e1
  obtain ⟨a2, rfl, rfl, rfl, w2⟩ := open_int Tryd.underlying5 (hval 2 5 v2 rfl rfl) h2
  clear hA0 hval0
  refine (walk W hTW b0 y0 v1 l1 s1 x1 n1 a2 w2).mono fun e W' ⟨he, hg⟩ => ?_
  subst he
  exact ⟨_, rfl, law_post laidOut readable rfl Tryd.underlying4 rfl rfl hW' hg.below⟩

theorem over : Rows.dctTurnsRow.holds Tryd.pinned (OpenSpec.ofChange Rows.dctTurnsSpec) :=
  OpenClaim.holds_of_wide 3 Tryd.f3 rfl rfl rfl rfl rfl rfl rfl ⟨rfl, rfl, rfl, rfl, rfl⟩ rfl rfl rfl rfl rfl (by kernel_rfl) Tryd.func3 (by kernel_rfl)
    (of_decide_eq_true (by kernel_rfl)) (by unfold Func.isWrapper; first | (rw [if_pos (by decide +kernel)]; kernel_rfl) | (rw [if_neg (by decide +kernel)]; exact ⟨rfl, rfl⟩))
    (fun os started H enc _ => lifted os started H enc)

end Go.Proofs.YtlidijlmbelhhaaDoor.dctTurns
namespace Go.Proofs.YtlidijlmbelhhaaDoor
set_option maxRecDepth 100000 in
theorem dctTurns_holds : Rows.DctTurnsCardSaid :=
  Claim7.holds_tied_plain_at .later [] [.data] true (true, "c0c7664018938c434e71cfd2d2174dff01844ca891f7fb176941030ca0ec6212") false dctTurns.over (fun _ h => by cases h) (by kernel_rfl) (fun _ h => by cases h) dctTurns_row_tie rfl ⟨rfl, rfl⟩ (by kernel_rfl) rfl
    (fun f fn hf hfn => by
      obtain rfl : f = 3 := Option.some.inj ((show Tryd.prog.funcNamed "cyanotype/cyanotypelaw08.DctTurns" = some 3 by kernel_rfl).symm.trans hf) |>.symm
      obtain rfl : fn = Tryd.f3 := (Option.some.inj (Tryd.func3.symm.trans hfn)).symm
      exact ⟨by kernel_rfl, fun j t ht => by
        rw [Tryd.params3] at ht
        have hm : t ∈ [23, 24, 5] := by simpa using Array.mem_of_getElem? ht
        have hall : ([23, 24, 5].all fun u => !Tryd.prog.wantsStandIn u) = true := by kernel_rfl
        exact (show Tryd.prog.wantsStandIn t = false by simpa using List.all_eq_true.1 hall t hm)⟩)
    (by kernel_rfl)
#print axioms dctTurns_holds
end Go.Proofs.YtlidijlmbelhhaaDoor
