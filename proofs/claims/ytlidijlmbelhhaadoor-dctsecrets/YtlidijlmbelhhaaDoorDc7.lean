/- Frequencies of a block, and the block of them: numbers. -/
import Derived.Test.YtlidijlmbelhhaaDoorDc6
namespace Go.Proofs.YtlidijlmbelhhaaDoor
set_option linter.unusedVariables false
open Go.ChangeShapes Go.WideShapes Go.ChangeAt Go.RowKit

set_option maxHeartbeats 3200000 in
set_option maxRecDepth 100000 in
theorem dctForward_any (b : Nat → Int) (w : World) (ht : Tab w) : Calls Tryd.prog 13 #[.agg (tab .i64 64 b).toArray] w fun e w' =>
    e = .returned (.agg (tab .i64 64 (fwd b)).toArray) ∧ But Nowhere w w' := by
  have hu := Tryd.underlying23
  have hiA : ∀ f, (Tryd.prog.info? 23).map (·.size) = some (tab .i64 64 f).length := fun f => by rw [tab_length]; kernel_rfl
  have hiB : ∀ f, (Tryd.prog.info? 23).map (·.size) = some (tab .i64 64 f).toArray.size := fun f => by rw [List.size_toArray, tab_length]; kernel_rfl
  have kk := ((Keep.start w).made 23 (tab .i64 64 b)).zero 23
  simp only [World.size_alloc] at kk
  go_enter Tryd.func13, Tryd.ntmps13
  go_wp2_with fail
  revert kk
  generalize ((w.alloc (.cells (tab .i64 64 b).toArray 23)).alloc (.cells (Value.int .i64 0 :: Value.int .i64 0 :: Value.int .i64 0 :: Value.int .i64 0 :: Value.int .i64 0 :: Value.int .i64 0 :: Value.int .i64 0 :: Value.int .i64 0 :: Value.int .i64 0 :: Value.int .i64 0 :: Value.int .i64 0 :: Value.int .i64 0 :: Value.int .i64 0 :: Value.int .i64 0 :: Value.int .i64 0 :: Value.int .i64 0 :: Value.int .i64 0 :: Value.int .i64 0 :: Value.int .i64 0 :: Value.int .i64 0 :: Value.int .i64 0 :: Value.int .i64 0 :: Value.int .i64 0 :: Value.int .i64 0 :: Value.int .i64 0 :: Value.int .i64 0 :: Value.int .i64 0 :: Value.int .i64 0 :: Value.int .i64 0 :: Value.int .i64 0 :: Value.int .i64 0 :: Value.int .i64 0 :: Value.int .i64 0 :: Value.int .i64 0 :: Value.int .i64 0 :: Value.int .i64 0 :: Value.int .i64 0 :: Value.int .i64 0 :: Value.int .i64 0 :: Value.int .i64 0 :: Value.int .i64 0 :: Value.int .i64 0 :: Value.int .i64 0 :: Value.int .i64 0 :: Value.int .i64 0 :: Value.int .i64 0 :: Value.int .i64 0 :: Value.int .i64 0 :: Value.int .i64 0 :: Value.int .i64 0 :: Value.int .i64 0 :: Value.int .i64 0 :: Value.int .i64 0 :: Value.int .i64 0 :: Value.int .i64 0 :: Value.int .i64 0 :: Value.int .i64 0 :: Value.int .i64 0 :: Value.int .i64 0 :: Value.int .i64 0 :: Value.int .i64 0 :: Value.int .i64 0 :: Value.int .i64 0 :: Value.int .i64 0 :: []).toArray 23)) = W2
  intro kk
  replace kk := kk.drew
  refine wp_region_till (S := fun V => V.rangeAt (w.heap.size) 0 (tab .i64 64 b)) (R := fun _ => True) (k := 100) (m := 100) (by kernel_rfl) ((kk.get (b := w.heap.size) (t := 23) (c := tab .i64 64 b) (by simp)).all) trivial ?_
  revert kk
  generalize W2.drew = WD
  intro kk
  (refine Walk.take (i := 2) (oi := { dst := some 5, op := Op.load 23 (Operand.tmp 1), type := 23, pos := "dct.go:56", after := #[], guard := none }) (v := .agg (tab .i64 64 b).toArray) rfl (by kernel_rfl) (by kernel_rfl) (by kernel_rfl) (by kernel_rfl) (fun _ _ _ h => h) (yieldsIf_load_mid rfl 23 (.tmp 1) rfl (w.heap.size) 0 rfl (tab .i64 64 b) _ (fun w hw => (hw.1 (by kernel_rfl))) hu rfl (hiA _)) ?_; simp only [Act.put, List.setIfInBounds_toArray, List.set_cons_zero, List.set_cons_succ])
  (refine Walk.go (i := 0) (o := { dst := some 3, op := Op.call { callee := Callee.value (Operand.func 25), args := #[], argTypes := #[] }, type := 44, pos := "dct.go:56", after := #[], guard := none }) (by kernel_rfl) rfl (fun K hK => ?_); go_simp; ((go_at_call 25; refine (plain_any _).mono ?_; rintro e x1 ⟨rfl, dd⟩; replace kk := kk.step dd; clear dd)); refine hK.out _ _ (⟨fun _ => (kk.get (b := w.heap.size) (t := 23) (c := tab .i64 64 b) (by simp)).all, fun _ => trivial⟩) ?_; clear hK K; try simp only [Act.put, List.setIfInBounds_toArray, List.set_cons_zero, List.set_cons_succ])
  (refine Walk.go (i := 1) (o := { dst := some 4, op := Op.call { callee := Callee.value (Operand.func 26), args := #[], argTypes := #[] }, type := 47, pos := "dct.go:56", after := #[{ on := 0, ground := Ground.chain }], guard := none }) (by kernel_rfl) rfl (fun K hK => ?_); go_simp; ((go_at_call 26; refine (there_any _).mono ?_; rintro e x2 ⟨rfl, dd⟩; replace kk := kk.step dd; clear dd)); refine hK.out _ _ (⟨fun _ => (kk.get (b := w.heap.size) (t := 23) (c := tab .i64 64 b) (by simp)).all, fun _ => trivial⟩) ?_; clear hK K; try simp only [Act.put, List.setIfInBounds_toArray, List.set_cons_zero, List.set_cons_succ])
  (refine Walk.go (i := 3) (o := { dst := some 6, op := Op.call { callee := Callee.value (Operand.func 24), args := #[Operand.tmp 3, Operand.tmp 4, Operand.tmp 5], argTypes := #[44, 47, 22] }, type := 22, pos := "dct.go:56", after := #[{ on := 0, ground := Ground.data }, { on := 1, ground := Ground.data }, { on := 2, ground := Ground.data }, { on := 1, ground := Ground.chain }], guard := none }) (by kernel_rfl) rfl (fun K hK => ?_); go_simp; ((go_at_call 24; refine (turnNT_any b _ (ht.but kk.but)).mono ?_; rintro e x3 ⟨rfl, dd⟩; replace kk := kk.step dd; clear dd)); refine hK.out _ _ (⟨fun _ => (kk.get (b := w.heap.size) (t := 23) (c := tab .i64 64 b) (by simp)).all, fun _ => trivial⟩) ?_; clear hK K; try simp only [Act.put, List.setIfInBounds_toArray, List.set_cons_zero, List.set_cons_succ])
  (refine Walk.go (i := 4) (o := { dst := none, op := Op.store 23 (Operand.tmp 2) (Operand.tmp 6), type := 0, pos := "dct.go:56", after := #[{ on := 3, ground := Ground.data }, { on := 3, ground := Ground.chain }, { on := 0, ground := Ground.phase }, { on := 1, ground := Ground.phase }, { on := 2, ground := Ground.phase }, { on := 3, ground := Ground.phase }], guard := none }) (by kernel_rfl) rfl (fun K hK => ?_); refine wp_store_mid 23 (.tmp 2) (.tmp 6) rfl _ 0 (tab .i64 64 (fwd b)).toArray rfl rfl (kk.head.there 0 _ (by rw [List.size_toArray, tab_length, tab_length]; omega)) (hiB _) (tab_all _ _ _) ?_; (replace kk := kk.layAll (fwd b)); refine hK.out _ _ (⟨fun _ => (kk.get (b := w.heap.size) (t := 23) (c := tab .i64 64 b) (by simp)).all, fun _ => trivial⟩) ?_; clear hK K; try simp only [Act.put])
  refine Walk.done (by kernel_rfl) ?_ _
  go_wp2_with fail
  exact bodyPost_ret (results_cells rfl kk.head hu rfl (hiA _) _ rfl) rfl ⟨rfl, kk.but⟩

set_option maxHeartbeats 3200000 in
set_option maxRecDepth 100000 in
theorem dctBack_any (b : Nat → Int) (w : World) (ht : Tab w) : Calls Tryd.prog 14 #[.agg (tab .i64 64 b).toArray] w fun e w' =>
    e = .returned (.agg (tab .i64 64 (bck b)).toArray) ∧ But Nowhere w w' := by
  have hu := Tryd.underlying23
  have hiA : ∀ f, (Tryd.prog.info? 23).map (·.size) = some (tab .i64 64 f).length := fun f => by rw [tab_length]; kernel_rfl
  have hiB : ∀ f, (Tryd.prog.info? 23).map (·.size) = some (tab .i64 64 f).toArray.size := fun f => by rw [List.size_toArray, tab_length]; kernel_rfl
  have kk := ((Keep.start w).made 23 (tab .i64 64 b)).zero 23
  simp only [World.size_alloc] at kk
  go_enter Tryd.func14, Tryd.ntmps14
  go_wp2_with fail
  revert kk
  generalize ((w.alloc (.cells (tab .i64 64 b).toArray 23)).alloc (.cells (Value.int .i64 0 :: Value.int .i64 0 :: Value.int .i64 0 :: Value.int .i64 0 :: Value.int .i64 0 :: Value.int .i64 0 :: Value.int .i64 0 :: Value.int .i64 0 :: Value.int .i64 0 :: Value.int .i64 0 :: Value.int .i64 0 :: Value.int .i64 0 :: Value.int .i64 0 :: Value.int .i64 0 :: Value.int .i64 0 :: Value.int .i64 0 :: Value.int .i64 0 :: Value.int .i64 0 :: Value.int .i64 0 :: Value.int .i64 0 :: Value.int .i64 0 :: Value.int .i64 0 :: Value.int .i64 0 :: Value.int .i64 0 :: Value.int .i64 0 :: Value.int .i64 0 :: Value.int .i64 0 :: Value.int .i64 0 :: Value.int .i64 0 :: Value.int .i64 0 :: Value.int .i64 0 :: Value.int .i64 0 :: Value.int .i64 0 :: Value.int .i64 0 :: Value.int .i64 0 :: Value.int .i64 0 :: Value.int .i64 0 :: Value.int .i64 0 :: Value.int .i64 0 :: Value.int .i64 0 :: Value.int .i64 0 :: Value.int .i64 0 :: Value.int .i64 0 :: Value.int .i64 0 :: Value.int .i64 0 :: Value.int .i64 0 :: Value.int .i64 0 :: Value.int .i64 0 :: Value.int .i64 0 :: Value.int .i64 0 :: Value.int .i64 0 :: Value.int .i64 0 :: Value.int .i64 0 :: Value.int .i64 0 :: Value.int .i64 0 :: Value.int .i64 0 :: Value.int .i64 0 :: Value.int .i64 0 :: Value.int .i64 0 :: Value.int .i64 0 :: Value.int .i64 0 :: Value.int .i64 0 :: Value.int .i64 0 :: Value.int .i64 0 :: []).toArray 23)) = W2
  intro kk
  replace kk := kk.drew
  refine wp_region_till (S := fun V => V.rangeAt (w.heap.size) 0 (tab .i64 64 b)) (R := fun _ => True) (k := 100) (m := 100) (by kernel_rfl) ((kk.get (b := w.heap.size) (t := 23) (c := tab .i64 64 b) (by simp)).all) trivial ?_
  revert kk
  generalize W2.drew = WD
  intro kk
  (refine Walk.take (i := 2) (oi := { dst := some 5, op := Op.load 23 (Operand.tmp 1), type := 23, pos := "dct.go:61", after := #[], guard := none }) (v := .agg (tab .i64 64 b).toArray) rfl (by kernel_rfl) (by kernel_rfl) (by kernel_rfl) (by kernel_rfl) (fun _ _ _ h => h) (yieldsIf_load_mid rfl 23 (.tmp 1) rfl (w.heap.size) 0 rfl (tab .i64 64 b) _ (fun w hw => (hw.1 (by kernel_rfl))) hu rfl (hiA _)) ?_; simp only [Act.put, List.setIfInBounds_toArray, List.set_cons_zero, List.set_cons_succ])
  (refine Walk.go (i := 0) (o := { dst := some 3, op := Op.call { callee := Callee.value (Operand.func 25), args := #[], argTypes := #[] }, type := 44, pos := "dct.go:61", after := #[], guard := none }) (by kernel_rfl) rfl (fun K hK => ?_); go_simp; ((go_at_call 25; refine (plain_any _).mono ?_; rintro e x1 ⟨rfl, dd⟩; replace kk := kk.step dd; clear dd)); refine hK.out _ _ (⟨fun _ => (kk.get (b := w.heap.size) (t := 23) (c := tab .i64 64 b) (by simp)).all, fun _ => trivial⟩) ?_; clear hK K; try simp only [Act.put, List.setIfInBounds_toArray, List.set_cons_zero, List.set_cons_succ])
  (refine Walk.go (i := 1) (o := { dst := some 4, op := Op.call { callee := Callee.value (Operand.func 27), args := #[], argTypes := #[] }, type := 47, pos := "dct.go:61", after := #[{ on := 0, ground := Ground.chain }], guard := none }) (by kernel_rfl) rfl (fun K hK => ?_); go_simp; ((go_at_call 27; refine (back_any _).mono ?_; rintro e x2 ⟨rfl, dd⟩; replace kk := kk.step dd; clear dd)); refine hK.out _ _ (⟨fun _ => (kk.get (b := w.heap.size) (t := 23) (c := tab .i64 64 b) (by simp)).all, fun _ => trivial⟩) ?_; clear hK K; try simp only [Act.put, List.setIfInBounds_toArray, List.set_cons_zero, List.set_cons_succ])
  (refine Walk.go (i := 3) (o := { dst := some 6, op := Op.call { callee := Callee.value (Operand.func 24), args := #[Operand.tmp 3, Operand.tmp 4, Operand.tmp 5], argTypes := #[44, 47, 22] }, type := 22, pos := "dct.go:61", after := #[{ on := 0, ground := Ground.data }, { on := 1, ground := Ground.data }, { on := 2, ground := Ground.data }, { on := 1, ground := Ground.chain }], guard := none }) (by kernel_rfl) rfl (fun K hK => ?_); go_simp; ((go_at_call 24; refine (turnNB_any b _ (ht.but kk.but)).mono ?_; rintro e x3 ⟨rfl, dd⟩; replace kk := kk.step dd; clear dd)); refine hK.out _ _ (⟨fun _ => (kk.get (b := w.heap.size) (t := 23) (c := tab .i64 64 b) (by simp)).all, fun _ => trivial⟩) ?_; clear hK K; try simp only [Act.put, List.setIfInBounds_toArray, List.set_cons_zero, List.set_cons_succ])
  (refine Walk.go (i := 4) (o := { dst := none, op := Op.store 23 (Operand.tmp 2) (Operand.tmp 6), type := 0, pos := "dct.go:61", after := #[{ on := 3, ground := Ground.data }, { on := 3, ground := Ground.chain }, { on := 0, ground := Ground.phase }, { on := 1, ground := Ground.phase }, { on := 2, ground := Ground.phase }, { on := 3, ground := Ground.phase }], guard := none }) (by kernel_rfl) rfl (fun K hK => ?_); refine wp_store_mid 23 (.tmp 2) (.tmp 6) rfl _ 0 (tab .i64 64 (bck b)).toArray rfl rfl (kk.head.there 0 _ (by rw [List.size_toArray, tab_length, tab_length]; omega)) (hiB _) (tab_all _ _ _) ?_; (replace kk := kk.layAll (bck b)); refine hK.out _ _ (⟨fun _ => (kk.get (b := w.heap.size) (t := 23) (c := tab .i64 64 b) (by simp)).all, fun _ => trivial⟩) ?_; clear hK K; try simp only [Act.put])
  refine Walk.done (by kernel_rfl) ?_ _
  go_wp2_with fail
  exact bodyPost_ret (results_cells rfl kk.head hu rfl (hiA _) _ rfl) rfl ⟨rfl, kk.but⟩

end Go.Proofs.YtlidijlmbelhhaaDoor
