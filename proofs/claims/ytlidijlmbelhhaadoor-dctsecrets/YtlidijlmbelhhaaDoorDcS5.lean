/- Frequencies of a block, and the block of them: secrets; secrets of a block, and whether they hold one. -/
import Derived.Test.YtlidijlmbelhhaaDoorDcS4
namespace Go.Proofs.YtlidijlmbelhhaaDoor
set_option linter.unusedVariables false
open Go.ChangeShapes Go.WideShapes Go.ChangeAt Go.RowKit

set_option maxHeartbeats 3200000 in
set_option maxRecDepth 100000 in
theorem dctForwardSec_any (b : Nat → Int) (hI : ∀ j, j < 64 → I64 (b j)) (w : World) (ht : Tab w) : Calls Tryd.prog 17 #[.agg (tab .i64 64 b).toArray] w fun e w' =>
    e = .returned (.agg (tab .i64 64 (fwd b)).toArray) ∧ But Nowhere w w' := by
  have hu := Tryd.underlying32
  have hiA : ∀ f, (Tryd.prog.info? 32).map (·.size) = some (tab .i64 64 f).length := fun f => by rw [tab_length]; kernel_rfl
  have hiB : ∀ f, (Tryd.prog.info? 32).map (·.size) = some (tab .i64 64 f).toArray.size := fun f => by rw [List.size_toArray, tab_length]; kernel_rfl
  have kk := ((Keep.start w).made 32 (tab .i64 64 b)).zero 32
  simp only [World.size_alloc] at kk
  go_enter Tryd.func17, Tryd.ntmps17
  go_wp2_with fail
  revert kk
  generalize ((w.alloc (.cells (tab .i64 64 b).toArray 32)).alloc (.cells (Value.int .i64 0 :: Value.int .i64 0 :: Value.int .i64 0 :: Value.int .i64 0 :: Value.int .i64 0 :: Value.int .i64 0 :: Value.int .i64 0 :: Value.int .i64 0 :: Value.int .i64 0 :: Value.int .i64 0 :: Value.int .i64 0 :: Value.int .i64 0 :: Value.int .i64 0 :: Value.int .i64 0 :: Value.int .i64 0 :: Value.int .i64 0 :: Value.int .i64 0 :: Value.int .i64 0 :: Value.int .i64 0 :: Value.int .i64 0 :: Value.int .i64 0 :: Value.int .i64 0 :: Value.int .i64 0 :: Value.int .i64 0 :: Value.int .i64 0 :: Value.int .i64 0 :: Value.int .i64 0 :: Value.int .i64 0 :: Value.int .i64 0 :: Value.int .i64 0 :: Value.int .i64 0 :: Value.int .i64 0 :: Value.int .i64 0 :: Value.int .i64 0 :: Value.int .i64 0 :: Value.int .i64 0 :: Value.int .i64 0 :: Value.int .i64 0 :: Value.int .i64 0 :: Value.int .i64 0 :: Value.int .i64 0 :: Value.int .i64 0 :: Value.int .i64 0 :: Value.int .i64 0 :: Value.int .i64 0 :: Value.int .i64 0 :: Value.int .i64 0 :: Value.int .i64 0 :: Value.int .i64 0 :: Value.int .i64 0 :: Value.int .i64 0 :: Value.int .i64 0 :: Value.int .i64 0 :: Value.int .i64 0 :: Value.int .i64 0 :: Value.int .i64 0 :: Value.int .i64 0 :: Value.int .i64 0 :: Value.int .i64 0 :: Value.int .i64 0 :: Value.int .i64 0 :: Value.int .i64 0 :: Value.int .i64 0 :: Value.int .i64 0 :: []).toArray 32)) = W2
  intro kk
  replace kk := kk.drew
  refine wp_region_till (S := fun V => V.rangeAt (w.heap.size) 0 (tab .i64 64 b)) (R := fun _ => True) (k := 100) (m := 100) (by kernel_rfl) ((kk.get (b := w.heap.size) (t := 32) (c := tab .i64 64 b) (by simp)).all) trivial ?_
  revert kk
  generalize W2.drew = WD
  intro kk
  (refine Walk.take (i := 2) (oi := { dst := some 5, op := Op.load 32 (Operand.tmp 1), type := 32, pos := "dct.go:66", after := #[], guard := none }) (v := .agg (tab .i64 64 b).toArray) rfl (by kernel_rfl) (by kernel_rfl) (by kernel_rfl) (by kernel_rfl) (fun _ _ _ h => h) (yieldsIf_load_mid rfl 32 (.tmp 1) rfl (w.heap.size) 0 rfl (tab .i64 64 b) _ (fun w hw => (hw.1 (by kernel_rfl))) hu rfl (hiA _)) ?_; simp only [Act.put, List.setIfInBounds_toArray, List.set_cons_zero, List.set_cons_succ])
  (refine Walk.go (i := 0) (o := { dst := some 3, op := Op.call { callee := Callee.value (Operand.func 30), args := #[], argTypes := #[] }, type := 56, pos := "dct.go:66", after := #[], guard := none }) (by kernel_rfl) rfl (fun K hK => ?_); go_simp; ((go_at_call 30; refine (secret_any _).mono ?_; rintro e x1 ⟨rfl, dd⟩; replace kk := kk.step dd; clear dd)); refine hK.out _ _ (⟨fun _ => (kk.get (b := w.heap.size) (t := 32) (c := tab .i64 64 b) (by simp)).all, fun _ => trivial⟩) ?_; clear hK K; try simp only [Act.put, List.setIfInBounds_toArray, List.set_cons_zero, List.set_cons_succ])
  (refine Walk.go (i := 1) (o := { dst := some 4, op := Op.call { callee := Callee.value (Operand.func 26), args := #[], argTypes := #[] }, type := 47, pos := "dct.go:66", after := #[{ on := 0, ground := Ground.chain }], guard := none }) (by kernel_rfl) rfl (fun K hK => ?_); go_simp; ((go_at_call 26; refine (there_any _).mono ?_; rintro e x2 ⟨rfl, dd⟩; replace kk := kk.step dd; clear dd)); refine hK.out _ _ (⟨fun _ => (kk.get (b := w.heap.size) (t := 32) (c := tab .i64 64 b) (by simp)).all, fun _ => trivial⟩) ?_; clear hK K; try simp only [Act.put, List.setIfInBounds_toArray, List.set_cons_zero, List.set_cons_succ])
  (refine Walk.go (i := 3) (o := { dst := some 6, op := Op.call { callee := Callee.value (Operand.func 29), args := #[Operand.tmp 3, Operand.tmp 4, Operand.tmp 5], argTypes := #[56, 47, 32] }, type := 32, pos := "dct.go:66", after := #[{ on := 0, ground := Ground.data }, { on := 1, ground := Ground.data }, { on := 2, ground := Ground.data }, { on := 1, ground := Ground.chain }], guard := none }) (by kernel_rfl) rfl (fun K hK => ?_); go_simp; ((go_at_call 29; refine (turnST_any b hI _ (ht.but kk.but)).mono ?_; rintro e x3 ⟨rfl, dd⟩; replace kk := kk.step dd; clear dd)); refine hK.out _ _ (⟨fun _ => (kk.get (b := w.heap.size) (t := 32) (c := tab .i64 64 b) (by simp)).all, fun _ => trivial⟩) ?_; clear hK K; try simp only [Act.put, List.setIfInBounds_toArray, List.set_cons_zero, List.set_cons_succ])
  (refine Walk.go (i := 4) (o := { dst := none, op := Op.store 32 (Operand.tmp 2) (Operand.tmp 6), type := 0, pos := "dct.go:66", after := #[{ on := 3, ground := Ground.data }, { on := 3, ground := Ground.chain }, { on := 0, ground := Ground.phase }, { on := 1, ground := Ground.phase }, { on := 2, ground := Ground.phase }, { on := 3, ground := Ground.phase }], guard := none }) (by kernel_rfl) rfl (fun K hK => ?_); refine wp_store_mid 32 (.tmp 2) (.tmp 6) rfl _ 0 (tab .i64 64 (fwd b)).toArray rfl rfl (kk.head.there 0 _ (by rw [List.size_toArray, tab_length, tab_length]; omega)) (hiB _) (tab_all _ _ _) ?_; (replace kk := kk.layAll (fwd b)); refine hK.out _ _ (⟨fun _ => (kk.get (b := w.heap.size) (t := 32) (c := tab .i64 64 b) (by simp)).all, fun _ => trivial⟩) ?_; clear hK K; try simp only [Act.put])
  refine Walk.done (by kernel_rfl) ?_ _
  go_wp2_with fail
  exact bodyPost_ret (results_cells rfl kk.head hu rfl (hiA _) _ rfl) rfl ⟨rfl, kk.but⟩

set_option maxHeartbeats 3200000 in
set_option maxRecDepth 100000 in
theorem dctBackSec_any (b : Nat → Int) (hI : ∀ j, j < 64 → I64 (b j)) (w : World) (ht : Tab w) : Calls Tryd.prog 19 #[.agg (tab .i64 64 b).toArray] w fun e w' =>
    e = .returned (.agg (tab .i64 64 (bck b)).toArray) ∧ But Nowhere w w' := by
  have hu := Tryd.underlying32
  have hiA : ∀ f, (Tryd.prog.info? 32).map (·.size) = some (tab .i64 64 f).length := fun f => by rw [tab_length]; kernel_rfl
  have hiB : ∀ f, (Tryd.prog.info? 32).map (·.size) = some (tab .i64 64 f).toArray.size := fun f => by rw [List.size_toArray, tab_length]; kernel_rfl
  have kk := ((Keep.start w).made 32 (tab .i64 64 b)).zero 32
  simp only [World.size_alloc] at kk
  go_enter Tryd.func19, Tryd.ntmps19
  go_wp2_with fail
  revert kk
  generalize ((w.alloc (.cells (tab .i64 64 b).toArray 32)).alloc (.cells (Value.int .i64 0 :: Value.int .i64 0 :: Value.int .i64 0 :: Value.int .i64 0 :: Value.int .i64 0 :: Value.int .i64 0 :: Value.int .i64 0 :: Value.int .i64 0 :: Value.int .i64 0 :: Value.int .i64 0 :: Value.int .i64 0 :: Value.int .i64 0 :: Value.int .i64 0 :: Value.int .i64 0 :: Value.int .i64 0 :: Value.int .i64 0 :: Value.int .i64 0 :: Value.int .i64 0 :: Value.int .i64 0 :: Value.int .i64 0 :: Value.int .i64 0 :: Value.int .i64 0 :: Value.int .i64 0 :: Value.int .i64 0 :: Value.int .i64 0 :: Value.int .i64 0 :: Value.int .i64 0 :: Value.int .i64 0 :: Value.int .i64 0 :: Value.int .i64 0 :: Value.int .i64 0 :: Value.int .i64 0 :: Value.int .i64 0 :: Value.int .i64 0 :: Value.int .i64 0 :: Value.int .i64 0 :: Value.int .i64 0 :: Value.int .i64 0 :: Value.int .i64 0 :: Value.int .i64 0 :: Value.int .i64 0 :: Value.int .i64 0 :: Value.int .i64 0 :: Value.int .i64 0 :: Value.int .i64 0 :: Value.int .i64 0 :: Value.int .i64 0 :: Value.int .i64 0 :: Value.int .i64 0 :: Value.int .i64 0 :: Value.int .i64 0 :: Value.int .i64 0 :: Value.int .i64 0 :: Value.int .i64 0 :: Value.int .i64 0 :: Value.int .i64 0 :: Value.int .i64 0 :: Value.int .i64 0 :: Value.int .i64 0 :: Value.int .i64 0 :: Value.int .i64 0 :: Value.int .i64 0 :: Value.int .i64 0 :: Value.int .i64 0 :: []).toArray 32)) = W2
  intro kk
  replace kk := kk.drew
  refine wp_region_till (S := fun V => V.rangeAt (w.heap.size) 0 (tab .i64 64 b)) (R := fun _ => True) (k := 100) (m := 100) (by kernel_rfl) ((kk.get (b := w.heap.size) (t := 32) (c := tab .i64 64 b) (by simp)).all) trivial ?_
  revert kk
  generalize W2.drew = WD
  intro kk
  (refine Walk.take (i := 2) (oi := { dst := some 5, op := Op.load 32 (Operand.tmp 1), type := 32, pos := "dct.go:71", after := #[], guard := none }) (v := .agg (tab .i64 64 b).toArray) rfl (by kernel_rfl) (by kernel_rfl) (by kernel_rfl) (by kernel_rfl) (fun _ _ _ h => h) (yieldsIf_load_mid rfl 32 (.tmp 1) rfl (w.heap.size) 0 rfl (tab .i64 64 b) _ (fun w hw => (hw.1 (by kernel_rfl))) hu rfl (hiA _)) ?_; simp only [Act.put, List.setIfInBounds_toArray, List.set_cons_zero, List.set_cons_succ])
  (refine Walk.go (i := 0) (o := { dst := some 3, op := Op.call { callee := Callee.value (Operand.func 30), args := #[], argTypes := #[] }, type := 56, pos := "dct.go:71", after := #[], guard := none }) (by kernel_rfl) rfl (fun K hK => ?_); go_simp; ((go_at_call 30; refine (secret_any _).mono ?_; rintro e x1 ⟨rfl, dd⟩; replace kk := kk.step dd; clear dd)); refine hK.out _ _ (⟨fun _ => (kk.get (b := w.heap.size) (t := 32) (c := tab .i64 64 b) (by simp)).all, fun _ => trivial⟩) ?_; clear hK K; try simp only [Act.put, List.setIfInBounds_toArray, List.set_cons_zero, List.set_cons_succ])
  (refine Walk.go (i := 1) (o := { dst := some 4, op := Op.call { callee := Callee.value (Operand.func 27), args := #[], argTypes := #[] }, type := 47, pos := "dct.go:71", after := #[{ on := 0, ground := Ground.chain }], guard := none }) (by kernel_rfl) rfl (fun K hK => ?_); go_simp; ((go_at_call 27; refine (back_any _).mono ?_; rintro e x2 ⟨rfl, dd⟩; replace kk := kk.step dd; clear dd)); refine hK.out _ _ (⟨fun _ => (kk.get (b := w.heap.size) (t := 32) (c := tab .i64 64 b) (by simp)).all, fun _ => trivial⟩) ?_; clear hK K; try simp only [Act.put, List.setIfInBounds_toArray, List.set_cons_zero, List.set_cons_succ])
  (refine Walk.go (i := 3) (o := { dst := some 6, op := Op.call { callee := Callee.value (Operand.func 29), args := #[Operand.tmp 3, Operand.tmp 4, Operand.tmp 5], argTypes := #[56, 47, 32] }, type := 32, pos := "dct.go:71", after := #[{ on := 0, ground := Ground.data }, { on := 1, ground := Ground.data }, { on := 2, ground := Ground.data }, { on := 1, ground := Ground.chain }], guard := none }) (by kernel_rfl) rfl (fun K hK => ?_); go_simp; ((go_at_call 29; refine (turnSB_any b hI _ (ht.but kk.but)).mono ?_; rintro e x3 ⟨rfl, dd⟩; replace kk := kk.step dd; clear dd)); refine hK.out _ _ (⟨fun _ => (kk.get (b := w.heap.size) (t := 32) (c := tab .i64 64 b) (by simp)).all, fun _ => trivial⟩) ?_; clear hK K; try simp only [Act.put, List.setIfInBounds_toArray, List.set_cons_zero, List.set_cons_succ])
  (refine Walk.go (i := 4) (o := { dst := none, op := Op.store 32 (Operand.tmp 2) (Operand.tmp 6), type := 0, pos := "dct.go:71", after := #[{ on := 3, ground := Ground.data }, { on := 3, ground := Ground.chain }, { on := 0, ground := Ground.phase }, { on := 1, ground := Ground.phase }, { on := 2, ground := Ground.phase }, { on := 3, ground := Ground.phase }], guard := none }) (by kernel_rfl) rfl (fun K hK => ?_); refine wp_store_mid 32 (.tmp 2) (.tmp 6) rfl _ 0 (tab .i64 64 (bck b)).toArray rfl rfl (kk.head.there 0 _ (by rw [List.size_toArray, tab_length, tab_length]; omega)) (hiB _) (tab_all _ _ _) ?_; (replace kk := kk.layAll (bck b)); refine hK.out _ _ (⟨fun _ => (kk.get (b := w.heap.size) (t := 32) (c := tab .i64 64 b) (by simp)).all, fun _ => trivial⟩) ?_; clear hK K; try simp only [Act.put])
  refine Walk.done (by kernel_rfl) ?_ _
  go_wp2_with fail
  exact bodyPost_ret (results_cells rfl kk.head hu rfl (hiA _) _ rfl) rfl ⟨rfl, kk.but⟩

set_option maxHeartbeats 3200000 in
set_option maxRecDepth 100000 in
theorem hide_any (b : Nat → Int) (w : World) : Calls Tryd.prog 18 #[.agg (tab .i64 64 b).toArray] w fun e w' =>
    e = .returned (.agg (tab .i64 64 b).toArray) ∧ But Nowhere w w' := by
  have hu := Tryd.underlying32
  have hiA : ∀ f, (Tryd.prog.info? 32).map (·.size) = some (tab .i64 64 f).length := fun f => by rw [tab_length]; kernel_rfl
  have hiB : ∀ f, (Tryd.prog.info? 32).map (·.size) = some (tab .i64 64 f).toArray.size := fun f => by rw [List.size_toArray, tab_length]; kernel_rfl
  have k0 := (((Keep.start w).made 23 (tab .i64 64 b)).zero 32).zero 32
  have kk := k0.layAll (fun _ => 0)
  have hth := k0.head.there 0 64 (by rw [tab_length]; omega)
  have hi64 : (Tryd.prog.info? 32).map (·.size) = some 64 := by kernel_rfl
  have hall := tab_all .i64 64 (fun _ => 0)
  rw [← sixtyfour] at kk hall
  simp only [World.size_alloc] at kk hth
  have HZ : Hid _ := And.intro hth (And.intro hi64 hall)
  clear k0 hth hi64 hall
  go_enter Tryd.func18, Tryd.ntmps18
  go_wp2_with (refine wpList_store_mid rfl 32 (.tmp 3) (.tmp 5) rfl (w.heap.size + 1 + 1) 0 (Value.int .i64 0 :: Value.int .i64 0 :: Value.int .i64 0 :: Value.int .i64 0 :: Value.int .i64 0 :: Value.int .i64 0 :: Value.int .i64 0 :: Value.int .i64 0 :: Value.int .i64 0 :: Value.int .i64 0 :: Value.int .i64 0 :: Value.int .i64 0 :: Value.int .i64 0 :: Value.int .i64 0 :: Value.int .i64 0 :: Value.int .i64 0 :: Value.int .i64 0 :: Value.int .i64 0 :: Value.int .i64 0 :: Value.int .i64 0 :: Value.int .i64 0 :: Value.int .i64 0 :: Value.int .i64 0 :: Value.int .i64 0 :: Value.int .i64 0 :: Value.int .i64 0 :: Value.int .i64 0 :: Value.int .i64 0 :: Value.int .i64 0 :: Value.int .i64 0 :: Value.int .i64 0 :: Value.int .i64 0 :: Value.int .i64 0 :: Value.int .i64 0 :: Value.int .i64 0 :: Value.int .i64 0 :: Value.int .i64 0 :: Value.int .i64 0 :: Value.int .i64 0 :: Value.int .i64 0 :: Value.int .i64 0 :: Value.int .i64 0 :: Value.int .i64 0 :: Value.int .i64 0 :: Value.int .i64 0 :: Value.int .i64 0 :: Value.int .i64 0 :: Value.int .i64 0 :: Value.int .i64 0 :: Value.int .i64 0 :: Value.int .i64 0 :: Value.int .i64 0 :: Value.int .i64 0 :: Value.int .i64 0 :: Value.int .i64 0 :: Value.int .i64 0 :: Value.int .i64 0 :: Value.int .i64 0 :: Value.int .i64 0 :: Value.int .i64 0 :: Value.int .i64 0 :: Value.int .i64 0 :: Value.int .i64 0 :: Value.int .i64 0 :: []).toArray rfl rfl HZ.out.1 HZ.out.2.1 HZ.out.2.2 ?_)
  clear HZ
  revert kk
  generalize ((((w.alloc (.cells (tab .i64 64 b).toArray 23)).alloc (.cells (Value.int .i64 0 :: Value.int .i64 0 :: Value.int .i64 0 :: Value.int .i64 0 :: Value.int .i64 0 :: Value.int .i64 0 :: Value.int .i64 0 :: Value.int .i64 0 :: Value.int .i64 0 :: Value.int .i64 0 :: Value.int .i64 0 :: Value.int .i64 0 :: Value.int .i64 0 :: Value.int .i64 0 :: Value.int .i64 0 :: Value.int .i64 0 :: Value.int .i64 0 :: Value.int .i64 0 :: Value.int .i64 0 :: Value.int .i64 0 :: Value.int .i64 0 :: Value.int .i64 0 :: Value.int .i64 0 :: Value.int .i64 0 :: Value.int .i64 0 :: Value.int .i64 0 :: Value.int .i64 0 :: Value.int .i64 0 :: Value.int .i64 0 :: Value.int .i64 0 :: Value.int .i64 0 :: Value.int .i64 0 :: Value.int .i64 0 :: Value.int .i64 0 :: Value.int .i64 0 :: Value.int .i64 0 :: Value.int .i64 0 :: Value.int .i64 0 :: Value.int .i64 0 :: Value.int .i64 0 :: Value.int .i64 0 :: Value.int .i64 0 :: Value.int .i64 0 :: Value.int .i64 0 :: Value.int .i64 0 :: Value.int .i64 0 :: Value.int .i64 0 :: Value.int .i64 0 :: Value.int .i64 0 :: Value.int .i64 0 :: Value.int .i64 0 :: Value.int .i64 0 :: Value.int .i64 0 :: Value.int .i64 0 :: Value.int .i64 0 :: Value.int .i64 0 :: Value.int .i64 0 :: Value.int .i64 0 :: Value.int .i64 0 :: Value.int .i64 0 :: Value.int .i64 0 :: Value.int .i64 0 :: Value.int .i64 0 :: Value.int .i64 0 :: []).toArray 32)).alloc (.cells (Value.int .i64 0 :: Value.int .i64 0 :: Value.int .i64 0 :: Value.int .i64 0 :: Value.int .i64 0 :: Value.int .i64 0 :: Value.int .i64 0 :: Value.int .i64 0 :: Value.int .i64 0 :: Value.int .i64 0 :: Value.int .i64 0 :: Value.int .i64 0 :: Value.int .i64 0 :: Value.int .i64 0 :: Value.int .i64 0 :: Value.int .i64 0 :: Value.int .i64 0 :: Value.int .i64 0 :: Value.int .i64 0 :: Value.int .i64 0 :: Value.int .i64 0 :: Value.int .i64 0 :: Value.int .i64 0 :: Value.int .i64 0 :: Value.int .i64 0 :: Value.int .i64 0 :: Value.int .i64 0 :: Value.int .i64 0 :: Value.int .i64 0 :: Value.int .i64 0 :: Value.int .i64 0 :: Value.int .i64 0 :: Value.int .i64 0 :: Value.int .i64 0 :: Value.int .i64 0 :: Value.int .i64 0 :: Value.int .i64 0 :: Value.int .i64 0 :: Value.int .i64 0 :: Value.int .i64 0 :: Value.int .i64 0 :: Value.int .i64 0 :: Value.int .i64 0 :: Value.int .i64 0 :: Value.int .i64 0 :: Value.int .i64 0 :: Value.int .i64 0 :: Value.int .i64 0 :: Value.int .i64 0 :: Value.int .i64 0 :: Value.int .i64 0 :: Value.int .i64 0 :: Value.int .i64 0 :: Value.int .i64 0 :: Value.int .i64 0 :: Value.int .i64 0 :: Value.int .i64 0 :: Value.int .i64 0 :: Value.int .i64 0 :: Value.int .i64 0 :: Value.int .i64 0 :: Value.int .i64 0 :: Value.int .i64 0 :: Value.int .i64 0 :: []).toArray 32)).setCells (w.heap.size + 1 + 1) 0 (Value.int .i64 0 :: Value.int .i64 0 :: Value.int .i64 0 :: Value.int .i64 0 :: Value.int .i64 0 :: Value.int .i64 0 :: Value.int .i64 0 :: Value.int .i64 0 :: Value.int .i64 0 :: Value.int .i64 0 :: Value.int .i64 0 :: Value.int .i64 0 :: Value.int .i64 0 :: Value.int .i64 0 :: Value.int .i64 0 :: Value.int .i64 0 :: Value.int .i64 0 :: Value.int .i64 0 :: Value.int .i64 0 :: Value.int .i64 0 :: Value.int .i64 0 :: Value.int .i64 0 :: Value.int .i64 0 :: Value.int .i64 0 :: Value.int .i64 0 :: Value.int .i64 0 :: Value.int .i64 0 :: Value.int .i64 0 :: Value.int .i64 0 :: Value.int .i64 0 :: Value.int .i64 0 :: Value.int .i64 0 :: Value.int .i64 0 :: Value.int .i64 0 :: Value.int .i64 0 :: Value.int .i64 0 :: Value.int .i64 0 :: Value.int .i64 0 :: Value.int .i64 0 :: Value.int .i64 0 :: Value.int .i64 0 :: Value.int .i64 0 :: Value.int .i64 0 :: Value.int .i64 0 :: Value.int .i64 0 :: Value.int .i64 0 :: Value.int .i64 0 :: Value.int .i64 0 :: Value.int .i64 0 :: Value.int .i64 0 :: Value.int .i64 0 :: Value.int .i64 0 :: Value.int .i64 0 :: Value.int .i64 0 :: Value.int .i64 0 :: Value.int .i64 0 :: Value.int .i64 0 :: Value.int .i64 0 :: Value.int .i64 0 :: Value.int .i64 0 :: Value.int .i64 0 :: Value.int .i64 0 :: Value.int .i64 0 :: Value.int .i64 0 :: [])) = W3
  intro kk
  rw [sixtyfour] at kk
  try simp only [Act.put]
  go_loopw [4] (fun i V => ∃ k : Nat, k ≤ 64 ∧ i = .int .i64 k ∧ Keep w V [(w.heap.size + 1 + 1, 32, tab .i64 64 (fun j => if j < k then b j else 0)), (w.heap.size + 1, 32, tab .i64 64 (fun _ => 0)), (w.heap.size, 23, tab .i64 64 b)]) (fun i _ => 64 - (intOf i).toNat)
  case atStart => exact ⟨0, Nat.zero_le _, rfl, by rw [tab_congr .i64 64 (fun j => if j < 0 then b j else 0) (fun _ => 0) (fun j _ => if_neg (by omega))]; exact kk⟩
  case round =>
    clear kk
    obtain ⟨k, hk, rfl, kk⟩ := hrel
    by_cases hlt : k < 64
    · have i0 : (0 : Int) ≤ (k : Int) := by omega
      have i1 : (k : Int) < 64 := by omega
      have cB := (kk.get (b := w.heap.size) (t := 23) (c := tab .i64 64 b) (by simp)).cell k hlt
      go_wp2_with fail
      refine (of_any _ _).mono ?_
      rintro e x1 ⟨rfl, dd⟩
      replace kk := kk.step dd
      clear dd cB
      have c0 := kk.head.cell k hlt
      have f0 := kk.head.frozen k
      simp only [Nat.lt_irrefl, if_false] at c0
      have kX := kk.set k (.int .i64 (b k))
      rw [tab_grow .i64 64 b (fun _ => 0) k] at kX
      have HX : Hid _ := kX
      clear kX kk
      go_wp2_with fail
      clear c0 f0
      go_roundw
      case rel => exact ⟨k + 1, by omega, by go_num, HX.out⟩
      case measure => simp [intOf]; omega
    · obtain rfl : k = 64 := by omega
      rw [tab_full] at kk
      have hr1 := kk.head.all
      replace kk := kk.swap
      have hth := kk.head.there 0 (tab .i64 64 b).toArray.size (by rw [List.size_toArray, tab_length, tab_length]; omega)
      have kX := kk.layAll b
      have HX : Hid _ := And.intro kX.head kX.but
      clear kX kk
      go_wp2_with (first | (refine wpList_load_mid rfl 32 (.tmp 3) rfl (w.heap.size + 1 + 1) 0 rfl (tab .i64 64 b) _ ?_ hu rfl (hiA _) ?_; exact hr1) | (refine wpList_store_mid rfl 32 (.tmp 2) (.tmp 16) rfl (w.heap.size + 1) 0 (tab .i64 64 b).toArray rfl rfl ?_ (hiB _) (tab_all _ _ _) ?_; exact hth))
      exact bodyPost_ret (results_cells rfl HX.out.1 hu rfl (hiA _) _ rfl) rfl ⟨rfl, HX.out.2⟩

set_option maxHeartbeats 3200000 in
set_option maxRecDepth 100000 in
theorem same_any (b : Nat → Int) (w : World) : Calls Tryd.prog 16 #[.agg (tab .i64 64 b).toArray, .agg (tab .i64 64 b).toArray] w fun e w' =>
    e = .returned (.bool true) ∧ But Nowhere w w' := by
  have kk := ((Keep.start w).made 32 (tab .i64 64 b)).made 23 (tab .i64 64 b)
  simp only [World.size_alloc] at kk
  go_enter Tryd.func16, Tryd.ntmps16
  go_wp2_with fail
  revert kk
  generalize ((w.alloc (.cells (tab .i64 64 b).toArray 32)).alloc (.cells (tab .i64 64 b).toArray 23)) = W2
  intro kk
  go_loopw [5] (fun i V => ∃ k : Nat, k ≤ 64 ∧ i = .int .i64 k ∧ Keep w V [(w.heap.size + 1, 23, tab .i64 64 b), (w.heap.size, 32, tab .i64 64 b)]) (fun i _ => 64 - (intOf i).toNat)
  case atStart => exact ⟨0, Nat.zero_le _, rfl, kk⟩
  case round =>
    clear kk
    obtain ⟨k, hk, rfl, kk⟩ := hrel
    by_cases hlt : k < 64
    · have i0 : (0 : Int) ≤ (k : Int) := by omega
      have i1 : (k : Int) < 64 := by omega
      replace kk := kk.drew
      go_wp2_with fail
      refine wp_region_till (S := fun V => V.cell? ⟨w.heap.size, k, none⟩ = some (.int .i64 (b k)) ∧ V.cell? ⟨w.heap.size + 1, k, none⟩ = some (.int .i64 (b k))) (R := fun _ => True) (k := 100) (m := 100) (by kernel_rfl) ⟨(kk.get (b := w.heap.size) (t := 32) (c := tab .i64 64 b) (by simp)).cell k hlt, (kk.get (b := w.heap.size + 1) (t := 23) (c := tab .i64 64 b) (by simp)).cell k hlt⟩ trivial ?_
      revert kk
      generalize wr.drew = WG
      intro kk
      focus
        (refine Walk.take (i := 0) (oi := { dst := some 10, op := Op.move (Operand.tmp 5), type := 3, pos := "law.go:33", after := #[], guard := none }) (v := ?_) rfl (by kernel_rfl) (by kernel_rfl) (by kernel_rfl) (by kernel_rfl) (fun _ _ _ h => h) (Or.inl ⟨by rfl, ?_⟩) ?_; rotate_left; (intro w hw; clear hw; (try go_split_ands); go_simp; try (with_reducible rfl)); simp only [Act.put, List.setIfInBounds_toArray, List.set_cons_zero, List.set_cons_succ])
        (refine Walk.take (i := 1) (oi := { dst := some 11, op := Op.indexAddr 32 (Operand.tmp 2) (Operand.tmp 10), type := 0, pos := "law.go:33", after := #[{ on := 0, ground := Ground.data }], guard := none }) (v := ?_) rfl (by kernel_rfl) (by kernel_rfl) (by kernel_rfl) (by kernel_rfl) (fun _ _ _ h => h) (Or.inl ⟨by rfl, ?_⟩) ?_; rotate_left; (intro w hw; clear hw; (try go_split_ands); go_simp; try (with_reducible rfl)); simp only [Act.put, List.setIfInBounds_toArray, List.set_cons_zero, List.set_cons_succ])
        (refine Walk.take (i := 2) (oi := { dst := some 12, op := Op.load 31 (Operand.tmp 11), type := 31, pos := "law.go:33", after := #[{ on := 1, ground := Ground.data }], guard := none }) (v := ?_) rfl (by kernel_rfl) (by kernel_rfl) (by kernel_rfl) (by kernel_rfl) (fun _ _ _ h => h) (Or.inl ⟨by rfl, ?_⟩) ?_; rotate_left; (intro w hw; have hS1 := hw.1 (by kernel_rfl); clear hw; (try dsimp only at hS1); (try go_split_ands); go_simp; try (with_reducible rfl)); simp only [Act.put, List.setIfInBounds_toArray, List.set_cons_zero, List.set_cons_succ])
        (refine Walk.take (i := 4) (oi := { dst := some 14, op := Op.move (Operand.tmp 5), type := 3, pos := "law.go:33", after := #[], guard := none }) (v := ?_) rfl (by kernel_rfl) (by kernel_rfl) (by kernel_rfl) (by kernel_rfl) (fun _ _ _ h => h) (Or.inl ⟨by rfl, ?_⟩) ?_; rotate_left; (intro w hw; clear hw; (try go_split_ands); go_simp; try (with_reducible rfl)); simp only [Act.put, List.setIfInBounds_toArray, List.set_cons_zero, List.set_cons_succ])
        (refine Walk.take (i := 5) (oi := { dst := some 15, op := Op.indexAddr 23 (Operand.tmp 3) (Operand.tmp 14), type := 0, pos := "law.go:33", after := #[{ on := 4, ground := Ground.data }], guard := none }) (v := ?_) rfl (by kernel_rfl) (by kernel_rfl) (by kernel_rfl) (by kernel_rfl) (fun _ _ _ h => h) (Or.inl ⟨by rfl, ?_⟩) ?_; rotate_left; (intro w hw; clear hw; (try go_split_ands); go_simp; try (with_reducible rfl)); simp only [Act.put, List.setIfInBounds_toArray, List.set_cons_zero, List.set_cons_succ])
        (refine Walk.take (i := 6) (oi := { dst := some 16, op := Op.load 3 (Operand.tmp 15), type := 3, pos := "law.go:33", after := #[{ on := 5, ground := Ground.data }], guard := none }) (v := ?_) rfl (by kernel_rfl) (by kernel_rfl) (by kernel_rfl) (by kernel_rfl) (fun _ _ _ h => h) (Or.inl ⟨by rfl, ?_⟩) ?_; rotate_left; (intro w hw; have hS1 := hw.1 (by kernel_rfl); clear hw; (try dsimp only at hS1); (try go_split_ands); go_simp; try (with_reducible rfl)); simp only [Act.put, List.setIfInBounds_toArray, List.set_cons_zero, List.set_cons_succ])
        (refine Walk.go (i := 3) (o := { dst := some 13, op := Op.call { callee := Callee.value (Operand.func 28), args := #[Operand.tmp 12, Operand.const (Value.pointer none)], argTypes := #[31, 65] }, type := 3, pos := "law.go:33", after := #[{ on := 2, ground := Ground.data }], guard := none }) (by kernel_rfl) rfl (fun K hK => ?_); go_simp; ((go_at_call 28; refine (tell_none _ _).mono ?_; rintro e y1 ⟨rfl, dd⟩; replace kk := kk.step dd; clear dd)); refine hK.out _ _ (⟨fun _ => ⟨(kk.get (b := w.heap.size) (t := 32) (c := tab .i64 64 b) (by simp)).cell k hlt, (kk.get (b := w.heap.size + 1) (t := 23) (c := tab .i64 64 b) (by simp)).cell k hlt⟩, fun _ => trivial⟩) ?_; clear hK K; try simp only [Act.put, List.setIfInBounds_toArray, List.set_cons_zero, List.set_cons_succ])
        (refine Walk.take (i := 7) (oi := { dst := some 17, op := Op.binOp BinOp.neq 3 (Operand.tmp 13) (Operand.tmp 16) 3, type := 4, pos := "law.go:33", after := #[{ on := 3, ground := Ground.data }, { on := 6, ground := Ground.data }], guard := none }) (v := ?_) rfl (by kernel_rfl) (by kernel_rfl) (by kernel_rfl) (by kernel_rfl) (fun _ _ _ h => h) (Or.inl ⟨by rfl, ?_⟩) ?_; rotate_left; (intro w hw; clear hw; (try go_split_ands); go_simp; try (with_reducible rfl)); simp only [Act.put, List.setIfInBounds_toArray, List.set_cons_zero, List.set_cons_succ])
        refine Walk.done (by kernel_rfl) ?_ _
        have HX : Hid _ := kk
        clear kk
        go_wp2_with fail
        go_roundw
        case rel => exact ⟨k + 1, by omega, by go_num, HX.out⟩
        case measure => simp [intOf]; omega
    · go_wp2_with fail
      go_ret
      exact ⟨rfl, kk.but⟩

end Go.Proofs.YtlidijlmbelhhaaDoor
