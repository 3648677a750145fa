/- What Forward, Back, ForwardSec and BackSec of package quant answer. -/
import Derived.Test.YthaekjdnaaikfaaDoorQu2
import Derived.Test.YthaekjdnaaikfaaDoorQu3
namespace Go.Proofs.YthaekjdnaaikfaaDoor
set_option linter.unusedVariables false
open Go.ChangeShapes Go.WideShapes Go.ChangeAt Go.RowKit

set_option maxHeartbeats 3200000 in
set_option maxRecDepth 100000 in
theorem qForward_any (b q : Nat → Int) (v : Value) (w : World) (ht : QTab w) (hv : Sts w v q) (hq : Stp q) : Calls Tryd.prog 17 #[.agg (tab .i64 64 b).toArray, v] w fun e w' =>
    e = .returned (.agg (tab .i64 64 (qfwd b q)).toArray) ∧ But Nowhere w w' := by
  have hu := Tryd.underlying27
  have hiA : ∀ f, (Tryd.prog.info? 27).map (·.size) = some (tab .i64 64 f).length := fun f => by rw [tab_length]; kernel_rfl
  have hiB : ∀ f, (Tryd.prog.info? 27).map (·.size) = some (tab .i64 64 f).toArray.size := fun f => by rw [List.size_toArray, tab_length]; kernel_rfl
  have hiC : ∀ f, (Tryd.prog.info? 27).map (fun i => i.size) = some (tab .i64 64 f).length := fun f => by rw [tab_length]; kernel_rfl
  have kk := ((Keep.start w).made 27 (tab .i64 64 b)).zero 27
  simp only [World.size_alloc] at kk
  go_enter Tryd.func17, Tryd.ntmps17
  go_wp2_with fail
  revert kk
  generalize ((w.alloc (.cells (tab .i64 64 b).toArray 27)).alloc (.cells (Value.int .i64 0 :: Value.int .i64 0 :: Value.int .i64 0 :: Value.int .i64 0 :: Value.int .i64 0 :: Value.int .i64 0 :: Value.int .i64 0 :: Value.int .i64 0 :: Value.int .i64 0 :: Value.int .i64 0 :: Value.int .i64 0 :: Value.int .i64 0 :: Value.int .i64 0 :: Value.int .i64 0 :: Value.int .i64 0 :: Value.int .i64 0 :: Value.int .i64 0 :: Value.int .i64 0 :: Value.int .i64 0 :: Value.int .i64 0 :: Value.int .i64 0 :: Value.int .i64 0 :: Value.int .i64 0 :: Value.int .i64 0 :: Value.int .i64 0 :: Value.int .i64 0 :: Value.int .i64 0 :: Value.int .i64 0 :: Value.int .i64 0 :: Value.int .i64 0 :: Value.int .i64 0 :: Value.int .i64 0 :: Value.int .i64 0 :: Value.int .i64 0 :: Value.int .i64 0 :: Value.int .i64 0 :: Value.int .i64 0 :: Value.int .i64 0 :: Value.int .i64 0 :: Value.int .i64 0 :: Value.int .i64 0 :: Value.int .i64 0 :: Value.int .i64 0 :: Value.int .i64 0 :: Value.int .i64 0 :: Value.int .i64 0 :: Value.int .i64 0 :: Value.int .i64 0 :: Value.int .i64 0 :: Value.int .i64 0 :: Value.int .i64 0 :: Value.int .i64 0 :: Value.int .i64 0 :: Value.int .i64 0 :: Value.int .i64 0 :: Value.int .i64 0 :: Value.int .i64 0 :: Value.int .i64 0 :: Value.int .i64 0 :: Value.int .i64 0 :: Value.int .i64 0 :: Value.int .i64 0 :: Value.int .i64 0 :: Value.int .i64 0 :: []).toArray 27)) = W2
  intro kk
  replace kk := kk.drew
  refine wp_region_till (S := fun V => V.rangeAt (w.heap.size) 0 (tab .i64 64 b)) (R := fun _ => True) (k := 4) (m := 100) (by kernel_rfl) ((kk.get (b := w.heap.size) (t := 27) (c := tab .i64 64 b) (by simp)).all) trivial ?_
  revert kk
  generalize W2.drew = WD
  intro kk
  (refine Walk.take (i := 1) (oi := { dst := some 6, op := Op.load 27 (Operand.tmp 2), type := 27, pos := "quant.go:102", after := #[], guard := none }) (v := .agg (tab .i64 64 b).toArray) rfl (by kernel_rfl) (by kernel_rfl) (by kernel_rfl) (by kernel_rfl) (fun _ _ _ h => h) (yieldsIf_load_mid rfl 27 (.tmp 2) rfl (w.heap.size) 0 rfl (tab .i64 64 b) _ (fun w hw => (hw.1 (by kernel_rfl))) hu rfl (hiA _)) ?_; simp only [Act.put, List.setIfInBounds_toArray, List.set_cons_zero, List.set_cons_succ])
  (refine Walk.take (i := 2) (oi := { dst := some 7, op := Op.move (Operand.tmp 1), type := 29, pos := "quant.go:102", after := #[], guard := none }) (v := ?_) rfl (by kernel_rfl) (by kernel_rfl) (by kernel_rfl) (by kernel_rfl) (fun _ _ _ h => h) (Or.inl ⟨by rfl, ?_⟩) ?_; rotate_left; (intro w hw; clear hw; (try go_split_ands); go_simp; try (with_reducible rfl)); simp only [Act.put, List.setIfInBounds_toArray, List.set_cons_zero, List.set_cons_succ])
  (refine Walk.go (i := 0) (o := { dst := some 5, op := Op.call { callee := Callee.value (Operand.func 30), args := #[], argTypes := #[] }, type := 52, pos := "quant.go:102", after := #[], guard := none }) (by kernel_rfl) rfl (fun K hK => ?_); go_simp; ((go_at_call 30; refine (plain_any _).mono ?_; rintro e x1 ⟨rfl, dd⟩; replace kk := kk.step dd; clear dd)); refine hK.out _ _ (⟨fun _ => (kk.get (b := w.heap.size) (t := 27) (c := tab .i64 64 b) (by simp)).all, fun _ => trivial⟩) ?_; clear hK K; try simp only [Act.put, List.setIfInBounds_toArray, List.set_cons_zero, List.set_cons_succ])
  (refine Walk.go (i := 3) (o := { dst := some 8, op := Op.call { callee := Callee.value (Operand.func 29), args := #[Operand.tmp 5, Operand.tmp 6, Operand.tmp 7], argTypes := #[52, 26, 29] }, type := 26, pos := "quant.go:102", after := #[{ on := 0, ground := Ground.data }, { on := 1, ground := Ground.data }, { on := 2, ground := Ground.data }, { on := 0, ground := Ground.chain }], guard := none }) (by kernel_rfl) rfl (fun K hK => ?_); go_simp; ((go_at_call 29; refine (thereN_any b q v _ (ht.but kk.but) (hv.but kk.but) hq).mono ?_; rintro e x3 ⟨rfl, dd⟩; replace kk := kk.step dd; clear dd)); refine hK.out _ _ (⟨fun _ => (kk.get (b := w.heap.size) (t := 27) (c := tab .i64 64 b) (by simp)).all, fun _ => trivial⟩) ?_; clear hK K; try simp only [Act.put, List.setIfInBounds_toArray, List.set_cons_zero, List.set_cons_succ])
  (refine Walk.go (i := 4) (o := { dst := none, op := Op.store 27 (Operand.tmp 4) (Operand.tmp 8), type := 0, pos := "quant.go:102", after := #[{ on := 3, ground := Ground.data }, { on := 3, ground := Ground.chain }, { on := 0, ground := Ground.phase }, { on := 1, ground := Ground.phase }, { on := 2, ground := Ground.phase }, { on := 3, ground := Ground.phase }], guard := none }) (by kernel_rfl) rfl (fun K hK => ?_); refine wp_store_mid 27 (.tmp 4) (.tmp 8) rfl _ 0 (tab .i64 64 (qfwd b q)).toArray rfl rfl (kk.head.there 0 _ (by rw [List.size_toArray, tab_length, tab_length]; omega)) (hiB _) (tab_all _ _ _) ?_; (replace kk := kk.layAll (qfwd b q)); refine hK.out _ _ (⟨fun q => absurd q (by decide), fun _ => trivial⟩) ?_; clear hK K; try simp only [Act.put])
  refine Walk.done (by kernel_rfl) ?_ _
  go_wp2_with fail
  exact bodyPost_ret (results_cells rfl kk.head hu rfl (hiC _) _ rfl) rfl ⟨rfl, kk.but⟩

set_option maxHeartbeats 3200000 in
set_option maxRecDepth 100000 in
theorem qBack_any (b q : Nat → Int) (v : Value) (w : World) (ht : QTab w) (hv : Sts w v q) (hq : Stp q) : Calls Tryd.prog 18 #[.agg (tab .i64 64 b).toArray, v] w fun e w' =>
    e = .returned (.agg (tab .i64 64 (qbck b q)).toArray) ∧ But Nowhere w w' := by
  have hu := Tryd.underlying27
  have hiA : ∀ f, (Tryd.prog.info? 27).map (·.size) = some (tab .i64 64 f).length := fun f => by rw [tab_length]; kernel_rfl
  have hiB : ∀ f, (Tryd.prog.info? 27).map (·.size) = some (tab .i64 64 f).toArray.size := fun f => by rw [List.size_toArray, tab_length]; kernel_rfl
  have hiC : ∀ f, (Tryd.prog.info? 27).map (fun i => i.size) = some (tab .i64 64 f).length := fun f => by rw [tab_length]; kernel_rfl
  have kk := ((Keep.start w).made 27 (tab .i64 64 b)).zero 27
  simp only [World.size_alloc] at kk
  go_enter Tryd.func18, Tryd.ntmps18
  go_wp2_with fail
  revert kk
  generalize ((w.alloc (.cells (tab .i64 64 b).toArray 27)).alloc (.cells (Value.int .i64 0 :: Value.int .i64 0 :: Value.int .i64 0 :: Value.int .i64 0 :: Value.int .i64 0 :: Value.int .i64 0 :: Value.int .i64 0 :: Value.int .i64 0 :: Value.int .i64 0 :: Value.int .i64 0 :: Value.int .i64 0 :: Value.int .i64 0 :: Value.int .i64 0 :: Value.int .i64 0 :: Value.int .i64 0 :: Value.int .i64 0 :: Value.int .i64 0 :: Value.int .i64 0 :: Value.int .i64 0 :: Value.int .i64 0 :: Value.int .i64 0 :: Value.int .i64 0 :: Value.int .i64 0 :: Value.int .i64 0 :: Value.int .i64 0 :: Value.int .i64 0 :: Value.int .i64 0 :: Value.int .i64 0 :: Value.int .i64 0 :: Value.int .i64 0 :: Value.int .i64 0 :: Value.int .i64 0 :: Value.int .i64 0 :: Value.int .i64 0 :: Value.int .i64 0 :: Value.int .i64 0 :: Value.int .i64 0 :: Value.int .i64 0 :: Value.int .i64 0 :: Value.int .i64 0 :: Value.int .i64 0 :: Value.int .i64 0 :: Value.int .i64 0 :: Value.int .i64 0 :: Value.int .i64 0 :: Value.int .i64 0 :: Value.int .i64 0 :: Value.int .i64 0 :: Value.int .i64 0 :: Value.int .i64 0 :: Value.int .i64 0 :: Value.int .i64 0 :: Value.int .i64 0 :: Value.int .i64 0 :: Value.int .i64 0 :: Value.int .i64 0 :: Value.int .i64 0 :: Value.int .i64 0 :: Value.int .i64 0 :: Value.int .i64 0 :: Value.int .i64 0 :: Value.int .i64 0 :: Value.int .i64 0 :: Value.int .i64 0 :: []).toArray 27)) = W2
  intro kk
  replace kk := kk.drew
  refine wp_region_till (S := fun V => V.rangeAt (w.heap.size) 0 (tab .i64 64 b)) (R := fun _ => True) (k := 4) (m := 100) (by kernel_rfl) ((kk.get (b := w.heap.size) (t := 27) (c := tab .i64 64 b) (by simp)).all) trivial ?_
  revert kk
  generalize W2.drew = WD
  intro kk
  (refine Walk.take (i := 1) (oi := { dst := some 6, op := Op.load 27 (Operand.tmp 2), type := 27, pos := "quant.go:107", after := #[], guard := none }) (v := .agg (tab .i64 64 b).toArray) rfl (by kernel_rfl) (by kernel_rfl) (by kernel_rfl) (by kernel_rfl) (fun _ _ _ h => h) (yieldsIf_load_mid rfl 27 (.tmp 2) rfl (w.heap.size) 0 rfl (tab .i64 64 b) _ (fun w hw => (hw.1 (by kernel_rfl))) hu rfl (hiA _)) ?_; simp only [Act.put, List.setIfInBounds_toArray, List.set_cons_zero, List.set_cons_succ])
  (refine Walk.take (i := 2) (oi := { dst := some 7, op := Op.move (Operand.tmp 1), type := 29, pos := "quant.go:107", after := #[], guard := none }) (v := ?_) rfl (by kernel_rfl) (by kernel_rfl) (by kernel_rfl) (by kernel_rfl) (fun _ _ _ h => h) (Or.inl ⟨by rfl, ?_⟩) ?_; rotate_left; (intro w hw; clear hw; (try go_split_ands); go_simp; try (with_reducible rfl)); simp only [Act.put, List.setIfInBounds_toArray, List.set_cons_zero, List.set_cons_succ])
  (refine Walk.go (i := 0) (o := { dst := some 5, op := Op.call { callee := Callee.value (Operand.func 30), args := #[], argTypes := #[] }, type := 52, pos := "quant.go:107", after := #[], guard := none }) (by kernel_rfl) rfl (fun K hK => ?_); go_simp; ((go_at_call 30; refine (plain_any _).mono ?_; rintro e x1 ⟨rfl, dd⟩; replace kk := kk.step dd; clear dd)); refine hK.out _ _ (⟨fun _ => (kk.get (b := w.heap.size) (t := 27) (c := tab .i64 64 b) (by simp)).all, fun _ => trivial⟩) ?_; clear hK K; try simp only [Act.put, List.setIfInBounds_toArray, List.set_cons_zero, List.set_cons_succ])
  (refine Walk.go (i := 3) (o := { dst := some 8, op := Op.call { callee := Callee.value (Operand.func 31), args := #[Operand.tmp 5, Operand.tmp 6, Operand.tmp 7], argTypes := #[52, 26, 29] }, type := 26, pos := "quant.go:107", after := #[{ on := 0, ground := Ground.data }, { on := 1, ground := Ground.data }, { on := 2, ground := Ground.data }, { on := 0, ground := Ground.chain }], guard := none }) (by kernel_rfl) rfl (fun K hK => ?_); go_simp; ((go_at_call 31; refine (backN_any b q v _ (ht.but kk.but) (hv.but kk.but) hq).mono ?_; rintro e x3 ⟨rfl, dd⟩; replace kk := kk.step dd; clear dd)); refine hK.out _ _ (⟨fun _ => (kk.get (b := w.heap.size) (t := 27) (c := tab .i64 64 b) (by simp)).all, fun _ => trivial⟩) ?_; clear hK K; try simp only [Act.put, List.setIfInBounds_toArray, List.set_cons_zero, List.set_cons_succ])
  (refine Walk.go (i := 4) (o := { dst := none, op := Op.store 27 (Operand.tmp 4) (Operand.tmp 8), type := 0, pos := "quant.go:107", after := #[{ on := 3, ground := Ground.data }, { on := 3, ground := Ground.chain }, { on := 0, ground := Ground.phase }, { on := 1, ground := Ground.phase }, { on := 2, ground := Ground.phase }, { on := 3, ground := Ground.phase }], guard := none }) (by kernel_rfl) rfl (fun K hK => ?_); refine wp_store_mid 27 (.tmp 4) (.tmp 8) rfl _ 0 (tab .i64 64 (qbck b q)).toArray rfl rfl (kk.head.there 0 _ (by rw [List.size_toArray, tab_length, tab_length]; omega)) (hiB _) (tab_all _ _ _) ?_; (replace kk := kk.layAll (qbck b q)); refine hK.out _ _ (⟨fun q => absurd q (by decide), fun _ => trivial⟩) ?_; clear hK K; try simp only [Act.put])
  refine Walk.done (by kernel_rfl) ?_ _
  go_wp2_with fail
  exact bodyPost_ret (results_cells rfl kk.head hu rfl (hiC _) _ rfl) rfl ⟨rfl, kk.but⟩

set_option maxHeartbeats 3200000 in
set_option maxRecDepth 100000 in
theorem qForwardSec_any (b q : Nat → Int) (v : Value) (hI : ∀ j, j < 64 → I64 (b j)) (w : World) (ht : QTab w) (hv : Sts w v q) (hq : Stp q) : Calls Tryd.prog 21 #[.agg (tab .i64 64 b).toArray, v] w fun e w' =>
    e = .returned (.agg (tab .i64 64 (qfwd b q)).toArray) ∧ But Nowhere w w' := by
  have hu := Tryd.underlying37
  have hiA : ∀ f, (Tryd.prog.info? 37).map (·.size) = some (tab .i64 64 f).length := fun f => by rw [tab_length]; kernel_rfl
  have hiB : ∀ f, (Tryd.prog.info? 37).map (·.size) = some (tab .i64 64 f).toArray.size := fun f => by rw [List.size_toArray, tab_length]; kernel_rfl
  have hiC : ∀ f, (Tryd.prog.info? 37).map (fun i => i.size) = some (tab .i64 64 f).length := fun f => by rw [tab_length]; kernel_rfl
  have kk := ((Keep.start w).made 37 (tab .i64 64 b)).zero 37
  simp only [World.size_alloc] at kk
  go_enter Tryd.func21, Tryd.ntmps21
  go_wp2_with fail
  revert kk
  generalize ((w.alloc (.cells (tab .i64 64 b).toArray 37)).alloc (.cells (Value.int .i64 0 :: Value.int .i64 0 :: Value.int .i64 0 :: Value.int .i64 0 :: Value.int .i64 0 :: Value.int .i64 0 :: Value.int .i64 0 :: Value.int .i64 0 :: Value.int .i64 0 :: Value.int .i64 0 :: Value.int .i64 0 :: Value.int .i64 0 :: Value.int .i64 0 :: Value.int .i64 0 :: Value.int .i64 0 :: Value.int .i64 0 :: Value.int .i64 0 :: Value.int .i64 0 :: Value.int .i64 0 :: Value.int .i64 0 :: Value.int .i64 0 :: Value.int .i64 0 :: Value.int .i64 0 :: Value.int .i64 0 :: Value.int .i64 0 :: Value.int .i64 0 :: Value.int .i64 0 :: Value.int .i64 0 :: Value.int .i64 0 :: Value.int .i64 0 :: Value.int .i64 0 :: Value.int .i64 0 :: Value.int .i64 0 :: Value.int .i64 0 :: Value.int .i64 0 :: Value.int .i64 0 :: Value.int .i64 0 :: Value.int .i64 0 :: Value.int .i64 0 :: Value.int .i64 0 :: Value.int .i64 0 :: Value.int .i64 0 :: Value.int .i64 0 :: Value.int .i64 0 :: Value.int .i64 0 :: Value.int .i64 0 :: Value.int .i64 0 :: Value.int .i64 0 :: Value.int .i64 0 :: Value.int .i64 0 :: Value.int .i64 0 :: Value.int .i64 0 :: Value.int .i64 0 :: Value.int .i64 0 :: Value.int .i64 0 :: Value.int .i64 0 :: Value.int .i64 0 :: Value.int .i64 0 :: Value.int .i64 0 :: Value.int .i64 0 :: Value.int .i64 0 :: Value.int .i64 0 :: Value.int .i64 0 :: Value.int .i64 0 :: []).toArray 37)) = W2
  intro kk
  replace kk := kk.drew
  refine wp_region_till (S := fun V => V.rangeAt (w.heap.size) 0 (tab .i64 64 b)) (R := fun _ => True) (k := 4) (m := 100) (by kernel_rfl) ((kk.get (b := w.heap.size) (t := 37) (c := tab .i64 64 b) (by simp)).all) trivial ?_
  revert kk
  generalize W2.drew = WD
  intro kk
  (refine Walk.take (i := 1) (oi := { dst := some 6, op := Op.load 37 (Operand.tmp 2), type := 37, pos := "quant.go:112", after := #[], guard := none }) (v := .agg (tab .i64 64 b).toArray) rfl (by kernel_rfl) (by kernel_rfl) (by kernel_rfl) (by kernel_rfl) (fun _ _ _ h => h) (yieldsIf_load_mid rfl 37 (.tmp 2) rfl (w.heap.size) 0 rfl (tab .i64 64 b) _ (fun w hw => (hw.1 (by kernel_rfl))) hu rfl (hiA _)) ?_; simp only [Act.put, List.setIfInBounds_toArray, List.set_cons_zero, List.set_cons_succ])
  (refine Walk.take (i := 2) (oi := { dst := some 7, op := Op.move (Operand.tmp 1), type := 29, pos := "quant.go:112", after := #[], guard := none }) (v := ?_) rfl (by kernel_rfl) (by kernel_rfl) (by kernel_rfl) (by kernel_rfl) (fun _ _ _ h => h) (Or.inl ⟨by rfl, ?_⟩) ?_; rotate_left; (intro w hw; clear hw; (try go_split_ands); go_simp; try (with_reducible rfl)); simp only [Act.put, List.setIfInBounds_toArray, List.set_cons_zero, List.set_cons_succ])
  (refine Walk.go (i := 0) (o := { dst := some 5, op := Op.call { callee := Callee.value (Operand.func 34), args := #[], argTypes := #[] }, type := 59, pos := "quant.go:112", after := #[], guard := none }) (by kernel_rfl) rfl (fun K hK => ?_); go_simp; ((go_at_call 34; refine (secret_any _).mono ?_; rintro e x1 ⟨rfl, dd⟩; replace kk := kk.step dd; clear dd)); refine hK.out _ _ (⟨fun _ => (kk.get (b := w.heap.size) (t := 37) (c := tab .i64 64 b) (by simp)).all, fun _ => trivial⟩) ?_; clear hK K; try simp only [Act.put, List.setIfInBounds_toArray, List.set_cons_zero, List.set_cons_succ])
  (refine Walk.go (i := 3) (o := { dst := some 8, op := Op.call { callee := Callee.value (Operand.func 33), args := #[Operand.tmp 5, Operand.tmp 6, Operand.tmp 7], argTypes := #[59, 37, 29] }, type := 37, pos := "quant.go:112", after := #[{ on := 0, ground := Ground.data }, { on := 1, ground := Ground.data }, { on := 2, ground := Ground.data }, { on := 0, ground := Ground.chain }], guard := none }) (by kernel_rfl) rfl (fun K hK => ?_); go_simp; ((go_at_call 33; refine (thereS_any b q v hI _ (ht.but kk.but) (hv.but kk.but) hq).mono ?_; rintro e x3 ⟨rfl, dd⟩; replace kk := kk.step dd; clear dd)); refine hK.out _ _ (⟨fun _ => (kk.get (b := w.heap.size) (t := 37) (c := tab .i64 64 b) (by simp)).all, fun _ => trivial⟩) ?_; clear hK K; try simp only [Act.put, List.setIfInBounds_toArray, List.set_cons_zero, List.set_cons_succ])
  (refine Walk.go (i := 4) (o := { dst := none, op := Op.store 37 (Operand.tmp 4) (Operand.tmp 8), type := 0, pos := "quant.go:112", after := #[{ on := 3, ground := Ground.data }, { on := 3, ground := Ground.chain }, { on := 0, ground := Ground.phase }, { on := 1, ground := Ground.phase }, { on := 2, ground := Ground.phase }, { on := 3, ground := Ground.phase }], guard := none }) (by kernel_rfl) rfl (fun K hK => ?_); refine wp_store_mid 37 (.tmp 4) (.tmp 8) rfl _ 0 (tab .i64 64 (qfwd b q)).toArray rfl rfl (kk.head.there 0 _ (by rw [List.size_toArray, tab_length, tab_length]; omega)) (hiB _) (tab_all _ _ _) ?_; (replace kk := kk.layAll (qfwd b q)); refine hK.out _ _ (⟨fun q => absurd q (by decide), fun _ => trivial⟩) ?_; clear hK K; try simp only [Act.put])
  refine Walk.done (by kernel_rfl) ?_ _
  go_wp2_with fail
  exact bodyPost_ret (results_cells rfl kk.head hu rfl (hiC _) _ rfl) rfl ⟨rfl, kk.but⟩

set_option maxHeartbeats 3200000 in
set_option maxRecDepth 100000 in
theorem qBackSec_any (b q : Nat → Int) (v : Value) (hI : ∀ j, j < 64 → I64 (b j)) (w : World) (ht : QTab w) (hv : Sts w v q) (hq : Stp q) : Calls Tryd.prog 23 #[.agg (tab .i64 64 b).toArray, v] w fun e w' =>
    e = .returned (.agg (tab .i64 64 (qbck b q)).toArray) ∧ But Nowhere w w' := by
  have hu := Tryd.underlying37
  have hiA : ∀ f, (Tryd.prog.info? 37).map (·.size) = some (tab .i64 64 f).length := fun f => by rw [tab_length]; kernel_rfl
  have hiB : ∀ f, (Tryd.prog.info? 37).map (·.size) = some (tab .i64 64 f).toArray.size := fun f => by rw [List.size_toArray, tab_length]; kernel_rfl
  have hiC : ∀ f, (Tryd.prog.info? 37).map (fun i => i.size) = some (tab .i64 64 f).length := fun f => by rw [tab_length]; kernel_rfl
  have kk := ((Keep.start w).made 37 (tab .i64 64 b)).zero 37
  simp only [World.size_alloc] at kk
  go_enter Tryd.func23, Tryd.ntmps23
  go_wp2_with fail
  revert kk
  generalize ((w.alloc (.cells (tab .i64 64 b).toArray 37)).alloc (.cells (Value.int .i64 0 :: Value.int .i64 0 :: Value.int .i64 0 :: Value.int .i64 0 :: Value.int .i64 0 :: Value.int .i64 0 :: Value.int .i64 0 :: Value.int .i64 0 :: Value.int .i64 0 :: Value.int .i64 0 :: Value.int .i64 0 :: Value.int .i64 0 :: Value.int .i64 0 :: Value.int .i64 0 :: Value.int .i64 0 :: Value.int .i64 0 :: Value.int .i64 0 :: Value.int .i64 0 :: Value.int .i64 0 :: Value.int .i64 0 :: Value.int .i64 0 :: Value.int .i64 0 :: Value.int .i64 0 :: Value.int .i64 0 :: Value.int .i64 0 :: Value.int .i64 0 :: Value.int .i64 0 :: Value.int .i64 0 :: Value.int .i64 0 :: Value.int .i64 0 :: Value.int .i64 0 :: Value.int .i64 0 :: Value.int .i64 0 :: Value.int .i64 0 :: Value.int .i64 0 :: Value.int .i64 0 :: Value.int .i64 0 :: Value.int .i64 0 :: Value.int .i64 0 :: Value.int .i64 0 :: Value.int .i64 0 :: Value.int .i64 0 :: Value.int .i64 0 :: Value.int .i64 0 :: Value.int .i64 0 :: Value.int .i64 0 :: Value.int .i64 0 :: Value.int .i64 0 :: Value.int .i64 0 :: Value.int .i64 0 :: Value.int .i64 0 :: Value.int .i64 0 :: Value.int .i64 0 :: Value.int .i64 0 :: Value.int .i64 0 :: Value.int .i64 0 :: Value.int .i64 0 :: Value.int .i64 0 :: Value.int .i64 0 :: Value.int .i64 0 :: Value.int .i64 0 :: Value.int .i64 0 :: Value.int .i64 0 :: Value.int .i64 0 :: []).toArray 37)) = W2
  intro kk
  replace kk := kk.drew
  refine wp_region_till (S := fun V => V.rangeAt (w.heap.size) 0 (tab .i64 64 b)) (R := fun _ => True) (k := 4) (m := 100) (by kernel_rfl) ((kk.get (b := w.heap.size) (t := 37) (c := tab .i64 64 b) (by simp)).all) trivial ?_
  revert kk
  generalize W2.drew = WD
  intro kk
  (refine Walk.take (i := 1) (oi := { dst := some 6, op := Op.load 37 (Operand.tmp 2), type := 37, pos := "quant.go:117", after := #[], guard := none }) (v := .agg (tab .i64 64 b).toArray) rfl (by kernel_rfl) (by kernel_rfl) (by kernel_rfl) (by kernel_rfl) (fun _ _ _ h => h) (yieldsIf_load_mid rfl 37 (.tmp 2) rfl (w.heap.size) 0 rfl (tab .i64 64 b) _ (fun w hw => (hw.1 (by kernel_rfl))) hu rfl (hiA _)) ?_; simp only [Act.put, List.setIfInBounds_toArray, List.set_cons_zero, List.set_cons_succ])
  (refine Walk.take (i := 2) (oi := { dst := some 7, op := Op.move (Operand.tmp 1), type := 29, pos := "quant.go:117", after := #[], guard := none }) (v := ?_) rfl (by kernel_rfl) (by kernel_rfl) (by kernel_rfl) (by kernel_rfl) (fun _ _ _ h => h) (Or.inl ⟨by rfl, ?_⟩) ?_; rotate_left; (intro w hw; clear hw; (try go_split_ands); go_simp; try (with_reducible rfl)); simp only [Act.put, List.setIfInBounds_toArray, List.set_cons_zero, List.set_cons_succ])
  (refine Walk.go (i := 0) (o := { dst := some 5, op := Op.call { callee := Callee.value (Operand.func 34), args := #[], argTypes := #[] }, type := 59, pos := "quant.go:117", after := #[], guard := none }) (by kernel_rfl) rfl (fun K hK => ?_); go_simp; ((go_at_call 34; refine (secret_any _).mono ?_; rintro e x1 ⟨rfl, dd⟩; replace kk := kk.step dd; clear dd)); refine hK.out _ _ (⟨fun _ => (kk.get (b := w.heap.size) (t := 37) (c := tab .i64 64 b) (by simp)).all, fun _ => trivial⟩) ?_; clear hK K; try simp only [Act.put, List.setIfInBounds_toArray, List.set_cons_zero, List.set_cons_succ])
  (refine Walk.go (i := 3) (o := { dst := some 8, op := Op.call { callee := Callee.value (Operand.func 36), args := #[Operand.tmp 5, Operand.tmp 6, Operand.tmp 7], argTypes := #[59, 37, 29] }, type := 37, pos := "quant.go:117", after := #[{ on := 0, ground := Ground.data }, { on := 1, ground := Ground.data }, { on := 2, ground := Ground.data }, { on := 0, ground := Ground.chain }], guard := none }) (by kernel_rfl) rfl (fun K hK => ?_); go_simp; ((go_at_call 36; refine (backS_any b q v hI _ (ht.but kk.but) (hv.but kk.but) hq).mono ?_; rintro e x3 ⟨rfl, dd⟩; replace kk := kk.step dd; clear dd)); refine hK.out _ _ (⟨fun _ => (kk.get (b := w.heap.size) (t := 37) (c := tab .i64 64 b) (by simp)).all, fun _ => trivial⟩) ?_; clear hK K; try simp only [Act.put, List.setIfInBounds_toArray, List.set_cons_zero, List.set_cons_succ])
  (refine Walk.go (i := 4) (o := { dst := none, op := Op.store 37 (Operand.tmp 4) (Operand.tmp 8), type := 0, pos := "quant.go:117", after := #[{ on := 3, ground := Ground.data }, { on := 3, ground := Ground.chain }, { on := 0, ground := Ground.phase }, { on := 1, ground := Ground.phase }, { on := 2, ground := Ground.phase }, { on := 3, ground := Ground.phase }], guard := none }) (by kernel_rfl) rfl (fun K hK => ?_); refine wp_store_mid 37 (.tmp 4) (.tmp 8) rfl _ 0 (tab .i64 64 (qbck b q)).toArray rfl rfl (kk.head.there 0 _ (by rw [List.size_toArray, tab_length, tab_length]; omega)) (hiB _) (tab_all _ _ _) ?_; (replace kk := kk.layAll (qbck b q)); refine hK.out _ _ (⟨fun q => absurd q (by decide), fun _ => trivial⟩) ?_; clear hK K; try simp only [Act.put])
  refine Walk.done (by kernel_rfl) ?_ _
  go_wp2_with fail
  exact bodyPost_ret (results_cells rfl kk.head hu rfl (hiC _) _ rfl) rfl ⟨rfl, kk.but⟩

end Go.Proofs.YthaekjdnaaikfaaDoor
