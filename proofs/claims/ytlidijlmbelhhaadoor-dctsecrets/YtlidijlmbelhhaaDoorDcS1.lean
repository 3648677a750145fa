/- Secrets rounded. -/
import Derived.Test.YtlidijlmbelhhaaDoorDc6
import Derived.Deep.CutRange
namespace Go.Proofs.YtlidijlmbelhhaaDoor
set_option linter.unusedVariables false
open Go.ChangeShapes Go.WideShapes Go.ChangeAt Go.RowKit

theorem shr40 : (2 : Int) ^ (shN 40).toNat = 1099511627776 := by decide

theorem rnd_less (n : Int) (h0 : -1152921504606846976 ≤ n) (h1 : n ≤ 1152921504606846976) : wrap64 (wrap64 (n + 549755813888) + lessM n 0) / 2 ^ (shN 40).toNat = rnd n := by
  have hm := lessM_in n 0
  have e : lessM n 0 = if n < 0 then -1 else 0 := rfl
  rw [shr40, w64 (n + 549755813888) (by omega), e, w64 _ (by split <;> omega)]
  exact rnd_sec n

set_option maxHeartbeats 3200000 in
set_option maxRecDepth 100000 in
theorem roundedSec_in (n : Int) (w : World) (h0 : -1152921504606846976 ≤ n) (h1 : n ≤ 1152921504606846976) : Calls Tryd.prog 47 #[S64 n] w fun e w' => e = .returned (S64 (rnd n)) ∧ But Nowhere w w' := by
  have HR : Hid (wrap64 (wrap64 (n + 549755813888) + lessM n 0) / 2 ^ (shN 40).toNat = rnd n) := rnd_less n h0 h1
  have kk := ((Keep.start w).made 31 [.int .i64 n]).made 31 [.int .i64 0]
  simp only [World.size_alloc] at kk
  go_enter Tryd.func47, Tryd.ntmps47
  go_wp2_with fail
  revert kk
  generalize ((w.alloc (.cells #[.int .i64 n] 31)).alloc (.cells #[.int .i64 0] 31)) = W0
  intro kk
  go_cut [3] from 3 to 6 (fun s W => ∃ nb, s = .pointer (some ⟨nb, 0, none⟩) ∧ Keep w W ((nb, 31, [.int .i64 (lessM n 0)]) :: [(w.heap.size + 1, 31, [.int .i64 0]), (w.heap.size, 31, [.int .i64 n])]))
  case first =>
    replace kk := kk.drew
    refine wp_region_till (S := fun V => V.cell? ⟨w.heap.size, 0, none⟩ = some (.int .i64 n)) (R := fun _ => True) (k := 100) (m := 100) (by kernel_rfl) ((kk.get (b := w.heap.size) (t := 31) (c := [.int .i64 n]) (by simp)).at 0) trivial ?_
    revert kk
    generalize W0.drew = WD
    intro kk
    (refine Walk.take (i := 0) (oi := { dst := some 4, op := Op.load 31 (Operand.tmp 1), type := 31, pos := "dct.go:159", after := #[], guard := none }) (v := ?_) rfl (by kernel_rfl) (by kernel_rfl) (by kernel_rfl) (by kernel_rfl) (fun _ _ _ h => h) (Or.inl ⟨by rfl, ?_⟩) ?_; rotate_left; (intro w hw; have hS1 := hw.1 (by kernel_rfl); clear hw; (try dsimp only at hS1); (try go_split_ands); go_simp; try (with_reducible rfl)); simp only [Act.put, List.setIfInBounds_toArray, List.set_cons_zero, List.set_cons_succ])
    refine Walk.both (i := 1) (j := 3) (oi := { dst := some 5, op := Op.call { callee := Callee.value (Operand.func 31), args := #[Operand.const (Value.int IntKind.i64 0)], argTypes := #[3] }, type := 31, pos := "dct.go:159", after := #[], guard := none }) (oj := { dst := some 3, op := Op.alloc 31, type := 0, pos := "dct.go:159", after := #[], guard := none }) (by kernel_rfl) rfl rfl (fun K hK => ?_) (fun K hK => ?_)
    · go_simp; ((go_at_call 31; refine (of_any 0 _).mono ?_; rintro e y1 ⟨rfl, dd⟩; replace kk := kk.step dd; clear dd)); refine hK.out _ _ (⟨fun _ => (kk.get (b := w.heap.size) (t := 31) (c := [.int .i64 n]) (by simp)).at 0, fun _ => trivial⟩) ?_; clear hK K; try simp only [Act.put, List.setIfInBounds_toArray, List.set_cons_zero, List.set_cons_succ]
      refine Walk.both (i := 2) (j := 3) (oi := { dst := some 6, op := Op.call { callee := Callee.value (Operand.func 50), args := #[Operand.tmp 4, Operand.tmp 5], argTypes := #[31, 31] }, type := 31, pos := "dct.go:159", after := #[{ on := 0, ground := Ground.data }, { on := 1, ground := Ground.data }, { on := 1, ground := Ground.chain }], guard := none }) (oj := { dst := some 3, op := Op.alloc 31, type := 0, pos := "dct.go:159", after := #[], guard := none }) (by kernel_rfl) rfl rfl (fun K hK => ?_) (fun K hK => ?_)
      · go_simp; ((go_at_call 50; refine (less_any n 0 _ (by omega) (by omega)).mono ?_; rintro e y2 ⟨rfl, dd⟩; replace kk := kk.step dd; clear dd)); refine hK.out _ _ (⟨fun _ => (kk.get (b := w.heap.size) (t := 31) (c := [.int .i64 n]) (by simp)).at 0, fun _ => trivial⟩) ?_; clear hK K; try simp only [Act.put, List.setIfInBounds_toArray, List.set_cons_zero, List.set_cons_succ]
        have k0 := kk
        (refine Walk.go (i := 3) (o := { dst := some 3, op := Op.alloc 31, type := 0, pos := "dct.go:159", after := #[], guard := none }) (by kernel_rfl) rfl (fun K hK => ?_); go_simp; (replace kk := kk.made 31 [.int .i64 0]); refine hK.out _ _ (⟨fun _ => (kk.get (b := w.heap.size) (t := 31) (c := [.int .i64 n]) (by simp)).at 0, fun _ => trivial⟩) ?_; clear hK K; try simp only [Act.put, List.setIfInBounds_toArray, List.set_cons_zero, List.set_cons_succ])
        have q0 := kk.head.at 0
        have f0 := kk.head.frozen 0
        simp only [List.getElem?_cons_zero] at q0
        (refine Walk.go (i := 4) (o := { dst := none, op := Op.store 31 (Operand.tmp 3) (Operand.tmp 6), type := 0, pos := "dct.go:159", after := #[{ on := 3, ground := Ground.data }, { on := 2, ground := Ground.data }, { on := 2, ground := Ground.chain }, { on := 0, ground := Ground.phase }, { on := 1, ground := Ground.phase }, { on := 2, ground := Ground.phase }, { on := 3, ground := Ground.phase }], guard := none }) (by kernel_rfl) rfl (fun K hK => ?_); go_simp; (replace kk := k0.made 31 [.int .i64 (lessM n 0)]; clear q0 f0); refine hK.out _ _ (⟨fun _ => (kk.get (b := w.heap.size) (t := 31) (c := [.int .i64 n]) (by simp)).at 0, fun _ => trivial⟩) ?_; clear hK K; try simp only [Act.put, List.setIfInBounds_toArray, List.set_cons_zero, List.set_cons_succ])
        refine Walk.done (by kernel_rfl) ?_ _
        go_wp2_with fail
        go_meet
        case rel => exact ⟨_, rfl, kk⟩
      · go_simp; (replace kk := kk.made 31 [.int .i64 0]); refine hK.out _ _ (⟨fun _ => (kk.get (b := w.heap.size) (t := 31) (c := [.int .i64 n]) (by simp)).at 0, fun _ => trivial⟩) ?_; clear hK K; try simp only [Act.put, List.setIfInBounds_toArray, List.set_cons_zero, List.set_cons_succ]
        (refine Walk.go (i := 2) (o := { dst := some 6, op := Op.call { callee := Callee.value (Operand.func 50), args := #[Operand.tmp 4, Operand.tmp 5], argTypes := #[31, 31] }, type := 31, pos := "dct.go:159", after := #[{ on := 0, ground := Ground.data }, { on := 1, ground := Ground.data }, { on := 1, ground := Ground.chain }], guard := none }) (by kernel_rfl) rfl (fun K hK => ?_); go_simp; ((go_at_call 50; refine (less_any n 0 _ (by omega) (by omega)).mono ?_; rintro e y2 ⟨rfl, dd⟩; replace kk := kk.step dd; clear dd)); refine hK.out _ _ (⟨fun _ => (kk.get (b := w.heap.size) (t := 31) (c := [.int .i64 n]) (by simp)).at 0, fun _ => trivial⟩) ?_; clear hK K; try simp only [Act.put, List.setIfInBounds_toArray, List.set_cons_zero, List.set_cons_succ])
        have q0 := kk.head.at 0
        have f0 := kk.head.frozen 0
        simp only [List.getElem?_cons_zero] at q0
        (refine Walk.go (i := 4) (o := { dst := none, op := Op.store 31 (Operand.tmp 3) (Operand.tmp 6), type := 0, pos := "dct.go:159", after := #[{ on := 3, ground := Ground.data }, { on := 2, ground := Ground.data }, { on := 2, ground := Ground.chain }, { on := 0, ground := Ground.phase }, { on := 1, ground := Ground.phase }, { on := 2, ground := Ground.phase }, { on := 3, ground := Ground.phase }], guard := none }) (by kernel_rfl) rfl (fun K hK => ?_); go_simp; (replace kk := kk.set 0 (.int .i64 (lessM n 0)); clear q0 f0); refine hK.out _ _ (⟨fun _ => (kk.get (b := w.heap.size) (t := 31) (c := [.int .i64 n]) (by simp)).at 0, fun _ => trivial⟩) ?_; clear hK K; try simp only [Act.put, List.setIfInBounds_toArray, List.set_cons_zero, List.set_cons_succ])
        refine Walk.done (by kernel_rfl) ?_ _
        go_wp2_with fail
        go_meet
        case rel => exact ⟨_, rfl, kk⟩
    · go_simp; (replace kk := kk.made 31 [.int .i64 0]); refine hK.out _ _ (⟨fun _ => (kk.get (b := w.heap.size) (t := 31) (c := [.int .i64 n]) (by simp)).at 0, fun _ => trivial⟩) ?_; clear hK K; try simp only [Act.put, List.setIfInBounds_toArray, List.set_cons_zero, List.set_cons_succ]
      (refine Walk.go (i := 1) (o := { dst := some 5, op := Op.call { callee := Callee.value (Operand.func 31), args := #[Operand.const (Value.int IntKind.i64 0)], argTypes := #[3] }, type := 31, pos := "dct.go:159", after := #[], guard := none }) (by kernel_rfl) rfl (fun K hK => ?_); go_simp; ((go_at_call 31; refine (of_any 0 _).mono ?_; rintro e y1 ⟨rfl, dd⟩; replace kk := kk.step dd; clear dd)); refine hK.out _ _ (⟨fun _ => (kk.get (b := w.heap.size) (t := 31) (c := [.int .i64 n]) (by simp)).at 0, fun _ => trivial⟩) ?_; clear hK K; try simp only [Act.put, List.setIfInBounds_toArray, List.set_cons_zero, List.set_cons_succ])
      (refine Walk.go (i := 2) (o := { dst := some 6, op := Op.call { callee := Callee.value (Operand.func 50), args := #[Operand.tmp 4, Operand.tmp 5], argTypes := #[31, 31] }, type := 31, pos := "dct.go:159", after := #[{ on := 0, ground := Ground.data }, { on := 1, ground := Ground.data }, { on := 1, ground := Ground.chain }], guard := none }) (by kernel_rfl) rfl (fun K hK => ?_); go_simp; ((go_at_call 50; refine (less_any n 0 _ (by omega) (by omega)).mono ?_; rintro e y2 ⟨rfl, dd⟩; replace kk := kk.step dd; clear dd)); refine hK.out _ _ (⟨fun _ => (kk.get (b := w.heap.size) (t := 31) (c := [.int .i64 n]) (by simp)).at 0, fun _ => trivial⟩) ?_; clear hK K; try simp only [Act.put, List.setIfInBounds_toArray, List.set_cons_zero, List.set_cons_succ])
      have q0 := kk.head.at 0
      have f0 := kk.head.frozen 0
      simp only [List.getElem?_cons_zero] at q0
      (refine Walk.go (i := 4) (o := { dst := none, op := Op.store 31 (Operand.tmp 3) (Operand.tmp 6), type := 0, pos := "dct.go:159", after := #[{ on := 3, ground := Ground.data }, { on := 2, ground := Ground.data }, { on := 2, ground := Ground.chain }, { on := 0, ground := Ground.phase }, { on := 1, ground := Ground.phase }, { on := 2, ground := Ground.phase }, { on := 3, ground := Ground.phase }], guard := none }) (by kernel_rfl) rfl (fun K hK => ?_); go_simp; (replace kk := kk.set 0 (.int .i64 (lessM n 0)); clear q0 f0); refine hK.out _ _ (⟨fun _ => (kk.get (b := w.heap.size) (t := 31) (c := [.int .i64 n]) (by simp)).at 0, fun _ => trivial⟩) ?_; clear hK K; try simp only [Act.put, List.setIfInBounds_toArray, List.set_cons_zero, List.set_cons_succ])
      refine Walk.done (by kernel_rfl) ?_ _
      go_wp2_with fail
      go_meet
      case rel => exact ⟨_, rfl, kk⟩
  case rest =>
    clear kk W0
    obtain ⟨nb, rfl, kk⟩ := hcut
    replace kk := kk.drew
    go_wp2_with fail
    refine wp_region_till (S := fun V => V.cell? ⟨w.heap.size, 0, none⟩ = some (.int .i64 n) ∧ V.cell? ⟨nb, 0, none⟩ = some (.int .i64 (lessM n 0))) (R := fun _ => True) (k := 100) (m := 100) (by kernel_rfl) ⟨(kk.get (b := w.heap.size) (t := 31) (c := [.int .i64 n]) (by simp)).at 0, (kk.get (b := nb) (t := 31) (c := [.int .i64 (lessM n 0)]) (by simp)).at 0⟩ trivial ?_
    (refine Walk.take (i := 0) (oi := { dst := some 7, op := Op.load 31 (Operand.tmp 1), type := 31, pos := "dct.go:160", after := #[], guard := none }) (v := ?_) rfl (by kernel_rfl) (by kernel_rfl) (by kernel_rfl) (by kernel_rfl) (fun _ _ _ h => h) (Or.inl ⟨by rfl, ?_⟩) ?_; rotate_left; (intro w hw; have hS1 := hw.1 (by kernel_rfl); clear hw; (try dsimp only at hS1); (try go_split_ands); go_simp; try (with_reducible rfl)); simp only [Act.put, List.setIfInBounds_toArray, List.set_cons_zero, List.set_cons_succ])
    (refine Walk.take (i := 3) (oi := { dst := some 10, op := Op.load 31 (Operand.tmp 3), type := 31, pos := "dct.go:160", after := #[], guard := none }) (v := ?_) rfl (by kernel_rfl) (by kernel_rfl) (by kernel_rfl) (by kernel_rfl) (fun _ _ _ h => h) (Or.inl ⟨by rfl, ?_⟩) ?_; rotate_left; (intro w hw; have hS1 := hw.1 (by kernel_rfl); clear hw; (try dsimp only at hS1); (try go_split_ands); go_simp; try (with_reducible rfl)); simp only [Act.put, List.setIfInBounds_toArray, List.set_cons_zero, List.set_cons_succ])
    (refine Walk.go (i := 1) (o := { dst := some 8, op := Op.call { callee := Callee.value (Operand.func 31), args := #[Operand.const (Value.int IntKind.i64 549755813888)], argTypes := #[3] }, type := 31, pos := "dct.go:160", after := #[], guard := none }) (by kernel_rfl) rfl (fun K hK => ?_); go_simp; ((go_at_call 31; refine (of_any 549755813888 _).mono ?_; rintro e z1 ⟨rfl, dd⟩; replace kk := kk.step dd; clear dd)); refine hK.out _ _ (⟨fun _ => ⟨(kk.get (b := w.heap.size) (t := 31) (c := [.int .i64 n]) (by simp)).at 0, (kk.get (b := nb) (t := 31) (c := [.int .i64 (lessM n 0)]) (by simp)).at 0⟩, fun _ => trivial⟩) ?_; clear hK K; try simp only [Act.put, List.setIfInBounds_toArray, List.set_cons_zero, List.set_cons_succ])
    (refine Walk.go (i := 2) (o := { dst := some 9, op := Op.call { callee := Callee.value (Operand.func 44), args := #[Operand.tmp 7, Operand.tmp 8], argTypes := #[31, 31] }, type := 31, pos := "dct.go:160", after := #[{ on := 0, ground := Ground.data }, { on := 1, ground := Ground.data }, { on := 1, ground := Ground.chain }], guard := none }) (by kernel_rfl) rfl (fun K hK => ?_); go_simp; ((go_at_call 44; refine (add_any n 549755813888 _).mono ?_; rintro e z2 ⟨rfl, dd⟩; replace kk := kk.step dd; clear dd)); refine hK.out _ _ (⟨fun _ => ⟨(kk.get (b := w.heap.size) (t := 31) (c := [.int .i64 n]) (by simp)).at 0, (kk.get (b := nb) (t := 31) (c := [.int .i64 (lessM n 0)]) (by simp)).at 0⟩, fun _ => trivial⟩) ?_; clear hK K; try simp only [Act.put, List.setIfInBounds_toArray, List.set_cons_zero, List.set_cons_succ])
    (refine Walk.go (i := 4) (o := { dst := some 11, op := Op.call { callee := Callee.value (Operand.func 44), args := #[Operand.tmp 9, Operand.tmp 10], argTypes := #[31, 31] }, type := 31, pos := "dct.go:160", after := #[{ on := 2, ground := Ground.data }, { on := 3, ground := Ground.data }, { on := 2, ground := Ground.chain }], guard := none }) (by kernel_rfl) rfl (fun K hK => ?_); go_simp; ((go_at_call 44; refine (add_any _ _ _).mono ?_; rintro e z3 ⟨rfl, dd⟩; replace kk := kk.step dd; clear dd)); refine hK.out _ _ (⟨fun _ => ⟨(kk.get (b := w.heap.size) (t := 31) (c := [.int .i64 n]) (by simp)).at 0, (kk.get (b := nb) (t := 31) (c := [.int .i64 (lessM n 0)]) (by simp)).at 0⟩, fun _ => trivial⟩) ?_; clear hK K; try simp only [Act.put, List.setIfInBounds_toArray, List.set_cons_zero, List.set_cons_succ])
    (refine Walk.go (i := 5) (o := { dst := some 12, op := Op.call { callee := Callee.value (Operand.func 52), args := #[Operand.tmp 11, Operand.const (Value.int IntKind.i64 40)], argTypes := #[31, 3] }, type := 31, pos := "dct.go:160", after := #[{ on := 4, ground := Ground.data }, { on := 4, ground := Ground.chain }], guard := none }) (by kernel_rfl) rfl (fun K hK => ?_); go_simp; ((go_at_call 52; refine (shr_any _ 40 _).mono ?_; rintro e z4 ⟨rfl, dd⟩; rw [HR.out]; replace kk := kk.step dd; clear dd)); refine hK.out _ _ (⟨fun _ => ⟨(kk.get (b := w.heap.size) (t := 31) (c := [.int .i64 n]) (by simp)).at 0, (kk.get (b := nb) (t := 31) (c := [.int .i64 (lessM n 0)]) (by simp)).at 0⟩, fun _ => trivial⟩) ?_; clear hK K; try simp only [Act.put, List.setIfInBounds_toArray, List.set_cons_zero, List.set_cons_succ])
    replace kk := kk.front 1 (by simp)
    have q0 := kk.head.at 0
    have f0 := kk.head.frozen 0
    simp only [List.getElem?_cons_zero] at q0
    (refine Walk.go (i := 6) (o := { dst := none, op := Op.store 31 (Operand.tmp 2) (Operand.tmp 12), type := 0, pos := "dct.go:160", after := #[{ on := 5, ground := Ground.data }, { on := 5, ground := Ground.chain }, { on := 0, ground := Ground.phase }, { on := 1, ground := Ground.phase }, { on := 2, ground := Ground.phase }, { on := 3, ground := Ground.phase }, { on := 4, ground := Ground.phase }, { on := 5, ground := Ground.phase }], guard := none }) (by kernel_rfl) rfl (fun K hK => ?_); go_simp; (replace kk := kk.set 0 (.int .i64 (rnd n)); clear q0 f0); refine hK.out _ _ (⟨fun _ => ⟨(kk.get (b := w.heap.size) (t := 31) (c := [.int .i64 n]) (by simp)).at 0, (kk.get (b := nb) (t := 31) (c := [.int .i64 (lessM n 0)]) (by simp)).at 0⟩, fun _ => trivial⟩) ?_; clear hK K; try simp only [Act.put, List.setIfInBounds_toArray, List.set_cons_zero, List.set_cons_succ])
    refine Walk.done (by kernel_rfl) ?_ _
    go_wp2_with fail
    exact bodyPost_ret (results_sec rfl _ _ _ (rnd n) rfl (by have := kk.head.at 0; simpa using this)) rfl ⟨rfl, kk.but⟩

end Go.Proofs.YtlidijlmbelhhaaDoor
