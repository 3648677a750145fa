/- A block by steps, there and back: secrets. -/
import Derived.Test.YthaekjdnaaikfaaDoorQu1
namespace Go.Proofs.YthaekjdnaaikfaaDoor
set_option linter.unusedVariables false
open Go.ChangeShapes Go.WideShapes Go.ChangeAt Go.RowKit

set_option maxHeartbeats 3200000 in
set_option maxRecDepth 100000 in
theorem timesSec_any (a b : Int) (w : World) : Calls Tryd.prog 48 #[S64 a, .int .i64 b] w fun e w' => e = .returned (S64 (wrap64 (a * b))) ∧ But Nowhere w w' := by
  have kk := ((Keep.start w).made 36 [.int .i64 a]).made 36 [.int .i64 0]
  simp only [World.size_alloc] at kk
  go_enter Tryd.func48, Tryd.ntmps48
  go_wp2_with fail
  replace kk := kk.drew
  refine wp_region_till (S := fun V => V.cell? ⟨w.heap.size, 0, none⟩ = some (.int .i64 a)) (R := fun _ => True) (k := 4) (m := 100) (by kernel_rfl) ((kk.get (b := w.heap.size) (t := 36) (c := [.int .i64 a]) (by simp)).at 0) trivial ?_
  revert kk
  generalize ((w.alloc (.cells #[.int .i64 a] 36)).alloc (.cells #[.int .i64 0] 36)).drew = W0
  intro kk
  (refine Walk.take (i := 0) (oi := { dst := some 5, op := Op.load 36 (Operand.tmp 2), type := 36, pos := "quant.go:189", after := #[], guard := none }) (v := ?_) rfl (by kernel_rfl) (by kernel_rfl) (by kernel_rfl) (by kernel_rfl) (fun _ _ _ h => h) (Or.inl ⟨by rfl, ?_⟩) ?_; rotate_left; (intro w hw; have hS1 := hw.1 (by kernel_rfl); clear hw; (try dsimp only at hS1); (try go_split_ands); go_simp; try (with_reducible rfl)); simp only [Act.put, List.setIfInBounds_toArray, List.set_cons_zero, List.set_cons_succ])
  (refine Walk.take (i := 1) (oi := { dst := some 6, op := Op.move (Operand.tmp 1), type := 3, pos := "quant.go:189", after := #[], guard := none }) (v := ?_) rfl (by kernel_rfl) (by kernel_rfl) (by kernel_rfl) (by kernel_rfl) (fun _ _ _ h => h) (Or.inl ⟨by rfl, ?_⟩) ?_; rotate_left; (intro w hw; clear hw; (try go_split_ands); go_simp; try (with_reducible rfl)); simp only [Act.put, List.setIfInBounds_toArray, List.set_cons_zero, List.set_cons_succ])
  (refine Walk.go (i := 2) (o := { dst := some 7, op := Op.call { callee := Callee.value (Operand.func 35), args := #[Operand.tmp 6], argTypes := #[3] }, type := 36, pos := "quant.go:189", after := #[{ on := 1, ground := Ground.data }], guard := none }) (by kernel_rfl) rfl (fun K hK => ?_); go_simp; ((go_at_call 35; refine (of_any b _).mono ?_; rintro e y1 ⟨rfl, dd⟩; replace kk := kk.step dd; clear dd)); refine hK.out _ _ (⟨fun _ => (kk.get (b := w.heap.size) (t := 36) (c := [.int .i64 a]) (by simp)).at 0, fun _ => trivial⟩) ?_; clear hK K; try simp only [Act.put, List.setIfInBounds_toArray, List.set_cons_zero, List.set_cons_succ])
  (refine Walk.go (i := 3) (o := { dst := some 8, op := Op.call { callee := Callee.value (Operand.func 57), args := #[Operand.tmp 5, Operand.tmp 7], argTypes := #[36, 36] }, type := 36, pos := "quant.go:189", after := #[{ on := 0, ground := Ground.data }, { on := 2, ground := Ground.data }, { on := 2, ground := Ground.chain }], guard := none }) (by kernel_rfl) rfl (fun K hK => ?_); go_simp; ((go_at_call 57; refine (mul_any a b _).mono ?_; rintro e y2 ⟨rfl, dd⟩; replace kk := kk.step dd; clear dd)); refine hK.out _ _ (⟨fun _ => (kk.get (b := w.heap.size) (t := 36) (c := [.int .i64 a]) (by simp)).at 0, fun _ => trivial⟩) ?_; clear hK K; try simp only [Act.put, List.setIfInBounds_toArray, List.set_cons_zero, List.set_cons_succ])
  have q0 := kk.head.at 0
  have f0 := kk.head.frozen 0
  simp only [List.getElem?_cons_zero] at q0
  (refine Walk.go (i := 4) (o := { dst := none, op := Op.store 36 (Operand.tmp 4) (Operand.tmp 8), type := 0, pos := "quant.go:189", after := #[{ on := 3, ground := Ground.data }, { on := 3, ground := Ground.chain }, { on := 0, ground := Ground.phase }, { on := 1, ground := Ground.phase }, { on := 2, ground := Ground.phase }, { on := 3, ground := Ground.phase }], guard := none }) (by kernel_rfl) rfl (fun K hK => ?_); go_simp; (replace kk := kk.set 0 (.int .i64 (wrap64 (a * b))); clear q0 f0); refine hK.out _ _ (⟨fun q => absurd q (by decide), fun _ => trivial⟩) ?_; clear hK K; try simp only [Act.put, List.setIfInBounds_toArray, List.set_cons_zero, List.set_cons_succ])
  refine Walk.done (by kernel_rfl) ?_ _
  go_wp2_with fail
  exact bodyPost_ret (results_sec rfl _ _ _ (wrap64 (a * b)) rfl (by have := kk.head.at 0; simpa using this)) rfl ⟨rfl, kk.but⟩

set_option maxHeartbeats 6400000 in
set_option maxRecDepth 100000 in
theorem thereS_any (b q : Nat → Int) (v : Value) (hI : ∀ j, j < 64 → I64 (b j)) (w : World) (ht : QTab w) (hv : Sts w v q) (hq : Stp q) : Calls Tryd.prog 33 #[.agg rkS.toArray, .agg (tab .i64 64 b).toArray, v] w fun e w' =>
    e = .returned (.agg (tab .i64 64 (qfwd b q)).toArray) ∧ But Nowhere w w' := by
  have hu := Tryd.underlying37
  have hiZ : (Tryd.prog.info? 37).map (·.size) = some (tab .i64 64 b).length := by rw [tab_length]; kernel_rfl
  have hiA : (Tryd.prog.info? 37).map (·.size) = some (tab .i64 64 (qfwd b q)).length := by rw [tab_length]; kernel_rfl
  have hiB : (Tryd.prog.info? 37).map (·.size) = some (tab .i64 64 (qfwd b q)).toArray.size := by rw [List.size_toArray, tab_length]; kernel_rfl
  have hiC : (Tryd.prog.info? 37).map (fun i => i.size) = some (tab .i64 64 (qfwd b q)).length := by rw [tab_length]; kernel_rfl
  have kk := ((((Keep.start w).made 59 rkS).made 37 (tab .i64 64 b)).zero 37).zero 37
  simp only [World.size_alloc] at kk
  have HV : Hid (Sts w v q) := hv
  have HT : Hid (QTab w) := ht
  clear hv ht
  go_enter Tryd.func33, Tryd.ntmps33
  go_wp2_with fail
  revert kk
  generalize ((((w.alloc (.cells rkS.toArray 59)).alloc (.cells (tab .i64 64 b).toArray 37)).alloc (.cells (Value.int .i64 0 :: Value.int .i64 0 :: Value.int .i64 0 :: Value.int .i64 0 :: Value.int .i64 0 :: Value.int .i64 0 :: Value.int .i64 0 :: Value.int .i64 0 :: Value.int .i64 0 :: Value.int .i64 0 :: Value.int .i64 0 :: Value.int .i64 0 :: Value.int .i64 0 :: Value.int .i64 0 :: Value.int .i64 0 :: Value.int .i64 0 :: Value.int .i64 0 :: Value.int .i64 0 :: Value.int .i64 0 :: Value.int .i64 0 :: Value.int .i64 0 :: Value.int .i64 0 :: Value.int .i64 0 :: Value.int .i64 0 :: Value.int .i64 0 :: Value.int .i64 0 :: Value.int .i64 0 :: Value.int .i64 0 :: Value.int .i64 0 :: Value.int .i64 0 :: Value.int .i64 0 :: Value.int .i64 0 :: Value.int .i64 0 :: Value.int .i64 0 :: Value.int .i64 0 :: Value.int .i64 0 :: Value.int .i64 0 :: Value.int .i64 0 :: Value.int .i64 0 :: Value.int .i64 0 :: Value.int .i64 0 :: Value.int .i64 0 :: Value.int .i64 0 :: Value.int .i64 0 :: Value.int .i64 0 :: Value.int .i64 0 :: Value.int .i64 0 :: Value.int .i64 0 :: Value.int .i64 0 :: Value.int .i64 0 :: Value.int .i64 0 :: Value.int .i64 0 :: Value.int .i64 0 :: Value.int .i64 0 :: Value.int .i64 0 :: Value.int .i64 0 :: Value.int .i64 0 :: Value.int .i64 0 :: Value.int .i64 0 :: Value.int .i64 0 :: Value.int .i64 0 :: Value.int .i64 0 :: Value.int .i64 0 :: Value.int .i64 0 :: []).toArray 37)).alloc (.cells (Value.int .i64 0 :: Value.int .i64 0 :: Value.int .i64 0 :: Value.int .i64 0 :: Value.int .i64 0 :: Value.int .i64 0 :: Value.int .i64 0 :: Value.int .i64 0 :: Value.int .i64 0 :: Value.int .i64 0 :: Value.int .i64 0 :: Value.int .i64 0 :: Value.int .i64 0 :: Value.int .i64 0 :: Value.int .i64 0 :: Value.int .i64 0 :: Value.int .i64 0 :: Value.int .i64 0 :: Value.int .i64 0 :: Value.int .i64 0 :: Value.int .i64 0 :: Value.int .i64 0 :: Value.int .i64 0 :: Value.int .i64 0 :: Value.int .i64 0 :: Value.int .i64 0 :: Value.int .i64 0 :: Value.int .i64 0 :: Value.int .i64 0 :: Value.int .i64 0 :: Value.int .i64 0 :: Value.int .i64 0 :: Value.int .i64 0 :: Value.int .i64 0 :: Value.int .i64 0 :: Value.int .i64 0 :: Value.int .i64 0 :: Value.int .i64 0 :: Value.int .i64 0 :: Value.int .i64 0 :: Value.int .i64 0 :: Value.int .i64 0 :: Value.int .i64 0 :: Value.int .i64 0 :: Value.int .i64 0 :: Value.int .i64 0 :: Value.int .i64 0 :: Value.int .i64 0 :: Value.int .i64 0 :: Value.int .i64 0 :: Value.int .i64 0 :: Value.int .i64 0 :: Value.int .i64 0 :: Value.int .i64 0 :: Value.int .i64 0 :: Value.int .i64 0 :: Value.int .i64 0 :: Value.int .i64 0 :: Value.int .i64 0 :: Value.int .i64 0 :: Value.int .i64 0 :: Value.int .i64 0 :: Value.int .i64 0 :: Value.int .i64 0 :: []).toArray 37)) = W5
  intro kk
  go_loopw [11] (fun i V => ∃ k : Nat, k ≤ 64 ∧ i = .int .i64 k ∧ Keep w V [(w.heap.size + 1 + 1 + 1, 37, tab .i64 64 (fun j => if j < k then qfwd b q j else 0)), (w.heap.size + 1 + 1, 37, tab .i64 64 (fun _ => 0)), (w.heap.size + 1, 37, tab .i64 64 b), (w.heap.size, 59, rkS)]) (fun i _ => 64 - (intOf i).toNat)
  case atStart => exact ⟨0, Nat.zero_le _, rfl, by rw [fwd_start]; exact kk⟩
  case round =>
    clear kk
    obtain ⟨k, hk, rfl, kk⟩ := hrel
    by_cases hlt : k < 64
    · have i0 : (0 : Int) ≤ (k : Int) := by omega
      have i1 : (k : Int) < 64 := by omega
      have hz := zz_lt k hlt
      have j0 : (0 : Int) ≤ ((zz k : Nat) : Int) := by omega
      have j1 : ((zz k : Nat) : Int) < 64 := by omega
      have HI : Hid _ := hI (zz k) hz
      have HQ : Hid _ := hq (zz k) hz
      have HN : Hid _ := clipF_bd (b (zz k)) (-32767) 32767 (by omega)
      have HR : Hid (I64 (nearF (clipF (b (zz k)) (-32767) 32767) (q (zz k)))) := by have := nearF_bd _ _ HN.out.1 HN.out.2 HQ.out.1 HQ.out.2; exact ⟨by omega, by omega⟩
      have HL : Hid (I64 (leastF k)) := by unfold leastF; split <;> exact ⟨by omega, by omega⟩
      have HF : Hid (clipF (nearF (clipF (b (zz k)) (-32767) 32767) (q (zz k))) (leastF k) 1023 = qfwd b q k) := rfl
      go_wp2_with (go_at_call 10; refine (zig_in k hlt _ (HT.out.but kk.but)).mono ?_; rintro e w' ⟨rfl, rfl⟩)
      go_cut [10] from 16 to 21 (fun s V => ∃ nb, s = .pointer (some ⟨nb, 0, none⟩) ∧ Keep w V ((nb, 36, [.int .i64 (clipF (b (zz k)) (-32767) 32767)]) :: [(w.heap.size + 1 + 1 + 1, 37, tab .i64 64 (fun j => if j < k then qfwd b q j else 0)), (w.heap.size + 1 + 1, 37, tab .i64 64 (fun _ => 0)), (w.heap.size + 1, 37, tab .i64 64 b), (w.heap.size, 59, rkS)]))
      case first =>
        replace kk := kk.drew
        refine wp_region_till (S := fun V => V.cell? ⟨w.heap.size, 0, none⟩ = some (.func (.func 46) #[] #[]) ∧ V.cell? ⟨w.heap.size + 1, zz k, none⟩ = some (.int .i64 (b (zz k)))) (R := fun _ => True) (k := 100) (m := 100) (by kernel_rfl) ⟨(kk.get (b := w.heap.size) (t := 59) (c := rkS) (by simp)).at 0, ((kk.get (b := w.heap.size + 1) (t := 37) (c := tab .i64 64 b) (by simp)).cell (zz k) hz)⟩ trivial ?_
        revert kk
        generalize w'.drew = WG
        intro kk
        (refine Walk.take (i := 0) (oi := { dst := some 16, op := Op.fieldAddr 59 (Operand.tmp 3) 0, type := 0, pos := "quant.go:125", after := #[], guard := none }) (v := ?_) rfl (by kernel_rfl) (by kernel_rfl) (by kernel_rfl) (by kernel_rfl) (fun _ _ _ h => h) (Or.inl ⟨by rfl, ?_⟩) ?_; rotate_left; (intro w hw; clear hw; (try go_split_ands); go_simp; try (with_reducible rfl)); simp only [Act.put, List.setIfInBounds_toArray, List.set_cons_zero, List.set_cons_succ])
        (refine Walk.take (i := 1) (oi := { dst := some 17, op := Op.load 56 (Operand.tmp 16), type := 56, pos := "quant.go:125", after := #[{ on := 0, ground := Ground.data }], guard := none }) (v := ?_) rfl (by kernel_rfl) (by kernel_rfl) (by kernel_rfl) (by kernel_rfl) (fun _ _ _ h => h) (Or.inl ⟨by rfl, ?_⟩) ?_; rotate_left; (intro w hw; have hS1 := hw.1 (by kernel_rfl); clear hw; (try dsimp only at hS1); (try go_split_ands); go_simp; try (with_reducible rfl)); simp only [Act.put, List.setIfInBounds_toArray, List.set_cons_zero, List.set_cons_succ])
        (refine Walk.take (i := 2) (oi := { dst := some 18, op := Op.move (Operand.tmp 9), type := 3, pos := "quant.go:125", after := #[], guard := none }) (v := ?_) rfl (by kernel_rfl) (by kernel_rfl) (by kernel_rfl) (by kernel_rfl) (fun _ _ _ h => h) (Or.inl ⟨by rfl, ?_⟩) ?_; rotate_left; (intro w hw; clear hw; (try go_split_ands); go_simp; try (with_reducible rfl)); simp only [Act.put, List.setIfInBounds_toArray, List.set_cons_zero, List.set_cons_succ])
        (refine Walk.take (i := 3) (oi := { dst := some 19, op := Op.indexAddr 37 (Operand.tmp 4) (Operand.tmp 18), type := 0, pos := "quant.go:125", after := #[{ on := 2, ground := Ground.data }], guard := none }) (v := ?_) rfl (by kernel_rfl) (by kernel_rfl) (by kernel_rfl) (by kernel_rfl) (fun _ _ _ h => h) (Or.inl ⟨by rfl, ?_⟩) ?_; rotate_left; (intro w hw; clear hw; (try go_split_ands); go_simp; try (with_reducible rfl)); simp only [Act.put, List.setIfInBounds_toArray, List.set_cons_zero, List.set_cons_succ])
        (refine Walk.take (i := 4) (oi := { dst := some 20, op := Op.load 36 (Operand.tmp 19), type := 36, pos := "quant.go:125", after := #[{ on := 3, ground := Ground.data }], guard := none }) (v := ?_) rfl (by kernel_rfl) (by kernel_rfl) (by kernel_rfl) (by kernel_rfl) (fun _ _ _ h => h) (Or.inl ⟨by rfl, ?_⟩) ?_; rotate_left; (intro w hw; have hS1 := hw.1 (by kernel_rfl); clear hw; (try dsimp only at hS1); (try go_split_ands); go_simp; try (with_reducible rfl)); simp only [Act.put, List.setIfInBounds_toArray, List.set_cons_zero, List.set_cons_succ])
        refine Walk.both (i := 5) (j := 6) (oi := { dst := some 21, op := Op.call { callee := Callee.value (Operand.tmp 17), args := #[Operand.tmp 20, Operand.const (Value.int IntKind.i64 (-32767)), Operand.const (Value.int IntKind.i64 32767)], argTypes := #[36, 3, 3] }, type := 36, pos := "quant.go:125", after := #[{ on := 1, ground := Ground.data }, { on := 4, ground := Ground.data }], guard := none }) (oj := { dst := some 10, op := Op.alloc 36, type := 0, pos := "quant.go:125", after := #[], guard := none }) (by kernel_rfl) rfl rfl (fun K hK => ?_) (fun K hK => ?_)
        · go_simp; ((go_at_call 46; refine (clip_any (b (zz k)) (-32767) 32767 _ HI.out (by omega) (by omega)).mono ?_; rintro e y1 ⟨rfl, dd⟩; replace kk := kk.step dd; clear dd)); refine hK.out _ _ (⟨fun _ => ⟨(kk.get (b := w.heap.size) (t := 59) (c := rkS) (by simp)).at 0, ((kk.get (b := w.heap.size + 1) (t := 37) (c := tab .i64 64 b) (by simp)).cell (zz k) hz)⟩, fun _ => trivial⟩) ?_; clear hK K; try simp only [Act.put, List.setIfInBounds_toArray, List.set_cons_zero, List.set_cons_succ]
          have k0 := kk
          (refine Walk.go (i := 6) (o := { dst := some 10, op := Op.alloc 36, type := 0, pos := "quant.go:125", after := #[], guard := none }) (by kernel_rfl) rfl (fun K hK => ?_); go_simp; (replace kk := kk.made 36 [.int .i64 0]); refine hK.out _ _ (⟨fun _ => ⟨(kk.get (b := w.heap.size) (t := 59) (c := rkS) (by simp)).at 0, ((kk.get (b := w.heap.size + 1) (t := 37) (c := tab .i64 64 b) (by simp)).cell (zz k) hz)⟩, fun _ => trivial⟩) ?_; clear hK K; try simp only [Act.put, List.setIfInBounds_toArray, List.set_cons_zero, List.set_cons_succ])
          have q0 := kk.head.at 0
          have f0 := kk.head.frozen 0
          simp only [List.getElem?_cons_zero] at q0
          (refine Walk.go (i := 7) (o := { dst := none, op := Op.store 36 (Operand.tmp 10) (Operand.tmp 21), type := 0, pos := "quant.go:125", after := #[{ on := 6, ground := Ground.data }, { on := 5, ground := Ground.data }, { on := 5, ground := Ground.chain }, { on := 0, ground := Ground.phase }, { on := 1, ground := Ground.phase }, { on := 2, ground := Ground.phase }, { on := 3, ground := Ground.phase }, { on := 4, ground := Ground.phase }, { on := 5, ground := Ground.phase }, { on := 6, ground := Ground.phase }], guard := none }) (by kernel_rfl) rfl (fun K hK => ?_); go_simp; (replace kk := k0.made 36 [.int .i64 (clipF (b (zz k)) (-32767) 32767)]; clear q0 f0); refine hK.out _ _ (⟨fun _ => ⟨(kk.get (b := w.heap.size) (t := 59) (c := rkS) (by simp)).at 0, ((kk.get (b := w.heap.size + 1) (t := 37) (c := tab .i64 64 b) (by simp)).cell (zz k) hz)⟩, fun _ => trivial⟩) ?_; clear hK K; try simp only [Act.put, List.setIfInBounds_toArray, List.set_cons_zero, List.set_cons_succ])
          refine Walk.done (by kernel_rfl) ?_ _
          go_wp2_with fail
          go_meet
          case rel => exact ⟨_, rfl, kk⟩
        · go_simp; (replace kk := kk.made 36 [.int .i64 0]); refine hK.out _ _ (⟨fun _ => ⟨(kk.get (b := w.heap.size) (t := 59) (c := rkS) (by simp)).at 0, ((kk.get (b := w.heap.size + 1) (t := 37) (c := tab .i64 64 b) (by simp)).cell (zz k) hz)⟩, fun _ => trivial⟩) ?_; clear hK K; try simp only [Act.put, List.setIfInBounds_toArray, List.set_cons_zero, List.set_cons_succ]
          (refine Walk.go (i := 5) (o := { dst := some 21, op := Op.call { callee := Callee.value (Operand.tmp 17), args := #[Operand.tmp 20, Operand.const (Value.int IntKind.i64 (-32767)), Operand.const (Value.int IntKind.i64 32767)], argTypes := #[36, 3, 3] }, type := 36, pos := "quant.go:125", after := #[{ on := 1, ground := Ground.data }, { on := 4, ground := Ground.data }], guard := none }) (by kernel_rfl) rfl (fun K hK => ?_); go_simp; ((go_at_call 46; refine (clip_any (b (zz k)) (-32767) 32767 _ HI.out (by omega) (by omega)).mono ?_; rintro e y1 ⟨rfl, dd⟩; replace kk := kk.step dd; clear dd)); refine hK.out _ _ (⟨fun _ => ⟨(kk.get (b := w.heap.size) (t := 59) (c := rkS) (by simp)).at 0, ((kk.get (b := w.heap.size + 1) (t := 37) (c := tab .i64 64 b) (by simp)).cell (zz k) hz)⟩, fun _ => trivial⟩) ?_; clear hK K; try simp only [Act.put, List.setIfInBounds_toArray, List.set_cons_zero, List.set_cons_succ])
          have q0 := kk.head.at 0
          have f0 := kk.head.frozen 0
          simp only [List.getElem?_cons_zero] at q0
          (refine Walk.go (i := 7) (o := { dst := none, op := Op.store 36 (Operand.tmp 10) (Operand.tmp 21), type := 0, pos := "quant.go:125", after := #[{ on := 6, ground := Ground.data }, { on := 5, ground := Ground.data }, { on := 5, ground := Ground.chain }, { on := 0, ground := Ground.phase }, { on := 1, ground := Ground.phase }, { on := 2, ground := Ground.phase }, { on := 3, ground := Ground.phase }, { on := 4, ground := Ground.phase }, { on := 5, ground := Ground.phase }, { on := 6, ground := Ground.phase }], guard := none }) (by kernel_rfl) rfl (fun K hK => ?_); go_simp; (replace kk := kk.set 0 (.int .i64 (clipF (b (zz k)) (-32767) 32767)); clear q0 f0); refine hK.out _ _ (⟨fun _ => ⟨(kk.get (b := w.heap.size) (t := 59) (c := rkS) (by simp)).at 0, ((kk.get (b := w.heap.size + 1) (t := 37) (c := tab .i64 64 b) (by simp)).cell (zz k) hz)⟩, fun _ => trivial⟩) ?_; clear hK K; try simp only [Act.put, List.setIfInBounds_toArray, List.set_cons_zero, List.set_cons_succ])
          refine Walk.done (by kernel_rfl) ?_ _
          go_wp2_with fail
          go_meet
          case rel => exact ⟨_, rfl, kk⟩
      case rest =>
        clear kk w'
        obtain ⟨nb, rfl, kk⟩ := hcut
        replace kk := kk.drew
        go_wp2_with fail
        refine wp_region_till (S := fun V => V.cell? ⟨w.heap.size, 0, none⟩ = some (.func (.func 46) #[] #[]) ∧ V.cell? ⟨w.heap.size, 1, none⟩ = some (.func (.func 47) #[] #[]) ∧ V.cell? ⟨nb, 0, none⟩ = some (.int .i64 (clipF (b (zz k)) (-32767) 32767))) (R := fun _ => True) (k := 14) (m := 100) (by kernel_rfl) ⟨(kk.get (b := w.heap.size) (t := 59) (c := rkS) (by simp)).at 0, (kk.get (b := w.heap.size) (t := 59) (c := rkS) (by simp)).at 1, (kk.get (b := nb) (t := 36) (c := [.int .i64 (clipF (b (zz k)) (-32767) 32767)]) (by simp)).at 0⟩ trivial ?_
        revert kk
        generalize wc.drew = WH
        intro kk
        (refine Walk.take (i := 0) (oi := { dst := some 22, op := Op.move (Operand.tmp 8), type := 3, pos := "quant.go:126", after := #[], guard := none }) (v := ?_) rfl (by kernel_rfl) (by kernel_rfl) (by kernel_rfl) (by kernel_rfl) (fun _ _ _ h => h) (Or.inl ⟨by rfl, ?_⟩) ?_; rotate_left; (intro w hw; clear hw; (try go_split_ands); go_simp; try (with_reducible rfl)); simp only [Act.put, List.setIfInBounds_toArray, List.set_cons_zero, List.set_cons_succ])
        (refine Walk.take (i := 1) (oi := { dst := some 23, op := Op.fieldAddr 59 (Operand.tmp 3) 0, type := 0, pos := "quant.go:126", after := #[], guard := none }) (v := ?_) rfl (by kernel_rfl) (by kernel_rfl) (by kernel_rfl) (by kernel_rfl) (fun _ _ _ h => h) (Or.inl ⟨by rfl, ?_⟩) ?_; rotate_left; (intro w hw; clear hw; (try go_split_ands); go_simp; try (with_reducible rfl)); simp only [Act.put, List.setIfInBounds_toArray, List.set_cons_zero, List.set_cons_succ])
        (refine Walk.take (i := 2) (oi := { dst := some 24, op := Op.load 56 (Operand.tmp 23), type := 56, pos := "quant.go:126", after := #[{ on := 1, ground := Ground.data }], guard := none }) (v := ?_) rfl (by kernel_rfl) (by kernel_rfl) (by kernel_rfl) (by kernel_rfl) (fun _ _ _ h => h) (Or.inl ⟨by rfl, ?_⟩) ?_; rotate_left; (intro w hw; have hS1 := hw.1 (by kernel_rfl); clear hw; (try dsimp only at hS1); (try go_split_ands); go_simp; try (with_reducible rfl)); simp only [Act.put, List.setIfInBounds_toArray, List.set_cons_zero, List.set_cons_succ])
        (refine Walk.take (i := 3) (oi := { dst := some 25, op := Op.fieldAddr 59 (Operand.tmp 3) 1, type := 0, pos := "quant.go:126", after := #[], guard := none }) (v := ?_) rfl (by kernel_rfl) (by kernel_rfl) (by kernel_rfl) (by kernel_rfl) (fun _ _ _ h => h) (Or.inl ⟨by rfl, ?_⟩) ?_; rotate_left; (intro w hw; clear hw; (try go_split_ands); go_simp; try (with_reducible rfl)); simp only [Act.put, List.setIfInBounds_toArray, List.set_cons_zero, List.set_cons_succ])
        (refine Walk.take (i := 4) (oi := { dst := some 26, op := Op.load 57 (Operand.tmp 25), type := 57, pos := "quant.go:126", after := #[{ on := 3, ground := Ground.data }], guard := none }) (v := ?_) rfl (by kernel_rfl) (by kernel_rfl) (by kernel_rfl) (by kernel_rfl) (fun _ _ _ h => h) (Or.inl ⟨by rfl, ?_⟩) ?_; rotate_left; (intro w hw; have hS1 := hw.1 (by kernel_rfl); clear hw; (try dsimp only at hS1); (try go_split_ands); go_simp; try (with_reducible rfl)); simp only [Act.put, List.setIfInBounds_toArray, List.set_cons_zero, List.set_cons_succ])
        (refine Walk.take (i := 5) (oi := { dst := some 27, op := Op.load 36 (Operand.tmp 10), type := 36, pos := "quant.go:126", after := #[], guard := none }) (v := ?_) rfl (by kernel_rfl) (by kernel_rfl) (by kernel_rfl) (by kernel_rfl) (fun _ _ _ h => h) (Or.inl ⟨by rfl, ?_⟩) ?_; rotate_left; (intro w hw; have hS1 := hw.1 (by kernel_rfl); clear hw; (try dsimp only at hS1); (try go_split_ands); go_simp; try (with_reducible rfl)); simp only [Act.put, List.setIfInBounds_toArray, List.set_cons_zero, List.set_cons_succ])
        (refine Walk.take (i := 6) (oi := { dst := some 28, op := Op.move (Operand.tmp 2), type := 29, pos := "quant.go:126", after := #[], guard := none }) (v := ?_) rfl (by kernel_rfl) (by kernel_rfl) (by kernel_rfl) (by kernel_rfl) (fun _ _ _ h => h) (Or.inl ⟨by rfl, ?_⟩) ?_; rotate_left; (intro w hw; clear hw; (try go_split_ands); go_simp; try (with_reducible rfl)); simp only [Act.put, List.setIfInBounds_toArray, List.set_cons_zero, List.set_cons_succ])
        (refine Walk.take (i := 7) (oi := { dst := some 29, op := Op.move (Operand.tmp 9), type := 3, pos := "quant.go:126", after := #[], guard := none }) (v := ?_) rfl (by kernel_rfl) (by kernel_rfl) (by kernel_rfl) (by kernel_rfl) (fun _ _ _ h => h) (Or.inl ⟨by rfl, ?_⟩) ?_; rotate_left; (intro w hw; clear hw; (try go_split_ands); go_simp; try (with_reducible rfl)); simp only [Act.put, List.setIfInBounds_toArray, List.set_cons_zero, List.set_cons_succ])
        (refine Walk.take (i := 10) (oi := { dst := some 32, op := Op.move (Operand.tmp 8), type := 3, pos := "quant.go:126", after := #[], guard := none }) (v := ?_) rfl (by kernel_rfl) (by kernel_rfl) (by kernel_rfl) (by kernel_rfl) (fun _ _ _ h => h) (Or.inl ⟨by rfl, ?_⟩) ?_; rotate_left; (intro w hw; clear hw; (try go_split_ands); go_simp; try (with_reducible rfl)); simp only [Act.put, List.setIfInBounds_toArray, List.set_cons_zero, List.set_cons_succ])
        (refine Walk.go (i := 8) (o := { dst := some 30, op := Op.call { callee := Callee.value (Operand.func 41), args := #[Operand.tmp 28, Operand.tmp 29], argTypes := #[29, 3] }, type := 3, pos := "quant.go:126", after := #[{ on := 6, ground := Ground.data }, { on := 7, ground := Ground.data }], guard := none }) (by kernel_rfl) rfl (fun K hK => ?_); go_simp; ((go_at_call 41; refine (stepOf_any v q (zz k) hz _ (HV.out.but kk.but)).mono ?_; rintro e y1 ⟨rfl, rfl⟩)); refine hK.out _ _ (⟨fun _ => ⟨(kk.get (b := w.heap.size) (t := 59) (c := rkS) (by simp)).at 0, (kk.get (b := w.heap.size) (t := 59) (c := rkS) (by simp)).at 1, (kk.get (b := nb) (t := 36) (c := [.int .i64 (clipF (b (zz k)) (-32767) 32767)]) (by simp)).at 0⟩, fun _ => trivial⟩) ?_; clear hK K; try simp only [Act.put, List.setIfInBounds_toArray, List.set_cons_zero, List.set_cons_succ])
        (refine Walk.go (i := 9) (o := { dst := some 31, op := Op.call { callee := Callee.value (Operand.tmp 26), args := #[Operand.tmp 27, Operand.tmp 30], argTypes := #[36, 3] }, type := 36, pos := "quant.go:126", after := #[{ on := 4, ground := Ground.data }, { on := 5, ground := Ground.data }, { on := 8, ground := Ground.data }, { on := 8, ground := Ground.chain }], guard := none }) (by kernel_rfl) rfl (fun K hK => ?_); go_simp; ((go_at_call 47; refine (scanRound_in _ _ _ HN.out.1 HN.out.2 HQ.out.1 HQ.out.2).mono ?_; rintro e y2 ⟨rfl, dd⟩; replace kk := kk.step dd; clear dd)); refine hK.out _ _ (⟨fun _ => ⟨(kk.get (b := w.heap.size) (t := 59) (c := rkS) (by simp)).at 0, (kk.get (b := w.heap.size) (t := 59) (c := rkS) (by simp)).at 1, (kk.get (b := nb) (t := 36) (c := [.int .i64 (clipF (b (zz k)) (-32767) 32767)]) (by simp)).at 0⟩, fun _ => trivial⟩) ?_; clear hK K; try simp only [Act.put, List.setIfInBounds_toArray, List.set_cons_zero, List.set_cons_succ])
        (refine Walk.go (i := 11) (o := { dst := some 33, op := Op.call { callee := Callee.value (Operand.func 42), args := #[Operand.tmp 32], argTypes := #[3] }, type := 3, pos := "quant.go:126", after := #[{ on := 10, ground := Ground.data }, { on := 9, ground := Ground.chain }], guard := none }) (by kernel_rfl) rfl (fun K hK => ?_); go_simp; ((go_at_call 42; refine (leastOf_any k hlt _).mono ?_; rintro e y3 ⟨rfl, rfl⟩)); refine hK.out _ _ (⟨fun _ => ⟨(kk.get (b := w.heap.size) (t := 59) (c := rkS) (by simp)).at 0, (kk.get (b := w.heap.size) (t := 59) (c := rkS) (by simp)).at 1, (kk.get (b := nb) (t := 36) (c := [.int .i64 (clipF (b (zz k)) (-32767) 32767)]) (by simp)).at 0⟩, fun _ => trivial⟩) ?_; clear hK K; try simp only [Act.put, List.setIfInBounds_toArray, List.set_cons_zero, List.set_cons_succ])
        (refine Walk.go (i := 12) (o := { dst := some 34, op := Op.call { callee := Callee.value (Operand.tmp 24), args := #[Operand.tmp 31, Operand.tmp 33, Operand.const (Value.int IntKind.i64 1023)], argTypes := #[36, 3, 3] }, type := 36, pos := "quant.go:126", after := #[{ on := 2, ground := Ground.data }, { on := 9, ground := Ground.data }, { on := 11, ground := Ground.data }, { on := 11, ground := Ground.chain }], guard := none }) (by kernel_rfl) rfl (fun K hK => ?_); go_simp; ((go_at_call 46; refine (clip_any _ _ _ _ HR.out HL.out (by omega)).mono ?_; rintro e y4 ⟨rfl, dd⟩; rw [HF.out]; replace kk := kk.step dd; clear dd)); refine hK.out _ _ (⟨fun _ => ⟨(kk.get (b := w.heap.size) (t := 59) (c := rkS) (by simp)).at 0, (kk.get (b := w.heap.size) (t := 59) (c := rkS) (by simp)).at 1, (kk.get (b := nb) (t := 36) (c := [.int .i64 (clipF (b (zz k)) (-32767) 32767)]) (by simp)).at 0⟩, fun _ => trivial⟩) ?_; clear hK K; try simp only [Act.put, List.setIfInBounds_toArray, List.set_cons_zero, List.set_cons_succ])
        (refine Walk.take (i := 13) (oi := { dst := some 35, op := Op.indexAddr 37 (Operand.tmp 7) (Operand.tmp 22), type := 0, pos := "quant.go:126", after := #[{ on := 0, ground := Ground.data }, { on := 0, ground := Ground.phase }, { on := 1, ground := Ground.phase }, { on := 2, ground := Ground.phase }, { on := 3, ground := Ground.phase }, { on := 4, ground := Ground.phase }, { on := 5, ground := Ground.phase }, { on := 6, ground := Ground.phase }, { on := 7, ground := Ground.phase }, { on := 8, ground := Ground.phase }, { on := 9, ground := Ground.phase }, { on := 10, ground := Ground.phase }, { on := 11, ground := Ground.phase }, { on := 12, ground := Ground.phase }], guard := none }) (v := ?_) rfl (by kernel_rfl) (by kernel_rfl) (by kernel_rfl) (by kernel_rfl) (fun _ _ _ h => h) (Or.inl ⟨by rfl, ?_⟩) ?_; rotate_left; (intro w hw; clear hw; (try go_split_ands); go_simp; try (with_reducible rfl)); simp only [Act.put, List.setIfInBounds_toArray, List.set_cons_zero, List.set_cons_succ])
        replace kk := kk.swap
        have q0 := kk.head.cell k hlt
        have f0 := kk.head.frozen k
        (refine Walk.go (i := 14) (o := { dst := none, op := Op.store 36 (Operand.tmp 35) (Operand.tmp 34), type := 0, pos := "quant.go:126", after := #[{ on := 13, ground := Ground.data }, { on := 12, ground := Ground.data }, { on := 12, ground := Ground.chain }, { on := 0, ground := Ground.phase }, { on := 1, ground := Ground.phase }, { on := 2, ground := Ground.phase }, { on := 3, ground := Ground.phase }, { on := 4, ground := Ground.phase }, { on := 5, ground := Ground.phase }, { on := 6, ground := Ground.phase }, { on := 7, ground := Ground.phase }, { on := 8, ground := Ground.phase }, { on := 9, ground := Ground.phase }, { on := 10, ground := Ground.phase }, { on := 11, ground := Ground.phase }, { on := 12, ground := Ground.phase }], guard := none }) (by kernel_rfl) rfl (fun K hK => ?_); go_simp; (replace kk := kk.set k (.int .i64 (qfwd b q k)); rw [fwd_set] at kk; clear q0 f0); refine hK.out _ _ (⟨fun q => absurd q (by decide), fun _ => trivial⟩) ?_; clear hK K; try simp only [Act.put, List.setIfInBounds_toArray, List.set_cons_zero, List.set_cons_succ])
        refine Walk.done (by kernel_rfl) ?_ _
        have HX : Hid _ := kk.swap.drop
        clear kk
        go_wp2_with fail
        go_roundw
        case rel => exact ⟨k + 1, by omega, by go_num, HX.out⟩
        case measure => simp [intOf]; omega
    · obtain rfl : k = 64 := by omega
      rw [fwd_full] at kk
      have hr1 := kk.head.all
      replace kk := kk.swap
      have hth := kk.head.there 0 (tab .i64 64 (qfwd b q)).toArray.size (by rw [List.size_toArray, tab_length, tab_length]; omega)
      have kX := kk.layAll (qfwd b q)
      have HX : Hid _ := And.intro kX.head kX.but
      clear kX kk
      go_wp2_with (first | (refine wpList_load_mid rfl 37 (.tmp 7) rfl (w.heap.size + 1 + 1 + 1) 0 rfl (tab .i64 64 (qfwd b q)) _ ?_ hu rfl hiA ?_; exact hr1) | (refine wpList_store_mid rfl 37 (.tmp 6) (.tmp 37) rfl (w.heap.size + 1 + 1) 0 (tab .i64 64 (qfwd b q)).toArray rfl rfl ?_ hiB (tab_all _ _ _) ?_; exact hth))
      exact bodyPost_ret (results_cells rfl HX.out.1 hu rfl hiC _ rfl) rfl ⟨rfl, HX.out.2⟩

set_option maxHeartbeats 6400000 in
set_option maxRecDepth 100000 in
theorem backS_any (z q : Nat → Int) (v : Value) (hI : ∀ j, j < 64 → I64 (z j)) (w : World) (ht : QTab w) (hv : Sts w v q) (hq : Stp q) : Calls Tryd.prog 36 #[.agg rkS.toArray, .agg (tab .i64 64 z).toArray, v] w fun e w' =>
    e = .returned (.agg (tab .i64 64 (qbck z q)).toArray) ∧ But Nowhere w w' := by
  have hu := Tryd.underlying37
  have hiZ : (Tryd.prog.info? 37).map (·.size) = some (tab .i64 64 z).length := by rw [tab_length]; kernel_rfl
  have hiA : (Tryd.prog.info? 37).map (·.size) = some (tab .i64 64 (qbck z q)).length := by rw [tab_length]; kernel_rfl
  have hiB : (Tryd.prog.info? 37).map (·.size) = some (tab .i64 64 (qbck z q)).toArray.size := by rw [List.size_toArray, tab_length]; kernel_rfl
  have hiC : (Tryd.prog.info? 37).map (fun i => i.size) = some (tab .i64 64 (qbck z q)).length := by rw [tab_length]; kernel_rfl
  have kk := ((((Keep.start w).made 59 rkS).made 37 (tab .i64 64 z)).zero 37).zero 37
  simp only [World.size_alloc] at kk
  have HV : Hid (Sts w v q) := hv
  have HT : Hid (QTab w) := ht
  clear hv ht
  go_enter Tryd.func36, Tryd.ntmps36
  have hr0 := (kk.get (b := w.heap.size + 1) (t := 37) (c := tab .i64 64 z) (by simp)).all
  go_wp2_with (refine wpList_load_mid rfl 37 (.tmp 4) rfl (w.heap.size + 1) 0 rfl (tab .i64 64 z) _ ?_ hu rfl hiZ ?_; exact hr0)
  clear hr0
  revert kk
  generalize ((((w.alloc (.cells rkS.toArray 59)).alloc (.cells (tab .i64 64 z).toArray 37)).alloc (.cells (Value.int .i64 0 :: Value.int .i64 0 :: Value.int .i64 0 :: Value.int .i64 0 :: Value.int .i64 0 :: Value.int .i64 0 :: Value.int .i64 0 :: Value.int .i64 0 :: Value.int .i64 0 :: Value.int .i64 0 :: Value.int .i64 0 :: Value.int .i64 0 :: Value.int .i64 0 :: Value.int .i64 0 :: Value.int .i64 0 :: Value.int .i64 0 :: Value.int .i64 0 :: Value.int .i64 0 :: Value.int .i64 0 :: Value.int .i64 0 :: Value.int .i64 0 :: Value.int .i64 0 :: Value.int .i64 0 :: Value.int .i64 0 :: Value.int .i64 0 :: Value.int .i64 0 :: Value.int .i64 0 :: Value.int .i64 0 :: Value.int .i64 0 :: Value.int .i64 0 :: Value.int .i64 0 :: Value.int .i64 0 :: Value.int .i64 0 :: Value.int .i64 0 :: Value.int .i64 0 :: Value.int .i64 0 :: Value.int .i64 0 :: Value.int .i64 0 :: Value.int .i64 0 :: Value.int .i64 0 :: Value.int .i64 0 :: Value.int .i64 0 :: Value.int .i64 0 :: Value.int .i64 0 :: Value.int .i64 0 :: Value.int .i64 0 :: Value.int .i64 0 :: Value.int .i64 0 :: Value.int .i64 0 :: Value.int .i64 0 :: Value.int .i64 0 :: Value.int .i64 0 :: Value.int .i64 0 :: Value.int .i64 0 :: Value.int .i64 0 :: Value.int .i64 0 :: Value.int .i64 0 :: Value.int .i64 0 :: Value.int .i64 0 :: Value.int .i64 0 :: Value.int .i64 0 :: Value.int .i64 0 :: Value.int .i64 0 :: Value.int .i64 0 :: []).toArray 37)).alloc (.cells (Value.int .i64 0 :: Value.int .i64 0 :: Value.int .i64 0 :: Value.int .i64 0 :: Value.int .i64 0 :: Value.int .i64 0 :: Value.int .i64 0 :: Value.int .i64 0 :: Value.int .i64 0 :: Value.int .i64 0 :: Value.int .i64 0 :: Value.int .i64 0 :: Value.int .i64 0 :: Value.int .i64 0 :: Value.int .i64 0 :: Value.int .i64 0 :: Value.int .i64 0 :: Value.int .i64 0 :: Value.int .i64 0 :: Value.int .i64 0 :: Value.int .i64 0 :: Value.int .i64 0 :: Value.int .i64 0 :: Value.int .i64 0 :: Value.int .i64 0 :: Value.int .i64 0 :: Value.int .i64 0 :: Value.int .i64 0 :: Value.int .i64 0 :: Value.int .i64 0 :: Value.int .i64 0 :: Value.int .i64 0 :: Value.int .i64 0 :: Value.int .i64 0 :: Value.int .i64 0 :: Value.int .i64 0 :: Value.int .i64 0 :: Value.int .i64 0 :: Value.int .i64 0 :: Value.int .i64 0 :: Value.int .i64 0 :: Value.int .i64 0 :: Value.int .i64 0 :: Value.int .i64 0 :: Value.int .i64 0 :: Value.int .i64 0 :: Value.int .i64 0 :: Value.int .i64 0 :: Value.int .i64 0 :: Value.int .i64 0 :: Value.int .i64 0 :: Value.int .i64 0 :: Value.int .i64 0 :: Value.int .i64 0 :: Value.int .i64 0 :: Value.int .i64 0 :: Value.int .i64 0 :: Value.int .i64 0 :: Value.int .i64 0 :: Value.int .i64 0 :: Value.int .i64 0 :: Value.int .i64 0 :: Value.int .i64 0 :: Value.int .i64 0 :: []).toArray 37)) = W5
  intro kk
  go_loopw [12] (fun i V => ∃ k : Nat, k ≤ 64 ∧ i = .int .i64 k ∧ Keep w V [(w.heap.size + 1 + 1 + 1, 37, tab .i64 64 (fun j => if uz j < k then qbck z q j else 0)), (w.heap.size + 1 + 1, 37, tab .i64 64 (fun _ => 0)), (w.heap.size + 1, 37, tab .i64 64 z), (w.heap.size, 59, rkS)]) (fun i _ => 64 - (intOf i).toNat)
  case atStart => exact ⟨0, Nat.zero_le _, rfl, by rw [back_start]; exact kk⟩
  case round =>
    clear kk
    obtain ⟨k, hk, rfl, kk⟩ := hrel
    by_cases hlt : k < 64
    · have i0 : (0 : Int) ≤ (k : Int) := by omega
      have i1 : (k : Int) < 64 := by omega
      have hz := zz_lt k hlt
      have j0 : (0 : Int) ≤ ((zz k : Nat) : Int) := by omega
      have j1 : ((zz k : Nat) : Int) < 64 := by omega
      have hbb := back_bd (z := z k) (hq (zz k) hz)
      have HP : Hid (wrap64 (clipF (z k) (-2048) 2047 * q (zz k)) = (clipF (z k) (-2048) 2047 * q (zz k))) := w64 _ (by omega)
      clear hbb
      have HI : Hid _ := hI k hlt
      have x0 := index_tabS z k hlt
      go_upto_region 5 with fail
      clear x0
      replace kk := kk.made 36 [.int .i64 (z k)]
      revert kk
      obtain ⟨NB, hNB⟩ : ∃ n, wr.heap.size = n := ⟨_, rfl⟩
      rw [hNB]
      clear hNB
      generalize wr.alloc (.cells [.int .i64 (z k)].toArray 36) = V1
      intro kk
      go_wp2_with (go_at_call 10; refine (zig_in k hlt _ (HT.out.but kk.but)).mono ?_; rintro e w' ⟨rfl, rfl⟩)
      replace kk := kk.drew
      refine wp_region_till (S := fun V => V.cell? ⟨w.heap.size, 0, none⟩ = some (.func (.func 46) #[] #[]) ∧ V.cell? ⟨w.heap.size, 2, none⟩ = some (.func (.func 48) #[] #[]) ∧ V.cell? ⟨NB, 0, none⟩ = some (.int .i64 (z k))) (R := fun _ => True) (k := 12) (m := 100) (by kernel_rfl) ⟨(kk.get (b := w.heap.size) (t := 59) (c := rkS) (by simp)).at 0, (kk.get (b := w.heap.size) (t := 59) (c := rkS) (by simp)).at 2, (kk.get (b := NB) (t := 36) (c := [.int .i64 (z k)]) (by simp)).at 0⟩ trivial ?_
      revert kk
      generalize w'.drew = WG
      intro kk
      (refine Walk.take (i := 0) (oi := { dst := some 18, op := Op.move (Operand.tmp 10), type := 3, pos := "quant.go:136", after := #[], guard := none }) (v := ?_) rfl (by kernel_rfl) (by kernel_rfl) (by kernel_rfl) (by kernel_rfl) (fun _ _ _ h => h) (Or.inl ⟨by rfl, ?_⟩) ?_; rotate_left; (intro w hw; clear hw; (try go_split_ands); go_simp; try (with_reducible rfl)); simp only [Act.put, List.setIfInBounds_toArray, List.set_cons_zero, List.set_cons_succ])
      (refine Walk.take (i := 1) (oi := { dst := some 19, op := Op.fieldAddr 59 (Operand.tmp 3) 2, type := 0, pos := "quant.go:136", after := #[], guard := none }) (v := ?_) rfl (by kernel_rfl) (by kernel_rfl) (by kernel_rfl) (by kernel_rfl) (fun _ _ _ h => h) (Or.inl ⟨by rfl, ?_⟩) ?_; rotate_left; (intro w hw; clear hw; (try go_split_ands); go_simp; try (with_reducible rfl)); simp only [Act.put, List.setIfInBounds_toArray, List.set_cons_zero, List.set_cons_succ])
      (refine Walk.take (i := 2) (oi := { dst := some 20, op := Op.load 57 (Operand.tmp 19), type := 57, pos := "quant.go:136", after := #[{ on := 1, ground := Ground.data }], guard := none }) (v := ?_) rfl (by kernel_rfl) (by kernel_rfl) (by kernel_rfl) (by kernel_rfl) (fun _ _ _ h => h) (Or.inl ⟨by rfl, ?_⟩) ?_; rotate_left; (intro w hw; have hS1 := hw.1 (by kernel_rfl); clear hw; (try dsimp only at hS1); (try go_split_ands); go_simp; try (with_reducible rfl)); simp only [Act.put, List.setIfInBounds_toArray, List.set_cons_zero, List.set_cons_succ])
      (refine Walk.take (i := 3) (oi := { dst := some 21, op := Op.fieldAddr 59 (Operand.tmp 3) 0, type := 0, pos := "quant.go:136", after := #[], guard := none }) (v := ?_) rfl (by kernel_rfl) (by kernel_rfl) (by kernel_rfl) (by kernel_rfl) (fun _ _ _ h => h) (Or.inl ⟨by rfl, ?_⟩) ?_; rotate_left; (intro w hw; clear hw; (try go_split_ands); go_simp; try (with_reducible rfl)); simp only [Act.put, List.setIfInBounds_toArray, List.set_cons_zero, List.set_cons_succ])
      (refine Walk.take (i := 4) (oi := { dst := some 22, op := Op.load 56 (Operand.tmp 21), type := 56, pos := "quant.go:136", after := #[{ on := 3, ground := Ground.data }], guard := none }) (v := ?_) rfl (by kernel_rfl) (by kernel_rfl) (by kernel_rfl) (by kernel_rfl) (fun _ _ _ h => h) (Or.inl ⟨by rfl, ?_⟩) ?_; rotate_left; (intro w hw; have hS1 := hw.1 (by kernel_rfl); clear hw; (try dsimp only at hS1); (try go_split_ands); go_simp; try (with_reducible rfl)); simp only [Act.put, List.setIfInBounds_toArray, List.set_cons_zero, List.set_cons_succ])
      (refine Walk.take (i := 5) (oi := { dst := some 23, op := Op.load 36 (Operand.tmp 9), type := 36, pos := "quant.go:136", after := #[], guard := none }) (v := ?_) rfl (by kernel_rfl) (by kernel_rfl) (by kernel_rfl) (by kernel_rfl) (fun _ _ _ h => h) (Or.inl ⟨by rfl, ?_⟩) ?_; rotate_left; (intro w hw; have hS1 := hw.1 (by kernel_rfl); clear hw; (try dsimp only at hS1); (try go_split_ands); go_simp; try (with_reducible rfl)); simp only [Act.put, List.setIfInBounds_toArray, List.set_cons_zero, List.set_cons_succ])
      (refine Walk.take (i := 7) (oi := { dst := some 25, op := Op.move (Operand.tmp 2), type := 29, pos := "quant.go:136", after := #[], guard := none }) (v := ?_) rfl (by kernel_rfl) (by kernel_rfl) (by kernel_rfl) (by kernel_rfl) (fun _ _ _ h => h) (Or.inl ⟨by rfl, ?_⟩) ?_; rotate_left; (intro w hw; clear hw; (try go_split_ands); go_simp; try (with_reducible rfl)); simp only [Act.put, List.setIfInBounds_toArray, List.set_cons_zero, List.set_cons_succ])
      (refine Walk.take (i := 8) (oi := { dst := some 26, op := Op.move (Operand.tmp 10), type := 3, pos := "quant.go:136", after := #[], guard := none }) (v := ?_) rfl (by kernel_rfl) (by kernel_rfl) (by kernel_rfl) (by kernel_rfl) (fun _ _ _ h => h) (Or.inl ⟨by rfl, ?_⟩) ?_; rotate_left; (intro w hw; clear hw; (try go_split_ands); go_simp; try (with_reducible rfl)); simp only [Act.put, List.setIfInBounds_toArray, List.set_cons_zero, List.set_cons_succ])
      (refine Walk.go (i := 6) (o := { dst := some 24, op := Op.call { callee := Callee.value (Operand.tmp 22), args := #[Operand.tmp 23, Operand.const (Value.int IntKind.i64 (-2048)), Operand.const (Value.int IntKind.i64 2047)], argTypes := #[36, 3, 3] }, type := 36, pos := "quant.go:136", after := #[{ on := 4, ground := Ground.data }, { on := 5, ground := Ground.data }], guard := none }) (by kernel_rfl) rfl (fun K hK => ?_); go_simp; ((go_at_call 46; refine (clip_any (z k) (-2048) 2047 _ HI.out (by omega) (by omega)).mono ?_; rintro e y1 ⟨rfl, dd⟩; replace kk := kk.step dd; clear dd)); refine hK.out _ _ (⟨fun _ => ⟨(kk.get (b := w.heap.size) (t := 59) (c := rkS) (by simp)).at 0, (kk.get (b := w.heap.size) (t := 59) (c := rkS) (by simp)).at 2, (kk.get (b := NB) (t := 36) (c := [.int .i64 (z k)]) (by simp)).at 0⟩, fun _ => trivial⟩) ?_; clear hK K; try simp only [Act.put, List.setIfInBounds_toArray, List.set_cons_zero, List.set_cons_succ])
      (refine Walk.go (i := 9) (o := { dst := some 27, op := Op.call { callee := Callee.value (Operand.func 41), args := #[Operand.tmp 25, Operand.tmp 26], argTypes := #[29, 3] }, type := 3, pos := "quant.go:136", after := #[{ on := 7, ground := Ground.data }, { on := 8, ground := Ground.data }, { on := 6, ground := Ground.chain }], guard := none }) (by kernel_rfl) rfl (fun K hK => ?_); go_simp; ((go_at_call 41; refine (stepOf_any v q (zz k) hz _ (HV.out.but kk.but)).mono ?_; rintro e y1 ⟨rfl, rfl⟩)); refine hK.out _ _ (⟨fun _ => ⟨(kk.get (b := w.heap.size) (t := 59) (c := rkS) (by simp)).at 0, (kk.get (b := w.heap.size) (t := 59) (c := rkS) (by simp)).at 2, (kk.get (b := NB) (t := 36) (c := [.int .i64 (z k)]) (by simp)).at 0⟩, fun _ => trivial⟩) ?_; clear hK K; try simp only [Act.put, List.setIfInBounds_toArray, List.set_cons_zero, List.set_cons_succ])
      (refine Walk.go (i := 10) (o := { dst := some 28, op := Op.call { callee := Callee.value (Operand.tmp 20), args := #[Operand.tmp 24, Operand.tmp 27], argTypes := #[36, 3] }, type := 36, pos := "quant.go:136", after := #[{ on := 2, ground := Ground.data }, { on := 6, ground := Ground.data }, { on := 9, ground := Ground.data }, { on := 9, ground := Ground.chain }], guard := none }) (by kernel_rfl) rfl (fun K hK => ?_); go_simp; ((go_at_call 48; refine (timesSec_any _ _ _).mono ?_; rintro e y2 ⟨rfl, dd⟩; rw [HP.out]; replace kk := kk.step dd; clear dd)); refine hK.out _ _ (⟨fun _ => ⟨(kk.get (b := w.heap.size) (t := 59) (c := rkS) (by simp)).at 0, (kk.get (b := w.heap.size) (t := 59) (c := rkS) (by simp)).at 2, (kk.get (b := NB) (t := 36) (c := [.int .i64 (z k)]) (by simp)).at 0⟩, fun _ => trivial⟩) ?_; clear hK K; try simp only [Act.put, List.setIfInBounds_toArray, List.set_cons_zero, List.set_cons_succ])
      (refine Walk.take (i := 11) (oi := { dst := some 29, op := Op.indexAddr 37 (Operand.tmp 7) (Operand.tmp 18), type := 0, pos := "quant.go:136", after := #[{ on := 0, ground := Ground.data }, { on := 0, ground := Ground.phase }, { on := 1, ground := Ground.phase }, { on := 2, ground := Ground.phase }, { on := 3, ground := Ground.phase }, { on := 4, ground := Ground.phase }, { on := 5, ground := Ground.phase }, { on := 6, ground := Ground.phase }, { on := 7, ground := Ground.phase }, { on := 8, ground := Ground.phase }, { on := 9, ground := Ground.phase }, { on := 10, ground := Ground.phase }], guard := none }) (v := ?_) rfl (by kernel_rfl) (by kernel_rfl) (by kernel_rfl) (by kernel_rfl) (fun _ _ _ h => h) (Or.inl ⟨by rfl, ?_⟩) ?_; rotate_left; (intro w hw; clear hw; (try go_split_ands); go_simp; try (with_reducible rfl)); simp only [Act.put, List.setIfInBounds_toArray, List.set_cons_zero, List.set_cons_succ])
      replace kk := kk.swap
      have q0 := kk.head.cell (zz k) hz
      have f0 := kk.head.frozen (zz k)
      (refine Walk.go (i := 12) (o := { dst := none, op := Op.store 36 (Operand.tmp 29) (Operand.tmp 28), type := 0, pos := "quant.go:136", after := #[{ on := 11, ground := Ground.data }, { on := 10, ground := Ground.data }, { on := 10, ground := Ground.chain }, { on := 0, ground := Ground.phase }, { on := 1, ground := Ground.phase }, { on := 2, ground := Ground.phase }, { on := 3, ground := Ground.phase }, { on := 4, ground := Ground.phase }, { on := 5, ground := Ground.phase }, { on := 6, ground := Ground.phase }, { on := 7, ground := Ground.phase }, { on := 8, ground := Ground.phase }, { on := 9, ground := Ground.phase }, { on := 10, ground := Ground.phase }], guard := none }) (by kernel_rfl) rfl (fun K hK => ?_); go_simp; (replace kk := kk.set (zz k) (.int .i64 (clipF (z k) (-2048) 2047 * q (zz k))); rw [bck_set z q k hlt] at kk; clear q0 f0); refine hK.out _ _ (⟨fun q => absurd q (by decide), fun _ => trivial⟩) ?_; clear hK K; try simp only [Act.put, List.setIfInBounds_toArray, List.set_cons_zero, List.set_cons_succ])
      refine Walk.done (by kernel_rfl) ?_ _
      have HX : Hid _ := kk.swap.drop
      clear kk
      go_wp2_with fail
      go_roundw
      case rel => exact ⟨k + 1, by omega, by go_num, HX.out⟩
      case measure => simp [intOf]; omega
    · obtain rfl : k = 64 := by omega
      rw [back_full] at kk
      have hr1 := kk.head.all
      replace kk := kk.swap
      have hth := kk.head.there 0 (tab .i64 64 (qbck z q)).toArray.size (by rw [List.size_toArray, tab_length, tab_length]; omega)
      have kX := kk.layAll (qbck z q)
      have HX : Hid _ := And.intro kX.head kX.but
      clear kX kk
      go_wp2_with (first | (refine wpList_load_mid rfl 37 (.tmp 7) rfl (w.heap.size + 1 + 1 + 1) 0 rfl (tab .i64 64 (qbck z q)) _ ?_ hu rfl hiA ?_; exact hr1) | (refine wpList_store_mid rfl 37 (.tmp 6) (.tmp 31) rfl (w.heap.size + 1 + 1) 0 (tab .i64 64 (qbck z q)).toArray rfl rfl ?_ hiB (tab_all _ _ _) ?_; exact hth))
      exact bodyPost_ret (results_cells rfl HX.out.1 hu rfl hiC _ rfl) rfl ⟨rfl, HX.out.2⟩

end Go.Proofs.YthaekjdnaaikfaaDoor
