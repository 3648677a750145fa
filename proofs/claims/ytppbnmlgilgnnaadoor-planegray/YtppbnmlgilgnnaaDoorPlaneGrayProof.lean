/- Without the document's answer: of a gray image each pixel is there again. -/
import Derived.Test.YtppbnmlgilgnnaaDoorPlRef1
import Derived.Test.YtppbnmlgilgnnaaDoorPl13
import Derived.Test.YtppbnmlgilgnnaaDoorPl19
import Derived.Test.YtppbnmlgilgnnaaDoorPl21
import Derived.Test.YtppbnmlgilgnnaaDoorFrame
import Derived.Test.YtppbnmlgilgnnaaDoorRows
import Derived.Test.YtppbnmlgilgnnaaDoorDoorTab
import Derived.Test.YtppbnmlgilgnnaaDoorCards
import Derived.Test.YtppbnmlgilgnnaaDoorTie
namespace Go.Proofs.YtppbnmlgilgnnaaDoor.planeGray
open Go.ChangeShapes Go.WideShapes Go.ChangeAt Go.RowKit
set_option linter.unusedVariables false

theorem own : ownKnob Tryd.prog.godebug = none := by kernel_rfl
theorem laidOut : laidOutB Tryd.prog = true := by kernel_rfl
theorem readable : ∀ t ∈ Tryd.f4.params.toList, Tryd.prog.readableRec t = true ∧ t < Tryd.prog.types.size := by
  rw [Tryd.params4]
  simp only [List.mem_cons, List.not_mem_nil, or_false, forall_eq_or_imp, forall_eq]
  refine ⟨⟨by kernel_rfl, of_decide_eq_true (by kernel_rfl)⟩, ⟨by kernel_rfl, of_decide_eq_true (by kernel_rfl)⟩, ⟨by kernel_rfl, of_decide_eq_true (by kernel_rfl)⟩⟩

set_option maxHeartbeats 20000000 in
set_option maxRecDepth 100000 in
theorem walk (w : World) (hT : Tab w) (a0 : Int) (w0 : (Lit.int .u8 a0).wf = true) (a1 : Int) (w1 : (Lit.int .u8 a1).wf = true) (v2 : Value) (l2 : List Int) (s2 : View w .u8 v2 l2) (x2 : ∀ x ∈ l2, 0 ≤ x ∧ x ≤ 255) (n2 : l2.length ≤ 140737488355328) :
    Calls Tryd.prog 4 #[.int .u8 a0, .int .u8 a1, v2] w fun e w' => e = .returned (.bool true) ∧ But Nowhere w w' := by
  have a0r : 0 ≤ a0 ∧ a0 ≤ 255 := u8_in w0
  have a1r : 0 ≤ a1 ∧ a1 ≤ 255 := u8_in w1
  obtain ⟨W, hW⟩ : ∃ W, 1 + a0 % 40 = W := ⟨_, rfl⟩
  obtain ⟨H, hH⟩ : ∃ H, 1 + a1 % 24 = H := ⟨_, rfl⟩
  have f : Fit W H 1 := ⟨by omega, by omega, by omega, by
    have : W * H ≤ 40 * 24 := Int.mul_le_mul (by omega) (by omega) (by omega) (by omega)
    omega⟩
  have hWs : 1 ≤ W ∧ W ≤ 40 ∧ 1 ≤ H ∧ H ≤ 24 := by omega
  have HW : Hid (1 + a0 % 40 = W ∧ 1 + a1 % 24 = H) := ⟨hW, hH⟩
  clear hW hH
  obtain ⟨-, -, g3, g4, g5, g6⟩ := f.grid
  obtain ⟨a, ha⟩ : ∃ a, gridW W H 1 = a := ⟨_, rfl⟩
  obtain ⟨b, hb⟩ : ∃ b, gridH W H 1 = b := ⟨_, rfl⟩
  rw [ha] at g3 g4
  rw [hb] at g5 g6
  obtain ⟨N0, N1⟩ : 0 ≤ a * b ∧ a * b ≤ 8192 * 8192 := ⟨Int.mul_nonneg (by omega) (by omega), Int.mul_le_mul g4 g6 (by omega) (by omega)⟩
  obtain ⟨N, hN⟩ : ∃ N : Nat, (a * b).toNat = N := ⟨_, rfl⟩
  have HG : Hid (gridW W H 1 = a ∧ gridH W H 1 = b) := ⟨ha, hb⟩
  have HN : Hid ((gridW W H 1 * gridH W H 1).toNat = N) := by show (gridW W H 1 * gridH W H 1).toNat = N; rw [ha, hb]; exact hN
  have HE0 : Hid (wrap64 (a * b) = (N : Int)) := by show wrap64 (a * b) = (N : Int); rw [show a * b = (N : Int) by omega]; exact w64 _ (by omega)
  clear ha hb g3 g4 g5 g6 N0 N1 hN
  have m0 : 1 * 1 ≤ W * H := Int.mul_le_mul hWs.1 hWs.2.2.1 (by omega) (by omega)
  obtain ⟨Z, hZ⟩ : ∃ Z : Nat, W * H * partsN 1 = Z := ⟨(W * H).toNat, by rw [show partsN 1 = 1 from rfl]; omega⟩
  have hZ1 : 0 < Z := by rw [show partsN 1 = 1 from rfl] at hZ; omega
  have HZ : Hid (W * H * partsN 1 = Z) := hZ
  obtain ⟨vo, vc, rfl⟩ := s2.slice
  have IMG := fun V (hv : View V .u8 (.slice vo l2.length vc) l2) => image_any W H 1 f _ l2 V hv x2 n2
  have hbn : ((1 : Int) != 1) = false := by decide
  rw [hbn, hZ] at IMG
  clear hbn hZ m0
  go_enter Tryd.func4, Tryd.ntmps4
  go_wp2_with fail
  refine (public_any _ _ 0 a0r a1r (by omega) _).mono ?_
  rintro e w1 ⟨rfl, b1⟩
  rw [HW.out.1, HW.out.2, show (1 : Int) + 0 % 4 = 1 by decide]
  have kk := ((Keep.start w).step b1).made 23 (pC W H 1 50 1 0)
  clear HW a0r a1r
  obtain ⟨PB, hPB⟩ : ∃ b, w1.heap.size = b := ⟨_, rfl⟩
  rw [hPB] at kk
  go_wp2_with fail
  revert kk
  generalize w1.alloc (.cells #[.int .i64 W, .int .i64 H, .int .i64 1, .int .i64 50, .int .i64 1, .int .i64 0] 23) = w2'
  intro kk
  refine (IMG w2' (s2.but kk.but)).mono ?_
  rintro e w3' ⟨⟨li, pv, rfl, hil, hix, Li⟩, b3⟩
  have hlz : li.length = Z := by omega
  obtain ⟨gi, pc, rfl, -, -, -, -, -⟩ := Li.at (by omega)
  have hVI := View.of_owns Li.own
  rw [hlz] at hVI ⊢
  replace kk := (kk.step b3).made 26 (imC W H false (.slice (some ⟨gi, 0, none⟩) Z pc))
  have hV9 := hVI.but ((But.refl Nowhere w3').alloc (.cells #[.int .i64 W, .int .i64 H, .bool false, .slice (some ⟨gi, 0, none⟩) Z pc] 26))
  obtain ⟨MB, hMB⟩ : ∃ b, w3'.heap.size = b := ⟨_, rfl⟩
  rw [hMB] at kk
  have HIL : Hid ((li.length : Int) = W * H * partsN 1) := by rw [HZ.out]; exact hil
  have HGA : Hid ((List.range Z).map (gn li) = li) := by rw [← hlz]; exact gn_all li
  have HNE : Hid (li ≠ []) := fun e => by rw [e] at hlz; simp at hlz; omega
  have HGI : Hid (∀ j, j < Z → 0 ≤ gn li j ∧ gn li j ≤ 255) := fun j hj => by
    rw [← gn_at li j (by omega)]; exact hix _ (List.getElem_mem _)
  have gP := kk.get (b := PB) (t := 23) (c := pC W H 1 50 1 0) (by simp)
  have c0 := gP.at 0
  have c1 := gP.at 1
  have c2 := gP.at 2
  have c3 := gP.at 3
  have c4 := gP.at 4
  have c5 := gP.at 5
  have gM := kk.head
  have d0 := gM.at 0
  have d1 := gM.at 1
  have d2 := gM.at 2
  have d3 := gM.at 3
  simp only [List.getElem?_cons_zero, List.getElem?_cons_succ] at c0 c1 c2 c3 c4 c5 d0 d1 d2 d3
  clear Li b3 hil b1 IMG hPB hVI gP gM
  go_wp2_with fail
  clear c0 c1 c2 c3 c4 c5 d0 d1 d2 d3
  revert kk hV9
  generalize w3'.alloc (.cells #[.int .i64 W, .int .i64 H, .bool false, .slice (some ⟨gi, 0, none⟩) Z pc] 26) = w9
  intro hV9 kk
  refine (planeSplit_fit W H 1 50 1 0 f _ li _ (hT.but kk.but) hV9 HIL.out hix false (by decide)).mono ?_
  rintro e y2 ⟨⟨v2, go2, G2, rfl, hB2, -, -⟩, b2⟩
  rw [HN.out, show (unitL 1).length = 1 from rfl] at hB2
  obtain rfl := hB2.val
  replace kk := kk.step b2
  replace hV9 := hV9.but b2
  have gP := kk.get (b := PB) (t := 23) (c := pC W H 1 50 1 0) (by simp)
  have c0 := gP.at 0
  have c1 := gP.at 1
  have c2 := gP.at 2
  have c3 := gP.at 3
  have c4 := gP.at 4
  have c5 := gP.at 5
  simp only [List.getElem?_cons_zero, List.getElem?_cons_succ] at c0 c1 c2 c3 c4 c5
  clear b2 gP
  go_wp2_with fail
  clear c0 c1 c2 c3 c4 c5
  refine (grid_any _ _ _ _ _ _ _).mono ?_
  rintro e y3 ⟨rfl, b3⟩
  rw [HG.out.1, HG.out.2]
  replace kk := (kk.step b3).drew
  replace hV9 := (hV9.but b3).but (But.refl Nowhere _).drew
  replace hB2 := (hB2.step b3).step (But.refl Nowhere _).drew
  clear b3
  have e0 := HE0.out
  have HS : ∀ V, Keep w V [(MB, 26, imC W H false (.slice (some ⟨gi, 0, none⟩) Z pc)), (PB, 23, pC W H 1 50 1 0)] → ((V.cell? ⟨PB, 0, none⟩ = some (.int .i64 W) ∧ V.cell? ⟨PB, 1, none⟩ = some (.int .i64 H) ∧ V.cell? ⟨PB, 2, none⟩ = some (.int .i64 1) ∧ V.cell? ⟨PB, 3, none⟩ = some (.int .i64 50) ∧ V.cell? ⟨PB, 4, none⟩ = some (.int .i64 1) ∧ V.cell? ⟨PB, 5, none⟩ = some (.int .i64 0)) ∧ (V.cell? ⟨MB, 0, none⟩ = some (.int .i64 W) ∧ V.cell? ⟨MB, 1, none⟩ = some (.int .i64 H) ∧ V.cell? ⟨MB, 2, none⟩ = some (.bool false) ∧ V.cell? ⟨MB, 3, none⟩ = some (.slice (some ⟨gi, 0, none⟩) Z pc))) := fun V kk => have gP := (kk.get (b := PB) (t := 23) (c := pC W H 1 50 1 0) (by simp)); have gN := kk.head; ⟨⟨gP.at 0, gP.at 1, gP.at 2, gP.at 3, gP.at 4, gP.at 5⟩, ⟨gN.at 0, gN.at 1, gN.at 2, gN.at 3⟩⟩
  go_wp2_with fail
  refine wp_region_till (S := fun V => (V.cell? ⟨PB, 0, none⟩ = some (.int .i64 W) ∧ V.cell? ⟨PB, 1, none⟩ = some (.int .i64 H) ∧ V.cell? ⟨PB, 2, none⟩ = some (.int .i64 1) ∧ V.cell? ⟨PB, 3, none⟩ = some (.int .i64 50) ∧ V.cell? ⟨PB, 4, none⟩ = some (.int .i64 1) ∧ V.cell? ⟨PB, 5, none⟩ = some (.int .i64 0)) ∧ (V.cell? ⟨MB, 0, none⟩ = some (.int .i64 W) ∧ V.cell? ⟨MB, 1, none⟩ = some (.int .i64 H) ∧ V.cell? ⟨MB, 2, none⟩ = some (.bool false) ∧ V.cell? ⟨MB, 3, none⟩ = some (.slice (some ⟨gi, 0, none⟩) Z pc))) (R := fun _ => True) (k := 100) (m := 100) (by kernel_rfl) (HS _ kk) trivial ?_
  (refine Walk.go (i := 0) (o := { dst := some 26, op := Op.call { callee := Callee.value (Operand.func 9), args := #[], argTypes := #[] }, type := 4, pos := "law.go:176", after := #[], guard := none }) (by kernel_rfl) rfl (fun K hK => ?_); go_simp; ((go_at_call 9; refine (known_any _).mono ?_; rintro e x0 ⟨rfl, d⟩; replace kk := kk.step d; replace hB2 := hB2.step d; replace hV9 := hV9.but d; clear d)); refine hK.out _ _ (⟨fun _ => HS _ kk, fun _ => trivial⟩) ?_; clear hK K; try simp only [Act.put, List.setIfInBounds_toArray, List.set_cons_zero, List.set_cons_succ])
  (refine Walk.take (i := 1) (oi := { dst := some 27, op := Op.move (Operand.tmp 26), type := 4, pos := "law.go:176", after := #[{ on := 0, ground := Ground.data }, { on := 0, ground := Ground.chain }], guard := none }) (v := ?_) rfl (by kernel_rfl) (by kernel_rfl) (by kernel_rfl) (by kernel_rfl) (fun _ _ _ h => h) (Or.inl ⟨by rfl, ?_⟩) ?_; rotate_left; (intro w hw; clear hw; (try go_split_ands); go_simp; try (with_reducible rfl)); simp only [Act.put, List.setIfInBounds_toArray, List.set_cons_zero, List.set_cons_succ])
  (refine Walk.take (i := 2) (oi := { dst := some 28, op := Op.move (Operand.tmp 9), type := 30, pos := "law.go:176", after := #[{ on := 1, ground := Ground.guard }], guard := some (1, true) }) (v := ?_) rfl (by kernel_rfl) (by kernel_rfl) (by kernel_rfl) (by kernel_rfl) (fun _ _ _ h => h) (Or.inl ⟨by rfl, ?_⟩) ?_; rotate_left; (intro w hw; clear hw; (try go_split_ands); go_simp; try (with_reducible rfl)); simp only [Act.put, List.setIfInBounds_toArray, List.set_cons_zero, List.set_cons_succ])
  (refine Walk.take (i := 3) (oi := { dst := some 29, op := Op.call { callee := Callee.builtin Builtin.len, args := #[Operand.tmp 28], argTypes := #[30] }, type := 3, pos := "law.go:176", after := #[{ on := 2, ground := Ground.data }, { on := 1, ground := Ground.guard }], guard := some (1, true) }) (v := ?_) rfl (by kernel_rfl) (by kernel_rfl) (by kernel_rfl) (by kernel_rfl) (fun _ _ _ h => h) (Or.inl ⟨by rfl, ?_⟩) ?_; rotate_left; (intro w hw; clear hw; (try go_split_ands); go_simp; try (with_reducible rfl)); simp only [Act.put, List.setIfInBounds_toArray, List.set_cons_zero, List.set_cons_succ])
  (refine Walk.take (i := 4) (oi := { dst := some 30, op := Op.move (Operand.tmp 10), type := 3, pos := "law.go:176", after := #[{ on := 1, ground := Ground.guard }], guard := some (1, true) }) (v := ?_) rfl (by kernel_rfl) (by kernel_rfl) (by kernel_rfl) (by kernel_rfl) (fun _ _ _ h => h) (Or.inl ⟨by rfl, ?_⟩) ?_; rotate_left; (intro w hw; clear hw; (try go_split_ands); go_simp; try (with_reducible rfl)); simp only [Act.put, List.setIfInBounds_toArray, List.set_cons_zero, List.set_cons_succ])
  (refine Walk.take (i := 5) (oi := { dst := some 31, op := Op.move (Operand.tmp 11), type := 3, pos := "law.go:176", after := #[{ on := 1, ground := Ground.guard }], guard := some (1, true) }) (v := ?_) rfl (by kernel_rfl) (by kernel_rfl) (by kernel_rfl) (by kernel_rfl) (fun _ _ _ h => h) (Or.inl ⟨by rfl, ?_⟩) ?_; rotate_left; (intro w hw; clear hw; (try go_split_ands); go_simp; try (with_reducible rfl)); simp only [Act.put, List.setIfInBounds_toArray, List.set_cons_zero, List.set_cons_succ])
  (refine Walk.take (i := 6) (oi := { dst := some 32, op := Op.binOp BinOp.mul 3 (Operand.tmp 30) (Operand.tmp 31) 3, type := 3, pos := "law.go:176", after := #[{ on := 4, ground := Ground.data }, { on := 5, ground := Ground.data }, { on := 1, ground := Ground.guard }], guard := some (1, true) }) (v := .int .i64 (N : Int)) rfl (by kernel_rfl) (by kernel_rfl) (by kernel_rfl) (by kernel_rfl) (fun _ _ _ h => h) (Or.inl ⟨by rfl, ?_⟩) ?_; (focus (intro w hw; clear hw; (try go_split_ands); go_simp; (try (rw [wrap_i64_eq]; exact e0)))); simp only [Act.put, List.setIfInBounds_toArray, List.set_cons_zero, List.set_cons_succ])
  (refine Walk.take (i := 7) (oi := { dst := some 33, op := Op.binOp BinOp.eql 3 (Operand.tmp 29) (Operand.tmp 32) 3, type := 4, pos := "law.go:176", after := #[{ on := 3, ground := Ground.data }, { on := 6, ground := Ground.data }, { on := 1, ground := Ground.guard }], guard := some (1, true) }) (v := .bool true) rfl (by kernel_rfl) (by kernel_rfl) (by kernel_rfl) (by kernel_rfl) (fun _ _ _ h => h) (Or.inl ⟨by rfl, ?_⟩) ?_; (focus (intro w hw; clear hw; (try go_split_ands); go_simp)); simp only [Act.put, List.setIfInBounds_toArray, List.set_cons_zero, List.set_cons_succ])
  (refine Walk.take (i := 8) (oi := { dst := some 34, op := Op.pick (Operand.tmp 27) (Operand.tmp 33) (Operand.const (Value.bool false)), type := 4, pos := "law.go:176", after := #[{ on := 1, ground := Ground.data }, { on := 7, ground := Ground.data }], guard := none }) (v := ?_) rfl (by kernel_rfl) (by kernel_rfl) (by kernel_rfl) (by kernel_rfl) (fun _ _ _ h => h) (Or.inl ⟨by rfl, ?_⟩) ?_; rotate_left; (intro w hw; clear hw; (try go_split_ands); go_simp; try (with_reducible rfl)); simp only [Act.put, List.setIfInBounds_toArray, List.set_cons_zero, List.set_cons_succ])
  (refine Walk.take (i := 9) (oi := { dst := some 35, op := Op.move (Operand.tmp 34), type := 4, pos := "law.go:176", after := #[{ on := 8, ground := Ground.data }, { on := 1, ground := Ground.chain }], guard := none }) (v := ?_) rfl (by kernel_rfl) (by kernel_rfl) (by kernel_rfl) (by kernel_rfl) (fun _ _ _ h => h) (Or.inl ⟨by rfl, ?_⟩) ?_; rotate_left; (intro w hw; clear hw; (try go_split_ands); go_simp; try (with_reducible rfl)); simp only [Act.put, List.setIfInBounds_toArray, List.set_cons_zero, List.set_cons_succ])
  (refine Walk.take (i := 10) (oi := { dst := some 36, op := Op.load 23 (Operand.tmp 7), type := 23, pos := "law.go:176", after := #[{ on := 9, ground := Ground.guard }], guard := some (9, true) }) (v := ?_) rfl (by kernel_rfl) (by kernel_rfl) (by kernel_rfl) (by kernel_rfl) (fun _ _ _ h => h) (Or.inl ⟨by rfl, ?_⟩) ?_; rotate_left; (intro w hw; have hS1 := hw.1 (by kernel_rfl); clear hw; (try dsimp only at hS1); (try go_split_ands); go_simp; try (with_reducible rfl)); simp only [Act.put, List.setIfInBounds_toArray, List.set_cons_zero, List.set_cons_succ])
  (refine Walk.take (i := 11) (oi := { dst := some 37, op := Op.move (Operand.tmp 9), type := 30, pos := "law.go:176", after := #[{ on := 9, ground := Ground.guard }], guard := some (9, true) }) (v := ?_) rfl (by kernel_rfl) (by kernel_rfl) (by kernel_rfl) (by kernel_rfl) (fun _ _ _ h => h) (Or.inl ⟨by rfl, ?_⟩) ?_; rotate_left; (intro w hw; clear hw; (try go_split_ands); go_simp; try (with_reducible rfl)); simp only [Act.put, List.setIfInBounds_toArray, List.set_cons_zero, List.set_cons_succ])
  (refine Walk.take (i := 13) (oi := { dst := some 39, op := Op.load 26 (Operand.tmp 8), type := 26, pos := "law.go:176", after := #[{ on := 9, ground := Ground.guard }], guard := some (9, true) }) (v := ?_) rfl (by kernel_rfl) (by kernel_rfl) (by kernel_rfl) (by kernel_rfl) (fun _ _ _ h => h) (Or.inl ⟨by rfl, ?_⟩) ?_; rotate_left; (intro w hw; have hS1 := hw.1 (by kernel_rfl); clear hw; (try dsimp only at hS1); (try go_split_ands); go_simp; try (with_reducible rfl)); simp only [Act.put, List.setIfInBounds_toArray, List.set_cons_zero, List.set_cons_succ])
  (refine Walk.go (i := 12) (o := { dst := some 38, op := Op.call { callee := Callee.value (Operand.func 20), args := #[Operand.tmp 36, Operand.tmp 37], argTypes := #[23, 30] }, type := 26, pos := "law.go:176", after := #[{ on := 10, ground := Ground.data }, { on := 11, ground := Ground.data }, { on := 9, ground := Ground.chain }, { on := 9, ground := Ground.guard }], guard := some (9, true) }) (by kernel_rfl) rfl (fun K hK => ?_); go_simp; ((go_at_call 20; refine (planeJoin_gray W H 50 1 0 f _ go2 G2 _ (gn li) Z N _ HZ.out HN.out hB2 (fun i b k n _ hb hk hn h1 h2 => gray_C li hix i b k n hb hn hk h1 h2) HGI.out).mono ?_; rintro e x1 ⟨⟨pv, rfl, hvj⟩, d⟩; rw [HGA.out] at hvj; obtain ⟨jo, jc, rfl⟩ := hvj.slice; rw [hlz] at hvj ⊢; replace kk := kk.step d; replace hV9 := hV9.but d; clear d)); refine hK.out _ _ (⟨fun _ => HS _ kk, fun _ => trivial⟩) ?_; clear hK K; try simp only [Act.put, List.setIfInBounds_toArray, List.set_cons_zero, List.set_cons_succ])
  (refine Walk.go (i := 14) (o := { dst := some 40, op := Op.call { callee := Callee.value (Operand.func 19), args := #[Operand.tmp 38, Operand.tmp 39], argTypes := #[26, 26] }, type := 4, pos := "law.go:176", after := #[{ on := 12, ground := Ground.data }, { on := 13, ground := Ground.data }, { on := 12, ground := Ground.chain }, { on := 9, ground := Ground.guard }], guard := some (9, true) }) (by kernel_rfl) rfl (fun K hK => ?_); go_simp; ((go_at_call 19; refine (sameImage_yes W H false _ _ li _ hvj hV9 HNE.out).mono ?_; rintro e x2 ⟨rfl, d⟩; replace kk := kk.step d; clear d)); refine hK.out _ _ (⟨fun _ => HS _ kk, fun _ => trivial⟩) ?_; clear hK K; try simp only [Act.put, List.setIfInBounds_toArray, List.set_cons_zero, List.set_cons_succ])
  (refine Walk.take (i := 15) (oi := { dst := some 41, op := Op.pick (Operand.tmp 35) (Operand.tmp 40) (Operand.const (Value.bool false)), type := 4, pos := "law.go:176", after := #[{ on := 9, ground := Ground.data }, { on := 14, ground := Ground.data }], guard := none }) (v := ?_) rfl (by kernel_rfl) (by kernel_rfl) (by kernel_rfl) (by kernel_rfl) (fun _ _ _ h => h) (Or.inl ⟨by rfl, ?_⟩) ?_; rotate_left; (intro w hw; clear hw; (try go_split_ands); go_simp; try (with_reducible rfl)); simp only [Act.put, List.setIfInBounds_toArray, List.set_cons_zero, List.set_cons_succ])
  (refine Walk.take (i := 16) (oi := { dst := some 6, op := Op.assign (Operand.tmp 41), type := 4, pos := "law.go:176", after := #[{ on := 15, ground := Ground.data }, { on := 14, ground := Ground.chain }, { on := 0, ground := Ground.phase }, { on := 1, ground := Ground.phase }, { on := 2, ground := Ground.phase }, { on := 3, ground := Ground.phase }, { on := 4, ground := Ground.phase }, { on := 5, ground := Ground.phase }, { on := 6, ground := Ground.phase }, { on := 7, ground := Ground.phase }, { on := 8, ground := Ground.phase }, { on := 9, ground := Ground.phase }, { on := 10, ground := Ground.phase }, { on := 11, ground := Ground.phase }, { on := 12, ground := Ground.phase }, { on := 13, ground := Ground.phase }, { on := 14, ground := Ground.phase }, { on := 15, ground := Ground.phase }], guard := none }) (v := ?_) rfl (by kernel_rfl) (by kernel_rfl) (by kernel_rfl) (by kernel_rfl) (fun _ _ _ h => h) (Or.inl ⟨by rfl, ?_⟩) ?_; rotate_left; (intro w hw; clear hw; (try go_split_ands); go_simp; try (with_reducible rfl)); simp only [Act.put, List.setIfInBounds_toArray, List.set_cons_zero, List.set_cons_succ])
  refine Walk.done (by kernel_rfl) ?_ _
  go_wp2_with fail
  go_ret
  exact ⟨rfl, kk.but⟩

set_option maxRecDepth 100000 in
theorem lifted (os : Os) (started : os.Started) (H : Type) (enc : TypeId × Value → H) :
    ReturnsInHanded {} Tryd.checked os 4 .any (fun w args => (Rows.planeGraySpec.pre enc Tryd.prog Tryd.f4 Rows.planeGrayRow.domain false w args ∧ laidMetH Tryd.prog Rows.planeGrayRow.laid w) ∧ sizedMet enc Tryd.prog Tryd.f4 (OpenSpec.ofChange Rows.planeGraySpec) false w args) (Rows.planeGraySpec.post enc Tryd.prog Tryd.f4 false true false false) := by
  refine returnsInHanded_of_change_and (C := Tryd.checked) (X := fun w _ => laidMetH Tryd.prog laidL w) (fun _ _ _ hh h => h.of_heap hh) own started (by kernel_rfl) Tryd.func4
    (ChangeSpec.witness_shaped (enc := enc) (C := Tryd.checked) (os := os) (X := fun w _ => laidMetH Tryd.prog laidL w) false (World.laidAll Tryd.prog os laidL) #[.int .u8 0, .int .u8 0, .slice none 0 0] 8 (World.laidAll_os _ _ _) (World.shaped_of_ZipB (by kernel_rfl) (by kernel_rfl)) (by kernel_rfl) (by kernel_rfl) (by kernel_rfl) (by rw [MakeChecks.laidMetH_plain _ _ _ (by kernel_rfl)]; exact laidMet_laidAll _ (by kernel_rfl) (by kernel_rfl))) ?_
  intro W base args ds gs before hval0 hW hcnd hsz0 hL0 _
  have hTW := tab_of_laid hL0
  have hval : ∀ (j : Nat) t v, Tryd.f4.params[j]? = some t → args[j]? = some v → Value.okWide Tryd.prog W .any base t v := hval0
  have hsz : (DataW.weightsEach Tryd.prog (Tryd.f4.params.toList ++ Rows.planeGraySpec.plain.varTypes Tryd.prog) (ds ++ gs)).all (· ≤ reachBytes) = true := hsz0
  have hW' := hW
  obtain ⟨p, q, hA0, hV, rfl, hfz, hnd⟩ := hW
  have hA : DataW.TrodAll enc Tryd.prog W 0 (fun _ => true) true Tryd.f4.params.toList args.toList ds p := hA0
  rw [Tryd.params4] at hA hval hsz
  obtain ⟨v0, vs0, d0, ds0, p0, q0, hargs, rfl, rfl, h0, r0⟩ := trodAll_cons hA
  obtain ⟨v1, vs1, d1, ds1, p1, q1, rfl, rfl, rfl, h1, r1⟩ := trodAll_cons r0
  obtain ⟨v2, vs2, d2, ds2, p2, q2, rfl, rfl, rfl, h2, r2⟩ := trodAll_cons r1
  obtain ⟨rfl, rfl, rfl⟩ := trodAll_nil r2
  obtain rfl : args = #[v0, v1, v2] := by cases args; simp_all
  obtain ⟨rfl, rfl⟩ := trodVars_none hV
  obtain ⟨a0, rfl, rfl, rfl, w0⟩ := open_int Tryd.underlying5 (hval 0 5 v0 rfl rfl) h0
  obtain ⟨a1, rfl, rfl, rfl, w1⟩ := open_int Tryd.underlying5 (hval 1 5 v1 rfl rfl) h1
  obtain ⟨l2, ⟨s2, x2⟩, e2⟩ := open_bytes (hval 2 24 v2 rfl rfl) h2
  have n2 := bytes_small hsz (j := 2) rfl rfl e2
  clear hA0 hval0
  refine (walk W hTW a0 w0 a1 w1 v2 l2 s2 x2 n2).mono fun e W' ⟨he, hg⟩ => ?_
  subst he
  exact ⟨_, rfl, law_post laidOut readable rfl Tryd.underlying4 rfl rfl hW' hg.below⟩

theorem over : Rows.planeGrayRow.holds Tryd.pinned (OpenSpec.ofChange Rows.planeGraySpec) :=
  OpenClaim.holds_of_wide 4 Tryd.f4 rfl rfl rfl rfl rfl rfl rfl ⟨rfl, rfl, rfl, rfl, rfl⟩ rfl rfl rfl rfl rfl (by kernel_rfl) Tryd.func4 (by kernel_rfl)
    (of_decide_eq_true (by kernel_rfl)) (by unfold Func.isWrapper; first | (rw [if_pos (by decide +kernel)]; kernel_rfl) | (rw [if_neg (by decide +kernel)]; exact ⟨rfl, rfl⟩))
    (fun os started H enc _ => lifted os started H enc)

end Go.Proofs.YtppbnmlgilgnnaaDoor.planeGray
namespace Go.Proofs.YtppbnmlgilgnnaaDoor
set_option maxRecDepth 100000 in
theorem planeGray_holds : Rows.PlaneGrayCardSaid :=
  Claim7.holds_tied_plain_at .later [] [.data, .data] true (true, "ab5aa4f614d791b3d8cb4fdca616c939dd2ef51ee4a4484fecb3b38df204f3c9") false planeGray.over (fun _ h => by cases h) (by kernel_rfl) (fun _ h => by cases h) planeGray_row_tie rfl ⟨rfl, rfl⟩ (by kernel_rfl) rfl
    (fun f fn hf hfn => by
      obtain rfl : f = 4 := Option.some.inj ((show Tryd.prog.funcNamed "cyanotype/cyanotypelaw07.PlaneGray" = some 4 by kernel_rfl).symm.trans hf) |>.symm
      obtain rfl : fn = Tryd.f4 := (Option.some.inj (Tryd.func4.symm.trans hfn)).symm
      exact ⟨by kernel_rfl, fun j t ht => by
        rw [Tryd.params4] at ht
        have hm : t ∈ [5, 5, 24] := by simpa using Array.mem_of_getElem? ht
        have hall : ([5, 5, 24].all fun u => !Tryd.prog.wantsStandIn u) = true := by kernel_rfl
        exact (show Tryd.prog.wantsStandIn t = false by simpa using List.all_eq_true.1 hall t hm)⟩)
    (by kernel_rfl)
#print axioms planeGray_holds
end Go.Proofs.YtppbnmlgilgnnaaDoor
