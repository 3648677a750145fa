/- Split of any image, and of choices, is what the chapter says; so is it of secrets. -/
import Derived.Test.YtppbnmlgilgnnaaDoorPlRef1
import Derived.Test.YtppbnmlgilgnnaaDoorMgB
import Derived.Test.YtppbnmlgilgnnaaDoorMgA
import Derived.Test.YtppbnmlgilgnnaaDoorMgD
import Derived.Test.YtppbnmlgilgnnaaDoorFrame
import Derived.Test.YtppbnmlgilgnnaaDoorRows
import Derived.Test.YtppbnmlgilgnnaaDoorDoorTab
import Derived.Test.YtppbnmlgilgnnaaDoorCards
import Derived.Test.YtppbnmlgilgnnaaDoorTie
namespace Go.Proofs.YtppbnmlgilgnnaaDoor.planeSplits
open Go.ChangeShapes Go.WideShapes Go.ChangeAt Go.RowKit
set_option linter.unusedVariables false

theorem own : ownKnob Tryd.prog.godebug = none := by kernel_rfl
theorem laidOut : laidOutB Tryd.prog = true := by kernel_rfl
theorem readable : ∀ t ∈ Tryd.f3.params.toList, Tryd.prog.readableRec t = true ∧ t < Tryd.prog.types.size := by
  rw [Tryd.params3]
  simp only [List.mem_cons, List.not_mem_nil, or_false, forall_eq_or_imp, forall_eq]
  refine ⟨⟨by kernel_rfl, of_decide_eq_true (by kernel_rfl)⟩, ⟨by kernel_rfl, of_decide_eq_true (by kernel_rfl)⟩, ⟨by kernel_rfl, of_decide_eq_true (by kernel_rfl)⟩, ⟨by kernel_rfl, of_decide_eq_true (by kernel_rfl)⟩, ⟨by kernel_rfl, of_decide_eq_true (by kernel_rfl)⟩, ⟨by kernel_rfl, of_decide_eq_true (by kernel_rfl)⟩⟩

set_option maxHeartbeats 20000000 in
set_option maxRecDepth 100000 in
theorem walk (w : World) (hT : Tab w) (p0W p0H p0m p0q p0i p0c : Int) (x0 : I64 p0W ∧ I64 p0H ∧ I64 p0m) (i1W i1H : Int) (i1r : Bool) (pv1 : Value) (l1 : List Int) (s1 : View w .u8 pv1 l1) (x1 : ∀ x ∈ l1, 0 ≤ x ∧ x ≤ 255) (v2 : Value) (l2 : List Int) (s2 : View w .u8 v2 l2) (x2 : ∀ x ∈ l2, 0 ≤ x ∧ x ≤ 255) (n2 : l2.length ≤ 140737488355328) (a3 : Int) (w3 : (Lit.int .u8 a3).wf = true) (a4 : Int) (w4 : (Lit.int .u8 a4).wf = true) (a5 : Int) (w5 : (Lit.int .u8 a5).wf = true) :
    Calls Tryd.prog 3 #[pV p0W p0H p0m p0q p0i p0c, imV i1W i1H i1r pv1, v2, .int .u8 a3, .int .u8 a4, .int .u8 a5] w fun e w' => e = .returned (.bool true) ∧ But Nowhere w w' := by
  have a3r : 0 ≤ a3 ∧ a3 ≤ 255 := u8_in w3
  have a4r : 0 ≤ a4 ∧ a4 ≤ 255 := u8_in w4
  have a5r : 0 ≤ a5 ∧ a5 ≤ 255 := u8_in w5
  obtain ⟨W, hW⟩ : ∃ W, 1 + a3 % 40 = W := ⟨_, rfl⟩
  obtain ⟨H, hH⟩ : ∃ H, 1 + a4 % 24 = H := ⟨_, rfl⟩
  obtain ⟨m, hm⟩ : ∃ m, 1 + a5 % 4 = m := ⟨_, rfl⟩
  have f : Fit W H m := ⟨by omega, by omega, by omega, by
    have : W * H ≤ 40 * 24 := Int.mul_le_mul (by omega) (by omega) (by omega) (by omega)
    omega⟩
  have HW : Hid (1 + a3 % 40 = W ∧ 1 + a4 % 24 = H ∧ 1 + a5 % 4 = m) := ⟨hW, hH, hm⟩
  have hWs : 1 ≤ W ∧ W ≤ 40 ∧ 1 ≤ H ∧ H ≤ 24 := by omega
  clear hW hH hm
  obtain ⟨vo1, vc1, rfl⟩ := s1.slice
  obtain ⟨vo2, vc2, rfl⟩ := s2.slice
  obtain ⟨NA, MA, FA, hNA, hMA, HPA0, HRA0⟩ := split_both p0W p0H p0m p0q p0i p0c i1W i1H i1r vo1 vc1 l1 x1
  have HPA : Hid _ := HPA0
  have HRA : Hid _ := HRA0
  clear HPA0 HRA0
  have kk := ((Keep.start w).made 23 (pC p0W p0H p0m p0q p0i p0c)).made 26 (imC i1W i1H i1r (.slice vo1 l1.length vc1))
  simp only [World.size_alloc] at kk
  obtain ⟨PA, hPA⟩ : ∃ z, w.heap.size = z := ⟨_, rfl⟩
  rw [hPA] at kk
  obtain ⟨IA, hIA⟩ : ∃ z, PA + 1 = z := ⟨_, rfl⟩
  rw [hIA] at kk
  have d3 := kk.head.at 3
  simp only [List.getElem?_cons_zero, List.getElem?_cons_succ] at d3
  by_cases hbig : (2000 : Int) < (l1.length : Int)
  · have hb2 : decide ((2000 : Int) < (l1.length : Int)) = true := by simpa using hbig
    have hb3 : 2000 < l1.length := by omega
    go_enter Tryd.func3, Tryd.ntmps3
    go_wp2_with fail
    refine (known_any _).mono ?_
    rintro e w1 ⟨rfl, b1⟩
    have HB : Hid (But Nowhere w w1) := kk.but.trans b1
    clear b1 kk d3
    go_wp2_with fail
    go_ret
    exact ⟨rfl, HB.out⟩
  · have hb2 : decide ((2000 : Int) < (l1.length : Int)) = false := by simpa using hbig
    have hb3 : ¬ 2000 < l1.length := by omega
    obtain ⟨rb, hrb⟩ : ∃ rb, (m != 1) = rb := ⟨_, rfl⟩
    have IMG := fun V (hv : View V .u8 (.slice vo2 l2.length vc2) l2) => image_any W H m f _ l2 V hv x2 n2
    rw [hrb] at IMG
    have m0 : 1 * 1 ≤ W * H := Int.mul_le_mul hWs.1 hWs.2.2.1 (by omega) (by omega)
    have m1 : W * H ≤ 40 * 24 := Int.mul_le_mul hWs.2.1 hWs.2.2.2 (by omega) (by omega)
    have hpn : 1 ≤ partsN m ∧ partsN m ≤ 3 := by unfold partsN; split <;> omega
    have m2 : 1 * 1 ≤ W * H * (partsN m : Int) := Int.mul_le_mul (by omega) (by omega) (by omega) (by omega)
    have m3 : W * H * (partsN m : Int) ≤ 40 * 24 * 3 := Int.mul_le_mul (by omega) (by omega) (by omega) (by omega)
    have HNO : Hid (∀ V, Calls Tryd.prog 14 #[pV W H m 50 1 0, imV W H rb (.slice none 0 0)] V fun e w' => e = .returned (.slice none 0 0) ∧ But Nowhere V w') := planeSplit_not W H m 50 1 0 f W H rb none 0 0 (Or.inr (Or.inr (Or.inr (by omega))))
    obtain ⟨-, -, g3, g4, g5, g6⟩ := f.grid
    have hNQ0 : gridW W H m * gridH W H m ≤ 8192 * 8192 := Int.mul_le_mul g4 g6 (by omega) (by omega)
    have hMQ0 := (unit_pos m).2
    have HM23 : Hid (1 ≤ W * H * (partsN m : Int) ∧ W * H * (partsN m : Int) ≤ 2880) := ⟨by omega, by omega⟩
    clear m0 m1 m2 m3 hpn g3 g4 g5 g6
    go_enter Tryd.func3, Tryd.ntmps3
    go_wp2_with fail
    refine (known_any _).mono ?_
    rintro e w1 ⟨rfl, b1⟩
    replace kk := kk.step b1
    clear b1 d3
    go_wp2_with fail
    refine (public_any _ _ _ a3r a4r a5r _).mono ?_
    rintro e w2 ⟨rfl, b2⟩
    rw [HW.out.1, HW.out.2.1, HW.out.2.2]
    replace kk := (kk.step b2).made 23 (pC W H m 50 1 0)
    clear b2 HW a3r a4r a5r
    obtain ⟨PB, hPB⟩ : ∃ b, w2.heap.size = b := ⟨_, rfl⟩
    rw [hPB] at kk
    go_wp2_with fail
    revert kk
    generalize w2.alloc (.cells #[.int .i64 W, .int .i64 H, .int .i64 m, .int .i64 50, .int .i64 1, .int .i64 0] 23) = w2'
    intro kk
    refine (IMG w2' (s2.but kk.but)).mono ?_
    rintro e w3' ⟨⟨li, pv, rfl, hil, hix, Li⟩, b3⟩
    have hl1 : 0 < li.length ∧ li.length ≤ 2880 := by have := HM23.out; omega
    obtain ⟨gi, pc, rfl, -, -, -, -, -⟩ := Li.at hl1.1
    have hVI := View.of_owns Li.own
    replace kk := (kk.step b3).made 26 (imC W H rb (.slice (some ⟨gi, 0, none⟩) li.length pc))
    have hV9 := hVI.but ((But.refl Nowhere w3').alloc (.cells #[.int .i64 W, .int .i64 H, .bool rb, .slice (some ⟨gi, 0, none⟩) li.length pc] 26))
    obtain ⟨MB, hMB⟩ : ∃ b, w3'.heap.size = b := ⟨_, rfl⟩
    rw [hMB] at kk
    have HLS : Hid (li.length ≤ 4000000) := by show li.length ≤ 4000000; omega
    have HPQ : Hid (∀ V, Tab V → View V .u8 (.slice (some ⟨gi, 0, none⟩) li.length pc) li → _) := fun V hT hv => planeSplit_fit W H m 50 1 0 f _ li V hT hv hil hix rb hrb.symm
    have HSQ : Hid (∀ V v, Tab V → View V .i64 v li → _) := fun V v hT hv => splitSec_fit W H m 50 1 0 f v li V hT hv hil hix
    have HRQ : Hid (∀ V, View V .u8 (.slice (some ⟨gi, 0, none⟩) li.length pc) li → _) := fun V hv => refSplit_fit W H m 50 1 0 f _ li V hv hil hix rb hrb.symm
    obtain ⟨NQ, hNQ'⟩ : ∃ N, (gridW W H m * gridH W H m).toNat = N := ⟨_, rfl⟩
    have hNQ : NQ ≤ 100000000 := by omega
    obtain ⟨MQ, hMQ'⟩ : ∃ M, (unitL m).length = M := ⟨_, rfl⟩
    have hMQ : MQ ≤ 6 := by omega
    obtain ⟨FQ, hFQ⟩ : ∃ F, splitF W H m li = F := ⟨_, rfl⟩
    rw [hNQ', hMQ', hFQ] at HPQ HSQ HRQ
    clear hNQ' hMQ' hFQ hNQ0 hMQ0 hil hrb
    have gP := kk.get (b := PB) (t := 23) (c := pC W H m 50 1 0) (by simp)
    have c0 := gP.at 0
    have c1 := gP.at 1
    have c2 := gP.at 2
    have c3 := gP.at 3
    have c4 := gP.at 4
    have c5 := gP.at 5
    have gM := kk.head
    have d0 := gM.at 0
    have d1 := gM.at 1
    have d2 := gM.at 2
    have d3 := gM.at 3
    simp only [List.getElem?_cons_zero, List.getElem?_cons_succ] at c0 c1 c2 c3 c4 c5 d0 d1 d2 d3
    clear Li b3 IMG hPB hVI gP gM hl1
    go_wp2_with fail
    clear c0 c1 c2 c3 c4 c5 d0 d1 d2 d3
    revert kk hV9
    generalize w3'.alloc (.cells #[.int .i64 W, .int .i64 H, .bool rb, .slice (some ⟨gi, 0, none⟩) li.length pc] 26) = w9
    intro hV9 kk
    refine (HRQ.out _ hV9).mono ?_
    rintro e y2 ⟨⟨vL, rfl, hBL⟩, b2⟩
    replace kk := (kk.step b2).drew
    replace hV9 := (hV9.but b2).but (But.refl Nowhere _).drew
    replace hBL := hBL.but (But.refl Nowhere _).drew
    clear b2
    have HS : ∀ V, Keep w V [(MB, 26, imC W H rb (.slice (some ⟨gi, 0, none⟩) li.length pc)), (PB, 23, pC W H m 50 1 0), (IA, 26, imC i1W i1H i1r (.slice vo1 l1.length vc1)), (PA, 23, pC p0W p0H p0m p0q p0i p0c)] → (((V.cell? ⟨PA, 0, none⟩ = some (.int .i64 p0W) ∧ V.cell? ⟨PA, 1, none⟩ = some (.int .i64 p0H) ∧ V.cell? ⟨PA, 2, none⟩ = some (.int .i64 p0m) ∧ V.cell? ⟨PA, 3, none⟩ = some (.int .i64 p0q) ∧ V.cell? ⟨PA, 4, none⟩ = some (.int .i64 p0i) ∧ V.cell? ⟨PA, 5, none⟩ = some (.int .i64 p0c)) ∧ (V.cell? ⟨IA, 0, none⟩ = some (.int .i64 i1W) ∧ V.cell? ⟨IA, 1, none⟩ = some (.int .i64 i1H) ∧ V.cell? ⟨IA, 2, none⟩ = some (.bool i1r) ∧ V.cell? ⟨IA, 3, none⟩ = some (.slice vo1 l1.length vc1))) ∧ (V.cell? ⟨PB, 0, none⟩ = some (.int .i64 W) ∧ V.cell? ⟨PB, 1, none⟩ = some (.int .i64 H) ∧ V.cell? ⟨PB, 2, none⟩ = some (.int .i64 m) ∧ V.cell? ⟨PB, 3, none⟩ = some (.int .i64 50) ∧ V.cell? ⟨PB, 4, none⟩ = some (.int .i64 1) ∧ V.cell? ⟨PB, 5, none⟩ = some (.int .i64 0)) ∧ (V.cell? ⟨MB, 0, none⟩ = some (.int .i64 W) ∧ V.cell? ⟨MB, 1, none⟩ = some (.int .i64 H) ∧ V.cell? ⟨MB, 2, none⟩ = some (.bool rb) ∧ V.cell? ⟨MB, 3, none⟩ = some (.slice (some ⟨gi, 0, none⟩) li.length pc))) := fun V kk => have gA := (kk.get (b := PA) (t := 23) (c := pC p0W p0H p0m p0q p0i p0c) (by simp)); have gI := (kk.get (b := IA) (t := 26) (c := imC i1W i1H i1r (.slice vo1 l1.length vc1)) (by simp)); have gP := (kk.get (b := PB) (t := 23) (c := pC W H m 50 1 0) (by simp)); have gN := kk.head; ⟨⟨⟨gA.at 0, gA.at 1, gA.at 2, gA.at 3, gA.at 4, gA.at 5⟩, ⟨gI.at 0, gI.at 1, gI.at 2, gI.at 3⟩⟩, ⟨gP.at 0, gP.at 1, gP.at 2, gP.at 3, gP.at 4, gP.at 5⟩, ⟨gN.at 0, gN.at 1, gN.at 2, gN.at 3⟩⟩
    go_wp2_with fail
    refine wp_region_till (S := fun V => ((V.cell? ⟨PA, 0, none⟩ = some (.int .i64 p0W) ∧ V.cell? ⟨PA, 1, none⟩ = some (.int .i64 p0H) ∧ V.cell? ⟨PA, 2, none⟩ = some (.int .i64 p0m) ∧ V.cell? ⟨PA, 3, none⟩ = some (.int .i64 p0q) ∧ V.cell? ⟨PA, 4, none⟩ = some (.int .i64 p0i) ∧ V.cell? ⟨PA, 5, none⟩ = some (.int .i64 p0c)) ∧ (V.cell? ⟨IA, 0, none⟩ = some (.int .i64 i1W) ∧ V.cell? ⟨IA, 1, none⟩ = some (.int .i64 i1H) ∧ V.cell? ⟨IA, 2, none⟩ = some (.bool i1r) ∧ V.cell? ⟨IA, 3, none⟩ = some (.slice vo1 l1.length vc1))) ∧ (V.cell? ⟨PB, 0, none⟩ = some (.int .i64 W) ∧ V.cell? ⟨PB, 1, none⟩ = some (.int .i64 H) ∧ V.cell? ⟨PB, 2, none⟩ = some (.int .i64 m) ∧ V.cell? ⟨PB, 3, none⟩ = some (.int .i64 50) ∧ V.cell? ⟨PB, 4, none⟩ = some (.int .i64 1) ∧ V.cell? ⟨PB, 5, none⟩ = some (.int .i64 0)) ∧ (V.cell? ⟨MB, 0, none⟩ = some (.int .i64 W) ∧ V.cell? ⟨MB, 1, none⟩ = some (.int .i64 H) ∧ V.cell? ⟨MB, 2, none⟩ = some (.bool rb) ∧ V.cell? ⟨MB, 3, none⟩ = some (.slice (some ⟨gi, 0, none⟩) li.length pc))) (R := fun _ => True) (k := 100) (m := 100) (by kernel_rfl) (HS _ kk) trivial ?_
    (refine Walk.take (i := 0) (oi := { dst := some 35, op := Op.load 23 (Operand.tmp 6), type := 23, pos := "law.go:111", after := #[], guard := none }) (v := ?_) rfl (by kernel_rfl) (by kernel_rfl) (by kernel_rfl) (by kernel_rfl) (fun _ _ _ h => h) (Or.inl ⟨by rfl, ?_⟩) ?_; rotate_left; (intro w hw; have hS1 := hw.1 (by kernel_rfl); clear hw; (try dsimp only at hS1); (try go_split_ands); go_simp; try (with_reducible rfl)); simp only [Act.put, List.setIfInBounds_toArray, List.set_cons_zero, List.set_cons_succ])
    (refine Walk.take (i := 1) (oi := { dst := some 36, op := Op.load 26 (Operand.tmp 7), type := 26, pos := "law.go:111", after := #[], guard := none }) (v := ?_) rfl (by kernel_rfl) (by kernel_rfl) (by kernel_rfl) (by kernel_rfl) (fun _ _ _ h => h) (Or.inl ⟨by rfl, ?_⟩) ?_; rotate_left; (intro w hw; have hS1 := hw.1 (by kernel_rfl); clear hw; (try dsimp only at hS1); (try go_split_ands); go_simp; try (with_reducible rfl)); simp only [Act.put, List.setIfInBounds_toArray, List.set_cons_zero, List.set_cons_succ])
    (refine Walk.take (i := 3) (oi := { dst := some 38, op := Op.load 23 (Operand.tmp 6), type := 23, pos := "law.go:111", after := #[], guard := none }) (v := ?_) rfl (by kernel_rfl) (by kernel_rfl) (by kernel_rfl) (by kernel_rfl) (fun _ _ _ h => h) (Or.inl ⟨by rfl, ?_⟩) ?_; rotate_left; (intro w hw; have hS1 := hw.1 (by kernel_rfl); clear hw; (try dsimp only at hS1); (try go_split_ands); go_simp; try (with_reducible rfl)); simp only [Act.put, List.setIfInBounds_toArray, List.set_cons_zero, List.set_cons_succ])
    (refine Walk.take (i := 4) (oi := { dst := some 39, op := Op.load 26 (Operand.tmp 7), type := 26, pos := "law.go:111", after := #[], guard := none }) (v := ?_) rfl (by kernel_rfl) (by kernel_rfl) (by kernel_rfl) (by kernel_rfl) (fun _ _ _ h => h) (Or.inl ⟨by rfl, ?_⟩) ?_; rotate_left; (intro w hw; have hS1 := hw.1 (by kernel_rfl); clear hw; (try dsimp only at hS1); (try go_split_ands); go_simp; try (with_reducible rfl)); simp only [Act.put, List.setIfInBounds_toArray, List.set_cons_zero, List.set_cons_succ])
    (refine Walk.go (i := 2) (o := { dst := some 37, op := Op.call { callee := Callee.value (Operand.func 14), args := #[Operand.tmp 35, Operand.tmp 36], argTypes := #[23, 26] }, type := 30, pos := "law.go:111", after := #[{ on := 0, ground := Ground.data }, { on := 1, ground := Ground.data }], guard := none }) (by kernel_rfl) rfl (fun K hK => ?_); go_simp; ((go_at_call 14; refine (HPA.out _ (hT.but kk.but) (s1.but kk.but)).mono ?_; rintro e x1 ⟨⟨vA, rfl, hA⟩, d⟩; replace kk := kk.step d; replace hV9 := hV9.but d; replace hBL := hBL.but d; clear d)); refine hK.out _ _ (⟨fun _ => HS _ kk, fun _ => trivial⟩) ?_; clear hK K; try simp only [Act.put, List.setIfInBounds_toArray, List.set_cons_zero, List.set_cons_succ])
    (refine Walk.go (i := 5) (o := { dst := some 40, op := Op.call { callee := Callee.value (Operand.func 12), args := #[Operand.tmp 38, Operand.tmp 39], argTypes := #[23, 26] }, type := 30, pos := "law.go:111", after := #[{ on := 3, ground := Ground.data }, { on := 4, ground := Ground.data }, { on := 2, ground := Ground.chain }], guard := none }) (by kernel_rfl) rfl (fun K hK => ?_); go_simp; ((go_at_call 12; refine (HRA.out _ (s1.but kk.but)).mono ?_; rintro e x2 ⟨⟨vA', rfl, hA'⟩, d⟩; replace hA := hA.but d; replace kk := kk.step d; replace hV9 := hV9.but d; replace hBL := hBL.but d; clear d)); refine hK.out _ _ (⟨fun _ => HS _ kk, fun _ => trivial⟩) ?_; clear hK K; try simp only [Act.put, List.setIfInBounds_toArray, List.set_cons_zero, List.set_cons_succ])
    (refine Walk.go (i := 6) (o := { dst := some 41, op := Op.call { callee := Callee.value (Operand.func 13), args := #[Operand.tmp 37, Operand.tmp 40], argTypes := #[30, 30] }, type := 4, pos := "law.go:111", after := #[{ on := 2, ground := Ground.data }, { on := 5, ground := Ground.data }, { on := 5, ground := Ground.chain }], guard := none }) (by kernel_rfl) rfl (fun K hK => ?_); go_simp; ((go_at_call 13; refine (sameBlocksV _ _ NA MA FA FA _ hA hA' (fun _ _ _ _ => rfl) hNA (by omega)).mono ?_; rintro e x3 ⟨rfl, d⟩; replace kk := kk.step d; replace hV9 := hV9.but d; replace hBL := hBL.but d; clear d hA hA')); refine hK.out _ _ (⟨fun _ => HS _ kk, fun _ => trivial⟩) ?_; clear hK K; try simp only [Act.put, List.setIfInBounds_toArray, List.set_cons_zero, List.set_cons_succ])
    (refine Walk.take (i := 7) (oi := { dst := some 42, op := Op.move (Operand.tmp 41), type := 4, pos := "law.go:111", after := #[{ on := 6, ground := Ground.data }, { on := 6, ground := Ground.chain }], guard := none }) (v := ?_) rfl (by kernel_rfl) (by kernel_rfl) (by kernel_rfl) (by kernel_rfl) (fun _ _ _ h => h) (Or.inl ⟨by rfl, ?_⟩) ?_; rotate_left; (intro w hw; clear hw; (try go_split_ands); go_simp; try (with_reducible rfl)); simp only [Act.put, List.setIfInBounds_toArray, List.set_cons_zero, List.set_cons_succ])
    (refine Walk.take (i := 8) (oi := { dst := some 43, op := Op.load 23 (Operand.tmp 13), type := 23, pos := "law.go:111", after := #[{ on := 7, ground := Ground.guard }], guard := some (7, true) }) (v := ?_) rfl (by kernel_rfl) (by kernel_rfl) (by kernel_rfl) (by kernel_rfl) (fun _ _ _ h => h) (Or.inl ⟨by rfl, ?_⟩) ?_; rotate_left; (intro w hw; have hS1 := hw.1 (by kernel_rfl); clear hw; (try dsimp only at hS1); (try go_split_ands); go_simp; try (with_reducible rfl)); simp only [Act.put, List.setIfInBounds_toArray, List.set_cons_zero, List.set_cons_succ])
    (refine Walk.take (i := 9) (oi := { dst := some 44, op := Op.load 26 (Operand.tmp 14), type := 26, pos := "law.go:111", after := #[{ on := 7, ground := Ground.guard }], guard := some (7, true) }) (v := ?_) rfl (by kernel_rfl) (by kernel_rfl) (by kernel_rfl) (by kernel_rfl) (fun _ _ _ h => h) (Or.inl ⟨by rfl, ?_⟩) ?_; rotate_left; (intro w hw; have hS1 := hw.1 (by kernel_rfl); clear hw; (try dsimp only at hS1); (try go_split_ands); go_simp; try (with_reducible rfl)); simp only [Act.put, List.setIfInBounds_toArray, List.set_cons_zero, List.set_cons_succ])
    (refine Walk.take (i := 11) (oi := { dst := some 46, op := Op.move (Operand.tmp 15), type := 30, pos := "law.go:111", after := #[{ on := 7, ground := Ground.guard }], guard := some (7, true) }) (v := ?_) rfl (by kernel_rfl) (by kernel_rfl) (by kernel_rfl) (by kernel_rfl) (fun _ _ _ h => h) (Or.inl ⟨by rfl, ?_⟩) ?_; rotate_left; (intro w hw; clear hw; (try go_split_ands); go_simp; try (with_reducible rfl)); simp only [Act.put, List.setIfInBounds_toArray, List.set_cons_zero, List.set_cons_succ])
    (refine Walk.go (i := 10) (o := { dst := some 45, op := Op.call { callee := Callee.value (Operand.func 14), args := #[Operand.tmp 43, Operand.tmp 44], argTypes := #[23, 26] }, type := 30, pos := "law.go:111", after := #[{ on := 8, ground := Ground.data }, { on := 9, ground := Ground.data }, { on := 7, ground := Ground.chain }, { on := 7, ground := Ground.guard }], guard := some (7, true) }) (by kernel_rfl) rfl (fun K hK => ?_); go_simp; ((go_at_call 14; refine (HPQ.out _ (hT.but kk.but) hV9).mono ?_; rintro e x4 ⟨⟨vQ, goQ, GQ, rfl, hQ, -, -⟩, d⟩; replace hQ := hQ.bv; replace kk := kk.step d; replace hV9 := hV9.but d; replace hBL := hBL.but d; clear d)); refine hK.out _ _ (⟨fun _ => HS _ kk, fun _ => trivial⟩) ?_; clear hK K; try simp only [Act.put, List.setIfInBounds_toArray, List.set_cons_zero, List.set_cons_succ])
    (refine Walk.go (i := 12) (o := { dst := some 47, op := Op.call { callee := Callee.value (Operand.func 13), args := #[Operand.tmp 45, Operand.tmp 46], argTypes := #[30, 30] }, type := 4, pos := "law.go:111", after := #[{ on := 10, ground := Ground.data }, { on := 11, ground := Ground.data }, { on := 10, ground := Ground.chain }, { on := 7, ground := Ground.guard }], guard := some (7, true) }) (by kernel_rfl) rfl (fun K hK => ?_); go_simp; ((go_at_call 13; refine (sameBlocksV _ _ NQ MQ FQ FQ _ hQ hBL (fun _ _ _ _ => rfl) hNQ (by omega)).mono ?_; rintro e x5 ⟨rfl, d⟩; replace kk := kk.step d; replace hV9 := hV9.but d; replace hBL := hBL.but d; clear d hQ)); refine hK.out _ _ (⟨fun _ => HS _ kk, fun _ => trivial⟩) ?_; clear hK K; try simp only [Act.put, List.setIfInBounds_toArray, List.set_cons_zero, List.set_cons_succ])
    (refine Walk.take (i := 13) (oi := { dst := some 48, op := Op.pick (Operand.tmp 42) (Operand.tmp 47) (Operand.const (Value.bool false)), type := 4, pos := "law.go:111", after := #[{ on := 7, ground := Ground.data }, { on := 12, ground := Ground.data }], guard := none }) (v := ?_) rfl (by kernel_rfl) (by kernel_rfl) (by kernel_rfl) (by kernel_rfl) (fun _ _ _ h => h) (Or.inl ⟨by rfl, ?_⟩) ?_; rotate_left; (intro w hw; clear hw; (try go_split_ands); go_simp; try (with_reducible rfl)); simp only [Act.put, List.setIfInBounds_toArray, List.set_cons_zero, List.set_cons_succ])
    (refine Walk.take (i := 14) (oi := { dst := some 49, op := Op.move (Operand.tmp 48), type := 4, pos := "law.go:111", after := #[{ on := 13, ground := Ground.data }, { on := 12, ground := Ground.chain }], guard := none }) (v := ?_) rfl (by kernel_rfl) (by kernel_rfl) (by kernel_rfl) (by kernel_rfl) (fun _ _ _ h => h) (Or.inl ⟨by rfl, ?_⟩) ?_; rotate_left; (intro w hw; clear hw; (try go_split_ands); go_simp; try (with_reducible rfl)); simp only [Act.put, List.setIfInBounds_toArray, List.set_cons_zero, List.set_cons_succ])
    (refine Walk.take (i := 15) (oi := { dst := some 50, op := Op.load 23 (Operand.tmp 13), type := 23, pos := "law.go:111", after := #[{ on := 14, ground := Ground.guard }], guard := some (14, true) }) (v := ?_) rfl (by kernel_rfl) (by kernel_rfl) (by kernel_rfl) (by kernel_rfl) (fun _ _ _ h => h) (Or.inl ⟨by rfl, ?_⟩) ?_; rotate_left; (intro w hw; have hS1 := hw.1 (by kernel_rfl); clear hw; (try dsimp only at hS1); (try go_split_ands); go_simp; try (with_reducible rfl)); simp only [Act.put, List.setIfInBounds_toArray, List.set_cons_zero, List.set_cons_succ])
    (refine Walk.take (i := 16) (oi := { dst := some 51, op := Op.fieldAddr 26 (Operand.tmp 14) 3, type := 0, pos := "law.go:111", after := #[{ on := 14, ground := Ground.guard }], guard := some (14, true) }) (v := ?_) rfl (by kernel_rfl) (by kernel_rfl) (by kernel_rfl) (by kernel_rfl) (fun _ _ _ h => h) (Or.inl ⟨by rfl, ?_⟩) ?_; rotate_left; (intro w hw; clear hw; (try go_split_ands); go_simp; try (with_reducible rfl)); simp only [Act.put, List.setIfInBounds_toArray, List.set_cons_zero, List.set_cons_succ])
    (refine Walk.take (i := 17) (oi := { dst := some 52, op := Op.load 24 (Operand.tmp 51), type := 24, pos := "law.go:111", after := #[{ on := 16, ground := Ground.data }, { on := 14, ground := Ground.guard }], guard := some (14, true) }) (v := ?_) rfl (by kernel_rfl) (by kernel_rfl) (by kernel_rfl) (by kernel_rfl) (fun _ _ _ h => h) (Or.inl ⟨by rfl, ?_⟩) ?_; rotate_left; (intro w hw; have hS1 := hw.1 (by kernel_rfl); clear hw; (try dsimp only at hS1); (try go_split_ands); go_simp; try (with_reducible rfl)); simp only [Act.put, List.setIfInBounds_toArray, List.set_cons_zero, List.set_cons_succ])
    (refine Walk.take (i := 20) (oi := { dst := some 55, op := Op.move (Operand.tmp 15), type := 30, pos := "law.go:111", after := #[{ on := 14, ground := Ground.guard }], guard := some (14, true) }) (v := ?_) rfl (by kernel_rfl) (by kernel_rfl) (by kernel_rfl) (by kernel_rfl) (fun _ _ _ h => h) (Or.inl ⟨by rfl, ?_⟩) ?_; rotate_left; (intro w hw; clear hw; (try go_split_ands); go_simp; try (with_reducible rfl)); simp only [Act.put, List.setIfInBounds_toArray, List.set_cons_zero, List.set_cons_succ])
    (refine Walk.go (i := 18) (o := { dst := some 53, op := Op.call { callee := Callee.value (Operand.func 17), args := #[Operand.tmp 52], argTypes := #[24] }, type := 36, pos := "law.go:111", after := #[{ on := 17, ground := Ground.data }, { on := 14, ground := Ground.chain }, { on := 14, ground := Ground.guard }], guard := some (14, true) }) (by kernel_rfl) rfl (fun K hK => ?_); go_simp; ((go_at_call 17; refine (words_any _ li _ hV9 hix HLS.out).mono ?_; rintro e x6 ⟨⟨vW, rfl, hW9⟩, d⟩; replace kk := kk.step d; replace hV9 := hV9.but d; replace hBL := hBL.but d; clear d)); refine hK.out _ _ (⟨fun _ => HS _ kk, fun _ => trivial⟩) ?_; clear hK K; try simp only [Act.put, List.setIfInBounds_toArray, List.set_cons_zero, List.set_cons_succ])
    (refine Walk.go (i := 19) (o := { dst := some 54, op := Op.call { callee := Callee.value (Operand.func 16), args := #[Operand.tmp 50, Operand.tmp 53], argTypes := #[23, 36] }, type := 34, pos := "law.go:111", after := #[{ on := 15, ground := Ground.data }, { on := 18, ground := Ground.data }, { on := 18, ground := Ground.chain }, { on := 14, ground := Ground.guard }], guard := some (14, true) }) (by kernel_rfl) rfl (fun K hK => ?_); go_simp; ((go_at_call 16; refine (HSQ.out _ _ (hT.but kk.but) hW9).mono ?_; rintro e x7 ⟨⟨vS, goS, GS, rfl, hS9⟩, d⟩; replace hS9 := hS9.bv; replace kk := kk.step d; replace hV9 := hV9.but d; replace hBL := hBL.but d; clear d hW9)); refine hK.out _ _ (⟨fun _ => HS _ kk, fun _ => trivial⟩) ?_; clear hK K; try simp only [Act.put, List.setIfInBounds_toArray, List.set_cons_zero, List.set_cons_succ])
    (refine Walk.go (i := 21) (o := { dst := some 56, op := Op.call { callee := Callee.value (Operand.func 15), args := #[Operand.tmp 54, Operand.tmp 55], argTypes := #[34, 30] }, type := 4, pos := "law.go:111", after := #[{ on := 19, ground := Ground.data }, { on := 20, ground := Ground.data }, { on := 19, ground := Ground.chain }, { on := 14, ground := Ground.guard }], guard := some (14, true) }) (by kernel_rfl) rfl (fun K hK => ?_); go_simp; ((go_at_call 15; refine (secretsV _ _ NQ MQ FQ FQ _ hS9 hBL (fun _ _ _ _ => rfl) hNQ (by omega)).mono ?_; rintro e x8 ⟨rfl, d⟩; replace kk := kk.step d; replace hV9 := hV9.but d; replace hBL := hBL.but d; clear d hS9)); refine hK.out _ _ (⟨fun _ => HS _ kk, fun _ => trivial⟩) ?_; clear hK K; try simp only [Act.put, List.setIfInBounds_toArray, List.set_cons_zero, List.set_cons_succ])
    (refine Walk.take (i := 22) (oi := { dst := some 57, op := Op.pick (Operand.tmp 49) (Operand.tmp 56) (Operand.const (Value.bool false)), type := 4, pos := "law.go:111", after := #[{ on := 14, ground := Ground.data }, { on := 21, ground := Ground.data }], guard := none }) (v := ?_) rfl (by kernel_rfl) (by kernel_rfl) (by kernel_rfl) (by kernel_rfl) (fun _ _ _ h => h) (Or.inl ⟨by rfl, ?_⟩) ?_; rotate_left; (intro w hw; clear hw; (try go_split_ands); go_simp; try (with_reducible rfl)); simp only [Act.put, List.setIfInBounds_toArray, List.set_cons_zero, List.set_cons_succ])
    (refine Walk.take (i := 23) (oi := { dst := some 58, op := Op.move (Operand.tmp 57), type := 4, pos := "law.go:111", after := #[{ on := 22, ground := Ground.data }, { on := 21, ground := Ground.chain }], guard := none }) (v := ?_) rfl (by kernel_rfl) (by kernel_rfl) (by kernel_rfl) (by kernel_rfl) (fun _ _ _ h => h) (Or.inl ⟨by rfl, ?_⟩) ?_; rotate_left; (intro w hw; clear hw; (try go_split_ands); go_simp; try (with_reducible rfl)); simp only [Act.put, List.setIfInBounds_toArray, List.set_cons_zero, List.set_cons_succ])
    (refine Walk.take (i := 24) (oi := { dst := some 59, op := Op.load 23 (Operand.tmp 13), type := 23, pos := "law.go:111", after := #[{ on := 23, ground := Ground.guard }], guard := some (23, true) }) (v := ?_) rfl (by kernel_rfl) (by kernel_rfl) (by kernel_rfl) (by kernel_rfl) (fun _ _ _ h => h) (Or.inl ⟨by rfl, ?_⟩) ?_; rotate_left; (intro w hw; have hS1 := hw.1 (by kernel_rfl); clear hw; (try dsimp only at hS1); (try go_split_ands); go_simp; try (with_reducible rfl)); simp only [Act.put, List.setIfInBounds_toArray, List.set_cons_zero, List.set_cons_succ])
    (refine Walk.take (i := 25) (oi := { dst := some 60, op := Op.fieldAddr 23 (Operand.tmp 13) 0, type := 0, pos := "law.go:111", after := #[{ on := 23, ground := Ground.guard }], guard := some (23, true) }) (v := ?_) rfl (by kernel_rfl) (by kernel_rfl) (by kernel_rfl) (by kernel_rfl) (fun _ _ _ h => h) (Or.inl ⟨by rfl, ?_⟩) ?_; rotate_left; (intro w hw; clear hw; (try go_split_ands); go_simp; try (with_reducible rfl)); simp only [Act.put, List.setIfInBounds_toArray, List.set_cons_zero, List.set_cons_succ])
    (refine Walk.take (i := 26) (oi := { dst := some 61, op := Op.load 3 (Operand.tmp 60), type := 3, pos := "law.go:111", after := #[{ on := 25, ground := Ground.data }, { on := 23, ground := Ground.guard }], guard := some (23, true) }) (v := ?_) rfl (by kernel_rfl) (by kernel_rfl) (by kernel_rfl) (by kernel_rfl) (fun _ _ _ h => h) (Or.inl ⟨by rfl, ?_⟩) ?_; rotate_left; (intro w hw; have hS1 := hw.1 (by kernel_rfl); clear hw; (try dsimp only at hS1); (try go_split_ands); go_simp; try (with_reducible rfl)); simp only [Act.put, List.setIfInBounds_toArray, List.set_cons_zero, List.set_cons_succ])
    (refine Walk.take (i := 27) (oi := { dst := some 62, op := Op.fieldAddr 23 (Operand.tmp 13) 1, type := 0, pos := "law.go:111", after := #[{ on := 23, ground := Ground.guard }], guard := some (23, true) }) (v := ?_) rfl (by kernel_rfl) (by kernel_rfl) (by kernel_rfl) (by kernel_rfl) (fun _ _ _ h => h) (Or.inl ⟨by rfl, ?_⟩) ?_; rotate_left; (intro w hw; clear hw; (try go_split_ands); go_simp; try (with_reducible rfl)); simp only [Act.put, List.setIfInBounds_toArray, List.set_cons_zero, List.set_cons_succ])
    (refine Walk.take (i := 28) (oi := { dst := some 63, op := Op.load 3 (Operand.tmp 62), type := 3, pos := "law.go:111", after := #[{ on := 27, ground := Ground.data }, { on := 23, ground := Ground.guard }], guard := some (23, true) }) (v := ?_) rfl (by kernel_rfl) (by kernel_rfl) (by kernel_rfl) (by kernel_rfl) (fun _ _ _ h => h) (Or.inl ⟨by rfl, ?_⟩) ?_; rotate_left; (intro w hw; have hS1 := hw.1 (by kernel_rfl); clear hw; (try dsimp only at hS1); (try go_split_ands); go_simp; try (with_reducible rfl)); simp only [Act.put, List.setIfInBounds_toArray, List.set_cons_zero, List.set_cons_succ])
    (refine Walk.take (i := 29) (oi := { dst := some 64, op := Op.fieldAddr 26 (Operand.tmp 14) 2, type := 0, pos := "law.go:111", after := #[{ on := 23, ground := Ground.guard }], guard := some (23, true) }) (v := ?_) rfl (by kernel_rfl) (by kernel_rfl) (by kernel_rfl) (by kernel_rfl) (fun _ _ _ h => h) (Or.inl ⟨by rfl, ?_⟩) ?_; rotate_left; (intro w hw; clear hw; (try go_split_ands); go_simp; try (with_reducible rfl)); simp only [Act.put, List.setIfInBounds_toArray, List.set_cons_zero, List.set_cons_succ])
    (refine Walk.take (i := 30) (oi := { dst := some 65, op := Op.load 4 (Operand.tmp 64), type := 4, pos := "law.go:111", after := #[{ on := 29, ground := Ground.data }, { on := 23, ground := Ground.guard }], guard := some (23, true) }) (v := ?_) rfl (by kernel_rfl) (by kernel_rfl) (by kernel_rfl) (by kernel_rfl) (fun _ _ _ h => h) (Or.inl ⟨by rfl, ?_⟩) ?_; rotate_left; (intro w hw; have hS1 := hw.1 (by kernel_rfl); clear hw; (try dsimp only at hS1); (try go_split_ands); go_simp; try (with_reducible rfl)); simp only [Act.put, List.setIfInBounds_toArray, List.set_cons_zero, List.set_cons_succ])
    (refine Walk.take (i := 31) (oi := { dst := some 66, op := Op.build 26 #[(0, Operand.tmp 61), (1, Operand.tmp 63), (2, Operand.tmp 65)], type := 26, pos := "law.go:111", after := #[{ on := 26, ground := Ground.data }, { on := 28, ground := Ground.data }, { on := 30, ground := Ground.data }, { on := 23, ground := Ground.guard }], guard := some (23, true) }) (v := ?_) rfl (by kernel_rfl) (by kernel_rfl) (by kernel_rfl) (by kernel_rfl) (fun _ _ _ h => h) (Or.inl ⟨by rfl, ?_⟩) ?_; rotate_left; (intro w hw; clear hw; (try go_split_ands); go_simp; try (with_reducible rfl)); simp only [Act.put, List.setIfInBounds_toArray, List.set_cons_zero, List.set_cons_succ])
    (refine Walk.go (i := 32) (o := { dst := some 67, op := Op.call { callee := Callee.value (Operand.func 14), args := #[Operand.tmp 59, Operand.tmp 66], argTypes := #[23, 26] }, type := 30, pos := "law.go:111", after := #[{ on := 24, ground := Ground.data }, { on := 31, ground := Ground.data }, { on := 23, ground := Ground.chain }, { on := 23, ground := Ground.guard }], guard := some (23, true) }) (by kernel_rfl) rfl (fun K hK => ?_); go_simp; ((go_at_call 14; refine (HNO.out _).mono ?_; rintro e x9 ⟨rfl, d⟩; replace kk := kk.step d; replace hV9 := hV9.but d; replace hBL := hBL.but d; clear d)); refine hK.out _ _ (⟨fun _ => HS _ kk, fun _ => trivial⟩) ?_; clear hK K; try simp only [Act.put, List.setIfInBounds_toArray, List.set_cons_zero, List.set_cons_succ])
    (refine Walk.take (i := 33) (oi := { dst := some 68, op := Op.call { callee := Callee.builtin Builtin.len, args := #[Operand.tmp 67], argTypes := #[30] }, type := 3, pos := "law.go:111", after := #[{ on := 32, ground := Ground.data }, { on := 23, ground := Ground.guard }], guard := some (23, true) }) (v := ?_) rfl (by kernel_rfl) (by kernel_rfl) (by kernel_rfl) (by kernel_rfl) (fun _ _ _ h => h) (Or.inl ⟨by rfl, ?_⟩) ?_; rotate_left; (intro w hw; clear hw; (try go_split_ands); go_simp; try (with_reducible rfl)); simp only [Act.put, List.setIfInBounds_toArray, List.set_cons_zero, List.set_cons_succ])
    (refine Walk.take (i := 34) (oi := { dst := some 69, op := Op.binOp BinOp.eql 3 (Operand.tmp 68) (Operand.const (Value.int IntKind.i64 0)) 3, type := 4, pos := "law.go:111", after := #[{ on := 33, ground := Ground.data }, { on := 23, ground := Ground.guard }], guard := some (23, true) }) (v := ?_) rfl (by kernel_rfl) (by kernel_rfl) (by kernel_rfl) (by kernel_rfl) (fun _ _ _ h => h) (Or.inl ⟨by rfl, ?_⟩) ?_; rotate_left; (intro w hw; clear hw; (try go_split_ands); go_simp; try (with_reducible rfl)); simp only [Act.put, List.setIfInBounds_toArray, List.set_cons_zero, List.set_cons_succ])
    (refine Walk.take (i := 35) (oi := { dst := some 70, op := Op.pick (Operand.tmp 58) (Operand.tmp 69) (Operand.const (Value.bool false)), type := 4, pos := "law.go:111", after := #[{ on := 23, ground := Ground.data }, { on := 34, ground := Ground.data }], guard := none }) (v := ?_) rfl (by kernel_rfl) (by kernel_rfl) (by kernel_rfl) (by kernel_rfl) (fun _ _ _ h => h) (Or.inl ⟨by rfl, ?_⟩) ?_; rotate_left; (intro w hw; clear hw; (try go_split_ands); go_simp; try (with_reducible rfl)); simp only [Act.put, List.setIfInBounds_toArray, List.set_cons_zero, List.set_cons_succ])
    (refine Walk.take (i := 36) (oi := { dst := some 12, op := Op.assign (Operand.tmp 70), type := 4, pos := "law.go:111", after := #[{ on := 35, ground := Ground.data }, { on := 32, ground := Ground.chain }, { on := 0, ground := Ground.phase }, { on := 1, ground := Ground.phase }, { on := 2, ground := Ground.phase }, { on := 3, ground := Ground.phase }, { on := 4, ground := Ground.phase }, { on := 5, ground := Ground.phase }, { on := 6, ground := Ground.phase }, { on := 7, ground := Ground.phase }, { on := 8, ground := Ground.phase }, { on := 9, ground := Ground.phase }, { on := 10, ground := Ground.phase }, { on := 11, ground := Ground.phase }, { on := 12, ground := Ground.phase }, { on := 13, ground := Ground.phase }, { on := 14, ground := Ground.phase }, { on := 15, ground := Ground.phase }, { on := 16, ground := Ground.phase }, { on := 17, ground := Ground.phase }, { on := 18, ground := Ground.phase }, { on := 19, ground := Ground.phase }, { on := 20, ground := Ground.phase }, { on := 21, ground := Ground.phase }, { on := 22, ground := Ground.phase }, { on := 23, ground := Ground.phase }, { on := 24, ground := Ground.phase }, { on := 25, ground := Ground.phase }, { on := 26, ground := Ground.phase }, { on := 27, ground := Ground.phase }, { on := 28, ground := Ground.phase }, { on := 29, ground := Ground.phase }, { on := 30, ground := Ground.phase }, { on := 31, ground := Ground.phase }, { on := 32, ground := Ground.phase }, { on := 33, ground := Ground.phase }, { on := 34, ground := Ground.phase }, { on := 35, ground := Ground.phase }], guard := none }) (v := ?_) rfl (by kernel_rfl) (by kernel_rfl) (by kernel_rfl) (by kernel_rfl) (fun _ _ _ h => h) (Or.inl ⟨by rfl, ?_⟩) ?_; rotate_left; (intro w hw; clear hw; (try go_split_ands); go_simp; try (with_reducible rfl)); simp only [Act.put, List.setIfInBounds_toArray, List.set_cons_zero, List.set_cons_succ])
    refine Walk.done (by kernel_rfl) ?_ _
    go_wp2_with fail
    go_ret
    exact ⟨rfl, kk.but⟩

set_option maxRecDepth 100000 in
theorem lifted (os : Os) (started : os.Started) (H : Type) (enc : TypeId × Value → H) :
    ReturnsInHanded {} Tryd.checked os 3 .any (fun w args => (Rows.planeSplitsSpec.pre enc Tryd.prog Tryd.f3 Rows.planeSplitsRow.domain false w args ∧ laidMetH Tryd.prog Rows.planeSplitsRow.laid w) ∧ sizedMet enc Tryd.prog Tryd.f3 (OpenSpec.ofChange Rows.planeSplitsSpec) false w args) (Rows.planeSplitsSpec.post enc Tryd.prog Tryd.f3 false true false false) := by
  refine returnsInHanded_of_change_and (C := Tryd.checked) (X := fun w _ => laidMetH Tryd.prog laidL w) (fun _ _ _ hh h => h.of_heap hh) own started (by kernel_rfl) Tryd.func3
    (ChangeSpec.witness_shaped (enc := enc) (C := Tryd.checked) (os := os) (X := fun w _ => laidMetH Tryd.prog laidL w) false (World.laidAll Tryd.prog os laidL) #[.agg #[.int .i64 0, .int .i64 0, .int .i64 0, .int .i64 0, .int .i64 0, .int .i64 0], .agg #[.int .i64 0, .int .i64 0, .bool false, .slice none 0 0], .slice none 0 0, .int .u8 0, .int .u8 0, .int .u8 0] 8 (World.laidAll_os _ _ _) (World.shaped_of_ZipB (by kernel_rfl) (by kernel_rfl)) (by kernel_rfl) (by kernel_rfl) (by kernel_rfl) (by rw [MakeChecks.laidMetH_plain _ _ _ (by kernel_rfl)]; exact laidMet_laidAll _ (by kernel_rfl) (by kernel_rfl))) ?_
  intro W base args ds gs before hval0 hW hcnd hsz0 hL0 _
  have hTW := tab_of_laid hL0
  have hval : ∀ (j : Nat) t v, Tryd.f3.params[j]? = some t → args[j]? = some v → Value.okWide Tryd.prog W .any base t v := hval0
  have hsz : (DataW.weightsEach Tryd.prog (Tryd.f3.params.toList ++ Rows.planeSplitsSpec.plain.varTypes Tryd.prog) (ds ++ gs)).all (· ≤ reachBytes) = true := hsz0
  have hW' := hW
  obtain ⟨p, q, hA0, hV, rfl, hfz, hnd⟩ := hW
  have hA : DataW.TrodAll enc Tryd.prog W 0 (fun _ => true) true Tryd.f3.params.toList args.toList ds p := hA0
  rw [Tryd.params3] at hA hval hsz
  obtain ⟨v0, vs0, d0, ds0, p0, q0, hargs, rfl, rfl, h0, r0⟩ := trodAll_cons hA
  obtain ⟨v1, vs1, d1, ds1, p1, q1, rfl, rfl, rfl, h1, r1⟩ := trodAll_cons r0
  obtain ⟨v2, vs2, d2, ds2, p2, q2, rfl, rfl, rfl, h2, r2⟩ := trodAll_cons r1
  obtain ⟨v3, vs3, d3, ds3, p3, q3, rfl, rfl, rfl, h3, r3⟩ := trodAll_cons r2
  obtain ⟨v4, vs4, d4, ds4, p4, q4, rfl, rfl, rfl, h4, r4⟩ := trodAll_cons r3
  obtain ⟨v5, vs5, d5, ds5, p5, q5, rfl, rfl, rfl, h5, r5⟩ := trodAll_cons r4
  obtain ⟨rfl, rfl, rfl⟩ := trodAll_nil r5
  obtain rfl : args = #[v0, v1, v2, v3, v4, v5] := by cases args; simp_all
  obtain ⟨rfl, rfl⟩ := trodVars_none hV
  obtain ⟨p0W, p0H, p0m, p0q, p0i, p0c, rfl, x0⟩ := open_P (hval 0 23 v0 rfl rfl) h0
  obtain ⟨i1W, i1H, i1r, pv1, l1, rfl, s1, x1⟩ := open_image (hval 1 26 v1 rfl rfl) h1
  obtain ⟨l2, ⟨s2, x2⟩, e2⟩ := open_bytes (hval 2 24 v2 rfl rfl) h2
  have n2 := bytes_small hsz (j := 2) rfl rfl e2
  obtain ⟨a3, rfl, rfl, rfl, w3⟩ := open_int Tryd.underlying5 (hval 3 5 v3 rfl rfl) h3
  obtain ⟨a4, rfl, rfl, rfl, w4⟩ := open_int Tryd.underlying5 (hval 4 5 v4 rfl rfl) h4
  obtain ⟨a5, rfl, rfl, rfl, w5⟩ := open_int Tryd.underlying5 (hval 5 5 v5 rfl rfl) h5
  clear hA0 hval0
  refine (walk W hTW p0W p0H p0m p0q p0i p0c x0 i1W i1H i1r pv1 l1 s1 x1 v2 l2 s2 x2 n2 a3 w3 a4 w4 a5 w5).mono fun e W' ⟨he, hg⟩ => ?_
  subst he
  exact ⟨_, rfl, law_post laidOut readable rfl Tryd.underlying4 rfl rfl hW' hg.below⟩

theorem over : Rows.planeSplitsRow.holds Tryd.pinned (OpenSpec.ofChange Rows.planeSplitsSpec) :=
  OpenClaim.holds_of_wide 3 Tryd.f3 rfl rfl rfl rfl rfl rfl rfl ⟨rfl, rfl, rfl, rfl, rfl⟩ rfl rfl rfl rfl rfl (by kernel_rfl) Tryd.func3 (by kernel_rfl)
    (of_decide_eq_true (by kernel_rfl)) (by unfold Func.isWrapper; first | (rw [if_pos (by decide +kernel)]; kernel_rfl) | (rw [if_neg (by decide +kernel)]; exact ⟨rfl, rfl⟩))
    (fun os started H enc _ => lifted os started H enc)

end Go.Proofs.YtppbnmlgilgnnaaDoor.planeSplits
namespace Go.Proofs.YtppbnmlgilgnnaaDoor
set_option maxRecDepth 100000 in
theorem planeSplits_holds : Rows.PlaneSplitsCardSaid :=
  Claim7.holds_tied_plain_at .later [] [.data, .data] true (true, "ab5aa4f614d791b3d8cb4fdca616c939dd2ef51ee4a4484fecb3b38df204f3c9") false planeSplits.over (fun _ h => by cases h) (by kernel_rfl) (fun _ h => by cases h) planeSplits_row_tie rfl ⟨rfl, rfl⟩ (by kernel_rfl) rfl
    (fun f fn hf hfn => by
      obtain rfl : f = 3 := Option.some.inj ((show Tryd.prog.funcNamed "cyanotype/cyanotypelaw07.PlaneSplits" = some 3 by kernel_rfl).symm.trans hf) |>.symm
      obtain rfl : fn = Tryd.f3 := (Option.some.inj (Tryd.func3.symm.trans hfn)).symm
      exact ⟨by kernel_rfl, fun j t ht => by
        rw [Tryd.params3] at ht
        have hm : t ∈ [23, 26, 24, 5, 5, 5] := by simpa using Array.mem_of_getElem? ht
        have hall : ([23, 26, 24, 5, 5, 5].all fun u => !Tryd.prog.wantsStandIn u) = true := by kernel_rfl
        exact (show Tryd.prog.wantsStandIn t = false by simpa using List.all_eq_true.1 hall t hm)⟩)
    (by kernel_rfl)
#print axioms planeSplits_holds
end Go.Proofs.YtppbnmlgilgnnaaDoor
