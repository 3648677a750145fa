/- For every table, every list of bytes, all numbers class and part and every byte k, the law HuffCodes of layer 10 returns true: Check and Codes of any table, of choices, and of Standard, are what the chapter says; so is Standard. No condition. -/
import Derived.Test.YtadcfndjbhcfbaaHuSpec
import Derived.Test.YtadcfndjbhcfbaaFrame
import Derived.Test.YtadcfndjbhcfbaaRows
namespace Go.Proofs.Ytadcfndjbhcfbaa.huffCodes
open Go.ChangeShapes Go.WideShapes Go.ChangeAt Go.RowKit
set_option linter.unusedVariables false

theorem own : ownKnob Try.prog.godebug = none := by kernel_rfl
theorem laidOut : laidOutB Try.prog = true := by kernel_rfl
theorem readable : ∀ t ∈ Try.f3.params.toList, Try.prog.readableRec t = true ∧ t < Try.prog.types.size := by
  rw [Try.params3]
  simp only [List.mem_cons, List.not_mem_nil, or_false, forall_eq_or_imp, forall_eq]
  refine ⟨⟨by kernel_rfl, of_decide_eq_true (by kernel_rfl)⟩, ⟨by kernel_rfl, of_decide_eq_true (by kernel_rfl)⟩, ⟨by kernel_rfl, of_decide_eq_true (by kernel_rfl)⟩, ⟨by kernel_rfl, of_decide_eq_true (by kernel_rfl)⟩, ⟨by kernel_rfl, of_decide_eq_true (by kernel_rfl)⟩⟩

set_option maxHeartbeats 20000000 in
set_option maxRecDepth 100000 in
theorem walk (w : World) (c0 : Nat → Int) (pv0 : Value) (l0 : List Int) (i0 : ∀ j, j < 16 → I64 (c0 j)) (s0 : View w .u8 pv0 l0) (x0 : ∀ x ∈ l0, 0 ≤ x ∧ x ≤ 255) (v1 : Value) (l1 : List Int) (s1 : View w .u8 v1 l1) (x1 : ∀ x ∈ l1, 0 ≤ x ∧ x ≤ 255) (n1 : l1.length ≤ 140737488355328) (a2 : Int) (w2 : (Lit.int .i64 a2).wf = true) (a3 : Int) (w3 : (Lit.int .i64 a3).wf = true) (a4 : Int) (w4 : (Lit.int .u8 a4).wf = true) :
    Calls Try.prog 3 #[.agg (tbl c0 pv0).toArray, v1, .int .i64 a2, .int .i64 a3, .int .u8 a4] w fun e w' => e = .returned (.bool true) ∧ But Nowhere w w' := by
  have hTw : HT w := by first | exact hT | exact trivial
  have u4 := u8_in w4
  have huT := Try.underlying25
  have hiT : ∀ c pv, (Try.prog.info? 25).map (·.size) = some (tbl c pv).length := fun c pv => by rw [tbl_length]; kernel_rfl
  have HS0 : Hid (View w .u8 pv0 l0) := s0
  have HS1 : Hid (View w .u8 v1 l1) := s1
  clear s1
  obtain ⟨ao, cap, rfl⟩ := s0.slice
  clear s0
  have kk := (Keep.start w).made 25 (tbl c0 (.slice ao l0.length cap))
  have c16 := kk.head.vals
  go_enter Try.func3, Try.ntmps3
  by_cases ha : 300 < l0.length
  · have a1 : (300 : Int) < (l0.length : Int) := by omega
    go_wp2_with fail
    refine (known_any HT_but specCheck specCodes specStandard _ (HT_but _ _ hTw kk.but)).mono ?_
    rintro e x1 ⟨rfl, dd⟩
    have HX : Hid _ := kk.but.trans dd
    clear dd kk
    go_wp2_with fail
    go_ret
    exact ⟨rfl, HX.out⟩
  · have a1 : ¬ (300 : Int) < (l0.length : Int) := by omega
    go_wp2_with fail
    refine (known_any HT_but specCheck specCodes specStandard _ (HT_but _ _ hTw kk.but)).mono ?_
    rintro e x9 ⟨rfl, dd⟩
    replace kk := kk.step dd
    clear dd c16
    go_wp2_with fail
    refine (specStandard _ _ _ (HT_but _ _ hTw kk.but)).mono ?_
    rintro e x8 ⟨pvs, rfl, hvs, dd⟩
    have HW8 : Hid (But Nowhere w x8) := kk.but.trans dd
    have HB0 : Hid (Cells x8 w.heap.size 25 (tbl c0 (.slice ao l0.length cap))) := (kk.step dd).head
    have hT8 := HT_but _ _ hTw (kk.but.trans dd)
    have HV0 : Hid (View x8 .u8 (.slice ao l0.length cap) l0) := HS0.out.but HW8.out
    have HV1 : Hid (View x8 .u8 v1 l1) := HS1.out.but HW8.out
    clear dd kk HS0 HS1
    have kk := Keep.start x8
    have hI9 := stdIx_lt (a4 % 3) (a4 / 4 % 3)
    revert hI9
    revert hvs
    obtain ⟨i9, hi9⟩ : ∃ i, stdIx (a4 % 3) (a4 / 4 % 3) = i := ⟨_, rfl⟩
    rw [hi9]
    intro hvs hI9
    have HI9 : Hid (stdIx (a4 % 3) (a4 / 4 % 3) = i9 ∧ i9 < 4) := ⟨hi9, hI9⟩
    have HVS : Hid (View x8 .u8 pvs (stdL i9)) := hvs
    have HI9X : Hid (stdIx (IntKind.i64.wrap (a4.tmod 3)) (IntKind.i64.wrap ((IntKind.u8.wrap (a4.tdiv 4)).tmod 3)) = i9) := by
      rw [Int.tmod_eq_emod_of_nonneg (by omega), Int.tdiv_eq_ediv_of_nonneg (by omega), wrap_i64_eq, w64 _ (by omega), show IntKind.u8.wrap (a4 / 4) = a4 / 4 by rw [IntKind.wrap_u8]; omega, Int.tmod_eq_emod_of_nonneg (by omega), wrap_i64_eq, w64 _ (by omega)]
      exact hi9
    clear hvs hi9 hI9
    replace kk := kk.made 25 (Value.int .i64 0 :: Value.int .i64 0 :: Value.int .i64 0 :: Value.int .i64 0 :: Value.int .i64 0 :: Value.int .i64 0 :: Value.int .i64 0 :: Value.int .i64 0 :: Value.int .i64 0 :: Value.int .i64 0 :: Value.int .i64 0 :: Value.int .i64 0 :: Value.int .i64 0 :: Value.int .i64 0 :: Value.int .i64 0 :: Value.int .i64 0 :: Value.slice none 0 0 :: [])
    have hth := kk.head.there 0 (tbl (stdc i9) pvs).toArray.size (by simp [tbl_length])
    replace kk := kk.laid_any (tbl (stdc i9) pvs) (by rw [tbl_length]; rfl)
    have HX : Hid _ := kk
    clear kk
    obtain ⟨po9, n9, pc9, hpv9⟩ : ∃ a n c, pvs = .slice a n c := by obtain ⟨a, c, e, _⟩ := HVS.out; exact ⟨_, _, _, e⟩
    have hal : (tbl (stdc i9) pvs).toArray.all (·.oneCell') = true := by rw [hpv9]; exact tbl_all _ _ _ _
    have hi2 : (Try.prog.info? 25).map (·.size) = some (tbl (stdc i9) pvs).toArray.size := by rw [List.size_toArray, tbl_length]; kernel_rfl
    clear hpv9
    go_upto_region 4 with (refine wpList_store_mid rfl 25 (.tmp 11) (.tmp 28) rfl x8.heap.size 0 (tbl (stdc i9) pvs).toArray rfl rfl ?_ hi2 hal ?_; exact hth)
    have kk := HX.out
    clear HX hth hal hi2
    revert kk
    obtain ⟨SB, hSB⟩ : ∃ b, x8.heap.size = b := ⟨_, rfl⟩
    rw [hSB]
    clear hSB
    generalize (x8.alloc (.cells (Value.int .i64 0 :: Value.int .i64 0 :: Value.int .i64 0 :: Value.int .i64 0 :: Value.int .i64 0 :: Value.int .i64 0 :: Value.int .i64 0 :: Value.int .i64 0 :: Value.int .i64 0 :: Value.int .i64 0 :: Value.int .i64 0 :: Value.int .i64 0 :: Value.int .i64 0 :: Value.int .i64 0 :: Value.int .i64 0 :: Value.int .i64 0 :: Value.slice none 0 0 :: []).toArray 25)).setCells SB 0 (tbl (stdc i9) pvs) = WSB
    intro kk
    try simp only [Act.put]
    replace kk := kk.drew
    refine wp_region_till (S := fun V => V.rangeAt w.heap.size 0 (tbl c0 (.slice ao l0.length cap)) ∧ V.rangeAt SB 0 (tbl (stdc i9) pvs)) (R := fun _ => True) (k := 100) (m := 100) (by kernel_rfl) ⟨(Cells.all (Cells.but HB0.out kk.but (not_nowhere _))), (kk.get (b := SB) (t := 25) (c := tbl (stdc i9) pvs) (by simp)).all⟩ trivial ?_
    revert kk
    generalize WSB.drew = WG
    intro kk
    (refine Walk.take (i := 0) (oi := { dst := some 29, op := Op.load 25 (Operand.tmp 5), type := 25, pos := "law.go:46", after := #[], guard := none }) (v := .agg (tbl c0 (.slice ao l0.length cap)).toArray) rfl (by kernel_rfl) (by kernel_rfl) (by kernel_rfl) (by kernel_rfl) (fun _ _ _ h => h) (yieldsIf_load_mid rfl 25 (.tmp 5) rfl (w.heap.size) 0 rfl (tbl c0 (.slice ao l0.length cap)) _ (fun w hw => (hw.1 (by kernel_rfl)).1) huT rfl ((hiT _ _))) ?_; simp only [Act.put, List.setIfInBounds_toArray, List.set_cons_zero, List.set_cons_succ])
    (refine Walk.go (i := 1) (o := { dst := some 30, op := Op.call { callee := Callee.value (Operand.func 11), args := #[Operand.tmp 29], argTypes := #[25] }, type := 4, pos := "law.go:46", after := #[{ on := 0, ground := Ground.data }], guard := none }) (by kernel_rfl) rfl (fun K hK => ?_); go_simp; ((go_at_call 11; refine (codes_any HT_but specCheck specCodes c0 _ l0 i0 _ (HV0.out.but kk.but) x0 (by omega) (HT_but _ _ hT8 kk.but)).mono ?_; rintro e y1 ⟨rfl, dd⟩; replace kk := kk.step dd; clear dd)); refine hK.out _ _ (⟨fun _ => ⟨(Cells.all (Cells.but HB0.out kk.but (not_nowhere _))), (kk.get (b := SB) (t := 25) (c := tbl (stdc i9) pvs) (by simp)).all⟩, fun _ => trivial⟩) ?_; clear hK K; try simp only [Act.put, List.setIfInBounds_toArray, List.set_cons_zero, List.set_cons_succ])
    (refine Walk.take (i := 2) (oi := { dst := some 31, op := Op.move (Operand.tmp 30), type := 4, pos := "law.go:46", after := #[{ on := 1, ground := Ground.data }, { on := 1, ground := Ground.chain }], guard := none }) (v := ?_) rfl (by kernel_rfl) (by kernel_rfl) (by kernel_rfl) (by kernel_rfl) (fun _ _ _ h => h) (Or.inl ⟨by rfl, ?_⟩) ?_; rotate_left; (intro w hw; clear hw; (try go_split_ands); go_simp; try (with_reducible rfl)); simp only [Act.put, List.setIfInBounds_toArray, List.set_cons_zero, List.set_cons_succ])
    (refine Walk.take (i := 3) (oi := { dst := some 32, op := Op.move (Operand.tmp 1), type := 23, pos := "law.go:46", after := #[{ on := 2, ground := Ground.guard }], guard := some (2, true) }) (v := ?_) rfl (by kernel_rfl) (by kernel_rfl) (by kernel_rfl) (by kernel_rfl) (fun _ _ _ h => h) (Or.inl ⟨by rfl, ?_⟩) ?_; rotate_left; (intro w hw; clear hw; (try go_split_ands); go_simp; try (with_reducible rfl)); simp only [Act.put, List.setIfInBounds_toArray, List.set_cons_zero, List.set_cons_succ])
    (refine Walk.go (i := 4) (o := { dst := some 33, op := Op.call { callee := Callee.value (Operand.func 12), args := #[Operand.tmp 32], argTypes := #[23] }, type := 25, pos := "law.go:46", after := #[{ on := 3, ground := Ground.data }, { on := 2, ground := Ground.chain }, { on := 2, ground := Ground.guard }], guard := some (2, true) }) (by kernel_rfl) rfl (fun K hK => ?_); go_simp; ((go_at_call 12; refine (table_law v1 l1 _ (HV1.out.but kk.but) x1 (by omega)).mono ?_; rintro e y2 ⟨cs, pvt, xs, rfl, hvt, hbt, hit, hlt, dd⟩; have HVT : Hid (View y2 .u8 pvt xs) := hvt; clear hvt; replace kk := kk.step dd; clear dd)); refine hK.out _ _ (⟨fun _ => ⟨(Cells.all (Cells.but HB0.out kk.but (not_nowhere _))), (kk.get (b := SB) (t := 25) (c := tbl (stdc i9) pvs) (by simp)).all⟩, fun _ => trivial⟩) ?_; clear hK K; try simp only [Act.put, List.setIfInBounds_toArray, List.set_cons_zero, List.set_cons_succ])
    (refine Walk.go (i := 5) (o := { dst := some 34, op := Op.call { callee := Callee.value (Operand.func 11), args := #[Operand.tmp 33], argTypes := #[25] }, type := 4, pos := "law.go:46", after := #[{ on := 4, ground := Ground.data }, { on := 4, ground := Ground.chain }, { on := 2, ground := Ground.guard }], guard := some (2, true) }) (by kernel_rfl) rfl (fun K hK => ?_); go_simp; ((go_at_call 11; refine (codes_any HT_but specCheck specCodes cs pvt xs hit _ HVT.out hbt (by omega) (HT_but _ _ hT8 kk.but)).mono ?_; rintro e y3 ⟨rfl, dd⟩; replace kk := kk.step dd; clear dd)); refine hK.out _ _ (⟨fun _ => ⟨(Cells.all (Cells.but HB0.out kk.but (not_nowhere _))), (kk.get (b := SB) (t := 25) (c := tbl (stdc i9) pvs) (by simp)).all⟩, fun _ => trivial⟩) ?_; clear hK K; try simp only [Act.put, List.setIfInBounds_toArray, List.set_cons_zero, List.set_cons_succ])
    (refine Walk.take (i := 6) (oi := { dst := some 35, op := Op.pick (Operand.tmp 31) (Operand.tmp 34) (Operand.const (Value.bool false)), type := 4, pos := "law.go:46", after := #[{ on := 2, ground := Ground.data }, { on := 5, ground := Ground.data }], guard := none }) (v := ?_) rfl (by kernel_rfl) (by kernel_rfl) (by kernel_rfl) (by kernel_rfl) (fun _ _ _ h => h) (Or.inl ⟨by rfl, ?_⟩) ?_; rotate_left; (intro w hw; clear hw; (try go_split_ands); go_simp; try (with_reducible rfl)); simp only [Act.put, List.setIfInBounds_toArray, List.set_cons_zero, List.set_cons_succ])
    (refine Walk.take (i := 7) (oi := { dst := some 36, op := Op.move (Operand.tmp 35), type := 4, pos := "law.go:46", after := #[{ on := 6, ground := Ground.data }, { on := 5, ground := Ground.chain }], guard := none }) (v := ?_) rfl (by kernel_rfl) (by kernel_rfl) (by kernel_rfl) (by kernel_rfl) (fun _ _ _ h => h) (Or.inl ⟨by rfl, ?_⟩) ?_; rotate_left; (intro w hw; clear hw; (try go_split_ands); go_simp; try (with_reducible rfl)); simp only [Act.put, List.setIfInBounds_toArray, List.set_cons_zero, List.set_cons_succ])
    (refine Walk.take (i := 8) (oi := { dst := some 37, op := Op.load 25 (Operand.tmp 11), type := 25, pos := "law.go:46", after := #[{ on := 7, ground := Ground.guard }], guard := some (7, true) }) (v := .agg (tbl (stdc i9) pvs).toArray) rfl (by kernel_rfl) (by kernel_rfl) (by kernel_rfl) (by kernel_rfl) (fun _ _ _ h => h) (yieldsIf_load_mid rfl 25 (.tmp 11) rfl (SB) 0 rfl (tbl (stdc i9) pvs) _ (fun w hw => (hw.1 (by kernel_rfl)).2) huT rfl ((hiT _ _))) ?_; simp only [Act.put, List.setIfInBounds_toArray, List.set_cons_zero, List.set_cons_succ])
    (refine Walk.go (i := 9) (o := { dst := some 38, op := Op.call { callee := Callee.value (Operand.func 11), args := #[Operand.tmp 37], argTypes := #[25] }, type := 4, pos := "law.go:46", after := #[{ on := 8, ground := Ground.data }, { on := 7, ground := Ground.chain }, { on := 7, ground := Ground.guard }], guard := some (7, true) }) (by kernel_rfl) rfl (fun K hK => ?_); go_simp; ((go_at_call 11; refine (codes_any HT_but specCheck specCodes (stdc i9) pvs (stdL i9) (stdc_i64 i9 HI9.out.2) _ (HVS.out.but kk.but) (std_byte i9 HI9.out.2) (by have := (stdL_length i9 HI9.out.2).1; omega) (HT_but _ _ hT8 kk.but)).mono ?_; rintro e y4 ⟨rfl, dd⟩; replace kk := kk.step dd; clear dd)); refine hK.out _ _ (⟨fun _ => ⟨(Cells.all (Cells.but HB0.out kk.but (not_nowhere _))), (kk.get (b := SB) (t := 25) (c := tbl (stdc i9) pvs) (by simp)).all⟩, fun _ => trivial⟩) ?_; clear hK K; try simp only [Act.put, List.setIfInBounds_toArray, List.set_cons_zero, List.set_cons_succ])
    (refine Walk.take (i := 10) (oi := { dst := some 39, op := Op.pick (Operand.tmp 36) (Operand.tmp 38) (Operand.const (Value.bool false)), type := 4, pos := "law.go:46", after := #[{ on := 7, ground := Ground.data }, { on := 9, ground := Ground.data }], guard := none }) (v := ?_) rfl (by kernel_rfl) (by kernel_rfl) (by kernel_rfl) (by kernel_rfl) (fun _ _ _ h => h) (Or.inl ⟨by rfl, ?_⟩) ?_; rotate_left; (intro w hw; clear hw; (try go_split_ands); go_simp; try (with_reducible rfl)); simp only [Act.put, List.setIfInBounds_toArray, List.set_cons_zero, List.set_cons_succ])
    (refine Walk.take (i := 11) (oi := { dst := some 40, op := Op.move (Operand.tmp 39), type := 4, pos := "law.go:46", after := #[{ on := 10, ground := Ground.data }, { on := 9, ground := Ground.chain }], guard := none }) (v := ?_) rfl (by kernel_rfl) (by kernel_rfl) (by kernel_rfl) (by kernel_rfl) (fun _ _ _ h => h) (Or.inl ⟨by rfl, ?_⟩) ?_; rotate_left; (intro w hw; clear hw; (try go_split_ands); go_simp; try (with_reducible rfl)); simp only [Act.put, List.setIfInBounds_toArray, List.set_cons_zero, List.set_cons_succ])
    (refine Walk.take (i := 12) (oi := { dst := some 41, op := Op.load 25 (Operand.tmp 11), type := 25, pos := "law.go:46", after := #[{ on := 11, ground := Ground.guard }], guard := some (11, true) }) (v := .agg (tbl (stdc i9) pvs).toArray) rfl (by kernel_rfl) (by kernel_rfl) (by kernel_rfl) (by kernel_rfl) (fun _ _ _ h => h) (yieldsIf_load_mid rfl 25 (.tmp 11) rfl (SB) 0 rfl (tbl (stdc i9) pvs) _ (fun w hw => (hw.1 (by kernel_rfl)).2) huT rfl ((hiT _ _))) ?_; simp only [Act.put, List.setIfInBounds_toArray, List.set_cons_zero, List.set_cons_succ])
    (refine Walk.take (i := 13) (oi := { dst := some 42, op := Op.move (Operand.tmp 4), type := 5, pos := "law.go:46", after := #[{ on := 11, ground := Ground.guard }], guard := some (11, true) }) (v := ?_) rfl (by kernel_rfl) (by kernel_rfl) (by kernel_rfl) (by kernel_rfl) (fun _ _ _ h => h) (Or.inl ⟨by rfl, ?_⟩) ?_; rotate_left; (intro w hw; clear hw; (try go_split_ands); go_simp; try (with_reducible rfl)); simp only [Act.put, List.setIfInBounds_toArray, List.set_cons_zero, List.set_cons_succ])
    (refine Walk.take (i := 14) (oi := { dst := some 43, op := Op.binOp BinOp.rem 5 (Operand.tmp 42) (Operand.const (Value.int IntKind.u8 3)) 5, type := 5, pos := "law.go:46", after := #[{ on := 13, ground := Ground.data }, { on := 11, ground := Ground.guard }], guard := some (11, true) }) (v := ?_) rfl (by kernel_rfl) (by kernel_rfl) (by kernel_rfl) (by kernel_rfl) (fun _ _ _ h => h) (Or.inl ⟨by rfl, ?_⟩) ?_; rotate_left; (intro w hw; clear hw; (try go_split_ands); go_simp; try (with_reducible rfl)); simp only [Act.put, List.setIfInBounds_toArray, List.set_cons_zero, List.set_cons_succ])
    (refine Walk.take (i := 15) (oi := { dst := some 44, op := Op.convert 5 3 (Operand.tmp 43), type := 3, pos := "law.go:46", after := #[{ on := 14, ground := Ground.data }, { on := 11, ground := Ground.guard }], guard := some (11, true) }) (v := ?_) rfl (by kernel_rfl) (by kernel_rfl) (by kernel_rfl) (by kernel_rfl) (fun _ _ _ h => h) (Or.inl ⟨by rfl, ?_⟩) ?_; rotate_left; (intro w hw; clear hw; (try go_split_ands); go_simp; try (with_reducible rfl)); simp only [Act.put, List.setIfInBounds_toArray, List.set_cons_zero, List.set_cons_succ])
    (refine Walk.take (i := 16) (oi := { dst := some 45, op := Op.move (Operand.tmp 4), type := 5, pos := "law.go:46", after := #[{ on := 11, ground := Ground.guard }], guard := some (11, true) }) (v := ?_) rfl (by kernel_rfl) (by kernel_rfl) (by kernel_rfl) (by kernel_rfl) (fun _ _ _ h => h) (Or.inl ⟨by rfl, ?_⟩) ?_; rotate_left; (intro w hw; clear hw; (try go_split_ands); go_simp; try (with_reducible rfl)); simp only [Act.put, List.setIfInBounds_toArray, List.set_cons_zero, List.set_cons_succ])
    (refine Walk.take (i := 17) (oi := { dst := some 46, op := Op.binOp BinOp.quo 5 (Operand.tmp 45) (Operand.const (Value.int IntKind.u8 4)) 5, type := 5, pos := "law.go:46", after := #[{ on := 16, ground := Ground.data }, { on := 11, ground := Ground.guard }], guard := some (11, true) }) (v := ?_) rfl (by kernel_rfl) (by kernel_rfl) (by kernel_rfl) (by kernel_rfl) (fun _ _ _ h => h) (Or.inl ⟨by rfl, ?_⟩) ?_; rotate_left; (intro w hw; clear hw; (try go_split_ands); go_simp; try (with_reducible rfl)); simp only [Act.put, List.setIfInBounds_toArray, List.set_cons_zero, List.set_cons_succ])
    (refine Walk.take (i := 18) (oi := { dst := some 47, op := Op.binOp BinOp.rem 5 (Operand.tmp 46) (Operand.const (Value.int IntKind.u8 3)) 5, type := 5, pos := "law.go:46", after := #[{ on := 17, ground := Ground.data }, { on := 11, ground := Ground.guard }], guard := some (11, true) }) (v := ?_) rfl (by kernel_rfl) (by kernel_rfl) (by kernel_rfl) (by kernel_rfl) (fun _ _ _ h => h) (Or.inl ⟨by rfl, ?_⟩) ?_; rotate_left; (intro w hw; clear hw; (try go_split_ands); go_simp; try (with_reducible rfl)); simp only [Act.put, List.setIfInBounds_toArray, List.set_cons_zero, List.set_cons_succ])
    (refine Walk.take (i := 19) (oi := { dst := some 48, op := Op.convert 5 3 (Operand.tmp 47), type := 3, pos := "law.go:46", after := #[{ on := 18, ground := Ground.data }, { on := 11, ground := Ground.guard }], guard := some (11, true) }) (v := ?_) rfl (by kernel_rfl) (by kernel_rfl) (by kernel_rfl) (by kernel_rfl) (fun _ _ _ h => h) (Or.inl ⟨by rfl, ?_⟩) ?_; rotate_left; (intro w hw; clear hw; (try go_split_ands); go_simp; try (with_reducible rfl)); simp only [Act.put, List.setIfInBounds_toArray, List.set_cons_zero, List.set_cons_succ])
    (refine Walk.go (i := 20) (o := { dst := some 49, op := Op.call { callee := Callee.value (Operand.func 14), args := #[Operand.tmp 44, Operand.tmp 48], argTypes := #[3, 3] }, type := 25, pos := "law.go:46", after := #[{ on := 15, ground := Ground.data }, { on := 19, ground := Ground.data }, { on := 11, ground := Ground.chain }, { on := 11, ground := Ground.guard }], guard := some (11, true) }) (by kernel_rfl) rfl (fun K hK => ?_); go_simp; ((go_at_call 14; refine (refStandard_any _ _ _).mono ?_; rintro e y5 ⟨g5, rfl, k5⟩; rw [HI9X.out] at k5 ⊢; have HV5 := std_view i9 HI9.out.2 k5.head; replace kk := kk.step k5.but; clear k5)); refine hK.out _ _ (⟨fun _ => ⟨(Cells.all (Cells.but HB0.out kk.but (not_nowhere _))), (kk.get (b := SB) (t := 25) (c := tbl (stdc i9) pvs) (by simp)).all⟩, fun _ => trivial⟩) ?_; clear hK K; try simp only [Act.put, List.setIfInBounds_toArray, List.set_cons_zero, List.set_cons_succ])
    (refine Walk.go (i := 21) (o := { dst := some 50, op := Op.call { callee := Callee.value (Operand.func 13), args := #[Operand.tmp 41, Operand.tmp 49], argTypes := #[25, 25] }, type := 4, pos := "law.go:46", after := #[{ on := 12, ground := Ground.data }, { on := 20, ground := Ground.data }, { on := 20, ground := Ground.chain }, { on := 11, ground := Ground.guard }], guard := some (11, true) }) (by kernel_rfl) rfl (fun K hK => ?_); go_simp; ((go_at_call 13; refine (refSame_yes (stdc i9) _ _ (stdL i9) (stdL_length i9 HI9.out.2).2 _ (HVS.out.but kk.but) HV5).mono ?_; rintro e y6 ⟨rfl, dd⟩; replace kk := kk.step dd; clear dd)); refine hK.out _ _ (⟨fun _ => ⟨(Cells.all (Cells.but HB0.out kk.but (not_nowhere _))), (kk.get (b := SB) (t := 25) (c := tbl (stdc i9) pvs) (by simp)).all⟩, fun _ => trivial⟩) ?_; clear hK K; try simp only [Act.put, List.setIfInBounds_toArray, List.set_cons_zero, List.set_cons_succ])
    (refine Walk.take (i := 22) (oi := { dst := some 51, op := Op.pick (Operand.tmp 40) (Operand.tmp 50) (Operand.const (Value.bool false)), type := 4, pos := "law.go:46", after := #[{ on := 11, ground := Ground.data }, { on := 21, ground := Ground.data }], guard := none }) (v := ?_) rfl (by kernel_rfl) (by kernel_rfl) (by kernel_rfl) (by kernel_rfl) (fun _ _ _ h => h) (Or.inl ⟨by rfl, ?_⟩) ?_; rotate_left; (intro w hw; clear hw; (try go_split_ands); go_simp; try (with_reducible rfl)); simp only [Act.put, List.setIfInBounds_toArray, List.set_cons_zero, List.set_cons_succ])
    (refine Walk.take (i := 23) (oi := { dst := some 52, op := Op.move (Operand.tmp 51), type := 4, pos := "law.go:46", after := #[{ on := 22, ground := Ground.data }, { on := 21, ground := Ground.chain }], guard := none }) (v := ?_) rfl (by kernel_rfl) (by kernel_rfl) (by kernel_rfl) (by kernel_rfl) (fun _ _ _ h => h) (Or.inl ⟨by rfl, ?_⟩) ?_; rotate_left; (intro w hw; clear hw; (try go_split_ands); go_simp; try (with_reducible rfl)); simp only [Act.put, List.setIfInBounds_toArray, List.set_cons_zero, List.set_cons_succ])
    (refine Walk.take (i := 24) (oi := { dst := some 53, op := Op.move (Operand.tmp 2), type := 3, pos := "law.go:46", after := #[{ on := 23, ground := Ground.guard }], guard := some (23, true) }) (v := ?_) rfl (by kernel_rfl) (by kernel_rfl) (by kernel_rfl) (by kernel_rfl) (fun _ _ _ h => h) (Or.inl ⟨by rfl, ?_⟩) ?_; rotate_left; (intro w hw; clear hw; (try go_split_ands); go_simp; try (with_reducible rfl)); simp only [Act.put, List.setIfInBounds_toArray, List.set_cons_zero, List.set_cons_succ])
    (refine Walk.take (i := 25) (oi := { dst := some 54, op := Op.move (Operand.tmp 3), type := 3, pos := "law.go:46", after := #[{ on := 23, ground := Ground.guard }], guard := some (23, true) }) (v := ?_) rfl (by kernel_rfl) (by kernel_rfl) (by kernel_rfl) (by kernel_rfl) (fun _ _ _ h => h) (Or.inl ⟨by rfl, ?_⟩) ?_; rotate_left; (intro w hw; clear hw; (try go_split_ands); go_simp; try (with_reducible rfl)); simp only [Act.put, List.setIfInBounds_toArray, List.set_cons_zero, List.set_cons_succ])
    (refine Walk.take (i := 27) (oi := { dst := some 56, op := Op.move (Operand.tmp 2), type := 3, pos := "law.go:46", after := #[{ on := 23, ground := Ground.guard }], guard := some (23, true) }) (v := ?_) rfl (by kernel_rfl) (by kernel_rfl) (by kernel_rfl) (by kernel_rfl) (fun _ _ _ h => h) (Or.inl ⟨by rfl, ?_⟩) ?_; rotate_left; (intro w hw; clear hw; (try go_split_ands); go_simp; try (with_reducible rfl)); simp only [Act.put, List.setIfInBounds_toArray, List.set_cons_zero, List.set_cons_succ])
    (refine Walk.take (i := 28) (oi := { dst := some 57, op := Op.move (Operand.tmp 3), type := 3, pos := "law.go:46", after := #[{ on := 23, ground := Ground.guard }], guard := some (23, true) }) (v := ?_) rfl (by kernel_rfl) (by kernel_rfl) (by kernel_rfl) (by kernel_rfl) (fun _ _ _ h => h) (Or.inl ⟨by rfl, ?_⟩) ?_; rotate_left; (intro w hw; clear hw; (try go_split_ands); go_simp; try (with_reducible rfl)); simp only [Act.put, List.setIfInBounds_toArray, List.set_cons_zero, List.set_cons_succ])
    (refine Walk.go (i := 26) (o := { dst := some 55, op := Op.call { callee := Callee.value (Operand.func 10), args := #[Operand.tmp 53, Operand.tmp 54], argTypes := #[3, 3] }, type := 25, pos := "law.go:46", after := #[{ on := 24, ground := Ground.data }, { on := 25, ground := Ground.data }, { on := 23, ground := Ground.chain }, { on := 23, ground := Ground.guard }], guard := some (23, true) }) (by kernel_rfl) rfl (fun K hK => ?_); go_simp; ((go_at_call 10; refine (specStandard a2 a3 _ (HT_but _ _ hT8 kk.but)).mono ?_; rintro e y7 ⟨pv7, rfl, hv7, dd⟩; have HV7 : Hid (View y7 .u8 pv7 (stdL (stdIx a2 a3))) := hv7; clear hv7; replace kk := kk.step dd; clear dd)); refine hK.out _ _ (⟨fun _ => ⟨(Cells.all (Cells.but HB0.out kk.but (not_nowhere _))), (kk.get (b := SB) (t := 25) (c := tbl (stdc i9) pvs) (by simp)).all⟩, fun _ => trivial⟩) ?_; clear hK K; try simp only [Act.put, List.setIfInBounds_toArray, List.set_cons_zero, List.set_cons_succ])
    (refine Walk.go (i := 29) (o := { dst := some 58, op := Op.call { callee := Callee.value (Operand.func 14), args := #[Operand.tmp 56, Operand.tmp 57], argTypes := #[3, 3] }, type := 25, pos := "law.go:46", after := #[{ on := 27, ground := Ground.data }, { on := 28, ground := Ground.data }, { on := 26, ground := Ground.chain }, { on := 23, ground := Ground.guard }], guard := some (23, true) }) (by kernel_rfl) rfl (fun K hK => ?_); go_simp; ((go_at_call 14; refine (refStandard_any _ _ _).mono ?_; rintro e y8 ⟨g8, rfl, k8⟩; have HV8 := std_view _ (stdIx_lt a2 a3) k8.head; have HV78 := HV7.out.but k8.but; replace kk := kk.step k8.but; clear k8)); refine hK.out _ _ (⟨fun _ => ⟨(Cells.all (Cells.but HB0.out kk.but (not_nowhere _))), (kk.get (b := SB) (t := 25) (c := tbl (stdc i9) pvs) (by simp)).all⟩, fun _ => trivial⟩) ?_; clear hK K; try simp only [Act.put, List.setIfInBounds_toArray, List.set_cons_zero, List.set_cons_succ])
    (refine Walk.go (i := 30) (o := { dst := some 59, op := Op.call { callee := Callee.value (Operand.func 13), args := #[Operand.tmp 55, Operand.tmp 58], argTypes := #[25, 25] }, type := 4, pos := "law.go:46", after := #[{ on := 26, ground := Ground.data }, { on := 29, ground := Ground.data }, { on := 29, ground := Ground.chain }, { on := 23, ground := Ground.guard }], guard := some (23, true) }) (by kernel_rfl) rfl (fun K hK => ?_); go_simp; ((go_at_call 13; refine (refSame_yes _ _ _ (stdL (stdIx a2 a3)) (stdL_length _ (stdIx_lt a2 a3)).2 _ HV78 HV8).mono ?_; rintro e y9 ⟨rfl, dd⟩; replace kk := kk.step dd; clear dd)); refine hK.out _ _ (⟨fun _ => ⟨(Cells.all (Cells.but HB0.out kk.but (not_nowhere _))), (kk.get (b := SB) (t := 25) (c := tbl (stdc i9) pvs) (by simp)).all⟩, fun _ => trivial⟩) ?_; clear hK K; try simp only [Act.put, List.setIfInBounds_toArray, List.set_cons_zero, List.set_cons_succ])
    (refine Walk.take (i := 31) (oi := { dst := some 60, op := Op.pick (Operand.tmp 52) (Operand.tmp 59) (Operand.const (Value.bool false)), type := 4, pos := "law.go:46", after := #[{ on := 23, ground := Ground.data }, { on := 30, ground := Ground.data }], guard := none }) (v := ?_) rfl (by kernel_rfl) (by kernel_rfl) (by kernel_rfl) (by kernel_rfl) (fun _ _ _ h => h) (Or.inl ⟨by rfl, ?_⟩) ?_; rotate_left; (intro w hw; clear hw; (try go_split_ands); go_simp; try (with_reducible rfl)); simp only [Act.put, List.setIfInBounds_toArray, List.set_cons_zero, List.set_cons_succ])
    (refine Walk.take (i := 32) (oi := { dst := some 10, op := Op.assign (Operand.tmp 60), type := 4, pos := "law.go:46", after := #[{ on := 31, ground := Ground.data }, { on := 30, ground := Ground.chain }, { on := 0, ground := Ground.phase }, { on := 1, ground := Ground.phase }, { on := 2, ground := Ground.phase }, { on := 3, ground := Ground.phase }, { on := 4, ground := Ground.phase }, { on := 5, ground := Ground.phase }, { on := 6, ground := Ground.phase }, { on := 7, ground := Ground.phase }, { on := 8, ground := Ground.phase }, { on := 9, ground := Ground.phase }, { on := 10, ground := Ground.phase }, { on := 11, ground := Ground.phase }, { on := 12, ground := Ground.phase }, { on := 13, ground := Ground.phase }, { on := 14, ground := Ground.phase }, { on := 15, ground := Ground.phase }, { on := 16, ground := Ground.phase }, { on := 17, ground := Ground.phase }, { on := 18, ground := Ground.phase }, { on := 19, ground := Ground.phase }, { on := 20, ground := Ground.phase }, { on := 21, ground := Ground.phase }, { on := 22, ground := Ground.phase }, { on := 23, ground := Ground.phase }, { on := 24, ground := Ground.phase }, { on := 25, ground := Ground.phase }, { on := 26, ground := Ground.phase }, { on := 27, ground := Ground.phase }, { on := 28, ground := Ground.phase }, { on := 29, ground := Ground.phase }, { on := 30, ground := Ground.phase }, { on := 31, ground := Ground.phase }], guard := none }) (v := ?_) rfl (by kernel_rfl) (by kernel_rfl) (by kernel_rfl) (by kernel_rfl) (fun _ _ _ h => h) (Or.inl ⟨by rfl, ?_⟩) ?_; rotate_left; (intro w hw; clear hw; (try go_split_ands); go_simp; try (with_reducible rfl)); simp only [Act.put, List.setIfInBounds_toArray, List.set_cons_zero, List.set_cons_succ])
    refine Walk.done (by kernel_rfl) ?_ _
    go_wp2_with fail
    go_ret
    exact ⟨rfl, HW8.out.trans kk.but⟩

set_option maxRecDepth 100000 in
theorem lifted (os : Os) (started : os.Started) (H : Type) (enc : TypeId × Value → H) :
    ReturnsInHanded {} Try.checked os 3 .any (Rows.huffCodesSpec.pre6 enc Try.prog Try.f3 Rows.huffCodesRow.domain false) (Rows.huffCodesSpec.post enc Try.prog Try.f3 false true false false) := by
  refine returnsInHanded_of_change_sized (C := Try.checked) own started (by kernel_rfl) Try.func3
    (ChangeSpec.witness6 (enc := enc) (C := Try.checked) false ⟨#[], #[.agg #[.int .i64 0, .int .i64 0, .int .i64 0, .int .i64 0, .int .i64 0, .int .i64 0, .int .i64 0, .int .i64 0, .int .i64 0, .int .i64 0, .int .i64 0, .int .i64 0, .int .i64 0, .int .i64 0, .int .i64 0, .int .i64 0, .slice none 0 0], .slice none 0 0, .int .i64 0, .int .i64 0, .int .u8 0], []⟩ 8 (by kernel_rfl) (by kernel_rfl) (by kernel_rfl) (by kernel_rfl)) ?_
  intro W base args ds gs before hval0 hW hcnd hsz0 _
  have hval : ∀ (j : Nat) t v, Try.f3.params[j]? = some t → args[j]? = some v → Value.okWide Try.prog W .any base t v := hval0
  have hsz : (DataW.weightsEach Try.prog (Try.f3.params.toList ++ Rows.huffCodesSpec.plain.varTypes Try.prog) (ds ++ gs)).all (· ≤ reachBytes) = true := hsz0
  have hW' := hW
  obtain ⟨p, q, hA0, hV, rfl, hfz, hnd⟩ := hW
  have hA : DataW.TrodAll enc Try.prog W 0 (fun _ => true) true Try.f3.params.toList args.toList ds p := hA0
  rw [Try.params3] at hA hval hsz
  obtain ⟨v0, vs0, d0, ds0, p0, q0, hargs, rfl, rfl, h0, r0⟩ := trodAll_cons hA
  obtain ⟨v1, vs1, d1, ds1, p1, q1, rfl, rfl, rfl, h1, r1⟩ := trodAll_cons r0
  obtain ⟨v2, vs2, d2, ds2, p2, q2, rfl, rfl, rfl, h2, r2⟩ := trodAll_cons r1
  obtain ⟨v3, vs3, d3, ds3, p3, q3, rfl, rfl, rfl, h3, r3⟩ := trodAll_cons r2
  obtain ⟨v4, vs4, d4, ds4, p4, q4, rfl, rfl, rfl, h4, r4⟩ := trodAll_cons r3
  obtain ⟨rfl, rfl, rfl⟩ := trodAll_nil r4
  obtain rfl : args = #[v0, v1, v2, v3, v4] := by cases args; simp_all
  obtain ⟨rfl, rfl⟩ := trodVars_none hV
  obtain ⟨c0, pv0, l0, rfl, i0, s0, x0⟩ := open_table (hval 0 25 v0 rfl rfl) h0
  obtain ⟨l1, ⟨s1, x1⟩, e1⟩ := open_bytes (hval 1 23 v1 rfl rfl) h1
  have n1 := bytes_small hsz (j := 1) rfl rfl e1
  obtain ⟨a2, rfl, rfl, rfl, w2⟩ := open_int Try.underlying3 (hval 2 3 v2 rfl rfl) h2
  obtain ⟨a3, rfl, rfl, rfl, w3⟩ := open_int Try.underlying3 (hval 3 3 v3 rfl rfl) h3
  obtain ⟨a4, rfl, rfl, rfl, w4⟩ := open_int Try.underlying5 (hval 4 5 v4 rfl rfl) h4
  clear hA0 hval0
  refine (walk W c0 pv0 l0 i0 s0 x0 v1 l1 s1 x1 n1 a2 w2 a3 w3 a4 w4).mono fun e W' ⟨he, hg⟩ => ?_
  subst he
  exact ⟨_, rfl, law_post laidOut readable rfl Try.underlying4 rfl rfl hW' hg.below⟩

theorem over : Rows.huffCodesRow.holds Try.pinned (OpenSpec.ofChange Rows.huffCodesSpec) :=
  OpenClaim.holds_of_wide 3 Try.f3 rfl rfl rfl rfl rfl rfl rfl ⟨rfl, rfl, rfl, rfl, rfl⟩ rfl rfl rfl rfl rfl (by kernel_rfl) Try.func3 (by kernel_rfl)
    (of_decide_eq_true (by kernel_rfl)) (by unfold Func.isWrapper; first | (rw [if_pos (by decide +kernel)]; kernel_rfl) | (rw [if_neg (by decide +kernel)]; exact ⟨rfl, rfl⟩))
    (fun os started H enc _ => lifted os started H enc)

theorem proved : Rows.HuffCodesSaid :=
  over
end Go.Proofs.Ytadcfndjbhcfbaa.huffCodes
namespace Go.Proofs.Ytadcfndjbhcfbaa
theorem huffCodes_holds : Rows.HuffCodesSaid := huffCodes.proved
#print axioms huffCodes_holds
end Go.Proofs.Ytadcfndjbhcfbaa
