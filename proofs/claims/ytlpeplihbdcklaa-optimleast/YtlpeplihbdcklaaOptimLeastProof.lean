/- For all lists of bytes c and d and every byte k the law OptimLeast of layer 11 returns true: with no size above 15 the table has no more bits than its sizes tell, and less than sixteen more than any other table that may be -/
import Derived.Test.YtlpeplihbdcklaaMgL
import Derived.Test.YtlpeplihbdcklaaFrame
import Derived.Test.YtlpeplihbdcklaaRows
namespace Go.Proofs.Ytlpeplihbdcklaa.optimLeast
open Go.ChangeShapes Go.WideShapes Go.ChangeAt Go.RowKit
set_option linter.unusedVariables false

theorem own : ownKnob Try.prog.godebug = none := by kernel_rfl
theorem laidOut : laidOutB Try.prog = true := by kernel_rfl
theorem readable : ∀ t ∈ Try.f5.params.toList, Try.prog.readableRec t = true ∧ t < Try.prog.types.size := by
  rw [Try.params5]
  simp only [List.mem_cons, List.not_mem_nil, or_false, forall_eq_or_imp, forall_eq]
  refine ⟨⟨by kernel_rfl, of_decide_eq_true (by kernel_rfl)⟩, ⟨by kernel_rfl, of_decide_eq_true (by kernel_rfl)⟩, ⟨by kernel_rfl, of_decide_eq_true (by kernel_rfl)⟩⟩

set_option maxHeartbeats 20000000 in
set_option maxRecDepth 100000 in
theorem walk (w : World) (v0 : Value) (l0 : List Int) (s0 : View w .u8 v0 l0) (x0 : ∀ x ∈ l0, 0 ≤ x ∧ x ≤ 255) (n0 : l0.length ≤ 140737488355328) (v1 : Value) (l1 : List Int) (s1 : View w .u8 v1 l1) (x1 : ∀ x ∈ l1, 0 ≤ x ∧ x ≤ 255) (n1 : l1.length ≤ 140737488355328) (a2 : Int) (w2 : (Lit.int .u8 a2).wf = true) :
    Calls Try.prog 5 #[v0, v1, .int .u8 a2] w fun e w' => e = .returned (.bool true) ∧ But Nowhere w w' := by
  have u2 := u8_in w2
  have huT := Try.underlying30
  have hzT := zeroTbl
  have HS1 : Hid (View w .u8 v1 l1) := s1
  clear s1
  go_enter Try.func5, Try.ntmps5
  go_upto_region 2 with (go_at_call 10; refine (often_any v0 l0 a2 u2 _ s0 x0 n0).mono ?_; rintro e y1 ⟨ao, cap, m, rfl, hv, hcap, hm, hall, hb⟩; have hI : ∀ x ∈ m, I64 x := fun x hx => (by have := hall x hx; unfold I64; omega); have hml : m.length ≤ 140737488355328 := (by omega))
  go_upto_region 3 with (go_at_call 15; refine (sizes_any ao cap m hI hml hcap _ hv).mono ?_; rintro e y2 ⟨g, c', rfl, hz, d⟩; replace hv := hv.but d; replace hb := hb.trans d; clear d)
  obtain ⟨ao', cap', e, h'⟩ := hz
  cases e
  obtain ⟨bb, off, eo, hlg, hcell⟩ := h' (by simp)
  cases eo
  have HG : Hid (∀ i, i < 256 → y2.cell? ⟨g, i, none⟩ = some (.int .i64 ((szF (wtF m) i : Nat) : Int))) := fun i hi => by
    have := hcell i (by simp; omega)
    rw [Nat.zero_add] at this
    rw [this]
    simp
  have HE : Hid (View y2 .i64 (.slice ao m.length cap) m ∧ But Nowhere w y2) := ⟨hv, hb⟩
  clear h' hcell hv hb
  go_upto_region 5 with fail
  go_loopw [9, 10] (fun n j V => ∃ i : Nat, i ≤ 256 ∧ j = .int .i64 i ∧ n = .int .i64 (sm (fun v => (szF (wtF m) v : Int) * wtF m v) i) ∧ (∀ v, v < i → szF (wtF m) v ≤ 15) ∧ But Nowhere y2 V) (fun _ j _ => 256 - (intOf j).toNat)
  case atStart => exact ⟨0, Nat.zero_le _, rfl, rfl, fun v hv => by omega, But.refl _ _⟩
  case round =>
    obtain ⟨i, hi, rfl, rfl, hs, hc⟩ := hrel
    by_cases hlt : i < 256
    · have i0 : (0 : Int) ≤ (i : Int) := by omega
      have i1 : (i : Int) < 256 := by omega
      have c0 := (hc.cell hlg (not_nowhere _)).trans (HG.out i hlt)
      have hl0 : g < wr.heap.size := Nat.lt_of_lt_of_le hlg hc.size
      have HST : Hid (((szF (wtF m) i : Nat) : Int) ≤ 15 → ∀ v, v < i + 1 → szF (wtF m) v ≤ 15) := fun hx v hv => by
        by_cases e : v = i
        · subst e; omega
        · exact hs v (by omega)
      have hsb := sum_bd m i hs
      have hwb := wtF_bd m i
      have hx0 : (0 : Int) ≤ ((szF (wtF m) i : Nat) : Int) := by omega
      have hsm : Hid (sm (fun v => (szF (wtF m) v : Int) * wtF m v) (i + 1) = sm (fun v => (szF (wtF m) v : Int) * wtF m v) i + ((szF (wtF m) i : Nat) : Int) * wtF m i) := rfl
      have hae : Hid (m.getD i 0 = wtF m i) := getD_wt hall (by omega)
      have hv := HE.out.1.but hc
      revert c0 HST hx0 hsm hwb hsb hae
      generalize sm (fun v => (szF (wtF m) v : Int) * wtF m v) i = Y
      generalize ((szF (wtF m) i : Nat) : Int) = x
      generalize wtF m i = a
      intro c0 HST hsb hwb hx0 hsm hae
      by_cases hx : x ≤ 15
      · have dx : decide (x > 15) = false := by simp; omega
        have h3 := Int.mul_nonneg hx0 hwb.1
        have h4 := Int.mul_le_mul hx hwb.2 hwb.1 (by omega)
        have ea : min a 1048576 = a := by omega
        have ea2 : ¬ 1048576 < a := by omega
        have r1 : IntKind.i64.wrap (x * a) = x * a := by rw [wrap_i64_eq, w64 _ (by omega)]
        have r2 : IntKind.i64.wrap (Y + x * a) = Y + x * a := by rw [wrap_i64_eq, w64 _ (by omega)]
        have HT := HST.out hx
        have hl1 : g < wr.drew.heap.size := hl0
        clear h3 h4
        go_upto_region 9 with fail
        refine wp_region_till (S := fun V => V.cell? ⟨g, i, none⟩ = some (.int .i64 x) ∧ True) (R := fun _ => True) (k := 100) (m := 100) (by kernel_rfl) ⟨c0, trivial⟩ trivial ?_
        replace hc := hc.drew
        replace hv := hv.but ((But.refl _ _).drew)
        replace c0 := (((But.refl Nowhere wr).drew).cell hl0 (not_nowhere _)).trans c0
        (refine Walk.take (i := 0) (oi := { dst := some 31, op := Op.move (Operand.tmp 9), type := 3, pos := "law.go:91", after := #[], guard := none }) (v := ?_) rfl (by kernel_rfl) (by kernel_rfl) (by kernel_rfl) (by kernel_rfl) (fun _ _ _ h => h) (Or.inl ⟨by rfl, ?_⟩) ?_; rotate_left; (intro w hw; clear hw; (try go_split_ands); go_simp; try (with_reducible rfl)); simp only [Act.put, List.setIfInBounds_toArray, List.set_cons_zero, List.set_cons_succ])
        (refine Walk.take (i := 1) (oi := { dst := some 32, op := Op.move (Operand.tmp 8), type := 22, pos := "law.go:91", after := #[], guard := none }) (v := ?_) rfl (by kernel_rfl) (by kernel_rfl) (by kernel_rfl) (by kernel_rfl) (fun _ _ _ h => h) (Or.inl ⟨by rfl, ?_⟩) ?_; rotate_left; (intro w hw; clear hw; (try go_split_ands); go_simp; try (with_reducible rfl)); simp only [Act.put, List.setIfInBounds_toArray, List.set_cons_zero, List.set_cons_succ])
        (refine Walk.take (i := 2) (oi := { dst := some 33, op := Op.move (Operand.tmp 10), type := 3, pos := "law.go:91", after := #[], guard := none }) (v := ?_) rfl (by kernel_rfl) (by kernel_rfl) (by kernel_rfl) (by kernel_rfl) (fun _ _ _ h => h) (Or.inl ⟨by rfl, ?_⟩) ?_; rotate_left; (intro w hw; clear hw; (try go_split_ands); go_simp; try (with_reducible rfl)); simp only [Act.put, List.setIfInBounds_toArray, List.set_cons_zero, List.set_cons_succ])
        (refine Walk.take (i := 3) (oi := { dst := some 34, op := Op.indexAddr 22 (Operand.tmp 32) (Operand.tmp 33), type := 0, pos := "law.go:91", after := #[{ on := 1, ground := Ground.data }, { on := 2, ground := Ground.data }], guard := none }) (v := ?_) rfl (by kernel_rfl) (by kernel_rfl) (by kernel_rfl) (by kernel_rfl) (fun _ _ _ h => h) (Or.inl ⟨by rfl, ?_⟩) ?_; rotate_left; (intro w hw; clear hw; (try go_split_ands); go_simp; try (with_reducible rfl)); simp only [Act.put, List.setIfInBounds_toArray, List.set_cons_zero, List.set_cons_succ])
        (refine Walk.take (i := 4) (oi := { dst := some 35, op := Op.load 3 (Operand.tmp 34), type := 3, pos := "law.go:91", after := #[{ on := 3, ground := Ground.data }], guard := none }) (v := ?_) rfl (by kernel_rfl) (by kernel_rfl) (by kernel_rfl) (by kernel_rfl) (fun _ _ _ h => h) (Or.inl ⟨by rfl, ?_⟩) ?_; rotate_left; (intro w hw; have hS1 := hw.1 (by kernel_rfl); clear hw; (try dsimp only at hS1); (try go_split_ands); go_simp; try (with_reducible rfl)); simp only [Act.put, List.setIfInBounds_toArray, List.set_cons_zero, List.set_cons_succ])
        (refine Walk.take (i := 5) (oi := { dst := some 36, op := Op.move (Operand.tmp 7), type := 22, pos := "law.go:91", after := #[], guard := none }) (v := ?_) rfl (by kernel_rfl) (by kernel_rfl) (by kernel_rfl) (by kernel_rfl) (fun _ _ _ h => h) (Or.inl ⟨by rfl, ?_⟩) ?_; rotate_left; (intro w hw; clear hw; (try go_split_ands); go_simp; try (with_reducible rfl)); simp only [Act.put, List.setIfInBounds_toArray, List.set_cons_zero, List.set_cons_succ])
        (refine Walk.take (i := 6) (oi := { dst := some 37, op := Op.move (Operand.tmp 10), type := 3, pos := "law.go:91", after := #[], guard := none }) (v := ?_) rfl (by kernel_rfl) (by kernel_rfl) (by kernel_rfl) (by kernel_rfl) (fun _ _ _ h => h) (Or.inl ⟨by rfl, ?_⟩) ?_; rotate_left; (intro w hw; clear hw; (try go_split_ands); go_simp; try (with_reducible rfl)); simp only [Act.put, List.setIfInBounds_toArray, List.set_cons_zero, List.set_cons_succ])
        (refine Walk.go (i := 7) (o := { dst := some 38, op := Op.call { callee := Callee.value (Operand.func 16), args := #[Operand.tmp 36, Operand.tmp 37], argTypes := #[22, 3] }, type := 3, pos := "law.go:91", after := #[{ on := 5, ground := Ground.data }, { on := 6, ground := Ground.data }], guard := none }) (by kernel_rfl) rfl (fun K hK => ?_); go_simp; ((go_at_call 16; refine (at_any ao cap m i (by omega) (by omega) _ hv).mono ?_; rintro e y8 ⟨rfl, d⟩; rw [hae.out]; replace hc := hc.trans d; replace c0 := (d.cell hl1 (not_nowhere _)).trans c0; clear d hv)); refine hK.out _ _ (⟨fun _ => ⟨c0, trivial⟩, fun _ => trivial⟩) ?_; clear hK K; try simp only [Act.put, List.setIfInBounds_toArray, List.set_cons_zero, List.set_cons_succ])
        (refine Walk.take (i := 8) (oi := { dst := some 39, op := Op.call { callee := Callee.builtin Builtin.min, args := #[Operand.tmp 38, Operand.const (Value.int IntKind.i64 1048576)], argTypes := #[3, 3] }, type := 3, pos := "law.go:91", after := #[{ on := 7, ground := Ground.data }], guard := none }) (v := ?_) rfl (by kernel_rfl) (by kernel_rfl) (by kernel_rfl) (by kernel_rfl) (fun _ _ _ h => h) (Or.inl ⟨by rfl, ?_⟩) ?_; rotate_left; (intro w hw; clear hw; (try go_split_ands); go_simp; try (with_reducible rfl)); simp only [Act.put, List.setIfInBounds_toArray, List.set_cons_zero, List.set_cons_succ])
        (refine Walk.take (i := 9) (oi := { dst := some 40, op := Op.binOp BinOp.mul 3 (Operand.tmp 35) (Operand.tmp 39) 3, type := 3, pos := "law.go:91", after := #[{ on := 4, ground := Ground.data }, { on := 8, ground := Ground.data }], guard := none }) (v := ?_) rfl (by kernel_rfl) (by kernel_rfl) (by kernel_rfl) (by kernel_rfl) (fun _ _ _ h => h) (Or.inl ⟨by rfl, ?_⟩) ?_; rotate_left; (intro w hw; clear hw; (try go_split_ands); go_simp; try (with_reducible rfl)); simp only [Act.put, List.setIfInBounds_toArray, List.set_cons_zero, List.set_cons_succ])
        (refine Walk.take (i := 10) (oi := { dst := some 41, op := Op.binOp BinOp.add 3 (Operand.tmp 31) (Operand.tmp 40) 3, type := 3, pos := "law.go:91", after := #[{ on := 0, ground := Ground.data }, { on := 9, ground := Ground.data }], guard := none }) (v := ?_) rfl (by kernel_rfl) (by kernel_rfl) (by kernel_rfl) (by kernel_rfl) (fun _ _ _ h => h) (Or.inl ⟨by rfl, ?_⟩) ?_; rotate_left; (intro w hw; clear hw; (try go_split_ands); go_simp; try (with_reducible rfl)); simp only [Act.put, List.setIfInBounds_toArray, List.set_cons_zero, List.set_cons_succ])
        (refine Walk.take (i := 11) (oi := { dst := some 9, op := Op.assign (Operand.tmp 41), type := 3, pos := "law.go:91", after := #[{ on := 10, ground := Ground.data }, { on := 7, ground := Ground.chain }, { on := 0, ground := Ground.phase }, { on := 1, ground := Ground.phase }, { on := 2, ground := Ground.phase }, { on := 3, ground := Ground.phase }, { on := 4, ground := Ground.phase }, { on := 5, ground := Ground.phase }, { on := 6, ground := Ground.phase }, { on := 7, ground := Ground.phase }, { on := 8, ground := Ground.phase }, { on := 9, ground := Ground.phase }, { on := 10, ground := Ground.phase }], guard := none }) (v := ?_) rfl (by kernel_rfl) (by kernel_rfl) (by kernel_rfl) (by kernel_rfl) (fun _ _ _ h => h) (Or.inl ⟨by rfl, ?_⟩) ?_; rotate_left; (intro w hw; clear hw; (try go_split_ands); go_simp; try (with_reducible rfl)); simp only [Act.put, List.setIfInBounds_toArray, List.set_cons_zero, List.set_cons_succ])
        refine Walk.done (by kernel_rfl) ?_ _
        go_wp2_with fail
        go_roundw
        case rel => exact ⟨i + 1, by omega, by go_num, by rw [hsm.out], HT, hc⟩
        case measure => simp [intOf]; omega
      · have dx : decide (x > 15) = true := by simp; omega
        have hb := HE.out.2.trans hc
        go_wp2_with (go_at_call 8; refine (known_any _).mono ?_; rintro e yk ⟨rfl, d⟩; replace hb := hb.trans d; clear d)
        go_ret
        exact ⟨rfl, hb⟩
    · obtain rfl : i = 256 := by omega
      have hv : View wr .i64 (.slice ao m.length cap) m := HE.out.1.but hc
      have hb := HE.out.2.trans hc
      have hv1 : View wr .u8 v1 l1 := HS1.out.but hb
      have ho := own_le m hs
      have HL : Hid (∀ c l, ¬ costF c l (wtF m) < 0 → costF (tabC (szF (wtF m))) (tabV (szF (wtF m))) (wtF m) ≤ costF c l (wtF m) + 15) := fun c l => least_le m hs c l
      revert ho
      generalize sm (fun v => (szF (wtF m) v : Int) * wtF m v) 256 = Y
      intro ho
      have HO : Hid _ := ho
      clear ho hc HE HG hs hlg
      have q4 : IntKind.u8.wrap (a2.tdiv 4) = a2 / 4 := by rw [Int.tdiv_eq_ediv_of_nonneg (by omega)]; simp (disch := omega) only [IntWalk.u8_in]
      obtain ⟨k4, hk4⟩ : ∃ k, a2 / 4 = k := ⟨_, rfl⟩
      have u4 : 0 ≤ k4 ∧ k4 ≤ 255 := by omega
      rw [hk4] at q4
      go_upto_region 11 with (first
        | (go_at_call 10; refine (often_any v1 l1 k4 u4 _ hv1 x1 n1).mono ?_; rintro e y3 ⟨o2, cap2, m2, rfl, hv2, hcap2, hm2, hall2, d⟩; replace hv := hv.but d; replace hb := hb.trans d; clear d; have hI2 : ∀ x ∈ m2, I64 x := fun x hx => (by have := hall2 x hx; unfold I64; omega); have hml2 : m2.length ≤ 140737488355328 := (by omega))
        | (go_at_call 11; refine (best_any o2 cap2 m2 hI2 hml2 hcap2 _ hv2).mono ?_; rintro e y4 ⟨p2, rfl, v2, d⟩; replace hv := hv.but d; replace hb := hb.trans d; clear d; obtain ⟨cB, hc'⟩ : ∃ c, tabC (szF (wtF m2)) = c := ⟨_, rfl⟩; obtain ⟨lB, hl'⟩ : ∃ c, tabV (szF (wtF m2)) = c := ⟨_, rfl⟩; rw [hc']; rw [hl'] at v2; have HCB : Hid (tabC (szF (wtF m2)) = cB ∧ tabV (szF (wtF m2)) = lB) := ⟨hc', hl'⟩; clear hc' hl'; obtain ⟨a2, q2, rfl⟩ := v2.slice)
        | (refine wpList_store_mid rfl 30 (.tmp 11) (.tmp 46) rfl y4.heap.size 0 (tbl cB (.slice a2 lB.length q2)).toArray rfl rfl ?_ (infoTB _ _) (tbl_all _ _ _ _) ?_; exact newTbl_there y4 _ _))
      obtain ⟨nT1, bT1⟩ := newTbl y4 cB (.slice a2 lB.length q2)
      revert nT1 bT1
      obtain ⟨T1, hT1⟩ : ∃ n, y4.heap.size = n := ⟨_, rfl⟩
      rw [hT1]
      clear hT1
      generalize (y4.alloc (.cells (tbl (fun _ => 0) (.slice none 0 0)).toArray 30)).setCells T1 0 (tbl cB (.slice a2 lB.length q2)) = V1
      intro nT1 bT1
      try simp only [Act.put]
      replace hv := hv.but bT1
      replace v2 := v2.but bT1
      replace hb := hb.trans bT1
      have k1 := nT1
      clear nT1 bT1
      have HKB : Hid ((∀ j, j < 16 → I64 (cB j)) ∧ (∀ x ∈ lB, 0 ≤ x ∧ x ≤ 255) ∧ lB.length ≤ 140737488355328) := by
        rw [← HCB.out.1, ← HCB.out.2]
        exact ⟨tabC_i64 (wtF_wt m2), tabV_byte _, by have := tabV_len (wtF_wt m2); omega⟩
      go_upto_region 12 with (first
        | (refine wpList_load_mid rfl 30 (.tmp 11) rfl T1 0 rfl (tbl cB (.slice a2 lB.length q2)) _ ?_ huT rfl (infoT _ _) ?_; exact k1.all)
        | (go_at_call 14; refine (cost_any cB (.slice a2 lB.length q2) lB HKB.out.1 HKB.out.2.1 HKB.out.2.2 ao cap m hI hml hcap _ v2 hv).mono ?_; rintro e y5 ⟨rfl, d⟩; replace hv := hv.but d; replace hb := hb.trans d; clear d))
      go_upto_region 13 with (first
        | (go_at_call 11; refine (best_any ao cap m hI hml hcap _ hv).mono ?_; rintro e y6 ⟨p1, rfl, v1x, d⟩; replace hv := hv.but d; replace hb := hb.trans d; clear d; obtain ⟨cA, hc'⟩ : ∃ c, tabC (szF (wtF m)) = c := ⟨_, rfl⟩; obtain ⟨lA, hl'⟩ : ∃ c, tabV (szF (wtF m)) = c := ⟨_, rfl⟩; rw [hc']; rw [hl'] at v1x; have HCA : Hid (tabC (szF (wtF m)) = cA ∧ tabV (szF (wtF m)) = lA) := ⟨hc', hl'⟩; clear hc' hl'; obtain ⟨a1, q1, rfl⟩ := v1x.slice)
        | (have HK : Hid ((∀ j, j < 16 → I64 (cA j)) ∧ (∀ x ∈ lA, 0 ≤ x ∧ x ≤ 255) ∧ lA.length ≤ 140737488355328) := (by rw [← HCA.out.1, ← HCA.out.2]; exact ⟨tabC_i64 (wtF_wt m), tabV_byte _, by have := tabV_len (wtF_wt m); omega⟩); go_at_call 14; refine (cost_any cA (.slice a1 lA.length q1) lA HK.out.1 HK.out.2.1 HK.out.2.2 ao cap m hI hml hcap _ v1x hv).mono ?_; rintro e y7 ⟨rfl, d⟩; replace hv := hv.but d; replace hb := hb.trans d; clear d))
      have HX : Hid (costF cA lA (wtF m) ≤ Y ∧ (¬ costF cB lB (wtF m) < 0 → costF cA lA (wtF m) ≤ costF cB lB (wtF m) + 15)) := by
        rw [← HCA.out.1, ← HCA.out.2]
        exact ⟨HO.out, fun q => HL.out cB lB (by omega)⟩
      have hbd := cost_bd cB lB m
      clear HO HL
      revert HX hbd
      generalize costF cA lA (wtF m) = O
      generalize costF cB lB (wtF m) = X
      intro HX hbd
      have d1 : decide (O ≤ Y) = true := by simpa using HX.out.1
      have r1 : IntKind.i64.wrap (X + 15) = X + 15 := by rw [wrap_i64_eq, w64 _ (by omega)]
      by_cases hX : X < 0
      · have d2 : decide (X < 0) = true := by simpa using hX
        go_wp2_with (go_at_call 8; refine (known_any _).mono ?_; rintro e yk ⟨rfl, d⟩; replace hb := hb.trans d; clear d)
        go_ret
        exact ⟨by simp, hb⟩
      · have d2 : decide (X < 0) = false := by simpa using hX
        have d3 : decide (O ≤ X + 15) = true := by simpa using HX.out.2 hX
        go_wp2_with (go_at_call 8; refine (known_any _).mono ?_; rintro e yk ⟨rfl, d⟩; replace hb := hb.trans d; clear d)
        go_ret
        exact ⟨by simp, hb⟩

set_option maxRecDepth 100000 in
theorem lifted (os : Os) (started : os.Started) (H : Type) (enc : TypeId × Value → H) :
    ReturnsInHanded {} Try.checked os 5 .any (Rows.optimLeastSpec.pre6 enc Try.prog Try.f5 Rows.optimLeastRow.domain false) (Rows.optimLeastSpec.post enc Try.prog Try.f5 false true false false) := by
  refine returnsInHanded_of_change_sized (C := Try.checked) own started (by kernel_rfl) Try.func5
    (ChangeSpec.witness6 (enc := enc) (C := Try.checked) false ⟨#[], #[.slice none 0 0, .slice none 0 0, .int .u8 0], []⟩ 8 (by kernel_rfl) (by kernel_rfl) (by kernel_rfl) (by kernel_rfl)) ?_
  intro W base args ds gs before hval0 hW hcnd hsz0 _
  have hval : ∀ (j : Nat) t v, Try.f5.params[j]? = some t → args[j]? = some v → Value.okWide Try.prog W .any base t v := hval0
  have hsz : (DataW.weightsEach Try.prog (Try.f5.params.toList ++ Rows.optimLeastSpec.plain.varTypes Try.prog) (ds ++ gs)).all (· ≤ reachBytes) = true := hsz0
  have hW' := hW
  obtain ⟨p, q, hA0, hV, rfl, hfz, hnd⟩ := hW
  have hA : DataW.TrodAll enc Try.prog W 0 (fun _ => true) true Try.f5.params.toList args.toList ds p := hA0
  rw [Try.params5] at hA hval hsz
  obtain ⟨v0, vs0, d0, ds0, p0, q0, hargs, rfl, rfl, h0, r0⟩ := trodAll_cons hA
  obtain ⟨v1, vs1, d1, ds1, p1, q1, rfl, rfl, rfl, h1, r1⟩ := trodAll_cons r0
  obtain ⟨v2, vs2, d2, ds2, p2, q2, rfl, rfl, rfl, h2, r2⟩ := trodAll_cons r1
  obtain ⟨rfl, rfl, rfl⟩ := trodAll_nil r2
  obtain rfl : args = #[v0, v1, v2] := by cases args; simp_all
  obtain ⟨rfl, rfl⟩ := trodVars_none hV
  obtain ⟨l0, ⟨s0, x0⟩, e0⟩ := open_bytes (hval 0 23 v0 rfl rfl) h0
  have n0 := bytes_small hsz (j := 0) rfl rfl e0
  obtain ⟨l1, ⟨s1, x1⟩, e1⟩ := open_bytes (hval 1 23 v1 rfl rfl) h1
  have n1 := bytes_small hsz (j := 1) rfl rfl e1
  obtain ⟨a2, rfl, rfl, rfl, w2⟩ := open_int Try.underlying5 (hval 2 5 v2 rfl rfl) h2
  clear hA0 hval0
  refine (walk W v0 l0 s0 x0 n0 v1 l1 s1 x1 n1 a2 w2).mono fun e W' ⟨he, hg⟩ => ?_
  subst he
  exact ⟨_, rfl, law_post laidOut readable rfl Try.underlying4 rfl rfl hW' hg.below⟩

theorem over : Rows.optimLeastRow.holds Try.pinned (OpenSpec.ofChange Rows.optimLeastSpec) :=
  OpenClaim.holds_of_wide 5 Try.f5 rfl rfl rfl rfl rfl rfl rfl ⟨rfl, rfl, rfl, rfl, rfl⟩ rfl rfl rfl rfl rfl (by kernel_rfl) Try.func5 (by kernel_rfl)
    (of_decide_eq_true (by kernel_rfl)) (by unfold Func.isWrapper; first | (rw [if_pos (by decide +kernel)]; kernel_rfl) | (rw [if_neg (by decide +kernel)]; exact ⟨rfl, rfl⟩))
    (fun os started H enc _ => lifted os started H enc)

theorem proved : Rows.OptimLeastSaid :=
  over
end Go.Proofs.Ytlpeplihbdcklaa.optimLeast
namespace Go.Proofs.Ytlpeplihbdcklaa
theorem optimLeast_holds : Rows.OptimLeastSaid := optimLeast.proved
#print axioms optimLeast_holds
end Go.Proofs.Ytlpeplihbdcklaa
