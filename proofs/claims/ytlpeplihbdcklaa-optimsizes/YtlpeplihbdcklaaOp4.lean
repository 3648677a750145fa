/- The document's Sizes and Cost of layer 11; the law's at. -/
import Derived.Test.YtlpeplihbdcklaaOp3
import Derived.Test.YtlpeplihbdcklaaHu2
namespace Go.Proofs.Ytlpeplihbdcklaa
set_option linter.unusedVariables false
open Go.ChangeShapes Go.WideShapes Go.ChangeAt Go.RowKit

set_option maxHeartbeats 1600000 in
set_option maxRecDepth 100000 in
theorem refSizes_any (pv : Value) (l : List Int) (hI : ∀ x ∈ l, I64 x) (hl : l.length ≤ 140737488355328) (w : World) (hv : View w .i64 pv l) : Calls Try.prog 17 #[pv] w fun e w' => ∃ g, e = .returned (.slice (some ⟨g, 0, none⟩) 256 257) ∧ Keep w w' [(g, 3, tab .i64 257 (fun i => (szF (wtF l) i : Int)))] := by
  have HV : Hid (View w .i64 pv l) := hv
  have HI : Hid _ := hI
  clear hv hI
  go_enter Try.func17, Try.ntmps17
  go_wp2_with (go_at_call 33; refine (refAll_any _ l HI.out hl _ HV.out).mono ?_; rintro e x ⟨g, rfl, kk⟩)
  go_ret
  exact ⟨_, rfl, kk⟩

set_option maxHeartbeats 1600000 in
set_option maxRecDepth 100000 in
theorem lawAt_any (pv : Value) (l : List Int) (i : Nat) (w : World) (hv : View w .i64 pv l) : Calls Try.prog 16 #[pv, .int .i64 (i : Int)] w fun e w' => e = .returned (.int .i64 (l.getD i 0)) ∧ w' = w := by
  obtain ⟨ao, cap, rfl⟩ := hv.slice
  by_cases h : i < l.length
  · obtain ⟨-, b, off, rfl, hbl, hc⟩ := hv.at i h
    have e : l.getD i 0 = l[i] := by rw [List.getD_eq_getElem?_getD, List.getElem?_eq_getElem h]; rfl
    have i0 : (0 : Int) ≤ (i : Int) := by omega
    have i2 : (i : Int) < (l.length : Int) := by omega
    rw [e]
    clear e hv
    generalize l[i] = y at *
    go_enter Try.func16, Try.ntmps16
    go_wp2_with fail
    go_ret
    exact ⟨rfl, rfl⟩
  · have e : l.getD i 0 = 0 := by rw [List.getD_eq_getElem?_getD, List.getElem?_eq_none (by omega)]; rfl
    have i2 : ¬ (i : Int) < (l.length : Int) := by omega
    rw [e]
    clear e hv
    go_enter Try.func16, Try.ntmps16
    go_wp2_with fail
    go_ret
    exact ⟨rfl, rfl⟩

/-- Behind a call that has made one block. -/
theorem Keep.join1 {w x y : World} {l : List Bk} {b : Nat} {t : TypeId} {c : List Value} (h : Keep w x l) (k : Keep x y [(b, t, c)]) : Keep w y ((b, t, c) :: l) := by
  have h2 := h.step k.but
  have hb := k.new (b, t, c) (by simp)
  refine ⟨h2.but, ?_, ?_, ?_⟩
  · intro z hz
    rcases List.mem_cons.1 hz with rfl | hz
    · exact Nat.le_trans h.but.size hb
    · exact h2.new z hz
  · intro z hz
    rcases List.mem_cons.1 hz with rfl | hz
    · exact k.head
    · exact h2.holds z hz
  · refine List.pairwise_cons.2 ⟨fun z hz => ?_, h2.apart⟩
    have := (h.holds z hz).lt
    intro e
    have e2 : b = z.1 := e
    have hb2 : x.heap.size ≤ b := hb
    omega

/-- What Cost tells. -/
def costF (c : Nat → Int) (l : List Int) (W : Nat → Int) : Int := if ∀ v, v < 256 → 0 < W v → codN c l v ≠ 0 then bits c l W else -1

theorem costF_all {c : Nat → Int} {l : List Int} {W : Nat → Int} (h : ∀ v, v < 256 → 0 < W v → codN c l v ≠ 0) : costF c l W = bits c l W := if_pos h
theorem costF_not {c : Nat → Int} {l : List Int} {W : Nat → Int} (v : Nat) (hv : v < 256) (hw : 0 < W v) (hc : codN c l v = 0) : costF c l W = -1 := if_neg (fun q => q v hv hw hc)

theorem codN_bd (c : Nat → Int) (l : List Int) (v : Nat) : 0 ≤ codN c l v ∧ codN c l v ≤ 16 := by
  rcases cod_cases c l v with ⟨q, _⟩ | ⟨ho, p, hp, _, q, _⟩
  · omega
  · have := p_in ho hp; omega

theorem part_bd {c : Nat → Int} {l : List Int} {W : Nat → Int} (hW : ∀ i, 0 ≤ W i ∧ W i ≤ 1048576) : ∀ k, 0 ≤ sm (fun v => W v * codN c l v) k ∧ sm (fun v => W v * codN c l v) k ≤ 16777216 * (k : Int)
  | 0 => by constructor <;> (show _ ≤ _; simp [sm])
  | k + 1 => by
    have ih := part_bd (c := c) (l := l) hW k
    have h1 := hW k
    have h2 := codN_bd c l k
    have h3 := Int.mul_nonneg h1.1 h2.1
    have h4 := Int.mul_le_mul h1.2 h2.2 h2.1 (by omega)
    show 0 ≤ sm (fun v => W v * codN c l v) k + W k * codN c l k ∧ sm (fun v => W v * codN c l v) k + W k * codN c l k ≤ _
    omega

set_option maxHeartbeats 3200000 in
set_option maxRecDepth 100000 in
theorem refCost_any (c : Nat → Int) (pv : Value) (l : List Int) (hI : ∀ j, j < 16 → I64 (c j)) (hx : ∀ x ∈ l, 0 ≤ x ∧ x ≤ 255) (hl : l.length ≤ 140737488355328) (ov : Value) (o : List Int) (hoI : ∀ x ∈ o, I64 x) (hol : o.length ≤ 140737488355328) (w : World) (hv : View w .u8 pv l) (ho : View w .i64 ov o) :
    Calls Try.prog 21 #[.agg (tbl c pv).toArray, ov] w fun e w' => e = .returned (.int .i64 (costF c l (wtF o))) ∧ But Nowhere w w' := by
  have HV : Hid (View w .u8 pv l) := hv
  have HO : Hid (View w .i64 ov o) := ho
  have HOI : Hid _ := hoI
  clear hv ho hoI
  have huT := Try.underlying30
  have hiB : ∀ f, (Try.prog.info? 35).map (·.size) = some (tab .i64 512 f).toArray.size := fun f => by rw [List.size_toArray, tab_length]; kernel_rfl
  have hiT : (Try.prog.info? 30).map (·.size) = some (tbl c pv).length := by rw [tbl_length]; kernel_rfl
  have HB : Hid _ := hiB
  have hz := zero512
  have kk := (Keep.start w).made 30 (tbl c pv)
  clear hiB
  go_enter Try.func21, Try.ntmps21
  go_upto_region 2 with (go_at_call 36; refine (refWeights_any _ o HOI.out hol _ (HO.out.but kk.but)).mono ?_; rintro e x ⟨gw, rfl, k2⟩; replace kk := kk.join1 k2; clear k2)
  have hr := (kk.get (b := w.heap.size) (t := 30) (c := tbl c pv) (by simp)).all
  go_wp2_with (refine wpList_load_mid rfl 30 (.tmp 2) rfl w.heap.size 0 rfl (tbl c pv) _ ?_ huT rfl hiT ?_; exact hr)
  refine (refCodes_any c _ l hI _ (HV.out.but kk.but) hx hl).mono ?_
  rintro e y ⟨rfl, dd⟩
  replace kk := kk.step dd
  clear dd hr
  replace kk := kk.made 35 (tab .i64 512 (fun _ => 0))
  have hth := kk.head.there 0 (tab .i64 512 (both (codN c l) (codV c l))).toArray.size (by simp [tab_length])
  replace kk := kk.layAll (both (codN c l) (codV c l))
  have hiB := HB.out
  go_upto_region 3 with (refine wpList_store_mid rfl 35 (.tmp 6) (.tmp 12) rfl y.heap.size 0 (tab .i64 512 (both (codN c l) (codV c l))).toArray rfl rfl ?_ (hiB _) (tab_all _ _ _) ?_; exact hth)
  clear hz hth hiB
  revert kk
  obtain ⟨CB, hCB⟩ : ∃ n, y.heap.size = n := ⟨_, rfl⟩
  rw [hCB]
  clear hCB
  generalize (y.alloc (.cells (tab .i64 512 (fun _ => 0)).toArray 35)).setCells CB 0 (tab .i64 512 (both (codN c l) (codV c l))) = W1
  generalize w.heap.size = TB
  intro kk
  try simp only [Act.put]
  go_wp2_with fail
  go_loopw [7, 8] (fun n i V => ∃ k : Nat, k ≤ 256 ∧ i = .int .i64 k ∧ n = .int .i64 (sm (fun v => wtF o v * codN c l v) k) ∧ (∀ v, v < k → 0 < wtF o v → codN c l v ≠ 0) ∧ Keep w V [(CB, 35, tab .i64 512 (both (codN c l) (codV c l))), (gw, 3, tab .i64 257 (wtF o)), (TB, 30, tbl c pv)]) (fun _ i _ => 256 - (intOf i).toNat)
  case atStart => exact ⟨0, Nat.zero_le _, rfl, rfl, fun v hv => by omega, kk⟩
  case round =>
    clear kk
    obtain ⟨k, hk, rfl, rfl, hall, kk⟩ := hrel
    have HALL : Hid _ := hall
    clear hall
    by_cases hlt : k < 256
    · have i0 : (0 : Int) ≤ (k : Int) := by omega
      have i1 : (k : Int) < 256 := by omega
      have i2 : (k : Int) < 257 := by omega
      have c0 := kk.head.cell (k * 2) (by omega)
      rw [show both (codN c l) (codV c l) (k * 2) = codN c l k by unfold both; rw [if_pos (by omega), show k * 2 / 2 = k by omega]] at c0
      have c1 := (kk.get (b := gw) (t := 3) (c := tab .i64 257 (wtF o)) (by simp)).cell k (by omega)
      have HK : Hid _ := kk
      clear kk
      have hw := wtF_bd o k
      have hn := codN_bd c l k
      have hs := part_bd (c := c) (l := l) (wtF_bd o) k
      have hsm : Hid (sm (fun v => wtF o v * codN c l v) (k + 1) = sm (fun v => wtF o v * codN c l v) k + wtF o k * codN c l k) := rfl
      have hm1 := Int.mul_nonneg hw.1 hn.1
      have hm2 := Int.mul_le_mul hw.2 hn.2 hn.1 (by omega)
      have hstep : Hid (¬ (0 < wtF o k ∧ codN c l k = 0) → ∀ v, v < k + 1 → 0 < wtF o v → codN c l v ≠ 0) := fun hn v hv hwv hc => by
        by_cases e : v = k
        · subst e; exact hn ⟨hwv, hc⟩
        · exact HALL.out v (by omega) hwv hc
      have hnot : Hid (0 < wtF o k → codN c l k = 0 → costF c l (wtF o) = -1) := fun h1 h2 => costF_not k hlt h1 h2
      generalize codN c l k = N at *
      generalize wtF o k = X at *
      generalize sm (fun v => wtF o v * codN c l v) k = Y at *
      have r1 : IntKind.i64.wrap (X * N) = X * N := by rw [wrap_i64_eq, w64 _ (by omega)]
      have r2 : IntKind.i64.wrap (Y + X * N) = Y + X * N := by rw [wrap_i64_eq, w64 _ (by omega)]
      clear hm1 hm2 hs
      by_cases hX : 0 < X
      · by_cases hN : N = 0
        · have HR : Hid _ := hnot.out hX hN
          subst hN
          clear hnot hstep hsm r1 r2
          go_wp2_with fail
          go_ret
          rw [HR.out]
          exact ⟨rfl, HK.out.but⟩
        · have HS : Hid _ := hstep.out (fun q => hN q.2)
          have d1 : (N == 0) = false := by simpa using hN
          clear hnot hstep
          go_wp2_with fail
          focus
            refine wp_region_till (S := fun V => V.cell? ⟨CB, k * 2, none⟩ = some (.int .i64 N) ∧ V.cell? ⟨gw, k, none⟩ = some (.int .i64 X)) (R := fun _ => True) (k := 100) (m := 100) (by kernel_rfl) ⟨c0, c1⟩ trivial ?_
            (refine Walk.take (i := 0) (oi := { dst := some 29, op := Op.move (Operand.tmp 7), type := 3, pos := "ref.go:117", after := #[], guard := none }) (v := ?_) rfl (by kernel_rfl) (by kernel_rfl) (by kernel_rfl) (by kernel_rfl) (fun _ _ _ h => h) (Or.inl ⟨by rfl, ?_⟩) ?_; rotate_left; (intro w hw; clear hw; (try go_split_ands); go_simp; try (with_reducible rfl)); simp only [Act.put, List.setIfInBounds_toArray, List.set_cons_zero, List.set_cons_succ])
            (refine Walk.take (i := 1) (oi := { dst := some 30, op := Op.move (Operand.tmp 5), type := 22, pos := "ref.go:117", after := #[], guard := none }) (v := ?_) rfl (by kernel_rfl) (by kernel_rfl) (by kernel_rfl) (by kernel_rfl) (fun _ _ _ h => h) (Or.inl ⟨by rfl, ?_⟩) ?_; rotate_left; (intro w hw; clear hw; (try go_split_ands); go_simp; try (with_reducible rfl)); simp only [Act.put, List.setIfInBounds_toArray, List.set_cons_zero, List.set_cons_succ])
            (refine Walk.take (i := 2) (oi := { dst := some 31, op := Op.move (Operand.tmp 8), type := 3, pos := "ref.go:117", after := #[], guard := none }) (v := ?_) rfl (by kernel_rfl) (by kernel_rfl) (by kernel_rfl) (by kernel_rfl) (fun _ _ _ h => h) (Or.inl ⟨by rfl, ?_⟩) ?_; rotate_left; (intro w hw; clear hw; (try go_split_ands); go_simp; try (with_reducible rfl)); simp only [Act.put, List.setIfInBounds_toArray, List.set_cons_zero, List.set_cons_succ])
            (refine Walk.take (i := 3) (oi := { dst := some 32, op := Op.indexAddr 22 (Operand.tmp 30) (Operand.tmp 31), type := 0, pos := "ref.go:117", after := #[{ on := 1, ground := Ground.data }, { on := 2, ground := Ground.data }], guard := none }) (v := ?_) rfl (by kernel_rfl) (by kernel_rfl) (by kernel_rfl) (by kernel_rfl) (fun _ _ _ h => h) (Or.inl ⟨by rfl, ?_⟩) ?_; rotate_left; (intro w hw; clear hw; (try go_split_ands); go_simp; try (with_reducible rfl)); simp only [Act.put, List.setIfInBounds_toArray, List.set_cons_zero, List.set_cons_succ])
            (refine Walk.take (i := 4) (oi := { dst := some 33, op := Op.load 3 (Operand.tmp 32), type := 3, pos := "ref.go:117", after := #[{ on := 3, ground := Ground.data }], guard := none }) (v := ?_) rfl (by kernel_rfl) (by kernel_rfl) (by kernel_rfl) (by kernel_rfl) (fun _ _ _ h => h) (Or.inl ⟨by rfl, ?_⟩) ?_; rotate_left; (intro w hw; have hS1 := hw.1 (by kernel_rfl); clear hw; (try dsimp only at hS1); (try go_split_ands); go_simp; try (with_reducible rfl)); simp only [Act.put, List.setIfInBounds_toArray, List.set_cons_zero, List.set_cons_succ])
            (refine Walk.take (i := 5) (oi := { dst := some 34, op := Op.move (Operand.tmp 8), type := 3, pos := "ref.go:117", after := #[], guard := none }) (v := ?_) rfl (by kernel_rfl) (by kernel_rfl) (by kernel_rfl) (by kernel_rfl) (fun _ _ _ h => h) (Or.inl ⟨by rfl, ?_⟩) ?_; rotate_left; (intro w hw; clear hw; (try go_split_ands); go_simp; try (with_reducible rfl)); simp only [Act.put, List.setIfInBounds_toArray, List.set_cons_zero, List.set_cons_succ])
            (refine Walk.take (i := 6) (oi := { dst := some 35, op := Op.indexAddr 35 (Operand.tmp 6) (Operand.tmp 34), type := 0, pos := "ref.go:117", after := #[{ on := 5, ground := Ground.data }], guard := none }) (v := ?_) rfl (by kernel_rfl) (by kernel_rfl) (by kernel_rfl) (by kernel_rfl) (fun _ _ _ h => h) (Or.inl ⟨by rfl, ?_⟩) ?_; rotate_left; (intro w hw; clear hw; (try go_split_ands); go_simp; try (with_reducible rfl)); simp only [Act.put, List.setIfInBounds_toArray, List.set_cons_zero, List.set_cons_succ])
            (refine Walk.take (i := 7) (oi := { dst := some 36, op := Op.fieldAddr 34 (Operand.tmp 35) 0, type := 0, pos := "ref.go:117", after := #[{ on := 6, ground := Ground.data }], guard := none }) (v := ?_) rfl (by kernel_rfl) (by kernel_rfl) (by kernel_rfl) (by kernel_rfl) (fun _ _ _ h => h) (Or.inl ⟨by rfl, ?_⟩) ?_; rotate_left; (intro w hw; clear hw; (try go_split_ands); go_simp; try (with_reducible rfl)); simp only [Act.put, List.setIfInBounds_toArray, List.set_cons_zero, List.set_cons_succ])
            (refine Walk.take (i := 8) (oi := { dst := some 37, op := Op.load 3 (Operand.tmp 36), type := 3, pos := "ref.go:117", after := #[{ on := 7, ground := Ground.data }], guard := none }) (v := ?_) rfl (by kernel_rfl) (by kernel_rfl) (by kernel_rfl) (by kernel_rfl) (fun _ _ _ h => h) (Or.inl ⟨by rfl, ?_⟩) ?_; rotate_left; (intro w hw; have hS1 := hw.1 (by kernel_rfl); clear hw; (try dsimp only at hS1); (try go_split_ands); go_simp; try (with_reducible rfl)); simp only [Act.put, List.setIfInBounds_toArray, List.set_cons_zero, List.set_cons_succ])
            (refine Walk.take (i := 9) (oi := { dst := some 38, op := Op.binOp BinOp.mul 3 (Operand.tmp 33) (Operand.tmp 37) 3, type := 3, pos := "ref.go:117", after := #[{ on := 4, ground := Ground.data }, { on := 8, ground := Ground.data }], guard := none }) (v := ?_) rfl (by kernel_rfl) (by kernel_rfl) (by kernel_rfl) (by kernel_rfl) (fun _ _ _ h => h) (Or.inl ⟨by rfl, ?_⟩) ?_; rotate_left; (intro w hw; clear hw; (try go_split_ands); go_simp; try (with_reducible rfl)); simp only [Act.put, List.setIfInBounds_toArray, List.set_cons_zero, List.set_cons_succ])
            (refine Walk.take (i := 10) (oi := { dst := some 39, op := Op.binOp BinOp.add 3 (Operand.tmp 29) (Operand.tmp 38) 3, type := 3, pos := "ref.go:117", after := #[{ on := 0, ground := Ground.data }, { on := 9, ground := Ground.data }], guard := none }) (v := ?_) rfl (by kernel_rfl) (by kernel_rfl) (by kernel_rfl) (by kernel_rfl) (fun _ _ _ h => h) (Or.inl ⟨by rfl, ?_⟩) ?_; rotate_left; (intro w hw; clear hw; (try go_split_ands); go_simp; try (with_reducible rfl)); simp only [Act.put, List.setIfInBounds_toArray, List.set_cons_zero, List.set_cons_succ])
            (refine Walk.take (i := 11) (oi := { dst := some 7, op := Op.assign (Operand.tmp 39), type := 3, pos := "ref.go:117", after := #[{ on := 10, ground := Ground.data }, { on := 0, ground := Ground.phase }, { on := 1, ground := Ground.phase }, { on := 2, ground := Ground.phase }, { on := 3, ground := Ground.phase }, { on := 4, ground := Ground.phase }, { on := 5, ground := Ground.phase }, { on := 6, ground := Ground.phase }, { on := 7, ground := Ground.phase }, { on := 8, ground := Ground.phase }, { on := 9, ground := Ground.phase }, { on := 10, ground := Ground.phase }], guard := none }) (v := ?_) rfl (by kernel_rfl) (by kernel_rfl) (by kernel_rfl) (by kernel_rfl) (fun _ _ _ h => h) (Or.inl ⟨by rfl, ?_⟩) ?_; rotate_left; (intro w hw; clear hw; (try go_split_ands); go_simp; try (with_reducible rfl)); simp only [Act.put, List.setIfInBounds_toArray, List.set_cons_zero, List.set_cons_succ])
            refine Walk.done (by kernel_rfl) ?_ _
            go_wp2_with fail
            go_roundw
            case rel => exact ⟨k + 1, by omega, by go_num, by rw [hsm.out], HS.out, HK.out.drew⟩
            case measure => simp [intOf]; omega
      · have HS : Hid _ := hstep.out (fun q => hX q.1)
        clear hnot hstep
        go_wp2_with fail
        focus
          refine wp_region_till (S := fun V => V.cell? ⟨CB, k * 2, none⟩ = some (.int .i64 N) ∧ V.cell? ⟨gw, k, none⟩ = some (.int .i64 X)) (R := fun _ => True) (k := 100) (m := 100) (by kernel_rfl) ⟨c0, c1⟩ trivial ?_
          (refine Walk.take (i := 0) (oi := { dst := some 29, op := Op.move (Operand.tmp 7), type := 3, pos := "ref.go:117", after := #[], guard := none }) (v := ?_) rfl (by kernel_rfl) (by kernel_rfl) (by kernel_rfl) (by kernel_rfl) (fun _ _ _ h => h) (Or.inl ⟨by rfl, ?_⟩) ?_; rotate_left; (intro w hw; clear hw; (try go_split_ands); go_simp; try (with_reducible rfl)); simp only [Act.put, List.setIfInBounds_toArray, List.set_cons_zero, List.set_cons_succ])
          (refine Walk.take (i := 1) (oi := { dst := some 30, op := Op.move (Operand.tmp 5), type := 22, pos := "ref.go:117", after := #[], guard := none }) (v := ?_) rfl (by kernel_rfl) (by kernel_rfl) (by kernel_rfl) (by kernel_rfl) (fun _ _ _ h => h) (Or.inl ⟨by rfl, ?_⟩) ?_; rotate_left; (intro w hw; clear hw; (try go_split_ands); go_simp; try (with_reducible rfl)); simp only [Act.put, List.setIfInBounds_toArray, List.set_cons_zero, List.set_cons_succ])
          (refine Walk.take (i := 2) (oi := { dst := some 31, op := Op.move (Operand.tmp 8), type := 3, pos := "ref.go:117", after := #[], guard := none }) (v := ?_) rfl (by kernel_rfl) (by kernel_rfl) (by kernel_rfl) (by kernel_rfl) (fun _ _ _ h => h) (Or.inl ⟨by rfl, ?_⟩) ?_; rotate_left; (intro w hw; clear hw; (try go_split_ands); go_simp; try (with_reducible rfl)); simp only [Act.put, List.setIfInBounds_toArray, List.set_cons_zero, List.set_cons_succ])
          (refine Walk.take (i := 3) (oi := { dst := some 32, op := Op.indexAddr 22 (Operand.tmp 30) (Operand.tmp 31), type := 0, pos := "ref.go:117", after := #[{ on := 1, ground := Ground.data }, { on := 2, ground := Ground.data }], guard := none }) (v := ?_) rfl (by kernel_rfl) (by kernel_rfl) (by kernel_rfl) (by kernel_rfl) (fun _ _ _ h => h) (Or.inl ⟨by rfl, ?_⟩) ?_; rotate_left; (intro w hw; clear hw; (try go_split_ands); go_simp; try (with_reducible rfl)); simp only [Act.put, List.setIfInBounds_toArray, List.set_cons_zero, List.set_cons_succ])
          (refine Walk.take (i := 4) (oi := { dst := some 33, op := Op.load 3 (Operand.tmp 32), type := 3, pos := "ref.go:117", after := #[{ on := 3, ground := Ground.data }], guard := none }) (v := ?_) rfl (by kernel_rfl) (by kernel_rfl) (by kernel_rfl) (by kernel_rfl) (fun _ _ _ h => h) (Or.inl ⟨by rfl, ?_⟩) ?_; rotate_left; (intro w hw; have hS1 := hw.1 (by kernel_rfl); clear hw; (try dsimp only at hS1); (try go_split_ands); go_simp; try (with_reducible rfl)); simp only [Act.put, List.setIfInBounds_toArray, List.set_cons_zero, List.set_cons_succ])
          (refine Walk.take (i := 5) (oi := { dst := some 34, op := Op.move (Operand.tmp 8), type := 3, pos := "ref.go:117", after := #[], guard := none }) (v := ?_) rfl (by kernel_rfl) (by kernel_rfl) (by kernel_rfl) (by kernel_rfl) (fun _ _ _ h => h) (Or.inl ⟨by rfl, ?_⟩) ?_; rotate_left; (intro w hw; clear hw; (try go_split_ands); go_simp; try (with_reducible rfl)); simp only [Act.put, List.setIfInBounds_toArray, List.set_cons_zero, List.set_cons_succ])
          (refine Walk.take (i := 6) (oi := { dst := some 35, op := Op.indexAddr 35 (Operand.tmp 6) (Operand.tmp 34), type := 0, pos := "ref.go:117", after := #[{ on := 5, ground := Ground.data }], guard := none }) (v := ?_) rfl (by kernel_rfl) (by kernel_rfl) (by kernel_rfl) (by kernel_rfl) (fun _ _ _ h => h) (Or.inl ⟨by rfl, ?_⟩) ?_; rotate_left; (intro w hw; clear hw; (try go_split_ands); go_simp; try (with_reducible rfl)); simp only [Act.put, List.setIfInBounds_toArray, List.set_cons_zero, List.set_cons_succ])
          (refine Walk.take (i := 7) (oi := { dst := some 36, op := Op.fieldAddr 34 (Operand.tmp 35) 0, type := 0, pos := "ref.go:117", after := #[{ on := 6, ground := Ground.data }], guard := none }) (v := ?_) rfl (by kernel_rfl) (by kernel_rfl) (by kernel_rfl) (by kernel_rfl) (fun _ _ _ h => h) (Or.inl ⟨by rfl, ?_⟩) ?_; rotate_left; (intro w hw; clear hw; (try go_split_ands); go_simp; try (with_reducible rfl)); simp only [Act.put, List.setIfInBounds_toArray, List.set_cons_zero, List.set_cons_succ])
          (refine Walk.take (i := 8) (oi := { dst := some 37, op := Op.load 3 (Operand.tmp 36), type := 3, pos := "ref.go:117", after := #[{ on := 7, ground := Ground.data }], guard := none }) (v := ?_) rfl (by kernel_rfl) (by kernel_rfl) (by kernel_rfl) (by kernel_rfl) (fun _ _ _ h => h) (Or.inl ⟨by rfl, ?_⟩) ?_; rotate_left; (intro w hw; have hS1 := hw.1 (by kernel_rfl); clear hw; (try dsimp only at hS1); (try go_split_ands); go_simp; try (with_reducible rfl)); simp only [Act.put, List.setIfInBounds_toArray, List.set_cons_zero, List.set_cons_succ])
          (refine Walk.take (i := 9) (oi := { dst := some 38, op := Op.binOp BinOp.mul 3 (Operand.tmp 33) (Operand.tmp 37) 3, type := 3, pos := "ref.go:117", after := #[{ on := 4, ground := Ground.data }, { on := 8, ground := Ground.data }], guard := none }) (v := ?_) rfl (by kernel_rfl) (by kernel_rfl) (by kernel_rfl) (by kernel_rfl) (fun _ _ _ h => h) (Or.inl ⟨by rfl, ?_⟩) ?_; rotate_left; (intro w hw; clear hw; (try go_split_ands); go_simp; try (with_reducible rfl)); simp only [Act.put, List.setIfInBounds_toArray, List.set_cons_zero, List.set_cons_succ])
          (refine Walk.take (i := 10) (oi := { dst := some 39, op := Op.binOp BinOp.add 3 (Operand.tmp 29) (Operand.tmp 38) 3, type := 3, pos := "ref.go:117", after := #[{ on := 0, ground := Ground.data }, { on := 9, ground := Ground.data }], guard := none }) (v := ?_) rfl (by kernel_rfl) (by kernel_rfl) (by kernel_rfl) (by kernel_rfl) (fun _ _ _ h => h) (Or.inl ⟨by rfl, ?_⟩) ?_; rotate_left; (intro w hw; clear hw; (try go_split_ands); go_simp; try (with_reducible rfl)); simp only [Act.put, List.setIfInBounds_toArray, List.set_cons_zero, List.set_cons_succ])
          (refine Walk.take (i := 11) (oi := { dst := some 7, op := Op.assign (Operand.tmp 39), type := 3, pos := "ref.go:117", after := #[{ on := 10, ground := Ground.data }, { on := 0, ground := Ground.phase }, { on := 1, ground := Ground.phase }, { on := 2, ground := Ground.phase }, { on := 3, ground := Ground.phase }, { on := 4, ground := Ground.phase }, { on := 5, ground := Ground.phase }, { on := 6, ground := Ground.phase }, { on := 7, ground := Ground.phase }, { on := 8, ground := Ground.phase }, { on := 9, ground := Ground.phase }, { on := 10, ground := Ground.phase }], guard := none }) (v := ?_) rfl (by kernel_rfl) (by kernel_rfl) (by kernel_rfl) (by kernel_rfl) (fun _ _ _ h => h) (Or.inl ⟨by rfl, ?_⟩) ?_; rotate_left; (intro w hw; clear hw; (try go_split_ands); go_simp; try (with_reducible rfl)); simp only [Act.put, List.setIfInBounds_toArray, List.set_cons_zero, List.set_cons_succ])
          refine Walk.done (by kernel_rfl) ?_ _
          go_wp2_with fail
          go_roundw
          case rel => exact ⟨k + 1, by omega, by go_num, by rw [hsm.out], HS.out, HK.out.drew⟩
          case measure => simp [intOf]; omega
    · obtain rfl : k = 256 := by omega
      have HR : Hid (sm (fun v => wtF o v * codN c l v) 256 = costF c l (wtF o)) := (costF_all HALL.out).symm
      have HK : Hid _ := kk
      clear kk
      generalize sm (fun v => wtF o v * codN c l v) 256 = Y at *
      go_wp2_with fail
      go_ret
      rw [HR.out]
      exact ⟨rfl, HK.out.but⟩

end Go.Proofs.Ytlpeplihbdcklaa
