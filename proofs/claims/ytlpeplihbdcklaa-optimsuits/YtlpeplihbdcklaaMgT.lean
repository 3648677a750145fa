import Derived.Test.YtlpeplihbdcklaaMgS
import Derived.Test.YtlpeplihbdcklaaHuTake

/- Merging two sorted runs of bytes in place. -/
namespace Go.Proofs.Ytlpeplihbdcklaa
set_option linter.unusedVariables false
open Go.ChangeShapes Go.WideShapes Go.ChangeAt Go.RowKit

theorem rotF_nil {f : Nat → Int} {s m e : Nat} (h : s = m ∨ e ≤ m) : rotF f s m e = f := by
  funext k
  unfold rotF
  by_cases q : s ≤ k ∧ k < e
  · rw [if_pos q]
    rcases h with h | h
    · subst h
      rw [if_pos (by omega)]; congr 1; omega
    · rw [if_neg (by omega)]; congr 1; omega
  · rw [if_neg q]

theorem rot_step1 (f : Nat → Int) (a m k : Nat) (h1 : m = a + 1) (h2 : a ≤ k) : swpI (rotF f a m (k + 1)) k (k + 1) = rotF f a m (k + 1 + 1) := by
  subst h1
  funext x
  unfold swpI rotF
  repeat' split
  all_goals first | omega | rfl | (congr 1; omega)
theorem rot_step2 (f : Nat → Int) (k m : Nat) (h : 0 < k) (h2 : k ≤ m) : swpI (rotF f k m (m + 1)) k (k - 1) = rotF f (k - 1) m (m + 1) := by
  funext x
  unfold swpI rotF
  repeat' split
  all_goals first | omega | rfl | (congr 1; omega)

/-- One value ahead of a run. -/
theorem case1_end {z : Nat → Nat} {f : Nat → Int} {a m b i : Nat} (hA : SortedOn z f a m) (hB : SortedOn z f m b) (c1 : m - a = 1) (i1 : m ≤ i) (i3 : i ≤ b) (q1 : i = m ∨ ltV z (f (i - 1)) (f a)) (q2 : i = b ∨ ltV z (f a) (f i)) : SortedOn z (rotF f a m i) a b ∧ Same f (rotF f a m i) a b := by
  have S : Spl z f a a m i b := ⟨Nat.le_refl _, by omega, i1, i3, fun h => by omega, fun h _ => by
    rcases q1 with q | q
    · omega
    · exact q⟩
  have hl := S.left hA hB
  have hr := S.right hA hB
  refine merged S hA hB hl.2 (Same.refl _ _ _) (hr.1.join hr.2 (fun x y x1 x2 y1 y2 => ?_)) (Same.refl _ _ _)
  rw [rotF_hi _ _ _ _ _ x1 x2, rotF_out _ _ _ _ _ (by omega : ¬ (a ≤ y ∧ y < i)), show a + (x - (a + (i - m))) = a by omega]
  rcases q2 with q | q
  · omega
  · exact hB.ge i1 y1 y2 q
/-- One value behind a run. -/
theorem case2_end {z : Nat → Nat} {f : Nat → Int} {a m b i : Nat} (hA : SortedOn z f a m) (hB : SortedOn z f m b) (c1 : b - m = 1) (i1 : a ≤ i) (i3 : i ≤ m) (q1 : i = a ∨ ltV z (f (i - 1)) (f m)) (q2 : i = m ∨ ltV z (f m) (f i)) : SortedOn z (rotF f i m b) a b ∧ Same f (rotF f i m b) a b := by
  have S : Spl z f a i m b b := ⟨i1, i3, by omega, Nat.le_refl _, fun _ h => by omega, fun h h2 => by
    rw [show b - 1 = m by omega]
    rcases q2 with q | q
    · omega
    · exact q⟩
  have hl := S.left hA hB
  have hr := S.right hA hB
  refine merged S hA hB (hl.1.join hl.2 (fun x y x1 x2 y1 y2 => ?_)) (Same.refl _ _ _) hr.1 (Same.refl _ _ _)
  rw [rotF_out _ _ _ _ _ (by omega : ¬ (i ≤ x ∧ x < b)), rotF_lo _ _ _ _ _ y1 y2 i3 (by omega), show m + (y - i) = m by omega]
  rcases q1 with q | q
  · omega
  · exact hA.le x1 (show x ≤ i - 1 by omega) (by omega) q

set_option maxHeartbeats 6400000 in
set_option maxRecDepth 100000 in
theorem sm_case1 (z : Nat → Nat) (zb D n cap : Nat) (R : List Value) (hn : n ≤ 100000) (hne : zb ≠ D) (a m b : Nat) (f : Nat → Int) (w : World) (ham : a < m) (hmb : m < b) (hbn : b ≤ n) (hf : ∀ i, i < n → 0 ≤ f i ∧ f i ≤ 255) (hA : SortedOn z f a m) (hB : SortedOn z f m b) (hC : Cr z f a m b)
    (hz : Cells w zb 47 (tab .i64 257 (fun i => (z i : Int)))) (hd : Cells w D 5 (tab .u8 n f ++ R)) (c1 : m - a = 1) : Calls Try.prog 59 #[dv D n cap, .int .i64 a, .int .i64 m, .int .i64 b, cmpV zb] w fun e w' => e = .returned (.tuple #[]) ∧ ∃ g, Cells w' D 5 (tab .u8 n g ++ R) ∧ SortedOn z g a b ∧ Same f g a b ∧ But (fun k => k = D) w w' := by
  have hu8 := Try.underlying5
  have r1 : IntKind.i64.wrap ((m : Int) - (a : Int)) = ((m - a : Nat) : Int) := by rw [wrap_i64_eq, w64 _ (by omega)]; omega
  have r2 : IntKind.i64.wrap ((b : Int) - (m : Int)) = ((b - m : Nat) : Int) := by rw [wrap_i64_eq, w64 _ (by omega)]; omega
  rw [c1] at r1
  go_enter Try.func59, Try.ntmps59
  go_upto_region 3 with fail
  go_loopw [10, 11] (fun v u V => ∃ i j : Nat, v = .int .i64 i ∧ u = .int .i64 j ∧ m ≤ i ∧ i ≤ j ∧ j ≤ b ∧ (i = m ∨ ltV z (f (i - 1)) (f a)) ∧ (j = b ∨ ltV z (f a) (f j)) ∧ Cells V D 5 (tab .u8 n f ++ R) ∧ But (fun k => k = D) w V) (fun v u _ => (intOf u).toNat - (intOf v).toNat)
  case atStart => exact ⟨m, b, rfl, rfl, Nat.le_refl _, by omega, Nat.le_refl _, .inl rfl, .inl rfl, hd, But.refl _ _⟩
  case round =>
    obtain ⟨i, j, rfl, rfl, i1, i2, i3, q1, q2, ks, hBt⟩ := hrel
    by_cases hlt : i < j
    · have d1 : decide ((i : Int) < (j : Int)) = true := by simp; omega
      have hzR := hz.but hBt hne
      obtain ⟨H, hH⟩ : ∃ H, (i + j) / 2 = H := ⟨_, rfl⟩
      have rH : ((i : Int) + (j : Int)) / 2 = (H : Int) := by omega
      have H0 : (0 : Int) ≤ (H : Int) := by omega
      have H1 : (H : Int) < (n : Int) := by omega
      have H2 : i ≤ H ∧ H < j := by omega
      have sH : IntKind.i64.wrap ((H : Int) + 1) = ((H + 1 : Nat) : Int) := by rw [wrap_i64_eq, w64 _ (by omega)]; omega
      have a0 : (0 : Int) ≤ (a : Int) := by omega
      have a1 : (a : Int) < (n : Int) := by omega
      go_wp2_with fail
      try rw [rH]
      have x0 := ks.cellA H (by omega)
      have y0 := ks.cellA a (by omega)
      have hlw := ks.lt
      have hzW := hzR.but ((But.refl Nowhere wr).drew) (not_nowhere _)
      refine wp_region_till (S := fun V => V.cell? ⟨D, H, none⟩ = some (.int .u8 (f H)) ∧ V.cell? ⟨D, a, none⟩ = some (.int .u8 (f a))) (R := fun _ => True) (k := 100) (m := 100) (by kernel_rfl) ⟨x0, y0⟩ trivial ?_
      (refine Walk.take (i := 0) (oi := { dst := some 40, op := Op.move (Operand.tmp 4), type := 74, pos := "zsortanyfunc.go:390", after := #[], guard := none }) (v := ?_) rfl (by kernel_rfl) (by kernel_rfl) (by kernel_rfl) (by kernel_rfl) (fun _ _ _ h => h) (Or.inl ⟨by rfl, ?_⟩) ?_; rotate_left; (intro w hw; clear hw; (try go_split_ands); go_simp; try (with_reducible rfl)); simp only [Act.put, List.setIfInBounds_toArray, List.set_cons_zero, List.set_cons_succ])
      (refine Walk.take (i := 1) (oi := { dst := some 41, op := Op.move (Operand.tmp 0), type := 23, pos := "zsortanyfunc.go:390", after := #[], guard := none }) (v := ?_) rfl (by kernel_rfl) (by kernel_rfl) (by kernel_rfl) (by kernel_rfl) (fun _ _ _ h => h) (Or.inl ⟨by rfl, ?_⟩) ?_; rotate_left; (intro w hw; clear hw; (try go_split_ands); go_simp; try (with_reducible rfl)); simp only [Act.put, List.setIfInBounds_toArray, List.set_cons_zero, List.set_cons_succ])
      (refine Walk.take (i := 2) (oi := { dst := some 42, op := Op.move (Operand.tmp 12), type := 3, pos := "zsortanyfunc.go:390", after := #[], guard := none }) (v := ?_) rfl (by kernel_rfl) (by kernel_rfl) (by kernel_rfl) (by kernel_rfl) (fun _ _ _ h => h) (Or.inl ⟨by rfl, ?_⟩) ?_; rotate_left; (intro w hw; clear hw; (try go_split_ands); go_simp; try (with_reducible rfl)); simp only [Act.put, List.setIfInBounds_toArray, List.set_cons_zero, List.set_cons_succ])
      (refine Walk.take (i := 3) (oi := { dst := some 43, op := Op.indexAddr 23 (Operand.tmp 41) (Operand.tmp 42), type := 0, pos := "zsortanyfunc.go:390", after := #[{ on := 1, ground := Ground.data }, { on := 2, ground := Ground.data }], guard := none }) (v := ?_) rfl (by kernel_rfl) (by kernel_rfl) (by kernel_rfl) (by kernel_rfl) (fun _ _ _ h => h) (Or.inl ⟨by rfl, ?_⟩) ?_; rotate_left; (intro w hw; clear hw; (try go_split_ands); go_simp; try (with_reducible rfl)); simp only [Act.put, List.setIfInBounds_toArray, List.set_cons_zero, List.set_cons_succ])
      (refine Walk.take (i := 4) (oi := { dst := some 44, op := Op.load 5 (Operand.tmp 43), type := 5, pos := "zsortanyfunc.go:390", after := #[{ on := 3, ground := Ground.data }], guard := none }) (v := ?_) rfl (by kernel_rfl) (by kernel_rfl) (by kernel_rfl) (by kernel_rfl) (fun _ _ _ h => h) (Or.inl ⟨by rfl, ?_⟩) ?_; rotate_left; (intro w hw; have hS1 := hw.1 (by kernel_rfl); clear hw; (try dsimp only at hS1); (try go_split_ands); go_simp; try (with_reducible rfl)); simp only [Act.put, List.setIfInBounds_toArray, List.set_cons_zero, List.set_cons_succ])
      (refine Walk.take (i := 5) (oi := { dst := some 45, op := Op.move (Operand.tmp 0), type := 23, pos := "zsortanyfunc.go:390", after := #[], guard := none }) (v := ?_) rfl (by kernel_rfl) (by kernel_rfl) (by kernel_rfl) (by kernel_rfl) (fun _ _ _ h => h) (Or.inl ⟨by rfl, ?_⟩) ?_; rotate_left; (intro w hw; clear hw; (try go_split_ands); go_simp; try (with_reducible rfl)); simp only [Act.put, List.setIfInBounds_toArray, List.set_cons_zero, List.set_cons_succ])
      (refine Walk.take (i := 6) (oi := { dst := some 46, op := Op.move (Operand.tmp 1), type := 3, pos := "zsortanyfunc.go:390", after := #[], guard := none }) (v := ?_) rfl (by kernel_rfl) (by kernel_rfl) (by kernel_rfl) (by kernel_rfl) (fun _ _ _ h => h) (Or.inl ⟨by rfl, ?_⟩) ?_; rotate_left; (intro w hw; clear hw; (try go_split_ands); go_simp; try (with_reducible rfl)); simp only [Act.put, List.setIfInBounds_toArray, List.set_cons_zero, List.set_cons_succ])
      (refine Walk.take (i := 7) (oi := { dst := some 47, op := Op.indexAddr 23 (Operand.tmp 45) (Operand.tmp 46), type := 0, pos := "zsortanyfunc.go:390", after := #[{ on := 5, ground := Ground.data }, { on := 6, ground := Ground.data }], guard := none }) (v := ?_) rfl (by kernel_rfl) (by kernel_rfl) (by kernel_rfl) (by kernel_rfl) (fun _ _ _ h => h) (Or.inl ⟨by rfl, ?_⟩) ?_; rotate_left; (intro w hw; clear hw; (try go_split_ands); go_simp; try (with_reducible rfl)); simp only [Act.put, List.setIfInBounds_toArray, List.set_cons_zero, List.set_cons_succ])
      (refine Walk.take (i := 8) (oi := { dst := some 48, op := Op.load 5 (Operand.tmp 47), type := 5, pos := "zsortanyfunc.go:390", after := #[{ on := 7, ground := Ground.data }], guard := none }) (v := ?_) rfl (by kernel_rfl) (by kernel_rfl) (by kernel_rfl) (by kernel_rfl) (fun _ _ _ h => h) (Or.inl ⟨by rfl, ?_⟩) ?_; rotate_left; (intro w hw; have hS1 := hw.1 (by kernel_rfl); clear hw; (try dsimp only at hS1); (try go_split_ands); go_simp; try (with_reducible rfl)); simp only [Act.put, List.setIfInBounds_toArray, List.set_cons_zero, List.set_cons_succ])
      (refine Walk.go (i := 9) (o := { dst := some 49, op := Op.call { callee := Callee.value (Operand.tmp 40), args := #[Operand.tmp 44, Operand.tmp 48], argTypes := #[5, 5] }, type := 3, pos := "zsortanyfunc.go:390", after := #[{ on := 0, ground := Ground.data }, { on := 4, ground := Ground.data }, { on := 8, ground := Ground.data }], guard := none }) (by kernel_rfl) rfl (fun K hK => ?_); go_simp; ((go_at_call 45; refine (cmp_any z zb _ _ (hf H (by omega)) (hf a (by omega)) _ hzW).mono ?_; rintro e y ⟨rfl, dy⟩)); refine hK.out _ _ (⟨fun _ => ⟨(dy.cell hlw (not_nowhere _)).trans x0, (dy.cell hlw (not_nowhere _)).trans y0⟩, fun _ => trivial⟩) ?_; clear hK K; try simp only [Act.put, List.setIfInBounds_toArray, List.set_cons_zero, List.set_cons_succ])
      (refine Walk.take (i := 10) (oi := { dst := some 50, op := Op.binOp BinOp.lss 3 (Operand.tmp 49) (Operand.const (Value.int IntKind.i64 0)) 3, type := 4, pos := "zsortanyfunc.go:390", after := #[{ on := 9, ground := Ground.data }], guard := none }) (v := ?_) rfl (by kernel_rfl) (by kernel_rfl) (by kernel_rfl) (by kernel_rfl) (fun _ _ _ h => h) (Or.inl ⟨by rfl, ?_⟩) ?_; rotate_left; (intro w hw; clear hw; (try go_split_ands); go_simp; try (with_reducible rfl)); simp only [Act.put, List.setIfInBounds_toArray, List.set_cons_zero, List.set_cons_succ])
      refine Walk.done (by kernel_rfl) ?_ _
      have hY : But Nowhere wr y := ((But.refl _ _).drew).trans dy
      replace ks := ks.but hY (not_nowhere _)
      clear x0 y0 hlw hzW dy
      by_cases q3 : z (f H).toNat < z (f a).toNat
      · have d3 : cmpI (z (f H).toNat : Int) (z (f a).toNat : Int) < 0 := (cmpI_lt _ _).2 (by omega)
        have d4 : decide (cmpI (z (f H).toNat : Int) (z (f a).toNat : Int) < 0) = true := by simpa using d3
        have d5 : (!decide (cmpI (z (f H).toNat : Int) (z (f a).toNat : Int) < 0)) = false := by rw [d4]; rfl
        have d6 : decide (0 ≤ cmpI (z (f H).toNat : Int) (z (f a).toNat : Int)) = false := by simp; omega
        have HN : Hid _ := ((hC.lt (i := a) (j := H) (Nat.le_refl _) ham (by omega) (by omega)).1).1 q3
        try rw [d5]
        clear d5
        clear q3
        generalize cmpI (z (f H).toNat : Int) (z (f a).toNat : Int) = c at *
        go_wp2_with fail
        go_roundw
        case rel => exact ⟨H + 1, j, by first | rfl | rw [sH] | go_num, rfl, by omega, by omega, i3, .inr (by rw [Nat.add_sub_cancel]; exact HN.out), q2, ks, (hBt.step hY (fun _ _ h => h.elim))⟩
        case measure => simp [intOf]; omega
      · have d3 : 0 ≤ cmpI (z (f H).toNat : Int) (z (f a).toNat : Int) := by have := cmpI_lt (z (f H).toNat : Int) (z (f a).toNat : Int); omega
        have d4 : decide (cmpI (z (f H).toNat : Int) (z (f a).toNat : Int) < 0) = false := by simpa using d3
        have d5 : (!decide (cmpI (z (f H).toNat : Int) (z (f a).toNat : Int) < 0)) = true := by rw [d4]; rfl
        have d6 : decide (0 ≤ cmpI (z (f H).toNat : Int) (z (f a).toNat : Int)) = true := by simpa using d3
        have HN : Hid _ := ((hC.lt (i := a) (j := H) (Nat.le_refl _) ham (by omega) (by omega)).2).1 q3
        try rw [d5]
        clear d5
        clear q3
        generalize cmpI (z (f H).toNat : Int) (z (f a).toNat : Int) = c at *
        go_wp2_with fail
        go_roundw
        case rel => exact ⟨i, H, rfl, rfl, i1, by omega, by omega, q1, .inr HN.out, ks, (hBt.step hY (fun _ _ h => h.elim))⟩
        case measure => simp [intOf]; omega
    · obtain rfl : i = j := by omega
      have d1 : decide ((i : Int) < (i : Int)) = false := by simp
      have HE := case1_end hA hB (i := i) c1 i1 i3 q1 q2
      have HEH : Hid _ := HE
      clear HE q1 q2
      have s0 : IntKind.i64.wrap ((i : Int) - 1) = ((i - 1 : Nat) : Int) := by rw [wrap_i64_eq, w64 _ (by omega)]; omega
      go_upto_region 9 with fail
      go_loopw [13] (fun v V => ∃ k : Nat, v = .int .i64 k ∧ a ≤ k ∧ k ≤ i - 1 ∧ Cells V D 5 (tab .u8 n (rotF f a m (k + 1)) ++ R) ∧ But (fun k => k = D) w V) (fun v _ => i - (intOf v).toNat)
      case atStart => exact ⟨a, rfl, Nat.le_refl _, by omega, by rw [rotF_nil (.inr (by omega))]; exact ks, hBt⟩
      case round =>
        clear ks hBt
        obtain ⟨k, rfl, k1, k2, ks, hBt⟩ := hrel
        by_cases hk : k < i - 1
        · have d2 : decide ((k : Int) < ((i - 1 : Nat) : Int)) = true := by simp; omega
          have kz : (0 : Int) ≤ (k : Int) := by omega
          have ky : (k : Int) < (n : Int) := by omega
          have kx : (0 : Int) ≤ (k : Int) + 1 := by omega
          have kw : (k : Int) + 1 < (n : Int) := by omega
          have kv : k + 1 < n := by omega
          have sk : IntKind.i64.wrap ((k : Int) + 1) = ((k + 1 : Nat) : Int) := by rw [wrap_i64_eq, w64 _ (by omega)]; omega
          have hrot := rot_step1 f a m k (by omega) k1
          generalize rotF f a m (k + 1) = g at *
          have x0 := ks.cellA k (by omega)
          have y0 := ks.cellA (k + 1) (by omega)
          go_wp2_with fail
          refine wp_region_till (S := fun V => V.cell? ⟨D, k, none⟩ = some (.int .u8 (g k)) ∧ V.cell? ⟨D, k + 1, none⟩ = some (.int .u8 (g (k + 1)))) (R := fun _ => True) (k := 15) (m := 100) (by kernel_rfl) ⟨x0, y0⟩ trivial ?_
          (refine Walk.take (i := 0) (oi := { dst := some 61, op := Op.move (Operand.tmp 0), type := 23, pos := "zsortanyfunc.go:398", after := #[], guard := none }) (v := ?_) rfl (by kernel_rfl) (by kernel_rfl) (by kernel_rfl) (by kernel_rfl) (fun _ _ _ h => h) (Or.inl ⟨by rfl, ?_⟩) ?_; rotate_left; (intro w hw; clear hw; (try go_split_ands); go_simp; try (with_reducible rfl)); simp only [Act.put, List.setIfInBounds_toArray, List.set_cons_zero, List.set_cons_succ])
          (refine Walk.take (i := 1) (oi := { dst := some 62, op := Op.move (Operand.tmp 13), type := 3, pos := "zsortanyfunc.go:398", after := #[], guard := none }) (v := ?_) rfl (by kernel_rfl) (by kernel_rfl) (by kernel_rfl) (by kernel_rfl) (fun _ _ _ h => h) (Or.inl ⟨by rfl, ?_⟩) ?_; rotate_left; (intro w hw; clear hw; (try go_split_ands); go_simp; try (with_reducible rfl)); simp only [Act.put, List.setIfInBounds_toArray, List.set_cons_zero, List.set_cons_succ])
          (refine Walk.take (i := 2) (oi := { dst := some 63, op := Op.move (Operand.tmp 0), type := 23, pos := "zsortanyfunc.go:398", after := #[{ on := 15, ground := Ground.gcOnly Departure.lateStores }], guard := none }) (v := ?_) rfl (by kernel_rfl) (by kernel_rfl) (by kernel_rfl) (by kernel_rfl) (fun _ _ _ h => h) (Or.inl ⟨by rfl, ?_⟩) ?_; rotate_left; (intro w hw; clear hw; (try go_split_ands); go_simp; try (with_reducible rfl)); simp only [Act.put, List.setIfInBounds_toArray, List.set_cons_zero, List.set_cons_succ])
          (refine Walk.take (i := 3) (oi := { dst := some 64, op := Op.move (Operand.tmp 13), type := 3, pos := "zsortanyfunc.go:398", after := #[{ on := 15, ground := Ground.gcOnly Departure.lateStores }], guard := none }) (v := ?_) rfl (by kernel_rfl) (by kernel_rfl) (by kernel_rfl) (by kernel_rfl) (fun _ _ _ h => h) (Or.inl ⟨by rfl, ?_⟩) ?_; rotate_left; (intro w hw; clear hw; (try go_split_ands); go_simp; try (with_reducible rfl)); simp only [Act.put, List.setIfInBounds_toArray, List.set_cons_zero, List.set_cons_succ])
          (refine Walk.take (i := 4) (oi := { dst := some 65, op := Op.binOp BinOp.add 3 (Operand.tmp 64) (Operand.const (Value.int IntKind.i64 1)) 3, type := 3, pos := "zsortanyfunc.go:398", after := #[{ on := 3, ground := Ground.data }, { on := 15, ground := Ground.gcOnly Departure.lateStores }], guard := none }) (v := ?_) rfl (by kernel_rfl) (by kernel_rfl) (by kernel_rfl) (by kernel_rfl) (fun _ _ _ h => h) (Or.inl ⟨by rfl, ?_⟩) ?_; rotate_left; (intro w hw; clear hw; (try go_split_ands); go_simp; try (with_reducible rfl)); simp only [Act.put, List.setIfInBounds_toArray, List.set_cons_zero, List.set_cons_succ])
          (refine Walk.take (i := 5) (oi := { dst := some 66, op := Op.move (Operand.tmp 0), type := 23, pos := "zsortanyfunc.go:398", after := #[], guard := none }) (v := ?_) rfl (by kernel_rfl) (by kernel_rfl) (by kernel_rfl) (by kernel_rfl) (fun _ _ _ h => h) (Or.inl ⟨by rfl, ?_⟩) ?_; rotate_left; (intro w hw; clear hw; (try go_split_ands); go_simp; try (with_reducible rfl)); simp only [Act.put, List.setIfInBounds_toArray, List.set_cons_zero, List.set_cons_succ])
          (refine Walk.take (i := 6) (oi := { dst := some 67, op := Op.move (Operand.tmp 13), type := 3, pos := "zsortanyfunc.go:398", after := #[], guard := none }) (v := ?_) rfl (by kernel_rfl) (by kernel_rfl) (by kernel_rfl) (by kernel_rfl) (fun _ _ _ h => h) (Or.inl ⟨by rfl, ?_⟩) ?_; rotate_left; (intro w hw; clear hw; (try go_split_ands); go_simp; try (with_reducible rfl)); simp only [Act.put, List.setIfInBounds_toArray, List.set_cons_zero, List.set_cons_succ])
          (refine Walk.take (i := 7) (oi := { dst := some 68, op := Op.binOp BinOp.add 3 (Operand.tmp 67) (Operand.const (Value.int IntKind.i64 1)) 3, type := 3, pos := "zsortanyfunc.go:398", after := #[{ on := 6, ground := Ground.data }], guard := none }) (v := ?_) rfl (by kernel_rfl) (by kernel_rfl) (by kernel_rfl) (by kernel_rfl) (fun _ _ _ h => h) (Or.inl ⟨by rfl, ?_⟩) ?_; rotate_left; (intro w hw; clear hw; (try go_split_ands); go_simp; try (with_reducible rfl)); simp only [Act.put, List.setIfInBounds_toArray, List.set_cons_zero, List.set_cons_succ])
          (refine Walk.take (i := 8) (oi := { dst := some 69, op := Op.indexAddr 23 (Operand.tmp 66) (Operand.tmp 68), type := 0, pos := "zsortanyfunc.go:398", after := #[{ on := 5, ground := Ground.data }, { on := 7, ground := Ground.data }], guard := none }) (v := ?_) rfl (by kernel_rfl) (by kernel_rfl) (by kernel_rfl) (by kernel_rfl) (fun _ _ _ h => h) (Or.inl ⟨by rfl, ?_⟩) ?_; rotate_left; (intro w hw; clear hw; (try go_split_ands); go_simp; try (with_reducible rfl)); simp only [Act.put, List.setIfInBounds_toArray, List.set_cons_zero, List.set_cons_succ])
          (refine Walk.take (i := 9) (oi := { dst := some 70, op := Op.load 5 (Operand.tmp 69), type := 5, pos := "zsortanyfunc.go:398", after := #[{ on := 8, ground := Ground.data }], guard := none }) (v := ?_) rfl (by kernel_rfl) (by kernel_rfl) (by kernel_rfl) (by kernel_rfl) (fun _ _ _ h => h) (Or.inl ⟨by rfl, ?_⟩) ?_; rotate_left; (intro w hw; have hS1 := hw.1 (by kernel_rfl); clear hw; (try dsimp only at hS1); (try go_split_ands); go_simp; try (with_reducible rfl)); simp only [Act.put, List.setIfInBounds_toArray, List.set_cons_zero, List.set_cons_succ])
          (refine Walk.take (i := 10) (oi := { dst := some 71, op := Op.move (Operand.tmp 0), type := 23, pos := "zsortanyfunc.go:398", after := #[], guard := none }) (v := ?_) rfl (by kernel_rfl) (by kernel_rfl) (by kernel_rfl) (by kernel_rfl) (fun _ _ _ h => h) (Or.inl ⟨by rfl, ?_⟩) ?_; rotate_left; (intro w hw; clear hw; (try go_split_ands); go_simp; try (with_reducible rfl)); simp only [Act.put, List.setIfInBounds_toArray, List.set_cons_zero, List.set_cons_succ])
          (refine Walk.take (i := 11) (oi := { dst := some 72, op := Op.move (Operand.tmp 13), type := 3, pos := "zsortanyfunc.go:398", after := #[], guard := none }) (v := ?_) rfl (by kernel_rfl) (by kernel_rfl) (by kernel_rfl) (by kernel_rfl) (fun _ _ _ h => h) (Or.inl ⟨by rfl, ?_⟩) ?_; rotate_left; (intro w hw; clear hw; (try go_split_ands); go_simp; try (with_reducible rfl)); simp only [Act.put, List.setIfInBounds_toArray, List.set_cons_zero, List.set_cons_succ])
          (refine Walk.take (i := 12) (oi := { dst := some 73, op := Op.indexAddr 23 (Operand.tmp 71) (Operand.tmp 72), type := 0, pos := "zsortanyfunc.go:398", after := #[{ on := 10, ground := Ground.data }, { on := 11, ground := Ground.data }], guard := none }) (v := ?_) rfl (by kernel_rfl) (by kernel_rfl) (by kernel_rfl) (by kernel_rfl) (fun _ _ _ h => h) (Or.inl ⟨by rfl, ?_⟩) ?_; rotate_left; (intro w hw; clear hw; (try go_split_ands); go_simp; try (with_reducible rfl)); simp only [Act.put, List.setIfInBounds_toArray, List.set_cons_zero, List.set_cons_succ])
          (refine Walk.take (i := 13) (oi := { dst := some 74, op := Op.load 5 (Operand.tmp 73), type := 5, pos := "zsortanyfunc.go:398", after := #[{ on := 12, ground := Ground.data }], guard := none }) (v := ?_) rfl (by kernel_rfl) (by kernel_rfl) (by kernel_rfl) (by kernel_rfl) (fun _ _ _ h => h) (Or.inl ⟨by rfl, ?_⟩) ?_; rotate_left; (intro w hw; have hS1 := hw.1 (by kernel_rfl); clear hw; (try dsimp only at hS1); (try go_split_ands); go_simp; try (with_reducible rfl)); simp only [Act.put, List.setIfInBounds_toArray, List.set_cons_zero, List.set_cons_succ])
          (refine Walk.take (i := 14) (oi := { dst := some 75, op := Op.indexAddr 23 (Operand.tmp 61) (Operand.tmp 62), type := 0, pos := "zsortanyfunc.go:398", after := #[{ on := 0, ground := Ground.data }, { on := 1, ground := Ground.data }, { on := 0, ground := Ground.phase }, { on := 1, ground := Ground.phase }, { on := 2, ground := Ground.textOnly Departure.lateStores }, { on := 3, ground := Ground.textOnly Departure.lateStores }, { on := 4, ground := Ground.textOnly Departure.lateStores }, { on := 5, ground := Ground.phase }, { on := 6, ground := Ground.phase }, { on := 7, ground := Ground.phase }, { on := 8, ground := Ground.phase }, { on := 9, ground := Ground.phase }, { on := 10, ground := Ground.textOnly Departure.lateStores }, { on := 11, ground := Ground.textOnly Departure.lateStores }, { on := 12, ground := Ground.textOnly Departure.lateStoresUnsure }, { on := 13, ground := Ground.phase }], guard := none }) (v := ?_) rfl (by kernel_rfl) (by kernel_rfl) (by kernel_rfl) (by kernel_rfl) (fun _ _ _ h => h) (Or.inl ⟨by rfl, ?_⟩) ?_; rotate_left; (intro w hw; clear hw; (try go_split_ands); go_simp; try (with_reducible rfl)); simp only [Act.put, List.setIfInBounds_toArray, List.set_cons_zero, List.set_cons_succ])
          have f7 := ks.frozenA k
          (refine Walk.go (i := 15) (o := { dst := none, op := Op.store 5 (Operand.tmp 75) (Operand.tmp 70), type := 0, pos := "zsortanyfunc.go:398", after := #[{ on := 14, ground := Ground.data }, { on := 9, ground := Ground.data }, { on := 0, ground := Ground.phase }, { on := 1, ground := Ground.phase }, { on := 2, ground := Ground.textOnly Departure.lateStores }, { on := 3, ground := Ground.textOnly Departure.lateStores }, { on := 4, ground := Ground.textOnly Departure.lateStores }, { on := 5, ground := Ground.phase }, { on := 6, ground := Ground.phase }, { on := 7, ground := Ground.phase }, { on := 8, ground := Ground.phase }, { on := 9, ground := Ground.phase }, { on := 10, ground := Ground.textOnly Departure.lateStores }, { on := 11, ground := Ground.textOnly Departure.lateStores }, { on := 12, ground := Ground.textOnly Departure.lateStoresUnsure }, { on := 13, ground := Ground.phase }], guard := none }) (by kernel_rfl) rfl (fun K hK => ?_); go_simp; (replace ks := ks.setA k (by omega) (g (k + 1))); refine hK.out _ _ (⟨fun q => absurd q (by decide), fun _ => trivial⟩) ?_; clear hK K; try simp only [Act.put, List.setIfInBounds_toArray, List.set_cons_zero, List.set_cons_succ])
          (refine Walk.take (i := 16) (oi := { dst := some 76, op := Op.indexAddr 23 (Operand.tmp 63) (Operand.tmp 65), type := 0, pos := "zsortanyfunc.go:398", after := #[{ on := 2, ground := Ground.data }, { on := 4, ground := Ground.data }, { on := 0, ground := Ground.phase }, { on := 1, ground := Ground.phase }, { on := 2, ground := Ground.phase }, { on := 3, ground := Ground.phase }, { on := 4, ground := Ground.phase }, { on := 5, ground := Ground.phase }, { on := 6, ground := Ground.phase }, { on := 7, ground := Ground.phase }, { on := 8, ground := Ground.phase }, { on := 9, ground := Ground.phase }, { on := 10, ground := Ground.phase }, { on := 11, ground := Ground.phase }, { on := 12, ground := Ground.phase }, { on := 13, ground := Ground.phase }, { on := 14, ground := Ground.phase }, { on := 15, ground := Ground.phase }], guard := none }) (v := ?_) rfl (by kernel_rfl) (by kernel_rfl) (by kernel_rfl) (by kernel_rfl) (fun _ _ _ h => h) (Or.inl ⟨by rfl, ?_⟩) ?_; rotate_left; (intro w hw; clear hw; (try go_split_ands); go_simp; try (with_reducible rfl)); simp only [Act.put, List.setIfInBounds_toArray, List.set_cons_zero, List.set_cons_succ])
          have c8 := ks.cellA (k + 1) (by omega)
          have f8 := ks.frozenA (k + 1)
          (refine Walk.go (i := 17) (o := { dst := none, op := Op.store 5 (Operand.tmp 76) (Operand.tmp 74), type := 0, pos := "zsortanyfunc.go:398", after := #[{ on := 16, ground := Ground.data }, { on := 13, ground := Ground.data }, { on := 15, ground := Ground.chain }, { on := 0, ground := Ground.phase }, { on := 1, ground := Ground.phase }, { on := 2, ground := Ground.phase }, { on := 3, ground := Ground.phase }, { on := 4, ground := Ground.phase }, { on := 5, ground := Ground.phase }, { on := 6, ground := Ground.phase }, { on := 7, ground := Ground.phase }, { on := 8, ground := Ground.phase }, { on := 9, ground := Ground.phase }, { on := 10, ground := Ground.phase }, { on := 11, ground := Ground.phase }, { on := 12, ground := Ground.phase }, { on := 13, ground := Ground.phase }, { on := 14, ground := Ground.phase }, { on := 15, ground := Ground.phase }], guard := none }) (by kernel_rfl) rfl (fun K hK => ?_); go_simp; (replace ks := ks.setA (k + 1) (by omega) (g k)); refine hK.out _ _ (⟨fun q => absurd q (by decide), fun _ => trivial⟩) ?_; clear hK K; try simp only [Act.put, List.setIfInBounds_toArray, List.set_cons_zero, List.set_cons_succ])
          refine Walk.done (by kernel_rfl) ?_ _
          go_wp2_with fail
          go_roundw
          case rel =>
            rw [two_upd, hrot] at ks
            exact ⟨k + 1, by go_num, by omega, by omega, ks, ((hBt.drew).setCell (p := ⟨D, k, none⟩) (fun _ => rfl) _).setCell (p := ⟨D, k + 1, none⟩) (fun _ => rfl) _⟩
          case measure => simp [intOf]; omega
        · obtain rfl : k = i - 1 := by omega
          rw [show i - 1 + 1 = i by omega] at ks
          have d2 : decide (((i - 1 : Nat) : Int) < ((i - 1 : Nat) : Int)) = false := by simp
          go_wp2_with fail
          refine bodyPost_ret (results_none rfl _ _ _) rfl ?_
          exact ⟨rfl, _, ks, HEH.out.1, HEH.out.2, hBt⟩

set_option maxHeartbeats 6400000 in
set_option maxRecDepth 100000 in
theorem sm_case2 (z : Nat → Nat) (zb D n cap : Nat) (R : List Value) (hn : n ≤ 100000) (hne : zb ≠ D) (a m b : Nat) (f : Nat → Int) (w : World) (ham : a < m) (hmb : m < b) (hbn : b ≤ n) (hf : ∀ i, i < n → 0 ≤ f i ∧ f i ≤ 255) (hA : SortedOn z f a m) (hB : SortedOn z f m b) (hC : Cr z f a m b)
    (hz : Cells w zb 47 (tab .i64 257 (fun i => (z i : Int)))) (hd : Cells w D 5 (tab .u8 n f ++ R)) (c1 : m - a ≠ 1) (c2 : b - m = 1) : Calls Try.prog 59 #[dv D n cap, .int .i64 a, .int .i64 m, .int .i64 b, cmpV zb] w fun e w' => e = .returned (.tuple #[]) ∧ ∃ g, Cells w' D 5 (tab .u8 n g ++ R) ∧ SortedOn z g a b ∧ Same f g a b ∧ But (fun k => k = D) w w' := by
  have hu8 := Try.underlying5
  have r1 : IntKind.i64.wrap ((m : Int) - (a : Int)) = ((m - a : Nat) : Int) := by rw [wrap_i64_eq, w64 _ (by omega)]; omega
  have r2 : IntKind.i64.wrap ((b : Int) - (m : Int)) = ((b - m : Nat) : Int) := by rw [wrap_i64_eq, w64 _ (by omega)]; omega
  have c1' : (((m - a : Nat) : Int) == 1) = false := by simp; omega
  rw [c2] at r2
  go_enter Try.func59, Try.ntmps59
  go_upto_region 15 with fail
  go_loopw [14, 15] (fun v u V => ∃ i j : Nat, v = .int .i64 i ∧ u = .int .i64 j ∧ a ≤ i ∧ i ≤ j ∧ j ≤ m ∧ (i = a ∨ ltV z (f (i - 1)) (f m)) ∧ (j = m ∨ ltV z (f m) (f j)) ∧ Cells V D 5 (tab .u8 n f ++ R) ∧ But (fun k => k = D) w V) (fun v u _ => (intOf u).toNat - (intOf v).toNat)
  case atStart => exact ⟨a, m, rfl, rfl, Nat.le_refl _, by omega, Nat.le_refl _, .inl rfl, .inl rfl, hd, But.refl _ _⟩
  case round =>
    obtain ⟨i, j, rfl, rfl, i1, i2, i3, q1, q2, ks, hBt⟩ := hrel
    by_cases hlt : i < j
    · have d1 : decide ((i : Int) < (j : Int)) = true := by simp; omega
      have hzR := hz.but hBt hne
      obtain ⟨H, hH⟩ : ∃ H, (i + j) / 2 = H := ⟨_, rfl⟩
      have rH : ((i : Int) + (j : Int)) / 2 = (H : Int) := by omega
      have H0 : (0 : Int) ≤ (H : Int) := by omega
      have H1 : (H : Int) < (n : Int) := by omega
      have H2 : i ≤ H ∧ H < j := by omega
      have sH : IntKind.i64.wrap ((H : Int) + 1) = ((H + 1 : Nat) : Int) := by rw [wrap_i64_eq, w64 _ (by omega)]; omega
      have a0 : (0 : Int) ≤ (m : Int) := by omega
      have a1 : (m : Int) < (n : Int) := by omega
      go_wp2_with fail
      try rw [rH]
      have x0 := ks.cellA m (by omega)
      have y0 := ks.cellA H (by omega)
      have hlw := ks.lt
      have hzW := hzR.but ((But.refl Nowhere wr).drew) (not_nowhere _)
      refine wp_region_till (S := fun V => V.cell? ⟨D, m, none⟩ = some (.int .u8 (f m)) ∧ V.cell? ⟨D, H, none⟩ = some (.int .u8 (f H))) (R := fun _ => True) (k := 100) (m := 100) (by kernel_rfl) ⟨x0, y0⟩ trivial ?_
      (refine Walk.take (i := 0) (oi := { dst := some 92, op := Op.move (Operand.tmp 4), type := 74, pos := "zsortanyfunc.go:414", after := #[], guard := none }) (v := ?_) rfl (by kernel_rfl) (by kernel_rfl) (by kernel_rfl) (by kernel_rfl) (fun _ _ _ h => h) (Or.inl ⟨by rfl, ?_⟩) ?_; rotate_left; (intro w hw; clear hw; (try go_split_ands); go_simp; try (with_reducible rfl)); simp only [Act.put, List.setIfInBounds_toArray, List.set_cons_zero, List.set_cons_succ])
      (refine Walk.take (i := 1) (oi := { dst := some 93, op := Op.move (Operand.tmp 0), type := 23, pos := "zsortanyfunc.go:414", after := #[], guard := none }) (v := ?_) rfl (by kernel_rfl) (by kernel_rfl) (by kernel_rfl) (by kernel_rfl) (fun _ _ _ h => h) (Or.inl ⟨by rfl, ?_⟩) ?_; rotate_left; (intro w hw; clear hw; (try go_split_ands); go_simp; try (with_reducible rfl)); simp only [Act.put, List.setIfInBounds_toArray, List.set_cons_zero, List.set_cons_succ])
      (refine Walk.take (i := 2) (oi := { dst := some 94, op := Op.move (Operand.tmp 2), type := 3, pos := "zsortanyfunc.go:414", after := #[], guard := none }) (v := ?_) rfl (by kernel_rfl) (by kernel_rfl) (by kernel_rfl) (by kernel_rfl) (fun _ _ _ h => h) (Or.inl ⟨by rfl, ?_⟩) ?_; rotate_left; (intro w hw; clear hw; (try go_split_ands); go_simp; try (with_reducible rfl)); simp only [Act.put, List.setIfInBounds_toArray, List.set_cons_zero, List.set_cons_succ])
      (refine Walk.take (i := 3) (oi := { dst := some 95, op := Op.indexAddr 23 (Operand.tmp 93) (Operand.tmp 94), type := 0, pos := "zsortanyfunc.go:414", after := #[{ on := 1, ground := Ground.data }, { on := 2, ground := Ground.data }], guard := none }) (v := ?_) rfl (by kernel_rfl) (by kernel_rfl) (by kernel_rfl) (by kernel_rfl) (fun _ _ _ h => h) (Or.inl ⟨by rfl, ?_⟩) ?_; rotate_left; (intro w hw; clear hw; (try go_split_ands); go_simp; try (with_reducible rfl)); simp only [Act.put, List.setIfInBounds_toArray, List.set_cons_zero, List.set_cons_succ])
      (refine Walk.take (i := 4) (oi := { dst := some 96, op := Op.load 5 (Operand.tmp 95), type := 5, pos := "zsortanyfunc.go:414", after := #[{ on := 3, ground := Ground.data }], guard := none }) (v := ?_) rfl (by kernel_rfl) (by kernel_rfl) (by kernel_rfl) (by kernel_rfl) (fun _ _ _ h => h) (Or.inl ⟨by rfl, ?_⟩) ?_; rotate_left; (intro w hw; have hS1 := hw.1 (by kernel_rfl); clear hw; (try dsimp only at hS1); (try go_split_ands); go_simp; try (with_reducible rfl)); simp only [Act.put, List.setIfInBounds_toArray, List.set_cons_zero, List.set_cons_succ])
      (refine Walk.take (i := 5) (oi := { dst := some 97, op := Op.move (Operand.tmp 0), type := 23, pos := "zsortanyfunc.go:414", after := #[], guard := none }) (v := ?_) rfl (by kernel_rfl) (by kernel_rfl) (by kernel_rfl) (by kernel_rfl) (fun _ _ _ h => h) (Or.inl ⟨by rfl, ?_⟩) ?_; rotate_left; (intro w hw; clear hw; (try go_split_ands); go_simp; try (with_reducible rfl)); simp only [Act.put, List.setIfInBounds_toArray, List.set_cons_zero, List.set_cons_succ])
      (refine Walk.take (i := 6) (oi := { dst := some 98, op := Op.move (Operand.tmp 16), type := 3, pos := "zsortanyfunc.go:414", after := #[], guard := none }) (v := ?_) rfl (by kernel_rfl) (by kernel_rfl) (by kernel_rfl) (by kernel_rfl) (fun _ _ _ h => h) (Or.inl ⟨by rfl, ?_⟩) ?_; rotate_left; (intro w hw; clear hw; (try go_split_ands); go_simp; try (with_reducible rfl)); simp only [Act.put, List.setIfInBounds_toArray, List.set_cons_zero, List.set_cons_succ])
      (refine Walk.take (i := 7) (oi := { dst := some 99, op := Op.indexAddr 23 (Operand.tmp 97) (Operand.tmp 98), type := 0, pos := "zsortanyfunc.go:414", after := #[{ on := 5, ground := Ground.data }, { on := 6, ground := Ground.data }], guard := none }) (v := ?_) rfl (by kernel_rfl) (by kernel_rfl) (by kernel_rfl) (by kernel_rfl) (fun _ _ _ h => h) (Or.inl ⟨by rfl, ?_⟩) ?_; rotate_left; (intro w hw; clear hw; (try go_split_ands); go_simp; try (with_reducible rfl)); simp only [Act.put, List.setIfInBounds_toArray, List.set_cons_zero, List.set_cons_succ])
      (refine Walk.take (i := 8) (oi := { dst := some 100, op := Op.load 5 (Operand.tmp 99), type := 5, pos := "zsortanyfunc.go:414", after := #[{ on := 7, ground := Ground.data }], guard := none }) (v := ?_) rfl (by kernel_rfl) (by kernel_rfl) (by kernel_rfl) (by kernel_rfl) (fun _ _ _ h => h) (Or.inl ⟨by rfl, ?_⟩) ?_; rotate_left; (intro w hw; have hS1 := hw.1 (by kernel_rfl); clear hw; (try dsimp only at hS1); (try go_split_ands); go_simp; try (with_reducible rfl)); simp only [Act.put, List.setIfInBounds_toArray, List.set_cons_zero, List.set_cons_succ])
      (refine Walk.go (i := 9) (o := { dst := some 101, op := Op.call { callee := Callee.value (Operand.tmp 92), args := #[Operand.tmp 96, Operand.tmp 100], argTypes := #[5, 5] }, type := 3, pos := "zsortanyfunc.go:414", after := #[{ on := 0, ground := Ground.data }, { on := 4, ground := Ground.data }, { on := 8, ground := Ground.data }], guard := none }) (by kernel_rfl) rfl (fun K hK => ?_); go_simp; ((go_at_call 45; refine (cmp_any z zb _ _ (hf m (by omega)) (hf H (by omega)) _ hzW).mono ?_; rintro e y ⟨rfl, dy⟩)); refine hK.out _ _ (⟨fun _ => ⟨(dy.cell hlw (not_nowhere _)).trans x0, (dy.cell hlw (not_nowhere _)).trans y0⟩, fun _ => trivial⟩) ?_; clear hK K; try simp only [Act.put, List.setIfInBounds_toArray, List.set_cons_zero, List.set_cons_succ])
      (refine Walk.take (i := 10) (oi := { dst := some 102, op := Op.binOp BinOp.lss 3 (Operand.tmp 101) (Operand.const (Value.int IntKind.i64 0)) 3, type := 4, pos := "zsortanyfunc.go:414", after := #[{ on := 9, ground := Ground.data }], guard := none }) (v := ?_) rfl (by kernel_rfl) (by kernel_rfl) (by kernel_rfl) (by kernel_rfl) (fun _ _ _ h => h) (Or.inl ⟨by rfl, ?_⟩) ?_; rotate_left; (intro w hw; clear hw; (try go_split_ands); go_simp; try (with_reducible rfl)); simp only [Act.put, List.setIfInBounds_toArray, List.set_cons_zero, List.set_cons_succ])
      (refine Walk.take (i := 11) (oi := { dst := some 103, op := Op.unOp UnOp.not 4 (Operand.tmp 102), type := 4, pos := "zsortanyfunc.go:414", after := #[{ on := 10, ground := Ground.data }], guard := none }) (v := ?_) rfl (by kernel_rfl) (by kernel_rfl) (by kernel_rfl) (by kernel_rfl) (fun _ _ _ h => h) (Or.inl ⟨by rfl, ?_⟩) ?_; rotate_left; (intro w hw; clear hw; (try go_split_ands); go_simp; try (with_reducible rfl)); simp only [Act.put, List.setIfInBounds_toArray, List.set_cons_zero, List.set_cons_succ])
      refine Walk.done (by kernel_rfl) ?_ _
      have hY : But Nowhere wr y := ((But.refl _ _).drew).trans dy
      replace ks := ks.but hY (not_nowhere _)
      clear x0 y0 hlw hzW dy
      by_cases q3 : z (f m).toNat < z (f H).toNat
      · have d3 : cmpI (z (f m).toNat : Int) (z (f H).toNat : Int) < 0 := (cmpI_lt _ _).2 (by omega)
        have d4 : decide (cmpI (z (f m).toNat : Int) (z (f H).toNat : Int) < 0) = true := by simpa using d3
        have d5 : (!decide (cmpI (z (f m).toNat : Int) (z (f H).toNat : Int) < 0)) = false := by rw [d4]; rfl
        have d6 : decide (0 ≤ cmpI (z (f m).toNat : Int) (z (f H).toNat : Int)) = false := by simp; omega
        have HN : Hid _ := ((hC.lt (i := H) (j := m) (by omega) (by omega) (Nat.le_refl _) hmb).1).1 q3
        try rw [d5]
        clear d5
        clear q3
        generalize cmpI (z (f m).toNat : Int) (z (f H).toNat : Int) = c at *
        go_wp2_with fail
        go_roundw
        case rel => exact ⟨i, H, rfl, rfl, i1, by omega, by omega, q1, .inr HN.out, ks, (hBt.step hY (fun _ _ h => h.elim))⟩
        case measure => simp [intOf]; omega
      · have d3 : 0 ≤ cmpI (z (f m).toNat : Int) (z (f H).toNat : Int) := by have := cmpI_lt (z (f m).toNat : Int) (z (f H).toNat : Int); omega
        have d4 : decide (cmpI (z (f m).toNat : Int) (z (f H).toNat : Int) < 0) = false := by simpa using d3
        have d5 : (!decide (cmpI (z (f m).toNat : Int) (z (f H).toNat : Int) < 0)) = true := by rw [d4]; rfl
        have d6 : decide (0 ≤ cmpI (z (f m).toNat : Int) (z (f H).toNat : Int)) = true := by simpa using d3
        have HN : Hid _ := ((hC.lt (i := H) (j := m) (by omega) (by omega) (Nat.le_refl _) hmb).2).1 q3
        try rw [d5]
        clear d5
        clear q3
        generalize cmpI (z (f m).toNat : Int) (z (f H).toNat : Int) = c at *
        go_wp2_with fail
        go_roundw
        case rel => exact ⟨H + 1, j, by first | rfl | rw [sH] | go_num, rfl, by omega, by omega, i3, .inr (by rw [Nat.add_sub_cancel]; exact HN.out), q2, ks, (hBt.step hY (fun _ _ h => h.elim))⟩
        case measure => simp [intOf]; omega
    · obtain rfl : i = j := by omega
      have d1 : decide ((i : Int) < (i : Int)) = false := by simp
      have HE := case2_end hA hB (i := i) c2 i1 i3 q1 q2
      have HEH : Hid _ := HE
      clear HE q1 q2
      go_upto_region 21 with fail
      go_loopw [17] (fun v V => ∃ k : Nat, v = .int .i64 k ∧ i ≤ k ∧ k ≤ m ∧ Cells V D 5 (tab .u8 n (rotF f k m b) ++ R) ∧ But (fun k => k = D) w V) (fun v _ => (intOf v).toNat)
      case atStart => exact ⟨m, rfl, i3, Nat.le_refl _, by rw [rotF_nil (.inl rfl)]; exact ks, hBt⟩
      case round =>
        clear ks hBt
        obtain ⟨k, rfl, k1, k2, ks, hBt⟩ := hrel
        by_cases hk : i < k
        · have d2 : decide ((k : Int) > (i : Int)) = true := by simp; omega
          have kz : (0 : Int) ≤ (k : Int) := by omega
          have ky : (k : Int) < (n : Int) := by omega
          have kx : (0 : Int) ≤ (k : Int) - 1 := by omega
          have kw : (k : Int) - 1 < (n : Int) := by omega
          have kv : k - 1 < n := by omega
          have sk : IntKind.i64.wrap ((k : Int) - 1) = ((k - 1 : Nat) : Int) := by rw [wrap_i64_eq, w64 _ (by omega)]; omega
          have hrot := rot_step2 f k m (by omega) k2
          rw [show m + 1 = b by omega] at hrot
          generalize rotF f k m b = g at *
          have x0 := ks.cellA k (by omega)
          have y0 := ks.cellA (k - 1) (by omega)
          go_wp2_with fail
          refine wp_region_till (S := fun V => V.cell? ⟨D, k, none⟩ = some (.int .u8 (g k)) ∧ V.cell? ⟨D, k - 1, none⟩ = some (.int .u8 (g (k - 1)))) (R := fun _ => True) (k := 15) (m := 100) (by kernel_rfl) ⟨x0, y0⟩ trivial ?_
          (refine Walk.take (i := 0) (oi := { dst := some 113, op := Op.move (Operand.tmp 0), type := 23, pos := "zsortanyfunc.go:422", after := #[], guard := none }) (v := ?_) rfl (by kernel_rfl) (by kernel_rfl) (by kernel_rfl) (by kernel_rfl) (fun _ _ _ h => h) (Or.inl ⟨by rfl, ?_⟩) ?_; rotate_left; (intro w hw; clear hw; (try go_split_ands); go_simp; try (with_reducible rfl)); simp only [Act.put, List.setIfInBounds_toArray, List.set_cons_zero, List.set_cons_succ])
          (refine Walk.take (i := 1) (oi := { dst := some 114, op := Op.move (Operand.tmp 17), type := 3, pos := "zsortanyfunc.go:422", after := #[], guard := none }) (v := ?_) rfl (by kernel_rfl) (by kernel_rfl) (by kernel_rfl) (by kernel_rfl) (fun _ _ _ h => h) (Or.inl ⟨by rfl, ?_⟩) ?_; rotate_left; (intro w hw; clear hw; (try go_split_ands); go_simp; try (with_reducible rfl)); simp only [Act.put, List.setIfInBounds_toArray, List.set_cons_zero, List.set_cons_succ])
          (refine Walk.take (i := 2) (oi := { dst := some 115, op := Op.move (Operand.tmp 0), type := 23, pos := "zsortanyfunc.go:422", after := #[{ on := 15, ground := Ground.gcOnly Departure.lateStores }], guard := none }) (v := ?_) rfl (by kernel_rfl) (by kernel_rfl) (by kernel_rfl) (by kernel_rfl) (fun _ _ _ h => h) (Or.inl ⟨by rfl, ?_⟩) ?_; rotate_left; (intro w hw; clear hw; (try go_split_ands); go_simp; try (with_reducible rfl)); simp only [Act.put, List.setIfInBounds_toArray, List.set_cons_zero, List.set_cons_succ])
          (refine Walk.take (i := 3) (oi := { dst := some 116, op := Op.move (Operand.tmp 17), type := 3, pos := "zsortanyfunc.go:422", after := #[{ on := 15, ground := Ground.gcOnly Departure.lateStores }], guard := none }) (v := ?_) rfl (by kernel_rfl) (by kernel_rfl) (by kernel_rfl) (by kernel_rfl) (fun _ _ _ h => h) (Or.inl ⟨by rfl, ?_⟩) ?_; rotate_left; (intro w hw; clear hw; (try go_split_ands); go_simp; try (with_reducible rfl)); simp only [Act.put, List.setIfInBounds_toArray, List.set_cons_zero, List.set_cons_succ])
          (refine Walk.take (i := 4) (oi := { dst := some 117, op := Op.binOp BinOp.sub 3 (Operand.tmp 116) (Operand.const (Value.int IntKind.i64 1)) 3, type := 3, pos := "zsortanyfunc.go:422", after := #[{ on := 3, ground := Ground.data }, { on := 15, ground := Ground.gcOnly Departure.lateStores }], guard := none }) (v := ?_) rfl (by kernel_rfl) (by kernel_rfl) (by kernel_rfl) (by kernel_rfl) (fun _ _ _ h => h) (Or.inl ⟨by rfl, ?_⟩) ?_; rotate_left; (intro w hw; clear hw; (try go_split_ands); go_simp; try (with_reducible rfl)); simp only [Act.put, List.setIfInBounds_toArray, List.set_cons_zero, List.set_cons_succ])
          (refine Walk.take (i := 5) (oi := { dst := some 118, op := Op.move (Operand.tmp 0), type := 23, pos := "zsortanyfunc.go:422", after := #[], guard := none }) (v := ?_) rfl (by kernel_rfl) (by kernel_rfl) (by kernel_rfl) (by kernel_rfl) (fun _ _ _ h => h) (Or.inl ⟨by rfl, ?_⟩) ?_; rotate_left; (intro w hw; clear hw; (try go_split_ands); go_simp; try (with_reducible rfl)); simp only [Act.put, List.setIfInBounds_toArray, List.set_cons_zero, List.set_cons_succ])
          (refine Walk.take (i := 6) (oi := { dst := some 119, op := Op.move (Operand.tmp 17), type := 3, pos := "zsortanyfunc.go:422", after := #[], guard := none }) (v := ?_) rfl (by kernel_rfl) (by kernel_rfl) (by kernel_rfl) (by kernel_rfl) (fun _ _ _ h => h) (Or.inl ⟨by rfl, ?_⟩) ?_; rotate_left; (intro w hw; clear hw; (try go_split_ands); go_simp; try (with_reducible rfl)); simp only [Act.put, List.setIfInBounds_toArray, List.set_cons_zero, List.set_cons_succ])
          (refine Walk.take (i := 7) (oi := { dst := some 120, op := Op.binOp BinOp.sub 3 (Operand.tmp 119) (Operand.const (Value.int IntKind.i64 1)) 3, type := 3, pos := "zsortanyfunc.go:422", after := #[{ on := 6, ground := Ground.data }], guard := none }) (v := ?_) rfl (by kernel_rfl) (by kernel_rfl) (by kernel_rfl) (by kernel_rfl) (fun _ _ _ h => h) (Or.inl ⟨by rfl, ?_⟩) ?_; rotate_left; (intro w hw; clear hw; (try go_split_ands); go_simp; try (with_reducible rfl)); simp only [Act.put, List.setIfInBounds_toArray, List.set_cons_zero, List.set_cons_succ])
          (refine Walk.take (i := 8) (oi := { dst := some 121, op := Op.indexAddr 23 (Operand.tmp 118) (Operand.tmp 120), type := 0, pos := "zsortanyfunc.go:422", after := #[{ on := 5, ground := Ground.data }, { on := 7, ground := Ground.data }], guard := none }) (v := ?_) rfl (by kernel_rfl) (by kernel_rfl) (by kernel_rfl) (by kernel_rfl) (fun _ _ _ h => h) (Or.inl ⟨by rfl, ?_⟩) ?_; rotate_left; (intro w hw; clear hw; (try go_split_ands); go_simp; try (with_reducible rfl)); simp only [Act.put, List.setIfInBounds_toArray, List.set_cons_zero, List.set_cons_succ])
          (refine Walk.take (i := 9) (oi := { dst := some 122, op := Op.load 5 (Operand.tmp 121), type := 5, pos := "zsortanyfunc.go:422", after := #[{ on := 8, ground := Ground.data }], guard := none }) (v := ?_) rfl (by kernel_rfl) (by kernel_rfl) (by kernel_rfl) (by kernel_rfl) (fun _ _ _ h => h) (Or.inl ⟨by rfl, ?_⟩) ?_; rotate_left; (intro w hw; have hS1 := hw.1 (by kernel_rfl); clear hw; (try dsimp only at hS1); (try go_split_ands); go_simp; try (with_reducible rfl)); simp only [Act.put, List.setIfInBounds_toArray, List.set_cons_zero, List.set_cons_succ])
          (refine Walk.take (i := 10) (oi := { dst := some 123, op := Op.move (Operand.tmp 0), type := 23, pos := "zsortanyfunc.go:422", after := #[], guard := none }) (v := ?_) rfl (by kernel_rfl) (by kernel_rfl) (by kernel_rfl) (by kernel_rfl) (fun _ _ _ h => h) (Or.inl ⟨by rfl, ?_⟩) ?_; rotate_left; (intro w hw; clear hw; (try go_split_ands); go_simp; try (with_reducible rfl)); simp only [Act.put, List.setIfInBounds_toArray, List.set_cons_zero, List.set_cons_succ])
          (refine Walk.take (i := 11) (oi := { dst := some 124, op := Op.move (Operand.tmp 17), type := 3, pos := "zsortanyfunc.go:422", after := #[], guard := none }) (v := ?_) rfl (by kernel_rfl) (by kernel_rfl) (by kernel_rfl) (by kernel_rfl) (fun _ _ _ h => h) (Or.inl ⟨by rfl, ?_⟩) ?_; rotate_left; (intro w hw; clear hw; (try go_split_ands); go_simp; try (with_reducible rfl)); simp only [Act.put, List.setIfInBounds_toArray, List.set_cons_zero, List.set_cons_succ])
          (refine Walk.take (i := 12) (oi := { dst := some 125, op := Op.indexAddr 23 (Operand.tmp 123) (Operand.tmp 124), type := 0, pos := "zsortanyfunc.go:422", after := #[{ on := 10, ground := Ground.data }, { on := 11, ground := Ground.data }], guard := none }) (v := ?_) rfl (by kernel_rfl) (by kernel_rfl) (by kernel_rfl) (by kernel_rfl) (fun _ _ _ h => h) (Or.inl ⟨by rfl, ?_⟩) ?_; rotate_left; (intro w hw; clear hw; (try go_split_ands); go_simp; try (with_reducible rfl)); simp only [Act.put, List.setIfInBounds_toArray, List.set_cons_zero, List.set_cons_succ])
          (refine Walk.take (i := 13) (oi := { dst := some 126, op := Op.load 5 (Operand.tmp 125), type := 5, pos := "zsortanyfunc.go:422", after := #[{ on := 12, ground := Ground.data }], guard := none }) (v := ?_) rfl (by kernel_rfl) (by kernel_rfl) (by kernel_rfl) (by kernel_rfl) (fun _ _ _ h => h) (Or.inl ⟨by rfl, ?_⟩) ?_; rotate_left; (intro w hw; have hS1 := hw.1 (by kernel_rfl); clear hw; (try dsimp only at hS1); (try go_split_ands); go_simp; try (with_reducible rfl)); simp only [Act.put, List.setIfInBounds_toArray, List.set_cons_zero, List.set_cons_succ])
          (refine Walk.take (i := 14) (oi := { dst := some 127, op := Op.indexAddr 23 (Operand.tmp 113) (Operand.tmp 114), type := 0, pos := "zsortanyfunc.go:422", after := #[{ on := 0, ground := Ground.data }, { on := 1, ground := Ground.data }, { on := 0, ground := Ground.phase }, { on := 1, ground := Ground.phase }, { on := 2, ground := Ground.textOnly Departure.lateStores }, { on := 3, ground := Ground.textOnly Departure.lateStores }, { on := 4, ground := Ground.textOnly Departure.lateStores }, { on := 5, ground := Ground.phase }, { on := 6, ground := Ground.phase }, { on := 7, ground := Ground.phase }, { on := 8, ground := Ground.phase }, { on := 9, ground := Ground.phase }, { on := 10, ground := Ground.textOnly Departure.lateStores }, { on := 11, ground := Ground.textOnly Departure.lateStores }, { on := 12, ground := Ground.textOnly Departure.lateStoresUnsure }, { on := 13, ground := Ground.phase }], guard := none }) (v := ?_) rfl (by kernel_rfl) (by kernel_rfl) (by kernel_rfl) (by kernel_rfl) (fun _ _ _ h => h) (Or.inl ⟨by rfl, ?_⟩) ?_; rotate_left; (intro w hw; clear hw; (try go_split_ands); go_simp; try (with_reducible rfl)); simp only [Act.put, List.setIfInBounds_toArray, List.set_cons_zero, List.set_cons_succ])
          have f7 := ks.frozenA k
          (refine Walk.go (i := 15) (o := { dst := none, op := Op.store 5 (Operand.tmp 127) (Operand.tmp 122), type := 0, pos := "zsortanyfunc.go:422", after := #[{ on := 14, ground := Ground.data }, { on := 9, ground := Ground.data }, { on := 0, ground := Ground.phase }, { on := 1, ground := Ground.phase }, { on := 2, ground := Ground.textOnly Departure.lateStores }, { on := 3, ground := Ground.textOnly Departure.lateStores }, { on := 4, ground := Ground.textOnly Departure.lateStores }, { on := 5, ground := Ground.phase }, { on := 6, ground := Ground.phase }, { on := 7, ground := Ground.phase }, { on := 8, ground := Ground.phase }, { on := 9, ground := Ground.phase }, { on := 10, ground := Ground.textOnly Departure.lateStores }, { on := 11, ground := Ground.textOnly Departure.lateStores }, { on := 12, ground := Ground.textOnly Departure.lateStoresUnsure }, { on := 13, ground := Ground.phase }], guard := none }) (by kernel_rfl) rfl (fun K hK => ?_); go_simp; (replace ks := ks.setA k (by omega) (g (k - 1))); refine hK.out _ _ (⟨fun q => absurd q (by decide), fun _ => trivial⟩) ?_; clear hK K; try simp only [Act.put, List.setIfInBounds_toArray, List.set_cons_zero, List.set_cons_succ])
          (refine Walk.take (i := 16) (oi := { dst := some 128, op := Op.indexAddr 23 (Operand.tmp 115) (Operand.tmp 117), type := 0, pos := "zsortanyfunc.go:422", after := #[{ on := 2, ground := Ground.data }, { on := 4, ground := Ground.data }, { on := 0, ground := Ground.phase }, { on := 1, ground := Ground.phase }, { on := 2, ground := Ground.phase }, { on := 3, ground := Ground.phase }, { on := 4, ground := Ground.phase }, { on := 5, ground := Ground.phase }, { on := 6, ground := Ground.phase }, { on := 7, ground := Ground.phase }, { on := 8, ground := Ground.phase }, { on := 9, ground := Ground.phase }, { on := 10, ground := Ground.phase }, { on := 11, ground := Ground.phase }, { on := 12, ground := Ground.phase }, { on := 13, ground := Ground.phase }, { on := 14, ground := Ground.phase }, { on := 15, ground := Ground.phase }], guard := none }) (v := ?_) rfl (by kernel_rfl) (by kernel_rfl) (by kernel_rfl) (by kernel_rfl) (fun _ _ _ h => h) (Or.inl ⟨by rfl, ?_⟩) ?_; rotate_left; (intro w hw; clear hw; (try go_split_ands); go_simp; try (with_reducible rfl)); simp only [Act.put, List.setIfInBounds_toArray, List.set_cons_zero, List.set_cons_succ])
          have c8 := ks.cellA (k - 1) (by omega)
          have f8 := ks.frozenA (k - 1)
          (refine Walk.go (i := 17) (o := { dst := none, op := Op.store 5 (Operand.tmp 128) (Operand.tmp 126), type := 0, pos := "zsortanyfunc.go:422", after := #[{ on := 16, ground := Ground.data }, { on := 13, ground := Ground.data }, { on := 15, ground := Ground.chain }, { on := 0, ground := Ground.phase }, { on := 1, ground := Ground.phase }, { on := 2, ground := Ground.phase }, { on := 3, ground := Ground.phase }, { on := 4, ground := Ground.phase }, { on := 5, ground := Ground.phase }, { on := 6, ground := Ground.phase }, { on := 7, ground := Ground.phase }, { on := 8, ground := Ground.phase }, { on := 9, ground := Ground.phase }, { on := 10, ground := Ground.phase }, { on := 11, ground := Ground.phase }, { on := 12, ground := Ground.phase }, { on := 13, ground := Ground.phase }, { on := 14, ground := Ground.phase }, { on := 15, ground := Ground.phase }], guard := none }) (by kernel_rfl) rfl (fun K hK => ?_); go_simp; (replace ks := ks.setA (k - 1) (by omega) (g k)); refine hK.out _ _ (⟨fun q => absurd q (by decide), fun _ => trivial⟩) ?_; clear hK K; try simp only [Act.put, List.setIfInBounds_toArray, List.set_cons_zero, List.set_cons_succ])
          refine Walk.done (by kernel_rfl) ?_ _
          go_wp2_with fail
          go_roundw
          case rel =>
            rw [two_upd, hrot] at ks
            exact ⟨k - 1, by go_num, by omega, by omega, ks, ((hBt.drew).setCell (p := ⟨D, k, none⟩) (fun _ => rfl) _).setCell (p := ⟨D, k - 1, none⟩) (fun _ => rfl) _⟩
          case measure => simp [intOf]; omega
        · obtain rfl : k = i := by omega
          have d2 : decide ((k : Int) > (k : Int)) = false := by simp
          go_wp2_with fail
          refine bodyPost_ret (results_none rfl _ _ _) rfl ?_
          exact ⟨rfl, _, ks, HEH.out.1, HEH.out.2, hBt⟩

end Go.Proofs.Ytlpeplihbdcklaa

/- Merging in place: the middle lies in the first run. -/
namespace Go.Proofs.Ytlpeplihbdcklaa
set_option linter.unusedVariables false
open Go.ChangeShapes Go.WideShapes Go.ChangeAt Go.RowKit

set_option maxHeartbeats 6400000 in
set_option maxRecDepth 100000 in
theorem sm_gen1 (z : Nat → Nat) (zb D n cap : Nat) (R : List Value) (hn : n ≤ 100000) (hne : zb ≠ D) (a m b : Nat) (f : Nat → Int) (w : World) (ham : a < m) (hmb : m < b) (hbn : b ≤ n) (hf : ∀ i, i < n → 0 ≤ f i ∧ f i ≤ 255) (hA : SortedOn z f a m) (hB : SortedOn z f m b) (hC : Cr z f a m b)
    (hz : Cells w zb 47 (tab .i64 257 (fun i => (z i : Int)))) (hd : Cells w D 5 (tab .u8 n f ++ R)) (N : Nat) (hN : b - a ≤ N + 1) (ih : ∀ (a m b : Nat) (f : Nat → Int) (w : World), b - a ≤ N → a < m → m < b → b ≤ n → (∀ i, i < n → 0 ≤ f i ∧ f i ≤ 255) → SortedOn z f a m → SortedOn z f m b → Cr z f a m b →
    Cells w zb 47 (tab .i64 257 (fun i => (z i : Int))) → Cells w D 5 (tab .u8 n f ++ R) →
    Calls Try.prog 59 #[dv D n cap, .int .i64 a, .int .i64 m, .int .i64 b, cmpV zb] w fun e w' => e = .returned (.tuple #[]) ∧ ∃ g, Cells w' D 5 (tab .u8 n g ++ R) ∧ SortedOn z g a b ∧ Same f g a b ∧ But (fun k => k = D) w w') (c1 : m - a ≠ 1) (c2 : b - m ≠ 1) (hmM : (a + b) / 2 < m) : Calls Try.prog 59 #[dv D n cap, .int .i64 a, .int .i64 m, .int .i64 b, cmpV zb] w fun e w' => e = .returned (.tuple #[]) ∧ ∃ g, Cells w' D 5 (tab .u8 n g ++ R) ∧ SortedOn z g a b ∧ Same f g a b ∧ But (fun k => k = D) w w' := by
  have hu8 := Try.underlying5
  have r1 : IntKind.i64.wrap ((m : Int) - (a : Int)) = ((m - a : Nat) : Int) := by rw [wrap_i64_eq, w64 _ (by omega)]; omega
  have r2 : IntKind.i64.wrap ((b : Int) - (m : Int)) = ((b - m : Nat) : Int) := by rw [wrap_i64_eq, w64 _ (by omega)]; omega
  have c1' : (((m - a : Nat) : Int) == 1) = false := by simp; omega
  have c2' : (((b - m : Nat) : Int) == 1) = false := by simp; omega
  obtain ⟨M, hM⟩ : ∃ M, (a + b) / 2 = M := ⟨_, rfl⟩
  obtain ⟨NN, hNN⟩ : ∃ NN, M + m = NN := ⟨_, rfl⟩
  obtain ⟨P, hP⟩ : ∃ P, NN - 1 = P := ⟨_, rfl⟩
  have rM : ((a : Int) + (b : Int)) / 2 = (M : Int) := by omega
  have rN : IntKind.i64.wrap ((M : Int) + (m : Int)) = (NN : Int) := by rw [wrap_i64_eq, w64 _ (by omega)]; omega
  have rP : IntKind.i64.wrap ((NN : Int) - 1) = (P : Int) := by rw [wrap_i64_eq, w64 _ (by omega)]; omega
  go_enter Try.func59, Try.ntmps59
  go_upto_region 25 with fail
  try rw [rM]
  rw [hM] at hmM
  have dM : decide ((m : Int) > (M : Int)) = true := by simp; omega
  obtain ⟨LO, hLO⟩ : ∃ LO, NN - b = LO := ⟨_, rfl⟩
  have rS : IntKind.i64.wrap ((NN : Int) - (b : Int)) = (LO : Int) := by rw [wrap_i64_eq, w64 _ (by omega)]; omega
  go_upto_region 33 with fail
  go_loopw [20, 21] (fun v u V => ∃ i j : Nat, v = .int .i64 i ∧ u = .int .i64 j ∧ LO ≤ i ∧ i ≤ j ∧ j ≤ M ∧ (i = LO ∨ ltV z (f (i - 1)) (f (P - (i - 1)))) ∧ (j = M ∨ ltV z (f (P - j)) (f j)) ∧ Cells V D 5 (tab .u8 n f ++ R) ∧ But (fun k => k = D) w V) (fun v u _ => (intOf u).toNat - (intOf v).toNat)
  case atStart => exact ⟨LO, M, by first | rfl | rw [rS], rfl, Nat.le_refl _, by omega, Nat.le_refl _, .inl rfl, .inl rfl, hd, But.refl _ _⟩
  case round =>
    obtain ⟨i, j, rfl, rfl, i1, i2, i3, q1, q2, ks, hBt⟩ := hrel
    by_cases hlt : i < j
    · have d1 : decide ((i : Int) < (j : Int)) = true := by simp; omega
      have hzR := hz.but hBt hne
      obtain ⟨H, hH⟩ : ∃ H, (i + j) / 2 = H := ⟨_, rfl⟩
      have rH : ((i : Int) + (j : Int)) / 2 = (H : Int) := by omega
      have H0 : (0 : Int) ≤ (H : Int) := by omega
      have H1 : (H : Int) < (n : Int) := by omega
      have H2 : i ≤ H ∧ H < j := by omega
      have sH : IntKind.i64.wrap ((H : Int) + 1) = ((H + 1 : Nat) : Int) := by rw [wrap_i64_eq, w64 _ (by omega)]; omega
      obtain ⟨Q, hQ⟩ : ∃ Q, P - H = Q := ⟨_, rfl⟩
      have rQ : IntKind.i64.wrap ((P : Int) - (H : Int)) = (Q : Int) := by rw [wrap_i64_eq, w64 _ (by omega)]; omega
      have a0 : (0 : Int) ≤ (Q : Int) := by omega
      have a1 : (Q : Int) < (n : Int) := by omega
      go_wp2_with fail
      try rw [rH]
      have x0 := ks.cellA Q (by omega)
      have y0 := ks.cellA H (by omega)
      have hlw := ks.lt
      have hzW := hzR.but ((But.refl Nowhere wr).drew) (not_nowhere _)
      refine wp_region_till (S := fun V => V.cell? ⟨D, Q, none⟩ = some (.int .u8 (f Q)) ∧ V.cell? ⟨D, H, none⟩ = some (.int .u8 (f H))) (R := fun _ => True) (k := 100) (m := 100) (by kernel_rfl) ⟨x0, y0⟩ trivial ?_
      (refine Walk.take (i := 0) (oi := { dst := some 158, op := Op.move (Operand.tmp 4), type := 74, pos := "zsortanyfunc.go:441", after := #[], guard := none }) (v := ?_) rfl (by kernel_rfl) (by kernel_rfl) (by kernel_rfl) (by kernel_rfl) (fun _ _ _ h => h) (Or.inl ⟨by rfl, ?_⟩) ?_; rotate_left; (intro w hw; clear hw; (try go_split_ands); go_simp; try (with_reducible rfl)); simp only [Act.put, List.setIfInBounds_toArray, List.set_cons_zero, List.set_cons_succ])
      (refine Walk.take (i := 1) (oi := { dst := some 159, op := Op.move (Operand.tmp 0), type := 23, pos := "zsortanyfunc.go:441", after := #[], guard := none }) (v := ?_) rfl (by kernel_rfl) (by kernel_rfl) (by kernel_rfl) (by kernel_rfl) (fun _ _ _ h => h) (Or.inl ⟨by rfl, ?_⟩) ?_; rotate_left; (intro w hw; clear hw; (try go_split_ands); go_simp; try (with_reducible rfl)); simp only [Act.put, List.setIfInBounds_toArray, List.set_cons_zero, List.set_cons_succ])
      (refine Walk.take (i := 2) (oi := { dst := some 160, op := Op.move (Operand.tmp 22), type := 3, pos := "zsortanyfunc.go:441", after := #[], guard := none }) (v := ?_) rfl (by kernel_rfl) (by kernel_rfl) (by kernel_rfl) (by kernel_rfl) (fun _ _ _ h => h) (Or.inl ⟨by rfl, ?_⟩) ?_; rotate_left; (intro w hw; clear hw; (try go_split_ands); go_simp; try (with_reducible rfl)); simp only [Act.put, List.setIfInBounds_toArray, List.set_cons_zero, List.set_cons_succ])
      (refine Walk.take (i := 3) (oi := { dst := some 161, op := Op.move (Operand.tmp 23), type := 3, pos := "zsortanyfunc.go:441", after := #[], guard := none }) (v := ?_) rfl (by kernel_rfl) (by kernel_rfl) (by kernel_rfl) (by kernel_rfl) (fun _ _ _ h => h) (Or.inl ⟨by rfl, ?_⟩) ?_; rotate_left; (intro w hw; clear hw; (try go_split_ands); go_simp; try (with_reducible rfl)); simp only [Act.put, List.setIfInBounds_toArray, List.set_cons_zero, List.set_cons_succ])
      (refine Walk.take (i := 4) (oi := { dst := some 162, op := Op.binOp BinOp.sub 3 (Operand.tmp 160) (Operand.tmp 161) 3, type := 3, pos := "zsortanyfunc.go:441", after := #[{ on := 2, ground := Ground.data }, { on := 3, ground := Ground.data }], guard := none }) (v := ?_) rfl (by kernel_rfl) (by kernel_rfl) (by kernel_rfl) (by kernel_rfl) (fun _ _ _ h => h) (Or.inl ⟨by rfl, ?_⟩) ?_; rotate_left; (intro w hw; clear hw; (try go_split_ands); go_simp; try (with_reducible rfl)); simp only [Act.put, List.setIfInBounds_toArray, List.set_cons_zero, List.set_cons_succ])
      (refine Walk.take (i := 5) (oi := { dst := some 163, op := Op.indexAddr 23 (Operand.tmp 159) (Operand.tmp 162), type := 0, pos := "zsortanyfunc.go:441", after := #[{ on := 1, ground := Ground.data }, { on := 4, ground := Ground.data }], guard := none }) (v := ?_) rfl (by kernel_rfl) (by kernel_rfl) (by kernel_rfl) (by kernel_rfl) (fun _ _ _ h => h) (Or.inl ⟨by rfl, ?_⟩) ?_; rotate_left; (intro w hw; clear hw; (try go_split_ands); go_simp; try (with_reducible rfl)); simp only [Act.put, List.setIfInBounds_toArray, List.set_cons_zero, List.set_cons_succ])
      (refine Walk.take (i := 6) (oi := { dst := some 164, op := Op.load 5 (Operand.tmp 163), type := 5, pos := "zsortanyfunc.go:441", after := #[{ on := 5, ground := Ground.data }], guard := none }) (v := ?_) rfl (by kernel_rfl) (by kernel_rfl) (by kernel_rfl) (by kernel_rfl) (fun _ _ _ h => h) (Or.inl ⟨by rfl, ?_⟩) ?_; rotate_left; (intro w hw; have hS1 := hw.1 (by kernel_rfl); clear hw; (try dsimp only at hS1); (try go_split_ands); go_simp; try (with_reducible rfl)); simp only [Act.put, List.setIfInBounds_toArray, List.set_cons_zero, List.set_cons_succ])
      (refine Walk.take (i := 7) (oi := { dst := some 165, op := Op.move (Operand.tmp 0), type := 23, pos := "zsortanyfunc.go:441", after := #[], guard := none }) (v := ?_) rfl (by kernel_rfl) (by kernel_rfl) (by kernel_rfl) (by kernel_rfl) (fun _ _ _ h => h) (Or.inl ⟨by rfl, ?_⟩) ?_; rotate_left; (intro w hw; clear hw; (try go_split_ands); go_simp; try (with_reducible rfl)); simp only [Act.put, List.setIfInBounds_toArray, List.set_cons_zero, List.set_cons_succ])
      (refine Walk.take (i := 8) (oi := { dst := some 166, op := Op.move (Operand.tmp 23), type := 3, pos := "zsortanyfunc.go:441", after := #[], guard := none }) (v := ?_) rfl (by kernel_rfl) (by kernel_rfl) (by kernel_rfl) (by kernel_rfl) (fun _ _ _ h => h) (Or.inl ⟨by rfl, ?_⟩) ?_; rotate_left; (intro w hw; clear hw; (try go_split_ands); go_simp; try (with_reducible rfl)); simp only [Act.put, List.setIfInBounds_toArray, List.set_cons_zero, List.set_cons_succ])
      (refine Walk.take (i := 9) (oi := { dst := some 167, op := Op.indexAddr 23 (Operand.tmp 165) (Operand.tmp 166), type := 0, pos := "zsortanyfunc.go:441", after := #[{ on := 7, ground := Ground.data }, { on := 8, ground := Ground.data }], guard := none }) (v := ?_) rfl (by kernel_rfl) (by kernel_rfl) (by kernel_rfl) (by kernel_rfl) (fun _ _ _ h => h) (Or.inl ⟨by rfl, ?_⟩) ?_; rotate_left; (intro w hw; clear hw; (try go_split_ands); go_simp; try (with_reducible rfl)); simp only [Act.put, List.setIfInBounds_toArray, List.set_cons_zero, List.set_cons_succ])
      (refine Walk.take (i := 10) (oi := { dst := some 168, op := Op.load 5 (Operand.tmp 167), type := 5, pos := "zsortanyfunc.go:441", after := #[{ on := 9, ground := Ground.data }], guard := none }) (v := ?_) rfl (by kernel_rfl) (by kernel_rfl) (by kernel_rfl) (by kernel_rfl) (fun _ _ _ h => h) (Or.inl ⟨by rfl, ?_⟩) ?_; rotate_left; (intro w hw; have hS1 := hw.1 (by kernel_rfl); clear hw; (try dsimp only at hS1); (try go_split_ands); go_simp; try (with_reducible rfl)); simp only [Act.put, List.setIfInBounds_toArray, List.set_cons_zero, List.set_cons_succ])
      (refine Walk.go (i := 11) (o := { dst := some 169, op := Op.call { callee := Callee.value (Operand.tmp 158), args := #[Operand.tmp 164, Operand.tmp 168], argTypes := #[5, 5] }, type := 3, pos := "zsortanyfunc.go:441", after := #[{ on := 0, ground := Ground.data }, { on := 6, ground := Ground.data }, { on := 10, ground := Ground.data }], guard := none }) (by kernel_rfl) rfl (fun K hK => ?_); go_simp; ((go_at_call 45; refine (cmp_any z zb _ _ (hf Q (by omega)) (hf H (by omega)) _ hzW).mono ?_; rintro e y ⟨rfl, dy⟩)); refine hK.out _ _ (⟨fun _ => ⟨(dy.cell hlw (not_nowhere _)).trans x0, (dy.cell hlw (not_nowhere _)).trans y0⟩, fun _ => trivial⟩) ?_; clear hK K; try simp only [Act.put, List.setIfInBounds_toArray, List.set_cons_zero, List.set_cons_succ])
      (refine Walk.take (i := 12) (oi := { dst := some 170, op := Op.binOp BinOp.lss 3 (Operand.tmp 169) (Operand.const (Value.int IntKind.i64 0)) 3, type := 4, pos := "zsortanyfunc.go:441", after := #[{ on := 11, ground := Ground.data }], guard := none }) (v := ?_) rfl (by kernel_rfl) (by kernel_rfl) (by kernel_rfl) (by kernel_rfl) (fun _ _ _ h => h) (Or.inl ⟨by rfl, ?_⟩) ?_; rotate_left; (intro w hw; clear hw; (try go_split_ands); go_simp; try (with_reducible rfl)); simp only [Act.put, List.setIfInBounds_toArray, List.set_cons_zero, List.set_cons_succ])
      (refine Walk.take (i := 13) (oi := { dst := some 171, op := Op.unOp UnOp.not 4 (Operand.tmp 170), type := 4, pos := "zsortanyfunc.go:441", after := #[{ on := 12, ground := Ground.data }], guard := none }) (v := ?_) rfl (by kernel_rfl) (by kernel_rfl) (by kernel_rfl) (by kernel_rfl) (fun _ _ _ h => h) (Or.inl ⟨by rfl, ?_⟩) ?_; rotate_left; (intro w hw; clear hw; (try go_split_ands); go_simp; try (with_reducible rfl)); simp only [Act.put, List.setIfInBounds_toArray, List.set_cons_zero, List.set_cons_succ])
      refine Walk.done (by kernel_rfl) ?_ _
      have hY : But Nowhere wr y := ((But.refl _ _).drew).trans dy
      replace ks := ks.but hY (not_nowhere _)
      clear x0 y0 hlw hzW dy
      by_cases q3 : z (f Q).toNat < z (f H).toNat
      · have d3 : cmpI (z (f Q).toNat : Int) (z (f H).toNat : Int) < 0 := (cmpI_lt _ _).2 (by omega)
        have d4 : decide (cmpI (z (f Q).toNat : Int) (z (f H).toNat : Int) < 0) = true := by simpa using d3
        have d5 : (!decide (cmpI (z (f Q).toNat : Int) (z (f H).toNat : Int) < 0)) = false := by rw [d4]; rfl
        have d6 : decide (0 ≤ cmpI (z (f Q).toNat : Int) (z (f H).toNat : Int)) = false := by simp; omega
        have HN : Hid _ := ((hC.lt (i := H) (j := Q) (by omega) (by omega) (by omega) (by omega)).1).1 q3
        try rw [d5]
        clear d5
        clear q3
        generalize cmpI (z (f Q).toNat : Int) (z (f H).toNat : Int) = c at *
        go_wp2_with fail
        go_roundw
        case rel => exact ⟨i, H, rfl, rfl, i1, by omega, by omega, q1, .inr (by rw [show P - H = Q from hQ]; exact HN.out), ks, (hBt.step hY (fun _ _ h => h.elim))⟩
        case measure => simp [intOf]; omega
      · have d3 : 0 ≤ cmpI (z (f Q).toNat : Int) (z (f H).toNat : Int) := by have := cmpI_lt (z (f Q).toNat : Int) (z (f H).toNat : Int); omega
        have d4 : decide (cmpI (z (f Q).toNat : Int) (z (f H).toNat : Int) < 0) = false := by simpa using d3
        have d5 : (!decide (cmpI (z (f Q).toNat : Int) (z (f H).toNat : Int) < 0)) = true := by rw [d4]; rfl
        have d6 : decide (0 ≤ cmpI (z (f Q).toNat : Int) (z (f H).toNat : Int)) = true := by simpa using d3
        have HN : Hid _ := ((hC.lt (i := H) (j := Q) (by omega) (by omega) (by omega) (by omega)).2).1 q3
        try rw [d5]
        clear d5
        clear q3
        generalize cmpI (z (f Q).toNat : Int) (z (f H).toNat : Int) = c at *
        go_wp2_with fail
        go_roundw
        case rel => exact ⟨H + 1, j, by first | rfl | rw [sH] | go_num, rfl, by omega, by omega, i3, .inr (by rw [Nat.add_sub_cancel, show P - H = Q from hQ]; exact HN.out), q2, ks, (hBt.step hY (fun _ _ h => h.elim))⟩
        case measure => simp [intOf]; omega
    · obtain rfl : i = j := by omega
      have d1 : decide ((i : Int) < (i : Int)) = false := by simp
      have hSpl : Spl z f a i m (NN - i) b := ⟨by omega, by omega, by omega, by omega, fun h1 h2 => by
        rcases q1 with q | q
        · omega
        · rw [show P - (i - 1) = NN - i by omega] at q; exact q, fun h1 h2 => by
        rcases q2 with q | q
        · omega
        · rw [show P - i = NN - i - 1 by omega] at q; exact q⟩
      obtain ⟨E, hE⟩ : ∃ E, NN - i = E := ⟨_, rfl⟩
      rw [hE] at hSpl
      have rE : IntKind.i64.wrap ((NN : Int) - (i : Int)) = (E : Int) := by rw [wrap_i64_eq, w64 _ (by omega)]; omega
      have eM : i + (E - m) = M := by omega
      have iM : i ≤ M ∧ M ≤ E := by omega
      clear q1 q2
      go_upto_region 39 with fail
      go_cut [185] from 178 to 185 (fun s V => s = .bool (decide (i < m ∧ m < E)) ∧ V = wr)
      case first =>
        by_cases p1 : i < m
        · have b1 : decide ((i : Int) < (m : Int)) = true := by simp; omega
          by_cases p2 : m < E
          · have b2 : decide ((m : Int) < (E : Int)) = true := by simp; omega
            go_wp2_with fail
            go_meet
            case rel => exact ⟨by simp [p1, p2], rfl⟩
          · have b2 : decide ((m : Int) < (E : Int)) = false := by simp; omega
            go_wp2_with fail
            go_meet
            case rel => exact ⟨by simp [p1, p2], rfl⟩
        · have b1 : decide ((i : Int) < (m : Int)) = false := by simp; omega
          go_wp2_with fail
          go_meet
          case rel => exact ⟨by simp [p1], rfl⟩
      case rest =>
        obtain ⟨rfl, rfl⟩ := hcut
        go_upto_if 185 with fail
        go_cut [191] from 185 to 191 (fun _ V => Cells V D 5 (tab .u8 n (rotF f i m E) ++ R) ∧ But (fun k => k = D) w V)
        case first =>
          by_cases p : i < m ∧ m < E
          · have dp : decide (i < m ∧ m < E) = true := by simp [p]
            go_wp2_with (go_at_call 60; refine (rotate_any D n cap R i m E f _ p.1 p.2 (by omega) hn _ ks).mono ?_; rintro e y ⟨rfl, ky, dy⟩)
            go_meet
            case rel => exact ⟨ky, hBt.trans dy⟩
          · have dp : decide (i < m ∧ m < E) = false := by simp; omega
            go_wp2_with fail
            go_meet
            case rel => exact ⟨by rw [rotF_nil (by omega)]; exact ks, hBt⟩
        case rest =>
          clear ks hBt
          obtain ⟨ks, hBt⟩ := hcut
          have hbd := (Same.rot f (a := a) (b := b) hSpl.as hSpl.sm hSpl.me hSpl.eb).bd hbn hf
          have hL := hSpl.left hA hB
          have hR := hSpl.right hA hB
          have hCl := hSpl.crl hC
          have hCr := hSpl.crr hC
          rw [eM] at hL hR hCl hCr
          obtain ⟨g0, hg0⟩ : ∃ g, rotF f i m E = g := ⟨_, rfl⟩
          have hM2 := fun g1 g2 => @merged z f g1 g2 a i m E b hSpl hA hB
          rw [eM, hg0] at hM2
          rw [hg0] at ks hbd hL hR hCl hCr
          have HM2 : Hid _ := hM2
          clear hM2
          go_upto_region 41 with fail
          go_cut [199] from 192 to 199 (fun s V => s = .bool (decide (a < i ∧ i < M)) ∧ V = wc)
          case first =>
            by_cases p1 : a < i
            · have b1 : decide ((a : Int) < (i : Int)) = true := by simp; omega
              by_cases p2 : i < M
              · have b2 : decide ((i : Int) < (M : Int)) = true := by simp; omega
                go_wp2_with fail
                go_meet
                case rel => exact ⟨by simp [p1, p2], rfl⟩
              · have b2 : decide ((i : Int) < (M : Int)) = false := by simp; omega
                go_wp2_with fail
                go_meet
                case rel => exact ⟨by simp [p1, p2], rfl⟩
            · have b1 : decide ((a : Int) < (i : Int)) = false := by simp; omega
              go_wp2_with fail
              go_meet
              case rel => exact ⟨by simp [p1], rfl⟩
          case rest =>
            obtain ⟨rfl, rfl⟩ := hcut
            go_upto_if 199 with fail
            go_cut [205] from 199 to 205 (fun _ V => ∃ g1, Cells V D 5 (tab .u8 n g1 ++ R) ∧ SortedOn z g1 a M ∧ Same g0 g1 a M ∧ But (fun k => k = D) w V)
            case first =>
              by_cases p : a < i ∧ i < M
              · have dp : decide (a < i ∧ i < M) = true := by simp [p]
                go_wp2_with (go_at_call 59; refine (ih a i M g0 _ (by omega) p.1 p.2 (by omega) hbd hL.1 hL.2 hCl (hz.but hBt hne) ks).mono ?_; rintro e y ⟨rfl, g1, ky, sy, my, dy⟩)
                go_meet
                case rel => exact ⟨g1, ky, sy, my, hBt.trans dy⟩
              · have dp : decide (a < i ∧ i < M) = false := by simp; omega
                go_wp2_with fail
                go_meet
                case rel =>
                  refine ⟨g0, ks, ?_, Same.refl _ _ _, hBt⟩
                  by_cases q : a = i
                  · rw [q]; exact hL.2
                  · rw [show M = i by omega]; exact hL.1
            case rest =>
              clear ks hBt
              obtain ⟨g1, ks, h1, k1, hBt⟩ := hcut
              have hbd1 := k1.bd (n := n) (by omega) hbd
              have hR1 := hR.1.eq (g := g1) (fun x x1 x2 => k1.out x (by omega))
              have hR2 := hR.2.eq (g := g1) (fun x x1 x2 => k1.out x (by omega))
              have hCr1 : Cr z g1 M E b := fun x y x1 x2 y1 y2 => by
                rw [k1.out x (by omega), k1.out y (by omega)]; exact hCr x y x1 x2 y1 y2
              go_upto_region 43 with fail
              go_cut [213] from 206 to 213 (fun s V => s = .bool (decide (M < E ∧ E < b)) ∧ V = wc)
              case first =>
                by_cases p1 : M < E
                · have b1 : decide ((M : Int) < (E : Int)) = true := by simp; omega
                  by_cases p2 : E < b
                  · have b2 : decide ((E : Int) < (b : Int)) = true := by simp; omega
                    go_wp2_with fail
                    go_meet
                    case rel => exact ⟨by simp [p1, p2], rfl⟩
                  · have b2 : decide ((E : Int) < (b : Int)) = false := by simp; omega
                    go_wp2_with fail
                    go_meet
                    case rel => exact ⟨by simp [p1, p2], rfl⟩
                · have b1 : decide ((M : Int) < (E : Int)) = false := by simp; omega
                  go_wp2_with fail
                  go_meet
                  case rel => exact ⟨by simp [p1], rfl⟩
              case rest =>
                obtain ⟨rfl, rfl⟩ := hcut
                by_cases p : M < E ∧ E < b
                · have dp : decide (M < E ∧ E < b) = true := by simp [p]
                  go_wp2_with (go_at_call 59; refine (ih M E b g1 _ (by omega) p.1 p.2 hbn hbd1 hR1 hR2 hCr1 (hz.but hBt hne) ks).mono ?_; rintro e y ⟨rfl, g2, ky, sy, my, dy⟩)
                  go_end0
                  obtain ⟨m1, m2⟩ := HM2.out g1 g2 h1 k1 sy my
                  exact ⟨rfl, g2, ky, m1, m2, hBt.trans dy⟩
                · have dp : decide (M < E ∧ E < b) = false := by simp; omega
                  have hs : SortedOn z g1 M b := by
                    by_cases q : M = E
                    · rw [q]; exact hR2
                    · rw [show b = E by omega]; exact hR1
                  obtain ⟨m1, m2⟩ := HM2.out g1 g1 h1 k1 hs (Same.refl _ _ _)
                  go_wp2_with fail
                  go_end0
                  exact ⟨rfl, g1, ks, m1, m2, hBt⟩

end Go.Proofs.Ytlpeplihbdcklaa

/- Merging in place: the middle lies in the second run. -/
namespace Go.Proofs.Ytlpeplihbdcklaa
set_option linter.unusedVariables false
open Go.ChangeShapes Go.WideShapes Go.ChangeAt Go.RowKit

set_option maxHeartbeats 6400000 in
set_option maxRecDepth 100000 in
theorem sm_gen2 (z : Nat → Nat) (zb D n cap : Nat) (R : List Value) (hn : n ≤ 100000) (hne : zb ≠ D) (a m b : Nat) (f : Nat → Int) (w : World) (ham : a < m) (hmb : m < b) (hbn : b ≤ n) (hf : ∀ i, i < n → 0 ≤ f i ∧ f i ≤ 255) (hA : SortedOn z f a m) (hB : SortedOn z f m b) (hC : Cr z f a m b)
    (hz : Cells w zb 47 (tab .i64 257 (fun i => (z i : Int)))) (hd : Cells w D 5 (tab .u8 n f ++ R)) (N : Nat) (hN : b - a ≤ N + 1) (ih : ∀ (a m b : Nat) (f : Nat → Int) (w : World), b - a ≤ N → a < m → m < b → b ≤ n → (∀ i, i < n → 0 ≤ f i ∧ f i ≤ 255) → SortedOn z f a m → SortedOn z f m b → Cr z f a m b →
    Cells w zb 47 (tab .i64 257 (fun i => (z i : Int))) → Cells w D 5 (tab .u8 n f ++ R) →
    Calls Try.prog 59 #[dv D n cap, .int .i64 a, .int .i64 m, .int .i64 b, cmpV zb] w fun e w' => e = .returned (.tuple #[]) ∧ ∃ g, Cells w' D 5 (tab .u8 n g ++ R) ∧ SortedOn z g a b ∧ Same f g a b ∧ But (fun k => k = D) w w') (c1 : m - a ≠ 1) (c2 : b - m ≠ 1) (hmM : ¬ (a + b) / 2 < m) : Calls Try.prog 59 #[dv D n cap, .int .i64 a, .int .i64 m, .int .i64 b, cmpV zb] w fun e w' => e = .returned (.tuple #[]) ∧ ∃ g, Cells w' D 5 (tab .u8 n g ++ R) ∧ SortedOn z g a b ∧ Same f g a b ∧ But (fun k => k = D) w w' := by
  have hu8 := Try.underlying5
  have r1 : IntKind.i64.wrap ((m : Int) - (a : Int)) = ((m - a : Nat) : Int) := by rw [wrap_i64_eq, w64 _ (by omega)]; omega
  have r2 : IntKind.i64.wrap ((b : Int) - (m : Int)) = ((b - m : Nat) : Int) := by rw [wrap_i64_eq, w64 _ (by omega)]; omega
  have c1' : (((m - a : Nat) : Int) == 1) = false := by simp; omega
  have c2' : (((b - m : Nat) : Int) == 1) = false := by simp; omega
  obtain ⟨M, hM⟩ : ∃ M, (a + b) / 2 = M := ⟨_, rfl⟩
  obtain ⟨NN, hNN⟩ : ∃ NN, M + m = NN := ⟨_, rfl⟩
  obtain ⟨P, hP⟩ : ∃ P, NN - 1 = P := ⟨_, rfl⟩
  have rM : ((a : Int) + (b : Int)) / 2 = (M : Int) := by omega
  have rN : IntKind.i64.wrap ((M : Int) + (m : Int)) = (NN : Int) := by rw [wrap_i64_eq, w64 _ (by omega)]; omega
  have rP : IntKind.i64.wrap ((NN : Int) - 1) = (P : Int) := by rw [wrap_i64_eq, w64 _ (by omega)]; omega
  go_enter Try.func59, Try.ntmps59
  go_upto_region 25 with fail
  try rw [rM]
  rw [hM] at hmM
  have dM : decide ((m : Int) > (M : Int)) = false := by simp; omega
  have rS : True := trivial
  go_upto_region 33 with fail
  go_loopw [20, 21] (fun v u V => ∃ i j : Nat, v = .int .i64 i ∧ u = .int .i64 j ∧ a ≤ i ∧ i ≤ j ∧ j ≤ m ∧ (i = a ∨ ltV z (f (i - 1)) (f (P - (i - 1)))) ∧ (j = m ∨ ltV z (f (P - j)) (f j)) ∧ Cells V D 5 (tab .u8 n f ++ R) ∧ But (fun k => k = D) w V) (fun v u _ => (intOf u).toNat - (intOf v).toNat)
  case atStart => exact ⟨a, m, by first | rfl | rw [rS], rfl, Nat.le_refl _, by omega, Nat.le_refl _, .inl rfl, .inl rfl, hd, But.refl _ _⟩
  case round =>
    obtain ⟨i, j, rfl, rfl, i1, i2, i3, q1, q2, ks, hBt⟩ := hrel
    by_cases hlt : i < j
    · have d1 : decide ((i : Int) < (j : Int)) = true := by simp; omega
      have hzR := hz.but hBt hne
      obtain ⟨H, hH⟩ : ∃ H, (i + j) / 2 = H := ⟨_, rfl⟩
      have rH : ((i : Int) + (j : Int)) / 2 = (H : Int) := by omega
      have H0 : (0 : Int) ≤ (H : Int) := by omega
      have H1 : (H : Int) < (n : Int) := by omega
      have H2 : i ≤ H ∧ H < j := by omega
      have sH : IntKind.i64.wrap ((H : Int) + 1) = ((H + 1 : Nat) : Int) := by rw [wrap_i64_eq, w64 _ (by omega)]; omega
      obtain ⟨Q, hQ⟩ : ∃ Q, P - H = Q := ⟨_, rfl⟩
      have rQ : IntKind.i64.wrap ((P : Int) - (H : Int)) = (Q : Int) := by rw [wrap_i64_eq, w64 _ (by omega)]; omega
      have a0 : (0 : Int) ≤ (Q : Int) := by omega
      have a1 : (Q : Int) < (n : Int) := by omega
      go_wp2_with fail
      try rw [rH]
      have x0 := ks.cellA Q (by omega)
      have y0 := ks.cellA H (by omega)
      have hlw := ks.lt
      have hzW := hzR.but ((But.refl Nowhere wr).drew) (not_nowhere _)
      refine wp_region_till (S := fun V => V.cell? ⟨D, Q, none⟩ = some (.int .u8 (f Q)) ∧ V.cell? ⟨D, H, none⟩ = some (.int .u8 (f H))) (R := fun _ => True) (k := 100) (m := 100) (by kernel_rfl) ⟨x0, y0⟩ trivial ?_
      (refine Walk.take (i := 0) (oi := { dst := some 158, op := Op.move (Operand.tmp 4), type := 74, pos := "zsortanyfunc.go:441", after := #[], guard := none }) (v := ?_) rfl (by kernel_rfl) (by kernel_rfl) (by kernel_rfl) (by kernel_rfl) (fun _ _ _ h => h) (Or.inl ⟨by rfl, ?_⟩) ?_; rotate_left; (intro w hw; clear hw; (try go_split_ands); go_simp; try (with_reducible rfl)); simp only [Act.put, List.setIfInBounds_toArray, List.set_cons_zero, List.set_cons_succ])
      (refine Walk.take (i := 1) (oi := { dst := some 159, op := Op.move (Operand.tmp 0), type := 23, pos := "zsortanyfunc.go:441", after := #[], guard := none }) (v := ?_) rfl (by kernel_rfl) (by kernel_rfl) (by kernel_rfl) (by kernel_rfl) (fun _ _ _ h => h) (Or.inl ⟨by rfl, ?_⟩) ?_; rotate_left; (intro w hw; clear hw; (try go_split_ands); go_simp; try (with_reducible rfl)); simp only [Act.put, List.setIfInBounds_toArray, List.set_cons_zero, List.set_cons_succ])
      (refine Walk.take (i := 2) (oi := { dst := some 160, op := Op.move (Operand.tmp 22), type := 3, pos := "zsortanyfunc.go:441", after := #[], guard := none }) (v := ?_) rfl (by kernel_rfl) (by kernel_rfl) (by kernel_rfl) (by kernel_rfl) (fun _ _ _ h => h) (Or.inl ⟨by rfl, ?_⟩) ?_; rotate_left; (intro w hw; clear hw; (try go_split_ands); go_simp; try (with_reducible rfl)); simp only [Act.put, List.setIfInBounds_toArray, List.set_cons_zero, List.set_cons_succ])
      (refine Walk.take (i := 3) (oi := { dst := some 161, op := Op.move (Operand.tmp 23), type := 3, pos := "zsortanyfunc.go:441", after := #[], guard := none }) (v := ?_) rfl (by kernel_rfl) (by kernel_rfl) (by kernel_rfl) (by kernel_rfl) (fun _ _ _ h => h) (Or.inl ⟨by rfl, ?_⟩) ?_; rotate_left; (intro w hw; clear hw; (try go_split_ands); go_simp; try (with_reducible rfl)); simp only [Act.put, List.setIfInBounds_toArray, List.set_cons_zero, List.set_cons_succ])
      (refine Walk.take (i := 4) (oi := { dst := some 162, op := Op.binOp BinOp.sub 3 (Operand.tmp 160) (Operand.tmp 161) 3, type := 3, pos := "zsortanyfunc.go:441", after := #[{ on := 2, ground := Ground.data }, { on := 3, ground := Ground.data }], guard := none }) (v := ?_) rfl (by kernel_rfl) (by kernel_rfl) (by kernel_rfl) (by kernel_rfl) (fun _ _ _ h => h) (Or.inl ⟨by rfl, ?_⟩) ?_; rotate_left; (intro w hw; clear hw; (try go_split_ands); go_simp; try (with_reducible rfl)); simp only [Act.put, List.setIfInBounds_toArray, List.set_cons_zero, List.set_cons_succ])
      (refine Walk.take (i := 5) (oi := { dst := some 163, op := Op.indexAddr 23 (Operand.tmp 159) (Operand.tmp 162), type := 0, pos := "zsortanyfunc.go:441", after := #[{ on := 1, ground := Ground.data }, { on := 4, ground := Ground.data }], guard := none }) (v := ?_) rfl (by kernel_rfl) (by kernel_rfl) (by kernel_rfl) (by kernel_rfl) (fun _ _ _ h => h) (Or.inl ⟨by rfl, ?_⟩) ?_; rotate_left; (intro w hw; clear hw; (try go_split_ands); go_simp; try (with_reducible rfl)); simp only [Act.put, List.setIfInBounds_toArray, List.set_cons_zero, List.set_cons_succ])
      (refine Walk.take (i := 6) (oi := { dst := some 164, op := Op.load 5 (Operand.tmp 163), type := 5, pos := "zsortanyfunc.go:441", after := #[{ on := 5, ground := Ground.data }], guard := none }) (v := ?_) rfl (by kernel_rfl) (by kernel_rfl) (by kernel_rfl) (by kernel_rfl) (fun _ _ _ h => h) (Or.inl ⟨by rfl, ?_⟩) ?_; rotate_left; (intro w hw; have hS1 := hw.1 (by kernel_rfl); clear hw; (try dsimp only at hS1); (try go_split_ands); go_simp; try (with_reducible rfl)); simp only [Act.put, List.setIfInBounds_toArray, List.set_cons_zero, List.set_cons_succ])
      (refine Walk.take (i := 7) (oi := { dst := some 165, op := Op.move (Operand.tmp 0), type := 23, pos := "zsortanyfunc.go:441", after := #[], guard := none }) (v := ?_) rfl (by kernel_rfl) (by kernel_rfl) (by kernel_rfl) (by kernel_rfl) (fun _ _ _ h => h) (Or.inl ⟨by rfl, ?_⟩) ?_; rotate_left; (intro w hw; clear hw; (try go_split_ands); go_simp; try (with_reducible rfl)); simp only [Act.put, List.setIfInBounds_toArray, List.set_cons_zero, List.set_cons_succ])
      (refine Walk.take (i := 8) (oi := { dst := some 166, op := Op.move (Operand.tmp 23), type := 3, pos := "zsortanyfunc.go:441", after := #[], guard := none }) (v := ?_) rfl (by kernel_rfl) (by kernel_rfl) (by kernel_rfl) (by kernel_rfl) (fun _ _ _ h => h) (Or.inl ⟨by rfl, ?_⟩) ?_; rotate_left; (intro w hw; clear hw; (try go_split_ands); go_simp; try (with_reducible rfl)); simp only [Act.put, List.setIfInBounds_toArray, List.set_cons_zero, List.set_cons_succ])
      (refine Walk.take (i := 9) (oi := { dst := some 167, op := Op.indexAddr 23 (Operand.tmp 165) (Operand.tmp 166), type := 0, pos := "zsortanyfunc.go:441", after := #[{ on := 7, ground := Ground.data }, { on := 8, ground := Ground.data }], guard := none }) (v := ?_) rfl (by kernel_rfl) (by kernel_rfl) (by kernel_rfl) (by kernel_rfl) (fun _ _ _ h => h) (Or.inl ⟨by rfl, ?_⟩) ?_; rotate_left; (intro w hw; clear hw; (try go_split_ands); go_simp; try (with_reducible rfl)); simp only [Act.put, List.setIfInBounds_toArray, List.set_cons_zero, List.set_cons_succ])
      (refine Walk.take (i := 10) (oi := { dst := some 168, op := Op.load 5 (Operand.tmp 167), type := 5, pos := "zsortanyfunc.go:441", after := #[{ on := 9, ground := Ground.data }], guard := none }) (v := ?_) rfl (by kernel_rfl) (by kernel_rfl) (by kernel_rfl) (by kernel_rfl) (fun _ _ _ h => h) (Or.inl ⟨by rfl, ?_⟩) ?_; rotate_left; (intro w hw; have hS1 := hw.1 (by kernel_rfl); clear hw; (try dsimp only at hS1); (try go_split_ands); go_simp; try (with_reducible rfl)); simp only [Act.put, List.setIfInBounds_toArray, List.set_cons_zero, List.set_cons_succ])
      (refine Walk.go (i := 11) (o := { dst := some 169, op := Op.call { callee := Callee.value (Operand.tmp 158), args := #[Operand.tmp 164, Operand.tmp 168], argTypes := #[5, 5] }, type := 3, pos := "zsortanyfunc.go:441", after := #[{ on := 0, ground := Ground.data }, { on := 6, ground := Ground.data }, { on := 10, ground := Ground.data }], guard := none }) (by kernel_rfl) rfl (fun K hK => ?_); go_simp; ((go_at_call 45; refine (cmp_any z zb _ _ (hf Q (by omega)) (hf H (by omega)) _ hzW).mono ?_; rintro e y ⟨rfl, dy⟩)); refine hK.out _ _ (⟨fun _ => ⟨(dy.cell hlw (not_nowhere _)).trans x0, (dy.cell hlw (not_nowhere _)).trans y0⟩, fun _ => trivial⟩) ?_; clear hK K; try simp only [Act.put, List.setIfInBounds_toArray, List.set_cons_zero, List.set_cons_succ])
      (refine Walk.take (i := 12) (oi := { dst := some 170, op := Op.binOp BinOp.lss 3 (Operand.tmp 169) (Operand.const (Value.int IntKind.i64 0)) 3, type := 4, pos := "zsortanyfunc.go:441", after := #[{ on := 11, ground := Ground.data }], guard := none }) (v := ?_) rfl (by kernel_rfl) (by kernel_rfl) (by kernel_rfl) (by kernel_rfl) (fun _ _ _ h => h) (Or.inl ⟨by rfl, ?_⟩) ?_; rotate_left; (intro w hw; clear hw; (try go_split_ands); go_simp; try (with_reducible rfl)); simp only [Act.put, List.setIfInBounds_toArray, List.set_cons_zero, List.set_cons_succ])
      (refine Walk.take (i := 13) (oi := { dst := some 171, op := Op.unOp UnOp.not 4 (Operand.tmp 170), type := 4, pos := "zsortanyfunc.go:441", after := #[{ on := 12, ground := Ground.data }], guard := none }) (v := ?_) rfl (by kernel_rfl) (by kernel_rfl) (by kernel_rfl) (by kernel_rfl) (fun _ _ _ h => h) (Or.inl ⟨by rfl, ?_⟩) ?_; rotate_left; (intro w hw; clear hw; (try go_split_ands); go_simp; try (with_reducible rfl)); simp only [Act.put, List.setIfInBounds_toArray, List.set_cons_zero, List.set_cons_succ])
      refine Walk.done (by kernel_rfl) ?_ _
      have hY : But Nowhere wr y := ((But.refl _ _).drew).trans dy
      replace ks := ks.but hY (not_nowhere _)
      clear x0 y0 hlw hzW dy
      by_cases q3 : z (f Q).toNat < z (f H).toNat
      · have d3 : cmpI (z (f Q).toNat : Int) (z (f H).toNat : Int) < 0 := (cmpI_lt _ _).2 (by omega)
        have d4 : decide (cmpI (z (f Q).toNat : Int) (z (f H).toNat : Int) < 0) = true := by simpa using d3
        have d5 : (!decide (cmpI (z (f Q).toNat : Int) (z (f H).toNat : Int) < 0)) = false := by rw [d4]; rfl
        have d6 : decide (0 ≤ cmpI (z (f Q).toNat : Int) (z (f H).toNat : Int)) = false := by simp; omega
        have HN : Hid _ := ((hC.lt (i := H) (j := Q) (by omega) (by omega) (by omega) (by omega)).1).1 q3
        try rw [d5]
        clear d5
        clear q3
        generalize cmpI (z (f Q).toNat : Int) (z (f H).toNat : Int) = c at *
        go_wp2_with fail
        go_roundw
        case rel => exact ⟨i, H, rfl, rfl, i1, by omega, by omega, q1, .inr (by rw [show P - H = Q from hQ]; exact HN.out), ks, (hBt.step hY (fun _ _ h => h.elim))⟩
        case measure => simp [intOf]; omega
      · have d3 : 0 ≤ cmpI (z (f Q).toNat : Int) (z (f H).toNat : Int) := by have := cmpI_lt (z (f Q).toNat : Int) (z (f H).toNat : Int); omega
        have d4 : decide (cmpI (z (f Q).toNat : Int) (z (f H).toNat : Int) < 0) = false := by simpa using d3
        have d5 : (!decide (cmpI (z (f Q).toNat : Int) (z (f H).toNat : Int) < 0)) = true := by rw [d4]; rfl
        have d6 : decide (0 ≤ cmpI (z (f Q).toNat : Int) (z (f H).toNat : Int)) = true := by simpa using d3
        have HN : Hid _ := ((hC.lt (i := H) (j := Q) (by omega) (by omega) (by omega) (by omega)).2).1 q3
        try rw [d5]
        clear d5
        clear q3
        generalize cmpI (z (f Q).toNat : Int) (z (f H).toNat : Int) = c at *
        go_wp2_with fail
        go_roundw
        case rel => exact ⟨H + 1, j, by first | rfl | rw [sH] | go_num, rfl, by omega, by omega, i3, .inr (by rw [Nat.add_sub_cancel, show P - H = Q from hQ]; exact HN.out), q2, ks, (hBt.step hY (fun _ _ h => h.elim))⟩
        case measure => simp [intOf]; omega
    · obtain rfl : i = j := by omega
      have d1 : decide ((i : Int) < (i : Int)) = false := by simp
      have hSpl : Spl z f a i m (NN - i) b := ⟨by omega, by omega, by omega, by omega, fun h1 h2 => by
        rcases q1 with q | q
        · omega
        · rw [show P - (i - 1) = NN - i by omega] at q; exact q, fun h1 h2 => by
        rcases q2 with q | q
        · omega
        · rw [show P - i = NN - i - 1 by omega] at q; exact q⟩
      obtain ⟨E, hE⟩ : ∃ E, NN - i = E := ⟨_, rfl⟩
      rw [hE] at hSpl
      have rE : IntKind.i64.wrap ((NN : Int) - (i : Int)) = (E : Int) := by rw [wrap_i64_eq, w64 _ (by omega)]; omega
      have eM : i + (E - m) = M := by omega
      have iM : i ≤ M ∧ M ≤ E := by omega
      clear q1 q2
      go_upto_region 39 with fail
      go_cut [185] from 178 to 185 (fun s V => s = .bool (decide (i < m ∧ m < E)) ∧ V = wr)
      case first =>
        by_cases p1 : i < m
        · have b1 : decide ((i : Int) < (m : Int)) = true := by simp; omega
          by_cases p2 : m < E
          · have b2 : decide ((m : Int) < (E : Int)) = true := by simp; omega
            go_wp2_with fail
            go_meet
            case rel => exact ⟨by simp [p1, p2], rfl⟩
          · have b2 : decide ((m : Int) < (E : Int)) = false := by simp; omega
            go_wp2_with fail
            go_meet
            case rel => exact ⟨by simp [p1, p2], rfl⟩
        · have b1 : decide ((i : Int) < (m : Int)) = false := by simp; omega
          go_wp2_with fail
          go_meet
          case rel => exact ⟨by simp [p1], rfl⟩
      case rest =>
        obtain ⟨rfl, rfl⟩ := hcut
        go_upto_if 185 with fail
        go_cut [191] from 185 to 191 (fun _ V => Cells V D 5 (tab .u8 n (rotF f i m E) ++ R) ∧ But (fun k => k = D) w V)
        case first =>
          by_cases p : i < m ∧ m < E
          · have dp : decide (i < m ∧ m < E) = true := by simp [p]
            go_wp2_with (go_at_call 60; refine (rotate_any D n cap R i m E f _ p.1 p.2 (by omega) hn _ ks).mono ?_; rintro e y ⟨rfl, ky, dy⟩)
            go_meet
            case rel => exact ⟨ky, hBt.trans dy⟩
          · have dp : decide (i < m ∧ m < E) = false := by simp; omega
            go_wp2_with fail
            go_meet
            case rel => exact ⟨by rw [rotF_nil (by omega)]; exact ks, hBt⟩
        case rest =>
          clear ks hBt
          obtain ⟨ks, hBt⟩ := hcut
          have hbd := (Same.rot f (a := a) (b := b) hSpl.as hSpl.sm hSpl.me hSpl.eb).bd hbn hf
          have hL := hSpl.left hA hB
          have hR := hSpl.right hA hB
          have hCl := hSpl.crl hC
          have hCr := hSpl.crr hC
          rw [eM] at hL hR hCl hCr
          obtain ⟨g0, hg0⟩ : ∃ g, rotF f i m E = g := ⟨_, rfl⟩
          have hM2 := fun g1 g2 => @merged z f g1 g2 a i m E b hSpl hA hB
          rw [eM, hg0] at hM2
          rw [hg0] at ks hbd hL hR hCl hCr
          have HM2 : Hid _ := hM2
          clear hM2
          go_upto_region 41 with fail
          go_cut [199] from 192 to 199 (fun s V => s = .bool (decide (a < i ∧ i < M)) ∧ V = wc)
          case first =>
            by_cases p1 : a < i
            · have b1 : decide ((a : Int) < (i : Int)) = true := by simp; omega
              by_cases p2 : i < M
              · have b2 : decide ((i : Int) < (M : Int)) = true := by simp; omega
                go_wp2_with fail
                go_meet
                case rel => exact ⟨by simp [p1, p2], rfl⟩
              · have b2 : decide ((i : Int) < (M : Int)) = false := by simp; omega
                go_wp2_with fail
                go_meet
                case rel => exact ⟨by simp [p1, p2], rfl⟩
            · have b1 : decide ((a : Int) < (i : Int)) = false := by simp; omega
              go_wp2_with fail
              go_meet
              case rel => exact ⟨by simp [p1], rfl⟩
          case rest =>
            obtain ⟨rfl, rfl⟩ := hcut
            go_upto_if 199 with fail
            go_cut [205] from 199 to 205 (fun _ V => ∃ g1, Cells V D 5 (tab .u8 n g1 ++ R) ∧ SortedOn z g1 a M ∧ Same g0 g1 a M ∧ But (fun k => k = D) w V)
            case first =>
              by_cases p : a < i ∧ i < M
              · have dp : decide (a < i ∧ i < M) = true := by simp [p]
                go_wp2_with (go_at_call 59; refine (ih a i M g0 _ (by omega) p.1 p.2 (by omega) hbd hL.1 hL.2 hCl (hz.but hBt hne) ks).mono ?_; rintro e y ⟨rfl, g1, ky, sy, my, dy⟩)
                go_meet
                case rel => exact ⟨g1, ky, sy, my, hBt.trans dy⟩
              · have dp : decide (a < i ∧ i < M) = false := by simp; omega
                go_wp2_with fail
                go_meet
                case rel =>
                  refine ⟨g0, ks, ?_, Same.refl _ _ _, hBt⟩
                  by_cases q : a = i
                  · rw [q]; exact hL.2
                  · rw [show M = i by omega]; exact hL.1
            case rest =>
              clear ks hBt
              obtain ⟨g1, ks, h1, k1, hBt⟩ := hcut
              have hbd1 := k1.bd (n := n) (by omega) hbd
              have hR1 := hR.1.eq (g := g1) (fun x x1 x2 => k1.out x (by omega))
              have hR2 := hR.2.eq (g := g1) (fun x x1 x2 => k1.out x (by omega))
              have hCr1 : Cr z g1 M E b := fun x y x1 x2 y1 y2 => by
                rw [k1.out x (by omega), k1.out y (by omega)]; exact hCr x y x1 x2 y1 y2
              go_upto_region 43 with fail
              go_cut [213] from 206 to 213 (fun s V => s = .bool (decide (M < E ∧ E < b)) ∧ V = wc)
              case first =>
                by_cases p1 : M < E
                · have b1 : decide ((M : Int) < (E : Int)) = true := by simp; omega
                  by_cases p2 : E < b
                  · have b2 : decide ((E : Int) < (b : Int)) = true := by simp; omega
                    go_wp2_with fail
                    go_meet
                    case rel => exact ⟨by simp [p1, p2], rfl⟩
                  · have b2 : decide ((E : Int) < (b : Int)) = false := by simp; omega
                    go_wp2_with fail
                    go_meet
                    case rel => exact ⟨by simp [p1, p2], rfl⟩
                · have b1 : decide ((M : Int) < (E : Int)) = false := by simp; omega
                  go_wp2_with fail
                  go_meet
                  case rel => exact ⟨by simp [p1], rfl⟩
              case rest =>
                obtain ⟨rfl, rfl⟩ := hcut
                by_cases p : M < E ∧ E < b
                · have dp : decide (M < E ∧ E < b) = true := by simp [p]
                  go_wp2_with (go_at_call 59; refine (ih M E b g1 _ (by omega) p.1 p.2 hbn hbd1 hR1 hR2 hCr1 (hz.but hBt hne) ks).mono ?_; rintro e y ⟨rfl, g2, ky, sy, my, dy⟩)
                  go_end0
                  obtain ⟨m1, m2⟩ := HM2.out g1 g2 h1 k1 sy my
                  exact ⟨rfl, g2, ky, m1, m2, hBt.trans dy⟩
                · have dp : decide (M < E ∧ E < b) = false := by simp; omega
                  have hs : SortedOn z g1 M b := by
                    by_cases q : M = E
                    · rw [q]; exact hR2
                    · rw [show b = E by omega]; exact hR1
                  obtain ⟨m1, m2⟩ := HM2.out g1 g1 h1 k1 hs (Same.refl _ _ _)
                  go_wp2_with fail
                  go_end0
                  exact ⟨rfl, g1, ks, m1, m2, hBt⟩

end Go.Proofs.Ytlpeplihbdcklaa

/- Merging in place. -/
namespace Go.Proofs.Ytlpeplihbdcklaa
set_option linter.unusedVariables false
open Go.ChangeShapes Go.WideShapes Go.ChangeAt Go.RowKit

theorem symMerge_any (z : Nat → Nat) (zb D n cap : Nat) (R : List Value) (hn : n ≤ 100000) (hne : zb ≠ D) : ∀ N : Nat, ∀ (a m b : Nat) (f : Nat → Int) (w : World), b - a ≤ N → a < m → m < b → b ≤ n → (∀ i, i < n → 0 ≤ f i ∧ f i ≤ 255) → SortedOn z f a m → SortedOn z f m b → Cr z f a m b →
    Cells w zb 47 (tab .i64 257 (fun i => (z i : Int))) → Cells w D 5 (tab .u8 n f ++ R) →
    Calls Try.prog 59 #[dv D n cap, .int .i64 a, .int .i64 m, .int .i64 b, cmpV zb] w fun e w' => e = .returned (.tuple #[]) ∧ ∃ g, Cells w' D 5 (tab .u8 n g ++ R) ∧ SortedOn z g a b ∧ Same f g a b ∧ But (fun k => k = D) w w' := by
  intro N
  induction N with
  | zero => intro a m b f w h0 h1 h2; omega
  | succ N ih =>
    intro a m b f w hN ham hmb hbn hf hA hB hC hz hd
    by_cases c1 : m - a = 1
    · exact sm_case1 z zb D n cap R hn hne a m b f w ham hmb hbn hf hA hB hC hz hd c1
    · by_cases c2 : b - m = 1
      · exact sm_case2 z zb D n cap R hn hne a m b f w ham hmb hbn hf hA hB hC hz hd c1 c2
      · by_cases c3 : (a + b) / 2 < m
        · exact sm_gen1 z zb D n cap R hn hne a m b f w ham hmb hbn hf hA hB hC hz hd N hN ih c1 c2 c3
        · exact sm_gen2 z zb D n cap R hn hne a m b f w ham hmb hbn hf hA hB hC hz hd N hN ih c1 c2 c3

end Go.Proofs.Ytlpeplihbdcklaa

/- Stable sorting of bytes by size. -/
namespace Go.Proofs.Ytlpeplihbdcklaa
set_option linter.unusedVariables false
open Go.ChangeShapes Go.WideShapes Go.ChangeAt Go.RowKit

/-- Classes while blocks of twenty are sorted: those up to a are. -/
def dI (a i : Nat) : Nat := if i < a then i / 20 * 20 else i
/-- Classes while blocks of bs are merged: those up to a are. -/
def dP (bs a i : Nat) : Nat := if i < a then i / (2 * bs) * 2 else i / bs

theorem St.start {z : Nat → Nat} {n : Nat} {f : Nat → Int} (hr : ∀ i j, i < j → j < n → f i < f j) : St z n f (dI 0) :=
  ⟨fun i j hij hj e => by unfold dI at e; rw [if_neg (by omega), if_neg (by omega)] at e; omega, fun i j hi hj e => by unfold dI at e; rw [if_neg (by omega), if_neg (by omega)] at e; exact hr i j e hj⟩

theorem dI_rise {z : Nat → Nat} {n a e : Nat} {g : Nat → Int} (S : St z n g (dI a)) (he : e ≤ n) : ∀ x y, a ≤ x → x < y → y < e → g x < g y := fun x y h1 h2 h3 =>
  S.btw x y (by omega) (by omega) (by unfold dI; rw [if_neg (by omega), if_neg (by omega)]; exact h2)

theorem dI_next {z : Nat → Nat} {n a : Nat} {g h : Nat → Int} (S : St z n g (dI a)) (ha : a % 20 = 0) (hb : a + 20 ≤ n) (hs : SortedOn z h a (a + 20)) (hk : Same g h a (a + 20)) : St z n h (dI (a + 20)) := by
  refine S.block (c := a) hb hs hk (fun i hi hn => ?_) (fun i h1 h2 => ?_) (fun i hi hn => ⟨?_, fun j h1 h2 => ⟨fun q => ?_, fun q => ?_⟩⟩)
  all_goals unfold dI at *
  · by_cases q : i < a
    · rw [if_pos q, if_pos (by omega)]
    · rw [if_neg q, if_neg (by omega)]
  · rw [if_pos h2]; omega
  · split <;> omega
  · rw [if_neg (by omega : ¬ j < a)]
    revert q
    split <;> omega
  · rw [if_neg (by omega : ¬ j < a)]
    revert q
    split <;> omega

theorem dI_last {z : Nat → Nat} {n a : Nat} {g h : Nat → Int} (S : St z n g (dI a)) (ha : a % 20 = 0) (han : a ≤ n) (hb : n < a + 20) (hs : SortedOn z h a n) (hk : Same g h a n) : St z n h (fun i => i / 20) := by
  have S2 : St z n h (dI (a + 20)) := by
    refine S.block (c := a) (Nat.le_refl _) hs hk (fun i hi hn => ?_) (fun i h1 h2 => ?_) (fun i hi hn => ⟨?_, fun j h1 h2 => ⟨fun q => ?_, fun q => ?_⟩⟩)
    all_goals unfold dI at *
    · by_cases q : i < a
      · rw [if_pos q, if_pos (by omega)]
      · omega
    · rw [if_pos (by omega)]; omega
    · split <;> omega
    · rw [if_neg (by omega : ¬ j < a)]
      revert q
      split <;> omega
    · rw [if_neg (by omega : ¬ j < a)]
      revert q
      split <;> omega
  refine S2.cong (fun i j hi hj e => ?_) (fun i j hi hj e => ?_)
  all_goals unfold dI
  all_goals rw [if_pos (by omega), if_pos (by omega)]
  all_goals try simp only at e
  all_goals omega

theorem dP_start {z : Nat → Nat} {n bs : Nat} {g : Nat → Int} (S : St z n g (fun i => i / bs)) : St z n g (dP bs 0) :=
  S.cong (fun i j hi hj e => by unfold dP at e; rw [if_neg (by omega), if_neg (by omega)] at e; exact e) (fun i j hi hj e => by unfold dP at e; rw [if_neg (by omega), if_neg (by omega)] at e; exact e)

/-- How great blocks may be. -/
def Bs (bs : Nat) : Prop := bs = 20 ∨ bs = 40 ∨ bs = 80 ∨ bs = 160

theorem dP_pre {z : Nat → Nat} {n bs a e : Nat} {g : Nat → Int} (hb : Bs bs) (ha : a % (2 * bs) = 0) (S : St z n g (dP bs a)) (he : e ≤ a + 2 * bs) (hen : e ≤ n) (hme : a + bs < e) : SortedOn z g a (a + bs) ∧ SortedOn z g (a + bs) e ∧ Cr z g a (a + bs) e := by
  refine ⟨fun i j h1 h2 h3 => S.inn i j h2 (by omega) ?_, fun i j h1 h2 h3 => S.inn i j h2 (by omega) ?_, fun i j h1 h2 h3 h4 _ => S.btw i j (by omega) (by omega) ?_⟩
  all_goals unfold dP
  all_goals rw [if_neg (by omega), if_neg (by omega)]
  all_goals rcases hb with rfl | rfl | rfl | rfl
  all_goals omega

theorem dP_post {z : Nat → Nat} {n bs a e : Nat} {g h : Nat → Int} (hb : Bs bs) (ha : a % (2 * bs) = 0) (S : St z n g (dP bs a)) (hen : e ≤ n) (hs : SortedOn z h a e) (hk : Same g h a e) (he : e = a + 2 * bs ∨ (e = n ∧ n ≤ a + 2 * bs)) : St z n h (dP bs (a + 2 * bs)) := by
  refine S.block (c := a / bs) hen hs hk (fun i hi hn => ?_) (fun i h1 h2 => ?_) (fun i hi hn => ⟨?_, fun j h1 h2 => ⟨fun q => ?_, fun q => ?_⟩⟩)
  all_goals unfold dP at *
  · by_cases q : i < a
    · rw [if_pos q, if_pos (by omega)]
    · rw [if_neg q, if_neg (by omega)]
  · rw [if_pos (by omega)]
    rcases hb with rfl | rfl | rfl | rfl <;> omega
  · rcases hb with rfl | rfl | rfl | rfl <;> split <;> omega
  · rw [if_neg (by omega : ¬ j < a)]
    revert q
    rcases hb with rfl | rfl | rfl | rfl <;> split <;> omega
  · rw [if_neg (by omega : ¬ j < a)]
    revert q
    rcases hb with rfl | rfl | rfl | rfl <;> split <;> omega

theorem dP_end {z : Nat → Nat} {n bs a : Nat} {g : Nat → Int} (hb : Bs bs) (ha : a % (2 * bs) = 0) (S : St z n g (dP bs a)) (hn : n ≤ a + bs) : St z n g (fun i => i / (2 * bs)) := by
  refine S.cong (fun i j hi hj e => ?_) (fun i j hi hj e => ?_)
  all_goals unfold dP
  all_goals try simp only at e
  all_goals rcases hb with rfl | rfl | rfl | rfl
  all_goals split <;> split <;> omega

theorem dP_all {z : Nat → Nat} {n bs a : Nat} {g : Nat → Int} (hb : Bs bs) (hn : n ≤ a + 2 * bs) (S : St z n g (dP bs (a + 2 * bs))) : St z n g (fun i => i / (2 * bs)) := by
  refine S.cong (fun i j hi hj e => ?_) (fun i j hi hj e => ?_)
  all_goals unfold dP
  all_goals try simp only at e
  all_goals rw [if_pos (by omega), if_pos (by omega)]
  all_goals omega

theorem symMerge_at (z : Nat → Nat) (zb D n cap : Nat) (R : List Value) (hn : n ≤ 100000) (hne : zb ≠ D) (a m b : Nat) (x y u : Int) (f : Nat → Int) (w : World) (hx : x = a) (hy : y = m) (hu : u = b) (ham : a < m) (hmb : m < b) (hbn : b ≤ n) (hf : ∀ i, i < n → 0 ≤ f i ∧ f i ≤ 255) (hA : SortedOn z f a m) (hB : SortedOn z f m b) (hC : Cr z f a m b)
    (hz : Cells w zb 47 (tab .i64 257 (fun i => (z i : Int)))) (hd : Cells w D 5 (tab .u8 n f ++ R)) :
    Calls Try.prog 59 #[dv D n cap, .int .i64 x, .int .i64 y, .int .i64 u, cmpV zb] w fun e w' => e = .returned (.tuple #[]) ∧ ∃ g, Cells w' D 5 (tab .u8 n g ++ R) ∧ SortedOn z g a b ∧ Same f g a b ∧ But (fun k => k = D) w w' := by
  subst hx; subst hy; subst hu
  exact symMerge_any z zb D n cap R hn hne (b - a) a m b f w (Nat.le_refl _) ham hmb hbn hf hA hB hC hz hd

set_option maxHeartbeats 6400000 in
set_option maxRecDepth 100000 in
theorem stable_any (z : Nat → Nat) (zb D n cap : Nat) (f : Nat → Int) (R : List Value) (hf : ∀ i, i < n → 0 ≤ f i ∧ f i ≤ 255) (hr : ∀ i j, i < j → j < n → f i < f j) (hn : n ≤ 256) (hne : zb ≠ D) (w : World)
    (hz : Cells w zb 47 (tab .i64 257 (fun i => (z i : Int)))) (hd : Cells w D 5 (tab .u8 n f ++ R)) :
    Calls Try.prog 55 #[dv D n cap, .int .i64 n, cmpV zb] w fun e w' => e = .returned (.tuple #[]) ∧ ∃ g, Cells w' D 5 (tab .u8 n g ++ R) ∧ SortedOn z g 0 n ∧ Same f g 0 n ∧ But (fun k => k = D) w w' := by
  go_enter Try.func55, Try.ntmps55
  go_upto_region 2 with fail
  go_loopw [7, 8] (fun v u V => ∃ (a : Nat) (g : Nat → Int), v = .int .i64 a ∧ u = .int .i64 ((a : Int) + 20) ∧ a % 20 = 0 ∧ a ≤ n ∧ St z n g (dI a) ∧ Same f g 0 n ∧ Cells V D 5 (tab .u8 n g ++ R) ∧ But (fun k => k = D) w V) (fun v _ _ => n - (intOf v).toNat)
  case atStart => exact ⟨0, f, rfl, rfl, rfl, Nat.zero_le _, St.start hr, Same.refl _ _ _, hd, But.refl _ _⟩
  case round =>
    obtain ⟨a, g, rfl, rfl, ha, han, S, K, ks, hB⟩ := hrel
    have s1 : IntKind.i64.wrap ((a : Int) + 20 + 20) = ((a + 20 : Nat) : Int) + 20 := by rw [wrap_i64_eq, w64 _ (by omega)]; omega
    by_cases q : a + 20 ≤ n
    · have d1 : decide ((a : Int) + 20 ≤ (n : Int)) = true := by simp; omega
      go_wp2_with (go_at_call 58; refine (insertion_at z zb D n cap a (a + 20) _ _ g R rfl (by omega) (K.bd (Nat.le_refl _) hf) (dI_rise S q) (by omega) q (by omega) hne _ (hz.but hB hne) ks).mono ?_; rintro e y ⟨rfl, g', ky, sy, my, dy⟩)
      go_roundw
      case rel => exact ⟨a + 20, g', by go_num, by first | rfl | exact congrArg _ s1 | (rw [s1]), by omega, q, dI_next S ha q sy my, K.trans (my.wide (Nat.zero_le _) q), ky, hB.trans dy⟩
      case measure => simp [intOf]; omega
    · have d1 : decide ((a : Int) + 20 ≤ (n : Int)) = false := by simp; omega
      go_upto_region 7 with (go_at_call 58; refine (insertion_at z zb D n cap a n _ _ g R rfl rfl (K.bd (Nat.le_refl _) hf) (dI_rise S (Nat.le_refl _)) han (Nat.le_refl _) (by omega) hne _ (hz.but hB hne) ks).mono ?_; rintro e y ⟨rfl, g', ky, sy, my, dy⟩)
      have S2 := dI_last S ha han (by omega) sy my
      have K2 := K.trans (my.wide (Nat.zero_le _) (Nat.le_refl _))
      have hB2 := hB.trans dy
      clear S K ks hB sy my dy
      go_loopw [6] (fun v V => ∃ (bs : Nat) (g : Nat → Int), v = .int .i64 bs ∧ (Bs bs ∨ bs = 320) ∧ St z n g (fun i => i / bs) ∧ Same f g 0 n ∧ Cells V D 5 (tab .u8 n g ++ R) ∧ But (fun k => k = D) w V) (fun v _ => 400 - (intOf v).toNat)
      case atStart => exact ⟨20, g', rfl, .inl (.inl rfl), S2, K2, by assumption, hB2⟩
      case round =>
        clear S2 K2 hB2
        obtain ⟨bs, g, rfl, hbs, S, K, ks, hB⟩ := hrel
        have hb1 : 20 ≤ bs ∧ bs ≤ 320 := by rcases hbs with (rfl | rfl | rfl | rfl) | rfl <;> omega
        by_cases q : bs < n
        · have hb : Bs bs := hbs.elim id (fun e => by omega)
          have d1 : decide ((bs : Int) < (n : Int)) = true := by simp; omega
          have s1 : IntKind.i64.wrap (2 * (bs : Int)) = 2 * (bs : Int) := by rw [wrap_i64_eq, w64 _ (by omega)]
          have S0 := dP_start S
          go_upto_region 9 with fail
          go_loopw [7, 8] (fun v u V => ∃ (a : Nat) (g : Nat → Int), v = .int .i64 a ∧ u = .int .i64 ((a : Int) + 2 * (bs : Int)) ∧ a % (2 * bs) = 0 ∧ a ≤ n ∧ St z n g (dP bs a) ∧ Same f g 0 n ∧ Cells V D 5 (tab .u8 n g ++ R) ∧ But (fun k => k = D) w V) (fun v _ _ => n - (intOf v).toNat)
          case atStart => exact ⟨0, g, rfl, by first | rfl | (congr 1; omega), Nat.zero_mod _, Nat.zero_le _, S0, K, ks, hB⟩
          case round =>
            clear S S0 K ks hB
            obtain ⟨a, g, rfl, rfl, ha, han, S, K, ks, hB⟩ := hrel
            have hbd := K.bd (Nat.le_refl _) hf
            have s2 : IntKind.i64.wrap ((a : Int) + (bs : Int)) = ((a + bs : Nat) : Int) := by rw [wrap_i64_eq, w64 _ (by omega)]; omega
            have s3 : IntKind.i64.wrap ((a : Int) + 2 * (bs : Int) + 2 * (bs : Int)) = ((a + 2 * bs : Nat) : Int) + 2 * (bs : Int) := by rw [wrap_i64_eq, w64 _ (by omega)]; omega
            by_cases q2 : a + 2 * bs ≤ n
            · have d2 : decide ((a : Int) + 2 * (bs : Int) ≤ (n : Int)) = true := by simp; omega
              obtain ⟨p1, p2, p3⟩ := dP_pre hb ha S (Nat.le_refl _) q2 (by omega)
              go_wp2_with (go_at_call 59; refine (symMerge_at z zb D n cap R (by omega) hne a (a + bs) (a + 2 * bs) _ _ _ g _ rfl (by omega) (by omega) (by omega) (by omega) q2 hbd p1 p2 p3 (hz.but hB hne) ks).mono ?_; rintro e y ⟨rfl, g', ky, sy, my, dy⟩)
              go_roundw
              case rel => exact ⟨a + 2 * bs, g', by first | rfl | go_num | (congr 1; omega), by first | rfl | rw [s3], by rw [Nat.add_mod_right]; exact ha, q2, dP_post hb ha S q2 sy my (.inl rfl), K.trans (my.wide (Nat.zero_le _) q2), ky, hB.trans dy⟩
              case measure => simp [intOf]; omega
            · have d2 : decide ((a : Int) + 2 * (bs : Int) ≤ (n : Int)) = false := by simp; omega
              have s4 : IntKind.i64.wrap ((bs : Int) * 2) = ((2 * bs : Nat) : Int) := by rw [wrap_i64_eq, w64 _ (by omega)]; omega
              have hb2 : Bs (2 * bs) ∨ 2 * bs = 320 := by
                rcases hb with rfl | rfl | rfl | rfl
                · exact .inl (.inr (.inl rfl))
                · exact .inl (.inr (.inr (.inl rfl)))
                · exact .inl (.inr (.inr (.inr rfl)))
                · exact .inr rfl
              by_cases q3 : a + bs < n
              · have d3 : decide (((a + bs : Nat) : Int) < (n : Int)) = true := by simp; omega
                have d4 : decide ((a : Int) + (bs : Int) < (n : Int)) = true := by simp; omega
                obtain ⟨p1, p2, p3⟩ := dP_pre hb ha S (by omega) (Nat.le_refl _) q3
                go_wp2_with (go_at_call 59; refine (symMerge_at z zb D n cap R (by omega) hne a (a + bs) n _ _ _ g _ rfl (by omega) rfl (by omega) q3 (Nat.le_refl _) hbd p1 p2 p3 (hz.but hB hne) ks).mono ?_; rintro e y ⟨rfl, g', ky, sy, my, dy⟩)
                go_roundw
                case rel => exact ⟨2 * bs, g', by first | rfl | rw [s4] | (congr 1; omega), hb2, dP_all hb (by omega) (dP_post hb ha S (Nat.le_refl _) sy my (.inr ⟨rfl, by omega⟩)), K.trans (my.wide (Nat.zero_le _) (Nat.le_refl _)), ky, hB.trans dy⟩
                case measure => simp [intOf]; omega
              · have d3 : decide (((a + bs : Nat) : Int) < (n : Int)) = false := by simp; omega
                have d4 : decide ((a : Int) + (bs : Int) < (n : Int)) = false := by simp; omega
                have HS : Hid _ := dP_end hb ha S (by omega)
                clear S
                go_wp2_with fail
                go_roundw
                case rel => exact ⟨2 * bs, g, by first | rfl | rw [s4] | (congr 1; omega), hb2, HS.out, K, ks, hB⟩
                case measure => simp [intOf]; omega
        · have d1 : decide ((bs : Int) < (n : Int)) = false := by simp; omega
          have hs : SortedOn z g 0 n := fun i j h1 h2 h3 => S.inn i j h2 h3 (by
            show i / bs = j / bs
            rw [Nat.div_eq_of_lt (by omega), Nat.div_eq_of_lt (by omega)])
          clear S
          go_wp2_with fail
          go_end0
          exact ⟨rfl, g, ks, hs, K, hB⟩

end Go.Proofs.Ytlpeplihbdcklaa

/- Values by rising size, the program's. -/
namespace Go.Proofs.Ytlpeplihbdcklaa
set_option linter.unusedVariables false
open Go.ChangeShapes Go.WideShapes Go.ChangeAt Go.RowKit

theorem sortStable_any (z : Nat → Nat) (zb D n cap : Nat) (f : Nat → Int) (R : List Value) (hf : ∀ i, i < n → 0 ≤ f i ∧ f i ≤ 255) (hr : ∀ i j, i < j → j < n → f i < f j) (hn : n ≤ 256) (hne : zb ≠ D) (w : World)
    (hz : Cells w zb 47 (tab .i64 257 (fun i => (z i : Int)))) (hd : Cells w D 5 (tab .u8 n f ++ R)) :
    Calls Try.prog 44 #[dv D n cap, cmpV zb] w fun e w' => e = .returned (.tuple #[]) ∧ ∃ g, Cells w' D 5 (tab .u8 n g ++ R) ∧ SortedOn z g 0 n ∧ Same f g 0 n ∧ But (fun k => k = D) w w' := by
  go_enter Try.func44, Try.ntmps44
  go_wp2_with (go_at_call 55; refine (stable_any z zb D n cap f R hf hr hn hne _ hz hd).mono ?_; rintro e y ⟨rfl, g, ky, sy, my, dy⟩)
  go_end0
  exact ⟨rfl, g, ky, sy, my, dy⟩

/-- Of nothing. -/
theorem insertion_none (v c : Value) (w : World) : Calls Try.prog 58 #[v, .int .i64 0, .int .i64 0, c] w fun e w' => e = .returned (.tuple #[]) ∧ But Nowhere w w' := by
  go_enter Try.func58, Try.ntmps58
  go_upto_region 1 with fail
  go_loopw [8] (fun u V => u = .int .i64 1 ∧ V = w) (fun _ _ => 0)
  case atStart => exact ⟨rfl, rfl⟩
  case round =>
    obtain ⟨rfl, rfl⟩ := hrel
    go_wp2_with fail
    go_end0
    exact ⟨rfl, But.refl _ _⟩
theorem stable_none (v c : Value) (w : World) : Calls Try.prog 55 #[v, .int .i64 0, c] w fun e w' => e = .returned (.tuple #[]) ∧ But Nowhere w w' := by
  go_enter Try.func55, Try.ntmps55
  go_upto_region 2 with fail
  go_loopw [7, 8] (fun u v V => u = .int .i64 0 ∧ v = .int .i64 20 ∧ V = w) (fun _ _ _ => 0)
  case atStart => exact ⟨rfl, rfl, rfl⟩
  case round =>
    obtain ⟨rfl, rfl, rfl⟩ := hrel
    go_upto_region 7 with (go_at_call 58; refine (insertion_none _ _ _).mono ?_; rintro e y ⟨rfl, dy⟩)
    go_loopw [6] (fun u V => u = .int .i64 20 ∧ V = y) (fun _ _ => 0)
    case atStart => exact ⟨rfl, rfl⟩
    case round =>
      obtain ⟨rfl, rfl⟩ := hrel
      go_wp2_with fail
      go_end0
      exact ⟨rfl, dy⟩
theorem sortStable_none (c : Value) (w : World) : Calls Try.prog 44 #[.slice none 0 0, c] w fun e w' => e = .returned (.tuple #[]) ∧ But Nowhere w w' := by
  go_enter Try.func44, Try.ntmps44
  go_wp2_with (go_at_call 55; refine (stable_none _ _ _).mono ?_; rintro e y ⟨rfl, dy⟩)
  go_end0
  exact ⟨rfl, dy⟩

/-- The values below k that have a size. -/
def comeTo (z : Nat → Nat) : Nat → List Int
  | 0 => []
  | k + 1 => if 0 < z k then comeTo z k ++ [(k : Int)] else comeTo z k

theorem come_mem (z : Nat → Nat) (x : Int) : ∀ k, x ∈ comeTo z k ↔ ∃ u : Nat, u < k ∧ x = u ∧ 0 < z u
  | 0 => by unfold comeTo; simp
  | k + 1 => by
    have ih := come_mem z x k
    unfold comeTo
    by_cases h : 0 < z k
    · rw [if_pos h, List.mem_append, ih, List.mem_singleton]
      constructor
      · rintro (⟨u, h1, h2, h3⟩ | rfl)
        · exact ⟨u, by omega, h2, h3⟩
        · exact ⟨k, by omega, rfl, h⟩
      · rintro ⟨u, h1, h2, h3⟩
        by_cases e : u = k
        · subst e; exact .inr h2
        · exact .inl ⟨u, by omega, h2, h3⟩
    · rw [if_neg h, ih]
      constructor
      · rintro ⟨u, h1, h2, h3⟩
        exact ⟨u, by omega, h2, h3⟩
      · rintro ⟨u, h1, h2, h3⟩
        refine ⟨u, ?_, h2, h3⟩
        by_cases e : u = k
        · subst e; exact absurd h3 h
        · omega

theorem come_rise (z : Nat → Nat) : ∀ k, (comeTo z k).Pairwise (· < ·)
  | 0 => .nil
  | k + 1 => by
    have ih := come_rise z k
    unfold comeTo
    by_cases h : 0 < z k
    · rw [if_pos h, List.pairwise_append]
      refine ⟨ih, by simp, fun a ha b hb => ?_⟩
      obtain ⟨u, h1, h2, -⟩ := (come_mem z a k).1 ha
      rw [List.mem_singleton] at hb
      omega
    · rw [if_neg h]; exact ih

theorem come_len (z : Nat → Nat) : ∀ k, (comeTo z k).length ≤ k
  | 0 => Nat.le_refl _
  | k + 1 => by
    have ih := come_len z k
    unfold comeTo
    split
    · rw [List.length_append]; show _ + 1 ≤ _; omega
    · omega

theorem row_sorted (z : Nat → Nat) (s : Nat) : ∀ k, (rowTo z s k).Pairwise (ltV z)
  | 0 => .nil
  | k + 1 => by
    have ih := row_sorted z s k
    unfold rowTo
    by_cases h : z k = s
    · rw [if_pos h, List.pairwise_append]
      refine ⟨ih, by simp, fun a ha b hb => ?_⟩
      obtain ⟨u, h1, h2, h3⟩ := (row_mem z s a k).1 ha
      rw [List.mem_singleton] at hb
      subst h2; subst hb
      refine .inr ⟨?_, by omega⟩
      simp only [Int.toNat_natCast]
      rw [h3, h]
    · rw [if_neg h]; exact ih
theorem vals_sorted (z : Nat → Nat) : ∀ m, (valsTo z m).Pairwise (ltV z)
  | 0 => .nil
  | m + 1 => by
    have ih := vals_sorted z m
    unfold valsTo
    rw [List.pairwise_append]
    refine ⟨ih, row_sorted z (m + 1) 256, fun a ha b hb => ?_⟩
    obtain ⟨u, h1, h2, h3, h4⟩ := (vals_mem z a m).1 ha
    obtain ⟨v, k1, k2, k3⟩ := (row_mem z (m + 1) b 256).1 hb
    subst h2; subst k2
    refine .inl ?_
    simp only [Int.toNat_natCast]
    omega

/-- Sorted, all that come are the table's values. -/
theorem sorted_vals {z : Nat → Nat} (hz : ∀ i, i < 256 → z i ≤ 256) {n : Nat} {f g : Nat → Int} (hn : (comeTo z 256).length = n) (hf : ∀ i (hi : i < (comeTo z 256).length), f i = (comeTo z 256)[i]) (hs : SortedOn z g 0 n) (hk : Same f g 0 n) : (List.range n).map g = tabV z := by
  have hsort : ((List.range n).map g).Pairwise (ltV z) := by
    rw [List.pairwise_map]
    refine List.Pairwise.imp_of_mem ?_ (List.pairwise_lt_range (n := n))
    intro a b ha hb hab
    exact hs a b (Nat.zero_le _) hab (List.mem_range.1 hb)
  have hmem : ∀ x, x ∈ (List.range n).map g ↔ x ∈ tabV z := fun x => by
    unfold tabV
    rw [vals_mem, List.mem_map]
    constructor
    · rintro ⟨i, hi, rfl⟩
      obtain ⟨j, hj, e⟩ := hk.bwd i (Nat.zero_le _) (List.mem_range.1 hi)
      have hj' : j < (comeTo z 256).length := by omega
      rw [hf j hj'] at e
      obtain ⟨u, h1, h2, h3⟩ := (come_mem z (g i) 256).1 (by rw [← e]; exact List.getElem_mem hj')
      exact ⟨u, h1, h2, h3, by have := hz u h1; omega⟩
    · rintro ⟨u, h1, h2, h3, -⟩
      have : x ∈ comeTo z 256 := (come_mem z x 256).2 ⟨u, h1, h2, h3⟩
      obtain ⟨j, hj, e⟩ := List.getElem_of_mem this
      obtain ⟨i, hi, e2⟩ := hk.fwd j (Nat.zero_le _) (by omega)
      exact ⟨i, List.mem_range.2 hi.2, by rw [e2, hf j hj, e]⟩
  have irr : ∀ {l : List Int}, l.Pairwise (ltV z) → l.Nodup := fun h => h.imp (fun hab e => by subst e; exact hab.irr)
  have hp : ((List.range n).map g).Perm (tabV z) := (List.perm_ext_iff_of_nodup (irr hsort) (irr (vals_sorted z 259))).2 hmem
  exact hp.eq_of_pairwise (fun a b _ _ h1 h2 => absurd (h1.trans h2) (fun h => h.irr)) hsort (vals_sorted z 259)

end Go.Proofs.Ytlpeplihbdcklaa

/- Values by rising size: the call. -/
namespace Go.Proofs.Ytlpeplihbdcklaa
set_option linter.unusedVariables false
open Go.ChangeShapes Go.WideShapes Go.ChangeAt Go.RowKit

theorem Try.elemB8 : ElemInfo Try.prog 23 5 (.int .u8 0) 1 1 := ⟨Try.underlying23, by kernel_rfl, rfl, by omega⟩

theorem ints_fn (k : IntKind) (l : List Int) : ints k l = tab k l.length (fun i => l.getD i 0) := by
  apply List.ext_getElem?
  intro i
  by_cases h : i < l.length
  · rw [ints_at _ _ _ h, tab_at _ _ _ _ h, List.getD_eq_getElem?_getD, List.getElem?_eq_getElem h]
    rfl
  · rw [List.getElem?_eq_none (by rw [ints_length]; omega), List.getElem?_eq_none (by rw [tab_length]; omega)]

theorem Cells.viewA {W : World} {b : Nat} {t : TypeId} {k : IntKind} {n cap : Nat} {g : Nat → Int} {R : List Value} (h : Cells W b t (tab k n g ++ R)) : View W k (.slice (some ⟨b, 0, none⟩) n cap) ((List.range n).map g) := by
  refine ⟨some ⟨b, 0, none⟩, cap, by simp, fun _ => ⟨b, 0, rfl, h.lt, fun i hi => ?_⟩⟩
  have hi' : i < n := by simpa using hi
  rw [Nat.zero_add, h.cellA i hi']
  simp

set_option maxHeartbeats 3200000 in
set_option maxRecDepth 100000 in
theorem ordered_any (z : Nat → Nat) (hz : ∀ i, i < 257 → z i ≤ 256) (w : World) : Calls Try.prog 27 #[.agg (tab .i64 257 (fun i => (z i : Int))).toArray] w fun e w' =>
    ∃ v, e = .returned v ∧ View w' .u8 v (tabV z) ∧ (∀ b off sp n c, v = .slice (some ⟨b, off, sp⟩) n c → w.heap.size ≤ b) ∧ But Nowhere w w' := by
  have hu := Try.underlying47
  have hu8 := Try.underlying5
  have hA : Try.prog.arrayLen 47 = 257 := by kernel_rfl
  have kk := (Keep.start w).made 47 (tab .i64 257 (fun i => (z i : Int)))
  have kb := kk.head
  have bb := kk.but
  have L0 := (Lst.start (w.alloc (.cells (tab .i64 257 (fun i => (z i : Int))).toArray 47)) 5 1).back bb
  clear kk
  go_enter Try.func27, Try.ntmps27
  go_upto_region 3 with fail
  go_loopw [3, 8] (fun s v V => ∃ k : Nat, k ≤ 256 ∧ v = .int .i64 k ∧ Cells V w.heap.size 47 (tab .i64 257 (fun i => (z i : Int))) ∧ Lst w V 5 1 s (comeTo z k).length (ints .u8 (comeTo z k)) ∧ s.ownBlock ≠ some w.heap.size ∧ (comeTo z k = [] → s = .slice none 0 0)) (fun _ v _ => 256 - (intOf v).toNat)
  case atStart => exact ⟨0, Nat.zero_le _, rfl, kb, L0, by simp [Value.ownBlock], fun _ => rfl⟩
  case round =>
    clear kb L0 bb
    obtain ⟨k, hk, rfl, kb, L, hs, hnil⟩ := hrel
    have hlen := come_len z k
    by_cases hlt : k < 256
    · have z0 : (0 : Int) ≤ (k : Int) := by omega
      have z1 : (k : Int) < 256 := by omega
      have z2 : (k : Int) < 257 := by omega
      have c0 := kb.cell k (by omega)
      by_cases hp : 0 < z k
      · have d1 : decide (((z k : Nat) : Int) > 0) = true := by simp; omega
        have r1 : IntKind.u8.wrap (k : Int) = (k : Int) := by simp (disch := omega) only [IntWalk.u8_in]
        obtain ⟨B, hB⟩ : ∃ B, wr.heap.size = B := ⟨_, rfl⟩
        obtain ⟨g', cap', w2, hrun, L2, b2, hat⟩ := L.push (P := Try.prog) Try.elemB8 [.int .u8 (k : Int)] rfl (by intro u hu; simp at hu; subst hu; rfl) (by omega) (by omega) B hB
        have e1 : comeTo z (k + 1) = comeTo z k ++ [(k : Int)] := if_pos hp
        have kb2 := kb.but b2 hs
        have hg : g' ≠ w.heap.size := by
          rcases hat with e | e
          · intro q; rw [q] at e; exact hs e
          · have := kb.lt; omega
        have HX : Hid (Cells w2 w.heap.size 47 (tab .i64 257 (fun i => (z i : Int))) ∧ Lst w w2 5 1 (.slice (some ⟨g', 0, none⟩) ((comeTo z k).length + 1) cap') (comeTo z (k + 1)).length (ints .u8 (comeTo z (k + 1)))) := by
          refine ⟨kb2, ?_⟩
          rw [e1, List.length_append, ints_append]
          exact L2
        obtain ⟨sa, sc, rfl⟩ := L.slice
        clear L L2 kb kb2
        generalize z k = zk at *
        go_wp2_with (first
          | (refine wpList_build_one Try.elemB8 rfl (.tmp 17) rfl (.int .u8 (k : Int)) rfl [.int .u8 (k : Int)] rfl rfl (by omega) B hB ?_)
          | (refine wpList_append_run rfl (.tmp 15) (.tmp 18) 23 rfl (.slice sa (comeTo z k).length sc) (.slice (some ⟨B, 0, none⟩) 1 1) rfl rfl _ w2 hrun ?_))
        go_roundw
        case rel => exact ⟨k + 1, by omega, by go_num, HX.out.1, HX.out.2, by simp [Value.ownBlock]; exact hg, fun h => by rw [e1] at h; simp at h⟩
        case measure => simp [intOf]; omega
      · have d1 : decide (((z k : Nat) : Int) > 0) = false := by simp; omega
        have e1 : comeTo z (k + 1) = comeTo z k := if_neg hp
        rw [← e1] at L hnil
        have HX : Hid _ := And.intro kb (And.intro L (And.intro hs hnil))
        clear kb L hs hnil
        generalize z k = zk at *
        go_wp2_with fail
        go_roundw
        case rel => exact ⟨k + 1, by omega, by go_num, HX.out⟩
        case measure => simp [intOf]; omega
    · obtain rfl : k = 256 := by omega
      have hzz : ∀ i, i < 256 → z i ≤ 256 := fun i hi => hz i (by omega)
      by_cases h0 : comeTo z 256 = []
      · obtain rfl := hnil h0
        have hT : tabV z = [] := by
          have := sorted_vals hzz (n := 0) (f := fun _ => 0) (g := fun _ => 0) (by rw [h0]; rfl) (fun i hi => by rw [h0] at hi; simp at hi) (fun i j h1 h2 h3 => by omega) (Same.refl _ _ _)
          simpa using this.symm
        have HT : Hid (tabV z = []) := hT
        have HB : Hid (But Nowhere w wr) := L.but
        clear L kb hT h0 hnil
        go_wp2_with (go_at_call 44; refine (sortStable_none _ _).mono ?_; rintro e y ⟨rfl, dy⟩)
        go_ret
        refine ⟨_, rfl, ?_, fun b off sp n c e => (by cases e), HB.out.trans dy⟩
        rw [HT.out]
        exact View.nil _ _
      · have hpos : 0 < (comeTo z 256).length := List.length_pos_iff.2 h0
        obtain ⟨n, hn⟩ : ∃ n, (comeTo z 256).length = n := ⟨_, rfl⟩
        obtain ⟨D, cap, rfl, h1, h2, h3, -⟩ := L.at hpos
        rw [ints_fn, hn] at L
        obtain ⟨R, kk⟩ := L.keep
        have hne : w.heap.size ≠ D := by intro q; apply hs; simp [Value.ownBlock, q]
        have hd := kk.head
        have HR := come_rise z 256
        have hr : ∀ i j, i < j → j < n → (comeTo z 256).getD i 0 < (comeTo z 256).getD j 0 := fun i j hij hj => by
          have := List.pairwise_iff_getElem.1 HR i j (by omega) (by omega) hij
          rw [List.getD_eq_getElem?_getD, List.getD_eq_getElem?_getD, List.getElem?_eq_getElem (by omega), List.getElem?_eq_getElem (by omega)]
          exact this
        have hf : ∀ i, i < n → 0 ≤ (comeTo z 256).getD i 0 ∧ (comeTo z 256).getD i 0 ≤ 255 := fun i hi => by
          rw [List.getD_eq_getElem?_getD, List.getElem?_eq_getElem (by omega)]
          obtain ⟨u, u1, u2, -⟩ := (come_mem z _ 256).1 (List.getElem_mem (show i < (comeTo z 256).length by omega))
          show 0 ≤ (comeTo z 256)[i] ∧ (comeTo z 256)[i] ≤ 255
          omega
        have HF : Hid (∀ g, SortedOn z g 0 n → Same (fun i => (comeTo z 256).getD i 0) g 0 n → (List.range n).map g = tabV z) := fun g sg kg => sorted_vals hzz hn (fun i hi => by
          rw [List.getD_eq_getElem?_getD, List.getElem?_eq_getElem hi]; rfl) sg kg
        have HB : Hid (But Nowhere w wr) := L.but
        have hnw : w.heap.size ≤ D := h2
        rw [hn]
        clear L kk hnil h0 HR h3
        obtain ⟨f, hfd⟩ : ∃ f : Nat → Int, f = (fun i => (comeTo z 256).getD i 0) := ⟨_, rfl⟩
        rw [← hfd] at hd HF
        replace hr : ∀ i j, i < j → j < n → f i < f j := fun i j a b => by rw [hfd]; exact hr i j a b
        replace hf : ∀ i, i < n → 0 ≤ f i ∧ f i ≤ 255 := fun i a => by rw [hfd]; exact hf i a
        clear hfd
        go_wp2_with (go_at_call 44; refine (sortStable_any z w.heap.size D n cap f R hf hr (by omega) hne _ kb hd).mono ?_; rintro e y ⟨rfl, g, ky, sy, my, dy⟩)
        go_ret
        refine ⟨_, rfl, ?_, fun b off sp n c e => (by cases e; exact hnw), HB.out.step dy (fun k hk e => by omega)⟩
        rw [← HF.out g sy my]
        exact ky.viewA

end Go.Proofs.Ytlpeplihbdcklaa
