/- Steps of choices. -/
import Derived.Test.YthaekjdnaaikfaaDoorQu7
namespace Go.Proofs.YthaekjdnaaikfaaDoor
set_option linter.unusedVariables false
open Go.ChangeShapes Go.WideShapes Go.ChangeAt Go.RowKit

theorem tab_more (n : Nat) (f : Nat → Int) (x : Int) : tab .i64 (n + 1) (upd f n x) = tab .i64 n f ++ [.int .i64 x] := by
  rw [tab_snoc, tab_congr .i64 n (upd f n x) f (fun j hj => by unfold upd; rw [if_neg (by omega)])]
  unfold upd
  rw [if_pos rfl]

theorem step_bd (y : Int) (D : Nat) (hy : 0 ≤ y ∧ y ≤ 255) (hD : D < 64) : 1 ≤ IntKind.i64.wrap (1 + (IntKind.i64.wrap (IntKind.i64.wrap y + (D : Int))).tmod 255) ∧ IntKind.i64.wrap (1 + (IntKind.i64.wrap (IntKind.i64.wrap y + (D : Int))).tmod 255) ≤ 255 := by
  rw [wrap_i64_eq, wrap_i64_eq, wrap_i64_eq, w64 y (by omega), w64 (y + (D : Int)) (by omega), Int.tmod_eq_emod_of_nonneg (by omega), w64 _ (by omega)]
  omega

set_option maxHeartbeats 3200000 in
set_option maxRecDepth 100000 in
theorem steps_any (v : Value) (l : List Int) (w : World) (hv : View w .u8 v l) (hx : ∀ x ∈ l, 0 ≤ x ∧ x ≤ 255) (hl : l.length ≤ 9223372036854775807) : Calls Tryd.prog 13 #[v] w fun e w' =>
    ∃ v' q, e = .returned v' ∧ Sts w' v' q ∧ Stp q ∧ But Nowhere w w' := by
  obtain ⟨vo, vc, rfl⟩ := hv.slice
  go_enter Tryd.func13, Tryd.ntmps13
  go_wp2_with fail
  go_loopw [3, 4] (fun o i V => ∃ (n : Nat) (f : Nat → Int), n ≤ 64 ∧ i = .int .i64 n ∧ (∀ j, j < n → 1 ≤ f j ∧ f j ≤ 255) ∧ Lst w V 3 1 o n (tab .i64 n f)) (fun _ i _ => 64 - (intOf i).toNat)
  case atStart => exact ⟨0, fun _ => 0, Nat.zero_le _, rfl, fun j hj => by omega, by simpa [tab] using Lst.start w 3 1⟩
  case round =>
    obtain ⟨n, f, hn, rfl, hf, LL⟩ := hrel
    obtain ⟨po, pc, rfl⟩ := LL.slice
    by_cases hlt : n < 64
    · have i0 : (0 : Int) ≤ (n : Int) := by omega
      have i1 : (n : Int) < 64 := by omega
      by_cases hz : l.length = 0
      · have hz' : ¬ (0 : Int) < (l.length : Int) := by omega
        obtain ⟨g', cap, W4, hrun, L4, b4, hg4⟩ := Lst.push Tryd.elemI LL [.int .i64 (1 + (n : Int))] rfl (by simp [Value.oneCell']) (by omega) (by omega) _ rfl
        rw [← tab_more] at L4
        have HX : Hid _ := L4
        have HR : Hid _ := hrun
        have HF : Hid _ := hf
        clear L4 b4 hg4 LL hrun hf
        go_wp2_with (at_builtin; refine wpList_append_run rfl _ _ _ rfl _ _ (by rfl) (by rfl) _ _ HR.out ?_)
        go_roundw
        case rel =>
          have hN : ∀ j, j < n + 1 → 1 ≤ upd f n (1 + (n : Int)) j ∧ upd f n (1 + (n : Int)) j ≤ 255 := fun j hj => by unfold upd; split; omega; exact HF.out j (by omega)
          first
            | exact ⟨n + 1, upd f n (1 + (n : Int)), by omega, by go_num, hN, HX.out⟩
            | exact ⟨n + 1, by omega, by go_num, upd f n (1 + (n : Int)), hN, HX.out⟩
        case measure => simp [intOf]; omega
      · have hlp : n % l.length < l.length := Nat.mod_lt _ (by omega)
        obtain ⟨-, vb, off, rfl, hvb, hvc⟩ := hv.at (n % l.length) hlp
        obtain ⟨y, hy⟩ : ∃ y, l[n % l.length] = y := ⟨_, rfl⟩
        have hy2 := hx _ (List.getElem_mem hlp)
        rw [hy] at hvc hy2
        have hz' : (0 : Int) < (l.length : Int) := by omega
        have hzz : ¬ (l.length : Int) = 0 := by omega
        obtain ⟨D, hD⟩ : ∃ D, n / l.length = D := ⟨_, rfl⟩
        obtain ⟨Mo, hMo⟩ : ∃ D, n % l.length = D := ⟨_, rfl⟩
        have r1 : (n : Int).tmod (l.length : Int) = (Mo : Int) := by rw [Int.tmod_eq_emod_of_nonneg (by omega), ← hMo]; rfl
        have r2 : (n : Int).tdiv (l.length : Int) = (D : Int) := by rw [Int.tdiv_eq_ediv_of_nonneg (by omega), ← hD]; rfl
        have hD9 : D < 64 := by have := Nat.div_le_self n l.length; omega
        have r3 : IntKind.i64.wrap (D : Int) = D := by rw [wrap_i64_eq]; exact w64 _ (by omega)
        rw [hMo] at hvc hlp
        have m1 : (Mo : Int) < (l.length : Int) := by omega
        clear hy hMo hD
        have hS := LL.but.drew.keeps (not_nowhere _) hvc
        go_wp2_with fail
        refine wp_region_till (S := fun V => V.cell? ⟨vb, off + Mo, none⟩ = some (.int .u8 y)) (R := fun _ => True) (k := 100) (m := 100) (by kernel_rfl) hS trivial ?_
        have LD : Lst w wr.drew 3 1 (.slice po n pc) n (tab .i64 n f) := LL.step (But.refl _ _).drew
        revert LD
        clear LL hS
        generalize wr.drew = V
        intro LD
        (refine Walk.take (i := 0) (oi := { dst := some 15, op := Op.move (Operand.tmp 0), type := 28, pos := "law.go:25", after := #[], guard := none }) (v := ?_) rfl (by kernel_rfl) (by kernel_rfl) (by kernel_rfl) (by kernel_rfl) (fun _ _ _ h => h) (Or.inl ⟨by rfl, ?_⟩) ?_; rotate_left; (intro w hw; clear hw; (try go_split_ands); go_simp; try (with_reducible rfl)); simp only [Act.put, List.setIfInBounds_toArray, List.set_cons_zero, List.set_cons_succ])
        (refine Walk.take (i := 1) (oi := { dst := some 16, op := Op.move (Operand.tmp 4), type := 3, pos := "law.go:25", after := #[], guard := none }) (v := ?_) rfl (by kernel_rfl) (by kernel_rfl) (by kernel_rfl) (by kernel_rfl) (fun _ _ _ h => h) (Or.inl ⟨by rfl, ?_⟩) ?_; rotate_left; (intro w hw; clear hw; (try go_split_ands); go_simp; try (with_reducible rfl)); simp only [Act.put, List.setIfInBounds_toArray, List.set_cons_zero, List.set_cons_succ])
        (refine Walk.take (i := 2) (oi := { dst := some 17, op := Op.move (Operand.tmp 0), type := 28, pos := "law.go:25", after := #[], guard := none }) (v := ?_) rfl (by kernel_rfl) (by kernel_rfl) (by kernel_rfl) (by kernel_rfl) (fun _ _ _ h => h) (Or.inl ⟨by rfl, ?_⟩) ?_; rotate_left; (intro w hw; clear hw; (try go_split_ands); go_simp; try (with_reducible rfl)); simp only [Act.put, List.setIfInBounds_toArray, List.set_cons_zero, List.set_cons_succ])
        (refine Walk.take (i := 3) (oi := { dst := some 18, op := Op.call { callee := Callee.builtin Builtin.len, args := #[Operand.tmp 17], argTypes := #[28] }, type := 3, pos := "law.go:25", after := #[{ on := 2, ground := Ground.data }], guard := none }) (v := ?_) rfl (by kernel_rfl) (by kernel_rfl) (by kernel_rfl) (by kernel_rfl) (fun _ _ _ h => h) (Or.inl ⟨by rfl, ?_⟩) ?_; rotate_left; (intro w hw; clear hw; (try go_split_ands); go_simp; try (with_reducible rfl)); simp only [Act.put, List.setIfInBounds_toArray, List.set_cons_zero, List.set_cons_succ])
        (refine Walk.take (i := 4) (oi := { dst := some 19, op := Op.binOp BinOp.rem 3 (Operand.tmp 16) (Operand.tmp 18) 3, type := 3, pos := "law.go:25", after := #[{ on := 1, ground := Ground.data }, { on := 3, ground := Ground.data }], guard := none }) (v := ?_) rfl (by kernel_rfl) (by kernel_rfl) (by kernel_rfl) (by kernel_rfl) (fun _ _ _ h => h) (Or.inl ⟨by rfl, ?_⟩) ?_; rotate_left; (intro w hw; clear hw; (try go_split_ands); go_simp; try (with_reducible rfl)); simp only [Act.put, List.setIfInBounds_toArray, List.set_cons_zero, List.set_cons_succ])
        (refine Walk.take (i := 5) (oi := { dst := some 20, op := Op.indexAddr 28 (Operand.tmp 15) (Operand.tmp 19), type := 0, pos := "law.go:25", after := #[{ on := 0, ground := Ground.data }, { on := 4, ground := Ground.data }], guard := none }) (v := ?_) rfl (by kernel_rfl) (by kernel_rfl) (by kernel_rfl) (by kernel_rfl) (fun _ _ _ h => h) (Or.inl ⟨by rfl, ?_⟩) ?_; rotate_left; (intro w hw; clear hw; (try go_split_ands); go_simp; try (with_reducible rfl)); simp only [Act.put, List.setIfInBounds_toArray, List.set_cons_zero, List.set_cons_succ])
        (refine Walk.take (i := 6) (oi := { dst := some 21, op := Op.load 5 (Operand.tmp 20), type := 5, pos := "law.go:25", after := #[{ on := 5, ground := Ground.data }], guard := none }) (v := ?_) rfl (by kernel_rfl) (by kernel_rfl) (by kernel_rfl) (by kernel_rfl) (fun _ _ _ h => h) (Or.inl ⟨by rfl, ?_⟩) ?_; rotate_left; (intro w hw; have hS1 := hw.1 (by kernel_rfl); clear hw; (try dsimp only at hS1); (try go_split_ands); go_simp; try (with_reducible rfl)); simp only [Act.put, List.setIfInBounds_toArray, List.set_cons_zero, List.set_cons_succ])
        (refine Walk.take (i := 7) (oi := { dst := some 22, op := Op.convert 5 3 (Operand.tmp 21), type := 3, pos := "law.go:25", after := #[{ on := 6, ground := Ground.data }], guard := none }) (v := ?_) rfl (by kernel_rfl) (by kernel_rfl) (by kernel_rfl) (by kernel_rfl) (fun _ _ _ h => h) (Or.inl ⟨by rfl, ?_⟩) ?_; rotate_left; (intro w hw; clear hw; (try go_split_ands); go_simp; try (with_reducible rfl)); simp only [Act.put, List.setIfInBounds_toArray, List.set_cons_zero, List.set_cons_succ])
        (refine Walk.take (i := 8) (oi := { dst := some 23, op := Op.move (Operand.tmp 4), type := 3, pos := "law.go:25", after := #[], guard := none }) (v := ?_) rfl (by kernel_rfl) (by kernel_rfl) (by kernel_rfl) (by kernel_rfl) (fun _ _ _ h => h) (Or.inl ⟨by rfl, ?_⟩) ?_; rotate_left; (intro w hw; clear hw; (try go_split_ands); go_simp; try (with_reducible rfl)); simp only [Act.put, List.setIfInBounds_toArray, List.set_cons_zero, List.set_cons_succ])
        (refine Walk.take (i := 9) (oi := { dst := some 24, op := Op.move (Operand.tmp 0), type := 28, pos := "law.go:25", after := #[], guard := none }) (v := ?_) rfl (by kernel_rfl) (by kernel_rfl) (by kernel_rfl) (by kernel_rfl) (fun _ _ _ h => h) (Or.inl ⟨by rfl, ?_⟩) ?_; rotate_left; (intro w hw; clear hw; (try go_split_ands); go_simp; try (with_reducible rfl)); simp only [Act.put, List.setIfInBounds_toArray, List.set_cons_zero, List.set_cons_succ])
        (refine Walk.take (i := 10) (oi := { dst := some 25, op := Op.call { callee := Callee.builtin Builtin.len, args := #[Operand.tmp 24], argTypes := #[28] }, type := 3, pos := "law.go:25", after := #[{ on := 9, ground := Ground.data }], guard := none }) (v := ?_) rfl (by kernel_rfl) (by kernel_rfl) (by kernel_rfl) (by kernel_rfl) (fun _ _ _ h => h) (Or.inl ⟨by rfl, ?_⟩) ?_; rotate_left; (intro w hw; clear hw; (try go_split_ands); go_simp; try (with_reducible rfl)); simp only [Act.put, List.setIfInBounds_toArray, List.set_cons_zero, List.set_cons_succ])
        (refine Walk.take (i := 11) (oi := { dst := some 26, op := Op.binOp BinOp.quo 3 (Operand.tmp 23) (Operand.tmp 25) 3, type := 3, pos := "law.go:25", after := #[{ on := 8, ground := Ground.data }, { on := 10, ground := Ground.data }], guard := none }) (v := ?_) rfl (by kernel_rfl) (by kernel_rfl) (by kernel_rfl) (by kernel_rfl) (fun _ _ _ h => h) (Or.inl ⟨by rfl, ?_⟩) ?_; rotate_left; (intro w hw; clear hw; (try go_split_ands); go_simp; try (with_reducible rfl)); simp only [Act.put, List.setIfInBounds_toArray, List.set_cons_zero, List.set_cons_succ])
        (refine Walk.take (i := 12) (oi := { dst := some 27, op := Op.binOp BinOp.add 3 (Operand.tmp 22) (Operand.tmp 26) 3, type := 3, pos := "law.go:25", after := #[{ on := 7, ground := Ground.data }, { on := 11, ground := Ground.data }], guard := none }) (v := ?_) rfl (by kernel_rfl) (by kernel_rfl) (by kernel_rfl) (by kernel_rfl) (fun _ _ _ h => h) (Or.inl ⟨by rfl, ?_⟩) ?_; rotate_left; (intro w hw; clear hw; (try go_split_ands); go_simp; try (with_reducible rfl)); simp only [Act.put, List.setIfInBounds_toArray, List.set_cons_zero, List.set_cons_succ])
        (refine Walk.take (i := 13) (oi := { dst := some 28, op := Op.binOp BinOp.rem 3 (Operand.tmp 27) (Operand.const (Value.int IntKind.i64 255)) 3, type := 3, pos := "law.go:25", after := #[{ on := 12, ground := Ground.data }], guard := none }) (v := ?_) rfl (by kernel_rfl) (by kernel_rfl) (by kernel_rfl) (by kernel_rfl) (fun _ _ _ h => h) (Or.inl ⟨by rfl, ?_⟩) ?_; rotate_left; (intro w hw; clear hw; (try go_split_ands); go_simp; try (with_reducible rfl)); simp only [Act.put, List.setIfInBounds_toArray, List.set_cons_zero, List.set_cons_succ])
        (refine Walk.take (i := 14) (oi := { dst := some 29, op := Op.binOp BinOp.add 3 (Operand.const (Value.int IntKind.i64 1)) (Operand.tmp 28) 3, type := 3, pos := "law.go:25", after := #[{ on := 13, ground := Ground.data }], guard := none }) (v := ?_) rfl (by kernel_rfl) (by kernel_rfl) (by kernel_rfl) (by kernel_rfl) (fun _ _ _ h => h) (Or.inl ⟨by rfl, ?_⟩) ?_; rotate_left; (intro w hw; clear hw; (try go_split_ands); go_simp; try (with_reducible rfl)); simp only [Act.put, List.setIfInBounds_toArray, List.set_cons_zero, List.set_cons_succ])
        (refine Walk.take (i := 15) (oi := { dst := some 5, op := Op.assign (Operand.tmp 29), type := 3, pos := "law.go:25", after := #[{ on := 14, ground := Ground.data }, { on := 0, ground := Ground.phase }, { on := 1, ground := Ground.phase }, { on := 2, ground := Ground.phase }, { on := 3, ground := Ground.phase }, { on := 4, ground := Ground.phase }, { on := 5, ground := Ground.phase }, { on := 6, ground := Ground.phase }, { on := 7, ground := Ground.phase }, { on := 8, ground := Ground.phase }, { on := 9, ground := Ground.phase }, { on := 10, ground := Ground.phase }, { on := 11, ground := Ground.phase }, { on := 12, ground := Ground.phase }, { on := 13, ground := Ground.phase }, { on := 14, ground := Ground.phase }], guard := none }) (v := ?_) rfl (by kernel_rfl) (by kernel_rfl) (by kernel_rfl) (by kernel_rfl) (fun _ _ _ h => h) (Or.inl ⟨by rfl, ?_⟩) ?_; rotate_left; (intro w hw; clear hw; (try go_split_ands); go_simp; try (with_reducible rfl)); simp only [Act.put, List.setIfInBounds_toArray, List.set_cons_zero, List.set_cons_succ])
        refine Walk.done (by kernel_rfl) ?_ _
        have hE := step_bd y D hy2 hD9
        revert hE
        generalize IntKind.i64.wrap (1 + (IntKind.i64.wrap (IntKind.i64.wrap y + (D : Int))).tmod 255) = X
        intro hE
        obtain ⟨g', cap, W4, hrun, L4, b4, hg4⟩ := Lst.push Tryd.elemI LD [.int .i64 X] rfl (by simp [Value.oneCell']) (by omega) (by omega) _ rfl
        rw [← tab_more] at L4
        have HX : Hid _ := L4
        have HR : Hid _ := hrun
        have HF : Hid _ := hf
        have HE : Hid _ := hE
        clear L4 b4 hg4 LD hrun hf r1 r2 r3 hE
        go_wp2_with (at_builtin; refine wpList_append_run rfl _ _ _ rfl _ _ (by rfl) (by rfl) _ _ HR.out ?_)
        go_roundw
        case rel => exact ⟨n + 1, upd f n X, by omega, by go_num, fun j hj => by
            unfold upd
            split
            · exact HE.out
            · exact HF.out j (by omega), HX.out⟩
        case measure => simp [intOf]; omega
    · obtain rfl : n = 64 := by omega
      have h9 := LL.own
      rw [tab_ints] at h9
      have HX : Hid _ := And.intro (View.of_owns h9) LL.but
      clear LL h9
      go_wp2_with fail
      go_ret
      exact ⟨_, f, rfl, HX.out.1, hf, HX.out.2⟩

end Go.Proofs.YthaekjdnaaikfaaDoor
