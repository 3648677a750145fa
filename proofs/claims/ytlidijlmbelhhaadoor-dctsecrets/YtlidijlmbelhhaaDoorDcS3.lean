/- Each row's sums, laid as a column: secrets. -/
import Derived.Test.YtlidijlmbelhhaaDoorDcS2
namespace Go.Proofs.YtlidijlmbelhhaaDoor
set_option linter.unusedVariables false
open Go.ChangeShapes Go.WideShapes Go.ChangeAt Go.RowKit

set_option maxHeartbeats 6400000 in
set_option maxRecDepth 100000 in
theorem weighedS_any (t : Nat → Nat → Int) (b : Nat → Int) (M : Int) (hM : 0 ≤ M ∧ M ≤ 2199023255552) (ht : ∀ u, u < 8 → ∀ x, x < 8 → -514214 ≤ t u x ∧ t u x ≤ 514214) (hb : ∀ j, j < 64 → -M ≤ b j ∧ b j ≤ M) (w : World) :
    Calls Tryd.prog 43 #[.agg rkS.toArray, .agg (tab .i64 64 (tb8 t)).toArray, .agg (tab .i64 64 b).toArray] w fun e w' =>
    e = .returned (.agg (tab .i64 64 (wgt t b)).toArray) ∧ But Nowhere w w' := by
  have hu := Tryd.underlying32
  have hiA : (Tryd.prog.info? 32).map (·.size) = some (tab .i64 64 (wgt t b)).length := by rw [tab_length]; kernel_rfl
  have hiB : (Tryd.prog.info? 32).map (·.size) = some (tab .i64 64 (wgt t b)).toArray.size := by rw [List.size_toArray, tab_length]; kernel_rfl
  have hiC : (Tryd.prog.info? 32).map (fun i => i.size) = some (tab .i64 64 (wgt t b)).length := by rw [tab_length]; kernel_rfl
  have kk := (((((Keep.start w).made 56 rkS).made 67 (tab .i64 64 (tb8 t))).made 32 (tab .i64 64 b)).zero 32).zero 32
  simp only [World.size_alloc] at kk
  have HBD : Hid (∀ k, k < 8 → ∀ r, r < 8 → ∀ m, m < 8 → wrap64 (t k m * b (8 * r + m)) = t k m * b (8 * r + m) ∧ wrap64 (sumTo (fun s => t k s * b (8 * r + s)) m + t k m * b (8 * r + m)) = sumTo (fun s => t k s * b (8 * r + s)) (m + 1)) := by
    intro k hk r hr m hm
    have h1 := mul_bd (ht k hk m hm) (hb (8 * r + m) (by omega))
    have h2 := sumTo_le (f := fun s => t k s * b (8 * r + s)) (M := 514214 * M) (m + 1) (fun i hi => mul_bd (ht k hk i (by omega)) (hb (8 * r + i) (by omega)))
    have h3 : ((m + 1 : Nat) : Int) * (514214 * M) ≤ 8 * (514214 * M) := Int.mul_le_mul_of_nonneg_right (by omega) (by omega)
    refine ⟨w64 _ (by omega), ?_⟩
    rw [show sumTo (fun s => t k s * b (8 * r + s)) m + t k m * b (8 * r + m) = sumTo (fun s => t k s * b (8 * r + s)) (m + 1) from rfl]
    exact w64 _ (by omega)
  clear hM ht hb
  go_enter Tryd.func43, Tryd.ntmps43
  go_wp2_with fail
  revert kk
  generalize (((((w.alloc (.cells rkS.toArray 56)).alloc (.cells (tab .i64 64 (tb8 t)).toArray 67)).alloc (.cells (tab .i64 64 b).toArray 32)).alloc (.cells (Value.int .i64 0 :: Value.int .i64 0 :: Value.int .i64 0 :: Value.int .i64 0 :: Value.int .i64 0 :: Value.int .i64 0 :: Value.int .i64 0 :: Value.int .i64 0 :: Value.int .i64 0 :: Value.int .i64 0 :: Value.int .i64 0 :: Value.int .i64 0 :: Value.int .i64 0 :: Value.int .i64 0 :: Value.int .i64 0 :: Value.int .i64 0 :: Value.int .i64 0 :: Value.int .i64 0 :: Value.int .i64 0 :: Value.int .i64 0 :: Value.int .i64 0 :: Value.int .i64 0 :: Value.int .i64 0 :: Value.int .i64 0 :: Value.int .i64 0 :: Value.int .i64 0 :: Value.int .i64 0 :: Value.int .i64 0 :: Value.int .i64 0 :: Value.int .i64 0 :: Value.int .i64 0 :: Value.int .i64 0 :: Value.int .i64 0 :: Value.int .i64 0 :: Value.int .i64 0 :: Value.int .i64 0 :: Value.int .i64 0 :: Value.int .i64 0 :: Value.int .i64 0 :: Value.int .i64 0 :: Value.int .i64 0 :: Value.int .i64 0 :: Value.int .i64 0 :: Value.int .i64 0 :: Value.int .i64 0 :: Value.int .i64 0 :: Value.int .i64 0 :: Value.int .i64 0 :: Value.int .i64 0 :: Value.int .i64 0 :: Value.int .i64 0 :: Value.int .i64 0 :: Value.int .i64 0 :: Value.int .i64 0 :: Value.int .i64 0 :: Value.int .i64 0 :: Value.int .i64 0 :: Value.int .i64 0 :: Value.int .i64 0 :: Value.int .i64 0 :: Value.int .i64 0 :: Value.int .i64 0 :: Value.int .i64 0 :: Value.int .i64 0 :: []).toArray 32)).alloc (.cells (Value.int .i64 0 :: Value.int .i64 0 :: Value.int .i64 0 :: Value.int .i64 0 :: Value.int .i64 0 :: Value.int .i64 0 :: Value.int .i64 0 :: Value.int .i64 0 :: Value.int .i64 0 :: Value.int .i64 0 :: Value.int .i64 0 :: Value.int .i64 0 :: Value.int .i64 0 :: Value.int .i64 0 :: Value.int .i64 0 :: Value.int .i64 0 :: Value.int .i64 0 :: Value.int .i64 0 :: Value.int .i64 0 :: Value.int .i64 0 :: Value.int .i64 0 :: Value.int .i64 0 :: Value.int .i64 0 :: Value.int .i64 0 :: Value.int .i64 0 :: Value.int .i64 0 :: Value.int .i64 0 :: Value.int .i64 0 :: Value.int .i64 0 :: Value.int .i64 0 :: Value.int .i64 0 :: Value.int .i64 0 :: Value.int .i64 0 :: Value.int .i64 0 :: Value.int .i64 0 :: Value.int .i64 0 :: Value.int .i64 0 :: Value.int .i64 0 :: Value.int .i64 0 :: Value.int .i64 0 :: Value.int .i64 0 :: Value.int .i64 0 :: Value.int .i64 0 :: Value.int .i64 0 :: Value.int .i64 0 :: Value.int .i64 0 :: Value.int .i64 0 :: Value.int .i64 0 :: Value.int .i64 0 :: Value.int .i64 0 :: Value.int .i64 0 :: Value.int .i64 0 :: Value.int .i64 0 :: Value.int .i64 0 :: Value.int .i64 0 :: Value.int .i64 0 :: Value.int .i64 0 :: Value.int .i64 0 :: Value.int .i64 0 :: Value.int .i64 0 :: Value.int .i64 0 :: Value.int .i64 0 :: Value.int .i64 0 :: Value.int .i64 0 :: []).toArray 32)) = W5
  intro kk
  go_loopw [12] (fun i V => ∃ r : Nat, r ≤ 8 ∧ i = .int .i64 r ∧ Keep w V [(w.heap.size + 1 + 1 + 1 + 1, 32, tab .i64 64 (fun j => if colDone r 0 j then wgt t b j else 0)), (w.heap.size + 1 + 1 + 1, 32, tab .i64 64 (fun _ => 0)), (w.heap.size + 1 + 1, 32, tab .i64 64 b), (w.heap.size + 1, 67, tab .i64 64 (tb8 t)), (w.heap.size, 56, rkS)]) (fun i _ => 8 - (intOf i).toNat)
  case atStart => exact ⟨0, Nat.zero_le _, rfl, by rw [col_start]; exact kk⟩
  case round =>
    clear kk
    obtain ⟨r, hr, rfl, kk⟩ := hrel
    by_cases hlt : r < 8
    · have i0 : (0 : Int) ≤ (r : Int) := by omega
      have i1 : (r : Int) < 8 := by omega
      go_wp2_with fail
      go_loopw [15] (fun i V => ∃ k : Nat, k ≤ 8 ∧ i = .int .i64 k ∧ Keep w V [(w.heap.size + 1 + 1 + 1 + 1, 32, tab .i64 64 (fun j => if colDone r k j then wgt t b j else 0)), (w.heap.size + 1 + 1 + 1, 32, tab .i64 64 (fun _ => 0)), (w.heap.size + 1 + 1, 32, tab .i64 64 b), (w.heap.size + 1, 67, tab .i64 64 (tb8 t)), (w.heap.size, 56, rkS)]) (fun i _ => 8 - (intOf i).toNat)
      case atStart => exact ⟨0, Nat.zero_le _, rfl, kk⟩
      case round =>
        clear kk
        obtain ⟨k, hk, rfl, kk⟩ := hrel
        by_cases hlt2 : k < 8
        · have j0 : (0 : Int) ≤ (k : Int) := by omega
          have j1 : (k : Int) < 8 := by omega
          have d0 := (kk.get (b := w.heap.size) (t := 56) (c := rkS) (by simp)).at 0
          simp only [List.getElem?_cons_zero] at d0
          go_wp2_with fail
          refine (of_any _ _).mono ?_
          rintro e x1 ⟨rfl, dd⟩
          replace kk := (kk.step dd).made 31 [.int .i64 0]
          clear dd d0
          go_wp2_with fail
          revert kk
          obtain ⟨SB, hSB⟩ : ∃ n, x1.heap.size = n := ⟨_, rfl⟩
          rw [hSB]
          clear hSB
          generalize x1.alloc (.cells [.int .i64 0].toArray 31) = W6
          intro kk
          go_loopw [21] (fun i V => ∃ m : Nat, m ≤ 8 ∧ i = .int .i64 m ∧ Keep w V ((SB, 31, [.int .i64 (sumTo (fun s => t k s * b (8 * r + s)) m)]) :: [(w.heap.size + 1 + 1 + 1 + 1, 32, tab .i64 64 (fun j => if colDone r k j then wgt t b j else 0)), (w.heap.size + 1 + 1 + 1, 32, tab .i64 64 (fun _ => 0)), (w.heap.size + 1 + 1, 32, tab .i64 64 b), (w.heap.size + 1, 67, tab .i64 64 (tb8 t)), (w.heap.size, 56, rkS)])) (fun i _ => 8 - (intOf i).toNat)
          case atStart => exact ⟨0, Nat.zero_le _, rfl, kk⟩
          case round =>
            clear kk
            obtain ⟨m, hm, rfl, kk⟩ := hrel
            by_cases hlt3 : m < 8
            · have l0 : (0 : Int) ≤ (m : Int) := by omega
              have l1 : (m : Int) < 8 := by omega
              obtain ⟨q1, q2⟩ := HBD.out k hlt2 r hlt m hlt3
              have Q1 : Hid _ := q1
              have Q2 : Hid _ := q2
              clear q1 q2
              replace kk := kk.drew
              go_wp2_with fail
              have r1 : IntKind.i64.wrap (8 * (r : Int)) = 8 * r := by rw [wrap_i64_eq]; exact w64 _ (by omega)
              have r2 : IntKind.i64.wrap (8 * (r : Int) + (m : Int)) = 8 * r + m := by rw [wrap_i64_eq]; exact w64 _ (by omega)
              have r3 : (8 * (r : Int) + (m : Int)).toNat = 8 * r + m := by omega
              have r4 : 0 ≤ 8 * (r : Int) + (m : Int) := by omega
              have r5 : 8 * (r : Int) + (m : Int) < 64 := by omega
              refine wp_region_till (S := fun V => V.cell? ⟨w.heap.size, 1, none⟩ = some (.func (.func 44) #[] #[]) ∧ V.cell? ⟨w.heap.size, 2, none⟩ = some (.func (.func 45) #[] #[]) ∧ V.cell? ⟨w.heap.size + 1, k * 8 + m, none⟩ = some (.int .i64 (t k m)) ∧ V.cell? ⟨w.heap.size + 1 + 1, 8 * r + m, none⟩ = some (.int .i64 (b (8 * r + m))) ∧ V.cell? ⟨SB, 0, none⟩ = some (.int .i64 (sumTo (fun s => t k s * b (8 * r + s)) m))) (R := fun _ => True) (k := 18) (m := 100) (by kernel_rfl) ⟨(kk.get (b := w.heap.size) (t := 56) (c := rkS) (by simp)).at 1, (kk.get (b := w.heap.size) (t := 56) (c := rkS) (by simp)).at 2, by rw [(kk.get (b := w.heap.size + 1) (t := 67) (c := tab .i64 64 (tb8 t)) (by simp)).cell (k * 8 + m) (by omega), tb8_at t k m hlt3], (kk.get (b := w.heap.size + 1 + 1) (t := 32) (c := tab .i64 64 b) (by simp)).cell (8 * r + m) (by omega), kk.head.at 0⟩ trivial ?_
              revert kk
              generalize wr.drew = WG
              intro kk
              (refine Walk.take (i := 0) (oi := { dst := some 24, op := Op.fieldAddr 56 (Operand.tmp 3) 1, type := 0, pos := "dct.go:102", after := #[], guard := none }) (v := ?_) rfl (by kernel_rfl) (by kernel_rfl) (by kernel_rfl) (by kernel_rfl) (fun _ _ _ h => h) (Or.inl ⟨by rfl, ?_⟩) ?_; rotate_left; (intro w hw; clear hw; (try go_split_ands); go_simp; try (with_reducible rfl)); simp only [Act.put, List.setIfInBounds_toArray, List.set_cons_zero, List.set_cons_succ])
              (refine Walk.take (i := 1) (oi := { dst := some 25, op := Op.load 52 (Operand.tmp 24), type := 52, pos := "dct.go:102", after := #[{ on := 0, ground := Ground.data }], guard := none }) (v := ?_) rfl (by kernel_rfl) (by kernel_rfl) (by kernel_rfl) (by kernel_rfl) (fun _ _ _ h => h) (Or.inl ⟨by rfl, ?_⟩) ?_; rotate_left; (intro w hw; have hS1 := hw.1 (by kernel_rfl); clear hw; (try dsimp only at hS1); (try go_split_ands); go_simp; try (with_reducible rfl)); simp only [Act.put, List.setIfInBounds_toArray, List.set_cons_zero, List.set_cons_succ])
              (refine Walk.take (i := 2) (oi := { dst := some 26, op := Op.load 31 (Operand.tmp 10), type := 31, pos := "dct.go:102", after := #[], guard := none }) (v := ?_) rfl (by kernel_rfl) (by kernel_rfl) (by kernel_rfl) (by kernel_rfl) (fun _ _ _ h => h) (Or.inl ⟨by rfl, ?_⟩) ?_; rotate_left; (intro w hw; have hS1 := hw.1 (by kernel_rfl); clear hw; (try dsimp only at hS1); (try go_split_ands); go_simp; try (with_reducible rfl)); simp only [Act.put, List.setIfInBounds_toArray, List.set_cons_zero, List.set_cons_succ])
              (refine Walk.take (i := 3) (oi := { dst := some 27, op := Op.fieldAddr 56 (Operand.tmp 3) 2, type := 0, pos := "dct.go:102", after := #[], guard := none }) (v := ?_) rfl (by kernel_rfl) (by kernel_rfl) (by kernel_rfl) (by kernel_rfl) (fun _ _ _ h => h) (Or.inl ⟨by rfl, ?_⟩) ?_; rotate_left; (intro w hw; clear hw; (try go_split_ands); go_simp; try (with_reducible rfl)); simp only [Act.put, List.setIfInBounds_toArray, List.set_cons_zero, List.set_cons_succ])
              (refine Walk.take (i := 4) (oi := { dst := some 28, op := Op.load 52 (Operand.tmp 27), type := 52, pos := "dct.go:102", after := #[{ on := 3, ground := Ground.data }], guard := none }) (v := ?_) rfl (by kernel_rfl) (by kernel_rfl) (by kernel_rfl) (by kernel_rfl) (fun _ _ _ h => h) (Or.inl ⟨by rfl, ?_⟩) ?_; rotate_left; (intro w hw; have hS1 := hw.1 (by kernel_rfl); clear hw; (try dsimp only at hS1); (try go_split_ands); go_simp; try (with_reducible rfl)); simp only [Act.put, List.setIfInBounds_toArray, List.set_cons_zero, List.set_cons_succ])
              (refine Walk.take (i := 5) (oi := { dst := some 29, op := Op.move (Operand.tmp 9), type := 3, pos := "dct.go:102", after := #[], guard := none }) (v := ?_) rfl (by kernel_rfl) (by kernel_rfl) (by kernel_rfl) (by kernel_rfl) (fun _ _ _ h => h) (Or.inl ⟨by rfl, ?_⟩) ?_; rotate_left; (intro w hw; clear hw; (try go_split_ands); go_simp; try (with_reducible rfl)); simp only [Act.put, List.setIfInBounds_toArray, List.set_cons_zero, List.set_cons_succ])
              (refine Walk.take (i := 6) (oi := { dst := some 30, op := Op.move (Operand.tmp 11), type := 3, pos := "dct.go:102", after := #[], guard := none }) (v := ?_) rfl (by kernel_rfl) (by kernel_rfl) (by kernel_rfl) (by kernel_rfl) (fun _ _ _ h => h) (Or.inl ⟨by rfl, ?_⟩) ?_; rotate_left; (intro w hw; clear hw; (try go_split_ands); go_simp; try (with_reducible rfl)); simp only [Act.put, List.setIfInBounds_toArray, List.set_cons_zero, List.set_cons_succ])
              (refine Walk.take (i := 7) (oi := { dst := some 31, op := Op.indexAddr 67 (Operand.tmp 4) (Operand.tmp 29), type := 0, pos := "dct.go:102", after := #[{ on := 5, ground := Ground.data }], guard := none }) (v := ?_) rfl (by kernel_rfl) (by kernel_rfl) (by kernel_rfl) (by kernel_rfl) (fun _ _ _ h => h) (Or.inl ⟨by rfl, ?_⟩) ?_; rotate_left; (intro w hw; clear hw; (try go_split_ands); go_simp; try (with_reducible rfl)); simp only [Act.put, List.setIfInBounds_toArray, List.set_cons_zero, List.set_cons_succ])
              (refine Walk.take (i := 8) (oi := { dst := some 32, op := Op.indexAddr 66 (Operand.tmp 31) (Operand.tmp 30), type := 0, pos := "dct.go:102", after := #[{ on := 7, ground := Ground.data }, { on := 6, ground := Ground.data }], guard := none }) (v := ?_) rfl (by kernel_rfl) (by kernel_rfl) (by kernel_rfl) (by kernel_rfl) (fun _ _ _ h => h) (Or.inl ⟨by rfl, ?_⟩) ?_; rotate_left; (intro w hw; clear hw; (try go_split_ands); go_simp; try (with_reducible rfl)); simp only [Act.put, List.setIfInBounds_toArray, List.set_cons_zero, List.set_cons_succ])
              (refine Walk.take (i := 9) (oi := { dst := some 33, op := Op.load 31 (Operand.tmp 32), type := 31, pos := "dct.go:102", after := #[{ on := 8, ground := Ground.data }], guard := none }) (v := ?_) rfl (by kernel_rfl) (by kernel_rfl) (by kernel_rfl) (by kernel_rfl) (fun _ _ _ h => h) (Or.inl ⟨by rfl, ?_⟩) ?_; rotate_left; (intro w hw; have hS1 := hw.1 (by kernel_rfl); clear hw; (try dsimp only at hS1); (try go_split_ands); go_simp; try (with_reducible rfl)); simp only [Act.put, List.setIfInBounds_toArray, List.set_cons_zero, List.set_cons_succ])
              (refine Walk.take (i := 10) (oi := { dst := some 34, op := Op.move (Operand.tmp 8), type := 3, pos := "dct.go:102", after := #[], guard := none }) (v := ?_) rfl (by kernel_rfl) (by kernel_rfl) (by kernel_rfl) (by kernel_rfl) (fun _ _ _ h => h) (Or.inl ⟨by rfl, ?_⟩) ?_; rotate_left; (intro w hw; clear hw; (try go_split_ands); go_simp; try (with_reducible rfl)); simp only [Act.put, List.setIfInBounds_toArray, List.set_cons_zero, List.set_cons_succ])
              (refine Walk.take (i := 11) (oi := { dst := some 35, op := Op.binOp BinOp.mul 3 (Operand.const (Value.int IntKind.i64 8)) (Operand.tmp 34) 3, type := 3, pos := "dct.go:102", after := #[{ on := 10, ground := Ground.data }], guard := none }) (v := ?_) rfl (by kernel_rfl) (by kernel_rfl) (by kernel_rfl) (by kernel_rfl) (fun _ _ _ h => h) (Or.inl ⟨by rfl, ?_⟩) ?_; rotate_left; (intro w hw; clear hw; (try go_split_ands); go_simp; try (with_reducible rfl)); simp only [Act.put, List.setIfInBounds_toArray, List.set_cons_zero, List.set_cons_succ])
              (refine Walk.take (i := 12) (oi := { dst := some 36, op := Op.move (Operand.tmp 11), type := 3, pos := "dct.go:102", after := #[], guard := none }) (v := ?_) rfl (by kernel_rfl) (by kernel_rfl) (by kernel_rfl) (by kernel_rfl) (fun _ _ _ h => h) (Or.inl ⟨by rfl, ?_⟩) ?_; rotate_left; (intro w hw; clear hw; (try go_split_ands); go_simp; try (with_reducible rfl)); simp only [Act.put, List.setIfInBounds_toArray, List.set_cons_zero, List.set_cons_succ])
              (refine Walk.take (i := 13) (oi := { dst := some 37, op := Op.binOp BinOp.add 3 (Operand.tmp 35) (Operand.tmp 36) 3, type := 3, pos := "dct.go:102", after := #[{ on := 11, ground := Ground.data }, { on := 12, ground := Ground.data }], guard := none }) (v := ?_) rfl (by kernel_rfl) (by kernel_rfl) (by kernel_rfl) (by kernel_rfl) (fun _ _ _ h => h) (Or.inl ⟨by rfl, ?_⟩) ?_; rotate_left; (intro w hw; clear hw; (try go_split_ands); go_simp; try (with_reducible rfl)); simp only [Act.put, List.setIfInBounds_toArray, List.set_cons_zero, List.set_cons_succ])
              (refine Walk.take (i := 14) (oi := { dst := some 38, op := Op.indexAddr 32 (Operand.tmp 5) (Operand.tmp 37), type := 0, pos := "dct.go:102", after := #[{ on := 13, ground := Ground.data }], guard := none }) (v := ?_) rfl (by kernel_rfl) (by kernel_rfl) (by kernel_rfl) (by kernel_rfl) (fun _ _ _ h => h) (Or.inl ⟨by rfl, ?_⟩) ?_; rotate_left; (intro w hw; clear hw; (try go_split_ands); go_simp; try (with_reducible rfl)); simp only [Act.put, List.setIfInBounds_toArray, List.set_cons_zero, List.set_cons_succ])
              (refine Walk.take (i := 15) (oi := { dst := some 39, op := Op.load 31 (Operand.tmp 38), type := 31, pos := "dct.go:102", after := #[{ on := 14, ground := Ground.data }], guard := none }) (v := ?_) rfl (by kernel_rfl) (by kernel_rfl) (by kernel_rfl) (by kernel_rfl) (fun _ _ _ h => h) (Or.inl ⟨by rfl, ?_⟩) ?_; rotate_left; (intro w hw; have hS1 := hw.1 (by kernel_rfl); clear hw; (try dsimp only at hS1); (try go_split_ands); go_simp; try (with_reducible rfl)); simp only [Act.put, List.setIfInBounds_toArray, List.set_cons_zero, List.set_cons_succ])
              (refine Walk.go (i := 16) (o := { dst := some 40, op := Op.call { callee := Callee.value (Operand.tmp 28), args := #[Operand.tmp 33, Operand.tmp 39], argTypes := #[31, 31] }, type := 31, pos := "dct.go:102", after := #[{ on := 4, ground := Ground.data }, { on := 9, ground := Ground.data }, { on := 15, ground := Ground.data }], guard := none }) (by kernel_rfl) rfl (fun K hK => ?_); go_simp; ((go_at_call 45; refine (mul_any _ _ _).mono ?_; rintro e y1 ⟨rfl, dd⟩; rw [Q1.out]; replace kk := kk.step dd; clear dd)); refine hK.out _ _ (⟨fun _ => ⟨(kk.get (b := w.heap.size) (t := 56) (c := rkS) (by simp)).at 1, (kk.get (b := w.heap.size) (t := 56) (c := rkS) (by simp)).at 2, by rw [(kk.get (b := w.heap.size + 1) (t := 67) (c := tab .i64 64 (tb8 t)) (by simp)).cell (k * 8 + m) (by omega), tb8_at t k m hlt3], (kk.get (b := w.heap.size + 1 + 1) (t := 32) (c := tab .i64 64 b) (by simp)).cell (8 * r + m) (by omega), kk.head.at 0⟩, fun _ => trivial⟩) ?_; clear hK K; try simp only [Act.put, List.setIfInBounds_toArray, List.set_cons_zero, List.set_cons_succ])
              (refine Walk.go (i := 17) (o := { dst := some 41, op := Op.call { callee := Callee.value (Operand.tmp 25), args := #[Operand.tmp 26, Operand.tmp 40], argTypes := #[31, 31] }, type := 31, pos := "dct.go:102", after := #[{ on := 1, ground := Ground.data }, { on := 2, ground := Ground.data }, { on := 16, ground := Ground.data }, { on := 16, ground := Ground.chain }], guard := none }) (by kernel_rfl) rfl (fun K hK => ?_); go_simp; ((go_at_call 44; refine (add_any _ _ _).mono ?_; rintro e y2 ⟨rfl, dd⟩; rw [Q2.out]; replace kk := kk.step dd; clear dd)); refine hK.out _ _ (⟨fun _ => ⟨(kk.get (b := w.heap.size) (t := 56) (c := rkS) (by simp)).at 1, (kk.get (b := w.heap.size) (t := 56) (c := rkS) (by simp)).at 2, by rw [(kk.get (b := w.heap.size + 1) (t := 67) (c := tab .i64 64 (tb8 t)) (by simp)).cell (k * 8 + m) (by omega), tb8_at t k m hlt3], (kk.get (b := w.heap.size + 1 + 1) (t := 32) (c := tab .i64 64 b) (by simp)).cell (8 * r + m) (by omega), kk.head.at 0⟩, fun _ => trivial⟩) ?_; clear hK K; try simp only [Act.put, List.setIfInBounds_toArray, List.set_cons_zero, List.set_cons_succ])
              have q0 := kk.head.at 0
              have f0 := kk.head.frozen 0
              simp only [List.getElem?_cons_zero] at q0
              (refine Walk.go (i := 18) (o := { dst := none, op := Op.store 31 (Operand.tmp 10) (Operand.tmp 41), type := 0, pos := "dct.go:102", after := #[{ on := 17, ground := Ground.data }, { on := 17, ground := Ground.chain }, { on := 0, ground := Ground.phase }, { on := 1, ground := Ground.phase }, { on := 2, ground := Ground.phase }, { on := 3, ground := Ground.phase }, { on := 4, ground := Ground.phase }, { on := 5, ground := Ground.phase }, { on := 6, ground := Ground.phase }, { on := 7, ground := Ground.phase }, { on := 8, ground := Ground.phase }, { on := 9, ground := Ground.phase }, { on := 10, ground := Ground.phase }, { on := 11, ground := Ground.phase }, { on := 12, ground := Ground.phase }, { on := 13, ground := Ground.phase }, { on := 14, ground := Ground.phase }, { on := 15, ground := Ground.phase }, { on := 16, ground := Ground.phase }, { on := 17, ground := Ground.phase }], guard := none }) (by kernel_rfl) rfl (fun K hK => ?_); go_simp; (replace kk := kk.set 0 (.int .i64 (sumTo (fun s => t k s * b (8 * r + s)) (m + 1))); clear q0 f0); refine hK.out _ _ (⟨fun q => absurd q (by decide), fun _ => trivial⟩) ?_; clear hK K; try simp only [Act.put, List.setIfInBounds_toArray, List.set_cons_zero, List.set_cons_succ])
              refine Walk.done (by kernel_rfl) ?_ _
              have HX : Hid _ := kk
              clear kk r1 r2 r3 r4 r5
              go_wp2_with fail
              go_roundw
              case rel => exact ⟨m + 1, by omega, by go_num, HX.out⟩
              case measure => simp [intOf]; omega
            · obtain rfl : m = 8 := by omega
              rw [wgt_at t b k r hlt] at kk
              have r1 : wrap64 (8 * (k : Int)) = 8 * k := w64 _ (by omega)
              have r2 : wrap64 (8 * (k : Int) + (r : Int)) = 8 * k + r := w64 _ (by omega)
              have r3 : (8 * (k : Int) + (r : Int)).toNat = 8 * k + r := by omega
              have r4 : 0 ≤ 8 * (k : Int) + (r : Int) := by omega
              have r5 : 8 * (k : Int) + (r : Int) < 64 := by omega
              have q0 := kk.head.at 0
              simp only [List.getElem?_cons_zero] at q0
              replace kk := kk.swap
              have c0 := kk.head.cell (8 * k + r) (by omega)
              have f0 := kk.head.frozen (8 * k + r)
              have kX := kk.set (8 * k + r) (.int .i64 (wgt t b (8 * k + r)))
              rw [col_set (wgt t b) r k hlt hlt2] at kX
              have HX : Hid _ := kX.swap.drop
              clear kX kk
              go_wp2_with fail
              clear r1 r2 r3 r4 r5 c0 f0 q0
              go_roundw
              case rel => exact ⟨k + 1, by omega, by go_num, HX.out⟩
              case measure => simp [intOf]; omega
        · obtain rfl : k = 8 := by omega
          rw [col_next] at kk
          go_wp2_with fail
          go_roundw
          case rel => exact ⟨r + 1, by omega, by go_num, kk⟩
          case measure => simp [intOf]; omega
    · obtain rfl : r = 8 := by omega
      rw [col_full] at kk
      have hr1 := kk.head.all
      replace kk := kk.swap
      have hth := kk.head.there 0 (tab .i64 64 (wgt t b)).toArray.size (by rw [List.size_toArray, tab_length, tab_length]; omega)
      have kX := kk.layAll (wgt t b)
      have HX : Hid _ := And.intro kX.head kX.but
      clear kX kk
      go_wp2_with (first | (refine wpList_load_mid rfl 32 (.tmp 7) rfl (w.heap.size + 1 + 1 + 1 + 1) 0 rfl (tab .i64 64 (wgt t b)) _ ?_ hu rfl hiA ?_; exact hr1) | (refine wpList_store_mid rfl 32 (.tmp 6) (.tmp 51) rfl (w.heap.size + 1 + 1 + 1) 0 (tab .i64 64 (wgt t b)).toArray rfl rfl ?_ hiB (tab_all _ _ _) ?_; exact hth))
      exact bodyPost_ret (results_cells rfl HX.out.1 hu rfl hiC _ rfl) rfl ⟨rfl, HX.out.2⟩

end Go.Proofs.YtlidijlmbelhhaaDoor
