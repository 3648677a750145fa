/- Each row's sums, laid as a column: numbers. -/
import Derived.Test.YtlidijlmbelhhaaDoorDc3
namespace Go.Proofs.YtlidijlmbelhhaaDoor
set_option linter.unusedVariables false
open Go.ChangeShapes Go.WideShapes Go.ChangeAt Go.RowKit

theorem wgt_at (t : Nat → Nat → Int) (b : Nat → Int) (k r : Nat) (hr : r < 8) : sumTo (fun s => t k s * b (8 * r + s)) 8 = wgt t b (8 * k + r) := by
  unfold wgt
  rw [show (8 * k + r) / 8 = k by omega, show (8 * k + r) % 8 = r by omega]

/-- Column r, up to row k, laid. -/
abbrev colDone (r k j : Nat) : Prop := j % 8 < r ∨ (j % 8 = r ∧ j / 8 < k)

theorem col_start (F : Nat → Int) : tab .i64 64 (fun j => if colDone 0 0 j then F j else 0) = tab .i64 64 (fun _ => 0) := tab_congr _ _ _ _ (fun j _ => if_neg (by unfold colDone; omega))
theorem col_next (F : Nat → Int) (r : Nat) : tab .i64 64 (fun j => if colDone r 8 j then F j else 0) = tab .i64 64 (fun j => if colDone (r + 1) 0 j then F j else 0) := tab_congr _ _ _ _ (fun j hj => by
  by_cases h : colDone r 8 j
  · rw [if_pos h, if_pos (by unfold colDone at *; omega)]
  · rw [if_neg h, if_neg (by unfold colDone at *; omega)])
theorem col_full (F : Nat → Int) : tab .i64 64 (fun j => if colDone 8 0 j then F j else 0) = tab .i64 64 F := tab_congr _ _ _ _ (fun j _ => if_pos (by unfold colDone; omega))
theorem col_set (F : Nat → Int) (r k : Nat) (hr : r < 8) (hk : k < 8) : (tab .i64 64 (fun j => if colDone r k j then F j else 0)).set (8 * k + r) (.int .i64 (F (8 * k + r))) = tab .i64 64 (fun j => if colDone r (k + 1) j then F j else 0) := by
  rw [tab_set]
  refine tab_congr _ _ _ _ (fun j hj => ?_)
  unfold upd
  by_cases e : j = 8 * k + r
  · subst e; rw [if_pos rfl, if_pos (by unfold colDone; omega)]
  · rw [if_neg e]
    dsimp only
    by_cases h : colDone r k j
    · rw [if_pos h, if_pos (by unfold colDone at *; omega)]
    · rw [if_neg h, if_neg (by unfold colDone at *; omega)]

set_option maxHeartbeats 6400000 in
set_option maxRecDepth 100000 in
theorem weighedN_any (t : Nat → Nat → Int) (b : Nat → Int) (M : Int) (hM : 0 ≤ M ∧ M ≤ 2199023255552) (ht : ∀ u, u < 8 → ∀ x, x < 8 → -514214 ≤ t u x ∧ t u x ≤ 514214) (hb : ∀ j, j < 64 → -M ≤ b j ∧ b j ≤ M) (w : World) :
    Calls Tryd.prog 34 #[.agg rkN.toArray, .agg (tab .i64 64 (tb8 t)).toArray, .agg (tab .i64 64 b).toArray] w fun e w' =>
    e = .returned (.agg (tab .i64 64 (wgt t b)).toArray) ∧ But Nowhere w w' := by
  have hu := Tryd.underlying22
  have hiA : (Tryd.prog.info? 22).map (·.size) = some (tab .i64 64 (wgt t b)).length := by rw [tab_length]; kernel_rfl
  have hiB : (Tryd.prog.info? 22).map (·.size) = some (tab .i64 64 (wgt t b)).toArray.size := by rw [List.size_toArray, tab_length]; kernel_rfl
  have hiC : (Tryd.prog.info? 22).map (fun i => i.size) = some (tab .i64 64 (wgt t b)).length := by rw [tab_length]; kernel_rfl
  have kk := (((((Keep.start w).made 44 rkN).made 60 (tab .i64 64 (tb8 t))).made 22 (tab .i64 64 b)).made 22 (Value.int .i64 0 :: Value.int .i64 0 :: Value.int .i64 0 :: Value.int .i64 0 :: Value.int .i64 0 :: Value.int .i64 0 :: Value.int .i64 0 :: Value.int .i64 0 :: Value.int .i64 0 :: Value.int .i64 0 :: Value.int .i64 0 :: Value.int .i64 0 :: Value.int .i64 0 :: Value.int .i64 0 :: Value.int .i64 0 :: Value.int .i64 0 :: Value.int .i64 0 :: Value.int .i64 0 :: Value.int .i64 0 :: Value.int .i64 0 :: Value.int .i64 0 :: Value.int .i64 0 :: Value.int .i64 0 :: Value.int .i64 0 :: Value.int .i64 0 :: Value.int .i64 0 :: Value.int .i64 0 :: Value.int .i64 0 :: Value.int .i64 0 :: Value.int .i64 0 :: Value.int .i64 0 :: Value.int .i64 0 :: Value.int .i64 0 :: Value.int .i64 0 :: Value.int .i64 0 :: Value.int .i64 0 :: Value.int .i64 0 :: Value.int .i64 0 :: Value.int .i64 0 :: Value.int .i64 0 :: Value.int .i64 0 :: Value.int .i64 0 :: Value.int .i64 0 :: Value.int .i64 0 :: Value.int .i64 0 :: Value.int .i64 0 :: Value.int .i64 0 :: Value.int .i64 0 :: Value.int .i64 0 :: Value.int .i64 0 :: Value.int .i64 0 :: Value.int .i64 0 :: Value.int .i64 0 :: Value.int .i64 0 :: Value.int .i64 0 :: Value.int .i64 0 :: Value.int .i64 0 :: Value.int .i64 0 :: Value.int .i64 0 :: Value.int .i64 0 :: Value.int .i64 0 :: Value.int .i64 0 :: Value.int .i64 0 :: Value.int .i64 0 :: [])).made 22 (Value.int .i64 0 :: Value.int .i64 0 :: Value.int .i64 0 :: Value.int .i64 0 :: Value.int .i64 0 :: Value.int .i64 0 :: Value.int .i64 0 :: Value.int .i64 0 :: Value.int .i64 0 :: Value.int .i64 0 :: Value.int .i64 0 :: Value.int .i64 0 :: Value.int .i64 0 :: Value.int .i64 0 :: Value.int .i64 0 :: Value.int .i64 0 :: Value.int .i64 0 :: Value.int .i64 0 :: Value.int .i64 0 :: Value.int .i64 0 :: Value.int .i64 0 :: Value.int .i64 0 :: Value.int .i64 0 :: Value.int .i64 0 :: Value.int .i64 0 :: Value.int .i64 0 :: Value.int .i64 0 :: Value.int .i64 0 :: Value.int .i64 0 :: Value.int .i64 0 :: Value.int .i64 0 :: Value.int .i64 0 :: Value.int .i64 0 :: Value.int .i64 0 :: Value.int .i64 0 :: Value.int .i64 0 :: Value.int .i64 0 :: Value.int .i64 0 :: Value.int .i64 0 :: Value.int .i64 0 :: Value.int .i64 0 :: Value.int .i64 0 :: Value.int .i64 0 :: Value.int .i64 0 :: Value.int .i64 0 :: Value.int .i64 0 :: Value.int .i64 0 :: Value.int .i64 0 :: Value.int .i64 0 :: Value.int .i64 0 :: Value.int .i64 0 :: Value.int .i64 0 :: Value.int .i64 0 :: Value.int .i64 0 :: Value.int .i64 0 :: Value.int .i64 0 :: Value.int .i64 0 :: Value.int .i64 0 :: Value.int .i64 0 :: Value.int .i64 0 :: Value.int .i64 0 :: Value.int .i64 0 :: Value.int .i64 0 :: Value.int .i64 0 :: [])
  simp only [World.size_alloc] at kk
  have HBD : Hid (∀ k, k < 8 → ∀ r, r < 8 → ∀ m, m < 8 → wrap64 (t k m * b (8 * r + m)) = t k m * b (8 * r + m) ∧ wrap64 (sumTo (fun s => t k s * b (8 * r + s)) m + t k m * b (8 * r + m)) = sumTo (fun s => t k s * b (8 * r + s)) (m + 1)) := by
    intro k hk r hr m hm
    have h1 := mul_bd (ht k hk m hm) (hb (8 * r + m) (by omega))
    have h2 := sumTo_le (f := fun s => t k s * b (8 * r + s)) (M := 514214 * M) (m + 1) (fun i hi => mul_bd (ht k hk i (by omega)) (hb (8 * r + i) (by omega)))
    have h3 : ((m + 1 : Nat) : Int) * (514214 * M) ≤ 8 * (514214 * M) := Int.mul_le_mul_of_nonneg_right (by omega) (by omega)
    refine ⟨w64 _ (by omega), ?_⟩
    rw [show sumTo (fun s => t k s * b (8 * r + s)) m + t k m * b (8 * r + m) = sumTo (fun s => t k s * b (8 * r + s)) (m + 1) from rfl]
    exact w64 _ (by omega)
  clear hM ht hb
  go_enter Tryd.func34, Tryd.ntmps34
  go_wp2_with fail
  revert kk
  generalize (((((w.alloc (.cells rkN.toArray 44)).alloc (.cells (tab .i64 64 (tb8 t)).toArray 60)).alloc (.cells (tab .i64 64 b).toArray 22)).alloc (.cells (Value.int .i64 0 :: Value.int .i64 0 :: Value.int .i64 0 :: Value.int .i64 0 :: Value.int .i64 0 :: Value.int .i64 0 :: Value.int .i64 0 :: Value.int .i64 0 :: Value.int .i64 0 :: Value.int .i64 0 :: Value.int .i64 0 :: Value.int .i64 0 :: Value.int .i64 0 :: Value.int .i64 0 :: Value.int .i64 0 :: Value.int .i64 0 :: Value.int .i64 0 :: Value.int .i64 0 :: Value.int .i64 0 :: Value.int .i64 0 :: Value.int .i64 0 :: Value.int .i64 0 :: Value.int .i64 0 :: Value.int .i64 0 :: Value.int .i64 0 :: Value.int .i64 0 :: Value.int .i64 0 :: Value.int .i64 0 :: Value.int .i64 0 :: Value.int .i64 0 :: Value.int .i64 0 :: Value.int .i64 0 :: Value.int .i64 0 :: Value.int .i64 0 :: Value.int .i64 0 :: Value.int .i64 0 :: Value.int .i64 0 :: Value.int .i64 0 :: Value.int .i64 0 :: Value.int .i64 0 :: Value.int .i64 0 :: Value.int .i64 0 :: Value.int .i64 0 :: Value.int .i64 0 :: Value.int .i64 0 :: Value.int .i64 0 :: Value.int .i64 0 :: Value.int .i64 0 :: Value.int .i64 0 :: Value.int .i64 0 :: Value.int .i64 0 :: Value.int .i64 0 :: Value.int .i64 0 :: Value.int .i64 0 :: Value.int .i64 0 :: Value.int .i64 0 :: Value.int .i64 0 :: Value.int .i64 0 :: Value.int .i64 0 :: Value.int .i64 0 :: Value.int .i64 0 :: Value.int .i64 0 :: Value.int .i64 0 :: Value.int .i64 0 :: []).toArray 22)).alloc (.cells (Value.int .i64 0 :: Value.int .i64 0 :: Value.int .i64 0 :: Value.int .i64 0 :: Value.int .i64 0 :: Value.int .i64 0 :: Value.int .i64 0 :: Value.int .i64 0 :: Value.int .i64 0 :: Value.int .i64 0 :: Value.int .i64 0 :: Value.int .i64 0 :: Value.int .i64 0 :: Value.int .i64 0 :: Value.int .i64 0 :: Value.int .i64 0 :: Value.int .i64 0 :: Value.int .i64 0 :: Value.int .i64 0 :: Value.int .i64 0 :: Value.int .i64 0 :: Value.int .i64 0 :: Value.int .i64 0 :: Value.int .i64 0 :: Value.int .i64 0 :: Value.int .i64 0 :: Value.int .i64 0 :: Value.int .i64 0 :: Value.int .i64 0 :: Value.int .i64 0 :: Value.int .i64 0 :: Value.int .i64 0 :: Value.int .i64 0 :: Value.int .i64 0 :: Value.int .i64 0 :: Value.int .i64 0 :: Value.int .i64 0 :: Value.int .i64 0 :: Value.int .i64 0 :: Value.int .i64 0 :: Value.int .i64 0 :: Value.int .i64 0 :: Value.int .i64 0 :: Value.int .i64 0 :: Value.int .i64 0 :: Value.int .i64 0 :: Value.int .i64 0 :: Value.int .i64 0 :: Value.int .i64 0 :: Value.int .i64 0 :: Value.int .i64 0 :: Value.int .i64 0 :: Value.int .i64 0 :: Value.int .i64 0 :: Value.int .i64 0 :: Value.int .i64 0 :: Value.int .i64 0 :: Value.int .i64 0 :: Value.int .i64 0 :: Value.int .i64 0 :: Value.int .i64 0 :: Value.int .i64 0 :: Value.int .i64 0 :: Value.int .i64 0 :: []).toArray 22)) = W5
  intro kk
  have gK := kk.get (b := w.heap.size) (t := 44) (c := rkN) (by simp)
  have gW := kk.get (b := w.heap.size + 1) (t := 60) (c := tab .i64 64 (tb8 t)) (by simp)
  have gB := kk.get (b := w.heap.size + 1 + 1) (t := 22) (c := tab .i64 64 b) (by simp)
  have gR := (kk.get (b := w.heap.size + 1 + 1 + 1) (t := 22) (c := (Value.int .i64 0 :: Value.int .i64 0 :: Value.int .i64 0 :: Value.int .i64 0 :: Value.int .i64 0 :: Value.int .i64 0 :: Value.int .i64 0 :: Value.int .i64 0 :: Value.int .i64 0 :: Value.int .i64 0 :: Value.int .i64 0 :: Value.int .i64 0 :: Value.int .i64 0 :: Value.int .i64 0 :: Value.int .i64 0 :: Value.int .i64 0 :: Value.int .i64 0 :: Value.int .i64 0 :: Value.int .i64 0 :: Value.int .i64 0 :: Value.int .i64 0 :: Value.int .i64 0 :: Value.int .i64 0 :: Value.int .i64 0 :: Value.int .i64 0 :: Value.int .i64 0 :: Value.int .i64 0 :: Value.int .i64 0 :: Value.int .i64 0 :: Value.int .i64 0 :: Value.int .i64 0 :: Value.int .i64 0 :: Value.int .i64 0 :: Value.int .i64 0 :: Value.int .i64 0 :: Value.int .i64 0 :: Value.int .i64 0 :: Value.int .i64 0 :: Value.int .i64 0 :: Value.int .i64 0 :: Value.int .i64 0 :: Value.int .i64 0 :: Value.int .i64 0 :: Value.int .i64 0 :: Value.int .i64 0 :: Value.int .i64 0 :: Value.int .i64 0 :: Value.int .i64 0 :: Value.int .i64 0 :: Value.int .i64 0 :: Value.int .i64 0 :: Value.int .i64 0 :: Value.int .i64 0 :: Value.int .i64 0 :: Value.int .i64 0 :: Value.int .i64 0 :: Value.int .i64 0 :: Value.int .i64 0 :: Value.int .i64 0 :: Value.int .i64 0 :: Value.int .i64 0 :: Value.int .i64 0 :: Value.int .i64 0 :: Value.int .i64 0 :: [])) (by simp)).of_eq sixtyfour
  have gO := kk.head.of_eq sixtyfour
  have bK := kk.but
  clear kk
  obtain ⟨OB, hOB⟩ : ∃ b, w.heap.size + 1 + 1 + 1 + 1 = b := ⟨_, rfl⟩
  rw [hOB] at gO ⊢
  go_loopw [12] (fun i V => ∃ r : Nat, r ≤ 8 ∧ i = .int .i64 r ∧ But (fun x => x = OB) W5 V ∧ Cells V OB 22 (tab .i64 64 (fun j => if colDone r 0 j then wgt t b j else 0))) (fun i _ => 8 - (intOf i).toNat)
  case atStart => exact ⟨0, Nat.zero_le _, rfl, But.refl _ _, by rw [col_start]; exact gO⟩
  case round =>
    obtain ⟨r, hr, rfl, hbV, hO⟩ := hrel
    by_cases hlt : r < 8
    · have i0 : (0 : Int) ≤ (r : Int) := by omega
      have i1 : (r : Int) < 8 := by omega
      go_wp2_with fail
      go_loopw [15] (fun i V => ∃ k : Nat, k ≤ 8 ∧ i = .int .i64 k ∧ But (fun x => x = OB) W5 V ∧ Cells V OB 22 (tab .i64 64 (fun j => if colDone r k j then wgt t b j else 0))) (fun i _ => 8 - (intOf i).toNat)
      case atStart => exact ⟨0, Nat.zero_le _, rfl, hbV, hO⟩
      case round =>
        clear hO hbV
        obtain ⟨k, hk, rfl, hbV, hO⟩ := hrel
        by_cases hlt2 : k < 8
        · have j0 : (0 : Int) ≤ (k : Int) := by omega
          have j1 : (k : Int) < 8 := by omega
          have gKr := gK.but hbV (by omega)
          have d0 := gKr.at 0
          simp only [List.getElem?_cons_zero] at d0
          go_wp2_with (go_at_call 35; refine (itself_any _ _).mono ?_; rintro e x1 ⟨rfl, rfl⟩)
          go_loopw [10, 21] (fun s i V => ∃ m : Nat, m ≤ 8 ∧ i = .int .i64 m ∧ s = .int .i64 (sumTo (fun s => t k s * b (8 * r + s)) m) ∧ But (fun x => x = OB) W5 V ∧ Cells V OB 22 (tab .i64 64 (fun j => if colDone r k j then wgt t b j else 0))) (fun _ i _ => 8 - (intOf i).toNat)
          case atStart => exact ⟨0, Nat.zero_le _, rfl, rfl, hbV, hO⟩
          case round =>
            clear hO hbV gKr d0
            obtain ⟨m, hm, rfl, rfl, hbV, hO⟩ := hrel
            by_cases hlt3 : m < 8
            · have l0 : (0 : Int) ≤ (m : Int) := by omega
              have l1 : (m : Int) < 8 := by omega
              have gKr := gK.but hbV (by omega)
              have gWr := gW.but hbV (by omega)
              have gBr := gB.but hbV (by omega)
              have HS : (wr.drew.cell? ⟨w.heap.size, 1, none⟩ = some (.func (.func 36) #[] #[]) ∧ wr.drew.cell? ⟨w.heap.size, 2, none⟩ = some (.func (.func 37) #[] #[]) ∧ wr.drew.cell? ⟨w.heap.size + 1, k * 8 + m, none⟩ = some (.int .i64 (t k m)) ∧ wr.drew.cell? ⟨w.heap.size + 1 + 1, 8 * r + m, none⟩ = some (.int .i64 (b (8 * r + m)))) :=
                ⟨gKr.drew.at 1, gKr.drew.at 2, by rw [gWr.drew.cell (k * 8 + m) (by omega), tb8_at t k m hlt3], gBr.drew.cell (8 * r + m) (by omega)⟩
              obtain ⟨q1, q2⟩ := HBD.out k hlt2 r hlt m hlt3
              have Q1 : Hid _ := q1
              have Q2 : Hid _ := q2
              clear q1 q2
              have r1 : IntKind.i64.wrap (8 * (r : Int)) = 8 * r := by rw [wrap_i64_eq]; exact w64 _ (by omega)
              have r2 : IntKind.i64.wrap (8 * (r : Int) + (m : Int)) = 8 * r + m := by rw [wrap_i64_eq]; exact w64 _ (by omega)
              have r3 : (8 * (r : Int) + (m : Int)).toNat = 8 * r + m := by omega
              have r4 : 0 ≤ 8 * (r : Int) + (m : Int) := by omega
              have r5 : 8 * (r : Int) + (m : Int) < 64 := by omega
              have HX : Hid _ := And.intro hbV.drew hO.drew
              clear hO hbV gKr gWr gBr
              go_wp2_with fail
              refine wp_region_till (S := fun V => V.cell? ⟨w.heap.size, 1, none⟩ = some (.func (.func 36) #[] #[]) ∧ V.cell? ⟨w.heap.size, 2, none⟩ = some (.func (.func 37) #[] #[]) ∧ V.cell? ⟨w.heap.size + 1, k * 8 + m, none⟩ = some (.int .i64 (t k m)) ∧ V.cell? ⟨w.heap.size + 1 + 1, 8 * r + m, none⟩ = some (.int .i64 (b (8 * r + m)))) (R := fun _ => True) (k := 100) (m := 100) (by kernel_rfl) HS trivial ?_
              (refine Walk.take (i := 0) (oi := { dst := some 24, op := Op.fieldAddr 44 (Operand.tmp 3) 1, type := 0, pos := "dct.go:102", after := #[], guard := none }) (v := ?_) rfl (by kernel_rfl) (by kernel_rfl) (by kernel_rfl) (by kernel_rfl) (fun _ _ _ h => h) (Or.inl ⟨by rfl, ?_⟩) ?_; rotate_left; (intro w hw; clear hw; (try go_split_ands); go_simp; try (with_reducible rfl)); simp only [Act.put, List.setIfInBounds_toArray, List.set_cons_zero, List.set_cons_succ])
              (refine Walk.take (i := 1) (oi := { dst := some 25, op := Op.load 35 (Operand.tmp 24), type := 35, pos := "dct.go:102", after := #[{ on := 0, ground := Ground.data }], guard := none }) (v := ?_) rfl (by kernel_rfl) (by kernel_rfl) (by kernel_rfl) (by kernel_rfl) (fun _ _ _ h => h) (Or.inl ⟨by rfl, ?_⟩) ?_; rotate_left; (intro w hw; have hS1 := hw.1 (by kernel_rfl); clear hw; (try dsimp only at hS1); (try go_split_ands); go_simp; try (with_reducible rfl)); simp only [Act.put, List.setIfInBounds_toArray, List.set_cons_zero, List.set_cons_succ])
              (refine Walk.take (i := 2) (oi := { dst := some 26, op := Op.move (Operand.tmp 10), type := 3, pos := "dct.go:102", after := #[], guard := none }) (v := ?_) rfl (by kernel_rfl) (by kernel_rfl) (by kernel_rfl) (by kernel_rfl) (fun _ _ _ h => h) (Or.inl ⟨by rfl, ?_⟩) ?_; rotate_left; (intro w hw; clear hw; (try go_split_ands); go_simp; try (with_reducible rfl)); simp only [Act.put, List.setIfInBounds_toArray, List.set_cons_zero, List.set_cons_succ])
              (refine Walk.take (i := 3) (oi := { dst := some 27, op := Op.fieldAddr 44 (Operand.tmp 3) 2, type := 0, pos := "dct.go:102", after := #[], guard := none }) (v := ?_) rfl (by kernel_rfl) (by kernel_rfl) (by kernel_rfl) (by kernel_rfl) (fun _ _ _ h => h) (Or.inl ⟨by rfl, ?_⟩) ?_; rotate_left; (intro w hw; clear hw; (try go_split_ands); go_simp; try (with_reducible rfl)); simp only [Act.put, List.setIfInBounds_toArray, List.set_cons_zero, List.set_cons_succ])
              (refine Walk.take (i := 4) (oi := { dst := some 28, op := Op.load 35 (Operand.tmp 27), type := 35, pos := "dct.go:102", after := #[{ on := 3, ground := Ground.data }], guard := none }) (v := ?_) rfl (by kernel_rfl) (by kernel_rfl) (by kernel_rfl) (by kernel_rfl) (fun _ _ _ h => h) (Or.inl ⟨by rfl, ?_⟩) ?_; rotate_left; (intro w hw; have hS1 := hw.1 (by kernel_rfl); clear hw; (try dsimp only at hS1); (try go_split_ands); go_simp; try (with_reducible rfl)); simp only [Act.put, List.setIfInBounds_toArray, List.set_cons_zero, List.set_cons_succ])
              (refine Walk.take (i := 5) (oi := { dst := some 29, op := Op.move (Operand.tmp 9), type := 3, pos := "dct.go:102", after := #[], guard := none }) (v := ?_) rfl (by kernel_rfl) (by kernel_rfl) (by kernel_rfl) (by kernel_rfl) (fun _ _ _ h => h) (Or.inl ⟨by rfl, ?_⟩) ?_; rotate_left; (intro w hw; clear hw; (try go_split_ands); go_simp; try (with_reducible rfl)); simp only [Act.put, List.setIfInBounds_toArray, List.set_cons_zero, List.set_cons_succ])
              (refine Walk.take (i := 6) (oi := { dst := some 30, op := Op.move (Operand.tmp 11), type := 3, pos := "dct.go:102", after := #[], guard := none }) (v := ?_) rfl (by kernel_rfl) (by kernel_rfl) (by kernel_rfl) (by kernel_rfl) (fun _ _ _ h => h) (Or.inl ⟨by rfl, ?_⟩) ?_; rotate_left; (intro w hw; clear hw; (try go_split_ands); go_simp; try (with_reducible rfl)); simp only [Act.put, List.setIfInBounds_toArray, List.set_cons_zero, List.set_cons_succ])
              (refine Walk.take (i := 7) (oi := { dst := some 31, op := Op.indexAddr 60 (Operand.tmp 4) (Operand.tmp 29), type := 0, pos := "dct.go:102", after := #[{ on := 5, ground := Ground.data }], guard := none }) (v := ?_) rfl (by kernel_rfl) (by kernel_rfl) (by kernel_rfl) (by kernel_rfl) (fun _ _ _ h => h) (Or.inl ⟨by rfl, ?_⟩) ?_; rotate_left; (intro w hw; clear hw; (try go_split_ands); go_simp; try (with_reducible rfl)); simp only [Act.put, List.setIfInBounds_toArray, List.set_cons_zero, List.set_cons_succ])
              (refine Walk.take (i := 8) (oi := { dst := some 32, op := Op.indexAddr 59 (Operand.tmp 31) (Operand.tmp 30), type := 0, pos := "dct.go:102", after := #[{ on := 7, ground := Ground.data }, { on := 6, ground := Ground.data }], guard := none }) (v := ?_) rfl (by kernel_rfl) (by kernel_rfl) (by kernel_rfl) (by kernel_rfl) (fun _ _ _ h => h) (Or.inl ⟨by rfl, ?_⟩) ?_; rotate_left; (intro w hw; clear hw; (try go_split_ands); go_simp; try (with_reducible rfl)); simp only [Act.put, List.setIfInBounds_toArray, List.set_cons_zero, List.set_cons_succ])
              (refine Walk.take (i := 9) (oi := { dst := some 33, op := Op.load 3 (Operand.tmp 32), type := 3, pos := "dct.go:102", after := #[{ on := 8, ground := Ground.data }], guard := none }) (v := ?_) rfl (by kernel_rfl) (by kernel_rfl) (by kernel_rfl) (by kernel_rfl) (fun _ _ _ h => h) (Or.inl ⟨by rfl, ?_⟩) ?_; rotate_left; (intro w hw; have hS1 := hw.1 (by kernel_rfl); clear hw; (try dsimp only at hS1); (try go_split_ands); go_simp; try (with_reducible rfl)); simp only [Act.put, List.setIfInBounds_toArray, List.set_cons_zero, List.set_cons_succ])
              (refine Walk.take (i := 10) (oi := { dst := some 34, op := Op.move (Operand.tmp 8), type := 3, pos := "dct.go:102", after := #[], guard := none }) (v := ?_) rfl (by kernel_rfl) (by kernel_rfl) (by kernel_rfl) (by kernel_rfl) (fun _ _ _ h => h) (Or.inl ⟨by rfl, ?_⟩) ?_; rotate_left; (intro w hw; clear hw; (try go_split_ands); go_simp; try (with_reducible rfl)); simp only [Act.put, List.setIfInBounds_toArray, List.set_cons_zero, List.set_cons_succ])
              (refine Walk.take (i := 11) (oi := { dst := some 35, op := Op.binOp BinOp.mul 3 (Operand.const (Value.int IntKind.i64 8)) (Operand.tmp 34) 3, type := 3, pos := "dct.go:102", after := #[{ on := 10, ground := Ground.data }], guard := none }) (v := ?_) rfl (by kernel_rfl) (by kernel_rfl) (by kernel_rfl) (by kernel_rfl) (fun _ _ _ h => h) (Or.inl ⟨by rfl, ?_⟩) ?_; rotate_left; (intro w hw; clear hw; (try go_split_ands); go_simp; try (with_reducible rfl)); simp only [Act.put, List.setIfInBounds_toArray, List.set_cons_zero, List.set_cons_succ])
              (refine Walk.take (i := 12) (oi := { dst := some 36, op := Op.move (Operand.tmp 11), type := 3, pos := "dct.go:102", after := #[], guard := none }) (v := ?_) rfl (by kernel_rfl) (by kernel_rfl) (by kernel_rfl) (by kernel_rfl) (fun _ _ _ h => h) (Or.inl ⟨by rfl, ?_⟩) ?_; rotate_left; (intro w hw; clear hw; (try go_split_ands); go_simp; try (with_reducible rfl)); simp only [Act.put, List.setIfInBounds_toArray, List.set_cons_zero, List.set_cons_succ])
              (refine Walk.take (i := 13) (oi := { dst := some 37, op := Op.binOp BinOp.add 3 (Operand.tmp 35) (Operand.tmp 36) 3, type := 3, pos := "dct.go:102", after := #[{ on := 11, ground := Ground.data }, { on := 12, ground := Ground.data }], guard := none }) (v := ?_) rfl (by kernel_rfl) (by kernel_rfl) (by kernel_rfl) (by kernel_rfl) (fun _ _ _ h => h) (Or.inl ⟨by rfl, ?_⟩) ?_; rotate_left; (intro w hw; clear hw; (try go_split_ands); go_simp; try (with_reducible rfl)); simp only [Act.put, List.setIfInBounds_toArray, List.set_cons_zero, List.set_cons_succ])
              (refine Walk.take (i := 14) (oi := { dst := some 38, op := Op.indexAddr 22 (Operand.tmp 5) (Operand.tmp 37), type := 0, pos := "dct.go:102", after := #[{ on := 13, ground := Ground.data }], guard := none }) (v := ?_) rfl (by kernel_rfl) (by kernel_rfl) (by kernel_rfl) (by kernel_rfl) (fun _ _ _ h => h) (Or.inl ⟨by rfl, ?_⟩) ?_; rotate_left; (intro w hw; clear hw; (try go_split_ands); go_simp; try (with_reducible rfl)); simp only [Act.put, List.setIfInBounds_toArray, List.set_cons_zero, List.set_cons_succ])
              (refine Walk.take (i := 15) (oi := { dst := some 39, op := Op.load 3 (Operand.tmp 38), type := 3, pos := "dct.go:102", after := #[{ on := 14, ground := Ground.data }], guard := none }) (v := ?_) rfl (by kernel_rfl) (by kernel_rfl) (by kernel_rfl) (by kernel_rfl) (fun _ _ _ h => h) (Or.inl ⟨by rfl, ?_⟩) ?_; rotate_left; (intro w hw; have hS1 := hw.1 (by kernel_rfl); clear hw; (try dsimp only at hS1); (try go_split_ands); go_simp; try (with_reducible rfl)); simp only [Act.put, List.setIfInBounds_toArray, List.set_cons_zero, List.set_cons_succ])
              (refine Walk.go (i := 16) (o := { dst := some 40, op := Op.call { callee := Callee.value (Operand.tmp 28), args := #[Operand.tmp 33, Operand.tmp 39], argTypes := #[3, 3] }, type := 3, pos := "dct.go:102", after := #[{ on := 4, ground := Ground.data }, { on := 9, ground := Ground.data }, { on := 15, ground := Ground.data }], guard := none }) (by kernel_rfl) rfl (fun K hK => ?_); go_simp; ((go_at_call 37; refine (multiplied_any _ _ _).mono ?_; rintro e x1 ⟨rfl, rfl⟩; rw [Q1.out])); refine hK.out _ _ (⟨fun _ => HS, fun _ => trivial⟩) ?_; clear hK K; try simp only [Act.put, List.setIfInBounds_toArray, List.set_cons_zero, List.set_cons_succ])
              (refine Walk.go (i := 17) (o := { dst := some 41, op := Op.call { callee := Callee.value (Operand.tmp 25), args := #[Operand.tmp 26, Operand.tmp 40], argTypes := #[3, 3] }, type := 3, pos := "dct.go:102", after := #[{ on := 1, ground := Ground.data }, { on := 2, ground := Ground.data }, { on := 16, ground := Ground.data }, { on := 16, ground := Ground.chain }], guard := none }) (by kernel_rfl) rfl (fun K hK => ?_); go_simp; ((go_at_call 36; refine (added_any _ _ _).mono ?_; rintro e x1 ⟨rfl, rfl⟩; rw [Q2.out])); refine hK.out _ _ (⟨fun _ => HS, fun _ => trivial⟩) ?_; clear hK K; try simp only [Act.put, List.setIfInBounds_toArray, List.set_cons_zero, List.set_cons_succ])
              (refine Walk.take (i := 18) (oi := { dst := some 10, op := Op.assign (Operand.tmp 41), type := 3, pos := "dct.go:102", after := #[{ on := 17, ground := Ground.data }, { on := 17, ground := Ground.chain }, { on := 0, ground := Ground.phase }, { on := 1, ground := Ground.phase }, { on := 2, ground := Ground.phase }, { on := 3, ground := Ground.phase }, { on := 4, ground := Ground.phase }, { on := 5, ground := Ground.phase }, { on := 6, ground := Ground.phase }, { on := 7, ground := Ground.phase }, { on := 8, ground := Ground.phase }, { on := 9, ground := Ground.phase }, { on := 10, ground := Ground.phase }, { on := 11, ground := Ground.phase }, { on := 12, ground := Ground.phase }, { on := 13, ground := Ground.phase }, { on := 14, ground := Ground.phase }, { on := 15, ground := Ground.phase }, { on := 16, ground := Ground.phase }, { on := 17, ground := Ground.phase }], guard := none }) (v := ?_) rfl (by kernel_rfl) (by kernel_rfl) (by kernel_rfl) (by kernel_rfl) (fun _ _ _ h => h) (Or.inl ⟨by rfl, ?_⟩) ?_; rotate_left; (intro w hw; clear hw; (try go_split_ands); go_simp; try (with_reducible rfl)); simp only [Act.put, List.setIfInBounds_toArray, List.set_cons_zero, List.set_cons_succ])
              refine Walk.done (by kernel_rfl) ?_ _
              go_wp2_with fail
              go_roundw
              case rel => exact ⟨m + 1, by omega, by go_num, rfl, HX.out.1, HX.out.2⟩
              case measure => simp [intOf]; omega
            · obtain rfl : m = 8 := by omega
              rw [wgt_at t b k r hlt]
              have r1 : wrap64 (8 * (k : Int)) = 8 * k := w64 _ (by omega)
              have r2 : wrap64 (8 * (k : Int) + (r : Int)) = 8 * k + r := w64 _ (by omega)
              have r3 : (8 * (k : Int) + (r : Int)).toNat = 8 * k + r := by omega
              have r4 : 0 ≤ 8 * (k : Int) + (r : Int) := by omega
              have r5 : 8 * (k : Int) + (r : Int) < 64 := by omega
              have c0 := hO.cell (8 * k + r) (by omega)
              have f0 := hO.frozen (8 * k + r)
              have hS := hO.set (8 * k + r) (.int .i64 (wgt t b (8 * k + r)))
              rw [col_set (wgt t b) r k hlt hlt2] at hS
              have hbS := But.setCell (S := fun x => x = OB) (p := ⟨OB, 8 * k + r, none⟩) hbV (fun _ => rfl) (.int .i64 (wgt t b (8 * k + r)))
              have HX : Hid _ := And.intro hbS hS
              clear hS hbS hO hbV
              go_wp2_with fail
              go_roundw
              case rel => exact ⟨k + 1, by omega, by go_num, HX.out.1, HX.out.2⟩
              case measure => simp [intOf]; omega
        · obtain rfl : k = 8 := by omega
          go_wp2_with fail
          go_roundw
          case rel => exact ⟨r + 1, by omega, by go_num, hbV, by rw [← col_next]; exact hO⟩
          case measure => simp [intOf]; omega
    · obtain rfl : r = 8 := by omega
      rw [col_full] at hO
      have gRr := gR.but hbV (by omega)
      have bwV : But Nowhere w wr := bK.step hbV (fun i hi e => by omega)
      have hr1 : wr.rangeAt OB 0 (tab .i64 64 (wgt t b)) := by have := hO.range 0 64 (by omega); simpa using this
      have hth := gRr.there 0 (tab .i64 64 (wgt t b)).toArray.size (by rw [List.size_toArray, tab_length, tab_length]; omega)
      have gR9 : Cells (wr.setCells (w.heap.size + 1 + 1 + 1) 0 (tab .i64 64 (wgt t b))) (w.heap.size + 1 + 1 + 1) 22 (tab .i64 64 (wgt t b)) := gRr.layAll (wgt t b)
      have b9 : But Nowhere w (wr.setCells (w.heap.size + 1 + 1 + 1) 0 (tab .i64 64 (wgt t b))) := But.setCells _ bwV (fun q => by omega) 0
      have HX : Hid _ := And.intro gR9 b9
      clear gR9 b9 gRr hO gK gW gR gO gB hbV
      go_wp2_with (first | (refine wpList_load_mid rfl 22 (.tmp 7) rfl OB 0 rfl (tab .i64 64 (wgt t b)) _ ?_ hu rfl hiA ?_; exact hr1) | (refine wpList_store_mid rfl 22 (.tmp 6) (.tmp 51) rfl (w.heap.size + 1 + 1 + 1) 0 (tab .i64 64 (wgt t b)).toArray rfl rfl ?_ hiB (tab_all _ _ _) ?_; exact hth))
      exact bodyPost_ret (results_cells rfl HX.out.1 hu rfl hiC _ rfl) rfl ⟨rfl, HX.out.2⟩

end Go.Proofs.YtlidijlmbelhhaaDoor
