import Derived.Test.YtppbnmlgilgnnaaDoorPl12
import Derived.Test.YtppbnmlgilgnnaaDoorColRef
import Derived.Test.YtppbnmlgilgnnaaDoorPlMid
import Derived.Test.YtppbnmlgilgnnaaDoorLst
import Derived.Great.BuildSlice

/- The document's sample: a pixel's part. -/
namespace Go.Proofs.YtppbnmlgilgnnaaDoor
open Go.ChangeShapes Go.WideShapes Go.ChangeAt Go.RowKit

theorem gat_nat (l : List Int) (j : Nat) : gat l (j : Int) = gn l j := by unfold gat gn; rw [Int.toNat_natCast]

set_option maxHeartbeats 6400000 in
set_option maxRecDepth 100000 in
theorem refSample_any (W H m : Int) (f : Fit W H m) (r : Bool) (hr : r = (m != 1)) (v : Value) (l : List Int) (part : Nat) (hp : part < partsN m) (x y : Int) (hx : 0 ≤ x ∧ x ≤ 70000) (hy : 0 ≤ y ∧ y ≤ 70000) (w : World) (hv : View w .u8 v l) (hlen : (l.length : Int) = W * H * partsN m) (h255 : ∀ x ∈ l, 0 ≤ x ∧ x ≤ 255) :
    Calls Tryd.prog 98 #[imV W H r v, .int .i64 (part : Int), .int .i64 x, .int .i64 y] w fun e w' => e = .returned (.int .i64 (gat (partsL m l) ((min y (H - 1) * W + min x (W - 1)) * partsN m + part))) ∧ But Nowhere w w' := by
  have hW := f.w
  have hH := f.h
  have hS := f.s
  obtain ⟨Y0, hY0, Y1, Y2⟩ : ∃ Y0, min y (H - 1) = Y0 ∧ 0 ≤ Y0 ∧ Y0 ≤ H - 1 := ⟨_, rfl, by omega, by omega⟩
  obtain ⟨X0, hX0, X1, X2⟩ : ∃ X0, min x (W - 1) = X0 ∧ 0 ≤ X0 ∧ X0 ≤ W - 1 := ⟨_, rfl, by omega, by omega⟩
  have rY : (if H - 1 < y then H - 1 else y) = Y0 := by split <;> omega
  have rX : (if W - 1 < x then W - 1 else x) = X0 := by split <;> omega
  rw [hY0, hX0]
  have a0 : 0 ≤ Y0 * W := Int.mul_nonneg Y1 (by omega)
  have a1 : Y0 * W ≤ (H - 1) * W := Int.mul_le_mul_of_nonneg_right Y2 (by omega)
  have a2 : (H - 1) * W = W * H - W := by rw [Int.sub_mul, Int.one_mul, Int.mul_comm]
  obtain ⟨T1, hT1⟩ : ∃ T1, Y0 * W = T1 := ⟨_, rfl⟩
  rw [hT1] at a0 a1 ⊢
  obtain ⟨I, hI⟩ : ∃ I : Nat, T1 + X0 = (I : Int) := ⟨(T1 + X0).toNat, by omega⟩
  have hIW : (I : Int) < W * H := by omega
  rw [hI]
  have R1 : Hid (wrap64 (H - 1) = H - 1) := w64 _ (by omega)
  have R2 : Hid (wrap64 (W - 1) = W - 1) := w64 _ (by omega)
  have R3 : Hid (wrap64 (Y0 * W) = T1) := by show wrap64 (Y0 * W) = T1; rw [hT1]; exact w64 _ (by omega)
  have R4 : Hid (wrap64 (T1 + X0) = (I : Int)) := by show wrap64 (T1 + X0) = (I : Int); rw [hI]; exact w64 _ (by omega)
  obtain ⟨ao, vc, rfl, hcells⟩ := hv
  have kk := (Keep.start w).made 26 (imC W H r (.slice ao l.length vc))
  by_cases h1 : m = 1
  · obtain rfl : r = false := by rw [hr]; simp [h1]
    have hpn : partsN m = 1 := by unfold partsN; rw [if_pos h1]
    rw [hpn] at hlen hp ⊢
    obtain rfl : part = 0 := by omega
    have hIl : I < l.length := by omega
    obtain ⟨vb, voff, rfl, -, hc⟩ := hcells (fun e => by subst e; simp at hIl)
    have cI := kk.but.keeps (not_nowhere _) (hc I hIl)
    rw [gn_at l I hIl] at cI
    have hres : gat (partsL m l) ((I : Int) * ((1 : Nat) : Int) + ((0 : Nat) : Int)) = gn l I := by
      have e : partsL m l = l := by unfold partsL; rw [if_pos h1]
      rw [e, show (I : Int) * ((1 : Nat) : Int) + ((0 : Nat) : Int) = (I : Int) by simp, gat_nat]
    rw [hres]
    have hin : 0 ≤ gn l I ∧ gn l I ≤ 255 := by rw [← gn_at l I hIl]; exact h255 _ (List.getElem_mem hIl)
    have i0 : (0 : Int) ≤ (I : Int) := by omega
    have i1 : (I : Int) < (l.length : Int) := by omega
    obtain ⟨z, hz⟩ : ∃ z, gn l I = z := ⟨_, rfl⟩
    rw [hz] at cI hin ⊢
    have ew : IntKind.i64.wrap z = z := by rw [wrap_i64_eq]; exact w64 _ (by omega)
    have r1 := R1.out
    have r2 := R2.out
    have r3 := R3.out
    have r4 := R4.out
    clear R1 R2 R3 R4 hcells hc hres hz hr h1
    go_enter Tryd.func98, Tryd.ntmps98
    go_wp2_with fail
    go_ret
    exact ⟨rfl, kk.but⟩
  · obtain rfl : r = true := by rw [hr]; simp [h1]
    have hpn : partsN m = 3 := by unfold partsN; rw [if_neg h1]
    rw [hpn] at hlen hp ⊢
    obtain ⟨J, hJ⟩ : ∃ J, 3 * I = J := ⟨_, rfl⟩
    have hJl : J + 2 < l.length := by omega
    obtain ⟨n, hn⟩ : ∃ n, l.length = n := ⟨_, rfl⟩
    obtain ⟨vb, voff, rfl, -, hc⟩ := hcells (fun e => by subst e; simp at hJl)
    have k0 := hc J (by omega)
    have k1 := hc (J + 1) (by omega)
    have k2 := hc (J + 2) (by omega)
    rw [gn_at] at k0 k1 k2
    have hres : gat (partsL m l) ((I : Int) * ((3 : Nat) : Int) + (part : Int)) = (if part = 0 then luma1 else if part = 1 then luma2 else luma3).of (gn l J) (gn l (J + 1)) (gn l (J + 2)) := by
      have e : partsL m l = (List.range l.length).map (turnA luma1 luma2 luma3 l) := by unfold partsL; rw [if_neg h1]
      rw [show (I : Int) * ((3 : Nat) : Int) + (part : Int) = ((J + part : Nat) : Int) by omega, gat_nat, e]
      unfold gn
      rw [List.getD_eq_getElem?_getD, List.getElem?_map, List.getElem?_range (by omega), Option.map_some, Option.getD_some]
      unfold turnA
      rw [show (J + part) / 3 * 3 = J by omega, show (J + part) % 3 = part by omega]
      rfl
    rw [hres]
    have b0 : 0 ≤ gn l J ∧ gn l J ≤ 255 := by rw [← gn_at l J (by omega)]; exact h255 _ (List.getElem_mem _)
    have b1 : 0 ≤ gn l (J + 1) ∧ gn l (J + 1) ≤ 255 := by rw [← gn_at l (J + 1) (by omega)]; exact h255 _ (List.getElem_mem _)
    have b2 : 0 ≤ gn l (J + 2) ∧ gn l (J + 2) ≤ 255 := by rw [← gn_at l (J + 2) (by omega)]; exact h255 _ (List.getElem_mem _)
    revert k0 k1 k2 b0 b1 b2
    generalize gn l J = a0
    generalize gn l (J + 1) = a1
    generalize gn l (J + 2) = a2
    intro k0 k1 k2 b0 b1 b2
    have w0 : IntKind.i64.wrap a0 = a0 := by rw [wrap_i64_eq]; exact w64 _ (by omega)
    have w1 : IntKind.i64.wrap a1 = a1 := by rw [wrap_i64_eq]; exact w64 _ (by omega)
    have w2 : IntKind.i64.wrap a2 = a2 := by rw [wrap_i64_eq]; exact w64 _ (by omega)
    have j0 : (0 : Int) ≤ (J : Int) := by omega
    have j1 : (J : Int) < (n : Int) := by omega
    have j2 : (0 : Int) ≤ ((J : Int) + 1) := by omega
    have j3 : (J : Int) + 1 < (n : Int) := by omega
    have j4 : (0 : Int) ≤ ((J : Int) + 2) := by omega
    have j5 : (J : Int) + 2 < (n : Int) := by omega
    have t1 : ((J : Int) + 1).toNat = J + 1 := by omega
    have t2 : ((J : Int) + 2).toNat = J + 2 := by omega
    have q1 : wrap64 (3 * (I : Int)) = (J : Int) := by rw [show 3 * (I : Int) = (J : Int) by omega]; exact w64 _ (by omega)
    have q2 : wrap64 ((J : Int) + 1) = ((J + 1 : Nat) : Int) := by rw [show (J : Int) + 1 = ((J + 1 : Nat) : Int) by omega]; exact w64 _ (by omega)
    have q3 : wrap64 ((J : Int) + 2) = ((J + 2 : Nat) : Int) := by rw [show (J : Int) + 2 = ((J + 2 : Nat) : Int) by omega]; exact w64 _ (by omega)
    rw [hn] at kk ⊢
    have HS : ∀ V, But Nowhere (w.alloc (.cells #[.int .i64 W, .int .i64 H, .bool true, .slice (some ⟨vb, voff, none⟩) n vc] 26)) V → (V.cell? ⟨w.heap.size, 3, none⟩ = some (.slice (some ⟨vb, voff, none⟩) n vc) ∧ V.cell? ⟨vb, voff + J, none⟩ = some (.int .u8 a0) ∧ V.cell? ⟨vb, voff + (J + 1), none⟩ = some (.int .u8 a1) ∧ V.cell? ⟨vb, voff + (J + 2), none⟩ = some (.int .u8 a2)) := fun V hb => ⟨hb.keeps (not_nowhere _) (kk.head.at 3), hb.keeps (not_nowhere _) (kk.but.keeps (not_nowhere _) k0), hb.keeps (not_nowhere _) (kk.but.keeps (not_nowhere _) k1), hb.keeps (not_nowhere _) (kk.but.keeps (not_nowhere _) k2)⟩
    have bu : But Nowhere (w.alloc (.cells #[.int .i64 W, .int .i64 H, .bool true, .slice (some ⟨vb, voff, none⟩) n vc] 26)) (w.alloc (.cells #[.int .i64 W, .int .i64 H, .bool true, .slice (some ⟨vb, voff, none⟩) n vc] 26)).drew := (But.refl _ _).drew
    have HKB : Hid (But Nowhere w (w.alloc (.cells #[.int .i64 W, .int .i64 H, .bool true, .slice (some ⟨vb, voff, none⟩) n vc] 26))) := kk.but
    have hpp : part = 0 ∨ part = 1 ∨ part = 2 := by omega
    have r1 := R1.out
    have r2 := R2.out
    have r3 := R3.out
    have r4 := R4.out
    clear R1 R2 R3 R4 hcells hc hres hr h1 k0 k1 k2 kk
    go_enter Tryd.func98, Tryd.ntmps98
    go_wp2_with fail
    refine wp_region_till (S := fun V => V.cell? ⟨w.heap.size, 3, none⟩ = some (.slice (some ⟨vb, voff, none⟩) n vc) ∧ V.cell? ⟨vb, voff + J, none⟩ = some (.int .u8 a0) ∧ V.cell? ⟨vb, voff + (J + 1), none⟩ = some (.int .u8 a1) ∧ V.cell? ⟨vb, voff + (J + 2), none⟩ = some (.int .u8 a2)) (R := fun _ => True) (k := 100) (m := 100) (by kernel_rfl) (HS _ bu) trivial ?_
    (refine Walk.take (i := 0) (oi := { dst := some 37, op := Op.fieldAddr 26 (Operand.tmp 4) 3, type := 0, pos := "ref.go:67", after := #[], guard := none }) (v := ?_) rfl (by kernel_rfl) (by kernel_rfl) (by kernel_rfl) (by kernel_rfl) (fun _ _ _ h => h) (Or.inl ⟨by rfl, ?_⟩) ?_; rotate_left; (intro w hw; clear hw; (try go_split_ands); go_simp; try (with_reducible rfl)); simp only [Act.put, List.setIfInBounds_toArray, List.set_cons_zero, List.set_cons_succ])
    (refine Walk.take (i := 1) (oi := { dst := some 38, op := Op.load 24 (Operand.tmp 37), type := 24, pos := "ref.go:67", after := #[{ on := 0, ground := Ground.data }], guard := none }) (v := ?_) rfl (by kernel_rfl) (by kernel_rfl) (by kernel_rfl) (by kernel_rfl) (fun _ _ _ h => h) (Or.inl ⟨by rfl, ?_⟩) ?_; rotate_left; (intro w hw; have hS1 := hw.1 (by kernel_rfl); clear hw; (try dsimp only at hS1); (try go_split_ands); go_simp; try (with_reducible rfl)); simp only [Act.put, List.setIfInBounds_toArray, List.set_cons_zero, List.set_cons_succ])
    (refine Walk.take (i := 2) (oi := { dst := some 39, op := Op.move (Operand.tmp 9), type := 3, pos := "ref.go:67", after := #[], guard := none }) (v := ?_) rfl (by kernel_rfl) (by kernel_rfl) (by kernel_rfl) (by kernel_rfl) (fun _ _ _ h => h) (Or.inl ⟨by rfl, ?_⟩) ?_; rotate_left; (intro w hw; clear hw; (try go_split_ands); go_simp; try (with_reducible rfl)); simp only [Act.put, List.setIfInBounds_toArray, List.set_cons_zero, List.set_cons_succ])
    (refine Walk.take (i := 3) (oi := { dst := some 40, op := Op.binOp BinOp.mul 3 (Operand.const (Value.int IntKind.i64 3)) (Operand.tmp 39) 3, type := 3, pos := "ref.go:67", after := #[{ on := 2, ground := Ground.data }], guard := none }) (v := .int .i64 (J : Int)) rfl (by kernel_rfl) (by kernel_rfl) (by kernel_rfl) (by kernel_rfl) (fun _ _ _ h => h) (Or.inl ⟨by rfl, ?_⟩) ?_; (focus (intro w hw; clear hw; (try go_split_ands); go_simp; (try (rw [wrap_i64_eq]; first | exact q1 | exact q2 | exact q3)))); simp only [Act.put, List.setIfInBounds_toArray, List.set_cons_zero, List.set_cons_succ])
    (refine Walk.take (i := 4) (oi := { dst := some 41, op := Op.indexAddr 24 (Operand.tmp 38) (Operand.tmp 40), type := 0, pos := "ref.go:67", after := #[{ on := 1, ground := Ground.data }, { on := 3, ground := Ground.data }], guard := none }) (v := ?_) rfl (by kernel_rfl) (by kernel_rfl) (by kernel_rfl) (by kernel_rfl) (fun _ _ _ h => h) (Or.inl ⟨by rfl, ?_⟩) ?_; rotate_left; (intro w hw; clear hw; (try go_split_ands); go_simp; try (with_reducible rfl)); simp only [Act.put, List.setIfInBounds_toArray, List.set_cons_zero, List.set_cons_succ])
    (refine Walk.take (i := 5) (oi := { dst := some 42, op := Op.load 5 (Operand.tmp 41), type := 5, pos := "ref.go:67", after := #[{ on := 4, ground := Ground.data }], guard := none }) (v := ?_) rfl (by kernel_rfl) (by kernel_rfl) (by kernel_rfl) (by kernel_rfl) (fun _ _ _ h => h) (Or.inl ⟨by rfl, ?_⟩) ?_; rotate_left; (intro w hw; have hS1 := hw.1 (by kernel_rfl); clear hw; (try dsimp only at hS1); (try go_split_ands); go_simp; try (with_reducible rfl)); simp only [Act.put, List.setIfInBounds_toArray, List.set_cons_zero, List.set_cons_succ])
    (refine Walk.take (i := 6) (oi := { dst := some 43, op := Op.convert 5 3 (Operand.tmp 42), type := 3, pos := "ref.go:67", after := #[{ on := 5, ground := Ground.data }], guard := none }) (v := ?_) rfl (by kernel_rfl) (by kernel_rfl) (by kernel_rfl) (by kernel_rfl) (fun _ _ _ h => h) (Or.inl ⟨by rfl, ?_⟩) ?_; rotate_left; (intro w hw; clear hw; (try go_split_ands); go_simp; try (with_reducible rfl)); simp only [Act.put, List.setIfInBounds_toArray, List.set_cons_zero, List.set_cons_succ])
    (refine Walk.take (i := 7) (oi := { dst := some 44, op := Op.fieldAddr 26 (Operand.tmp 4) 3, type := 0, pos := "ref.go:67", after := #[], guard := none }) (v := ?_) rfl (by kernel_rfl) (by kernel_rfl) (by kernel_rfl) (by kernel_rfl) (fun _ _ _ h => h) (Or.inl ⟨by rfl, ?_⟩) ?_; rotate_left; (intro w hw; clear hw; (try go_split_ands); go_simp; try (with_reducible rfl)); simp only [Act.put, List.setIfInBounds_toArray, List.set_cons_zero, List.set_cons_succ])
    (refine Walk.take (i := 8) (oi := { dst := some 45, op := Op.load 24 (Operand.tmp 44), type := 24, pos := "ref.go:67", after := #[{ on := 7, ground := Ground.data }], guard := none }) (v := ?_) rfl (by kernel_rfl) (by kernel_rfl) (by kernel_rfl) (by kernel_rfl) (fun _ _ _ h => h) (Or.inl ⟨by rfl, ?_⟩) ?_; rotate_left; (intro w hw; have hS1 := hw.1 (by kernel_rfl); clear hw; (try dsimp only at hS1); (try go_split_ands); go_simp; try (with_reducible rfl)); simp only [Act.put, List.setIfInBounds_toArray, List.set_cons_zero, List.set_cons_succ])
    (refine Walk.take (i := 9) (oi := { dst := some 46, op := Op.move (Operand.tmp 9), type := 3, pos := "ref.go:67", after := #[], guard := none }) (v := ?_) rfl (by kernel_rfl) (by kernel_rfl) (by kernel_rfl) (by kernel_rfl) (fun _ _ _ h => h) (Or.inl ⟨by rfl, ?_⟩) ?_; rotate_left; (intro w hw; clear hw; (try go_split_ands); go_simp; try (with_reducible rfl)); simp only [Act.put, List.setIfInBounds_toArray, List.set_cons_zero, List.set_cons_succ])
    (refine Walk.take (i := 10) (oi := { dst := some 47, op := Op.binOp BinOp.mul 3 (Operand.const (Value.int IntKind.i64 3)) (Operand.tmp 46) 3, type := 3, pos := "ref.go:67", after := #[{ on := 9, ground := Ground.data }], guard := none }) (v := .int .i64 (J : Int)) rfl (by kernel_rfl) (by kernel_rfl) (by kernel_rfl) (by kernel_rfl) (fun _ _ _ h => h) (Or.inl ⟨by rfl, ?_⟩) ?_; (focus (intro w hw; clear hw; (try go_split_ands); go_simp; (try (rw [wrap_i64_eq]; first | exact q1 | exact q2 | exact q3)))); simp only [Act.put, List.setIfInBounds_toArray, List.set_cons_zero, List.set_cons_succ])
    (refine Walk.take (i := 11) (oi := { dst := some 48, op := Op.binOp BinOp.add 3 (Operand.tmp 47) (Operand.const (Value.int IntKind.i64 1)) 3, type := 3, pos := "ref.go:67", after := #[{ on := 10, ground := Ground.data }], guard := none }) (v := .int .i64 ((J + 1 : Nat) : Int)) rfl (by kernel_rfl) (by kernel_rfl) (by kernel_rfl) (by kernel_rfl) (fun _ _ _ h => h) (Or.inl ⟨by rfl, ?_⟩) ?_; (focus (intro w hw; clear hw; (try go_split_ands); go_simp; (try (rw [wrap_i64_eq]; first | exact q1 | exact q2 | exact q3)))); simp only [Act.put, List.setIfInBounds_toArray, List.set_cons_zero, List.set_cons_succ])
    (refine Walk.take (i := 12) (oi := { dst := some 49, op := Op.indexAddr 24 (Operand.tmp 45) (Operand.tmp 48), type := 0, pos := "ref.go:67", after := #[{ on := 8, ground := Ground.data }, { on := 11, ground := Ground.data }], guard := none }) (v := ?_) rfl (by kernel_rfl) (by kernel_rfl) (by kernel_rfl) (by kernel_rfl) (fun _ _ _ h => h) (Or.inl ⟨by rfl, ?_⟩) ?_; rotate_left; (intro w hw; clear hw; (try go_split_ands); go_simp; try (with_reducible rfl)); simp only [Act.put, List.setIfInBounds_toArray, List.set_cons_zero, List.set_cons_succ])
    (refine Walk.take (i := 13) (oi := { dst := some 50, op := Op.load 5 (Operand.tmp 49), type := 5, pos := "ref.go:67", after := #[{ on := 12, ground := Ground.data }], guard := none }) (v := ?_) rfl (by kernel_rfl) (by kernel_rfl) (by kernel_rfl) (by kernel_rfl) (fun _ _ _ h => h) (Or.inl ⟨by rfl, ?_⟩) ?_; rotate_left; (intro w hw; have hS1 := hw.1 (by kernel_rfl); clear hw; (try dsimp only at hS1); (try go_split_ands); go_simp; try (with_reducible rfl)); simp only [Act.put, List.setIfInBounds_toArray, List.set_cons_zero, List.set_cons_succ])
    (refine Walk.take (i := 14) (oi := { dst := some 51, op := Op.convert 5 3 (Operand.tmp 50), type := 3, pos := "ref.go:67", after := #[{ on := 13, ground := Ground.data }], guard := none }) (v := ?_) rfl (by kernel_rfl) (by kernel_rfl) (by kernel_rfl) (by kernel_rfl) (fun _ _ _ h => h) (Or.inl ⟨by rfl, ?_⟩) ?_; rotate_left; (intro w hw; clear hw; (try go_split_ands); go_simp; try (with_reducible rfl)); simp only [Act.put, List.setIfInBounds_toArray, List.set_cons_zero, List.set_cons_succ])
    (refine Walk.take (i := 15) (oi := { dst := some 52, op := Op.fieldAddr 26 (Operand.tmp 4) 3, type := 0, pos := "ref.go:67", after := #[], guard := none }) (v := ?_) rfl (by kernel_rfl) (by kernel_rfl) (by kernel_rfl) (by kernel_rfl) (fun _ _ _ h => h) (Or.inl ⟨by rfl, ?_⟩) ?_; rotate_left; (intro w hw; clear hw; (try go_split_ands); go_simp; try (with_reducible rfl)); simp only [Act.put, List.setIfInBounds_toArray, List.set_cons_zero, List.set_cons_succ])
    (refine Walk.take (i := 16) (oi := { dst := some 53, op := Op.load 24 (Operand.tmp 52), type := 24, pos := "ref.go:67", after := #[{ on := 15, ground := Ground.data }], guard := none }) (v := ?_) rfl (by kernel_rfl) (by kernel_rfl) (by kernel_rfl) (by kernel_rfl) (fun _ _ _ h => h) (Or.inl ⟨by rfl, ?_⟩) ?_; rotate_left; (intro w hw; have hS1 := hw.1 (by kernel_rfl); clear hw; (try dsimp only at hS1); (try go_split_ands); go_simp; try (with_reducible rfl)); simp only [Act.put, List.setIfInBounds_toArray, List.set_cons_zero, List.set_cons_succ])
    (refine Walk.take (i := 17) (oi := { dst := some 54, op := Op.move (Operand.tmp 9), type := 3, pos := "ref.go:67", after := #[], guard := none }) (v := ?_) rfl (by kernel_rfl) (by kernel_rfl) (by kernel_rfl) (by kernel_rfl) (fun _ _ _ h => h) (Or.inl ⟨by rfl, ?_⟩) ?_; rotate_left; (intro w hw; clear hw; (try go_split_ands); go_simp; try (with_reducible rfl)); simp only [Act.put, List.setIfInBounds_toArray, List.set_cons_zero, List.set_cons_succ])
    (refine Walk.take (i := 18) (oi := { dst := some 55, op := Op.binOp BinOp.mul 3 (Operand.const (Value.int IntKind.i64 3)) (Operand.tmp 54) 3, type := 3, pos := "ref.go:67", after := #[{ on := 17, ground := Ground.data }], guard := none }) (v := .int .i64 (J : Int)) rfl (by kernel_rfl) (by kernel_rfl) (by kernel_rfl) (by kernel_rfl) (fun _ _ _ h => h) (Or.inl ⟨by rfl, ?_⟩) ?_; (focus (intro w hw; clear hw; (try go_split_ands); go_simp; (try (rw [wrap_i64_eq]; first | exact q1 | exact q2 | exact q3)))); simp only [Act.put, List.setIfInBounds_toArray, List.set_cons_zero, List.set_cons_succ])
    (refine Walk.take (i := 19) (oi := { dst := some 56, op := Op.binOp BinOp.add 3 (Operand.tmp 55) (Operand.const (Value.int IntKind.i64 2)) 3, type := 3, pos := "ref.go:67", after := #[{ on := 18, ground := Ground.data }], guard := none }) (v := .int .i64 ((J + 2 : Nat) : Int)) rfl (by kernel_rfl) (by kernel_rfl) (by kernel_rfl) (by kernel_rfl) (fun _ _ _ h => h) (Or.inl ⟨by rfl, ?_⟩) ?_; (focus (intro w hw; clear hw; (try go_split_ands); go_simp; (try (rw [wrap_i64_eq]; first | exact q1 | exact q2 | exact q3)))); simp only [Act.put, List.setIfInBounds_toArray, List.set_cons_zero, List.set_cons_succ])
    (refine Walk.take (i := 20) (oi := { dst := some 57, op := Op.indexAddr 24 (Operand.tmp 53) (Operand.tmp 56), type := 0, pos := "ref.go:67", after := #[{ on := 16, ground := Ground.data }, { on := 19, ground := Ground.data }], guard := none }) (v := ?_) rfl (by kernel_rfl) (by kernel_rfl) (by kernel_rfl) (by kernel_rfl) (fun _ _ _ h => h) (Or.inl ⟨by rfl, ?_⟩) ?_; rotate_left; (intro w hw; clear hw; (try go_split_ands); go_simp; try (with_reducible rfl)); simp only [Act.put, List.setIfInBounds_toArray, List.set_cons_zero, List.set_cons_succ])
    (refine Walk.take (i := 21) (oi := { dst := some 58, op := Op.load 5 (Operand.tmp 57), type := 5, pos := "ref.go:67", after := #[{ on := 20, ground := Ground.data }], guard := none }) (v := ?_) rfl (by kernel_rfl) (by kernel_rfl) (by kernel_rfl) (by kernel_rfl) (fun _ _ _ h => h) (Or.inl ⟨by rfl, ?_⟩) ?_; rotate_left; (intro w hw; have hS1 := hw.1 (by kernel_rfl); clear hw; (try dsimp only at hS1); (try go_split_ands); go_simp; try (with_reducible rfl)); simp only [Act.put, List.setIfInBounds_toArray, List.set_cons_zero, List.set_cons_succ])
    (refine Walk.take (i := 22) (oi := { dst := some 59, op := Op.convert 5 3 (Operand.tmp 58), type := 3, pos := "ref.go:67", after := #[{ on := 21, ground := Ground.data }], guard := none }) (v := ?_) rfl (by kernel_rfl) (by kernel_rfl) (by kernel_rfl) (by kernel_rfl) (fun _ _ _ h => h) (Or.inl ⟨by rfl, ?_⟩) ?_; rotate_left; (intro w hw; clear hw; (try go_split_ands); go_simp; try (with_reducible rfl)); simp only [Act.put, List.setIfInBounds_toArray, List.set_cons_zero, List.set_cons_succ])
    (refine Walk.go (i := 23) (o := { dst := some 60, op := Op.call { callee := Callee.value (Operand.func 112), args := #[Operand.tmp 43, Operand.tmp 51, Operand.tmp 59], argTypes := #[3, 3, 3] }, type := 128, pos := "ref.go:67", after := #[{ on := 6, ground := Ground.data }, { on := 14, ground := Ground.data }, { on := 22, ground := Ground.data }], guard := none }) (by kernel_rfl) rfl (fun K hK => ?_); go_simp; ((go_at_call 112; refine (refLuma_any _ _ _ _).mono ?_; rintro e x1 ⟨rfl, d⟩; replace bu := bu.trans d; clear d)); refine hK.out _ _ (⟨fun _ => HS _ bu, fun _ => trivial⟩) ?_; clear hK K; try simp only [Act.put, List.setIfInBounds_toArray, List.set_cons_zero, List.set_cons_succ])
    (refine Walk.take (i := 24) (oi := { dst := some 36, op := Op.move (Operand.tmp 60), type := 128, pos := "ref.go:67", after := #[{ on := 23, ground := Ground.data }], guard := none }) (v := ?_) rfl (by kernel_rfl) (by kernel_rfl) (by kernel_rfl) (by kernel_rfl) (fun _ _ _ h => h) (Or.inl ⟨by rfl, ?_⟩) ?_; rotate_left; (intro w hw; clear hw; (try go_split_ands); go_simp; try (with_reducible rfl)); simp only [Act.put, List.setIfInBounds_toArray, List.set_cons_zero, List.set_cons_succ])
    (refine Walk.take (i := 25) (oi := { dst := some 61, op := Op.extract (Operand.tmp 36) 0, type := 3, pos := "ref.go:67", after := #[{ on := 24, ground := Ground.data }], guard := none }) (v := ?_) rfl (by kernel_rfl) (by kernel_rfl) (by kernel_rfl) (by kernel_rfl) (fun _ _ _ h => h) (Or.inl ⟨by rfl, ?_⟩) ?_; rotate_left; (intro w hw; clear hw; (try go_split_ands); go_simp; try (with_reducible rfl)); simp only [Act.put, List.setIfInBounds_toArray, List.set_cons_zero, List.set_cons_succ])
    (refine Walk.take (i := 26) (oi := { dst := some 62, op := Op.extract (Operand.tmp 36) 1, type := 3, pos := "ref.go:67", after := #[{ on := 24, ground := Ground.data }, { on := 28, ground := Ground.gcOnly Departure.lateStores }], guard := none }) (v := ?_) rfl (by kernel_rfl) (by kernel_rfl) (by kernel_rfl) (by kernel_rfl) (fun _ _ _ h => h) (Or.inl ⟨by rfl, ?_⟩) ?_; rotate_left; (intro w hw; clear hw; (try go_split_ands); go_simp; try (with_reducible rfl)); simp only [Act.put, List.setIfInBounds_toArray, List.set_cons_zero, List.set_cons_succ])
    (refine Walk.take (i := 27) (oi := { dst := some 63, op := Op.extract (Operand.tmp 36) 2, type := 3, pos := "ref.go:67", after := #[{ on := 24, ground := Ground.data }, { on := 29, ground := Ground.gcOnly Departure.lateStores }], guard := none }) (v := ?_) rfl (by kernel_rfl) (by kernel_rfl) (by kernel_rfl) (by kernel_rfl) (fun _ _ _ h => h) (Or.inl ⟨by rfl, ?_⟩) ?_; rotate_left; (intro w hw; clear hw; (try go_split_ands); go_simp; try (with_reducible rfl)); simp only [Act.put, List.setIfInBounds_toArray, List.set_cons_zero, List.set_cons_succ])
    (refine Walk.take (i := 28) (oi := { dst := some 10, op := Op.assign (Operand.tmp 61), type := 3, pos := "ref.go:67", after := #[{ on := 25, ground := Ground.data }, { on := 23, ground := Ground.chain }, { on := 0, ground := Ground.phase }, { on := 1, ground := Ground.phase }, { on := 2, ground := Ground.phase }, { on := 3, ground := Ground.phase }, { on := 4, ground := Ground.phase }, { on := 5, ground := Ground.phase }, { on := 6, ground := Ground.phase }, { on := 7, ground := Ground.phase }, { on := 8, ground := Ground.phase }, { on := 9, ground := Ground.phase }, { on := 10, ground := Ground.phase }, { on := 11, ground := Ground.phase }, { on := 12, ground := Ground.phase }, { on := 13, ground := Ground.phase }, { on := 14, ground := Ground.phase }, { on := 15, ground := Ground.phase }, { on := 16, ground := Ground.phase }, { on := 17, ground := Ground.phase }, { on := 18, ground := Ground.phase }, { on := 19, ground := Ground.phase }, { on := 20, ground := Ground.phase }, { on := 21, ground := Ground.phase }, { on := 22, ground := Ground.phase }, { on := 23, ground := Ground.phase }, { on := 24, ground := Ground.phase }, { on := 25, ground := Ground.phase }, { on := 26, ground := Ground.textOnly Departure.lateStores }, { on := 27, ground := Ground.textOnly Departure.lateStores }], guard := none }) (v := ?_) rfl (by kernel_rfl) (by kernel_rfl) (by kernel_rfl) (by kernel_rfl) (fun _ _ _ h => h) (Or.inl ⟨by rfl, ?_⟩) ?_; rotate_left; (intro w hw; clear hw; (try go_split_ands); go_simp; try (with_reducible rfl)); simp only [Act.put, List.setIfInBounds_toArray, List.set_cons_zero, List.set_cons_succ])
    (refine Walk.take (i := 29) (oi := { dst := some 11, op := Op.assign (Operand.tmp 62), type := 3, pos := "ref.go:67", after := #[{ on := 26, ground := Ground.data }, { on := 28, ground := Ground.chain }, { on := 0, ground := Ground.phase }, { on := 1, ground := Ground.phase }, { on := 2, ground := Ground.phase }, { on := 3, ground := Ground.phase }, { on := 4, ground := Ground.phase }, { on := 5, ground := Ground.phase }, { on := 6, ground := Ground.phase }, { on := 7, ground := Ground.phase }, { on := 8, ground := Ground.phase }, { on := 9, ground := Ground.phase }, { on := 10, ground := Ground.phase }, { on := 11, ground := Ground.phase }, { on := 12, ground := Ground.phase }, { on := 13, ground := Ground.phase }, { on := 14, ground := Ground.phase }, { on := 15, ground := Ground.phase }, { on := 16, ground := Ground.phase }, { on := 17, ground := Ground.phase }, { on := 18, ground := Ground.phase }, { on := 19, ground := Ground.phase }, { on := 20, ground := Ground.phase }, { on := 21, ground := Ground.phase }, { on := 22, ground := Ground.phase }, { on := 23, ground := Ground.phase }, { on := 24, ground := Ground.phase }, { on := 25, ground := Ground.phase }, { on := 26, ground := Ground.phase }, { on := 27, ground := Ground.textOnly Departure.lateStores }, { on := 28, ground := Ground.phase }], guard := none }) (v := ?_) rfl (by kernel_rfl) (by kernel_rfl) (by kernel_rfl) (by kernel_rfl) (fun _ _ _ h => h) (Or.inl ⟨by rfl, ?_⟩) ?_; rotate_left; (intro w hw; clear hw; (try go_split_ands); go_simp; try (with_reducible rfl)); simp only [Act.put, List.setIfInBounds_toArray, List.set_cons_zero, List.set_cons_succ])
    (refine Walk.take (i := 30) (oi := { dst := some 12, op := Op.assign (Operand.tmp 63), type := 3, pos := "ref.go:67", after := #[{ on := 27, ground := Ground.data }, { on := 29, ground := Ground.chain }, { on := 0, ground := Ground.phase }, { on := 1, ground := Ground.phase }, { on := 2, ground := Ground.phase }, { on := 3, ground := Ground.phase }, { on := 4, ground := Ground.phase }, { on := 5, ground := Ground.phase }, { on := 6, ground := Ground.phase }, { on := 7, ground := Ground.phase }, { on := 8, ground := Ground.phase }, { on := 9, ground := Ground.phase }, { on := 10, ground := Ground.phase }, { on := 11, ground := Ground.phase }, { on := 12, ground := Ground.phase }, { on := 13, ground := Ground.phase }, { on := 14, ground := Ground.phase }, { on := 15, ground := Ground.phase }, { on := 16, ground := Ground.phase }, { on := 17, ground := Ground.phase }, { on := 18, ground := Ground.phase }, { on := 19, ground := Ground.phase }, { on := 20, ground := Ground.phase }, { on := 21, ground := Ground.phase }, { on := 22, ground := Ground.phase }, { on := 23, ground := Ground.phase }, { on := 24, ground := Ground.phase }, { on := 25, ground := Ground.phase }, { on := 26, ground := Ground.phase }, { on := 27, ground := Ground.phase }, { on := 28, ground := Ground.phase }, { on := 29, ground := Ground.phase }], guard := none }) (v := ?_) rfl (by kernel_rfl) (by kernel_rfl) (by kernel_rfl) (by kernel_rfl) (fun _ _ _ h => h) (Or.inl ⟨by rfl, ?_⟩) ?_; rotate_left; (intro w hw; clear hw; (try go_split_ands); go_simp; try (with_reducible rfl)); simp only [Act.put, List.setIfInBounds_toArray, List.set_cons_zero, List.set_cons_succ])
    refine Walk.done (by kernel_rfl) ?_ _
    have HB : Hid (But Nowhere w x1) := HKB.out.trans bu
    clear HS bu HKB
    rcases hpp with rfl | rfl | rfl
    · go_wp2_with fail
      go_ret
      exact ⟨rfl, HB.out.alloc _⟩
    · go_wp2_with fail
      go_ret
      exact ⟨rfl, HB.out.alloc _⟩
    · go_wp2_with fail
      go_ret
      exact ⟨rfl, HB.out.alloc _⟩

end Go.Proofs.YtppbnmlgilgnnaaDoor

/- The document's mean: a SAMPLE. -/
namespace Go.Proofs.YtppbnmlgilgnnaaDoor
open Go.ChangeShapes Go.WideShapes Go.ChangeAt Go.RowKit

/-- The n-th of a SAMPLE's pixels, as the document counts them. -/
def meanG (W H m : Int) (l : List Int) (part : Nat) (x y : Int) (a b : Nat) (n : Nat) : Int := gat (partsL m l) ((min (y * b + (n : Int) / (a : Int)) (H - 1) * W + min (x * a + (n : Int) % (a : Int)) (W - 1)) * partsN m + part)

def meanF (W H m : Int) (l : List Int) (part : Nat) (x y : Int) (a b : Nat) : Int := halved (((a * b : Nat) : Int) / 2 + accF (meanG W H m l part x y a b) (a * b)) (tzF ((a * b : Nat) : Int))

set_option maxHeartbeats 6400000 in
set_option maxRecDepth 100000 in
theorem refMean_any (W H m : Int) (f : Fit W H m) (r : Bool) (hr : r = (m != 1)) (v : Value) (l : List Int) (part : Nat) (hp : part < partsN m) (x y : Int) (hx : 0 ≤ x) (hy : 0 ≤ y) (a b : Nat) (hxa : x * a ≤ 68000) (hyb : y * b ≤ 68000) (ha : a = 1 ∨ a = 2) (hb : b = 1 ∨ b = 2) (w : World) (hv : View w .u8 v l) (hlen : (l.length : Int) = W * H * partsN m) (h255 : ∀ x ∈ l, 0 ≤ x ∧ x ≤ 255) :
    Calls Tryd.prog 84 #[imV W H r v, .int .i64 (part : Int), .int .i64 x, .int .i64 y, .int .i64 (a : Int), .int .i64 (b : Int)] w fun e w' => e = .returned (.int .i64 (meanF W H m l part x y a b)) ∧ But Nowhere w w' := by
  have hG : ∀ n, 0 ≤ meanG W H m l part x y a b n ∧ meanG W H m l part x y a b n ≤ 255 := fun n => gat_in (partsL_in m l h255) _
  have hA := accF_in (meanG W H m l part x y a b) hG
  obtain ⟨vo, vc, rfl⟩ := hv.slice
  have HSM : Hid (∀ V, But Nowhere w V → ∀ k t : Nat, t < a → k < b → Calls Tryd.prog 98 #[imV W H r (.slice vo l.length vc), .int .i64 (part : Int), .int .i64 (x * a + t), .int .i64 (y * b + k)] V fun e w' => e = .returned (.int .i64 (meanG W H m l part x y a b (k * a + t))) ∧ But Nowhere V w') := by
    intro V hbV k t ht hk
    have m1 : x * (a : Int) ≤ 68000 := hxa
    have m2 : 0 ≤ x * (a : Int) := Int.mul_nonneg hx (by omega)
    have m3 : y * (b : Int) ≤ 68000 := hyb
    have m4 : 0 ≤ y * (b : Int) := Int.mul_nonneg hy (by omega)
    have e1 : (((k * a + t : Nat) : Int)) / (a : Int) = (k : Int) := by
      rw [← Int.natCast_ediv, Nat.add_comm, Nat.add_mul_div_right _ _ (by omega), Nat.div_eq_of_lt ht, Nat.zero_add]
    have e2 : (((k * a + t : Nat) : Int)) % (a : Int) = (t : Int) := by
      rw [← Int.natCast_emod, Nat.add_comm, Nat.add_mul_mod_self_right, Nat.mod_eq_of_lt ht]
    unfold meanG
    rw [e1, e2]
    exact refSample_any W H m f r hr _ l part hp _ _ (by omega) (by omega) V (hv.but hbV) hlen h255
  obtain ⟨C, hC, hC4⟩ : ∃ C : Nat, a * b = C ∧ (C = 1 ∨ C = 2 ∨ C = 4) := ⟨_, rfl, by rcases ha with rfl | rfl <;> rcases hb with rfl | rfl <;> omega⟩
  have hCi : (a : Int) * (b : Int) = (C : Int) := by rw [← hC]; simp
  have kk := (Keep.start w).made 26 (imC W H r (.slice vo l.length vc))
  unfold meanF
  rw [hC]
  obtain ⟨g, hg⟩ : ∃ g, meanG W H m l part x y a b = g := ⟨_, rfl⟩
  rw [hg] at hA HSM ⊢
  have m1 : x * (a : Int) ≤ 68000 := hxa
  have m2 : 0 ≤ x * (a : Int) := Int.mul_nonneg hx (by omega)
  have m3 : y * (b : Int) ≤ 68000 := hyb
  have m4 : 0 ≤ y * (b : Int) := Int.mul_nonneg hy (by omega)
  obtain ⟨XA, hXA⟩ : ∃ z, x * (a : Int) = z := ⟨_, rfl⟩
  obtain ⟨YB, hYB⟩ : ∃ z, y * (b : Int) = z := ⟨_, rfl⟩
  clear hxa hyb
  rw [hXA] at m1 m2 HSM
  rw [hYB] at m3 m4 HSM
  have R1 : Hid (wrap64 ((a : Int) * (b : Int)) = (C : Int)) := by show wrap64 ((a : Int) * (b : Int)) = (C : Int); rw [hCi]; exact w64 _ (by omega)
  have R2 : Hid (wrap64 (x * (a : Int)) = XA) := by show wrap64 (x * (a : Int)) = XA; rw [hXA]; exact w64 _ (by omega)
  have R3 : Hid (wrap64 (y * (b : Int)) = YB) := by show wrap64 (y * (b : Int)) = YB; rw [hYB]; exact w64 _ (by omega)
  have hdv : ((C : Int)).tdiv 2 = (C : Int) / 2 := Int.tdiv_eq_ediv_of_nonneg (by omega)
  have hC2 : 0 ≤ (C : Int) / 2 ∧ (C : Int) / 2 ≤ 2 := by omega
  obtain ⟨D, hD⟩ : ∃ D, (C : Int) / 2 = D := ⟨_, rfl⟩
  rw [hD] at hdv hC2 ⊢
  have wD : IntKind.i64.wrap D = D := by rw [wrap_i64_eq]; exact w64 _ (by omega)
  have hCn : ¬ C = 0 := by omega
  have HCC : Hid (a * b = C) := hC
  clear hg hXA hYB hC hCi hD hr h255 hG hlen hv
  go_enter Tryd.func84, Tryd.ntmps84
  have r1 := R1.out
  go_wp2_with fail
  clear r1
  revert kk
  generalize w.alloc (.cells #[.int .i64 W, .int .i64 H, .bool r, .slice vo l.length vc] 26) = w1
  intro kk
  go_loopw [13, 14] (fun s i V => ∃ k : Nat, k ≤ b ∧ i = .int .i64 k ∧ s = .int .i64 (D + accF g (k * a)) ∧ But Nowhere w1 V) (fun _ i _ => b - (intOf i).toNat)
  case atStart => exact ⟨0, Nat.zero_le _, rfl, by simp [accF], But.refl _ _⟩
  case round =>
    obtain ⟨k, hk, rfl, rfl, hbV⟩ := hrel
    by_cases hlt : k < b
    · have i1 : (k : Int) < (b : Int) := Int.ofNat_lt.2 hlt
      go_wp2_with fail
      go_loopw [13, 15] (fun s i V => ∃ t : Nat, t ≤ a ∧ i = .int .i64 t ∧ s = .int .i64 (D + accF g (k * a + t)) ∧ But Nowhere w1 V) (fun _ i _ => a - (intOf i).toNat)
      case atStart => exact ⟨0, Nat.zero_le _, rfl, by simp, hbV⟩
      case round =>
        obtain ⟨t, ht, rfl, rfl, hbT⟩ := hrel
        by_cases hlt2 : t < a
        · have i2 : (t : Int) < (a : Int) := Int.ofNat_lt.2 hlt2
          have gM := (kk.step hbT).head
          have d0 := gM.at 0
          have d1 := gM.at 1
          have d2 := gM.at 2
          have d3 := gM.at 3
          simp only [List.getElem?_cons_zero, List.getElem?_cons_succ] at d0 d1 d2 d3
          have hka : k * a + t ≤ 4 := by rcases ha with rfl | rfl <;> rcases hb with rfl | rfl <;> omega
          have hacc := hA (k * a + t)
          have hacc2 := hA (k * a + (t + 1))
          have hac : accF g (k * a + (t + 1)) = accF g (k * a + t) + g (k * a + t) := rfl
          rw [hac] at hacc2
          obtain ⟨z, hz⟩ : ∃ z, accF g (k * a + t) = z := ⟨_, rfl⟩
          obtain ⟨u, hu⟩ : ∃ u, g (k * a + t) = u := ⟨_, rfl⟩
          rw [hz] at hacc hacc2 hac ⊢
          rw [hu] at hacc2 hac
          have q1 : Hid (wrap64 (XA + (t : Int)) = XA + t) := w64 _ (by omega)
          have q2 : Hid (wrap64 (YB + (k : Int)) = YB + k) := w64 _ (by omega)
          have q3 : Hid (wrap64 (D + z + u) = D + z + u) := w64 _ (by omega)
          have HAC : Hid (accF g (k * a + (t + 1)) = z + u) := hac
          have HU : Hid (g (k * a + t) = u) := hu
          have r2 := R2.out
          have r3 := R3.out
          have p1 := q1.out
          have p2 := q2.out
          clear hac hu hz hacc hacc2 gM
          go_wp2_with fail
          refine (HSM.out _ (kk.but.trans hbT) k t hlt2 hlt).mono ?_
          rintro e w2 ⟨rfl, b2⟩
          rw [HU.out]
          have p3 := q3.out
          replace hbT := hbT.trans b2
          clear b2 d0 d1 d2 d3 r2 r3 p1 p2
          go_wp2_with fail
          clear p3
          go_roundw
          case rel => exact ⟨t + 1, by omega, by go_num, by rw [HAC.out, ← Int.add_assoc]; first | rfl | rw [q3.out], hbT⟩
          case measure => simp [intOf]; omega
        · obtain rfl : t = a := by omega
          go_wp2_with fail
          go_roundw
          case rel => exact ⟨k + 1, by omega, by go_num, by rw [Nat.add_mul, Nat.one_mul], hbT⟩
          case measure => simp [intOf]; omega
    · obtain rfl : k = b := by omega
      have hcc : k * a = C := by rw [Nat.mul_comm]; exact HCC.out
      rw [hcc]
      have hacc := hA C
      obtain ⟨z, hz⟩ : ∃ z, accF g C = z := ⟨_, rfl⟩
      rw [hz] at hacc ⊢
      have HZZ : Hid (accF g C = z) := hz
      have hq : (D + z).tdiv (C : Int) = (D + z) / (C : Int) := Int.tdiv_eq_ediv_of_nonneg (by omega)
      have hqb : 0 ≤ (D + z) / (C : Int) ∧ (D + z) / (C : Int) ≤ D + z := ⟨Int.ediv_nonneg (by omega) (by omega), Int.ediv_le_self _ (by omega)⟩
      have hw : IntKind.i64.wrap ((D + z) / (C : Int)) = (D + z) / (C : Int) := by rw [wrap_i64_eq]; exact w64 _ (by omega)
      have hres : (D + z) / (C : Int) = halved (D + z) (tzF (C : Int)) := by
        rcases hC4 with rfl | rfl | rfl <;> simp [halved, tzF]
      have HRES : Hid _ := hres
      have r1 := R1.out
      clear hres hqb hcc hz
      go_wp2_with fail
      go_ret
      refine ⟨?_, kk.but.trans hbV⟩
      rw [HZZ.out, ← HRES.out]
      rfl

end Go.Proofs.YtppbnmlgilgnnaaDoor

/- The document's block. -/
namespace Go.Proofs.YtppbnmlgilgnnaaDoor
open Go.ChangeShapes Go.WideShapes Go.ChangeAt Go.RowKit

def blockF (W H m : Int) (l : List Int) (part : Nat) (x y : Int) (a b : Nat) (i : Nat) : Int := meanF W H m l part (8 * x + (i : Int) % 8) (8 * y + (i : Int) / 8) a b

theorem Cells.of_eq {W : World} {b : Nat} {t : TypeId} {l l' : List Value} (h : Cells W b t l) (e : l = l') : Cells W b t l' := e ▸ h

theorem Cells.layL {W : World} {t : TypeId} {k : IntKind} {b m : Nat} {f : Nat → Int} (h : Cells W b t (tab k m f)) (g : Nat → Int) (L : List Value) (e : L = tab k m g) : Cells (W.setCells b 0 L) b t (tab k m g) := by subst e; exact h.layAll g

theorem lay_three {w W : World} {ib rb ob : Nat} {ti tb : TypeId} {ci : List Value} {k : IntKind} {m : Nat} {f f' g : Nat → Int} {L : List Value} (gI : Cells W ib ti ci) (gR : Cells W rb tb (tab k m f)) (gO : Cells W ob tb (tab k m f')) (bK : But Nowhere w W) (h1 : ib ≠ ob) (h2 : rb ≠ ob) (h3 : w.heap.size ≤ ob) (e : L = tab k m g) :
    Cells (W.setCells ob 0 L) ob tb (tab k m g) ∧ Cells (W.setCells ob 0 L) ib ti ci ∧ Cells (W.setCells ob 0 L) rb tb (tab k m f) ∧ But Nowhere w (W.setCells ob 0 L) := by
  have bS : But (fun x => x = ob) W (W.setCells ob 0 L) := But.setCells (S := fun x => x = ob) (b := ob) L (But.refl _ _) (fun _ => rfl) 0
  exact ⟨gO.layL g L e, gI.but bS h1, gR.but bS h2, bK.step bS (fun k hk e => by omega)⟩

set_option maxHeartbeats 6400000 in
set_option maxRecDepth 100000 in
theorem refBlock_any (W H m : Int) (f : Fit W H m) (r : Bool) (hr : r = (m != 1)) (v : Value) (l : List Int) (part : Nat) (hp : part < partsN m) (x y : Int) (hx : 0 ≤ x ∧ x ≤ 9000) (hy : 0 ≤ y ∧ y ≤ 9000) (a b : Nat) (hxa : (8 * x + 7) * a ≤ 68000) (hyb : (8 * y + 7) * b ≤ 68000) (ha : a = 1 ∨ a = 2) (hb : b = 1 ∨ b = 2) (w : World) (hv : View w .u8 v l) (hlen : (l.length : Int) = W * H * partsN m) (h255 : ∀ x ∈ l, 0 ≤ x ∧ x ≤ 255) :
    Calls Tryd.prog 46 #[imV W H r v, .int .i64 (part : Int), .int .i64 x, .int .i64 y, .int .i64 (a : Int), .int .i64 (b : Int)] w fun e w' => e = .returned (.agg (tab .i64 64 (blockF W H m l part x y a b)).toArray) ∧ But Nowhere w w' := by
  have hu := Tryd.underlying46
  obtain ⟨vo, vc, rfl⟩ := hv.slice
  have HMN : Hid (∀ V, But Nowhere w V → ∀ i : Nat, i < 64 → Calls Tryd.prog 84 #[imV W H r (.slice vo l.length vc), .int .i64 (part : Int), .int .i64 (8 * x + (i : Int) % 8), .int .i64 (8 * y + (i : Int) / 8), .int .i64 (a : Int), .int .i64 (b : Int)] V fun e w' => e = .returned (.int .i64 (blockF W H m l part x y a b i)) ∧ But Nowhere V w') := by
    intro V hbV i hi
    have m1 : (8 * x + (i : Int) % 8) * (a : Int) ≤ (8 * x + 7) * a := Int.mul_le_mul_of_nonneg_right (by omega) (by omega)
    have m2 : (8 * y + (i : Int) / 8) * (b : Int) ≤ (8 * y + 7) * b := Int.mul_le_mul_of_nonneg_right (by omega) (by omega)
    exact refMean_any W H m f r hr _ l part hp _ _ (by omega) (by omega) a b (Int.le_trans m1 hxa) (Int.le_trans m2 hyb) ha hb V (hv.but hbV) hlen h255
  clear hxa hyb
  obtain ⟨F, hF⟩ : ∃ F, blockF W H m l part x y a b = F := ⟨_, rfl⟩
  rw [hF] at HMN ⊢
  have hiA : (Tryd.prog.info? 46).map (·.size) = some (tab .i64 64 F).length := by rw [tab_length]; kernel_rfl
  have hiB : (Tryd.prog.info? 46).map (·.size) = some (tab .i64 64 F).toArray.size := by rw [List.size_toArray, tab_length]; kernel_rfl
  have hiC : (Tryd.prog.info? 46).map (fun i => i.size) = some (tab .i64 64 F).length := by rw [tab_length]; kernel_rfl
  have zl : (Value.int .i64 0 :: Value.int .i64 0 :: Value.int .i64 0 :: Value.int .i64 0 :: Value.int .i64 0 :: Value.int .i64 0 :: Value.int .i64 0 :: Value.int .i64 0 :: Value.int .i64 0 :: Value.int .i64 0 :: Value.int .i64 0 :: Value.int .i64 0 :: Value.int .i64 0 :: Value.int .i64 0 :: Value.int .i64 0 :: Value.int .i64 0 :: Value.int .i64 0 :: Value.int .i64 0 :: Value.int .i64 0 :: Value.int .i64 0 :: Value.int .i64 0 :: Value.int .i64 0 :: Value.int .i64 0 :: Value.int .i64 0 :: Value.int .i64 0 :: Value.int .i64 0 :: Value.int .i64 0 :: Value.int .i64 0 :: Value.int .i64 0 :: Value.int .i64 0 :: Value.int .i64 0 :: Value.int .i64 0 :: Value.int .i64 0 :: Value.int .i64 0 :: Value.int .i64 0 :: Value.int .i64 0 :: Value.int .i64 0 :: Value.int .i64 0 :: Value.int .i64 0 :: Value.int .i64 0 :: Value.int .i64 0 :: Value.int .i64 0 :: Value.int .i64 0 :: Value.int .i64 0 :: Value.int .i64 0 :: Value.int .i64 0 :: Value.int .i64 0 :: Value.int .i64 0 :: Value.int .i64 0 :: Value.int .i64 0 :: Value.int .i64 0 :: Value.int .i64 0 :: Value.int .i64 0 :: Value.int .i64 0 :: Value.int .i64 0 :: Value.int .i64 0 :: Value.int .i64 0 :: Value.int .i64 0 :: Value.int .i64 0 :: Value.int .i64 0 :: Value.int .i64 0 :: Value.int .i64 0 :: Value.int .i64 0 :: Value.int .i64 0 :: []) = tab .i64 64 (fun _ => 0) := zeros64
  have kk := (((Keep.start w).made 26 (imC W H r (.slice vo l.length vc))).made 46 (Value.int .i64 0 :: Value.int .i64 0 :: Value.int .i64 0 :: Value.int .i64 0 :: Value.int .i64 0 :: Value.int .i64 0 :: Value.int .i64 0 :: Value.int .i64 0 :: Value.int .i64 0 :: Value.int .i64 0 :: Value.int .i64 0 :: Value.int .i64 0 :: Value.int .i64 0 :: Value.int .i64 0 :: Value.int .i64 0 :: Value.int .i64 0 :: Value.int .i64 0 :: Value.int .i64 0 :: Value.int .i64 0 :: Value.int .i64 0 :: Value.int .i64 0 :: Value.int .i64 0 :: Value.int .i64 0 :: Value.int .i64 0 :: Value.int .i64 0 :: Value.int .i64 0 :: Value.int .i64 0 :: Value.int .i64 0 :: Value.int .i64 0 :: Value.int .i64 0 :: Value.int .i64 0 :: Value.int .i64 0 :: Value.int .i64 0 :: Value.int .i64 0 :: Value.int .i64 0 :: Value.int .i64 0 :: Value.int .i64 0 :: Value.int .i64 0 :: Value.int .i64 0 :: Value.int .i64 0 :: Value.int .i64 0 :: Value.int .i64 0 :: Value.int .i64 0 :: Value.int .i64 0 :: Value.int .i64 0 :: Value.int .i64 0 :: Value.int .i64 0 :: Value.int .i64 0 :: Value.int .i64 0 :: Value.int .i64 0 :: Value.int .i64 0 :: Value.int .i64 0 :: Value.int .i64 0 :: Value.int .i64 0 :: Value.int .i64 0 :: Value.int .i64 0 :: Value.int .i64 0 :: Value.int .i64 0 :: Value.int .i64 0 :: Value.int .i64 0 :: Value.int .i64 0 :: Value.int .i64 0 :: Value.int .i64 0 :: Value.int .i64 0 :: [])).made 46 (Value.int .i64 0 :: Value.int .i64 0 :: Value.int .i64 0 :: Value.int .i64 0 :: Value.int .i64 0 :: Value.int .i64 0 :: Value.int .i64 0 :: Value.int .i64 0 :: Value.int .i64 0 :: Value.int .i64 0 :: Value.int .i64 0 :: Value.int .i64 0 :: Value.int .i64 0 :: Value.int .i64 0 :: Value.int .i64 0 :: Value.int .i64 0 :: Value.int .i64 0 :: Value.int .i64 0 :: Value.int .i64 0 :: Value.int .i64 0 :: Value.int .i64 0 :: Value.int .i64 0 :: Value.int .i64 0 :: Value.int .i64 0 :: Value.int .i64 0 :: Value.int .i64 0 :: Value.int .i64 0 :: Value.int .i64 0 :: Value.int .i64 0 :: Value.int .i64 0 :: Value.int .i64 0 :: Value.int .i64 0 :: Value.int .i64 0 :: Value.int .i64 0 :: Value.int .i64 0 :: Value.int .i64 0 :: Value.int .i64 0 :: Value.int .i64 0 :: Value.int .i64 0 :: Value.int .i64 0 :: Value.int .i64 0 :: Value.int .i64 0 :: Value.int .i64 0 :: Value.int .i64 0 :: Value.int .i64 0 :: Value.int .i64 0 :: Value.int .i64 0 :: Value.int .i64 0 :: Value.int .i64 0 :: Value.int .i64 0 :: Value.int .i64 0 :: Value.int .i64 0 :: Value.int .i64 0 :: Value.int .i64 0 :: Value.int .i64 0 :: Value.int .i64 0 :: Value.int .i64 0 :: Value.int .i64 0 :: Value.int .i64 0 :: Value.int .i64 0 :: Value.int .i64 0 :: Value.int .i64 0 :: Value.int .i64 0 :: Value.int .i64 0 :: [])
  simp only [World.size_alloc] at kk
  obtain ⟨OB, hOB⟩ : ∃ b, w.heap.size + 1 + 1 = b := ⟨_, rfl⟩
  rw [hOB] at kk
  have gI := kk.get (b := w.heap.size) (t := 26) (c := imC W H r (.slice vo l.length vc)) (by simp)
  have gR := (kk.get (b := w.heap.size + 1) (t := 46) (c := (Value.int .i64 0 :: Value.int .i64 0 :: Value.int .i64 0 :: Value.int .i64 0 :: Value.int .i64 0 :: Value.int .i64 0 :: Value.int .i64 0 :: Value.int .i64 0 :: Value.int .i64 0 :: Value.int .i64 0 :: Value.int .i64 0 :: Value.int .i64 0 :: Value.int .i64 0 :: Value.int .i64 0 :: Value.int .i64 0 :: Value.int .i64 0 :: Value.int .i64 0 :: Value.int .i64 0 :: Value.int .i64 0 :: Value.int .i64 0 :: Value.int .i64 0 :: Value.int .i64 0 :: Value.int .i64 0 :: Value.int .i64 0 :: Value.int .i64 0 :: Value.int .i64 0 :: Value.int .i64 0 :: Value.int .i64 0 :: Value.int .i64 0 :: Value.int .i64 0 :: Value.int .i64 0 :: Value.int .i64 0 :: Value.int .i64 0 :: Value.int .i64 0 :: Value.int .i64 0 :: Value.int .i64 0 :: Value.int .i64 0 :: Value.int .i64 0 :: Value.int .i64 0 :: Value.int .i64 0 :: Value.int .i64 0 :: Value.int .i64 0 :: Value.int .i64 0 :: Value.int .i64 0 :: Value.int .i64 0 :: Value.int .i64 0 :: Value.int .i64 0 :: Value.int .i64 0 :: Value.int .i64 0 :: Value.int .i64 0 :: Value.int .i64 0 :: Value.int .i64 0 :: Value.int .i64 0 :: Value.int .i64 0 :: Value.int .i64 0 :: Value.int .i64 0 :: Value.int .i64 0 :: Value.int .i64 0 :: Value.int .i64 0 :: Value.int .i64 0 :: Value.int .i64 0 :: Value.int .i64 0 :: Value.int .i64 0 :: Value.int .i64 0 :: [])) (by simp)).of_eq zl
  have gO := kk.head.of_eq zl
  have bK := kk.but
  have HTH : Hid _ := gO.there 0 64 (by rw [tab_length]; omega)
  have HG3 : Hid _ := lay_three gI gR gO bK (by omega) (by omega) (by omega) zl
  have hiZ : (Tryd.prog.info? 46).map (·.size) = some 64 := by kernel_rfl
  have hall : (Value.int .i64 0 :: Value.int .i64 0 :: Value.int .i64 0 :: Value.int .i64 0 :: Value.int .i64 0 :: Value.int .i64 0 :: Value.int .i64 0 :: Value.int .i64 0 :: Value.int .i64 0 :: Value.int .i64 0 :: Value.int .i64 0 :: Value.int .i64 0 :: Value.int .i64 0 :: Value.int .i64 0 :: Value.int .i64 0 :: Value.int .i64 0 :: Value.int .i64 0 :: Value.int .i64 0 :: Value.int .i64 0 :: Value.int .i64 0 :: Value.int .i64 0 :: Value.int .i64 0 :: Value.int .i64 0 :: Value.int .i64 0 :: Value.int .i64 0 :: Value.int .i64 0 :: Value.int .i64 0 :: Value.int .i64 0 :: Value.int .i64 0 :: Value.int .i64 0 :: Value.int .i64 0 :: Value.int .i64 0 :: Value.int .i64 0 :: Value.int .i64 0 :: Value.int .i64 0 :: Value.int .i64 0 :: Value.int .i64 0 :: Value.int .i64 0 :: Value.int .i64 0 :: Value.int .i64 0 :: Value.int .i64 0 :: Value.int .i64 0 :: Value.int .i64 0 :: Value.int .i64 0 :: Value.int .i64 0 :: Value.int .i64 0 :: Value.int .i64 0 :: Value.int .i64 0 :: Value.int .i64 0 :: Value.int .i64 0 :: Value.int .i64 0 :: Value.int .i64 0 :: Value.int .i64 0 :: Value.int .i64 0 :: Value.int .i64 0 :: Value.int .i64 0 :: Value.int .i64 0 :: Value.int .i64 0 :: Value.int .i64 0 :: Value.int .i64 0 :: Value.int .i64 0 :: Value.int .i64 0 :: Value.int .i64 0 :: Value.int .i64 0 :: []).toArray.all (·.oneCell') = true := by rw [zl]; exact tab_all _ _ _
  have HZ : Hid _ := And.intro hiZ hall
  clear gI gR gO bK kk hiZ hall zl
  clear hF hr hv hlen h255
  go_enter Tryd.func46, Tryd.ntmps46
  go_wp2_with (refine wpList_store_mid rfl 46 (.tmp 13) (.tmp 15) rfl OB 0 (Value.int .i64 0 :: Value.int .i64 0 :: Value.int .i64 0 :: Value.int .i64 0 :: Value.int .i64 0 :: Value.int .i64 0 :: Value.int .i64 0 :: Value.int .i64 0 :: Value.int .i64 0 :: Value.int .i64 0 :: Value.int .i64 0 :: Value.int .i64 0 :: Value.int .i64 0 :: Value.int .i64 0 :: Value.int .i64 0 :: Value.int .i64 0 :: Value.int .i64 0 :: Value.int .i64 0 :: Value.int .i64 0 :: Value.int .i64 0 :: Value.int .i64 0 :: Value.int .i64 0 :: Value.int .i64 0 :: Value.int .i64 0 :: Value.int .i64 0 :: Value.int .i64 0 :: Value.int .i64 0 :: Value.int .i64 0 :: Value.int .i64 0 :: Value.int .i64 0 :: Value.int .i64 0 :: Value.int .i64 0 :: Value.int .i64 0 :: Value.int .i64 0 :: Value.int .i64 0 :: Value.int .i64 0 :: Value.int .i64 0 :: Value.int .i64 0 :: Value.int .i64 0 :: Value.int .i64 0 :: Value.int .i64 0 :: Value.int .i64 0 :: Value.int .i64 0 :: Value.int .i64 0 :: Value.int .i64 0 :: Value.int .i64 0 :: Value.int .i64 0 :: Value.int .i64 0 :: Value.int .i64 0 :: Value.int .i64 0 :: Value.int .i64 0 :: Value.int .i64 0 :: Value.int .i64 0 :: Value.int .i64 0 :: Value.int .i64 0 :: Value.int .i64 0 :: Value.int .i64 0 :: Value.int .i64 0 :: Value.int .i64 0 :: Value.int .i64 0 :: Value.int .i64 0 :: Value.int .i64 0 :: Value.int .i64 0 :: Value.int .i64 0 :: []).toArray rfl rfl ?_ HZ.out.1 HZ.out.2 ?_; exact HTH.out)
  obtain ⟨gO3, gI3, gR3, bK3⟩ := HG3.out
  clear HG3 HTH HZ
  revert gO3 gI3 gR3 bK3
  generalize (((w.alloc (.cells #[.int .i64 W, .int .i64 H, .bool r, .slice vo l.length vc] 26)).alloc (.cells (Value.int .i64 0 :: Value.int .i64 0 :: Value.int .i64 0 :: Value.int .i64 0 :: Value.int .i64 0 :: Value.int .i64 0 :: Value.int .i64 0 :: Value.int .i64 0 :: Value.int .i64 0 :: Value.int .i64 0 :: Value.int .i64 0 :: Value.int .i64 0 :: Value.int .i64 0 :: Value.int .i64 0 :: Value.int .i64 0 :: Value.int .i64 0 :: Value.int .i64 0 :: Value.int .i64 0 :: Value.int .i64 0 :: Value.int .i64 0 :: Value.int .i64 0 :: Value.int .i64 0 :: Value.int .i64 0 :: Value.int .i64 0 :: Value.int .i64 0 :: Value.int .i64 0 :: Value.int .i64 0 :: Value.int .i64 0 :: Value.int .i64 0 :: Value.int .i64 0 :: Value.int .i64 0 :: Value.int .i64 0 :: Value.int .i64 0 :: Value.int .i64 0 :: Value.int .i64 0 :: Value.int .i64 0 :: Value.int .i64 0 :: Value.int .i64 0 :: Value.int .i64 0 :: Value.int .i64 0 :: Value.int .i64 0 :: Value.int .i64 0 :: Value.int .i64 0 :: Value.int .i64 0 :: Value.int .i64 0 :: Value.int .i64 0 :: Value.int .i64 0 :: Value.int .i64 0 :: Value.int .i64 0 :: Value.int .i64 0 :: Value.int .i64 0 :: Value.int .i64 0 :: Value.int .i64 0 :: Value.int .i64 0 :: Value.int .i64 0 :: Value.int .i64 0 :: Value.int .i64 0 :: Value.int .i64 0 :: Value.int .i64 0 :: Value.int .i64 0 :: Value.int .i64 0 :: Value.int .i64 0 :: Value.int .i64 0 :: Value.int .i64 0 :: []).toArray 46)).alloc (.cells (Value.int .i64 0 :: Value.int .i64 0 :: Value.int .i64 0 :: Value.int .i64 0 :: Value.int .i64 0 :: Value.int .i64 0 :: Value.int .i64 0 :: Value.int .i64 0 :: Value.int .i64 0 :: Value.int .i64 0 :: Value.int .i64 0 :: Value.int .i64 0 :: Value.int .i64 0 :: Value.int .i64 0 :: Value.int .i64 0 :: Value.int .i64 0 :: Value.int .i64 0 :: Value.int .i64 0 :: Value.int .i64 0 :: Value.int .i64 0 :: Value.int .i64 0 :: Value.int .i64 0 :: Value.int .i64 0 :: Value.int .i64 0 :: Value.int .i64 0 :: Value.int .i64 0 :: Value.int .i64 0 :: Value.int .i64 0 :: Value.int .i64 0 :: Value.int .i64 0 :: Value.int .i64 0 :: Value.int .i64 0 :: Value.int .i64 0 :: Value.int .i64 0 :: Value.int .i64 0 :: Value.int .i64 0 :: Value.int .i64 0 :: Value.int .i64 0 :: Value.int .i64 0 :: Value.int .i64 0 :: Value.int .i64 0 :: Value.int .i64 0 :: Value.int .i64 0 :: Value.int .i64 0 :: Value.int .i64 0 :: Value.int .i64 0 :: Value.int .i64 0 :: Value.int .i64 0 :: Value.int .i64 0 :: Value.int .i64 0 :: Value.int .i64 0 :: Value.int .i64 0 :: Value.int .i64 0 :: Value.int .i64 0 :: Value.int .i64 0 :: Value.int .i64 0 :: Value.int .i64 0 :: Value.int .i64 0 :: Value.int .i64 0 :: Value.int .i64 0 :: Value.int .i64 0 :: Value.int .i64 0 :: Value.int .i64 0 :: Value.int .i64 0 :: []).toArray 46)).setCells OB 0 (Value.int .i64 0 :: Value.int .i64 0 :: Value.int .i64 0 :: Value.int .i64 0 :: Value.int .i64 0 :: Value.int .i64 0 :: Value.int .i64 0 :: Value.int .i64 0 :: Value.int .i64 0 :: Value.int .i64 0 :: Value.int .i64 0 :: Value.int .i64 0 :: Value.int .i64 0 :: Value.int .i64 0 :: Value.int .i64 0 :: Value.int .i64 0 :: Value.int .i64 0 :: Value.int .i64 0 :: Value.int .i64 0 :: Value.int .i64 0 :: Value.int .i64 0 :: Value.int .i64 0 :: Value.int .i64 0 :: Value.int .i64 0 :: Value.int .i64 0 :: Value.int .i64 0 :: Value.int .i64 0 :: Value.int .i64 0 :: Value.int .i64 0 :: Value.int .i64 0 :: Value.int .i64 0 :: Value.int .i64 0 :: Value.int .i64 0 :: Value.int .i64 0 :: Value.int .i64 0 :: Value.int .i64 0 :: Value.int .i64 0 :: Value.int .i64 0 :: Value.int .i64 0 :: Value.int .i64 0 :: Value.int .i64 0 :: Value.int .i64 0 :: Value.int .i64 0 :: Value.int .i64 0 :: Value.int .i64 0 :: Value.int .i64 0 :: Value.int .i64 0 :: Value.int .i64 0 :: Value.int .i64 0 :: Value.int .i64 0 :: Value.int .i64 0 :: Value.int .i64 0 :: Value.int .i64 0 :: Value.int .i64 0 :: Value.int .i64 0 :: Value.int .i64 0 :: Value.int .i64 0 :: Value.int .i64 0 :: Value.int .i64 0 :: Value.int .i64 0 :: Value.int .i64 0 :: Value.int .i64 0 :: Value.int .i64 0 :: Value.int .i64 0 :: []) = W3
  intro gO3 gI3 gR3 bK3
  go_loopw [14] (fun i V => ∃ k : Nat, k ≤ 64 ∧ i = .int .i64 k ∧ But (fun x => x = OB) W3 V ∧ Cells V OB 46 (tab .i64 64 (fun j => if j < k then F j else 0))) (fun i _ => 64 - (intOf i).toNat)
  case atStart => exact ⟨0, Nat.zero_le _, rfl, But.refl _ _, by rw [tab_congr .i64 64 (fun j => if j < 0 then F j else 0) (fun _ => 0) (fun j _ => if_neg (Nat.not_lt_zero j))]; exact gO3⟩
  case round =>
    obtain ⟨k, hk, rfl, hbV, hO⟩ := hrel
    have gIr := gI3.but hbV (by omega)
    have gRr := gR3.but hbV (by omega)
    have bwV : But Nowhere w wr := bK3.step hbV (fun i hi e => by omega)
    by_cases hlt : k < 64
    · have i0 : (0 : Int) ≤ (k : Int) := by omega
      have i1 : (k : Int) < 64 := by omega
      have d0 := gIr.at 0
      have d1 := gIr.at 1
      have d2 := gIr.at 2
      have d3 := gIr.at 3
      simp only [List.getElem?_cons_zero, List.getElem?_cons_succ] at d0 d1 d2 d3
      have r2 : (k : Int).tmod 8 = (k : Int) % 8 := Int.tmod_eq_emod_of_nonneg (by omega)
      have r5 : (k : Int).tdiv 8 = (k : Int) / 8 := Int.tdiv_eq_ediv_of_nonneg (by omega)
      have R1 : Hid (wrap64 (8 * x) = 8 * x) := w64 _ (by omega)
      have R3 : Hid (wrap64 (8 * x + (k : Int) % 8) = 8 * x + (k : Int) % 8) := w64 _ (by omega)
      have R4 : Hid (wrap64 (8 * y) = 8 * y) := w64 _ (by omega)
      have R6 : Hid (IntKind.i64.wrap ((k : Int) / 8) = (k : Int) / 8) := by show IntKind.i64.wrap ((k : Int) / 8) = (k : Int) / 8; rw [wrap_i64_eq]; exact w64 _ (by omega)
      have R7 : Hid (wrap64 (8 * y + (k : Int) / 8) = 8 * y + (k : Int) / 8) := w64 _ (by omega)
      have r1 := R1.out
      have r3 := R3.out
      have r4 := R4.out
      have r6 := R6.out
      have r7 := R7.out
      go_wp2_with fail
      clear r1 r3 r4 r6 r7
      refine (HMN.out _ bwV k hlt).mono ?_
      rintro e w2 ⟨rfl, b2⟩
      have hO2 := hO.but b2 (not_nowhere _)
      have c9 := hO2.cell k hlt
      have f9 := hO2.frozen k
      have hO3 := hO2.set k (.int .i64 (F k))
      rw [tab_grow .i64 64 F (fun _ => 0) k] at hO3
      have HX : Hid _ := And.intro (But.setCell (S := fun x => x = OB) (p := ⟨OB, k, none⟩) (hbV.step b2 (fun _ _ f => f.elim)) (fun _ => rfl) (.int .i64 (F k))) hO3
      clear hO hO2 hO3 b2 d0 d1 d2 d3
      go_wp2_with fail
      go_roundw
      case rel => exact ⟨k + 1, by omega, by go_num, HX.out.1, HX.out.2⟩
      case measure => simp [intOf]; omega
    · obtain rfl : k = 64 := by omega
      rw [tab_full] at hO
      have hr1 : wr.rangeAt OB 0 (tab .i64 64 F) := by have := hO.range 0 64 (by omega); simpa using this
      have hth := gRr.there 0 (tab .i64 64 F).toArray.size (by rw [List.size_toArray, tab_length, tab_length]; omega)
      have gR9 : Cells (wr.setCells (w.heap.size + 1) 0 (tab .i64 64 F)) (w.heap.size + 1) 46 (tab .i64 64 F) := gRr.layAll F
      have b9 : But Nowhere w (wr.setCells (w.heap.size + 1) 0 (tab .i64 64 F)) := But.setCells _ bwV (fun q => by omega) 0
      have HX : Hid _ := And.intro gR9 b9
      clear gR9 b9 gRr gIr hO
      go_wp2_with (first | (refine wpList_load_mid rfl 46 (.tmp 13) rfl OB 0 rfl (tab .i64 64 F) _ ?_ hu rfl hiA ?_; exact hr1) | (refine wpList_store_mid rfl 46 (.tmp 12) (.tmp 37) rfl (w.heap.size + 1) 0 (tab .i64 64 F).toArray rfl rfl ?_ hiB (tab_all _ _ _) ?_; exact hth))
      exact bodyPost_ret (results_cells rfl HX.out.1 hu rfl hiC _ rfl) rfl ⟨rfl, HX.out.2⟩

end Go.Proofs.YtppbnmlgilgnnaaDoor

/- The document's blocks of an MCU are those of split. -/
namespace Go.Proofs.YtppbnmlgilgnnaaDoor
open Go.ChangeShapes Go.WideShapes Go.ChangeAt Go.RowKit

/-- A part's sides, and where its blocks stand. -/
structure PartAt (m : Int) (p A B C D : Nat) : Prop where
  a : A = 1 ∨ A = 2
  b : B = 1 ∨ B = 2
  c : C = 1 ∨ C = 2
  d : D = 1 ∨ D = 2
  ca : (nums (sidesC m))[p * 2]? = some (.int .i64 (A : Int))
  cb : (nums (sidesC m))[p * 2 + 1]? = some (.int .i64 (B : Int))
  c0 : (nums (sidesC m))[0]? = some (.int .i64 ((A * C : Nat) : Int))
  c1 : (nums (sidesC m))[1]? = some (.int .i64 ((B * D : Nat) : Int))
  sw : sideW m = ((8 * (A * C) : Nat) : Int)
  sh : sideH m = ((8 * (B * D) : Nat) : Int)
  n : A * B = cntP m (p + 1) - cntP m p
  le : cntP m p ≤ cntP m (p + 1)
  ul : cntP m (p + 1) ≤ (unitL m).length
  u : ∀ n : Nat, n < cntP m (p + 1) - cntP m p → (unitL m)[cntP m p + n]? = some ⟨0, cntP m p + n, p, partsN m, (n : Int) % (A : Int) * 8 * C, (n : Int) / (A : Int) * 8 * D, C, D⟩

theorem part_at (m : Int) (hm : 1 ≤ m ∧ m ≤ 4) (p : Nat) (hp : p < partsN m) : ∃ A B C D, PartAt m p A B C D := by
  rcases mode_cases hm with rfl | rfl | rfl | rfl
  · have : p = 0 := by simp [partsN] at hp; omega
    subst this
    refine ⟨1, 1, 1, 1, by omega, by omega, by omega, by omega, rfl, rfl, rfl, rfl, rfl, rfl, rfl, by decide, by decide, fun n hn => ?_⟩
    have : n = 0 := by simp [cntP] at hn; omega
    subst this; rfl
  · have : p = 0 ∨ p = 1 ∨ p = 2 := by simp [partsN] at hp; omega
    rcases this with rfl | rfl | rfl <;>
    · refine ⟨1, 1, 1, 1, by omega, by omega, by omega, by omega, rfl, rfl, rfl, rfl, rfl, rfl, rfl, by decide, by decide, fun n hn => ?_⟩
      have : n = 0 := by simp [cntP] at hn; omega
      subst this; rfl
  · have : p = 0 ∨ p = 1 ∨ p = 2 := by simp [partsN] at hp; omega
    rcases this with rfl | h
    · refine ⟨2, 1, 1, 1, by omega, by omega, by omega, by omega, rfl, rfl, rfl, rfl, rfl, rfl, rfl, by decide, by decide, fun n hn => ?_⟩
      have : n = 0 ∨ n = 1 := by simp [cntP] at hn; omega
      rcases this with rfl | rfl <;> rfl
    · rcases h with rfl | rfl <;>
      · refine ⟨1, 1, 2, 1, by omega, by omega, by omega, by omega, rfl, rfl, rfl, rfl, rfl, rfl, rfl, by decide, by decide, fun n hn => ?_⟩
        have : n = 0 := by simp [cntP] at hn; omega
        subst this; rfl
  · have : p = 0 ∨ p = 1 ∨ p = 2 := by simp [partsN] at hp; omega
    rcases this with rfl | h
    · refine ⟨2, 2, 1, 1, by omega, by omega, by omega, by omega, rfl, rfl, rfl, rfl, rfl, rfl, rfl, by decide, by decide, fun n hn => ?_⟩
      have : n = 0 ∨ n = 1 ∨ n = 2 ∨ n = 3 := by simp [cntP] at hn; omega
      rcases this with rfl | rfl | rfl | rfl <;> rfl
    · rcases h with rfl | rfl <;>
      · refine ⟨1, 1, 2, 2, by omega, by omega, by omega, by omega, rfl, rfl, rfl, rfl, rfl, rfl, rfl, by decide, by decide, fun n hn => ?_⟩
        have : n = 0 := by simp [cntP] at hn; omega
        subst this; rfl

theorem lin_eq (z q t : Int) (A C : Nat) (hA : A = 1 ∨ A = 2) (hC : C = 1 ∨ C = 2) : q * 8 * C + z * ((8 * (A * C) : Nat) : Int) + t * C = (8 * (z * A + q) + t) * C := by
  rcases hA with rfl | rfl <;> rcases hC with rfl | rfl <;> (simp; omega)

/-- Number k of block n of part p. -/
theorem block_split {W H m : Int} (l : List Int) {p A B C D : Nat} (P : PartAt m p A B C D) (i n k : Nat) (hn : n < cntP m (p + 1) - cntP m p) (hk : k < 64) :
    blockF W H m l p ((i : Int) % gridW W H m * A + (n : Int) % A) ((i : Int) / gridW W H m * B + (n : Int) / A) C D k = splitF W H m l i ((cntP m p + n) * 64 + k) := by
  unfold splitF
  rw [show ((cntP m p + n) * 64 + k) / 64 = cntP m p + n by omega, show ((cntP m p + n) * 64 + k) % 64 = k by omega]
  have hu : (unitL m).getD (cntP m p + n) ⟨0, 0, 0, 1, 0, 0, 1, 1⟩ = ⟨0, cntP m p + n, p, partsN m, (n : Int) % (A : Int) * 8 * C, (n : Int) / (A : Int) * 8 * D, C, D⟩ := by
    rw [List.getD_eq_getElem?_getD, P.u n hn]; rfl
  unfold spotAt
  simp only [hu]
  unfold blockF meanF sampleF
  have eC : (((C * D : Nat) : Int)) = (C : Int) * (D : Int) := by simp
  have eN : ((C : Int) * (D : Int)).toNat = C * D := by rw [← eC]; exact Int.toNat_natCast _
  simp only [eN]
  rw [eC]
  have eX := lin_eq ((i : Int) % gridW W H m) ((n : Int) % (A : Int)) ((k : Int) % 8) A C P.a P.c
  have eY := lin_eq ((i : Int) / gridW W H m) ((n : Int) / (A : Int)) ((k : Int) / 8) B D P.b P.d
  rw [P.sw, P.sh, eX, eY]
  rfl

theorem grid_cell {W H m : Int} (f : Fit W H m) (i : Nat) (hi : i < (gridW W H m * gridH W H m).toNat) : (0 ≤ (i : Int) % gridW W H m ∧ (i : Int) % gridW W H m * sideW m < W) ∧ (0 ≤ (i : Int) / gridW W H m ∧ (i : Int) / gridW W H m * sideH m < H) := by
  obtain ⟨g1, g2, g3, g4, g5, g6⟩ := f.grid
  have s := side_fit f.m
  have a := ceil_in W (sideW m) f.w.1 f.w.2 s.1 s.2.1
  have b := ceil_in H (sideH m) f.h.1 f.h.2 s.2.2.1 s.2.2.2
  rw [← g1] at a
  rw [← g2] at b
  obtain ⟨-, -, -, -, a5⟩ := a
  obtain ⟨-, -, -, -, b5⟩ := b
  generalize gridW W H m = A at *
  generalize gridH W H m = B at *
  have hi2 : (i : Int) < A * B := by omega
  have x0 := Int.emod_nonneg (i : Int) (show A ≠ 0 by omega)
  have x1 := Int.emod_lt_of_pos (i : Int) (show 0 < A by omega)
  have y0 := Int.ediv_nonneg (show 0 ≤ (i : Int) by omega) (show 0 ≤ A by omega)
  have y1 : (i : Int) / A < B := Int.ediv_lt_of_lt_mul (by omega) (by rw [Int.mul_comm]; exact hi2)
  have mx : (i : Int) % A * sideW m ≤ (A - 1) * sideW m := Int.mul_le_mul_of_nonneg_right (by omega) (by omega)
  have my : (i : Int) / A * sideH m ≤ (B - 1) * sideH m := Int.mul_le_mul_of_nonneg_right (by omega) (by omega)
  exact ⟨⟨x0, by omega⟩, ⟨y0, by omega⟩⟩

theorem far_in (z q W : Int) (A C : Nat) (hA : A = 1 ∨ A = 2) (hC : C = 1 ∨ C = 2) (h0 : 0 ≤ z) (h1 : z * ((8 * (A * C) : Nat) : Int) < W) (hW : W ≤ 65535) (hq : 0 ≤ q ∧ q < A) : (0 ≤ z * A + q ∧ z * A + q ≤ 9000) ∧ (8 * (z * A + q) + 7) * C ≤ 68000 := by
  rcases hA with rfl | rfl <;> rcases hC with rfl | rfl <;> (simp at h1 hq ⊢; omega)

/-- What block answers for part p's n-th block of MCU i. -/
theorem mcu_block {W H m : Int} (f : Fit W H m) (r : Bool) (hr : r = (m != 1)) (v : Value) (l : List Int) (i : Nat) (hi : i < (gridW W H m * gridH W H m).toNat) (w : World) (hv : View w .u8 v l) (hlen : (l.length : Int) = W * H * partsN m) (h255 : ∀ x ∈ l, 0 ≤ x ∧ x ≤ 255)
    (p : Nat) (hp : p < partsN m) {A B C D : Nat} (P : PartAt m p A B C D) (n : Nat) (hn : n < cntP m (p + 1) - cntP m p) (V : World) (hb : But Nowhere w V) :
    Calls Tryd.prog 46 #[imV W H r v, .int .i64 (p : Int), .int .i64 ((i : Int) % gridW W H m * A + (n : Int) % A), .int .i64 ((i : Int) / gridW W H m * B + (n : Int) / A), .int .i64 (C : Int), .int .i64 (D : Int)] V fun e w' =>
      e = .returned (.agg (tab .i64 64 (fun k => splitF W H m l i ((cntP m p + n) * 64 + k))).toArray) ∧ But Nowhere V w' := by
  obtain ⟨⟨x0, x1⟩, ⟨y0, y1⟩⟩ := grid_cell f i hi
  rw [P.sw] at x1
  rw [P.sh] at y1
  have hA := P.a
  have hnB : n < A * B := by rw [P.n]; exact hn
  have hq : 0 ≤ (n : Int) % (A : Int) ∧ (n : Int) % (A : Int) < A := ⟨Int.emod_nonneg _ (by omega), Int.emod_lt_of_pos _ (by omega)⟩
  have hq2 : 0 ≤ (n : Int) / (A : Int) ∧ (n : Int) / (A : Int) < B := ⟨Int.ediv_nonneg (by omega) (by omega), Int.ediv_lt_of_lt_mul (by omega) (by rw [Int.mul_comm]; exact_mod_cast hnB)⟩
  have fx := far_in _ _ W A C P.a P.c x0 x1 f.w.2 hq
  have fy := far_in _ _ H B D P.b P.d y0 y1 f.h.2 hq2
  have := refBlock_any W H m f r hr v l p hp _ _ fx.1 fy.1 C D fx.2 fy.2 P.c P.d V (hv.but hb) hlen h255
  rw [tab_congr .i64 64 _ _ (fun k hk => block_split (W := W) (H := H) l P i n k hn hk)] at this
  exact this

end Go.Proofs.YtppbnmlgilgnnaaDoor

/- A list literal of one element, of any size. No program. -/
namespace Go.Proofs.YtppbnmlgilgnnaaDoor
open Go.ChangeShapes Go.WideShapes Go.ChangeAt Go.RowKit

theorem fill_one {s : Nat} (hs : 0 < s) (v : Value) (news : List Value) (hv : v.cells = news.toArray) (hl : news.length = s) (cells : Array Value) (hc : cells.size = s) :
    Instr.fill (fun i => some (i * s, s)) cells [(0, v)] = some news.toArray := by
  obtain ⟨r, hr, hsz, hk⟩ := Great.fill_dense hs [v] 0 cells (by simp [hv, hl]) (by simp [hc])
  have e : ([v].zipIdx 0).map (fun x => (x.2, x.1)) = [(0, v)] := rfl
  rw [e] at hr
  rw [hr]
  congr 1
  apply Array.ext_getElem?
  intro k
  rw [hk k]
  simp only [List.length_singleton, Nat.zero_mul, Nat.zero_add, Nat.one_mul]
  by_cases h : k < s
  · rw [if_pos ⟨Nat.zero_le _, h⟩, Nat.div_eq_of_lt h, Nat.mod_eq_of_lt h]
    simp [hv]
  · rw [if_neg (by omega), Array.getElem?_eq_none (by omega), List.getElem?_toArray, List.getElem?_eq_none (by omega)]

/-- The literal of one element, in a region that draws. -/
theorem wp_build_one {P : Program} {st t : TypeId} {z : Value} {size bytes : Nat} (E : ElemInfo P st t z size bytes) {w : World} {o : Oper} {a : Act} {K : Act → World → Prop} {Q : Exit → Act → World → Prop} (x : Operand)
    (ho : o.op = .buildSlice st 1 #[(0, x)]) (v : Value) (hx : a.eval x = v) (news : List Value) (hv : v.cells = news.toArray) (hl : news.length = size) (hsm : size ≤ 100000) (B : Nat) (hB : w.heap.size = B)
    (h : K (a.put o.dst (.slice (some ⟨B, 0, none⟩) 1 1)) (w.alloc (.cells news.toArray t))) : o.wp P a w K Q := by
  subst hB
  obtain ⟨i0, hi0, hz0, hz1, hz2⟩ := info_parts E.info
  have hp := E.pos
  refine wp_buildSlice st t 1 #[(0, x)] ho news.toArray i0 z E.under hi0 hz0 (by rw [hz1]; omega) (by rw [hz1]; omega) ?_ h
  rw [hz1]
  simp only [List.map_toArray, List.map_cons, List.map_nil, hx]
  exact fill_one hp v news hv hl _ (by simp)

end Go.Proofs.YtppbnmlgilgnnaaDoor

/- An image that goes on beyond its ends as its last pixels: its SAMPLES are the same. -/
namespace Go.Proofs.YtppbnmlgilgnnaaDoor
open Go.ChangeShapes Go.WideShapes Go.ChangeAt Go.RowKit

/-- The pixel within, of pixel r of an image that is W' wide. -/
def edgeAt (W H W' : Nat) (r : Nat) : Nat := min (r / W') (H - 1) * W + min (r % W') (W - 1)

/-- The words of the greater image. -/
def edgeF (W H W' P : Nat) (l : List Int) (j : Nat) : Int := gn l (edgeAt W H W' (j / P) * P + j % P)

theorem edgeAt_lt (W H W' r : Nat) (h1 : 1 ≤ W) (h2 : 1 ≤ H) : edgeAt W H W' r < W * H := by
  unfold edgeAt
  have a : min (r / W') (H - 1) * W ≤ (H - 1) * W := Nat.mul_le_mul_right W (by omega)
  have b : (H - 1) * W + W = W * H := by
    rw [Nat.mul_comm W H, ← Nat.succ_mul]
    congr 1
    omega
  omega

theorem parts_same (m : Int) (l l' : List Int) (q q' part : Nat) (hp : part < partsN m) (h : (q + 1) * partsN m ≤ l.length) (h' : (q' + 1) * partsN m ≤ l'.length)
    (hs : ∀ c, c < partsN m → gn l' (q' * partsN m + c) = gn l (q * partsN m + c)) : gat (partsL m l') ((q' * partsN m + part : Nat) : Int) = gat (partsL m l) ((q * partsN m + part : Nat) : Int) := by
  unfold gat
  rw [Int.toNat_natCast, Int.toNat_natCast]
  by_cases h1 : m = 1
  · have e : ∀ l, partsL m l = l := fun l => by unfold partsL; rw [if_pos h1]
    rw [e, e]
    exact hs part hp
  · have e : ∀ l, partsL m l = (List.range l.length).map (turnA luma1 luma2 luma3 l) := fun l => by unfold partsL; rw [if_neg h1]
    have h3 : partsN m = 3 := by unfold partsN; rw [if_neg h1]
    rw [h3] at hp h h' hs ⊢
    rw [e, e, List.getD_eq_getElem?_getD, List.getElem?_map, List.getElem?_range (by omega), Option.map_some, Option.getD_some, List.getD_eq_getElem?_getD, List.getElem?_map, List.getElem?_range (by omega), Option.map_some, Option.getD_some]
    unfold turnA
    have z0 : (q * 3 + part) / 3 * 3 = q * 3 := by omega
    have z1 : (q * 3 + part) % 3 = part := by omega
    have y0 : (q' * 3 + part) / 3 * 3 = q' * 3 := by omega
    have y1 : (q' * 3 + part) % 3 = part := by omega
    rw [z0, z1, y0, y1]
    have a0 := hs 0 (by omega)
    have a1 := hs 1 (by omega)
    have a2 := hs 2 (by omega)
    rw [Nat.add_zero, Nat.add_zero] at a0
    rw [a0, a1, a2]

theorem edgeF_in (W H W' P : Nat) (l : List Int) (h : ∀ x ∈ l, 0 ≤ x ∧ x ≤ 255) (j : Nat) : 0 ≤ edgeF W H W' P l j ∧ edgeF W H W' P l j ≤ 255 := by
  unfold edgeF gn
  rw [List.getD_eq_getElem?_getD]
  cases e : l[edgeAt W H W' (j / P) * P + j % P]? with
  | none => simp
  | some x => exact h x (List.mem_of_getElem? e)

/-- Both sides of the greater image are whole MCUs, and its grid is the same. -/
theorem grid_edge {W H m : Int} (f : Fit W H m) (hW : W ≤ 40) (hH : H ≤ 24) :
    Fit (gridW W H m * sideW m) (gridH W H m * sideH m) m ∧ gridW (gridW W H m * sideW m) (gridH W H m * sideH m) m = gridW W H m ∧ gridH (gridW W H m * sideW m) (gridH W H m * sideH m) m = gridH W H m ∧
      W ≤ gridW W H m * sideW m ∧ gridW W H m * sideW m ≤ 56 ∧ H ≤ gridH W H m * sideH m ∧ gridH W H m * sideH m ≤ 40 := by
  have sd := side_fit f.m
  have a := ceil_in W (sideW m) f.w.1 f.w.2 sd.1 sd.2.1
  have b := ceil_in H (sideH m) f.h.1 f.h.2 sd.2.2.1 sd.2.2.2
  obtain ⟨e1, e2, g1, g2, g3, g4⟩ := f.grid
  rw [← e1] at a
  rw [← e2] at b
  obtain ⟨-, -, -, a1, a2⟩ := a
  obtain ⟨-, -, -, b1, b2⟩ := b
  have hw := f.w
  have hh := f.h
  obtain ⟨A, hA⟩ : ∃ A, gridW W H m = A := ⟨_, rfl⟩
  obtain ⟨B, hB⟩ : ∃ B, gridH W H m = B := ⟨_, rfl⟩
  obtain ⟨X, hX⟩ : ∃ X, sideW m = X := ⟨_, rfl⟩
  obtain ⟨Y, hY⟩ : ∃ Y, sideH m = Y := ⟨_, rfl⟩
  rw [hA, hX] at a1 a2
  rw [hB, hY] at b1 b2
  rw [hA] at g1 g2
  rw [hB] at g3 g4
  rw [hX, hY] at sd
  rw [hA, hB, hX, hY]
  rw [Int.sub_mul, Int.one_mul] at a2 b2
  obtain ⟨U, hU⟩ : ∃ U, A * X = U := ⟨_, rfl⟩
  obtain ⟨V, hV⟩ : ∃ V, B * Y = V := ⟨_, rfl⟩
  rw [hU] at a1 a2
  rw [hV] at b1 b2
  have hUV : U * V ≤ 56 * 40 := Int.mul_le_mul (by omega) (by omega) (by omega) (by omega)
  have f' : Fit U V m := ⟨f.m, by omega, by omega, by omega⟩
  rw [hU, hV]
  refine ⟨f', ?_, ?_, by omega, by omega, by omega, by omega⟩
  · rw [f'.grid.1, hX, (ceil_in U X (by omega) (by omega) (by omega) (by omega)).1, ← hU, show A * X + X - 1 = (X - 1) + A * X by omega, Int.add_mul_ediv_right _ _ (by omega), Int.ediv_eq_zero_of_lt (by omega) (by omega)]
    omega
  · rw [f'.grid.2.1, hY, (ceil_in V Y (by omega) (by omega) (by omega) (by omega)).1, ← hV, show B * Y + Y - 1 = (Y - 1) + B * Y by omega, Int.add_mul_ediv_right _ _ (by omega), Int.ediv_eq_zero_of_lt (by omega) (by omega)]
    omega

theorem sample_same (W H W' H' : Int) (pl pl' : List Int) (s : Spot) (k : Int) (h : ∀ n, gat pl' (idxF W' H' s (s.x + k % 8 * s.wide) (s.y + k / 8 * s.high) n) = gat pl (idxF W H s (s.x + k % 8 * s.wide) (s.y + k / 8 * s.high) n)) : sampleF W' H' pl' s k = sampleF W H pl s k := by
  unfold sampleF
  rw [funext h]

theorem split_edge {W H W' H' m : Int} (f : Fit W H m) (f' : Fit W' H' m) (e1 : gridW W' H' m = gridW W H m) (e2 : gridH W' H' m = gridH W H m) (hW : W ≤ W') (hH : H ≤ H') (l l' : List Int) (hl : (l.length : Int) = W * H * partsN m) (hl' : (l'.length : Int) = W' * H' * partsN m)
    (hf : ∀ j, j < l'.length → gn l' j = edgeF W.toNat H.toNat W'.toNat (partsN m) l j) (i j : Nat) (hi : i < (gridW W H m * gridH W H m).toNat) (hj : j < (unitL m).length * 64) :
    splitF W' H' m l' i j = splitF W H m l i j := by
  obtain ⟨pa, x, y, wi, hh, hsp, hok, hpa⟩ := spot_form f i (j / 64) hi (by omega)
  unfold splitF
  rw [e1, hsp]
  refine sample_same _ _ _ _ _ _ _ _ (fun n => ?_)
  have hok' := hok
  obtain ⟨s1, s2, s3, s4, s5, s6, s7, s8, s9, s10, s11, s12⟩ := hok'
  dsimp only at s1 s2 s3 s4 s5 s6 s7 s8 s9 s10 s11 s12 ⊢
  obtain ⟨k, hk⟩ : ∃ k : Nat, j % 64 = k := ⟨_, rfl⟩
  rw [hk]
  have m0 : 0 ≤ (k : Int) % 8 * wi := Int.mul_nonneg (by omega) (by omega)
  have m2 : 0 ≤ (k : Int) / 8 * hh := Int.mul_nonneg (by omega) (by omega)
  have h1 := f.w
  have h2 := f.h
  have h3 := f'.w
  have h4 := f'.h
  unfold idxF
  dsimp only
  obtain ⟨X, hX⟩ : ∃ X, x + (k : Int) % 8 * wi + (n : Int) % wi = X := ⟨_, rfl⟩
  obtain ⟨Y, hY⟩ : ∃ Y, y + (k : Int) / 8 * hh + (n : Int) / wi = Y := ⟨_, rfl⟩
  have X0 : 0 ≤ X := by have : 0 ≤ (n : Int) % wi := Int.emod_nonneg _ (by omega); omega
  have Y0 : 0 ≤ Y := by have : 0 ≤ (n : Int) / wi := Int.ediv_nonneg (by omega) (by omega); omega
  rw [hX, hY]
  obtain ⟨Xn, rfl⟩ : ∃ Xn : Nat, X = Xn := ⟨X.toNat, by omega⟩
  obtain ⟨Yn, rfl⟩ : ∃ Yn : Nat, Y = Yn := ⟨Y.toNat, by omega⟩
  obtain ⟨Wn, rfl⟩ : ∃ Wn : Nat, W = Wn := ⟨W.toNat, by omega⟩
  obtain ⟨Hn, rfl⟩ : ∃ Hn : Nat, H = Hn := ⟨H.toNat, by omega⟩
  obtain ⟨Un, rfl⟩ : ∃ Un : Nat, W' = Un := ⟨W'.toNat, by omega⟩
  obtain ⟨Vn, rfl⟩ : ∃ Vn : Nat, H' = Vn := ⟨H'.toNat, by omega⟩
  obtain ⟨pn, rfl⟩ : ∃ pn : Nat, pa = pn := ⟨pa.toNat, by omega⟩
  simp only [Int.toNat_natCast] at hf
  have c1 : min (Yn : Int) ((Vn : Int) - 1) = ((min Yn (Vn - 1) : Nat) : Int) := by omega
  have c2 : min (Xn : Int) ((Un : Int) - 1) = ((min Xn (Un - 1) : Nat) : Int) := by omega
  have c3 : min (Yn : Int) ((Hn : Int) - 1) = ((min Yn (Hn - 1) : Nat) : Int) := by omega
  have c4 : min (Xn : Int) ((Wn : Int) - 1) = ((min Xn (Wn - 1) : Nat) : Int) := by omega
  rw [c1, c2, c3, c4]
  have d1 : (((min Yn (Vn - 1) : Nat) : Int) * (Un : Int) + ((min Xn (Un - 1) : Nat) : Int)) * ((partsN m : Nat) : Int) + (pn : Int) = (((min Yn (Vn - 1) * Un + min Xn (Un - 1)) * partsN m + pn : Nat) : Int) := by simp
  have d2 : (((min Yn (Hn - 1) : Nat) : Int) * (Wn : Int) + ((min Xn (Wn - 1) : Nat) : Int)) * ((partsN m : Nat) : Int) + (pn : Int) = (((min Yn (Hn - 1) * Wn + min Xn (Wn - 1)) * partsN m + pn : Nat) : Int) := by simp
  rw [d1, d2]
  have hUp : 0 < Un := by omega
  have q1 : (min Yn (Vn - 1) * Un + min Xn (Un - 1)) / Un = min Yn (Vn - 1) := by
    rw [Nat.add_comm, Nat.add_mul_div_right _ _ hUp, Nat.div_eq_of_lt (by omega)]; omega
  have q2 : (min Yn (Vn - 1) * Un + min Xn (Un - 1)) % Un = min Xn (Un - 1) := by
    rw [Nat.add_comm, Nat.add_mul_mod_self_right, Nat.mod_eq_of_lt (by omega)]
  have q3 : edgeAt Wn Hn Un (min Yn (Vn - 1) * Un + min Xn (Un - 1)) = min Yn (Hn - 1) * Wn + min Xn (Wn - 1) := by
    unfold edgeAt
    have t1 : min (min Yn (Vn - 1)) (Hn - 1) = min Yn (Hn - 1) := by omega
    have t2 : min (min Xn (Un - 1)) (Wn - 1) = min Xn (Wn - 1) := by omega
    rw [q1, q2, t1, t2]
  have in1 : min Yn (Vn - 1) * Un + min Xn (Un - 1) + 1 ≤ Un * Vn := by
    have := edgeAt_lt Un Vn Un (min Yn (Vn - 1) * Un + min Xn (Un - 1)) (by omega) (by omega)
    unfold edgeAt at this
    have t1 : min (min Yn (Vn - 1)) (Vn - 1) = min Yn (Vn - 1) := by omega
    have t2 : min (min Xn (Un - 1)) (Un - 1) = min Xn (Un - 1) := by omega
    rw [q1, q2, t1, t2] at this
    omega
  have in2 : min Yn (Hn - 1) * Wn + min Xn (Wn - 1) + 1 ≤ Wn * Hn := by
    rw [← q3]
    exact edgeAt_lt _ _ _ _ (by omega) (by omega)
  have L1 : l.length = Wn * Hn * partsN m := by
    have : ((Wn * Hn * partsN m : Nat) : Int) = (Wn : Int) * (Hn : Int) * ((partsN m : Nat) : Int) := by simp
    omega
  have L2 : l'.length = Un * Vn * partsN m := by
    have : ((Un * Vn * partsN m : Nat) : Int) = (Un : Int) * (Vn : Int) * ((partsN m : Nat) : Int) := by simp
    omega
  have hP : 0 < partsN m := by unfold partsN; split <;> omega
  revert q3 in1 in2
  generalize min Yn (Vn - 1) * Un + min Xn (Un - 1) = q'
  generalize min Yn (Hn - 1) * Wn + min Xn (Wn - 1) = q
  intro q3 in1 in2
  have in3 : (q' + 1) * partsN m ≤ l'.length := by rw [L2]; exact Nat.mul_le_mul_right _ in1
  refine parts_same m l l' q q' pn (by omega) (by rw [L1]; exact Nat.mul_le_mul_right _ in2) in3 (fun c hc => ?_)
  rw [Nat.add_mul] at in3
  rw [hf _ (by omega)]
  unfold edgeF
  rw [Nat.add_comm (q' * partsN m) c, Nat.add_mul_div_right _ _ hP, Nat.div_eq_of_lt hc, Nat.zero_add, q3, Nat.add_mul_mod_self_right, Nat.mod_eq_of_lt hc]

set_option maxHeartbeats 400000 in
/-- Many elements more, out of another list. -/
theorem Lst.more {P : Program} {w w1 : World} {st t : TypeId} {z : Value} {size bytes : Nat} (E : ElemInfo P st t z size bytes) {s : Value} {n : Nat} {xs : List Value} (h : Lst w w1 t size s n xs) (ad : Addr) (m c : Nat) (news : List Value) (hl : news.length = m * size) (hnews : ∀ j u, news[j]? = some u → w1.cell? (ad.add j) = some u) (h1 : ∀ u ∈ news, u.oneCell' = true) (hm : 0 < m) (hn : n + m ≤ 100000000) (hb : bytes ≤ 10000) :
    ∃ g cap w2, (Builtin.append_ #[st, st] st #[s, .slice (some ad) m c]).run P w1 = .ok (.slice (some ⟨g, 0, none⟩) (n + m) cap) w2 ∧ Lst w w2 t size (.slice (some ⟨g, 0, none⟩) (n + m) cap) (n + m) (xs ++ news) ∧
      But (fun k => s.ownBlock = some k) w1 w2 ∧ (s.ownBlock = some g ∨ w1.heap.size ≤ g) := by
  obtain ⟨i0, hi0, hz0, hz1, hz2⟩ := info_parts E.info
  have hbytes : (n + m) * bytes ≤ 140737488355328 := Nat.le_trans (Nat.mul_le_mul hn hb) (by decide)
  obtain ⟨g, cap, w', hr, k2, k3, k4, k5⟩ := run_append_lies (P := P) w1 st st 0 t i0 z size bytes E.under hi0 hz0 hz1 hz2 E.cells E.pos s n xs h.own ad m c news hl hnews h1 hm (by unfold maxLen; omega) hbytes (by omega) _ rfl
  have hbut : But (fun k => s.ownBlock = some k) w1 w' := (But.refl _ _).grown k3 (fun k hk _ => hk)
  have hg : s.ownBlock = some g ∨ w1.heap.size ≤ g := k4.imp id (fun e => by omega)
  refine ⟨g, cap, w', hr, ⟨k2, fun x hx => ?_, h.but.step hbut (fun k hk f => by have := h.new k f; omega)⟩, hbut, hg⟩
  simp [Value.ownBlock] at hx
  subst hx
  rcases hg with e | e
  · exact h.new _ e
  · exact Nat.le_trans h.but.size e

/-- At an append whose run is known, in a region that draws. -/
theorem wp_append_run {P : Program} {w : World} {o : Oper} {a : Act} {K : Act → World → Prop} {Q : Exit → Act → World → Prop} (s x : Operand) (t : TypeId)
    (ho : o.op = .call { callee := .builtin .append, args := #[s, x], argTypes := #[t, t] }) (v u : Value) (hs : a.eval s = v) (hx : a.eval x = u) (v' : Value) (w' : World)
    (hr : (Builtin.append_ #[t, t] o.type #[v, u]).run P w = .ok v' w') (h : K (a.put o.dst v') w') : o.wp P a w K Q := by
  unfold Oper.wp execOp
  simp only [ho, resolve, invoke, builtin, Sem.run_bind, Sem.run_pure, Result.andThen_ok, List.map_toArray, List.map_cons, List.map_nil, hs, hx, hr]
  exact h

set_option maxRecDepth 100000 in
/-- Some bytes of a list. -/
theorem slice_mid8 (g n c l p : Nat) (hp : 0 < p) (h : l + p ≤ c) (w : World) : (Instr.slice 24 (.slice (some ⟨g, 0, none⟩) n c) (some (.int .i64 (l : Int))) (some (.int .i64 ((l + p : Nat) : Int))) none).run Tryd.prog w = .ok (.slice (some ⟨g, l, none⟩) p (c - l)) w := by
  have hi : (Tryd.prog.info? (Tryd.prog.elem 24)).map (·.size) = some 1 := by kernel_rfl
  rw [run_slice_lh w _ _ _ _ (by kernel_rfl) .i64 .i64 (l : Int) ((l + p : Nat) : Int) (by omega) (by omega) (by omega)]
  cases hq : Tryd.prog.info? (Tryd.prog.elem 24) with
  | none => simp [hq] at hi
  | some i =>
    have hs : i.size = 1 := by simpa [hq] using hi
    have h1 : ¬ c = l := by omega
    simp [sizeOf, typeInfo, hq, hs, sliced, h1, Addr.add]
    omega

theorem edge_news (Wn Hn Un P : Nat) (li : List Int) (V : World) (gi k : Nat) (hP : 0 < P) (hc : ∀ j u, (ints .u8 li)[j]? = some u → V.cell? ⟨gi, j, none⟩ = some u) (hin : (edgeAt Wn Hn Un k + 1) * P ≤ li.length) :
    ∀ j u, ((List.range P).map (fun c => Value.int .u8 (edgeF Wn Hn Un P li (k * P + c))))[j]? = some u → V.cell? ⟨gi, edgeAt Wn Hn Un k * P + j, none⟩ = some u := by
  intro j u hj
  have hjP : j < P := by have := (List.getElem?_eq_some_iff.1 hj).1; simpa using this
  rw [List.getElem?_map, List.getElem?_range hjP, Option.map_some] at hj
  rw [Nat.add_mul, Nat.one_mul] at hin
  refine hc _ _ ?_
  rw [ints_at _ _ _ (by omega), ← hj, gn_at]
  unfold edgeF
  rw [Nat.add_comm (k * P) j, Nat.add_mul_div_right _ _ hP, Nat.div_eq_of_lt hjP, Nat.zero_add, Nat.add_mul_mod_self_right, Nat.mod_eq_of_lt hjP]

theorem edge_grow (e : Nat → Int) (k P : Nat) : ints .u8 ((List.range ((k + 1) * P)).map e) = ints .u8 ((List.range (k * P)).map e) ++ (List.range P).map (fun c => Value.int .u8 (e (k * P + c))) := by
  rw [Nat.add_mul, Nat.one_mul, List.range_add, List.map_append, ints_append]
  congr 1
  simp [ints]

set_option maxHeartbeats 800000 in
theorem edge_round {w w9 V : World} {NB gi c k P Wn Hn Un : Nat} {U U' : Int} {rb : Bool} {pv : Value} {li : List Int} (hP : 0 < P) (LL : Lst w V 5 1 pv (k * P) (ints .u8 ((List.range (k * P)).map (edgeF Wn Hn Un P li)))) (HM : Cells V NB 26 (imC U U' rb pv)) (hbN : But (fun x => x = NB) w9 V) (hnew : ∀ x, pv.ownBlock = some x → w9.heap.size ≤ x)
    (hNB : NB < w9.heap.size) (hwN : w.heap.size ≤ NB) (hc : ∀ j u, (ints .u8 li)[j]? = some u → V.cell? ⟨gi, j, none⟩ = some u) (hin : (edgeAt Wn Hn Un k + 1) * P ≤ li.length) (hk : (k + 1) * P ≤ 10000000) :
    ∃ g cap W4, (Builtin.append_ #[24, 24] 24 #[pv, .slice (some ⟨gi, edgeAt Wn Hn Un k * P, none⟩) P c]).run Tryd.prog V = .ok (.slice (some ⟨g, 0, none⟩) (k * P + P) cap) W4 ∧ W4.cell? ⟨NB, 3, none⟩ = some pv ∧ W4.frozen? ⟨NB, 3, none⟩ = false ∧
      Lst w (W4.setCell ⟨NB, 3, none⟩ (.slice (some ⟨g, 0, none⟩) (k * P + P) cap)) 5 1 (.slice (some ⟨g, 0, none⟩) (k * P + P) cap) ((k + 1) * P) (ints .u8 ((List.range ((k + 1) * P)).map (edgeF Wn Hn Un P li))) ∧
      Cells (W4.setCell ⟨NB, 3, none⟩ (.slice (some ⟨g, 0, none⟩) (k * P + P) cap)) NB 26 (imC U U' rb (.slice (some ⟨g, 0, none⟩) (k * P + P) cap)) ∧ But (fun x => x = NB) w9 (W4.setCell ⟨NB, 3, none⟩ (.slice (some ⟨g, 0, none⟩) (k * P + P) cap)) ∧
      (∀ x, (Value.slice (some ⟨g, 0, none⟩) (k * P + P) cap).ownBlock = some x → w9.heap.size ≤ x) ∧ ∀ (p : Addr) (u : Value), p.block < w9.heap.size → V.cell? p = some u → W4.cell? p = some u := by
  have hk' : k * P + P ≤ 10000000 := by rw [Nat.add_mul, Nat.one_mul] at hk; exact hk
  obtain ⟨g, cap, W4, hrun, L4, b4, hg4⟩ := Lst.more Tryd.elemByte LL ⟨gi, edgeAt Wn Hn Un k * P, none⟩ P c ((List.range P).map (fun c => Value.int .u8 (edgeF Wn Hn Un P li (k * P + c)))) (by simp) (fun j u hj => by rw [Addr.add_mid]; exact edge_news Wn Hn Un P li V gi k hP hc hin j u hj)
    (fun u hu => by simp only [List.mem_map] at hu; obtain ⟨a, _, rfl⟩ := hu; rfl) hP (by omega) (by omega)
  have hM4 := HM.but b4 (fun e => by have := hnew _ e; omega)
  have hgn : w9.heap.size ≤ g := by
    rcases hg4 with e | e
    · exact hnew g e
    · have := hbN.size; omega
  have hgM : g ≠ NB := by omega
  have c3 := hM4.at 3
  simp only [List.getElem?_cons_zero, List.getElem?_cons_succ] at c3
  refine ⟨g, cap, W4, hrun, c3, hM4.frozen 3, ?_, hM4.set 3 _, ?_, fun x hx => ?_, fun p u hp h => b4.keeps (fun e => by have := hnew _ e; omega) h⟩
  · have := L4.stepS (S := fun x => x = NB) (But.setCell (S := fun x => x = NB) (p := ⟨NB, 3, none⟩) (But.refl _ _) (fun _ => rfl) (.slice (some ⟨g, 0, none⟩) (k * P + P) cap)) (fun x hx' e => by simp [Value.ownBlock] at hx'; subst hx'; exact hgM e) (fun x e => by omega)
    rw [edge_grow]
    rw [show (k + 1) * P = k * P + P by rw [Nat.add_mul, Nat.one_mul]]
    exact this
  · exact (hbN.step b4 (fun x hx e => by have := hnew x e; omega)).setCell (p := ⟨NB, 3, none⟩) (fun _ => rfl) _
  · simp [Value.ownBlock] at hx
    omega

end Go.Proofs.YtppbnmlgilgnnaaDoor

/- The document's mcu. -/
namespace Go.Proofs.YtppbnmlgilgnnaaDoor
open Go.ChangeShapes Go.WideShapes Go.ChangeAt Go.RowKit

theorem tab_more (F : Nat → Int) (n : Nat) : tab .i64 (n * 64) F ++ tab .i64 64 (fun k => F (n * 64 + k)) = tab .i64 ((n + 1) * 64) F := by
  unfold tab
  rw [Nat.add_mul, Nat.one_mul, List.range_add, List.map_append, List.map_map]
  rfl

set_option maxHeartbeats 6400000 in
set_option maxRecDepth 100000 in
theorem refMcu_any (W H m : Int) (f : Fit W H m) (r : Bool) (hr : r = (m != 1)) (v : Value) (l : List Int) (i : Nat) (hi : i < (gridW W H m * gridH W H m).toNat) (g : Nat) (w : World) (hv : View w .u8 v l) (hlen : (l.length : Int) = W * H * partsN m) (h255 : ∀ x ∈ l, 0 ≤ x ∧ x ≤ 255) (hs : Cells w g 51 (nums (sidesC m))) :
    Calls Tryd.prog 25 #[imV W H r v, .slice (some ⟨g, 0, none⟩) (partsN m) (partsN m), .int .i64 ((i : Int) % gridW W H m), .int .i64 ((i : Int) / gridW W H m)] w fun e w' => ∃ v', e = .returned v' ∧ Lst w w' 46 64 v' (unitL m).length (tab .i64 ((unitL m).length * 64) (splitF W H m l i)) := by
  have HPA : Hid (∀ p, p < partsN m → ∃ A B C D, PartAt m p A B C D) := part_at m f.m
  have HMB : Hid (∀ V, But Nowhere w V → ∀ p, p < partsN m → ∀ A B C D, PartAt m p A B C D → ∀ n, n < cntP m (p + 1) - cntP m p → Calls Tryd.prog 46 #[imV W H r v, .int .i64 (p : Int), .int .i64 ((i : Int) % gridW W H m * A + (n : Int) % A), .int .i64 ((i : Int) / gridW W H m * B + (n : Int) / A), .int .i64 (C : Int), .int .i64 (D : Int)] V fun e w' =>
      e = .returned (.agg (tab .i64 64 (fun k => splitF W H m l i ((cntP m p + n) * 64 + k))).toArray) ∧ But Nowhere V w') := fun V hb p hp A B C D P n hn => mcu_block f r hr v l i hi w hv hlen h255 p hp P n hn V hb
  have HFI : Hid (∀ p A B C D n, PartAt m p A B C D → n < cntP m (p + 1) - cntP m p → (0 ≤ (i : Int) % gridW W H m * A + (n : Int) % A ∧ (i : Int) % gridW W H m * A + (n : Int) % A ≤ 9000) ∧ (0 ≤ (i : Int) / gridW W H m * B + (n : Int) / A ∧ (i : Int) / gridW W H m * B + (n : Int) / A ≤ 9000)) := fun p A B C D n P hn => by
    obtain ⟨⟨x0, x1⟩, ⟨y0, y1⟩⟩ := grid_cell f i hi
    rw [P.sw] at x1
    rw [P.sh] at y1
    have hA := P.a
    have hnB : n < A * B := by rw [P.n]; exact hn
    exact ⟨(far_in _ _ W A C P.a P.c x0 x1 f.w.2 ⟨Int.emod_nonneg _ (by omega), Int.emod_lt_of_pos _ (by omega)⟩).1, (far_in _ _ H B D P.b P.d y0 y1 f.h.2 ⟨Int.ediv_nonneg (by omega) (by omega), Int.ediv_lt_of_lt_mul (by omega) (by rw [Int.mul_comm]; exact_mod_cast hnB)⟩).1⟩
  obtain ⟨vo, vc, rfl⟩ := hv.slice
  have gc := grid_cell f i hi
  obtain ⟨x0, hx0⟩ : ∃ x0, (i : Int) % gridW W H m = x0 := ⟨_, rfl⟩
  obtain ⟨y0, hy0⟩ : ∃ y0, (i : Int) / gridW W H m = y0 := ⟨_, rfl⟩
  have hx0p : 0 ≤ x0 := by rw [← hx0]; exact gc.1.1
  have hy0p : 0 ≤ y0 := by rw [← hy0]; exact gc.2.1
  rw [hx0, hy0] at HMB HFI ⊢
  obtain ⟨FF, hFF⟩ : ∃ FF, splitF W H m l i = FF := ⟨_, rfl⟩
  rw [hFF] at HMB ⊢
  have hE := cntP_end m f.m
  have hul := (unit_pos m).2
  obtain ⟨N, hN, hN3⟩ : ∃ N, partsN m = N ∧ N ≤ 3 := ⟨_, rfl, by unfold partsN; split <;> omega⟩
  rw [hN] at HPA HMB hE ⊢
  have HE : Hid (cntP m N = (unitL m).length) := hE
  obtain ⟨M, hM⟩ : ∃ M, (unitL m).length = M := ⟨_, rfl⟩
  rw [hM] at HE hul ⊢
  have HM : Hid ((unitL m).length = M) := hM
  have kk := (Keep.start w).made 26 (imC W H r (.slice vo l.length vc))
  clear hFF hx0 hy0 gc hr hv hlen h255 hi hN hE hM
  go_enter Tryd.func25, Tryd.ntmps25
  go_wp2_with fail
  revert kk
  generalize w.alloc (.cells #[.int .i64 W, .int .i64 H, .bool r, .slice vo l.length vc] 26) = w1
  intro kk
  have hs1 := hs.but kk.but (not_nowhere _)
  have gI := kk.head
  clear hs
  go_loopw [9, 10] (fun o j V => ∃ p : Nat, p ≤ N ∧ j = .int .i64 p ∧ Lst w1 V 46 64 o (cntP m p) (tab .i64 (cntP m p * 64) FF)) (fun _ j _ => N - (intOf j).toNat)
  case atStart => exact ⟨0, Nat.zero_le _, rfl, Lst.start _ _ _⟩
  case round =>
    obtain ⟨p, hp, rfl, LL⟩ := hrel
    obtain ⟨po, pc, rfl⟩ := LL.slice
    by_cases hlt : p < N
    · obtain ⟨A, B, C, D, P⟩ := HPA.out p hlt
      have i0 : (0 : Int) ≤ (p : Int) := by omega
      have i1 : (p : Int) < (N : Int) := by omega
      have hsV := hs1.but LL.but (not_nowhere _)
      have kA := (hsV.at (p * 2)).trans P.ca
      have kB := (hsV.at (p * 2 + 1)).trans P.cb
      have HP : Hid _ := P
      have hcle := P.le
      have hcul := P.ul
      rw [HM.out] at hcul
      have hAr := P.a
      have hBr := P.b
      have hCr := P.c
      have hDr := P.d
      have HC0 : Hid _ := P.c0
      have HC1 : Hid _ := P.c1
      obtain ⟨Q, hQ⟩ : ∃ Q : Nat, cntP m (p + 1) - cntP m p = Q := ⟨_, rfl⟩
      have hQ2 : cntP m p + Q = cntP m (p + 1) := by omega
      have hAB : wrap64 ((A : Int) * (B : Int)) = (Q : Int) := by
        have e := P.n
        rw [hQ] at e
        have e2 : (A : Int) * (B : Int) = (Q : Int) := by rw [← e]; simp
        rw [e2]; exact w64 _ (by omega)
      have HAB : Hid (wrap64 ((A : Int) * (B : Int)) = (Q : Int)) := hAB
      have HQ : Hid (cntP m (p + 1) - cntP m p = Q) := hQ
      have HQ2 : Hid (cntP m p + Q = cntP m (p + 1)) := hQ2
      obtain ⟨E, hE⟩ : ∃ E, cntP m p = E := ⟨_, rfl⟩
      have hE6 : E + Q ≤ 6 := by omega
      have HEE : Hid (cntP m p = E) := hE
      rw [hE] at LL ⊢
      clear P hcle hcul hQ hQ2 hE hsV
      clear hAB
      go_wp2_with fail
      clear kA kB
      go_loopw [9, 13] (fun o j V => ∃ n : Nat, n ≤ Q ∧ j = .int .i64 n ∧ Lst w1 V 46 64 o (E + n) (tab .i64 ((E + n) * 64) FF)) (fun _ j _ => Q - (intOf j).toNat)
      case atStart => exact ⟨0, Nat.zero_le _, rfl, LL⟩
      case round =>
        clear LL
        obtain ⟨n, hn, rfl, LL⟩ := hrel
        obtain ⟨po, pc, rfl⟩ := LL.slice
        by_cases hln : n < Q
        · have i2 : (n : Int) < (Q : Int) := by omega
          have hAB := HAB.out
          have i3 : (0 : Int) < (N : Int) := by omega
          have i4 : 0 < N := by omega
          obtain ⟨⟨a1, a2⟩, ⟨a3, a4⟩⟩ := HFI.out p A B C D n HP.out (by rw [HQ.out]; exact hln)
          have HBL : Hid (∀ V, But Nowhere w V → _) := fun V hb => HMB.out V hb p hlt A B C D HP.out n (by rw [HQ.out]; exact hln)
          rw [HEE.out] at HBL
          obtain ⟨fb, hfb⟩ : ∃ fb, (fun k => FF ((E + n) * 64 + k)) = fb := ⟨_, rfl⟩
          rw [hfb] at HBL
          have HFB : Hid ((fun k => FF ((E + n) * 64 + k)) = fb) := hfb
          clear hfb
          have e8 : ((n : Int)).tmod (A : Int) = (n : Int) % (A : Int) := Int.tmod_eq_emod_of_nonneg (by omega)
          have e15 : ((n : Int)).tdiv (A : Int) = (n : Int) / (A : Int) := Int.tdiv_eq_ediv_of_nonneg (by omega)
          have z1 : 0 ≤ (n : Int) % (A : Int) := Int.emod_nonneg _ (by omega)
          have z2 : 0 ≤ (n : Int) / (A : Int) := Int.ediv_nonneg (by omega) (by omega)
          have z3 : 0 ≤ x0 * (A : Int) := Int.mul_nonneg hx0p (by omega)
          have z4 : 0 ≤ y0 * (B : Int) := Int.mul_nonneg hy0p (by omega)
          obtain ⟨s0, hs0⟩ : ∃ s0 : Int, ((A * C : Nat) : Int) = s0 := ⟨_, rfl⟩
          obtain ⟨s1, hs1'⟩ : ∃ s1 : Int, ((B * D : Nat) : Int) = s1 := ⟨_, rfl⟩
          have e22 : s0.tdiv (A : Int) = (C : Int) := by rw [← hs0]; rcases hAr with rfl | rfl <;> rcases hCr with rfl | rfl <;> rfl
          have e28 : s1.tdiv (B : Int) = (D : Int) := by rw [← hs1']; rcases hBr with rfl | rfl <;> rcases hDr with rfl | rfl <;> rfl
          have c0 := HC0.out
          have c1 := HC1.out
          rw [hs0] at c0
          rw [hs1'] at c1
          have HS : ∀ V, But Nowhere w1 V → ((V.cell? ⟨w.heap.size, 0, none⟩ = some (.int .i64 W) ∧ V.cell? ⟨w.heap.size, 1, none⟩ = some (.int .i64 H) ∧ V.cell? ⟨w.heap.size, 2, none⟩ = some (.bool r) ∧ V.cell? ⟨w.heap.size, 3, none⟩ = some (.slice vo l.length vc)) ∧ V.cell? ⟨g, 0, none⟩ = some (.int .i64 s0) ∧ V.cell? ⟨g, 1, none⟩ = some (.int .i64 s1)) := fun V bu => have gM := gI.but bu (not_nowhere _); have gS := hs1.but bu (not_nowhere _); ⟨⟨gM.at 0, gM.at 1, gM.at 2, gM.at 3⟩, (gS.at 0).trans c0, (gS.at 1).trans c1⟩
          obtain ⟨R, hR⟩ : ∃ R, (n : Int) % (A : Int) = R := ⟨_, rfl⟩
          obtain ⟨QQ, hQQ⟩ : ∃ R, (n : Int) / (A : Int) = R := ⟨_, rfl⟩
          obtain ⟨XA, hXA⟩ : ∃ R, x0 * (A : Int) = R := ⟨_, rfl⟩
          obtain ⟨YB, hYB⟩ : ∃ R, y0 * (B : Int) = R := ⟨_, rfl⟩
          rw [hR] at e8 z1 a1 a2 HBL
          rw [hQQ] at e15 z2 a3 a4 HBL
          rw [hXA] at z3 a1 a2 HBL
          rw [hYB] at z4 a3 a4 HBL
          have e5 : IntKind.i64.wrap (x0 * (A : Int)) = XA := by rw [wrap_i64_eq, hXA]; exact w64 _ (by omega)
          have e12 : IntKind.i64.wrap (y0 * (B : Int)) = YB := by rw [wrap_i64_eq, hYB]; exact w64 _ (by omega)
          have e9 : IntKind.i64.wrap (XA + R) = XA + R := by rw [wrap_i64_eq]; exact w64 _ (by omega)
          have e16 : IntKind.i64.wrap (YB + QQ) = YB + QQ := by rw [wrap_i64_eq]; exact w64 _ (by omega)
          have w1' : IntKind.i64.wrap QQ = QQ := by rw [wrap_i64_eq]; exact w64 _ (by omega)
          have w2' : IntKind.i64.wrap (C : Int) = (C : Int) := by rw [wrap_i64_eq]; exact w64 _ (by omega)
          have w3' : IntKind.i64.wrap (D : Int) = (D : Int) := by rw [wrap_i64_eq]; exact w64 _ (by omega)
          have hAn : ¬ A = 0 := by omega
          have hBn : ¬ B = 0 := by omega
          have bu := LL.but
          have HLT : Hid (n < Q) := hln
          clear hR hQQ hXA hYB hs0 hs1' z1 z2 z3 z4 a1 a2 a3 a4 c0 c1 hAr hBr hCr hDr hx0p hy0p
          go_wp2_with fail
          clear hAB
          replace bu := bu.drew
          replace LL := LL.step (But.refl Nowhere _).drew
          refine wp_region_till (S := fun V => (V.cell? ⟨w.heap.size, 0, none⟩ = some (.int .i64 W) ∧ V.cell? ⟨w.heap.size, 1, none⟩ = some (.int .i64 H) ∧ V.cell? ⟨w.heap.size, 2, none⟩ = some (.bool r) ∧ V.cell? ⟨w.heap.size, 3, none⟩ = some (.slice vo l.length vc)) ∧ V.cell? ⟨g, 0, none⟩ = some (.int .i64 s0) ∧ V.cell? ⟨g, 1, none⟩ = some (.int .i64 s1)) (R := fun _ => True) (k := 100) (m := 100) (by kernel_rfl) (HS _ bu) trivial ?_
          (refine Walk.take (i := 0) (oi := { dst := some 37, op := Op.move (Operand.tmp 9), type := 44, pos := "ref.go:98", after := #[], guard := none }) (v := ?_) rfl (by kernel_rfl) (by kernel_rfl) (by kernel_rfl) (by kernel_rfl) (fun _ _ _ h => h) (Or.inl ⟨by rfl, ?_⟩) ?_; rotate_left; (intro w hw; clear hw; (try go_split_ands); go_simp; try (with_reducible rfl)); simp only [Act.put, List.setIfInBounds_toArray, List.set_cons_zero, List.set_cons_succ])
          (refine Walk.take (i := 1) (oi := { dst := some 38, op := Op.load 26 (Operand.tmp 4), type := 26, pos := "ref.go:98", after := #[], guard := none }) (v := ?_) rfl (by kernel_rfl) (by kernel_rfl) (by kernel_rfl) (by kernel_rfl) (fun _ _ _ h => h) (Or.inl ⟨by rfl, ?_⟩) ?_; rotate_left; (intro w hw; have hS1 := hw.1 (by kernel_rfl); clear hw; (try dsimp only at hS1); (try go_split_ands); go_simp; try (with_reducible rfl)); simp only [Act.put, List.setIfInBounds_toArray, List.set_cons_zero, List.set_cons_succ])
          (refine Walk.take (i := 2) (oi := { dst := some 39, op := Op.move (Operand.tmp 10), type := 3, pos := "ref.go:98", after := #[], guard := none }) (v := ?_) rfl (by kernel_rfl) (by kernel_rfl) (by kernel_rfl) (by kernel_rfl) (fun _ _ _ h => h) (Or.inl ⟨by rfl, ?_⟩) ?_; rotate_left; (intro w hw; clear hw; (try go_split_ands); go_simp; try (with_reducible rfl)); simp only [Act.put, List.setIfInBounds_toArray, List.set_cons_zero, List.set_cons_succ])
          (refine Walk.take (i := 3) (oi := { dst := some 40, op := Op.move (Operand.tmp 2), type := 3, pos := "ref.go:98", after := #[], guard := none }) (v := ?_) rfl (by kernel_rfl) (by kernel_rfl) (by kernel_rfl) (by kernel_rfl) (fun _ _ _ h => h) (Or.inl ⟨by rfl, ?_⟩) ?_; rotate_left; (intro w hw; clear hw; (try go_split_ands); go_simp; try (with_reducible rfl)); simp only [Act.put, List.setIfInBounds_toArray, List.set_cons_zero, List.set_cons_succ])
          (refine Walk.take (i := 4) (oi := { dst := some 41, op := Op.move (Operand.tmp 11), type := 3, pos := "ref.go:98", after := #[], guard := none }) (v := ?_) rfl (by kernel_rfl) (by kernel_rfl) (by kernel_rfl) (by kernel_rfl) (fun _ _ _ h => h) (Or.inl ⟨by rfl, ?_⟩) ?_; rotate_left; (intro w hw; clear hw; (try go_split_ands); go_simp; try (with_reducible rfl)); simp only [Act.put, List.setIfInBounds_toArray, List.set_cons_zero, List.set_cons_succ])
          (refine Walk.take (i := 5) (oi := { dst := some 42, op := Op.binOp BinOp.mul 3 (Operand.tmp 40) (Operand.tmp 41) 3, type := 3, pos := "ref.go:98", after := #[{ on := 3, ground := Ground.data }, { on := 4, ground := Ground.data }], guard := none }) (v := ?_) rfl (by kernel_rfl) (by kernel_rfl) (by kernel_rfl) (by kernel_rfl) (fun _ _ _ h => h) (Or.inl ⟨by rfl, ?_⟩) ?_; rotate_left; (intro w hw; clear hw; (try go_split_ands); go_simp; try (with_reducible rfl)); simp only [Act.put, List.setIfInBounds_toArray, List.set_cons_zero, List.set_cons_succ])
          (refine Walk.take (i := 6) (oi := { dst := some 43, op := Op.move (Operand.tmp 13), type := 3, pos := "ref.go:98", after := #[], guard := none }) (v := ?_) rfl (by kernel_rfl) (by kernel_rfl) (by kernel_rfl) (by kernel_rfl) (fun _ _ _ h => h) (Or.inl ⟨by rfl, ?_⟩) ?_; rotate_left; (intro w hw; clear hw; (try go_split_ands); go_simp; try (with_reducible rfl)); simp only [Act.put, List.setIfInBounds_toArray, List.set_cons_zero, List.set_cons_succ])
          (refine Walk.take (i := 7) (oi := { dst := some 44, op := Op.move (Operand.tmp 11), type := 3, pos := "ref.go:98", after := #[], guard := none }) (v := ?_) rfl (by kernel_rfl) (by kernel_rfl) (by kernel_rfl) (by kernel_rfl) (fun _ _ _ h => h) (Or.inl ⟨by rfl, ?_⟩) ?_; rotate_left; (intro w hw; clear hw; (try go_split_ands); go_simp; try (with_reducible rfl)); simp only [Act.put, List.setIfInBounds_toArray, List.set_cons_zero, List.set_cons_succ])
          (refine Walk.take (i := 8) (oi := { dst := some 45, op := Op.binOp BinOp.rem 3 (Operand.tmp 43) (Operand.tmp 44) 3, type := 3, pos := "ref.go:98", after := #[{ on := 6, ground := Ground.data }, { on := 7, ground := Ground.data }], guard := none }) (v := ?_) rfl (by kernel_rfl) (by kernel_rfl) (by kernel_rfl) (by kernel_rfl) (fun _ _ _ h => h) (Or.inl ⟨by rfl, ?_⟩) ?_; rotate_left; (intro w hw; clear hw; (try go_split_ands); go_simp; try (with_reducible rfl)); simp only [Act.put, List.setIfInBounds_toArray, List.set_cons_zero, List.set_cons_succ])
          (refine Walk.take (i := 9) (oi := { dst := some 46, op := Op.binOp BinOp.add 3 (Operand.tmp 42) (Operand.tmp 45) 3, type := 3, pos := "ref.go:98", after := #[{ on := 5, ground := Ground.data }, { on := 8, ground := Ground.data }], guard := none }) (v := ?_) rfl (by kernel_rfl) (by kernel_rfl) (by kernel_rfl) (by kernel_rfl) (fun _ _ _ h => h) (Or.inl ⟨by rfl, ?_⟩) ?_; rotate_left; (intro w hw; clear hw; (try go_split_ands); go_simp; try (with_reducible rfl)); simp only [Act.put, List.setIfInBounds_toArray, List.set_cons_zero, List.set_cons_succ])
          (refine Walk.take (i := 10) (oi := { dst := some 47, op := Op.move (Operand.tmp 3), type := 3, pos := "ref.go:98", after := #[], guard := none }) (v := ?_) rfl (by kernel_rfl) (by kernel_rfl) (by kernel_rfl) (by kernel_rfl) (fun _ _ _ h => h) (Or.inl ⟨by rfl, ?_⟩) ?_; rotate_left; (intro w hw; clear hw; (try go_split_ands); go_simp; try (with_reducible rfl)); simp only [Act.put, List.setIfInBounds_toArray, List.set_cons_zero, List.set_cons_succ])
          (refine Walk.take (i := 11) (oi := { dst := some 48, op := Op.move (Operand.tmp 12), type := 3, pos := "ref.go:98", after := #[], guard := none }) (v := ?_) rfl (by kernel_rfl) (by kernel_rfl) (by kernel_rfl) (by kernel_rfl) (fun _ _ _ h => h) (Or.inl ⟨by rfl, ?_⟩) ?_; rotate_left; (intro w hw; clear hw; (try go_split_ands); go_simp; try (with_reducible rfl)); simp only [Act.put, List.setIfInBounds_toArray, List.set_cons_zero, List.set_cons_succ])
          (refine Walk.take (i := 12) (oi := { dst := some 49, op := Op.binOp BinOp.mul 3 (Operand.tmp 47) (Operand.tmp 48) 3, type := 3, pos := "ref.go:98", after := #[{ on := 10, ground := Ground.data }, { on := 11, ground := Ground.data }], guard := none }) (v := ?_) rfl (by kernel_rfl) (by kernel_rfl) (by kernel_rfl) (by kernel_rfl) (fun _ _ _ h => h) (Or.inl ⟨by rfl, ?_⟩) ?_; rotate_left; (intro w hw; clear hw; (try go_split_ands); go_simp; try (with_reducible rfl)); simp only [Act.put, List.setIfInBounds_toArray, List.set_cons_zero, List.set_cons_succ])
          (refine Walk.take (i := 13) (oi := { dst := some 50, op := Op.move (Operand.tmp 13), type := 3, pos := "ref.go:98", after := #[], guard := none }) (v := ?_) rfl (by kernel_rfl) (by kernel_rfl) (by kernel_rfl) (by kernel_rfl) (fun _ _ _ h => h) (Or.inl ⟨by rfl, ?_⟩) ?_; rotate_left; (intro w hw; clear hw; (try go_split_ands); go_simp; try (with_reducible rfl)); simp only [Act.put, List.setIfInBounds_toArray, List.set_cons_zero, List.set_cons_succ])
          (refine Walk.take (i := 14) (oi := { dst := some 51, op := Op.move (Operand.tmp 11), type := 3, pos := "ref.go:98", after := #[], guard := none }) (v := ?_) rfl (by kernel_rfl) (by kernel_rfl) (by kernel_rfl) (by kernel_rfl) (fun _ _ _ h => h) (Or.inl ⟨by rfl, ?_⟩) ?_; rotate_left; (intro w hw; clear hw; (try go_split_ands); go_simp; try (with_reducible rfl)); simp only [Act.put, List.setIfInBounds_toArray, List.set_cons_zero, List.set_cons_succ])
          (refine Walk.take (i := 15) (oi := { dst := some 52, op := Op.binOp BinOp.quo 3 (Operand.tmp 50) (Operand.tmp 51) 3, type := 3, pos := "ref.go:98", after := #[{ on := 13, ground := Ground.data }, { on := 14, ground := Ground.data }], guard := none }) (v := ?_) rfl (by kernel_rfl) (by kernel_rfl) (by kernel_rfl) (by kernel_rfl) (fun _ _ _ h => h) (Or.inl ⟨by rfl, ?_⟩) ?_; rotate_left; (intro w hw; clear hw; (try go_split_ands); go_simp; try (with_reducible rfl)); simp only [Act.put, List.setIfInBounds_toArray, List.set_cons_zero, List.set_cons_succ])
          (refine Walk.take (i := 16) (oi := { dst := some 53, op := Op.binOp BinOp.add 3 (Operand.tmp 49) (Operand.tmp 52) 3, type := 3, pos := "ref.go:98", after := #[{ on := 12, ground := Ground.data }, { on := 15, ground := Ground.data }], guard := none }) (v := ?_) rfl (by kernel_rfl) (by kernel_rfl) (by kernel_rfl) (by kernel_rfl) (fun _ _ _ h => h) (Or.inl ⟨by rfl, ?_⟩) ?_; rotate_left; (intro w hw; clear hw; (try go_split_ands); go_simp; try (with_reducible rfl)); simp only [Act.put, List.setIfInBounds_toArray, List.set_cons_zero, List.set_cons_succ])
          (refine Walk.take (i := 17) (oi := { dst := some 54, op := Op.move (Operand.tmp 1), type := 49, pos := "ref.go:98", after := #[], guard := none }) (v := ?_) rfl (by kernel_rfl) (by kernel_rfl) (by kernel_rfl) (by kernel_rfl) (fun _ _ _ h => h) (Or.inl ⟨by rfl, ?_⟩) ?_; rotate_left; (intro w hw; clear hw; (try go_split_ands); go_simp; try (with_reducible rfl)); simp only [Act.put, List.setIfInBounds_toArray, List.set_cons_zero, List.set_cons_succ])
          (refine Walk.take (i := 18) (oi := { dst := some 55, op := Op.indexAddr 49 (Operand.tmp 54) (Operand.const (Value.int IntKind.i64 0)), type := 0, pos := "ref.go:98", after := #[{ on := 17, ground := Ground.data }], guard := none }) (v := ?_) rfl (by kernel_rfl) (by kernel_rfl) (by kernel_rfl) (by kernel_rfl) (fun _ _ _ h => h) (Or.inl ⟨by rfl, ?_⟩) ?_; rotate_left; (intro w hw; clear hw; (try go_split_ands); go_simp; try (with_reducible rfl)); simp only [Act.put, List.setIfInBounds_toArray, List.set_cons_zero, List.set_cons_succ])
          (refine Walk.take (i := 19) (oi := { dst := some 56, op := Op.indexAddr 51 (Operand.tmp 55) (Operand.const (Value.int IntKind.i64 0)), type := 0, pos := "ref.go:98", after := #[{ on := 18, ground := Ground.data }], guard := none }) (v := ?_) rfl (by kernel_rfl) (by kernel_rfl) (by kernel_rfl) (by kernel_rfl) (fun _ _ _ h => h) (Or.inl ⟨by rfl, ?_⟩) ?_; rotate_left; (intro w hw; clear hw; (try go_split_ands); go_simp; try (with_reducible rfl)); simp only [Act.put, List.setIfInBounds_toArray, List.set_cons_zero, List.set_cons_succ])
          (refine Walk.take (i := 20) (oi := { dst := some 57, op := Op.load 3 (Operand.tmp 56), type := 3, pos := "ref.go:98", after := #[{ on := 19, ground := Ground.data }], guard := none }) (v := ?_) rfl (by kernel_rfl) (by kernel_rfl) (by kernel_rfl) (by kernel_rfl) (fun _ _ _ h => h) (Or.inl ⟨by rfl, ?_⟩) ?_; rotate_left; (intro w hw; have hS1 := hw.1 (by kernel_rfl); clear hw; (try dsimp only at hS1); (try go_split_ands); go_simp; try (with_reducible rfl)); simp only [Act.put, List.setIfInBounds_toArray, List.set_cons_zero, List.set_cons_succ])
          (refine Walk.take (i := 21) (oi := { dst := some 58, op := Op.move (Operand.tmp 11), type := 3, pos := "ref.go:98", after := #[], guard := none }) (v := ?_) rfl (by kernel_rfl) (by kernel_rfl) (by kernel_rfl) (by kernel_rfl) (fun _ _ _ h => h) (Or.inl ⟨by rfl, ?_⟩) ?_; rotate_left; (intro w hw; clear hw; (try go_split_ands); go_simp; try (with_reducible rfl)); simp only [Act.put, List.setIfInBounds_toArray, List.set_cons_zero, List.set_cons_succ])
          (refine Walk.take (i := 22) (oi := { dst := some 59, op := Op.binOp BinOp.quo 3 (Operand.tmp 57) (Operand.tmp 58) 3, type := 3, pos := "ref.go:98", after := #[{ on := 20, ground := Ground.data }, { on := 21, ground := Ground.data }], guard := none }) (v := ?_) rfl (by kernel_rfl) (by kernel_rfl) (by kernel_rfl) (by kernel_rfl) (fun _ _ _ h => h) (Or.inl ⟨by rfl, ?_⟩) ?_; rotate_left; (intro w hw; clear hw; (try go_split_ands); go_simp; try (with_reducible rfl)); simp only [Act.put, List.setIfInBounds_toArray, List.set_cons_zero, List.set_cons_succ])
          (refine Walk.take (i := 23) (oi := { dst := some 60, op := Op.move (Operand.tmp 1), type := 49, pos := "ref.go:98", after := #[], guard := none }) (v := ?_) rfl (by kernel_rfl) (by kernel_rfl) (by kernel_rfl) (by kernel_rfl) (fun _ _ _ h => h) (Or.inl ⟨by rfl, ?_⟩) ?_; rotate_left; (intro w hw; clear hw; (try go_split_ands); go_simp; try (with_reducible rfl)); simp only [Act.put, List.setIfInBounds_toArray, List.set_cons_zero, List.set_cons_succ])
          (refine Walk.take (i := 24) (oi := { dst := some 61, op := Op.indexAddr 49 (Operand.tmp 60) (Operand.const (Value.int IntKind.i64 0)), type := 0, pos := "ref.go:98", after := #[{ on := 23, ground := Ground.data }], guard := none }) (v := ?_) rfl (by kernel_rfl) (by kernel_rfl) (by kernel_rfl) (by kernel_rfl) (fun _ _ _ h => h) (Or.inl ⟨by rfl, ?_⟩) ?_; rotate_left; (intro w hw; clear hw; (try go_split_ands); go_simp; try (with_reducible rfl)); simp only [Act.put, List.setIfInBounds_toArray, List.set_cons_zero, List.set_cons_succ])
          (refine Walk.take (i := 25) (oi := { dst := some 62, op := Op.indexAddr 51 (Operand.tmp 61) (Operand.const (Value.int IntKind.i64 1)), type := 0, pos := "ref.go:98", after := #[{ on := 24, ground := Ground.data }], guard := none }) (v := ?_) rfl (by kernel_rfl) (by kernel_rfl) (by kernel_rfl) (by kernel_rfl) (fun _ _ _ h => h) (Or.inl ⟨by rfl, ?_⟩) ?_; rotate_left; (intro w hw; clear hw; (try go_split_ands); go_simp; try (with_reducible rfl)); simp only [Act.put, List.setIfInBounds_toArray, List.set_cons_zero, List.set_cons_succ])
          (refine Walk.take (i := 26) (oi := { dst := some 63, op := Op.load 3 (Operand.tmp 62), type := 3, pos := "ref.go:98", after := #[{ on := 25, ground := Ground.data }], guard := none }) (v := ?_) rfl (by kernel_rfl) (by kernel_rfl) (by kernel_rfl) (by kernel_rfl) (fun _ _ _ h => h) (Or.inl ⟨by rfl, ?_⟩) ?_; rotate_left; (intro w hw; have hS1 := hw.1 (by kernel_rfl); clear hw; (try dsimp only at hS1); (try go_split_ands); go_simp; try (with_reducible rfl)); simp only [Act.put, List.setIfInBounds_toArray, List.set_cons_zero, List.set_cons_succ])
          (refine Walk.take (i := 27) (oi := { dst := some 64, op := Op.move (Operand.tmp 12), type := 3, pos := "ref.go:98", after := #[], guard := none }) (v := ?_) rfl (by kernel_rfl) (by kernel_rfl) (by kernel_rfl) (by kernel_rfl) (fun _ _ _ h => h) (Or.inl ⟨by rfl, ?_⟩) ?_; rotate_left; (intro w hw; clear hw; (try go_split_ands); go_simp; try (with_reducible rfl)); simp only [Act.put, List.setIfInBounds_toArray, List.set_cons_zero, List.set_cons_succ])
          (refine Walk.take (i := 28) (oi := { dst := some 65, op := Op.binOp BinOp.quo 3 (Operand.tmp 63) (Operand.tmp 64) 3, type := 3, pos := "ref.go:98", after := #[{ on := 26, ground := Ground.data }, { on := 27, ground := Ground.data }], guard := none }) (v := ?_) rfl (by kernel_rfl) (by kernel_rfl) (by kernel_rfl) (by kernel_rfl) (fun _ _ _ h => h) (Or.inl ⟨by rfl, ?_⟩) ?_; rotate_left; (intro w hw; clear hw; (try go_split_ands); go_simp; try (with_reducible rfl)); simp only [Act.put, List.setIfInBounds_toArray, List.set_cons_zero, List.set_cons_succ])
          (refine Walk.go (i := 29) (o := { dst := some 66, op := Op.call { callee := Callee.value (Operand.func 46), args := #[Operand.tmp 38, Operand.tmp 39, Operand.tmp 46, Operand.tmp 53, Operand.tmp 59, Operand.tmp 65], argTypes := #[26, 3, 3, 3, 3, 3] }, type := 46, pos := "ref.go:98", after := #[{ on := 1, ground := Ground.data }, { on := 2, ground := Ground.data }, { on := 9, ground := Ground.data }, { on := 16, ground := Ground.data }, { on := 22, ground := Ground.data }, { on := 28, ground := Ground.data }], guard := none }) (by kernel_rfl) rfl (fun K hK => ?_); go_simp; ((go_at_call 46; refine (HBL.out _ (kk.but.trans bu)).mono ?_; rintro e x1 ⟨rfl, d⟩; replace bu := bu.trans d; replace LL := LL.step d; clear d)); refine hK.out _ _ (⟨fun _ => HS _ bu, fun _ => trivial⟩) ?_; clear hK K; try simp only [Act.put, List.setIfInBounds_toArray, List.set_cons_zero, List.set_cons_succ])
          (refine Walk.go (i := 30) (o := { dst := some 67, op := Op.buildSlice 44 1 #[(0, Operand.tmp 66)], type := 44, pos := "ref.go:98", after := #[{ on := 29, ground := Ground.data }], guard := none }) (by kernel_rfl) rfl (fun K hK => ?_); obtain ⟨g4, cap4, W4, hrun, L4, b4, hg4⟩ := Lst.push Tryd.elemBlock LL (tab .i64 64 fb) (tab_length _ _ _) (tab_one _ _ _) (by omega) (by omega) _ rfl; refine wp_build_one Tryd.elemBlock (.tmp 66) rfl (.agg (tab .i64 64 fb).toArray) rfl (tab .i64 64 fb) rfl (tab_length _ _ _) (by omega) _ rfl ?_; refine hK.out _ _ ⟨fun _ => HS _ (bu.alloc _), fun _ => trivial⟩ ?_; clear hK K; simp only [Act.put, List.setIfInBounds_toArray, List.set_cons_zero, List.set_cons_succ])
          (refine Walk.go (i := 31) (o := { dst := some 68, op := Op.call { callee := Callee.builtin Builtin.append, args := #[Operand.tmp 37, Operand.tmp 67], argTypes := #[44, 44] }, type := 44, pos := "ref.go:98", after := #[{ on := 0, ground := Ground.data }, { on := 30, ground := Ground.data }, { on := 29, ground := Ground.chain }], guard := none }) (by kernel_rfl) rfl (fun K hK => ?_); refine wp_append_run (.tmp 37) (.tmp 67) 44 rfl _ _ rfl rfl _ W4 hrun ?_; refine hK.out _ _ ⟨fun _ => HS _ L4.but, fun _ => trivial⟩ ?_; clear hK K; simp only [Act.put, List.setIfInBounds_toArray, List.set_cons_zero, List.set_cons_succ])
          (refine Walk.take (i := 32) (oi := { dst := some 9, op := Op.assign (Operand.tmp 68), type := 44, pos := "ref.go:98", after := #[{ on := 31, ground := Ground.data }, { on := 31, ground := Ground.chain }, { on := 0, ground := Ground.phase }, { on := 1, ground := Ground.phase }, { on := 2, ground := Ground.phase }, { on := 3, ground := Ground.phase }, { on := 4, ground := Ground.phase }, { on := 5, ground := Ground.phase }, { on := 6, ground := Ground.phase }, { on := 7, ground := Ground.phase }, { on := 8, ground := Ground.phase }, { on := 9, ground := Ground.phase }, { on := 10, ground := Ground.phase }, { on := 11, ground := Ground.phase }, { on := 12, ground := Ground.phase }, { on := 13, ground := Ground.phase }, { on := 14, ground := Ground.phase }, { on := 15, ground := Ground.phase }, { on := 16, ground := Ground.phase }, { on := 17, ground := Ground.phase }, { on := 18, ground := Ground.phase }, { on := 19, ground := Ground.phase }, { on := 20, ground := Ground.phase }, { on := 21, ground := Ground.phase }, { on := 22, ground := Ground.phase }, { on := 23, ground := Ground.phase }, { on := 24, ground := Ground.phase }, { on := 25, ground := Ground.phase }, { on := 26, ground := Ground.phase }, { on := 27, ground := Ground.phase }, { on := 28, ground := Ground.phase }, { on := 29, ground := Ground.phase }, { on := 30, ground := Ground.phase }, { on := 31, ground := Ground.phase }], guard := none }) (v := ?_) rfl (by kernel_rfl) (by kernel_rfl) (by kernel_rfl) (by kernel_rfl) (fun _ _ _ h => h) (Or.inl ⟨by rfl, ?_⟩) ?_; rotate_left; (intro w hw; clear hw; (try go_split_ands); go_simp; try (with_reducible rfl)); simp only [Act.put, List.setIfInBounds_toArray, List.set_cons_zero, List.set_cons_succ])
          refine Walk.done (by kernel_rfl) ?_ _
          rw [← HFB.out, tab_more] at L4
          clear HS e5 e8 e9 e12 e15 e16 e22 e28 w1' w2' w3' hrun b4 hg4
          go_wp2_with fail
          go_roundw
          case rel => exact ⟨n + 1, by omega, by go_num, L4⟩
          case measure => simp [intOf]; omega
        · obtain rfl : n = Q := by omega
          have hAB := HAB.out
          go_wp2_with fail
          clear hAB
          rw [← HEE.out, HQ2.out] at LL ⊢
          go_roundw
          case rel => exact ⟨p + 1, by omega, by go_num, LL⟩
          case measure => simp [intOf]; omega
    · obtain rfl : p = N := by omega
      rw [HE.out] at LL ⊢
      go_wp2_with fail
      go_ret
      exact ⟨_, rfl, LL.back kk.but⟩

end Go.Proofs.YtppbnmlgilgnnaaDoor
