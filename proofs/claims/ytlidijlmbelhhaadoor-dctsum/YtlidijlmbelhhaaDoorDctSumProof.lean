/- For every list of bytes and all bytes k and more, the law DctSum of layer 8 returns true: the first frequency is an eighth of the sum, rounded, or one off; with all numbers as many more only that changes. No condition. -/
import Derived.Test.YtlidijlmbelhhaaDoorDcTab
import Derived.Test.YtlidijlmbelhhaaDoorDcLaw
import Derived.Test.YtlidijlmbelhhaaDoorDc9
import Derived.Test.YtlidijlmbelhhaaDoorFrame
import Derived.Test.YtlidijlmbelhhaaDoorRows
import Derived.Test.YtlidijlmbelhhaaDoorDcTab
import Derived.Test.YtlidijlmbelhhaaDoorCards
import Derived.Test.YtlidijlmbelhhaaDoorTie
namespace Go.Proofs.YtlidijlmbelhhaaDoor.dctSum
open Go.ChangeShapes Go.WideShapes Go.ChangeAt Go.RowKit
set_option linter.unusedVariables false

theorem own : ownKnob Tryd.prog.godebug = none := by kernel_rfl
theorem laidOut : laidOutB Tryd.prog = true := by kernel_rfl
theorem readable : ∀ t ∈ Tryd.f8.params.toList, Tryd.prog.readableRec t = true ∧ t < Tryd.prog.types.size := by
  rw [Tryd.params8]
  simp only [List.mem_cons, List.not_mem_nil, or_false, forall_eq_or_imp, forall_eq]
  refine ⟨⟨by kernel_rfl, of_decide_eq_true (by kernel_rfl)⟩, ⟨by kernel_rfl, of_decide_eq_true (by kernel_rfl)⟩, ⟨by kernel_rfl, of_decide_eq_true (by kernel_rfl)⟩⟩

set_option maxHeartbeats 20000000 in
set_option maxRecDepth 100000 in
theorem walk (w : World) (hT : Tab w) (v0 : Value) (l0 : List Int) (s0 : View w .u8 v0 l0) (x0 : ∀ x ∈ l0, 0 ≤ x ∧ x ≤ 255) (n0 : l0.length ≤ 140737488355328) (a1 : Int) (w1 : (Lit.int .u8 a1).wf = true) (a2 : Int) (w2 : (Lit.int .u8 a2).wf = true) :
    Calls Tryd.prog 8 #[v0, .int .u8 a1, .int .u8 a2] w fun e w' => e = .returned (.bool true) ∧ But Nowhere w w' := by
  have hu := Tryd.underlying23
  have hiA : ∀ f, (Tryd.prog.info? 23).map (·.size) = some (tab .i64 64 f).length := fun f => by rw [tab_length]; kernel_rfl
  have hiB : ∀ f, (Tryd.prog.info? 23).map (·.size) = some (tab .i64 64 f).toArray.size := fun f => by rw [List.size_toArray, tab_length]; kernel_rfl
  have u2 := u8_in w2
  have u1 := u8_in w1
  go_enter Tryd.func8, Tryd.ntmps8
  go_wp2_with fail
  refine (block_any v0 l0 a1 u1 w s0 x0 (by omega)).mono ?_
  rintro e x1 ⟨f, rfl, hf, dd⟩
  have kk := (Keep.start w).step dd
  clear dd
  replace kk := kk.zero 23
  have hth := kk.head.there 0 (tab .i64 64 f).toArray.size (by rw [List.size_toArray, tab_length, tab_length]; omega)
  replace kk := kk.layAll f
  have HX : Hid _ := kk
  clear kk
  go_upto_region 2 with (refine wpList_store_mid rfl 23 (.tmp 7) (.tmp 17) rfl x1.heap.size 0 (tab .i64 64 f).toArray rfl rfl ?_ (hiB _) (tab_all _ _ _) ?_; exact hth)
  have kk := HX.out
  clear HX hth
  revert kk
  obtain ⟨BB, hBB⟩ : ∃ b, x1.heap.size = b := ⟨_, rfl⟩
  rw [hBB]
  clear hBB
  generalize (x1.alloc (.cells (Value.int .i64 0 :: Value.int .i64 0 :: Value.int .i64 0 :: Value.int .i64 0 :: Value.int .i64 0 :: Value.int .i64 0 :: Value.int .i64 0 :: Value.int .i64 0 :: Value.int .i64 0 :: Value.int .i64 0 :: Value.int .i64 0 :: Value.int .i64 0 :: Value.int .i64 0 :: Value.int .i64 0 :: Value.int .i64 0 :: Value.int .i64 0 :: Value.int .i64 0 :: Value.int .i64 0 :: Value.int .i64 0 :: Value.int .i64 0 :: Value.int .i64 0 :: Value.int .i64 0 :: Value.int .i64 0 :: Value.int .i64 0 :: Value.int .i64 0 :: Value.int .i64 0 :: Value.int .i64 0 :: Value.int .i64 0 :: Value.int .i64 0 :: Value.int .i64 0 :: Value.int .i64 0 :: Value.int .i64 0 :: Value.int .i64 0 :: Value.int .i64 0 :: Value.int .i64 0 :: Value.int .i64 0 :: Value.int .i64 0 :: Value.int .i64 0 :: Value.int .i64 0 :: Value.int .i64 0 :: Value.int .i64 0 :: Value.int .i64 0 :: Value.int .i64 0 :: Value.int .i64 0 :: Value.int .i64 0 :: Value.int .i64 0 :: Value.int .i64 0 :: Value.int .i64 0 :: Value.int .i64 0 :: Value.int .i64 0 :: Value.int .i64 0 :: Value.int .i64 0 :: Value.int .i64 0 :: Value.int .i64 0 :: Value.int .i64 0 :: Value.int .i64 0 :: Value.int .i64 0 :: Value.int .i64 0 :: Value.int .i64 0 :: Value.int .i64 0 :: Value.int .i64 0 :: Value.int .i64 0 :: Value.int .i64 0 :: Value.int .i64 0 :: []).toArray 23)).setCells BB 0 (tab .i64 64 f) = WBB
  intro kk
  try simp only [Act.put]
  have HF : Hid _ := hf
  have HM : Hid _ := fwd_more f a2 u2 hf
  have HS1 : Hid _ := first_is f hf
  have HSB : Hid (∀ k, k ≤ 64 → -8192 ≤ sumTo f k ∧ sumTo f k ≤ 8192) := fun k hk => by
    have h := sumTo_le (f := f) (M := 128) k (fun i hi => by have := hf i (by omega); omega)
    omega
  clear hf
  have hr := kk.head.all
  replace kk := kk.zero 23
  have hth := kk.head.there 0 (tab .i64 64 f).toArray.size (by rw [List.size_toArray, tab_length, tab_length]; omega)
  replace kk := kk.layAll f
  have HX : Hid _ := kk
  clear kk
  go_upto_region 4 with (first | (refine wpList_load_mid rfl 23 (.tmp 7) rfl BB 0 rfl (tab .i64 64 f) _ ?_ hu rfl (hiA _) ?_; exact hr) | (refine wpList_store_mid rfl 23 (.tmp 9) (.tmp 18) rfl WBB.heap.size 0 (tab .i64 64 f).toArray rfl rfl ?_ (hiB _) (tab_all _ _ _) ?_; exact hth))
  have kk := HX.out
  clear HX hth hr
  revert kk
  obtain ⟨XB, hXB⟩ : ∃ b, WBB.heap.size = b := ⟨_, rfl⟩
  rw [hXB]
  clear hXB
  generalize (WBB.alloc (.cells (Value.int .i64 0 :: Value.int .i64 0 :: Value.int .i64 0 :: Value.int .i64 0 :: Value.int .i64 0 :: Value.int .i64 0 :: Value.int .i64 0 :: Value.int .i64 0 :: Value.int .i64 0 :: Value.int .i64 0 :: Value.int .i64 0 :: Value.int .i64 0 :: Value.int .i64 0 :: Value.int .i64 0 :: Value.int .i64 0 :: Value.int .i64 0 :: Value.int .i64 0 :: Value.int .i64 0 :: Value.int .i64 0 :: Value.int .i64 0 :: Value.int .i64 0 :: Value.int .i64 0 :: Value.int .i64 0 :: Value.int .i64 0 :: Value.int .i64 0 :: Value.int .i64 0 :: Value.int .i64 0 :: Value.int .i64 0 :: Value.int .i64 0 :: Value.int .i64 0 :: Value.int .i64 0 :: Value.int .i64 0 :: Value.int .i64 0 :: Value.int .i64 0 :: Value.int .i64 0 :: Value.int .i64 0 :: Value.int .i64 0 :: Value.int .i64 0 :: Value.int .i64 0 :: Value.int .i64 0 :: Value.int .i64 0 :: Value.int .i64 0 :: Value.int .i64 0 :: Value.int .i64 0 :: Value.int .i64 0 :: Value.int .i64 0 :: Value.int .i64 0 :: Value.int .i64 0 :: Value.int .i64 0 :: Value.int .i64 0 :: Value.int .i64 0 :: Value.int .i64 0 :: Value.int .i64 0 :: Value.int .i64 0 :: Value.int .i64 0 :: Value.int .i64 0 :: Value.int .i64 0 :: Value.int .i64 0 :: Value.int .i64 0 :: Value.int .i64 0 :: Value.int .i64 0 :: Value.int .i64 0 :: Value.int .i64 0 :: Value.int .i64 0 :: []).toArray 23)).setCells XB 0 (tab .i64 64 f) = WXB
  intro kk
  try simp only [Act.put]
  go_wp2_with fail
  go_loopw [8, 10] (fun n i V => ∃ k : Nat, k ≤ 64 ∧ i = .int .i64 k ∧ n = .int .i64 (sumTo f k) ∧ Keep w V [(XB, 23, tab .i64 64 (fun j => if j < k then f j + a2 else f j)), (BB, 23, tab .i64 64 f)]) (fun _ i _ => 64 - (intOf i).toNat)
  case atStart => exact ⟨0, Nat.zero_le _, rfl, rfl, by rw [tab_congr .i64 64 (fun j => if j < 0 then f j + a2 else f j) f (fun j _ => if_neg (by omega))]; exact kk⟩
  case round =>
    clear kk
    obtain ⟨k, hk, rfl, rfl, kk⟩ := hrel
    by_cases hlt : k < 64
    · have i0 : (0 : Int) ≤ (k : Int) := by omega
      have i1 : (k : Int) < 64 := by omega
      have b1 := HF.out k hlt
      have b2 := HSB.out k hk
      have cX := kk.head.cell k hlt
      have fX := kk.head.frozen k
      simp only [Nat.lt_irrefl, if_false] at cX
      have cB := (kk.get (b := BB) (t := 23) (c := tab .i64 64 f) (by simp)).cell k hlt
      have kX := kk.set k (.int .i64 (f k + a2))
      rw [tab_grow .i64 64 (fun j => f j + a2) f k] at kX
      have HX : Hid _ := kX
      have HE : Hid (sumTo f (k + 1) = sumTo f k + f k) := rfl
      obtain ⟨B, hB⟩ : ∃ z, f k = z := ⟨_, rfl⟩
      obtain ⟨N, hN⟩ : ∃ z, sumTo f k = z := ⟨_, rfl⟩
      rw [hB] at b1 cB cX HE HX
      rw [hN] at b2 HE ⊢
      clear hB hN kX kk
      have r0 : wrap64 (N + B) = N + B := w64 _ (by omega)
      have r1 : wrap64 (B + a2) = B + a2 := w64 _ (by omega)
      go_upto_region 6 with fail
      clear r0 r1 cX fX cB b1 b2
      go_wp2_with fail
      go_roundw
      case rel => exact ⟨k + 1, by omega, by go_num, by rw [HE.out], HX.out⟩
      case measure => simp [intOf]; omega
    · obtain rfl : k = 64 := by omega
      rw [tab_full .i64 64 (fun j => f j + a2) f] at kk
      have b2 := HSB.out 64 (by omega)
      have hr := (kk.get (b := BB) (t := 23) (c := tab .i64 64 f) (by simp)).all
      go_wp2_with (refine wpList_load_mid rfl 23 (.tmp 7) rfl BB 0 rfl (tab .i64 64 f) _ ?_ hu rfl (hiA _) ?_; exact hr)
      refine (dctForward_any _ _ (hT.but kk.but)).mono ?_
      rintro e x2 ⟨rfl, dd⟩
      replace kk := kk.step dd
      clear dd hr
      replace kk := kk.zero 23
      have hth := kk.head.there 0 (tab .i64 64 (fwd f)).toArray.size (by rw [List.size_toArray, tab_length, tab_length]; omega)
      replace kk := kk.layAll (fwd f)
      have HX : Hid _ := kk
      clear kk
      go_upto_region 10 with (refine wpList_store_mid rfl 23 (.tmp 11) (.tmp 37) rfl x2.heap.size 0 (tab .i64 64 (fwd f)).toArray rfl rfl ?_ (hiB _) (tab_all _ _ _) ?_; exact hth)
      have kk := HX.out
      clear HX hth
      revert kk
      obtain ⟨FB, hFB⟩ : ∃ b, x2.heap.size = b := ⟨_, rfl⟩
      rw [hFB]
      clear hFB
      generalize (x2.alloc (.cells (Value.int .i64 0 :: Value.int .i64 0 :: Value.int .i64 0 :: Value.int .i64 0 :: Value.int .i64 0 :: Value.int .i64 0 :: Value.int .i64 0 :: Value.int .i64 0 :: Value.int .i64 0 :: Value.int .i64 0 :: Value.int .i64 0 :: Value.int .i64 0 :: Value.int .i64 0 :: Value.int .i64 0 :: Value.int .i64 0 :: Value.int .i64 0 :: Value.int .i64 0 :: Value.int .i64 0 :: Value.int .i64 0 :: Value.int .i64 0 :: Value.int .i64 0 :: Value.int .i64 0 :: Value.int .i64 0 :: Value.int .i64 0 :: Value.int .i64 0 :: Value.int .i64 0 :: Value.int .i64 0 :: Value.int .i64 0 :: Value.int .i64 0 :: Value.int .i64 0 :: Value.int .i64 0 :: Value.int .i64 0 :: Value.int .i64 0 :: Value.int .i64 0 :: Value.int .i64 0 :: Value.int .i64 0 :: Value.int .i64 0 :: Value.int .i64 0 :: Value.int .i64 0 :: Value.int .i64 0 :: Value.int .i64 0 :: Value.int .i64 0 :: Value.int .i64 0 :: Value.int .i64 0 :: Value.int .i64 0 :: Value.int .i64 0 :: Value.int .i64 0 :: Value.int .i64 0 :: Value.int .i64 0 :: Value.int .i64 0 :: Value.int .i64 0 :: Value.int .i64 0 :: Value.int .i64 0 :: Value.int .i64 0 :: Value.int .i64 0 :: Value.int .i64 0 :: Value.int .i64 0 :: Value.int .i64 0 :: Value.int .i64 0 :: Value.int .i64 0 :: Value.int .i64 0 :: Value.int .i64 0 :: Value.int .i64 0 :: Value.int .i64 0 :: []).toArray 23)).setCells FB 0 (tab .i64 64 (fwd f)) = WFB
      intro kk
      try simp only [Act.put]
      have hr := (kk.get (b := XB) (t := 23) (c := tab .i64 64 (fun j => f j + a2)) (by simp)).all
      go_wp2_with (refine wpList_load_mid rfl 23 (.tmp 9) rfl XB 0 rfl (tab .i64 64 (fun j => f j + a2)) _ ?_ hu rfl (hiA _) ?_; exact hr)
      refine (dctForward_any _ _ (hT.but kk.but)).mono ?_
      rintro e x3 ⟨rfl, dd⟩
      replace kk := kk.step dd
      clear dd hr
      replace kk := kk.zero 23
      have hth := kk.head.there 0 (tab .i64 64 (fwd (fun j => f j + a2))).toArray.size (by rw [List.size_toArray, tab_length, tab_length]; omega)
      replace kk := kk.layAll (fwd (fun j => f j + a2))
      have HX : Hid _ := kk
      clear kk
      go_upto_region 11 with (refine wpList_store_mid rfl 23 (.tmp 12) (.tmp 39) rfl x3.heap.size 0 (tab .i64 64 (fwd (fun j => f j + a2))).toArray rfl rfl ?_ (hiB _) (tab_all _ _ _) ?_; exact hth)
      have kk := HX.out
      clear HX hth
      revert kk
      obtain ⟨GB, hGB⟩ : ∃ b, x3.heap.size = b := ⟨_, rfl⟩
      rw [hGB]
      clear hGB
      generalize (x3.alloc (.cells (Value.int .i64 0 :: Value.int .i64 0 :: Value.int .i64 0 :: Value.int .i64 0 :: Value.int .i64 0 :: Value.int .i64 0 :: Value.int .i64 0 :: Value.int .i64 0 :: Value.int .i64 0 :: Value.int .i64 0 :: Value.int .i64 0 :: Value.int .i64 0 :: Value.int .i64 0 :: Value.int .i64 0 :: Value.int .i64 0 :: Value.int .i64 0 :: Value.int .i64 0 :: Value.int .i64 0 :: Value.int .i64 0 :: Value.int .i64 0 :: Value.int .i64 0 :: Value.int .i64 0 :: Value.int .i64 0 :: Value.int .i64 0 :: Value.int .i64 0 :: Value.int .i64 0 :: Value.int .i64 0 :: Value.int .i64 0 :: Value.int .i64 0 :: Value.int .i64 0 :: Value.int .i64 0 :: Value.int .i64 0 :: Value.int .i64 0 :: Value.int .i64 0 :: Value.int .i64 0 :: Value.int .i64 0 :: Value.int .i64 0 :: Value.int .i64 0 :: Value.int .i64 0 :: Value.int .i64 0 :: Value.int .i64 0 :: Value.int .i64 0 :: Value.int .i64 0 :: Value.int .i64 0 :: Value.int .i64 0 :: Value.int .i64 0 :: Value.int .i64 0 :: Value.int .i64 0 :: Value.int .i64 0 :: Value.int .i64 0 :: Value.int .i64 0 :: Value.int .i64 0 :: Value.int .i64 0 :: Value.int .i64 0 :: Value.int .i64 0 :: Value.int .i64 0 :: Value.int .i64 0 :: Value.int .i64 0 :: Value.int .i64 0 :: Value.int .i64 0 :: Value.int .i64 0 :: Value.int .i64 0 :: Value.int .i64 0 :: Value.int .i64 0 :: []).toArray 23)).setCells GB 0 (tab .i64 64 (fwd (fun j => f j + a2))) = WGB
      intro kk
      try simp only [Act.put]
      go_wp2_with fail
      go_loopw [13] (fun i V => ∃ k : Nat, 1 ≤ k ∧ k ≤ 64 ∧ i = .int .i64 k ∧ Keep w V [(GB, 23, tab .i64 64 (fwd (fun j => f j + a2))), (FB, 23, tab .i64 64 (fwd f)), (XB, 23, tab .i64 64 (fun j => f j + a2)), (BB, 23, tab .i64 64 f)]) (fun i _ => 64 - (intOf i).toNat)
      case atStart => exact ⟨1, by omega, by omega, rfl, kk⟩
      case round =>
        clear kk
        obtain ⟨k, hk1, hk, rfl, kk⟩ := hrel
        by_cases hlt : k < 64
        · have i0 : (0 : Int) ≤ (k : Int) := by omega
          have i1 : (k : Int) < 64 := by omega
          replace kk := kk.drew
          have cG := kk.head.cell k hlt
          have cF := (kk.get (b := FB) (t := 23) (c := tab .i64 64 (fwd f)) (by simp)).cell k hlt
          rw [HM.out.1 k (by omega) hlt] at cG
          obtain ⟨P, hP⟩ : ∃ z, fwd f k = z := ⟨_, rfl⟩
          rw [hP] at cG cF
          have HX : Hid _ := kk
          clear kk hP
          go_wp2_with fail
          refine wp_region_till (S := fun V => V.cell? ⟨FB, k, none⟩ = some (.int .i64 P) ∧ V.cell? ⟨GB, k, none⟩ = some (.int .i64 P)) (R := fun _ => True) (k := 100) (m := 100) (by kernel_rfl) ⟨cF, cG⟩ trivial ?_
          clear cG cF
          focus
            (refine Walk.take (i := 0) (oi := { dst := some 44, op := Op.move (Operand.tmp 13), type := 3, pos := "more.go:20", after := #[], guard := none }) (v := ?_) rfl (by kernel_rfl) (by kernel_rfl) (by kernel_rfl) (by kernel_rfl) (fun _ _ _ h => h) (Or.inl ⟨by rfl, ?_⟩) ?_; rotate_left; (intro w hw; clear hw; (try go_split_ands); go_simp; try (with_reducible rfl)); simp only [Act.put, List.setIfInBounds_toArray, List.set_cons_zero, List.set_cons_succ])
            (refine Walk.take (i := 1) (oi := { dst := some 45, op := Op.indexAddr 23 (Operand.tmp 11) (Operand.tmp 44), type := 0, pos := "more.go:20", after := #[{ on := 0, ground := Ground.data }], guard := none }) (v := ?_) rfl (by kernel_rfl) (by kernel_rfl) (by kernel_rfl) (by kernel_rfl) (fun _ _ _ h => h) (Or.inl ⟨by rfl, ?_⟩) ?_; rotate_left; (intro w hw; clear hw; (try go_split_ands); go_simp; try (with_reducible rfl)); simp only [Act.put, List.setIfInBounds_toArray, List.set_cons_zero, List.set_cons_succ])
            (refine Walk.take (i := 2) (oi := { dst := some 46, op := Op.load 3 (Operand.tmp 45), type := 3, pos := "more.go:20", after := #[{ on := 1, ground := Ground.data }], guard := none }) (v := ?_) rfl (by kernel_rfl) (by kernel_rfl) (by kernel_rfl) (by kernel_rfl) (fun _ _ _ h => h) (Or.inl ⟨by rfl, ?_⟩) ?_; rotate_left; (intro w hw; have hS1 := hw.1 (by kernel_rfl); clear hw; (try dsimp only at hS1); (try go_split_ands); go_simp; try (with_reducible rfl)); simp only [Act.put, List.setIfInBounds_toArray, List.set_cons_zero, List.set_cons_succ])
            (refine Walk.take (i := 3) (oi := { dst := some 47, op := Op.move (Operand.tmp 13), type := 3, pos := "more.go:20", after := #[], guard := none }) (v := ?_) rfl (by kernel_rfl) (by kernel_rfl) (by kernel_rfl) (by kernel_rfl) (fun _ _ _ h => h) (Or.inl ⟨by rfl, ?_⟩) ?_; rotate_left; (intro w hw; clear hw; (try go_split_ands); go_simp; try (with_reducible rfl)); simp only [Act.put, List.setIfInBounds_toArray, List.set_cons_zero, List.set_cons_succ])
            (refine Walk.take (i := 4) (oi := { dst := some 48, op := Op.indexAddr 23 (Operand.tmp 12) (Operand.tmp 47), type := 0, pos := "more.go:20", after := #[{ on := 3, ground := Ground.data }], guard := none }) (v := ?_) rfl (by kernel_rfl) (by kernel_rfl) (by kernel_rfl) (by kernel_rfl) (fun _ _ _ h => h) (Or.inl ⟨by rfl, ?_⟩) ?_; rotate_left; (intro w hw; clear hw; (try go_split_ands); go_simp; try (with_reducible rfl)); simp only [Act.put, List.setIfInBounds_toArray, List.set_cons_zero, List.set_cons_succ])
            (refine Walk.take (i := 5) (oi := { dst := some 49, op := Op.load 3 (Operand.tmp 48), type := 3, pos := "more.go:20", after := #[{ on := 4, ground := Ground.data }], guard := none }) (v := ?_) rfl (by kernel_rfl) (by kernel_rfl) (by kernel_rfl) (by kernel_rfl) (fun _ _ _ h => h) (Or.inl ⟨by rfl, ?_⟩) ?_; rotate_left; (intro w hw; have hS1 := hw.1 (by kernel_rfl); clear hw; (try dsimp only at hS1); (try go_split_ands); go_simp; try (with_reducible rfl)); simp only [Act.put, List.setIfInBounds_toArray, List.set_cons_zero, List.set_cons_succ])
            (refine Walk.take (i := 6) (oi := { dst := some 50, op := Op.binOp BinOp.neq 3 (Operand.tmp 46) (Operand.tmp 49) 3, type := 4, pos := "more.go:20", after := #[{ on := 2, ground := Ground.data }, { on := 5, ground := Ground.data }], guard := none }) (v := ?_) rfl (by kernel_rfl) (by kernel_rfl) (by kernel_rfl) (by kernel_rfl) (fun _ _ _ h => h) (Or.inl ⟨by rfl, ?_⟩) ?_; rotate_left; (intro w hw; clear hw; (try go_split_ands); go_simp; try (with_reducible rfl)); simp only [Act.put, List.setIfInBounds_toArray, List.set_cons_zero, List.set_cons_succ])
            refine Walk.done (by kernel_rfl) ?_ _
            go_wp2_with fail
            go_roundw
            case rel => exact ⟨k + 1, by omega, by omega, by go_num, HX.out⟩
            case measure => simp [intOf]; omega
        · obtain rfl : k = 64 := by omega
          have cG := kk.head.cell 0 (by omega)
          have cF := (kk.get (b := FB) (t := 23) (c := tab .i64 64 (fwd f)) (by simp)).cell 0 (by omega)
          have h1 := HS1.out
          have h2 := HM.out.2
          have h3 := (fwd_ends f HF.out 0 (by omega)).1
          obtain ⟨P, hP⟩ : ∃ z, fwd f 0 = z := ⟨_, rfl⟩
          obtain ⟨Q, hQ⟩ : ∃ z, fwd (fun j => f j + a2) 0 = z := ⟨_, rfl⟩
          obtain ⟨N, hN⟩ : ∃ z, sumTo f 64 = z := ⟨_, rfl⟩
          rw [hN] at b2 h1
          rw [hP] at cF h1 h2 h3
          rw [hQ] at cG h2
          rw [hN]
          have r0 : ∀ _ : True, wrap64 (8 * P) = 8 * P := fun _ => w64 _ (by omega)
          have r1 : ∀ _ : True, wrap64 (8 * P - N) = 8 * P - N := fun _ => w64 _ (by omega)
          have HD : Hid (decide (-5 ≤ 8 * P - N) = true ∧ decide (8 * P - N ≤ 5) = true ∧ decide (P ≤ Q) = true) := ⟨decide_eq_true (by omega), decide_eq_true (by omega), decide_eq_true (by omega)⟩
          have HP : Hid _ := hP
          have HQ : Hid _ := hQ
          clear hP hQ hN h1 h2 h3 b2 HF HM HS1 HSB
          go_upto_region 17 with fail
          first | rw [r1 trivial] | skip
          clear r0 r1 cG cF
          go_wp2_with fail
          refine (known_any _ (hT.but kk.but)).mono ?_
          rintro e x9 ⟨rfl, dd⟩
          replace kk := kk.step dd
          clear dd
          have cG := kk.head.cell 0 (by omega)
          have cF := (kk.get (b := FB) (t := 23) (c := tab .i64 64 (fwd f)) (by simp)).cell 0 (by omega)
          rw [HP.out] at cF
          rw [HQ.out] at cG
          obtain ⟨q1, q2, q3⟩ := HD.out
          go_wp2_with fail
          go_ret
          exact ⟨rfl, kk.but⟩

set_option maxRecDepth 100000 in
theorem lifted (os : Os) (started : os.Started) (H : Type) (enc : TypeId × Value → H) :
    ReturnsInHanded {} Tryd.checked os 8 .any (fun w args => (Rows.dctSumSpec.pre enc Tryd.prog Tryd.f8 Rows.dctSumRow.domain false w args ∧ laidMetH Tryd.prog Rows.dctSumRow.laid w) ∧ sizedMet enc Tryd.prog Tryd.f8 (OpenSpec.ofChange Rows.dctSumSpec) false w args) (Rows.dctSumSpec.post enc Tryd.prog Tryd.f8 false true false false) := by
  refine returnsInHanded_of_change_and (C := Tryd.checked) (X := fun w _ => laidMetH Tryd.prog laidL w) (fun _ _ _ hh h => h.of_heap hh) own started (by kernel_rfl) Tryd.func8
    (ChangeSpec.witness_shaped (enc := enc) (C := Tryd.checked) (os := os) (X := fun w _ => laidMetH Tryd.prog laidL w) false (World.laidAll Tryd.prog os laidL) #[.slice none 0 0, .int .u8 0, .int .u8 0] 8 (World.laidAll_os _ _ _) (World.shaped_of_ZipB (by kernel_rfl) (by kernel_rfl)) (by kernel_rfl) (by kernel_rfl) (by kernel_rfl) (by rw [MakeChecks.laidMetH_plain _ _ _ (by kernel_rfl)]; exact laidMet_laidAll _ (by kernel_rfl) (by kernel_rfl))) ?_
  intro W base args ds gs before hval0 hW hcnd hsz0 hL0 _
  have hTW := tab_of_laid hL0
  have hval : ∀ (j : Nat) t v, Tryd.f8.params[j]? = some t → args[j]? = some v → Value.okWide Tryd.prog W .any base t v := hval0
  have hsz : (DataW.weightsEach Tryd.prog (Tryd.f8.params.toList ++ Rows.dctSumSpec.plain.varTypes Tryd.prog) (ds ++ gs)).all (· ≤ reachBytes) = true := hsz0
  have hW' := hW
  obtain ⟨p, q, hA0, hV, rfl, hfz, hnd⟩ := hW
  have hA : DataW.TrodAll enc Tryd.prog W 0 (fun _ => true) true Tryd.f8.params.toList args.toList ds p := hA0
  rw [Tryd.params8] at hA hval hsz
  obtain ⟨v0, vs0, d0, ds0, p0, q0, hargs, rfl, rfl, h0, r0⟩ := trodAll_cons hA
  obtain ⟨v1, vs1, d1, ds1, p1, q1, rfl, rfl, rfl, h1, r1⟩ := trodAll_cons r0
  obtain ⟨v2, vs2, d2, ds2, p2, q2, rfl, rfl, rfl, h2, r2⟩ := trodAll_cons r1
  obtain ⟨rfl, rfl, rfl⟩ := trodAll_nil r2
  obtain rfl : args = #[v0, v1, v2] := by cases args; simp_all
  obtain ⟨rfl, rfl⟩ := trodVars_none hV
  obtain ⟨l0, ⟨s0, x0⟩, e0⟩ := open_bytes (hval 0 24 v0 rfl rfl) h0
  have n0 := bytes_small hsz (j := 0) rfl rfl e0
  obtain ⟨a1, rfl, rfl, rfl, w1⟩ := open_int Tryd.underlying5 (hval 1 5 v1 rfl rfl) h1
  obtain ⟨a2, rfl, rfl, rfl, w2⟩ := open_int Tryd.underlying5 (hval 2 5 v2 rfl rfl) h2
  clear hA0 hval0
  refine (walk W hTW v0 l0 s0 x0 n0 a1 w1 a2 w2).mono fun e W' ⟨he, hg⟩ => ?_
  subst he
  exact ⟨_, rfl, law_post laidOut readable rfl Tryd.underlying4 rfl rfl hW' hg.below⟩

theorem over : Rows.dctSumRow.holds Tryd.pinned (OpenSpec.ofChange Rows.dctSumSpec) :=
  OpenClaim.holds_of_wide 8 Tryd.f8 rfl rfl rfl rfl rfl rfl rfl ⟨rfl, rfl, rfl, rfl, rfl⟩ rfl rfl rfl rfl rfl (by kernel_rfl) Tryd.func8 (by kernel_rfl)
    (of_decide_eq_true (by kernel_rfl)) (by unfold Func.isWrapper; first | (rw [if_pos (by decide +kernel)]; kernel_rfl) | (rw [if_neg (by decide +kernel)]; exact ⟨rfl, rfl⟩))
    (fun os started H enc _ => lifted os started H enc)

end Go.Proofs.YtlidijlmbelhhaaDoor.dctSum
namespace Go.Proofs.YtlidijlmbelhhaaDoor
set_option maxRecDepth 100000 in
theorem dctSum_holds : Rows.DctSumCardSaid :=
  Claim7.holds_tied_plain_at .later [] [.data] true (true, "c0c7664018938c434e71cfd2d2174dff01844ca891f7fb176941030ca0ec6212") false dctSum.over (fun _ h => by cases h) (by kernel_rfl) (fun _ h => by cases h) dctSum_row_tie rfl ⟨rfl, rfl⟩ (by kernel_rfl) rfl
    (fun f fn hf hfn => by
      obtain rfl : f = 8 := Option.some.inj ((show Tryd.prog.funcNamed "cyanotype/cyanotypelaw08.DctSum" = some 8 by kernel_rfl).symm.trans hf) |>.symm
      obtain rfl : fn = Tryd.f8 := (Option.some.inj (Tryd.func8.symm.trans hfn)).symm
      exact ⟨by kernel_rfl, fun j t ht => by
        rw [Tryd.params8] at ht
        have hm : t ∈ [24, 5, 5] := by simpa using Array.mem_of_getElem? ht
        have hall : ([24, 5, 5].all fun u => !Tryd.prog.wantsStandIn u) = true := by kernel_rfl
        exact (show Tryd.prog.wantsStandIn t = false by simpa using List.all_eq_true.1 hall t hm)⟩)
    (by kernel_rfl)
#print axioms dctSum_holds
end Go.Proofs.YtlidijlmbelhhaaDoor
