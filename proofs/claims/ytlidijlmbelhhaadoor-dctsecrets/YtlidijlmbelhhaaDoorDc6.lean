/- A block turned, of numbers: clipped, weighed across and down, rounded. -/
import Derived.Test.YtlidijlmbelhhaaDoorDc4
import Derived.Test.YtlidijlmbelhhaaDoorDc5
import Derived.Deep.CutRange
namespace Go.Proofs.YtlidijlmbelhhaaDoor
set_option linter.unusedVariables false
open Go.ChangeShapes Go.WideShapes Go.ChangeAt Go.RowKit

theorem Cells.all {W : World} {b : Nat} {t : TypeId} {l : List Value} (h : Cells W b t l) : W.rangeAt b 0 l := fun j v hv => by rw [Nat.zero_add, h.at]; exact hv

theorem Keep.layAll {w W : World} {l : List Bk} {b : Nat} {t : TypeId} {k : IntKind} {m : Nat} {f : Nat → Int} (h : Keep w W ((b, t, tab k m f) :: l)) (g : Nat → Int) : Keep w (W.setCells b 0 (tab k m g)) ((b, t, tab k m g) :: l) := by
  have hp := List.pairwise_cons.1 h.apart
  have hS : But (fun x => x = b) W (W.setCells b 0 (tab k m g)) := But.setCells (S := fun x => x = b) _ (But.refl _ _) (fun _ => rfl) 0
  refine ⟨But.setCells _ h.but (fun q => by have := h.new (b, t, tab k m f) (by simp); simp at this q; omega) 0, fun x hx => ?_, fun x hx => ?_, List.pairwise_cons.2 ⟨hp.1, hp.2⟩⟩
  · rcases List.mem_cons.1 hx with rfl | hx
    · exact h.new (b, t, tab k m f) (by simp)
    · exact h.new x (by simp [hx])
  · rcases List.mem_cons.1 hx with rfl | hx
    · exact h.head.layAll g
    · exact (h.holds x (by simp [hx])).but hS (Ne.symm (hp.1 x hx))

theorem Keep.zero {w W : World} {l : List Bk} (h : Keep w W l) (t : TypeId) : Keep w (W.alloc (.cells ((Value.int .i64 0 :: Value.int .i64 0 :: Value.int .i64 0 :: Value.int .i64 0 :: Value.int .i64 0 :: Value.int .i64 0 :: Value.int .i64 0 :: Value.int .i64 0 :: Value.int .i64 0 :: Value.int .i64 0 :: Value.int .i64 0 :: Value.int .i64 0 :: Value.int .i64 0 :: Value.int .i64 0 :: Value.int .i64 0 :: Value.int .i64 0 :: Value.int .i64 0 :: Value.int .i64 0 :: Value.int .i64 0 :: Value.int .i64 0 :: Value.int .i64 0 :: Value.int .i64 0 :: Value.int .i64 0 :: Value.int .i64 0 :: Value.int .i64 0 :: Value.int .i64 0 :: Value.int .i64 0 :: Value.int .i64 0 :: Value.int .i64 0 :: Value.int .i64 0 :: Value.int .i64 0 :: Value.int .i64 0 :: Value.int .i64 0 :: Value.int .i64 0 :: Value.int .i64 0 :: Value.int .i64 0 :: Value.int .i64 0 :: Value.int .i64 0 :: Value.int .i64 0 :: Value.int .i64 0 :: Value.int .i64 0 :: Value.int .i64 0 :: Value.int .i64 0 :: Value.int .i64 0 :: Value.int .i64 0 :: Value.int .i64 0 :: Value.int .i64 0 :: Value.int .i64 0 :: Value.int .i64 0 :: Value.int .i64 0 :: Value.int .i64 0 :: Value.int .i64 0 :: Value.int .i64 0 :: Value.int .i64 0 :: Value.int .i64 0 :: Value.int .i64 0 :: Value.int .i64 0 :: Value.int .i64 0 :: Value.int .i64 0 :: Value.int .i64 0 :: Value.int .i64 0 :: Value.int .i64 0 :: Value.int .i64 0 :: Value.int .i64 0 :: [])).toArray t)) ((W.heap.size, t, tab .i64 64 (fun _ => 0)) :: l) := sixtyfour ▸ h.made t (Value.int .i64 0 :: Value.int .i64 0 :: Value.int .i64 0 :: Value.int .i64 0 :: Value.int .i64 0 :: Value.int .i64 0 :: Value.int .i64 0 :: Value.int .i64 0 :: Value.int .i64 0 :: Value.int .i64 0 :: Value.int .i64 0 :: Value.int .i64 0 :: Value.int .i64 0 :: Value.int .i64 0 :: Value.int .i64 0 :: Value.int .i64 0 :: Value.int .i64 0 :: Value.int .i64 0 :: Value.int .i64 0 :: Value.int .i64 0 :: Value.int .i64 0 :: Value.int .i64 0 :: Value.int .i64 0 :: Value.int .i64 0 :: Value.int .i64 0 :: Value.int .i64 0 :: Value.int .i64 0 :: Value.int .i64 0 :: Value.int .i64 0 :: Value.int .i64 0 :: Value.int .i64 0 :: Value.int .i64 0 :: Value.int .i64 0 :: Value.int .i64 0 :: Value.int .i64 0 :: Value.int .i64 0 :: Value.int .i64 0 :: Value.int .i64 0 :: Value.int .i64 0 :: Value.int .i64 0 :: Value.int .i64 0 :: Value.int .i64 0 :: Value.int .i64 0 :: Value.int .i64 0 :: Value.int .i64 0 :: Value.int .i64 0 :: Value.int .i64 0 :: Value.int .i64 0 :: Value.int .i64 0 :: Value.int .i64 0 :: Value.int .i64 0 :: Value.int .i64 0 :: Value.int .i64 0 :: Value.int .i64 0 :: Value.int .i64 0 :: Value.int .i64 0 :: Value.int .i64 0 :: Value.int .i64 0 :: Value.int .i64 0 :: Value.int .i64 0 :: Value.int .i64 0 :: Value.int .i64 0 :: Value.int .i64 0 :: Value.int .i64 0 :: [])

theorem clp_of (b : Nat → Int) (lo hi : Int) (k : Nat) : clipF (b k) lo hi = clp lo hi b k := rfl

set_option maxHeartbeats 6400000 in
set_option maxRecDepth 100000 in
theorem turnNT_any (b : Nat → Int) (w : World) (ht : Tab w) : Calls Tryd.prog 24 #[.agg rkN.toArray, .agg wayT.toArray, .agg (tab .i64 64 b).toArray] w fun e w' =>
    e = .returned (.agg (tab .i64 64 (turnF (-4096) 4096 fac b)).toArray) ∧ But Nowhere w w' := by
  have hu := Tryd.underlying22
  have huR := Tryd.underlying44
  have huW := Tryd.underlying47
  have huM := Tryd.underlying60
  have hiR : (Tryd.prog.info? 44).map (·.size) = some rkN.length := by kernel_rfl
  have hiW : (Tryd.prog.info? 47).map (·.size) = some wayT.length := by kernel_rfl
  have hiA : ∀ f, (Tryd.prog.info? 22).map (·.size) = some (tab .i64 64 f).length := fun f => by rw [tab_length]; kernel_rfl
  have hiB : ∀ f, (Tryd.prog.info? 22).map (·.size) = some (tab .i64 64 f).toArray.size := fun f => by rw [List.size_toArray, tab_length]; kernel_rfl
  have hiM : (Tryd.prog.info? 60).map (·.size) = some (tab .i64 64 (tb8 fac)).toArray.size := by rw [List.size_toArray, tab_length]; kernel_rfl
  have hiM' : (Tryd.prog.info? 60).map (·.size) = some (tab .i64 64 (tb8 fac)).length := by rw [tab_length]; kernel_rfl
  have b1 : ∀ j, j < 64 → -4096 ≤ (clp (-4096) 4096 b) j ∧ (clp (-4096) 4096 b) j ≤ 4096 := fun j _ => by have := clp_bd (lo := (-4096)) (hi := 4096) b j (by omega); omega
  have b2 : ∀ j, j < 64 → -(4113712 * 4096) ≤ (wgt fac (clp (-4096) 4096 b)) j ∧ (wgt fac (clp (-4096) 4096 b)) j ≤ 4113712 * 4096 := fun j hj => wgt_in fac_bd b1 j hj
  have HB3 : Hid (∀ j, j < 64 → -1152921504606846976 ≤ (wgt fac (wgt fac (clp (-4096) 4096 b))) j ∧ (wgt fac (wgt fac (clp (-4096) 4096 b))) j ≤ 1152921504606846976) := fun j hj => by have := wgt_in fac_bd b2 j hj; omega
  have HC1 : Hid (∀ V, Calls Tryd.prog 34 #[.agg rkN.toArray, .agg (tab .i64 64 (tb8 fac)).toArray, .agg (tab .i64 64 (clp (-4096) 4096 b)).toArray] V fun e w' => e = .returned (.agg (tab .i64 64 (wgt fac (clp (-4096) 4096 b))).toArray) ∧ But Nowhere V w') := fun V => weighedN_any fac (clp (-4096) 4096 b) 4096 (by omega) fac_bd b1 V
  have HC2 : Hid (∀ V, Calls Tryd.prog 34 #[.agg rkN.toArray, .agg (tab .i64 64 (tb8 fac)).toArray, .agg (tab .i64 64 (wgt fac (clp (-4096) 4096 b))).toArray] V fun e w' => e = .returned (.agg (tab .i64 64 (wgt fac (wgt fac (clp (-4096) 4096 b)))).toArray) ∧ But Nowhere V w') := fun V => weighedN_any fac (wgt fac (clp (-4096) 4096 b)) (4113712 * 4096) (by omega) fac_bd b2 V
  clear b1 b2
  have kk := ((((Keep.start w).made 44 rkN).made 47 wayT).made 22 (tab .i64 64 b)).zero 22
  simp only [World.size_alloc] at kk
  go_enter Tryd.func24, Tryd.ntmps24
  go_wp2_with (refine wpList_load_mid rfl 22 (.tmp 5) rfl (w.heap.size + 1 + 1) 0 rfl (tab .i64 64 b) _ ?_ hu rfl (hiA _) ?_; exact (kk.get (b := w.heap.size + 1 + 1) (t := 22) (c := tab .i64 64 b) (by simp)).all)
  revert kk
  generalize ((((w.alloc (.cells rkN.toArray 44)).alloc (.cells wayT.toArray 47)).alloc (.cells (tab .i64 64 b).toArray 22)).alloc (.cells (Value.int .i64 0 :: Value.int .i64 0 :: Value.int .i64 0 :: Value.int .i64 0 :: Value.int .i64 0 :: Value.int .i64 0 :: Value.int .i64 0 :: Value.int .i64 0 :: Value.int .i64 0 :: Value.int .i64 0 :: Value.int .i64 0 :: Value.int .i64 0 :: Value.int .i64 0 :: Value.int .i64 0 :: Value.int .i64 0 :: Value.int .i64 0 :: Value.int .i64 0 :: Value.int .i64 0 :: Value.int .i64 0 :: Value.int .i64 0 :: Value.int .i64 0 :: Value.int .i64 0 :: Value.int .i64 0 :: Value.int .i64 0 :: Value.int .i64 0 :: Value.int .i64 0 :: Value.int .i64 0 :: Value.int .i64 0 :: Value.int .i64 0 :: Value.int .i64 0 :: Value.int .i64 0 :: Value.int .i64 0 :: Value.int .i64 0 :: Value.int .i64 0 :: Value.int .i64 0 :: Value.int .i64 0 :: Value.int .i64 0 :: Value.int .i64 0 :: Value.int .i64 0 :: Value.int .i64 0 :: Value.int .i64 0 :: Value.int .i64 0 :: Value.int .i64 0 :: Value.int .i64 0 :: Value.int .i64 0 :: Value.int .i64 0 :: Value.int .i64 0 :: Value.int .i64 0 :: Value.int .i64 0 :: Value.int .i64 0 :: Value.int .i64 0 :: Value.int .i64 0 :: Value.int .i64 0 :: Value.int .i64 0 :: Value.int .i64 0 :: Value.int .i64 0 :: Value.int .i64 0 :: Value.int .i64 0 :: Value.int .i64 0 :: Value.int .i64 0 :: Value.int .i64 0 :: Value.int .i64 0 :: Value.int .i64 0 :: Value.int .i64 0 :: []).toArray 22)) = W4
  intro kk
  replace kk := kk.swap
  go_loopw [14] (fun i V => ∃ k : Nat, k ≤ 64 ∧ i = .int .i64 k ∧ Keep w V [(w.heap.size + 1 + 1, 22, tab .i64 64 (fun j => if j < k then (clp (-4096) 4096 b) j else b j)), (w.heap.size + 1 + 1 + 1, 22, tab .i64 64 (fun _ => 0)), (w.heap.size + 1, 47, wayT), (w.heap.size, 44, rkN)]) (fun i _ => 64 - (intOf i).toNat)
  case atStart => exact ⟨0, Nat.zero_le _, rfl, by rw [tab_congr .i64 64 (fun j => if j < 0 then (clp (-4096) 4096 b) j else b j) b (fun j _ => if_neg (by omega))]; exact kk⟩
  case round =>
    clear kk
    obtain ⟨k, hk, rfl, kk⟩ := hrel
    by_cases hlt : k < 64
    · have i0 : (0 : Int) ≤ (k : Int) := by omega
      have i1 : (k : Int) < 64 := by omega
      have x0 := index_tab b k hlt
      have c0 := kk.head.cell k hlt
      have f0 := kk.head.frozen k
      simp only [Nat.lt_irrefl, if_false] at c0
      have dR := (kk.get (b := w.heap.size) (t := 44) (c := rkN) (by simp)).at 3
      have dW0 := (kk.get (b := w.heap.size + 1) (t := 47) (c := wayT) (by simp)).at 0
      have dW1 := (kk.get (b := w.heap.size + 1) (t := 47) (c := wayT) (by simp)).at 1
      simp only [List.getElem?_cons_zero, List.getElem?_cons_succ] at dR dW0 dW1
      have kX := kk.set k (.int .i64 ((clp (-4096) 4096 b) k))
      rw [tab_grow .i64 64 (clp (-4096) 4096 b) b k] at kX
      have HX : Hid _ := kX
      clear kX kk
      go_wp2_with (go_at_call 38; refine (numClip_any _ _ _ _).mono ?_; rintro e x1 ⟨rfl, rfl⟩; rw [clp_of])
      go_roundw
      case rel => exact ⟨k + 1, by omega, by go_num, HX.out⟩
      case measure => simp [intOf]; omega
    · obtain rfl : k = 64 := by omega
      rw [tab_full] at kk
      have hrR := (kk.get (b := w.heap.size) (t := 44) (c := rkN) (by simp)).all
      have hrW := (kk.get (b := w.heap.size + 1) (t := 47) (c := wayT) (by simp)).all
      go_wp2_with (first | (refine wpList_load_mid rfl 44 (.tmp 3) rfl (w.heap.size) 0 rfl rkN _ ?_ huR rfl hiR ?_; exact hrR) | (refine wpList_load_mid rfl 47 (.tmp 4) rfl (w.heap.size + 1) 0 rfl wayT _ ?_ huW rfl hiW ?_; exact hrW))
      refine (weightsNT_any _ (ht.but kk.but)).mono ?_
      rintro e x1 ⟨rfl, bb⟩
      replace kk := (kk.step bb).zero 60
      have hth := kk.head.there 0 (tab .i64 64 (tb8 fac)).toArray.size (by rw [List.size_toArray, tab_length, tab_length]; omega)
      replace kk := kk.layAll (tb8 fac)
      have HX : Hid _ := kk
      clear kk bb hrR hrW
      go_wp2_with (refine wpList_store_mid rfl 60 (.tmp 9) (.tmp 31) rfl x1.heap.size 0 (tab .i64 64 (tb8 fac)).toArray rfl rfl ?_ hiM (tab_all _ _ _) ?_; exact hth)
      have kk := HX.out
      clear HX hth
      revert kk
      generalize x1.heap.size = MB
      generalize (x1.alloc (.cells (Value.int .i64 0 :: Value.int .i64 0 :: Value.int .i64 0 :: Value.int .i64 0 :: Value.int .i64 0 :: Value.int .i64 0 :: Value.int .i64 0 :: Value.int .i64 0 :: Value.int .i64 0 :: Value.int .i64 0 :: Value.int .i64 0 :: Value.int .i64 0 :: Value.int .i64 0 :: Value.int .i64 0 :: Value.int .i64 0 :: Value.int .i64 0 :: Value.int .i64 0 :: Value.int .i64 0 :: Value.int .i64 0 :: Value.int .i64 0 :: Value.int .i64 0 :: Value.int .i64 0 :: Value.int .i64 0 :: Value.int .i64 0 :: Value.int .i64 0 :: Value.int .i64 0 :: Value.int .i64 0 :: Value.int .i64 0 :: Value.int .i64 0 :: Value.int .i64 0 :: Value.int .i64 0 :: Value.int .i64 0 :: Value.int .i64 0 :: Value.int .i64 0 :: Value.int .i64 0 :: Value.int .i64 0 :: Value.int .i64 0 :: Value.int .i64 0 :: Value.int .i64 0 :: Value.int .i64 0 :: Value.int .i64 0 :: Value.int .i64 0 :: Value.int .i64 0 :: Value.int .i64 0 :: Value.int .i64 0 :: Value.int .i64 0 :: Value.int .i64 0 :: Value.int .i64 0 :: Value.int .i64 0 :: Value.int .i64 0 :: Value.int .i64 0 :: Value.int .i64 0 :: Value.int .i64 0 :: Value.int .i64 0 :: Value.int .i64 0 :: Value.int .i64 0 :: Value.int .i64 0 :: Value.int .i64 0 :: Value.int .i64 0 :: Value.int .i64 0 :: Value.int .i64 0 :: Value.int .i64 0 :: Value.int .i64 0 :: Value.int .i64 0 :: []).toArray 60)).setCells MB 0 (tab .i64 64 (tb8 fac)) = W6
      intro kk
      simp only [Act.put]
      go_cut [10] from 10 to 38 (fun s V => ∃ nb, s = .pointer (some ⟨nb, 0, none⟩) ∧ Keep w V ((nb, 22, tab .i64 64 (wgt fac (wgt fac (clp (-4096) 4096 b)))) :: (MB, 60, tab .i64 64 (tb8 fac)) :: [(w.heap.size + 1 + 1, 22, tab .i64 64 ((clp (-4096) 4096 b))), (w.heap.size + 1 + 1 + 1, 22, tab .i64 64 (fun _ => 0)), (w.heap.size + 1, 47, wayT), (w.heap.size, 44, rkN)]))
      case first =>
        replace kk := kk.drew
        refine wp_region_till (S := fun V => V.rangeAt (w.heap.size) 0 rkN ∧ V.rangeAt MB 0 (tab .i64 64 (tb8 fac)) ∧ V.rangeAt (w.heap.size + 1 + 1) 0 (tab .i64 64 (clp (-4096) 4096 b))) (R := fun _ => True) (k := 100) (m := 100) (by kernel_rfl) ⟨(kk.get (b := w.heap.size) (t := 44) (c := rkN) (by simp)).all, (kk.get (b := MB) (t := 60) (c := tab .i64 64 (tb8 fac)) (by simp)).all, (kk.get (b := w.heap.size + 1 + 1) (t := 22) (c := tab .i64 64 (clp (-4096) 4096 b)) (by simp)).all⟩ trivial ?_
        revert kk
        generalize W6.drew = WD
        intro kk
        (refine Walk.take (i := 0) (oi := { dst := some 32, op := Op.load 44 (Operand.tmp 3), type := 44, pos := "dct.go:88", after := #[], guard := none }) (v := .agg (rkN).toArray) rfl (by kernel_rfl) (by kernel_rfl) (by kernel_rfl) (by kernel_rfl) (fun _ _ _ h => h) (yieldsIf_load_mid rfl 44 (.tmp 3) rfl (w.heap.size) 0 rfl (rkN) _ (fun w hw => (hw.1 (by kernel_rfl)).1) huR rfl (hiR)) ?_; simp only [Act.put, List.setIfInBounds_toArray, List.set_cons_zero, List.set_cons_succ])
        (refine Walk.take (i := 1) (oi := { dst := some 33, op := Op.load 60 (Operand.tmp 9), type := 60, pos := "dct.go:88", after := #[], guard := none }) (v := .agg (tab .i64 64 (tb8 fac)).toArray) rfl (by kernel_rfl) (by kernel_rfl) (by kernel_rfl) (by kernel_rfl) (fun _ _ _ h => h) (yieldsIf_load_mid rfl 60 (.tmp 9) rfl (MB) 0 rfl (tab .i64 64 (tb8 fac)) _ (fun w hw => (hw.1 (by kernel_rfl)).2.1) huM rfl (hiM')) ?_; simp only [Act.put, List.setIfInBounds_toArray, List.set_cons_zero, List.set_cons_succ])
        (refine Walk.take (i := 2) (oi := { dst := some 34, op := Op.load 44 (Operand.tmp 3), type := 44, pos := "dct.go:88", after := #[], guard := none }) (v := .agg (rkN).toArray) rfl (by kernel_rfl) (by kernel_rfl) (by kernel_rfl) (by kernel_rfl) (fun _ _ _ h => h) (yieldsIf_load_mid rfl 44 (.tmp 3) rfl (w.heap.size) 0 rfl (rkN) _ (fun w hw => (hw.1 (by kernel_rfl)).1) huR rfl (hiR)) ?_; simp only [Act.put, List.setIfInBounds_toArray, List.set_cons_zero, List.set_cons_succ])
        (refine Walk.take (i := 3) (oi := { dst := some 35, op := Op.load 60 (Operand.tmp 9), type := 60, pos := "dct.go:88", after := #[], guard := none }) (v := .agg (tab .i64 64 (tb8 fac)).toArray) rfl (by kernel_rfl) (by kernel_rfl) (by kernel_rfl) (by kernel_rfl) (fun _ _ _ h => h) (yieldsIf_load_mid rfl 60 (.tmp 9) rfl (MB) 0 rfl (tab .i64 64 (tb8 fac)) _ (fun w hw => (hw.1 (by kernel_rfl)).2.1) huM rfl (hiM')) ?_; simp only [Act.put, List.setIfInBounds_toArray, List.set_cons_zero, List.set_cons_succ])
        (refine Walk.take (i := 4) (oi := { dst := some 36, op := Op.load 22 (Operand.tmp 5), type := 22, pos := "dct.go:88", after := #[], guard := none }) (v := .agg (tab .i64 64 (clp (-4096) 4096 b)).toArray) rfl (by kernel_rfl) (by kernel_rfl) (by kernel_rfl) (by kernel_rfl) (fun _ _ _ h => h) (yieldsIf_load_mid rfl 22 (.tmp 5) rfl (w.heap.size + 1 + 1) 0 rfl (tab .i64 64 (clp (-4096) 4096 b)) _ (fun w hw => (hw.1 (by kernel_rfl)).2.2) hu rfl (hiA _)) ?_; simp only [Act.put, List.setIfInBounds_toArray, List.set_cons_zero, List.set_cons_succ])
        refine Walk.both (i := 5) (j := 7) (oi := { dst := some 37, op := Op.call { callee := Callee.value (Operand.func 34), args := #[Operand.tmp 34, Operand.tmp 35, Operand.tmp 36], argTypes := #[44, 60, 22] }, type := 22, pos := "dct.go:88", after := #[{ on := 2, ground := Ground.data }, { on := 3, ground := Ground.data }, { on := 4, ground := Ground.data }], guard := none }) (oj := { dst := some 10, op := Op.alloc 22, type := 0, pos := "dct.go:88", after := #[], guard := none }) (by kernel_rfl) rfl rfl (fun K hK => ?_) (fun K hK => ?_)
        · go_simp; ((go_at_call 34; refine (HC1.out _).mono ?_; rintro e x5 ⟨rfl, dd⟩; replace kk := kk.step dd; clear dd)); refine hK.out _ _ (⟨fun _ => ⟨(kk.get (b := w.heap.size) (t := 44) (c := rkN) (by simp)).all, (kk.get (b := MB) (t := 60) (c := tab .i64 64 (tb8 fac)) (by simp)).all, (kk.get (b := w.heap.size + 1 + 1) (t := 22) (c := tab .i64 64 (clp (-4096) 4096 b)) (by simp)).all⟩, fun _ => trivial⟩) ?_; clear hK K; try simp only [Act.put, List.setIfInBounds_toArray, List.set_cons_zero, List.set_cons_succ]
          refine Walk.both (i := 6) (j := 7) (oi := { dst := some 38, op := Op.call { callee := Callee.value (Operand.func 34), args := #[Operand.tmp 32, Operand.tmp 33, Operand.tmp 37], argTypes := #[44, 60, 22] }, type := 22, pos := "dct.go:88", after := #[{ on := 0, ground := Ground.data }, { on := 1, ground := Ground.data }, { on := 5, ground := Ground.data }, { on := 5, ground := Ground.chain }], guard := none }) (oj := { dst := some 10, op := Op.alloc 22, type := 0, pos := "dct.go:88", after := #[], guard := none }) (by kernel_rfl) rfl rfl (fun K hK => ?_) (fun K hK => ?_)
          · go_simp; ((go_at_call 34; refine (HC2.out _).mono ?_; rintro e x6 ⟨rfl, dd⟩; replace kk := kk.step dd; clear dd)); refine hK.out _ _ (⟨fun _ => ⟨(kk.get (b := w.heap.size) (t := 44) (c := rkN) (by simp)).all, (kk.get (b := MB) (t := 60) (c := tab .i64 64 (tb8 fac)) (by simp)).all, (kk.get (b := w.heap.size + 1 + 1) (t := 22) (c := tab .i64 64 (clp (-4096) 4096 b)) (by simp)).all⟩, fun _ => trivial⟩) ?_; clear hK K; try simp only [Act.put, List.setIfInBounds_toArray, List.set_cons_zero, List.set_cons_succ]
            (refine Walk.go (i := 7) (o := { dst := some 10, op := Op.alloc 22, type := 0, pos := "dct.go:88", after := #[], guard := none }) (by kernel_rfl) rfl (fun K hK => ?_); go_simp; (replace kk := kk.zero 22); refine hK.out _ _ (⟨fun _ => ⟨(kk.get (b := w.heap.size) (t := 44) (c := rkN) (by simp)).all, (kk.get (b := MB) (t := 60) (c := tab .i64 64 (tb8 fac)) (by simp)).all, (kk.get (b := w.heap.size + 1 + 1) (t := 22) (c := tab .i64 64 (clp (-4096) 4096 b)) (by simp)).all⟩, fun _ => trivial⟩) ?_; clear hK K; try simp only [Act.put, List.setIfInBounds_toArray, List.set_cons_zero, List.set_cons_succ])
            (refine Walk.go (i := 8) (o := { dst := none, op := Op.store 22 (Operand.tmp 10) (Operand.tmp 38), type := 0, pos := "dct.go:88", after := #[{ on := 7, ground := Ground.data }, { on := 6, ground := Ground.data }, { on := 6, ground := Ground.chain }, { on := 0, ground := Ground.phase }, { on := 1, ground := Ground.phase }, { on := 2, ground := Ground.phase }, { on := 3, ground := Ground.phase }, { on := 4, ground := Ground.phase }, { on := 5, ground := Ground.phase }, { on := 6, ground := Ground.phase }, { on := 7, ground := Ground.phase }], guard := none }) (by kernel_rfl) rfl (fun K hK => ?_); refine wp_store_mid 22 (.tmp 10) (.tmp 38) rfl _ 0 (tab .i64 64 (wgt fac (wgt fac (clp (-4096) 4096 b)))).toArray rfl rfl (kk.head.there 0 _ (by rw [List.size_toArray, tab_length, tab_length]; omega)) (hiB _) (tab_all _ _ _) ?_; (replace kk := kk.layAll (wgt fac (wgt fac (clp (-4096) 4096 b)))); refine hK.out _ _ (⟨fun _ => ⟨(kk.get (b := w.heap.size) (t := 44) (c := rkN) (by simp)).all, (kk.get (b := MB) (t := 60) (c := tab .i64 64 (tb8 fac)) (by simp)).all, (kk.get (b := w.heap.size + 1 + 1) (t := 22) (c := tab .i64 64 (clp (-4096) 4096 b)) (by simp)).all⟩, fun _ => trivial⟩) ?_; clear hK K; try simp only [Act.put])
            refine Walk.done (by kernel_rfl) ?_ _
            go_wp2_with fail
            go_meet
            case rel => exact ⟨_, rfl, kk⟩
          · go_simp; (replace kk := kk.zero 22); refine hK.out _ _ (⟨fun _ => ⟨(kk.get (b := w.heap.size) (t := 44) (c := rkN) (by simp)).all, (kk.get (b := MB) (t := 60) (c := tab .i64 64 (tb8 fac)) (by simp)).all, (kk.get (b := w.heap.size + 1 + 1) (t := 22) (c := tab .i64 64 (clp (-4096) 4096 b)) (by simp)).all⟩, fun _ => trivial⟩) ?_; clear hK K; try simp only [Act.put, List.setIfInBounds_toArray, List.set_cons_zero, List.set_cons_succ]
            (refine Walk.go (i := 6) (o := { dst := some 38, op := Op.call { callee := Callee.value (Operand.func 34), args := #[Operand.tmp 32, Operand.tmp 33, Operand.tmp 37], argTypes := #[44, 60, 22] }, type := 22, pos := "dct.go:88", after := #[{ on := 0, ground := Ground.data }, { on := 1, ground := Ground.data }, { on := 5, ground := Ground.data }, { on := 5, ground := Ground.chain }], guard := none }) (by kernel_rfl) rfl (fun K hK => ?_); go_simp; ((go_at_call 34; refine (HC2.out _).mono ?_; rintro e x6 ⟨rfl, dd⟩; replace kk := kk.step dd; clear dd)); refine hK.out _ _ (⟨fun _ => ⟨(kk.get (b := w.heap.size) (t := 44) (c := rkN) (by simp)).all, (kk.get (b := MB) (t := 60) (c := tab .i64 64 (tb8 fac)) (by simp)).all, (kk.get (b := w.heap.size + 1 + 1) (t := 22) (c := tab .i64 64 (clp (-4096) 4096 b)) (by simp)).all⟩, fun _ => trivial⟩) ?_; clear hK K; try simp only [Act.put, List.setIfInBounds_toArray, List.set_cons_zero, List.set_cons_succ])
            (refine Walk.go (i := 8) (o := { dst := none, op := Op.store 22 (Operand.tmp 10) (Operand.tmp 38), type := 0, pos := "dct.go:88", after := #[{ on := 7, ground := Ground.data }, { on := 6, ground := Ground.data }, { on := 6, ground := Ground.chain }, { on := 0, ground := Ground.phase }, { on := 1, ground := Ground.phase }, { on := 2, ground := Ground.phase }, { on := 3, ground := Ground.phase }, { on := 4, ground := Ground.phase }, { on := 5, ground := Ground.phase }, { on := 6, ground := Ground.phase }, { on := 7, ground := Ground.phase }], guard := none }) (by kernel_rfl) rfl (fun K hK => ?_); refine wp_store_mid 22 (.tmp 10) (.tmp 38) rfl _ 0 (tab .i64 64 (wgt fac (wgt fac (clp (-4096) 4096 b)))).toArray rfl rfl (kk.head.there 0 _ (by rw [List.size_toArray, tab_length, tab_length]; omega)) (hiB _) (tab_all _ _ _) ?_; (replace kk := kk.layAll (wgt fac (wgt fac (clp (-4096) 4096 b)))); refine hK.out _ _ (⟨fun _ => ⟨(kk.get (b := w.heap.size) (t := 44) (c := rkN) (by simp)).all, (kk.get (b := MB) (t := 60) (c := tab .i64 64 (tb8 fac)) (by simp)).all, (kk.get (b := w.heap.size + 1 + 1) (t := 22) (c := tab .i64 64 (clp (-4096) 4096 b)) (by simp)).all⟩, fun _ => trivial⟩) ?_; clear hK K; try simp only [Act.put])
            refine Walk.done (by kernel_rfl) ?_ _
            go_wp2_with fail
            go_meet
            case rel => exact ⟨_, rfl, kk⟩
        · go_simp; (replace kk := kk.zero 22); refine hK.out _ _ (⟨fun _ => ⟨(kk.get (b := w.heap.size) (t := 44) (c := rkN) (by simp)).all, (kk.get (b := MB) (t := 60) (c := tab .i64 64 (tb8 fac)) (by simp)).all, (kk.get (b := w.heap.size + 1 + 1) (t := 22) (c := tab .i64 64 (clp (-4096) 4096 b)) (by simp)).all⟩, fun _ => trivial⟩) ?_; clear hK K; try simp only [Act.put, List.setIfInBounds_toArray, List.set_cons_zero, List.set_cons_succ]
          (refine Walk.go (i := 5) (o := { dst := some 37, op := Op.call { callee := Callee.value (Operand.func 34), args := #[Operand.tmp 34, Operand.tmp 35, Operand.tmp 36], argTypes := #[44, 60, 22] }, type := 22, pos := "dct.go:88", after := #[{ on := 2, ground := Ground.data }, { on := 3, ground := Ground.data }, { on := 4, ground := Ground.data }], guard := none }) (by kernel_rfl) rfl (fun K hK => ?_); go_simp; ((go_at_call 34; refine (HC1.out _).mono ?_; rintro e x5 ⟨rfl, dd⟩; replace kk := kk.step dd; clear dd)); refine hK.out _ _ (⟨fun _ => ⟨(kk.get (b := w.heap.size) (t := 44) (c := rkN) (by simp)).all, (kk.get (b := MB) (t := 60) (c := tab .i64 64 (tb8 fac)) (by simp)).all, (kk.get (b := w.heap.size + 1 + 1) (t := 22) (c := tab .i64 64 (clp (-4096) 4096 b)) (by simp)).all⟩, fun _ => trivial⟩) ?_; clear hK K; try simp only [Act.put, List.setIfInBounds_toArray, List.set_cons_zero, List.set_cons_succ])
          (refine Walk.go (i := 6) (o := { dst := some 38, op := Op.call { callee := Callee.value (Operand.func 34), args := #[Operand.tmp 32, Operand.tmp 33, Operand.tmp 37], argTypes := #[44, 60, 22] }, type := 22, pos := "dct.go:88", after := #[{ on := 0, ground := Ground.data }, { on := 1, ground := Ground.data }, { on := 5, ground := Ground.data }, { on := 5, ground := Ground.chain }], guard := none }) (by kernel_rfl) rfl (fun K hK => ?_); go_simp; ((go_at_call 34; refine (HC2.out _).mono ?_; rintro e x6 ⟨rfl, dd⟩; replace kk := kk.step dd; clear dd)); refine hK.out _ _ (⟨fun _ => ⟨(kk.get (b := w.heap.size) (t := 44) (c := rkN) (by simp)).all, (kk.get (b := MB) (t := 60) (c := tab .i64 64 (tb8 fac)) (by simp)).all, (kk.get (b := w.heap.size + 1 + 1) (t := 22) (c := tab .i64 64 (clp (-4096) 4096 b)) (by simp)).all⟩, fun _ => trivial⟩) ?_; clear hK K; try simp only [Act.put, List.setIfInBounds_toArray, List.set_cons_zero, List.set_cons_succ])
          (refine Walk.go (i := 8) (o := { dst := none, op := Op.store 22 (Operand.tmp 10) (Operand.tmp 38), type := 0, pos := "dct.go:88", after := #[{ on := 7, ground := Ground.data }, { on := 6, ground := Ground.data }, { on := 6, ground := Ground.chain }, { on := 0, ground := Ground.phase }, { on := 1, ground := Ground.phase }, { on := 2, ground := Ground.phase }, { on := 3, ground := Ground.phase }, { on := 4, ground := Ground.phase }, { on := 5, ground := Ground.phase }, { on := 6, ground := Ground.phase }, { on := 7, ground := Ground.phase }], guard := none }) (by kernel_rfl) rfl (fun K hK => ?_); refine wp_store_mid 22 (.tmp 10) (.tmp 38) rfl _ 0 (tab .i64 64 (wgt fac (wgt fac (clp (-4096) 4096 b)))).toArray rfl rfl (kk.head.there 0 _ (by rw [List.size_toArray, tab_length, tab_length]; omega)) (hiB _) (tab_all _ _ _) ?_; (replace kk := kk.layAll (wgt fac (wgt fac (clp (-4096) 4096 b)))); refine hK.out _ _ (⟨fun _ => ⟨(kk.get (b := w.heap.size) (t := 44) (c := rkN) (by simp)).all, (kk.get (b := MB) (t := 60) (c := tab .i64 64 (tb8 fac)) (by simp)).all, (kk.get (b := w.heap.size + 1 + 1) (t := 22) (c := tab .i64 64 (clp (-4096) 4096 b)) (by simp)).all⟩, fun _ => trivial⟩) ?_; clear hK K; try simp only [Act.put])
          refine Walk.done (by kernel_rfl) ?_ _
          go_wp2_with fail
          go_meet
          case rel => exact ⟨_, rfl, kk⟩
      case rest =>
        clear kk
        obtain ⟨nb, rfl, kk⟩ := hcut
        have hrS := kk.head.all
        go_wp2_with (refine wpList_load_mid rfl 22 (.tmp 10) rfl nb 0 rfl (tab .i64 64 (wgt fac (wgt fac (clp (-4096) 4096 b)))) _ ?_ hu rfl (hiA _) ?_; exact hrS)
        clear hrS
        go_loopw [40] (fun i V => ∃ k : Nat, k ≤ 64 ∧ i = .int .i64 k ∧ Keep w V ((nb, 22, tab .i64 64 (fun j => if j < k then (turnF (-4096) 4096 fac b) j else (wgt fac (wgt fac (clp (-4096) 4096 b))) j)) :: (MB, 60, tab .i64 64 (tb8 fac)) :: [(w.heap.size + 1 + 1, 22, tab .i64 64 ((clp (-4096) 4096 b))), (w.heap.size + 1 + 1 + 1, 22, tab .i64 64 (fun _ => 0)), (w.heap.size + 1, 47, wayT), (w.heap.size, 44, rkN)])) (fun i _ => 64 - (intOf i).toNat)
        case atStart => exact ⟨0, Nat.zero_le _, rfl, by rw [tab_congr .i64 64 (fun j => if j < 0 then (turnF (-4096) 4096 fac b) j else (wgt fac (wgt fac (clp (-4096) 4096 b))) j) (wgt fac (wgt fac (clp (-4096) 4096 b))) (fun j _ => if_neg (by omega))]; exact kk⟩
        case round =>
          clear kk
          obtain ⟨k, hk, rfl, kk⟩ := hrel
          by_cases hlt : k < 64
          · have i0 : (0 : Int) ≤ (k : Int) := by omega
            have i1 : (k : Int) < 64 := by omega
            have x0 := index_tab (wgt fac (wgt fac (clp (-4096) 4096 b))) k hlt
            have c0 := kk.head.cell k hlt
            have f0 := kk.head.frozen k
            simp only [Nat.lt_irrefl, if_false] at c0
            have dR := (kk.get (b := w.heap.size) (t := 44) (c := rkN) (by simp)).at 4
            simp only [List.getElem?_cons_zero, List.getElem?_cons_succ] at dR
            have HBk : Hid _ := HB3.out k hlt
            have HE : Hid (rnd ((wgt fac (wgt fac (clp (-4096) 4096 b))) k) = (turnF (-4096) 4096 fac b) k) := rfl
            have kX := kk.set k (.int .i64 ((turnF (-4096) 4096 fac b) k))
            rw [tab_grow .i64 64 (turnF (-4096) 4096 fac b) (wgt fac (wgt fac (clp (-4096) 4096 b))) k] at kX
            have HX : Hid _ := kX
            clear kX kk
            go_wp2_with (go_at_call 39; refine (rounded_in _ _ HBk.out.1 HBk.out.2).mono ?_; rintro e x1 ⟨rfl, rfl⟩; rw [HE.out])
            go_roundw
            case rel => exact ⟨k + 1, by omega, by go_num, HX.out⟩
            case measure => simp [intOf]; omega
          · obtain rfl : k = 64 := by omega
            rw [tab_full] at kk
            have hr1 := kk.head.all
            replace kk := kk.front 3 (by simp)
            have hth := kk.head.there 0 (tab .i64 64 (turnF (-4096) 4096 fac b)).toArray.size (by rw [List.size_toArray, tab_length]; first | rw [tab_length]; omega | (simp [tab_length]))
            have kX := kk.layAll (turnF (-4096) 4096 fac b)
            have HX : Hid _ := And.intro kX.head kX.but
            clear kX kk
            go_wp2_with (first | (refine wpList_load_mid rfl 22 (.tmp 10) rfl nb 0 rfl (tab .i64 64 (turnF (-4096) 4096 fac b)) _ ?_ hu rfl (hiA _) ?_; exact hr1) | (refine wpList_store_mid rfl 22 (.tmp 6) (.tmp 51) rfl (w.heap.size + 1 + 1 + 1) 0 (tab .i64 64 (turnF (-4096) 4096 fac b)).toArray rfl rfl ?_ (hiB _) (tab_all _ _ _) ?_; exact hth))
            exact bodyPost_ret (results_cells rfl HX.out.1 hu rfl (hiA _) _ rfl) rfl ⟨rfl, HX.out.2⟩

set_option maxHeartbeats 6400000 in
set_option maxRecDepth 100000 in
theorem turnNB_any (b : Nat → Int) (w : World) (ht : Tab w) : Calls Tryd.prog 24 #[.agg rkN.toArray, .agg wayB.toArray, .agg (tab .i64 64 b).toArray] w fun e w' =>
    e = .returned (.agg (tab .i64 64 (turnF (-32768) 32767 facT b)).toArray) ∧ But Nowhere w w' := by
  have hu := Tryd.underlying22
  have huR := Tryd.underlying44
  have huW := Tryd.underlying47
  have huM := Tryd.underlying60
  have hiR : (Tryd.prog.info? 44).map (·.size) = some rkN.length := by kernel_rfl
  have hiW : (Tryd.prog.info? 47).map (·.size) = some wayB.length := by kernel_rfl
  have hiA : ∀ f, (Tryd.prog.info? 22).map (·.size) = some (tab .i64 64 f).length := fun f => by rw [tab_length]; kernel_rfl
  have hiB : ∀ f, (Tryd.prog.info? 22).map (·.size) = some (tab .i64 64 f).toArray.size := fun f => by rw [List.size_toArray, tab_length]; kernel_rfl
  have hiM : (Tryd.prog.info? 60).map (·.size) = some (tab .i64 64 (tb8 facT)).toArray.size := by rw [List.size_toArray, tab_length]; kernel_rfl
  have hiM' : (Tryd.prog.info? 60).map (·.size) = some (tab .i64 64 (tb8 facT)).length := by rw [tab_length]; kernel_rfl
  have b1 : ∀ j, j < 64 → -32768 ≤ (clp (-32768) 32767 b) j ∧ (clp (-32768) 32767 b) j ≤ 32768 := fun j _ => by have := clp_bd (lo := (-32768)) (hi := 32767) b j (by omega); omega
  have b2 : ∀ j, j < 64 → -(4113712 * 32768) ≤ (wgt facT (clp (-32768) 32767 b)) j ∧ (wgt facT (clp (-32768) 32767 b)) j ≤ 4113712 * 32768 := fun j hj => wgt_in facT_bd b1 j hj
  have HB3 : Hid (∀ j, j < 64 → -1152921504606846976 ≤ (wgt facT (wgt facT (clp (-32768) 32767 b))) j ∧ (wgt facT (wgt facT (clp (-32768) 32767 b))) j ≤ 1152921504606846976) := fun j hj => by have := wgt_in facT_bd b2 j hj; omega
  have HC1 : Hid (∀ V, Calls Tryd.prog 34 #[.agg rkN.toArray, .agg (tab .i64 64 (tb8 facT)).toArray, .agg (tab .i64 64 (clp (-32768) 32767 b)).toArray] V fun e w' => e = .returned (.agg (tab .i64 64 (wgt facT (clp (-32768) 32767 b))).toArray) ∧ But Nowhere V w') := fun V => weighedN_any facT (clp (-32768) 32767 b) 32768 (by omega) facT_bd b1 V
  have HC2 : Hid (∀ V, Calls Tryd.prog 34 #[.agg rkN.toArray, .agg (tab .i64 64 (tb8 facT)).toArray, .agg (tab .i64 64 (wgt facT (clp (-32768) 32767 b))).toArray] V fun e w' => e = .returned (.agg (tab .i64 64 (wgt facT (wgt facT (clp (-32768) 32767 b)))).toArray) ∧ But Nowhere V w') := fun V => weighedN_any facT (wgt facT (clp (-32768) 32767 b)) (4113712 * 32768) (by omega) facT_bd b2 V
  clear b1 b2
  have kk := ((((Keep.start w).made 44 rkN).made 47 wayB).made 22 (tab .i64 64 b)).zero 22
  simp only [World.size_alloc] at kk
  go_enter Tryd.func24, Tryd.ntmps24
  go_wp2_with (refine wpList_load_mid rfl 22 (.tmp 5) rfl (w.heap.size + 1 + 1) 0 rfl (tab .i64 64 b) _ ?_ hu rfl (hiA _) ?_; exact (kk.get (b := w.heap.size + 1 + 1) (t := 22) (c := tab .i64 64 b) (by simp)).all)
  revert kk
  generalize ((((w.alloc (.cells rkN.toArray 44)).alloc (.cells wayB.toArray 47)).alloc (.cells (tab .i64 64 b).toArray 22)).alloc (.cells (Value.int .i64 0 :: Value.int .i64 0 :: Value.int .i64 0 :: Value.int .i64 0 :: Value.int .i64 0 :: Value.int .i64 0 :: Value.int .i64 0 :: Value.int .i64 0 :: Value.int .i64 0 :: Value.int .i64 0 :: Value.int .i64 0 :: Value.int .i64 0 :: Value.int .i64 0 :: Value.int .i64 0 :: Value.int .i64 0 :: Value.int .i64 0 :: Value.int .i64 0 :: Value.int .i64 0 :: Value.int .i64 0 :: Value.int .i64 0 :: Value.int .i64 0 :: Value.int .i64 0 :: Value.int .i64 0 :: Value.int .i64 0 :: Value.int .i64 0 :: Value.int .i64 0 :: Value.int .i64 0 :: Value.int .i64 0 :: Value.int .i64 0 :: Value.int .i64 0 :: Value.int .i64 0 :: Value.int .i64 0 :: Value.int .i64 0 :: Value.int .i64 0 :: Value.int .i64 0 :: Value.int .i64 0 :: Value.int .i64 0 :: Value.int .i64 0 :: Value.int .i64 0 :: Value.int .i64 0 :: Value.int .i64 0 :: Value.int .i64 0 :: Value.int .i64 0 :: Value.int .i64 0 :: Value.int .i64 0 :: Value.int .i64 0 :: Value.int .i64 0 :: Value.int .i64 0 :: Value.int .i64 0 :: Value.int .i64 0 :: Value.int .i64 0 :: Value.int .i64 0 :: Value.int .i64 0 :: Value.int .i64 0 :: Value.int .i64 0 :: Value.int .i64 0 :: Value.int .i64 0 :: Value.int .i64 0 :: Value.int .i64 0 :: Value.int .i64 0 :: Value.int .i64 0 :: Value.int .i64 0 :: Value.int .i64 0 :: Value.int .i64 0 :: []).toArray 22)) = W4
  intro kk
  replace kk := kk.swap
  go_loopw [14] (fun i V => ∃ k : Nat, k ≤ 64 ∧ i = .int .i64 k ∧ Keep w V [(w.heap.size + 1 + 1, 22, tab .i64 64 (fun j => if j < k then (clp (-32768) 32767 b) j else b j)), (w.heap.size + 1 + 1 + 1, 22, tab .i64 64 (fun _ => 0)), (w.heap.size + 1, 47, wayB), (w.heap.size, 44, rkN)]) (fun i _ => 64 - (intOf i).toNat)
  case atStart => exact ⟨0, Nat.zero_le _, rfl, by rw [tab_congr .i64 64 (fun j => if j < 0 then (clp (-32768) 32767 b) j else b j) b (fun j _ => if_neg (by omega))]; exact kk⟩
  case round =>
    clear kk
    obtain ⟨k, hk, rfl, kk⟩ := hrel
    by_cases hlt : k < 64
    · have i0 : (0 : Int) ≤ (k : Int) := by omega
      have i1 : (k : Int) < 64 := by omega
      have x0 := index_tab b k hlt
      have c0 := kk.head.cell k hlt
      have f0 := kk.head.frozen k
      simp only [Nat.lt_irrefl, if_false] at c0
      have dR := (kk.get (b := w.heap.size) (t := 44) (c := rkN) (by simp)).at 3
      have dW0 := (kk.get (b := w.heap.size + 1) (t := 47) (c := wayB) (by simp)).at 0
      have dW1 := (kk.get (b := w.heap.size + 1) (t := 47) (c := wayB) (by simp)).at 1
      simp only [List.getElem?_cons_zero, List.getElem?_cons_succ] at dR dW0 dW1
      have kX := kk.set k (.int .i64 ((clp (-32768) 32767 b) k))
      rw [tab_grow .i64 64 (clp (-32768) 32767 b) b k] at kX
      have HX : Hid _ := kX
      clear kX kk
      go_wp2_with (go_at_call 38; refine (numClip_any _ _ _ _).mono ?_; rintro e x1 ⟨rfl, rfl⟩; rw [clp_of])
      go_roundw
      case rel => exact ⟨k + 1, by omega, by go_num, HX.out⟩
      case measure => simp [intOf]; omega
    · obtain rfl : k = 64 := by omega
      rw [tab_full] at kk
      have hrR := (kk.get (b := w.heap.size) (t := 44) (c := rkN) (by simp)).all
      have hrW := (kk.get (b := w.heap.size + 1) (t := 47) (c := wayB) (by simp)).all
      go_wp2_with (first | (refine wpList_load_mid rfl 44 (.tmp 3) rfl (w.heap.size) 0 rfl rkN _ ?_ huR rfl hiR ?_; exact hrR) | (refine wpList_load_mid rfl 47 (.tmp 4) rfl (w.heap.size + 1) 0 rfl wayB _ ?_ huW rfl hiW ?_; exact hrW))
      refine (weightsNB_any _ (ht.but kk.but)).mono ?_
      rintro e x1 ⟨rfl, bb⟩
      replace kk := (kk.step bb).zero 60
      have hth := kk.head.there 0 (tab .i64 64 (tb8 facT)).toArray.size (by rw [List.size_toArray, tab_length, tab_length]; omega)
      replace kk := kk.layAll (tb8 facT)
      have HX : Hid _ := kk
      clear kk bb hrR hrW
      go_wp2_with (refine wpList_store_mid rfl 60 (.tmp 9) (.tmp 31) rfl x1.heap.size 0 (tab .i64 64 (tb8 facT)).toArray rfl rfl ?_ hiM (tab_all _ _ _) ?_; exact hth)
      have kk := HX.out
      clear HX hth
      revert kk
      generalize x1.heap.size = MB
      generalize (x1.alloc (.cells (Value.int .i64 0 :: Value.int .i64 0 :: Value.int .i64 0 :: Value.int .i64 0 :: Value.int .i64 0 :: Value.int .i64 0 :: Value.int .i64 0 :: Value.int .i64 0 :: Value.int .i64 0 :: Value.int .i64 0 :: Value.int .i64 0 :: Value.int .i64 0 :: Value.int .i64 0 :: Value.int .i64 0 :: Value.int .i64 0 :: Value.int .i64 0 :: Value.int .i64 0 :: Value.int .i64 0 :: Value.int .i64 0 :: Value.int .i64 0 :: Value.int .i64 0 :: Value.int .i64 0 :: Value.int .i64 0 :: Value.int .i64 0 :: Value.int .i64 0 :: Value.int .i64 0 :: Value.int .i64 0 :: Value.int .i64 0 :: Value.int .i64 0 :: Value.int .i64 0 :: Value.int .i64 0 :: Value.int .i64 0 :: Value.int .i64 0 :: Value.int .i64 0 :: Value.int .i64 0 :: Value.int .i64 0 :: Value.int .i64 0 :: Value.int .i64 0 :: Value.int .i64 0 :: Value.int .i64 0 :: Value.int .i64 0 :: Value.int .i64 0 :: Value.int .i64 0 :: Value.int .i64 0 :: Value.int .i64 0 :: Value.int .i64 0 :: Value.int .i64 0 :: Value.int .i64 0 :: Value.int .i64 0 :: Value.int .i64 0 :: Value.int .i64 0 :: Value.int .i64 0 :: Value.int .i64 0 :: Value.int .i64 0 :: Value.int .i64 0 :: Value.int .i64 0 :: Value.int .i64 0 :: Value.int .i64 0 :: Value.int .i64 0 :: Value.int .i64 0 :: Value.int .i64 0 :: Value.int .i64 0 :: Value.int .i64 0 :: Value.int .i64 0 :: []).toArray 60)).setCells MB 0 (tab .i64 64 (tb8 facT)) = W6
      intro kk
      simp only [Act.put]
      go_cut [10] from 10 to 38 (fun s V => ∃ nb, s = .pointer (some ⟨nb, 0, none⟩) ∧ Keep w V ((nb, 22, tab .i64 64 (wgt facT (wgt facT (clp (-32768) 32767 b)))) :: (MB, 60, tab .i64 64 (tb8 facT)) :: [(w.heap.size + 1 + 1, 22, tab .i64 64 ((clp (-32768) 32767 b))), (w.heap.size + 1 + 1 + 1, 22, tab .i64 64 (fun _ => 0)), (w.heap.size + 1, 47, wayB), (w.heap.size, 44, rkN)]))
      case first =>
        replace kk := kk.drew
        refine wp_region_till (S := fun V => V.rangeAt (w.heap.size) 0 rkN ∧ V.rangeAt MB 0 (tab .i64 64 (tb8 facT)) ∧ V.rangeAt (w.heap.size + 1 + 1) 0 (tab .i64 64 (clp (-32768) 32767 b))) (R := fun _ => True) (k := 100) (m := 100) (by kernel_rfl) ⟨(kk.get (b := w.heap.size) (t := 44) (c := rkN) (by simp)).all, (kk.get (b := MB) (t := 60) (c := tab .i64 64 (tb8 facT)) (by simp)).all, (kk.get (b := w.heap.size + 1 + 1) (t := 22) (c := tab .i64 64 (clp (-32768) 32767 b)) (by simp)).all⟩ trivial ?_
        revert kk
        generalize W6.drew = WD
        intro kk
        (refine Walk.take (i := 0) (oi := { dst := some 32, op := Op.load 44 (Operand.tmp 3), type := 44, pos := "dct.go:88", after := #[], guard := none }) (v := .agg (rkN).toArray) rfl (by kernel_rfl) (by kernel_rfl) (by kernel_rfl) (by kernel_rfl) (fun _ _ _ h => h) (yieldsIf_load_mid rfl 44 (.tmp 3) rfl (w.heap.size) 0 rfl (rkN) _ (fun w hw => (hw.1 (by kernel_rfl)).1) huR rfl (hiR)) ?_; simp only [Act.put, List.setIfInBounds_toArray, List.set_cons_zero, List.set_cons_succ])
        (refine Walk.take (i := 1) (oi := { dst := some 33, op := Op.load 60 (Operand.tmp 9), type := 60, pos := "dct.go:88", after := #[], guard := none }) (v := .agg (tab .i64 64 (tb8 facT)).toArray) rfl (by kernel_rfl) (by kernel_rfl) (by kernel_rfl) (by kernel_rfl) (fun _ _ _ h => h) (yieldsIf_load_mid rfl 60 (.tmp 9) rfl (MB) 0 rfl (tab .i64 64 (tb8 facT)) _ (fun w hw => (hw.1 (by kernel_rfl)).2.1) huM rfl (hiM')) ?_; simp only [Act.put, List.setIfInBounds_toArray, List.set_cons_zero, List.set_cons_succ])
        (refine Walk.take (i := 2) (oi := { dst := some 34, op := Op.load 44 (Operand.tmp 3), type := 44, pos := "dct.go:88", after := #[], guard := none }) (v := .agg (rkN).toArray) rfl (by kernel_rfl) (by kernel_rfl) (by kernel_rfl) (by kernel_rfl) (fun _ _ _ h => h) (yieldsIf_load_mid rfl 44 (.tmp 3) rfl (w.heap.size) 0 rfl (rkN) _ (fun w hw => (hw.1 (by kernel_rfl)).1) huR rfl (hiR)) ?_; simp only [Act.put, List.setIfInBounds_toArray, List.set_cons_zero, List.set_cons_succ])
        (refine Walk.take (i := 3) (oi := { dst := some 35, op := Op.load 60 (Operand.tmp 9), type := 60, pos := "dct.go:88", after := #[], guard := none }) (v := .agg (tab .i64 64 (tb8 facT)).toArray) rfl (by kernel_rfl) (by kernel_rfl) (by kernel_rfl) (by kernel_rfl) (fun _ _ _ h => h) (yieldsIf_load_mid rfl 60 (.tmp 9) rfl (MB) 0 rfl (tab .i64 64 (tb8 facT)) _ (fun w hw => (hw.1 (by kernel_rfl)).2.1) huM rfl (hiM')) ?_; simp only [Act.put, List.setIfInBounds_toArray, List.set_cons_zero, List.set_cons_succ])
        (refine Walk.take (i := 4) (oi := { dst := some 36, op := Op.load 22 (Operand.tmp 5), type := 22, pos := "dct.go:88", after := #[], guard := none }) (v := .agg (tab .i64 64 (clp (-32768) 32767 b)).toArray) rfl (by kernel_rfl) (by kernel_rfl) (by kernel_rfl) (by kernel_rfl) (fun _ _ _ h => h) (yieldsIf_load_mid rfl 22 (.tmp 5) rfl (w.heap.size + 1 + 1) 0 rfl (tab .i64 64 (clp (-32768) 32767 b)) _ (fun w hw => (hw.1 (by kernel_rfl)).2.2) hu rfl (hiA _)) ?_; simp only [Act.put, List.setIfInBounds_toArray, List.set_cons_zero, List.set_cons_succ])
        refine Walk.both (i := 5) (j := 7) (oi := { dst := some 37, op := Op.call { callee := Callee.value (Operand.func 34), args := #[Operand.tmp 34, Operand.tmp 35, Operand.tmp 36], argTypes := #[44, 60, 22] }, type := 22, pos := "dct.go:88", after := #[{ on := 2, ground := Ground.data }, { on := 3, ground := Ground.data }, { on := 4, ground := Ground.data }], guard := none }) (oj := { dst := some 10, op := Op.alloc 22, type := 0, pos := "dct.go:88", after := #[], guard := none }) (by kernel_rfl) rfl rfl (fun K hK => ?_) (fun K hK => ?_)
        · go_simp; ((go_at_call 34; refine (HC1.out _).mono ?_; rintro e x5 ⟨rfl, dd⟩; replace kk := kk.step dd; clear dd)); refine hK.out _ _ (⟨fun _ => ⟨(kk.get (b := w.heap.size) (t := 44) (c := rkN) (by simp)).all, (kk.get (b := MB) (t := 60) (c := tab .i64 64 (tb8 facT)) (by simp)).all, (kk.get (b := w.heap.size + 1 + 1) (t := 22) (c := tab .i64 64 (clp (-32768) 32767 b)) (by simp)).all⟩, fun _ => trivial⟩) ?_; clear hK K; try simp only [Act.put, List.setIfInBounds_toArray, List.set_cons_zero, List.set_cons_succ]
          refine Walk.both (i := 6) (j := 7) (oi := { dst := some 38, op := Op.call { callee := Callee.value (Operand.func 34), args := #[Operand.tmp 32, Operand.tmp 33, Operand.tmp 37], argTypes := #[44, 60, 22] }, type := 22, pos := "dct.go:88", after := #[{ on := 0, ground := Ground.data }, { on := 1, ground := Ground.data }, { on := 5, ground := Ground.data }, { on := 5, ground := Ground.chain }], guard := none }) (oj := { dst := some 10, op := Op.alloc 22, type := 0, pos := "dct.go:88", after := #[], guard := none }) (by kernel_rfl) rfl rfl (fun K hK => ?_) (fun K hK => ?_)
          · go_simp; ((go_at_call 34; refine (HC2.out _).mono ?_; rintro e x6 ⟨rfl, dd⟩; replace kk := kk.step dd; clear dd)); refine hK.out _ _ (⟨fun _ => ⟨(kk.get (b := w.heap.size) (t := 44) (c := rkN) (by simp)).all, (kk.get (b := MB) (t := 60) (c := tab .i64 64 (tb8 facT)) (by simp)).all, (kk.get (b := w.heap.size + 1 + 1) (t := 22) (c := tab .i64 64 (clp (-32768) 32767 b)) (by simp)).all⟩, fun _ => trivial⟩) ?_; clear hK K; try simp only [Act.put, List.setIfInBounds_toArray, List.set_cons_zero, List.set_cons_succ]
            (refine Walk.go (i := 7) (o := { dst := some 10, op := Op.alloc 22, type := 0, pos := "dct.go:88", after := #[], guard := none }) (by kernel_rfl) rfl (fun K hK => ?_); go_simp; (replace kk := kk.zero 22); refine hK.out _ _ (⟨fun _ => ⟨(kk.get (b := w.heap.size) (t := 44) (c := rkN) (by simp)).all, (kk.get (b := MB) (t := 60) (c := tab .i64 64 (tb8 facT)) (by simp)).all, (kk.get (b := w.heap.size + 1 + 1) (t := 22) (c := tab .i64 64 (clp (-32768) 32767 b)) (by simp)).all⟩, fun _ => trivial⟩) ?_; clear hK K; try simp only [Act.put, List.setIfInBounds_toArray, List.set_cons_zero, List.set_cons_succ])
            (refine Walk.go (i := 8) (o := { dst := none, op := Op.store 22 (Operand.tmp 10) (Operand.tmp 38), type := 0, pos := "dct.go:88", after := #[{ on := 7, ground := Ground.data }, { on := 6, ground := Ground.data }, { on := 6, ground := Ground.chain }, { on := 0, ground := Ground.phase }, { on := 1, ground := Ground.phase }, { on := 2, ground := Ground.phase }, { on := 3, ground := Ground.phase }, { on := 4, ground := Ground.phase }, { on := 5, ground := Ground.phase }, { on := 6, ground := Ground.phase }, { on := 7, ground := Ground.phase }], guard := none }) (by kernel_rfl) rfl (fun K hK => ?_); refine wp_store_mid 22 (.tmp 10) (.tmp 38) rfl _ 0 (tab .i64 64 (wgt facT (wgt facT (clp (-32768) 32767 b)))).toArray rfl rfl (kk.head.there 0 _ (by rw [List.size_toArray, tab_length, tab_length]; omega)) (hiB _) (tab_all _ _ _) ?_; (replace kk := kk.layAll (wgt facT (wgt facT (clp (-32768) 32767 b)))); refine hK.out _ _ (⟨fun _ => ⟨(kk.get (b := w.heap.size) (t := 44) (c := rkN) (by simp)).all, (kk.get (b := MB) (t := 60) (c := tab .i64 64 (tb8 facT)) (by simp)).all, (kk.get (b := w.heap.size + 1 + 1) (t := 22) (c := tab .i64 64 (clp (-32768) 32767 b)) (by simp)).all⟩, fun _ => trivial⟩) ?_; clear hK K; try simp only [Act.put])
            refine Walk.done (by kernel_rfl) ?_ _
            go_wp2_with fail
            go_meet
            case rel => exact ⟨_, rfl, kk⟩
          · go_simp; (replace kk := kk.zero 22); refine hK.out _ _ (⟨fun _ => ⟨(kk.get (b := w.heap.size) (t := 44) (c := rkN) (by simp)).all, (kk.get (b := MB) (t := 60) (c := tab .i64 64 (tb8 facT)) (by simp)).all, (kk.get (b := w.heap.size + 1 + 1) (t := 22) (c := tab .i64 64 (clp (-32768) 32767 b)) (by simp)).all⟩, fun _ => trivial⟩) ?_; clear hK K; try simp only [Act.put, List.setIfInBounds_toArray, List.set_cons_zero, List.set_cons_succ]
            (refine Walk.go (i := 6) (o := { dst := some 38, op := Op.call { callee := Callee.value (Operand.func 34), args := #[Operand.tmp 32, Operand.tmp 33, Operand.tmp 37], argTypes := #[44, 60, 22] }, type := 22, pos := "dct.go:88", after := #[{ on := 0, ground := Ground.data }, { on := 1, ground := Ground.data }, { on := 5, ground := Ground.data }, { on := 5, ground := Ground.chain }], guard := none }) (by kernel_rfl) rfl (fun K hK => ?_); go_simp; ((go_at_call 34; refine (HC2.out _).mono ?_; rintro e x6 ⟨rfl, dd⟩; replace kk := kk.step dd; clear dd)); refine hK.out _ _ (⟨fun _ => ⟨(kk.get (b := w.heap.size) (t := 44) (c := rkN) (by simp)).all, (kk.get (b := MB) (t := 60) (c := tab .i64 64 (tb8 facT)) (by simp)).all, (kk.get (b := w.heap.size + 1 + 1) (t := 22) (c := tab .i64 64 (clp (-32768) 32767 b)) (by simp)).all⟩, fun _ => trivial⟩) ?_; clear hK K; try simp only [Act.put, List.setIfInBounds_toArray, List.set_cons_zero, List.set_cons_succ])
            (refine Walk.go (i := 8) (o := { dst := none, op := Op.store 22 (Operand.tmp 10) (Operand.tmp 38), type := 0, pos := "dct.go:88", after := #[{ on := 7, ground := Ground.data }, { on := 6, ground := Ground.data }, { on := 6, ground := Ground.chain }, { on := 0, ground := Ground.phase }, { on := 1, ground := Ground.phase }, { on := 2, ground := Ground.phase }, { on := 3, ground := Ground.phase }, { on := 4, ground := Ground.phase }, { on := 5, ground := Ground.phase }, { on := 6, ground := Ground.phase }, { on := 7, ground := Ground.phase }], guard := none }) (by kernel_rfl) rfl (fun K hK => ?_); refine wp_store_mid 22 (.tmp 10) (.tmp 38) rfl _ 0 (tab .i64 64 (wgt facT (wgt facT (clp (-32768) 32767 b)))).toArray rfl rfl (kk.head.there 0 _ (by rw [List.size_toArray, tab_length, tab_length]; omega)) (hiB _) (tab_all _ _ _) ?_; (replace kk := kk.layAll (wgt facT (wgt facT (clp (-32768) 32767 b)))); refine hK.out _ _ (⟨fun _ => ⟨(kk.get (b := w.heap.size) (t := 44) (c := rkN) (by simp)).all, (kk.get (b := MB) (t := 60) (c := tab .i64 64 (tb8 facT)) (by simp)).all, (kk.get (b := w.heap.size + 1 + 1) (t := 22) (c := tab .i64 64 (clp (-32768) 32767 b)) (by simp)).all⟩, fun _ => trivial⟩) ?_; clear hK K; try simp only [Act.put])
            refine Walk.done (by kernel_rfl) ?_ _
            go_wp2_with fail
            go_meet
            case rel => exact ⟨_, rfl, kk⟩
        · go_simp; (replace kk := kk.zero 22); refine hK.out _ _ (⟨fun _ => ⟨(kk.get (b := w.heap.size) (t := 44) (c := rkN) (by simp)).all, (kk.get (b := MB) (t := 60) (c := tab .i64 64 (tb8 facT)) (by simp)).all, (kk.get (b := w.heap.size + 1 + 1) (t := 22) (c := tab .i64 64 (clp (-32768) 32767 b)) (by simp)).all⟩, fun _ => trivial⟩) ?_; clear hK K; try simp only [Act.put, List.setIfInBounds_toArray, List.set_cons_zero, List.set_cons_succ]
          (refine Walk.go (i := 5) (o := { dst := some 37, op := Op.call { callee := Callee.value (Operand.func 34), args := #[Operand.tmp 34, Operand.tmp 35, Operand.tmp 36], argTypes := #[44, 60, 22] }, type := 22, pos := "dct.go:88", after := #[{ on := 2, ground := Ground.data }, { on := 3, ground := Ground.data }, { on := 4, ground := Ground.data }], guard := none }) (by kernel_rfl) rfl (fun K hK => ?_); go_simp; ((go_at_call 34; refine (HC1.out _).mono ?_; rintro e x5 ⟨rfl, dd⟩; replace kk := kk.step dd; clear dd)); refine hK.out _ _ (⟨fun _ => ⟨(kk.get (b := w.heap.size) (t := 44) (c := rkN) (by simp)).all, (kk.get (b := MB) (t := 60) (c := tab .i64 64 (tb8 facT)) (by simp)).all, (kk.get (b := w.heap.size + 1 + 1) (t := 22) (c := tab .i64 64 (clp (-32768) 32767 b)) (by simp)).all⟩, fun _ => trivial⟩) ?_; clear hK K; try simp only [Act.put, List.setIfInBounds_toArray, List.set_cons_zero, List.set_cons_succ])
          (refine Walk.go (i := 6) (o := { dst := some 38, op := Op.call { callee := Callee.value (Operand.func 34), args := #[Operand.tmp 32, Operand.tmp 33, Operand.tmp 37], argTypes := #[44, 60, 22] }, type := 22, pos := "dct.go:88", after := #[{ on := 0, ground := Ground.data }, { on := 1, ground := Ground.data }, { on := 5, ground := Ground.data }, { on := 5, ground := Ground.chain }], guard := none }) (by kernel_rfl) rfl (fun K hK => ?_); go_simp; ((go_at_call 34; refine (HC2.out _).mono ?_; rintro e x6 ⟨rfl, dd⟩; replace kk := kk.step dd; clear dd)); refine hK.out _ _ (⟨fun _ => ⟨(kk.get (b := w.heap.size) (t := 44) (c := rkN) (by simp)).all, (kk.get (b := MB) (t := 60) (c := tab .i64 64 (tb8 facT)) (by simp)).all, (kk.get (b := w.heap.size + 1 + 1) (t := 22) (c := tab .i64 64 (clp (-32768) 32767 b)) (by simp)).all⟩, fun _ => trivial⟩) ?_; clear hK K; try simp only [Act.put, List.setIfInBounds_toArray, List.set_cons_zero, List.set_cons_succ])
          (refine Walk.go (i := 8) (o := { dst := none, op := Op.store 22 (Operand.tmp 10) (Operand.tmp 38), type := 0, pos := "dct.go:88", after := #[{ on := 7, ground := Ground.data }, { on := 6, ground := Ground.data }, { on := 6, ground := Ground.chain }, { on := 0, ground := Ground.phase }, { on := 1, ground := Ground.phase }, { on := 2, ground := Ground.phase }, { on := 3, ground := Ground.phase }, { on := 4, ground := Ground.phase }, { on := 5, ground := Ground.phase }, { on := 6, ground := Ground.phase }, { on := 7, ground := Ground.phase }], guard := none }) (by kernel_rfl) rfl (fun K hK => ?_); refine wp_store_mid 22 (.tmp 10) (.tmp 38) rfl _ 0 (tab .i64 64 (wgt facT (wgt facT (clp (-32768) 32767 b)))).toArray rfl rfl (kk.head.there 0 _ (by rw [List.size_toArray, tab_length, tab_length]; omega)) (hiB _) (tab_all _ _ _) ?_; (replace kk := kk.layAll (wgt facT (wgt facT (clp (-32768) 32767 b)))); refine hK.out _ _ (⟨fun _ => ⟨(kk.get (b := w.heap.size) (t := 44) (c := rkN) (by simp)).all, (kk.get (b := MB) (t := 60) (c := tab .i64 64 (tb8 facT)) (by simp)).all, (kk.get (b := w.heap.size + 1 + 1) (t := 22) (c := tab .i64 64 (clp (-32768) 32767 b)) (by simp)).all⟩, fun _ => trivial⟩) ?_; clear hK K; try simp only [Act.put])
          refine Walk.done (by kernel_rfl) ?_ _
          go_wp2_with fail
          go_meet
          case rel => exact ⟨_, rfl, kk⟩
      case rest =>
        clear kk
        obtain ⟨nb, rfl, kk⟩ := hcut
        have hrS := kk.head.all
        go_wp2_with (refine wpList_load_mid rfl 22 (.tmp 10) rfl nb 0 rfl (tab .i64 64 (wgt facT (wgt facT (clp (-32768) 32767 b)))) _ ?_ hu rfl (hiA _) ?_; exact hrS)
        clear hrS
        go_loopw [40] (fun i V => ∃ k : Nat, k ≤ 64 ∧ i = .int .i64 k ∧ Keep w V ((nb, 22, tab .i64 64 (fun j => if j < k then (turnF (-32768) 32767 facT b) j else (wgt facT (wgt facT (clp (-32768) 32767 b))) j)) :: (MB, 60, tab .i64 64 (tb8 facT)) :: [(w.heap.size + 1 + 1, 22, tab .i64 64 ((clp (-32768) 32767 b))), (w.heap.size + 1 + 1 + 1, 22, tab .i64 64 (fun _ => 0)), (w.heap.size + 1, 47, wayB), (w.heap.size, 44, rkN)])) (fun i _ => 64 - (intOf i).toNat)
        case atStart => exact ⟨0, Nat.zero_le _, rfl, by rw [tab_congr .i64 64 (fun j => if j < 0 then (turnF (-32768) 32767 facT b) j else (wgt facT (wgt facT (clp (-32768) 32767 b))) j) (wgt facT (wgt facT (clp (-32768) 32767 b))) (fun j _ => if_neg (by omega))]; exact kk⟩
        case round =>
          clear kk
          obtain ⟨k, hk, rfl, kk⟩ := hrel
          by_cases hlt : k < 64
          · have i0 : (0 : Int) ≤ (k : Int) := by omega
            have i1 : (k : Int) < 64 := by omega
            have x0 := index_tab (wgt facT (wgt facT (clp (-32768) 32767 b))) k hlt
            have c0 := kk.head.cell k hlt
            have f0 := kk.head.frozen k
            simp only [Nat.lt_irrefl, if_false] at c0
            have dR := (kk.get (b := w.heap.size) (t := 44) (c := rkN) (by simp)).at 4
            simp only [List.getElem?_cons_zero, List.getElem?_cons_succ] at dR
            have HBk : Hid _ := HB3.out k hlt
            have HE : Hid (rnd ((wgt facT (wgt facT (clp (-32768) 32767 b))) k) = (turnF (-32768) 32767 facT b) k) := rfl
            have kX := kk.set k (.int .i64 ((turnF (-32768) 32767 facT b) k))
            rw [tab_grow .i64 64 (turnF (-32768) 32767 facT b) (wgt facT (wgt facT (clp (-32768) 32767 b))) k] at kX
            have HX : Hid _ := kX
            clear kX kk
            go_wp2_with (go_at_call 39; refine (rounded_in _ _ HBk.out.1 HBk.out.2).mono ?_; rintro e x1 ⟨rfl, rfl⟩; rw [HE.out])
            go_roundw
            case rel => exact ⟨k + 1, by omega, by go_num, HX.out⟩
            case measure => simp [intOf]; omega
          · obtain rfl : k = 64 := by omega
            rw [tab_full] at kk
            have hr1 := kk.head.all
            replace kk := kk.front 3 (by simp)
            have hth := kk.head.there 0 (tab .i64 64 (turnF (-32768) 32767 facT b)).toArray.size (by rw [List.size_toArray, tab_length]; first | rw [tab_length]; omega | (simp [tab_length]))
            have kX := kk.layAll (turnF (-32768) 32767 facT b)
            have HX : Hid _ := And.intro kX.head kX.but
            clear kX kk
            go_wp2_with (first | (refine wpList_load_mid rfl 22 (.tmp 10) rfl nb 0 rfl (tab .i64 64 (turnF (-32768) 32767 facT b)) _ ?_ hu rfl (hiA _) ?_; exact hr1) | (refine wpList_store_mid rfl 22 (.tmp 6) (.tmp 51) rfl (w.heap.size + 1 + 1 + 1) 0 (tab .i64 64 (turnF (-32768) 32767 facT b)).toArray rfl rfl ?_ (hiB _) (tab_all _ _ _) ?_; exact hth))
            exact bodyPost_ret (results_cells rfl HX.out.1 hu rfl (hiA _) _ rfl) rfl ⟨rfl, HX.out.2⟩

end Go.Proofs.YtlidijlmbelhhaaDoor
