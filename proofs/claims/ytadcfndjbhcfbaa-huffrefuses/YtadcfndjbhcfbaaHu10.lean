/- The law's known of layer 10, over what package huff is to answer. -/
import Derived.Test.YtadcfndjbhcfbaaHu4
import Derived.Test.YtadcfndjbhcfbaaHu9
namespace Go.Proofs.Ytadcfndjbhcfbaa
set_option linter.unusedVariables false
open Go.ChangeShapes Go.WideShapes Go.ChangeAt Go.RowKit

def SpecStandard (T : World → Prop) : Prop := ∀ (a b : Int) (w : World) (ht : T w), Calls Try.prog 10 #[.int .i64 a, .int .i64 b] w fun e w' => ∃ pv, e = .returned (.agg (tbl (stdc (stdIx a b)) pv).toArray) ∧ View w' .u8 pv (stdL (stdIx a b)) ∧ But Nowhere w w'

theorem stdc_in : ∀ i, i < 4 → ∀ j, j < 16 → 0 ≤ stdc i j ∧ stdc i j ≤ 255 := by decide +kernel
theorem stdc_i64 (i : Nat) (h : i < 4) (j : Nat) (hj : j < 16) : I64 (stdc i j) := by have := stdc_in i h j hj; exact ⟨by omega, by omega⟩
theorem stdL_length : ∀ i, i < 4 → (stdL i).length ≤ 162 ∧ stdL i ≠ [] := by decide +kernel

theorem stdN_len : ∀ i, i < 4 → stdN i = (stdL i).length := by decide +kernel
theorem std_view (i : Nat) (hi : i < 4) {W : World} {g : Nat} {t : TypeId} (h : Cells W g t (ints .u8 (stdL i))) : View W .u8 (.slice (some ⟨g, 0, none⟩) (stdN i) (stdN i)) (stdL i) := by
  rw [stdN_len i hi]
  refine ⟨some ⟨g, 0, none⟩, _, rfl, fun _ => ⟨g, 0, rfl, h.lt, fun j hj => ?_⟩⟩
  rw [Nat.zero_add, h.at, ints_at _ _ _ hj]

def twoC (j : Nat) : Int := if j = 0 then 2 else 0

set_option maxHeartbeats 3200000 in
set_option maxRecDepth 100000 in
theorem known_any {T : World → Prop} (hT : ∀ W W', T W → But Nowhere W W' → T W') (h1 : SpecCheck T) (h2 : SpecCodes T) (h6 : SpecStandard T) (w : World) (ht : T w) : Calls Try.prog 9 #[] w fun e w' => e = .returned (.bool true) ∧ But Nowhere w w' := by
  have HT : Hid (T w) := ht
  clear ht
  have hiB : ∀ f, (Try.prog.info? 37).map (·.size) = some (tab .i64 512 f).toArray.size := fun f => by rw [List.size_toArray, tab_length]; kernel_rfl
  have HI : Hid _ := hiB
  clear hiB
  have hz := zero512
  have hEq : ∀ a b V, (Op.equalIn 10000 36 (.agg #[.int .i64 a, .int .i64 b]) (.agg #[.int .i64 a, .int .i64 b])).run Try.prog V = .ok true V := fun a b V => equal_code a b 9997 V
  go_enter Try.func9, Try.ntmps9
  go_wp2_with fail
  refine (h6 0 0 _ HT.out).mono ?_
  rintro e x1 ⟨pv, rfl, hv, d1⟩
  rw [show stdIx 0 0 = 0 from rfl] at hv
  have HW : Hid _ := d1
  have HV : Hid (View x1 .u8 pv (stdL 0)) := hv
  clear hv d1
  go_wp2_with fail
  refine (h2 (stdc 0) pv (stdL 0) (stdc_i64 0 (by omega)) _ HV.out (std_byte 0 (by omega)) (by have := (stdL_length 0 (by omega)).1; omega) (hT _ _ HT.out HW.out)).mono ?_
  rintro e x2 ⟨rfl, dd⟩
  have kk := ((Keep.start w).step (HW.out.trans dd)).made 37 (tab .i64 512 (fun _ => 0))
  have hth := kk.head.there 0 (tab .i64 512 (both (codN (stdc 0) (stdL 0)) (codV (stdc 0) (stdL 0)))).toArray.size (by simp [tab_length])
  replace kk := kk.layAll (both (codN (stdc 0) (stdL 0)) (codV (stdc 0) (stdL 0)))
  have hiB := HI.out
  clear dd HV HW
  go_upto_region 2 with (refine wpList_store_mid rfl 37 (.tmp 1) (.tmp 3) rfl x2.heap.size 0 (tab .i64 512 (both (codN (stdc 0) (stdL 0)) (codV (stdc 0) (stdL 0)))).toArray rfl rfl ?_ (hiB _) (tab_all _ _ _) ?_; exact hth)
  clear hz hth hiB HI
  revert kk
  obtain ⟨CB, hCB⟩ : ∃ n, x2.heap.size = n := ⟨_, rfl⟩
  rw [hCB]
  clear hCB
  generalize (x2.alloc (.cells (tab .i64 512 (fun _ => 0)).toArray 37)).setCells CB 0 (tab .i64 512 (both (codN (stdc 0) (stdL 0)) (codV (stdc 0) (stdL 0)))) = W1
  intro kk
  try simp only [Act.put]
  have c0 := kk.head.cell 0 (by omega)
  have c1 := kk.head.cell 1 (by omega)
  have c2 := kk.head.cell 22 (by omega)
  have c3 := kk.head.cell 23 (by omega)
  rw [show both (codN (stdc 0) (stdL 0)) (codV (stdc 0) (stdL 0)) 0 = 2 by decide +kernel] at c0
  rw [show both (codN (stdc 0) (stdL 0)) (codV (stdc 0) (stdL 0)) 1 = 0 by decide +kernel] at c1
  rw [show both (codN (stdc 0) (stdL 0)) (codV (stdc 0) (stdL 0)) 22 = 9 by decide +kernel] at c2
  rw [show both (codN (stdc 0) (stdL 0)) (codV (stdc 0) (stdL 0)) 23 = 510 by decide +kernel] at c3
  have HB : Hid _ := kk.but
  clear kk
  go_wp2_with fail
  have hb9 : But Nowhere w (W1.alloc (.cells #[.int .u8 1, .int .u8 2] 5)) := HB.out.alloc _
  have hv9 : View (W1.alloc (.cells #[.int .u8 1, .int .u8 2] 5)) .u8 (.slice (some ⟨W1.heap.size, 0, none⟩) 2 2) [1, 2] := by
    have hC := Cells.new W1 5 [.int .u8 1, .int .u8 2]
    refine ⟨some ⟨W1.heap.size, 0, none⟩, 2, rfl, fun _ => ⟨W1.heap.size, 0, rfl, hC.lt, fun i hi => ?_⟩⟩
    have hi2 : i < 2 := by simpa using hi
    rw [Nat.zero_add, hC.at]
    match i, hi2 with
    | 0, _ => rfl
    | 1, _ => rfl
  refine (h1 twoC (.slice (some ⟨W1.heap.size, 0, none⟩) 2 2) [1, 2] (fun j _ => by unfold twoC; split <;> exact ⟨by omega, by omega⟩) _ hv9 (by simp) (by simp) (hT _ _ HT.out hb9)).mono ?_
  rintro e x3 ⟨rfl, dd⟩
  rw [show checkB twoC [1, 2] = false by decide +kernel]
  have HX : Hid _ := hb9.trans dd
  clear dd hb9 hv9 c0 c1 c2 c3
  go_wp2_with fail
  go_ret
  exact ⟨rfl, HX.out⟩

end Go.Proofs.Ytadcfndjbhcfbaa
