/- The small calls of layer 8: factors out of the table, reckoners, rounding; and the document's Factor and Round. -/
import Derived.Test.YtlidijlmbelhhaaDoorCol1
import Derived.Test.YtlidijlmbelhhaaDoorPlMid
import Derived.Test.YtlidijlmbelhhaaDoorDcMath
namespace Go.Proofs.YtlidijlmbelhhaaDoor
open Go.ChangeShapes Go.WideShapes Go.ChangeAt Go.RowKit

/-- The table of factors. -/
def Tab (W : World) : Prop := ∀ u, u < 8 → ∀ x, x < 8 → W.cell? ⟨0, u * 8 + x, none⟩ = some (.int .i64 (fac u x))

theorem Tab.butS {S : Nat → Prop} {W W' : World} (h : Tab W) (hb : But S W W') (hs : ¬ S 0) : Tab W' := fun u hu x hx => hb.keeps hs (h u hu x hx)
theorem Tab.but {W W' : World} (h : Tab W) (hb : But Nowhere W W') : Tab W' := h.butS hb (not_nowhere _)
theorem Tab.lt {W : World} (h : Tab W) : 0 < W.heap.size := World.block_lt_of_cell? W _ (h 0 (by omega) 0 (by omega))

set_option maxHeartbeats 400000 in
theorem isPlace_yes (n : Int) (w : World) (h : 0 ≤ n ∧ n < 8) : Calls Tryd.prog 32 #[.int .i64 n] w fun e w' => e = .returned (.bool true) ∧ w' = w := by
  obtain ⟨h0, h1⟩ := h
  go_enter Tryd.func32, Tryd.ntmps32
  go_wp2
  go_ret
  exact ⟨rfl, rfl⟩

set_option maxHeartbeats 400000 in
theorem isPlace_not (n : Int) (w : World) (h : ¬ (0 ≤ n ∧ n < 8)) : Calls Tryd.prog 32 #[.int .i64 n] w fun e w' => e = .returned (.bool false) ∧ w' = w := by
  by_cases h0 : 0 ≤ n
  · have h1 : ¬ n < 8 := by omega
    go_enter Tryd.func32, Tryd.ntmps32
    go_wp2
    go_ret
    exact ⟨rfl, rfl⟩
  · go_enter Tryd.func32, Tryd.ntmps32
    go_wp2
    go_ret
    exact ⟨rfl, rfl⟩

set_option maxHeartbeats 1600000 in
theorem factor_any (u x : Int) (w : World) (ht : Tab w) : Calls Tryd.prog 20 #[.int .i64 u, .int .i64 x] w fun e w' => e = .returned (.int .i64 (facI u x)) ∧ w' = w := by
  by_cases hu : 0 ≤ u ∧ u < 8
  · by_cases hx : 0 ≤ x ∧ x < 8
    · have e1 : facI u x = fac u.toNat x.toNat := by unfold facI; rw [if_pos (by omega)]
      have hc := ht u.toNat (by omega) x.toNat (by omega)
      obtain ⟨u0, u1⟩ := hu
      obtain ⟨x0, x1⟩ := hx
      rw [e1]
      go_enter Tryd.func20, Tryd.ntmps20
      go_wp2_with (go_at_call 32; refine (isPlace_yes _ _ ⟨by omega, by omega⟩).mono ?_; rintro e w' ⟨rfl, rfl⟩)
      go_ret
      exact ⟨rfl, rfl⟩
    · have e1 : facI u x = 0 := by unfold facI; rw [if_neg (by omega)]
      rw [e1]
      go_enter Tryd.func20, Tryd.ntmps20
      go_wp2_with (go_at_call 32; first | (refine (isPlace_yes _ _ hu).mono ?_; rintro e w' ⟨rfl, rfl⟩) | (refine (isPlace_not _ _ hx).mono ?_; rintro e w' ⟨rfl, rfl⟩))
      go_ret
      exact ⟨rfl, rfl⟩
  · have e1 : facI u x = 0 := by unfold facI; rw [if_neg (by omega)]
    rw [e1]
    go_enter Tryd.func20, Tryd.ntmps20
    go_wp2_with (go_at_call 32; refine (isPlace_not _ _ hu).mono ?_; rintro e w' ⟨rfl, rfl⟩)
    go_ret
    exact ⟨rfl, rfl⟩

set_option maxHeartbeats 400000 in
theorem back1_any (x u : Int) (w : World) (ht : Tab w) : Calls Tryd.prog 40 #[.int .i64 x, .int .i64 u] w fun e w' => e = .returned (.int .i64 (facI u x)) ∧ w' = w := by
  go_enter Tryd.func40, Tryd.ntmps40
  go_wp2_with (go_at_call 20; refine (factor_any _ _ _ ht).mono ?_; rintro e w' ⟨rfl, rfl⟩)
  go_ret
  exact ⟨rfl, rfl⟩

set_option maxHeartbeats 400000 in
theorem itself_any (a : Int) (w : World) : Calls Tryd.prog 35 #[.int .i64 a] w fun e w' => e = .returned (.int .i64 a) ∧ w' = w := by
  go_enter Tryd.func35, Tryd.ntmps35
  go_wp2
  go_ret
  exact ⟨rfl, rfl⟩

set_option maxHeartbeats 400000 in
theorem added_any (a b : Int) (w : World) : Calls Tryd.prog 36 #[.int .i64 a, .int .i64 b] w fun e w' => e = .returned (.int .i64 (wrap64 (a + b))) ∧ w' = w := by
  go_enter Tryd.func36, Tryd.ntmps36
  go_wp2
  go_ret
  exact ⟨rfl, rfl⟩

set_option maxHeartbeats 400000 in
theorem multiplied_any (a b : Int) (w : World) : Calls Tryd.prog 37 #[.int .i64 a, .int .i64 b] w fun e w' => e = .returned (.int .i64 (wrap64 (a * b))) ∧ w' = w := by
  go_enter Tryd.func37, Tryd.ntmps37
  go_wp2
  go_ret
  exact ⟨rfl, rfl⟩

theorem amt_num (n : Int) (h0 : -9223372036854775808 ≤ n) (h1 : n < 0) : IntKind.u64.wrap (-IntKind.u64.wrap n) = -n := by
  rw [IntKind.wrap_u64, IntKind.wrap_u64]; omega
theorem amt_pos (n : Int) (h1 : 0 ≤ n) (h0 : n ≤ 9223372036854775807) : IntKind.u64.wrap n = n := by
  rw [IntKind.wrap_u64]; omega

set_option maxHeartbeats 400000 in
theorem amount_neg (n : Int) (w : World) (h0 : -9223372036854775808 ≤ n) (h1 : n < 0) : Calls Tryd.prog 53 #[.int .i64 n] w fun e w' => e = .returned (.int .u64 (-n)) ∧ w' = w := by
  have e1 := amt_num n h0 h1
  go_enter Tryd.func53, Tryd.ntmps53
  go_wp2
  go_ret
  exact ⟨rfl, rfl⟩

set_option maxHeartbeats 400000 in
theorem amount_pos (n : Int) (w : World) (h1 : 0 ≤ n) (h0 : n ≤ 9223372036854775807) : Calls Tryd.prog 53 #[.int .i64 n] w fun e w' => e = .returned (.int .u64 n) ∧ w' = w := by
  have e1 := amt_pos n h1 h0
  go_enter Tryd.func53, Tryd.ntmps53
  go_wp2
  go_ret
  exact ⟨rfl, rfl⟩

theorem neg_tdiv40 (n : Int) (h : n < 0) : (n + -549755813888).tdiv 1099511627776 = rnd n := by
  unfold rnd
  rw [if_pos h, show n + -549755813888 = -(-n + 549755813888) by omega, Int.neg_tdiv, Int.tdiv_eq_ediv_of_nonneg (by omega)]

theorem pos_tdiv40 (n : Int) (h : ¬ n < 0) : (n + 549755813888) / 1099511627776 = rnd n := by
  unfold rnd
  rw [if_neg h]

set_option maxHeartbeats 1600000 in
theorem numRound_in (n : Int) (w : World) (h0 : -1152921504606846976 ≤ n) (h1 : n ≤ 1152921504606846976) : Calls Tryd.prog 48 #[.int .i64 n, .int .i64 1099511627776] w fun e w' => e = .returned (.int .i64 (rnd n)) ∧ w' = w := by
  by_cases hn : n < 0
  · go_enter Tryd.func48, Tryd.ntmps48
    go_wp2_with (go_at_call 53; refine (amount_neg _ _ (by omega) hn).mono ?_; rintro e w' ⟨rfl, rfl⟩)
    go_ret
    exact ⟨ret_num (neg_tdiv40 n hn), rfl⟩
  · go_enter Tryd.func48, Tryd.ntmps48
    go_wp2_with (go_at_call 53; refine (amount_pos _ _ (by omega) (by omega)).mono ?_; rintro e w' ⟨rfl, rfl⟩)
    go_ret
    exact ⟨ret_num (pos_tdiv40 n (by omega)), rfl⟩

set_option maxHeartbeats 400000 in
theorem rounded_in (n : Int) (w : World) (h0 : -1152921504606846976 ≤ n) (h1 : n ≤ 1152921504606846976) : Calls Tryd.prog 39 #[.int .i64 n] w fun e w' => e = .returned (.int .i64 (rnd n)) ∧ w' = w := by
  go_enter Tryd.func39, Tryd.ntmps39
  go_wp2_with (go_at_call 48; refine (numRound_in _ _ h0 h1).mono ?_; rintro e w' ⟨rfl, rfl⟩)
  go_ret
  exact ⟨rfl, rfl⟩

set_option maxHeartbeats 1600000 in
theorem refRound40_pos (n : Int) (w : World) (h0 : 0 ≤ n) (h1 : n ≤ 1152921504606846976) : Calls Tryd.prog 23 #[.int .i64 n, .int .i64 1099511627776] w fun e w' => e = .returned (.int .i64 ((n + 549755813888) / 1099511627776)) ∧ w' = w := by
  have e1 : wrap64 (n / 1099511627776 * 1099511627776) = n / 1099511627776 * 1099511627776 := w64 _ (by omega)
  by_cases hc : 1099511627776 ≤ 2 * (n - n / 1099511627776 * 1099511627776)
  · rw [show (n + 549755813888) / 1099511627776 = n / 1099511627776 + 1 by omega]
    go_enter Tryd.func23, Tryd.ntmps23
    go_wp2
    go_ret
    exact ⟨rfl, rfl⟩
  · rw [show (n + 549755813888) / 1099511627776 = n / 1099511627776 by omega]
    go_enter Tryd.func23, Tryd.ntmps23
    go_wp2
    go_ret
    exact ⟨rfl, rfl⟩

set_option maxHeartbeats 1600000 in
theorem refRound40_in (n : Int) (w : World) (h0 : -1152921504606846976 ≤ n) (h1 : n ≤ 1152921504606846976) : Calls Tryd.prog 23 #[.int .i64 n, .int .i64 1099511627776] w fun e w' => e = .returned (.int .i64 (rnd n)) ∧ w' = w := by
  unfold rnd
  by_cases hn : n < 0
  · rw [if_pos hn]
    go_enter Tryd.func23, Tryd.ntmps23
    go_wp2_with (go_at_call 23; refine (refRound40_pos _ _ (by omega) (by omega)).mono ?_; rintro e w' ⟨rfl, rfl⟩)
    go_ret
    exact ⟨rfl, rfl⟩
  · rw [if_neg hn]
    exact refRound40_pos n w (by omega) h1

/-- How numbers are reckoned with, and secrets. -/
abbrev rkN : List Value := [.func (.func 35) #[] #[], .func (.func 36) #[] #[], .func (.func 37) #[] #[], .func (.func 38) #[] #[], .func (.func 39) #[] #[]]
abbrev rkS : List Value := [.func (.func 31) #[] #[], .func (.func 44) #[] #[], .func (.func 45) #[] #[], .func (.func 46) #[] #[], .func (.func 47) #[] #[]]
abbrev wayT : List Value := [.int .i64 (-4096), .int .i64 4096, .func (.func 20) #[] #[]]
abbrev wayB : List Value := [.int .i64 (-32768), .int .i64 32767, .func (.func 40) #[] #[]]

set_option maxHeartbeats 400000 in
theorem plain_any (w : World) : Calls Tryd.prog 25 #[] w fun e w' => e = .returned (.agg rkN.toArray) ∧ But Nowhere w w' := by
  have hu := Tryd.underlying44
  go_enter Tryd.func25, Tryd.ntmps25
  go_wp2
  exact bodyPost_ret (results_cells rfl (Cells.new w 44 rkN) hu rfl (by kernel_rfl) _ rfl) rfl ⟨rfl, (But.refl _ _).alloc _⟩

set_option maxHeartbeats 400000 in
theorem secret_any (w : World) : Calls Tryd.prog 30 #[] w fun e w' => e = .returned (.agg rkS.toArray) ∧ But Nowhere w w' := by
  have hu := Tryd.underlying56
  go_enter Tryd.func30, Tryd.ntmps30
  go_wp2
  exact bodyPost_ret (results_cells rfl (Cells.new w 56 rkS) hu rfl (by kernel_rfl) _ rfl) rfl ⟨rfl, (But.refl _ _).alloc _⟩

set_option maxHeartbeats 400000 in
theorem there_any (w : World) : Calls Tryd.prog 26 #[] w fun e w' => e = .returned (.agg wayT.toArray) ∧ But Nowhere w w' := by
  have hu := Tryd.underlying47
  go_enter Tryd.func26, Tryd.ntmps26
  go_wp2
  exact bodyPost_ret (results_cells rfl (Cells.new w 47 wayT) hu rfl (by kernel_rfl) _ rfl) rfl ⟨rfl, (But.refl _ _).alloc _⟩

set_option maxHeartbeats 400000 in
theorem back_any (w : World) : Calls Tryd.prog 27 #[] w fun e w' => e = .returned (.agg wayB.toArray) ∧ But Nowhere w w' := by
  have hu := Tryd.underlying47
  go_enter Tryd.func27, Tryd.ntmps27
  go_wp2
  exact bodyPost_ret (results_cells rfl (Cells.new w 47 wayB) hu rfl (by kernel_rfl) _ rfl) rfl ⟨rfl, (But.refl _ _).alloc _⟩

end Go.Proofs.YtlidijlmbelhhaaDoor
