/- The small calls of layer 9: order, lists, steps, reckoners; and the document's. -/
import Derived.Test.YthaekjdnaaikfaaDoorQuMath
import Derived.Test.YthaekjdnaaikfaaDoorBlk64
namespace Go.Proofs.YthaekjdnaaikfaaDoor
set_option linter.unusedVariables false
open Go.ChangeShapes Go.WideShapes Go.ChangeAt Go.RowKit

/-- The tables of order and lists. -/
structure QTab (W : World) : Prop where
  ord : ∀ i, i < 64 → W.cell? ⟨0, i, none⟩ = some (.int .u8 ((zz i : Nat) : Int))
  lst : ∀ p, p < 2 → ∀ j, j < 64 → W.cell? ⟨1, p * 64 + j, none⟩ = some (.int .u8 (lst p j))

theorem QTab.butS {S : Nat → Prop} {W W' : World} (h : QTab W) (hb : But S W W') (h0 : ¬ S 0) (h1 : ¬ S 1) : QTab W' := ⟨fun i hi => hb.keeps h0 (h.ord i hi), fun p hp j hj => hb.keeps h1 (h.lst p hp j hj)⟩
theorem QTab.but {W W' : World} (h : QTab W) (hb : But Nowhere W W') : QTab W' := h.butS hb (not_nowhere _) (not_nowhere _)
theorem QTab.lt {W : World} (h : QTab W) : 1 < W.heap.size := World.block_lt_of_cell? W _ (h.lst 0 (by omega) 0 (by omega))

set_option maxHeartbeats 400000 in
theorem zig_in (k : Nat) (hk : k < 64) (w : World) (ht : QTab w) : Calls Tryd.prog 10 #[.int .i64 (k : Int)] w fun e w' => e = .returned (.int .i64 ((zz k : Nat) : Int)) ∧ w' = w := by
  have hc := ht.ord k hk
  have hz := zz_lt k hk
  have i0 : (0 : Int) ≤ (k : Int) := by omega
  have i1 : (k : Int) < 64 := by omega
  have hw : wrap64 ((zz k : Nat) : Int) = ((zz k : Nat) : Int) := w64 _ (by omega)
  go_enter Tryd.func10, Tryd.ntmps10
  go_wp2
  go_ret
  exact ⟨rfl, rfl⟩

set_option maxHeartbeats 400000 in
theorem zig_any (i : Int) (w : World) (ht : QTab w) : Calls Tryd.prog 10 #[.int .i64 i] w fun e w' => e = .returned (.int .i64 (zigF i)) ∧ w' = w := by
  by_cases h0 : 0 ≤ i
  · by_cases h1 : i < 64
    · obtain ⟨k, rfl⟩ : ∃ k : Nat, i = (k : Int) := ⟨i.toNat, by omega⟩
      rw [zigF_in k (by omega)]
      exact zig_in k (by omega) w ht
    · have e1 : zigF i = 0 := by unfold zigF; rw [if_neg (by omega)]
      rw [e1]
      go_enter Tryd.func10, Tryd.ntmps10
      go_wp2
      go_ret
      exact ⟨rfl, rfl⟩
  · have e1 : zigF i = 0 := by unfold zigF; rw [if_neg (by omega)]
    rw [e1]
    go_enter Tryd.func10, Tryd.ntmps10
    go_wp2
    go_ret
    exact ⟨rfl, rfl⟩

set_option maxHeartbeats 400000 in
theorem listed_any (part : Int) (j : Nat) (hj : j < 64) (w : World) (ht : QTab w) : Calls Tryd.prog 39 #[.int .i64 part, .int .i64 (j : Int)] w fun e w' => e = .returned (.int .i64 (lst (pl part) j)) ∧ w' = w := by
  have i0 : (0 : Int) ≤ (j : Int) := by omega
  have i1 : (j : Int) < 64 := by omega
  by_cases hp : part = 0
  · have e1 : pl part = 0 := by unfold pl; rw [if_pos hp]
    rw [e1]
    subst hp
    have hc := ht.lst 0 (by omega) j hj
    have hb := lst_bd 0 (by omega) j hj
    have hw : wrap64 (lst 0 j) = lst 0 j := w64 _ (by omega)
    rw [Nat.zero_mul, Nat.zero_add] at hc
    go_enter Tryd.func39, Tryd.ntmps39
    go_wp2
    go_ret
    exact ⟨rfl, rfl⟩
  · have e1 : pl part = 1 := by unfold pl; rw [if_neg hp]
    rw [e1]
    have hc := ht.lst 1 (by omega) j hj
    have hb := lst_bd 1 (by omega) j hj
    have hw : wrap64 (lst 1 j) = lst 1 j := w64 _ (by omega)
    rw [Nat.one_mul] at hc
    go_enter Tryd.func39, Tryd.ntmps39
    go_wp2
    go_ret
    exact ⟨rfl, rfl⟩

set_option maxHeartbeats 400000 in
theorem scaleOf_any (q : Int) (w : World) : Calls Tryd.prog 37 #[.int .i64 q] w fun e w' => e = .returned (.int .i64 (scaleF q)) ∧ w' = w := by
  unfold scaleF
  have hb := clipF_bd q 1 100 (by omega)
  generalize hc : clipF q 1 100 = c at *
  have HC : Hid (clipF q 1 100 = c) := hc
  clear hc
  by_cases h : c < 50
  · rw [if_pos h]
    go_enter Tryd.func37, Tryd.ntmps37
    go_wp2_with (go_at_call 38; refine (numClip_any _ _ _ _).mono ?_; rintro e w' ⟨rfl, rfl⟩; rw [HC.out])
    go_ret
    exact ⟨rfl, rfl⟩
  · rw [if_neg h]
    have e1 : (200 : Int) - 2 * c = 2 * (100 - c) := by omega
    rw [e1]
    go_enter Tryd.func37, Tryd.ntmps37
    go_wp2_with (go_at_call 38; refine (numClip_any _ _ _ _).mono ?_; rintro e w' ⟨rfl, rfl⟩; rw [HC.out])
    go_ret
    exact ⟨rfl, rfl⟩

set_option maxHeartbeats 400000 in
theorem leastOf_any (k : Nat) (hk : k < 64) (w : World) : Calls Tryd.prog 42 #[.int .i64 (k : Int)] w fun e w' => e = .returned (.int .i64 (leastF k)) ∧ w' = w := by
  unfold leastF
  by_cases h : k = 0
  · subst h
    rw [if_pos rfl]
    go_enter Tryd.func42, Tryd.ntmps42
    go_wp2
    go_ret
    exact ⟨rfl, rfl⟩
  · rw [if_neg h]
    have h' : ¬ (k : Int) = 0 := by omega
    go_enter Tryd.func42, Tryd.ntmps42
    go_wp2
    go_ret
    exact ⟨rfl, rfl⟩

/-- A list of 64 steps. -/
def Sts (W : World) (v : Value) (q : Nat → Int) : Prop := View W .i64 v ((List.range 64).map q)

theorem Sts.but {W W' : World} {v : Value} {q : Nat → Int} (h : Sts W v q) (hb : But Nowhere W W') : Sts W' v q := View.but h hb
theorem Sts.at {W : World} {v : Value} {q : Nat → Int} (h : Sts W v q) (j : Nat) (hj : j < 64) : ∃ sb off cap, v = .slice (some ⟨sb, off, none⟩) 64 cap ∧ W.cell? ⟨sb, off + j, none⟩ = some (.int .i64 (q j)) := by
  obtain ⟨ao, cap, hv⟩ := View.slice h
  subst hv
  obtain ⟨-, sb, off, e, -, c⟩ := View.at h j (by simpa using hj)
  subst e
  refine ⟨sb, off, cap, by simp, ?_⟩
  simpa using c

set_option maxHeartbeats 400000 in
theorem stepOf_any (v : Value) (q : Nat → Int) (j : Nat) (hj : j < 64) (w : World) (h : Sts w v q) : Calls Tryd.prog 41 #[v, .int .i64 (j : Int)] w fun e w' => e = .returned (.int .i64 (q j)) ∧ w' = w := by
  obtain ⟨sb, off, cap, rfl, hc⟩ := h.at j hj
  have i0 : (0 : Int) ≤ (j : Int) := by omega
  have i1 : (j : Int) < 64 := by omega
  go_enter Tryd.func41, Tryd.ntmps41
  go_wp2
  go_ret
  exact ⟨rfl, rfl⟩

set_option maxHeartbeats 400000 in
theorem times_any (a b : Int) (w : World) : Calls Tryd.prog 44 #[.int .i64 a, .int .i64 b] w fun e w' => e = .returned (.int .i64 (wrap64 (a * b))) ∧ w' = w := by
  go_enter Tryd.func44, Tryd.ntmps44
  go_wp2
  go_ret
  exact ⟨rfl, rfl⟩

theorem amt_num (n : Int) (h0 : -9223372036854775808 ≤ n) (h1 : n < 0) : IntKind.u64.wrap (-IntKind.u64.wrap n) = -n := by
  rw [IntKind.wrap_u64, IntKind.wrap_u64]; omega
theorem amt_pos (n : Int) (h1 : 0 ≤ n) (h0 : n ≤ 9223372036854775807) : IntKind.u64.wrap n = n := by
  rw [IntKind.wrap_u64]; omega

set_option maxHeartbeats 400000 in
theorem amount_neg (n : Int) (w : World) (h0 : -9223372036854775808 ≤ n) (h1 : n < 0) : Calls Tryd.prog 49 #[.int .i64 n] w fun e w' => e = .returned (.int .u64 (-n)) ∧ w' = w := by
  have e1 := amt_num n h0 h1
  go_enter Tryd.func49, Tryd.ntmps49
  go_wp2
  go_ret
  exact ⟨rfl, rfl⟩

set_option maxHeartbeats 400000 in
theorem amount_pos (n : Int) (w : World) (h1 : 0 ≤ n) (h0 : n ≤ 9223372036854775807) : Calls Tryd.prog 49 #[.int .i64 n] w fun e w' => e = .returned (.int .u64 n) ∧ w' = w := by
  have e1 := amt_pos n h1 h0
  go_enter Tryd.func49, Tryd.ntmps49
  go_wp2
  go_ret
  exact ⟨rfl, rfl⟩

theorem neg_tdiv (n d : Int) (h : n < 0) (h2 : 1 ≤ d) : (n + -(d / 2)).tdiv d = nearF n d := by
  unfold nearF
  rw [if_pos h, show n + -(d / 2) = -(-n + d / 2) by omega, Int.neg_tdiv, Int.tdiv_eq_ediv_of_nonneg (by omega)]

theorem pos_tdiv (n d : Int) (h : ¬ n < 0) : (n + d / 2) / d = nearF n d := by
  unfold nearF
  rw [if_neg h]

set_option maxHeartbeats 1600000 in
theorem numRound_in (n d : Int) (w : World) (h0 : -32767 ≤ n) (h1 : n ≤ 32767) (d0 : 1 ≤ d) (e1 : d ≤ 255) : Calls Tryd.prog 43 #[.int .i64 n, .int .i64 d] w fun e w' => e = .returned (.int .i64 (nearF n d)) ∧ w' = w := by
  by_cases hn : n < 0
  · have r1 := neg_tdiv n d hn d0
    have r2 := nearF_bd n d h0 h1 d0 e1
    go_enter Tryd.func43, Tryd.ntmps43
    go_wp2_with (go_at_call 49; refine (amount_neg _ _ (by omega) hn).mono ?_; rintro e w' ⟨rfl, rfl⟩)
    go_ret
    exact ⟨rfl, rfl⟩
  · have r1 := pos_tdiv n d hn
    go_enter Tryd.func43, Tryd.ntmps43
    go_wp2_with (go_at_call 49; refine (amount_pos _ _ (by omega) (by omega)).mono ?_; rintro e w' ⟨rfl, rfl⟩)
    go_ret
    exact ⟨ret_num (pos_tdiv n d (by omega)), rfl⟩

/-- How numbers are reckoned with, and secrets. -/
abbrev rkN : List Value := [.func (.func 38) #[] #[], .func (.func 43) #[] #[], .func (.func 44) #[] #[]]
abbrev rkS : List Value := [.func (.func 46) #[] #[], .func (.func 47) #[] #[], .func (.func 48) #[] #[]]

set_option maxHeartbeats 400000 in
theorem plain_any (w : World) : Calls Tryd.prog 30 #[] w fun e w' => e = .returned (.agg rkN.toArray) ∧ But Nowhere w w' := by
  have hu := Tryd.underlying52
  go_enter Tryd.func30, Tryd.ntmps30
  go_wp2
  exact bodyPost_ret (results_cells rfl (Cells.new w 52 rkN) hu rfl (by kernel_rfl) _ rfl) rfl ⟨rfl, (But.refl _ _).alloc _⟩

set_option maxHeartbeats 400000 in
theorem secret_any (w : World) : Calls Tryd.prog 34 #[] w fun e w' => e = .returned (.agg rkS.toArray) ∧ But Nowhere w w' := by
  have hu := Tryd.underlying59
  go_enter Tryd.func34, Tryd.ntmps34
  go_wp2
  exact bodyPost_ret (results_cells rfl (Cells.new w 59 rkS) hu rfl (by kernel_rfl) _ rfl) rfl ⟨rfl, (But.refl _ _).alloc _⟩

end Go.Proofs.YthaekjdnaaikfaaDoor
