/- What each call of package num answers (Clip, Ceil, Round, Size, Low, Back), for every input of its kind. -/
import Derived.Test.YtbabbbplpoeacaaShelf
import Derived.Test.YtbabbbplpoeacaaMath
import Derived.WalkKit
import Derived.ProofKit
import Derived.OpenShut
namespace Go.Proofs.Ytbabbbplpoeacaa
open Go.ChangeShapes Go.WideShapes Go.ChangeAt Go.RowKit

theorem ret_int {k : IntKind} {a b : Int} (h : a = b) : Ending.returned (.int k a) = .returned (.int k b) := by rw [h]
theorem neg_u64 (n : Int) (h0 : -9223372036854775808 ≤ n) (h : n < 0) : IntKind.u64.wrap (-IntKind.u64.wrap n) = (n.natAbs : Int) := by
  rw [IntKind.wrap_u64, IntKind.wrap_u64]; omega
theorem w64 (n : Int) (h0 : -9223372036854775808 ≤ n) (h1 : n ≤ 9223372036854775807) : wrap64 n = n := by unfold wrap64; omega

theorem amount_any (n : Int) (w : World) (h0 : -9223372036854775808 ≤ n) (h1 : n ≤ 9223372036854775807) :
    Calls Try.prog 24 #[.int .i64 n] w fun e w' => e = .returned (.int .u64 (n.natAbs : Int)) ∧ w' = w := by
  by_cases h : n < 0
  · go_enter Try.func24, Try.ntmps24
    go_wp2
    go_ret
    exact ⟨ret_int (neg_u64 n h0 h), rfl⟩
  · go_enter Try.func24, Try.ntmps24
    go_wp2
    go_ret
    exact ⟨ret_int (by omega), rfl⟩

theorem size_any (n : Int) (w : World) (h0 : -9223372036854775808 ≤ n) (h1 : n ≤ 9223372036854775807) :
    Calls Try.prog 18 #[.int .i64 n] w fun e w' => e = .returned (.int .i64 (sz n : Int)) ∧ w' = w := by
  go_enter Try.func18, Try.ntmps18
  go_wp2_with (first | (go_at_call 24; refine (amount_any _ _ h0 h1).mono ?_; rintro e w' ⟨rfl, rfl⟩) | (go_at_call 25; refine (Try.bits_Len64 _ _ (by omega) (by omega)).mono ?_; rintro e w' ⟨rfl, rfl⟩))
  go_ret
  exact ⟨rfl, rfl⟩

theorem clip_any (n lo hi : Int) (w : World) :
    Calls Try.prog 12 #[.int .i64 n, .int .i64 lo, .int .i64 hi] w fun e w' => e = .returned (.int .i64 (clipF n lo hi)) ∧ w' = w := by
  unfold clipF
  by_cases h : n < lo
  · rw [if_pos h]
    go_enter Try.func12, Try.ntmps12
    go_wp2
    go_ret
    exact ⟨rfl, rfl⟩
  · rw [if_neg h]
    by_cases h2 : hi < n
    · rw [if_pos h2]
      go_enter Try.func12, Try.ntmps12
      go_wp2
      go_ret
      exact ⟨rfl, rfl⟩
    · rw [if_neg h2]
      go_enter Try.func12, Try.ntmps12
      go_wp2
      go_ret
      exact ⟨rfl, rfl⟩

theorem ceil_any (n d : Int) (w : World) :
    Calls Try.prog 14 #[.int .i64 n, .int .i64 d] w fun e w' => e = .returned (.int .i64 (ceilF n d)) ∧ w' = w := by
  unfold ceilF
  by_cases h : 0 ≤ n ∧ n ≤ 1099511627776 ∧ 1 ≤ d ∧ d ≤ 1099511627776
  · rw [if_pos h]
    obtain ⟨h0, h1, h2, h3⟩ := h
    go_enter Try.func14, Try.ntmps14
    go_wp2
    go_ret
    exact ⟨rfl, rfl⟩
  · rw [if_neg h]
    go_enter Try.func14, Try.ntmps14
    go_wp2
    all_goals first | (exfalso; omega) | go_ret
    all_goals exact ⟨rfl, rfl⟩

theorem neg_tdiv (n d : Int) (h : n < 0) (h1 : 1 ≤ d) : (n + -(d / 2)).tdiv d = -((-n + d / 2) / d) := by
  rw [show n + -(d / 2) = -(-n + d / 2) by omega, Int.neg_tdiv, Int.tdiv_eq_ediv_of_nonneg (by omega)]

theorem round_any (n d : Int) (w : World) (h0 : -9223372036854775808 ≤ n) (h1 : n ≤ 9223372036854775807) :
    Calls Try.prog 16 #[.int .i64 n, .int .i64 d] w fun e w' => e = .returned (.int .i64 (roundF n d)) ∧ w' = w := by
  unfold roundF
  by_cases h : -4611686018427387904 ≤ n ∧ n ≤ 4611686018427387904 ∧ 1 ≤ d ∧ d ≤ 1152921504606846976
  · rw [if_pos h]
    obtain ⟨h2, h3, h4, h5⟩ := h
    have ha : n.natAbs ≤ 4611686018427387904 := by omega
    by_cases hn : n < 0
    · rw [if_pos hn]
      go_enter Try.func16, Try.ntmps16
      go_wp2_with (go_at_call 24; refine (amount_any _ _ (by omega) (by omega)).mono ?_; rintro e w' ⟨rfl, rfl⟩)
      go_ret
      exact ⟨ret_int (neg_tdiv n d hn h4), rfl⟩
    · rw [if_neg hn]
      go_enter Try.func16, Try.ntmps16
      go_wp2_with (go_at_call 24; refine (amount_any _ _ (by omega) (by omega)).mono ?_; rintro e w' ⟨rfl, rfl⟩)
      go_ret
      exact ⟨rfl, rfl⟩
  · rw [if_neg h]
    go_enter Try.func16, Try.ntmps16
    go_wp2_with (go_at_call 24; refine (amount_any _ _ h0 h1).mono ?_; rintro e w' ⟨rfl, rfl⟩)
    all_goals first | (exfalso; omega) | go_ret
    all_goals exact ⟨rfl, rfl⟩

theorem low_num (n : Int) (k : Nat) (h0 : -2147483648 ≤ n) (h1 : n < 0) (hk : k ≤ 32) : wrap64 (wrap64 (n + wrap64 (2 ^ k)) - 1) = n + 2 ^ k - 1 := by
  have := pow_bd k hk
  rw [w64 (2 ^ k) (by omega) (by omega), w64 (n + 2 ^ k) (by omega) (by omega), w64 _ (by omega) (by omega)]

theorem low_any (n : Int) (w : World) (h0 : -9223372036854775808 ≤ n) (h1 : n ≤ 9223372036854775807) :
    Calls Try.prog 20 #[.int .i64 n] w fun e w' => e = .returned (.int .i64 (lowF n)) ∧ w' = w := by
  unfold lowF
  by_cases h : -2147483648 ≤ n ∧ n ≤ 2147483648
  · rw [if_pos h]
    obtain ⟨h2, h3⟩ := h
    have ha : n.natAbs ≤ 2147483648 := by omega
    by_cases hn : n < 0
    · rw [if_pos hn]
      have hs : sz n ≤ 32 := sz_le n 32 (by omega) (by omega)
      go_enter Try.func20, Try.ntmps20
      go_wp2_with (first | (go_at_call 24; refine (amount_any _ _ (by omega) (by omega)).mono ?_; rintro e w' ⟨rfl, rfl⟩) | (go_at_call 18; refine (size_any _ _ (by omega) (by omega)).mono ?_; rintro e w' ⟨rfl, rfl⟩))
      go_ret
      exact ⟨ret_int (low_num n _ h2 hn hs), rfl⟩
    · rw [if_neg hn]
      go_enter Try.func20, Try.ntmps20
      go_wp2_with (go_at_call 24; refine (amount_any _ _ (by omega) (by omega)).mono ?_; rintro e w' ⟨rfl, rfl⟩)
      go_ret
      exact ⟨rfl, rfl⟩
  · rw [if_neg h]
    go_enter Try.func20, Try.ntmps20
    go_wp2_with (go_at_call 24; refine (amount_any _ _ h0 h1).mono ?_; rintro e w' ⟨rfl, rfl⟩)
    all_goals first | (exfalso; omega) | go_ret
    all_goals exact ⟨rfl, rfl⟩

theorem back_any (v s : Int) (w : World) :
    Calls Try.prog 22 #[.int .i64 v, .int .i64 s] w fun e w' => e = .returned (.int .i64 (backF v s)) ∧ w' = w := by
  unfold backF
  by_cases hs : 0 ≤ s ∧ s ≤ 31
  · obtain ⟨h0, h1⟩ := hs
    obtain ⟨k, rfl⟩ := Int.eq_ofNat_of_zero_le h0
    have hk : k ≤ 31 := by omega
    have hp := pow_bd k (by omega)
    have hw : wrap64 (2 ^ k) = 2 ^ k := w64 _ (by omega) (by omega)
    by_cases hv : 0 ≤ v ∧ v < 2 ^ k
    · obtain ⟨v0, v1⟩ := hv
      rw [if_pos (by simp; omega)]
      by_cases hz : (sz v : Int) = (k : Int)
      · rw [if_pos hz]
        have hz' : ((sz v : Int) == (k : Int)) = true := by simp only [beq_iff_eq]; exact hz
        clear hz
        go_enter Try.func22, Try.ntmps22
        go_wp2_with (go_at_call 18; refine (size_any _ _ (by omega) (by omega)).mono ?_; rintro e w' ⟨rfl, rfl⟩)
        go_ret
        exact ⟨rfl, rfl⟩
      · rw [if_neg hz]
        have hz' : ((sz v : Int) == (k : Int)) = false := by simp only [beq_eq_false_iff_ne]; exact hz
        clear hz
        go_enter Try.func22, Try.ntmps22
        go_wp2_with (go_at_call 18; refine (size_any _ _ (by omega) (by omega)).mono ?_; rintro e w' ⟨rfl, rfl⟩)
        go_ret
        exact ⟨rfl, rfl⟩
    · rw [if_neg (by simp; omega)]
      go_enter Try.func22, Try.ntmps22
      go_wp2
      all_goals first | (exfalso; omega) | go_ret
      all_goals exact ⟨rfl, rfl⟩
  · rw [if_neg (by omega)]
    go_enter Try.func22, Try.ntmps22
    go_wp2
    all_goals first | (exfalso; omega) | go_ret
    all_goals exact ⟨rfl, rfl⟩
end Go.Proofs.Ytbabbbplpoeacaa
