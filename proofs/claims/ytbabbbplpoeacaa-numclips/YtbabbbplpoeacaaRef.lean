/- What each call of the document's answer for layer 1 (package cyanotyperef01) answers, for every input of its kind: the same functions as package num's. -/
import Derived.Test.YtbabbbplpoeacaaNum
import Derived.LoopTactic
namespace Go.Proofs.Ytbabbbplpoeacaa
open Go.ChangeShapes Go.WideShapes Go.ChangeAt Go.RowKit

theorem half_up (n d : Int) (h1 : 1 ≤ d) : (n + d / 2) / d = if d ≤ 2 * (n - n / d * d) then n / d + 1 else n / d := by
  have a := Int.emod_add_mul_ediv n d
  have b := Int.emod_nonneg n (show d ≠ 0 by omega)
  have c := Int.emod_lt_of_pos n (show 0 < d by omega)
  rw [Int.mul_comm d] at a
  by_cases h : d ≤ 2 * (n - n / d * d)
  · rw [if_pos h]
    have e : n + d / 2 = (n % d + d / 2 - d) + (n / d + 1) * d := by rw [Int.add_mul, Int.one_mul]; omega
    rw [e, Int.add_mul_ediv_right _ _ (by omega), Int.ediv_eq_zero_of_lt (by omega) (by omega)]; omega
  · rw [if_neg h]
    have e : n + d / 2 = (n % d + d / 2) + n / d * d := by omega
    rw [e, Int.add_mul_ediv_right _ _ (by omega), Int.ediv_eq_zero_of_lt (by omega) (by omega)]; omega
theorem ceil_up2 (n d : Int) (h1 : 1 ≤ d) : (n + d - 1) / d = if n / d * d < n then n / d + 1 else n / d := by
  have a := Int.emod_add_mul_ediv n d
  have b := Int.emod_nonneg n (show d ≠ 0 by omega)
  have c := Int.emod_lt_of_pos n (show 0 < d by omega)
  rw [Int.mul_comm d] at a
  by_cases h : n / d * d < n
  · rw [if_pos h]
    have e : n + d - 1 = (n % d - 1) + (n / d + 1) * d := by rw [Int.add_mul, Int.one_mul]; omega
    rw [e, Int.add_mul_ediv_right _ _ (by omega), Int.ediv_eq_zero_of_lt (by omega) (by omega)]; omega
  · rw [if_neg h]
    have e : n + d - 1 = (d - 1) + n / d * d := by omega
    rw [e, Int.add_mul_ediv_right _ _ (by omega), Int.ediv_eq_zero_of_lt (by omega) (by omega)]; omega
theorem quo_bd (n d : Int) (h0 : 0 ≤ n) (h1 : 1 ≤ d) : 0 ≤ n / d ∧ n / d ≤ n ∧ 0 ≤ n / d * d ∧ n / d * d ≤ n ∧ n < n / d * d + d := by
  have a := Int.emod_add_mul_ediv n d
  have b := Int.emod_nonneg n (show d ≠ 0 by omega)
  have c := Int.emod_lt_of_pos n (show 0 < d by omega)
  rw [Int.mul_comm d] at a
  have e := Int.ediv_nonneg h0 (show 0 ≤ d by omega)
  exact ⟨e, Int.ediv_le_self _ h0, Int.mul_nonneg e (by omega), by omega, by omega⟩

theorem shr_bd (n : Int) (k : Nat) (h0 : -9223372036854775808 ≤ n) (h1 : n ≤ 9223372036854775807) : -9223372036854775808 ≤ n / 2 ^ k ∧ n / 2 ^ k ≤ 9223372036854775807 := by
  have hp : (1 : Int) ≤ 2 ^ k := by
    have h2 : 1 ≤ 2 ^ k := Nat.one_le_two_pow
    have e : ((2 ^ k : Nat) : Int) = (2 : Int) ^ k := by simp
    omega
  have a := Int.mul_ediv_self_le (x := n) (k := 2 ^ k) (by omega)
  constructor
  · by_cases h : -9223372036854775808 ≤ n / 2 ^ k
    · exact h
    · exfalso
      have e := Int.lt_ediv_add_one_mul_self n (b := 2 ^ k) (by omega)
      have f : (n / 2 ^ k + 1) * 2 ^ k ≤ (n / 2 ^ k + 1) * 1 := Int.mul_le_mul_of_nonpos_left (by omega) hp
      omega
  · by_cases h : 0 ≤ n
    · have := Int.ediv_le_self (2 ^ k) h; omega
    · have : n / 2 ^ k < 0 := Int.ediv_neg_of_neg_of_pos (by omega) (by omega)
      omega

theorem rclip_any (n lo hi : Int) (w : World) :
    Calls Try.prog 13 #[.int .i64 n, .int .i64 lo, .int .i64 hi] w fun e w' => e = .returned (.int .i64 (clipF n lo hi)) ∧ w' = w := by
  unfold clipF
  by_cases h : n < lo
  · rw [if_pos h]
    go_enter Try.func13, Try.ntmps13
    go_wp2
    go_ret
    exact ⟨rfl, rfl⟩
  · rw [if_neg h]
    by_cases h2 : hi < n
    · rw [if_pos h2]
      go_enter Try.func13, Try.ntmps13
      go_wp2
      go_ret
      exact ⟨rfl, rfl⟩
    · rw [if_neg h2]
      go_enter Try.func13, Try.ntmps13
      go_wp2
      go_ret
      exact ⟨rfl, rfl⟩

theorem rceil_any (n d : Int) (w : World) :
    Calls Try.prog 15 #[.int .i64 n, .int .i64 d] w fun e w' => e = .returned (.int .i64 (ceilF n d)) ∧ w' = w := by
  unfold ceilF
  by_cases h : 0 ≤ n ∧ n ≤ 1099511627776 ∧ 1 ≤ d ∧ d ≤ 1099511627776
  · rw [if_pos h]
    obtain ⟨h0, h1, h2, h3⟩ := h
    obtain ⟨q0, q1, q2, q3, q4⟩ := quo_bd n d h0 h2
    have e1 : wrap64 (n / d * d) = n / d * d := w64 _ (by omega) (by omega)
    rw [ceil_up2 n d h2]
    by_cases hc : n / d * d < n
    · rw [if_pos hc]
      go_enter Try.func15, Try.ntmps15
      go_wp2
      go_ret
      exact ⟨rfl, rfl⟩
    · rw [if_neg hc]
      go_enter Try.func15, Try.ntmps15
      go_wp2
      go_ret
      exact ⟨rfl, rfl⟩
  · rw [if_neg h]
    go_enter Try.func15, Try.ntmps15
    go_wp2
    all_goals first | (exfalso; omega) | go_ret
    all_goals exact ⟨rfl, rfl⟩

theorem rround_pos (n d : Int) (w : World) (h0 : 0 ≤ n) (h1 : n ≤ 4611686018427387904) (h2 : 1 ≤ d) (h3 : d ≤ 1152921504606846976) :
    Calls Try.prog 17 #[.int .i64 n, .int .i64 d] w fun e w' => e = .returned (.int .i64 ((n + d / 2) / d)) ∧ w' = w := by
  obtain ⟨q0, q1, q2, q3, q4⟩ := quo_bd n d h0 h2
  have e1 : wrap64 (n / d * d) = n / d * d := w64 _ (by omega) (by omega)
  rw [half_up n d h2]
  by_cases hc : d ≤ 2 * (n - n / d * d)
  · rw [if_pos hc]
    go_enter Try.func17, Try.ntmps17
    go_wp2
    go_ret
    exact ⟨rfl, rfl⟩
  · rw [if_neg hc]
    go_enter Try.func17, Try.ntmps17
    go_wp2
    go_ret
    exact ⟨rfl, rfl⟩

theorem rround_any (n d : Int) (w : World) :
    Calls Try.prog 17 #[.int .i64 n, .int .i64 d] w fun e w' => e = .returned (.int .i64 (roundF n d)) ∧ w' = w := by
  unfold roundF
  by_cases h : -4611686018427387904 ≤ n ∧ n ≤ 4611686018427387904 ∧ 1 ≤ d ∧ d ≤ 1152921504606846976
  · rw [if_pos h]
    obtain ⟨h2, h3, h4, h5⟩ := h
    by_cases hn : n < 0
    · rw [if_pos hn]
      have r0 := Int.ediv_nonneg (show 0 ≤ -n + d / 2 by omega) (show 0 ≤ d by omega)
      have r1 := Int.ediv_le_self d (show 0 ≤ -n + d / 2 by omega)
      go_enter Try.func17, Try.ntmps17
      go_wp2_with (go_at_call 17; refine (rround_pos _ _ _ (by omega) (by omega) (by omega) (by omega)).mono ?_; rintro e w' ⟨rfl, rfl⟩)
      go_ret
      exact ⟨rfl, rfl⟩
    · rw [if_neg hn]
      exact rround_pos n d w (by omega) h3 h4 h5
  · rw [if_neg h]
    go_enter Try.func17, Try.ntmps17
    go_wp2_with fail
    all_goals first | (exfalso; omega) | go_ret
    all_goals exact ⟨rfl, rfl⟩

theorem sz_half (n : Int) (h : 0 < n) (h1 : n ≤ 9223372036854775807) : sz n = 1 + sz (n / 2) := by
  rw [sz_pos n (by omega) (by omega), show ((n.natAbs / 2 : Nat) : Int) = n / 2 by omega]

theorem rsize_pos (n : Int) (w : World) (h0 : 0 ≤ n) (h1 : n ≤ 9223372036854775807) :
    Calls Try.prog 19 #[.int .i64 n] w fun e w' => e = .returned (.int .i64 (sz n : Int)) ∧ w' = w := by
  have hs : sz n ≤ 64 := sz_le n 64 (by omega) (by omega)
  have hne : (n == -9223372036854775808) = false := by simp only [beq_eq_false_iff_ne]; omega
  go_enter Try.func19, Try.ntmps19
  go_wp2
  go_loop [0, 3] (fun t k => ∃ m j : Int, 0 ≤ m ∧ m ≤ 9223372036854775807 ∧ 0 ≤ j ∧ j + (sz m : Int) = (sz n : Int) ∧ t = .int .i64 m ∧ k = .int .i64 j) (fun t _ => (intOf t).toNat)
  case atStart => exact ⟨n, 0, h0, h1, by omega, by omega, rfl, rfl⟩
  case round =>
    obtain ⟨m, j, m0, m1, j0, hj, rfl, rfl⟩ := hrel
    have HJ : Hid (j + (sz m : Int) = (sz n : Int)) := hj
    by_cases hm : 0 < m
    · have jb : j ≤ 64 := by omega
      clear hj
      go_wp2
      go_round
      case rel => exact ⟨m / 2, j + 1, by omega, by omega, by omega, by have := sz_half m hm m1; have := HJ.out; omega, by go_num, by go_num⟩
      case measure => simp [intOf]; omega
    · clear hj
      go_wp2
      go_ret
      have : m = 0 := by omega
      subst this
      exact ⟨ret_int (by have := HJ.out; rw [sz_zero] at this; omega), rfl⟩

theorem rsize_any (n : Int) (w : World) (h0 : -9223372036854775808 ≤ n) (h1 : n ≤ 9223372036854775807) :
    Calls Try.prog 19 #[.int .i64 n] w fun e w' => e = .returned (.int .i64 (sz n : Int)) ∧ w' = w := by
  by_cases hn : 0 ≤ n
  · exact rsize_pos n w hn h1
  · by_cases hm : n = -9223372036854775808
    · subst hm
      have k : sz (-9223372036854775808) = 64 := sz_eq _ 64 (by omega) (by decide) (by decide)
      go_enter Try.func19, Try.ntmps19
      go_wp2
      go_ret
      exact ⟨rfl, rfl⟩
    · have hs : sz n ≤ 64 := sz_le n 64 (by omega) (by omega)
      have hne : (n == -9223372036854775808) = false := by simp only [beq_eq_false_iff_ne]; exact hm
      have h0' : -9223372036854775807 ≤ n := by omega
      clear hm h0
      go_enter Try.func19, Try.ntmps19
      go_wp2
      go_loop [0, 3] (fun t k => ∃ m j : Int, 0 ≤ m ∧ m ≤ 9223372036854775807 ∧ 0 ≤ j ∧ j + (sz m : Int) = (sz n : Int) ∧ t = .int .i64 m ∧ k = .int .i64 j) (fun t _ => (intOf t).toNat)
      case atStart => exact ⟨-n, 0, by omega, by omega, by omega, by rw [sz_neg]; omega, rfl, rfl⟩
      case round =>
        obtain ⟨m, j, m0, m1, j0, hj, rfl, rfl⟩ := hrel
        have HJ : Hid (j + (sz m : Int) = (sz n : Int)) := hj
        by_cases hm : 0 < m
        · have jb : j ≤ 64 := by omega
          clear hj
          go_wp2
          go_round
          case rel => exact ⟨m / 2, j + 1, by omega, by omega, by omega, by have := sz_half m hm m1; have := HJ.out; omega, by go_num, by go_num⟩
          case measure => simp [intOf]; omega
        · clear hj
          go_wp2
          go_ret
          have : m = 0 := by omega
          subst this
          exact ⟨ret_int (by have := HJ.out; rw [sz_zero] at this; omega), rfl⟩

theorem rlow_any (n : Int) (w : World) :
    Calls Try.prog 21 #[.int .i64 n] w fun e w' => e = .returned (.int .i64 (lowF n)) ∧ w' = w := by
  unfold lowF
  by_cases h : -2147483648 ≤ n ∧ n ≤ 2147483648
  · rw [if_pos h]
    obtain ⟨h2, h3⟩ := h
    by_cases hn : n < 0
    · rw [if_pos hn]
      have hs : sz n ≤ 32 := sz_le n 32 (by omega) (by omega)
      go_enter Try.func21, Try.ntmps21
      go_wp2
      go_loop [3, 4] (fun p i => ∃ k : Nat, k ≤ sz n ∧ i = .int .i64 k ∧ p = .int .i64 (2 ^ k)) (fun _ i => sz n - (intOf i).toNat)
      case atStart => exact ⟨0, by omega, rfl, rfl⟩
      case round =>
        obtain ⟨k, hk, rfl, rfl⟩ := hrel
        have hp := pow_bd k (by omega)
        by_cases hlt : k < sz n
        · go_wp2_with (go_at_call 19; refine (rsize_any _ _ (by omega) (by omega)).mono ?_; rintro e w' ⟨rfl, rfl⟩)
          go_round
          case rel => exact ⟨k + 1, by omega, by go_num, by rw [Int.pow_succ, Int.mul_comm]⟩
          case measure => simp [intOf]; omega
        · go_wp2_with (go_at_call 19; refine (rsize_any _ _ (by omega) (by omega)).mono ?_; rintro e w' ⟨rfl, rfl⟩)
          go_ret
          have : k = sz n := by omega
          subst this
          exact ⟨rfl, rfl⟩
    · rw [if_neg hn]
      go_enter Try.func21, Try.ntmps21
      go_wp2
      go_ret
      exact ⟨rfl, rfl⟩
  · rw [if_neg h]
    go_enter Try.func21, Try.ntmps21
    go_wp2_with fail
    all_goals first | (exfalso; omega) | go_ret
    all_goals exact ⟨rfl, rfl⟩

theorem rback_any (v s : Int) (w : World) :
    Calls Try.prog 23 #[.int .i64 v, .int .i64 s] w fun e w' => e = .returned (.int .i64 (backF v s)) ∧ w' = w := by
  go_enter Try.func23, Try.ntmps23
  go_wp2
  go_loop [5, 6] (fun p i => ∃ k : Nat, k ≤ s.toNat ∧ k ≤ 31 ∧ i = .int .i64 k ∧ p = .int .i64 (2 ^ k)) (fun _ i => 31 - (intOf i).toNat)
  case atStart => exact ⟨0, by omega, by omega, rfl, rfl⟩
  case round =>
    obtain ⟨k, hk, h31, rfl, rfl⟩ := hrel
    have hp := pow_bd k (by omega)
    by_cases hlt : (k : Int) < s ∧ k < 31
    · obtain ⟨l1, l2⟩ := hlt
      go_wp2
      go_round
      case rel => exact ⟨k + 1, by omega, by omega, by go_num, by rw [Int.pow_succ, Int.mul_comm]⟩
      case measure => simp [intOf]; omega
    · by_cases hs : 0 ≤ s ∧ s ≤ 31
      · obtain ⟨s0, s1⟩ := hs
        have ek : s = (k : Int) := by omega
        subst ek
        by_cases hv : 0 ≤ v ∧ v < 2 ^ k
        · obtain ⟨v0, v1⟩ := hv
          have HE : Hid (backF v k = if 2 ^ k ≤ 2 * v then v else v - 2 ^ k + 1) := back_eq v k h31 v0 v1
          by_cases hc : 2 ^ k ≤ 2 * v
          · go_wp2
            go_ret
            exact ⟨ret_int (by rw [HE.out, if_pos hc]), rfl⟩
          · go_wp2
            go_ret
            exact ⟨ret_int (by rw [HE.out, if_neg (by omega)]), rfl⟩
        · have HE : Hid (backF v k = 0) := by show backF v k = 0; unfold backF; rw [if_neg]; rw [Int.toNat_natCast]; omega
          go_wp2
          all_goals first | (exfalso; omega) | go_ret
          all_goals exact ⟨ret_int (by rw [HE.out]), rfl⟩
      · have HE : Hid (backF v s = 0) := by show backF v s = 0; unfold backF; rw [if_neg]; omega
        go_wp2
        all_goals first | (exfalso; omega) | go_ret
        all_goals exact ⟨ret_int (by rw [HE.out]), rfl⟩
end Go.Proofs.Ytbabbbplpoeacaa
