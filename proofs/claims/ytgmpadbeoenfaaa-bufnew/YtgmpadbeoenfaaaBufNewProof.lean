/- For every n and every list c of bytes the law BufNew of layer 4 returns true: a new one has noughts; one of bytes has these; of too many there is none. No condition. -/
import Derived.Test.YtgmpadbeoenfaaaBufLaw
import Derived.Test.YtgmpadbeoenfaaaFrame
import Derived.Test.YtgmpadbeoenfaaaRows
namespace Go.Proofs.Ytgmpadbeoenfaaa.bufNew
open Go.ChangeShapes Go.WideShapes Go.ChangeAt Go.RowKit
set_option linter.unusedVariables false

theorem own : ownKnob Try.prog.godebug = none := by kernel_rfl
theorem laidOut : laidOutB Try.prog = true := by kernel_rfl
theorem readable : ∀ t ∈ Try.f4.params.toList, Try.prog.readableRec t = true ∧ t < Try.prog.types.size := by
  rw [Try.params4]
  simp only [List.mem_cons, List.not_mem_nil, or_false, forall_eq_or_imp, forall_eq]
  refine ⟨⟨by kernel_rfl, of_decide_eq_true (by kernel_rfl)⟩, ⟨by kernel_rfl, of_decide_eq_true (by kernel_rfl)⟩⟩

set_option maxHeartbeats 20000000 in
set_option maxRecDepth 100000 in
theorem walk (w : World) (a0 : Int) (w0 : (Lit.int .i64 a0).wf = true) (v1 : Value) (l1 : List Int) (s1 : View w .u8 v1 l1) (x1 : ∀ x ∈ l1, 0 ≤ x ∧ x ≤ 255) (n1 : l1.length ≤ 140737488355328) :
    Calls Try.prog 4 #[.int .i64 a0, v1] w fun e w' => e = .returned (.bool true) ∧ But Nowhere w w' := by
  obtain ⟨q0, q1⟩ := i64_in w0
  clear w0
  have S1 : Hid (View w .u8 v1 l1) := s1
  obtain ⟨ao, cap, rfl⟩ := s1.slice
  clear s1
  by_cases hl : l1.length ≤ 200
  · have hgt : decide (200 < (l1.length : Int)) = false := by simp; omega
    rcases (show a0 < 0 ∨ a0 = 0 ∨ (0 < a0 ∧ a0 ≤ 300) ∨ (300 < a0 ∧ a0 ≤ 1048576) ∨ 1048576 < a0 by omega) with h0 | rfl | ⟨h0, h1⟩ | ⟨h0, h1⟩ | h0
    · have hN : ¬ (0 ≤ a0) := by omega
      have hN2 : a0 ≤ 300 := by omega
      have hN3 : min a0 300 = a0 := by omega
      have hN4 : max 0 a0 = ((0 : Nat) : Int) := by omega
      go_enter Try.func4, Try.ntmps4
      go_wp2_with fail
      refine (newBuf_none none _ (by omega) _).mono ?_
      rintro e w1 ⟨rfl, rfl⟩
      have g0 := But.refl Nowhere w1
      go_wp2_with fail
      refine (newBuf_some none 0 (by omega) _).mono ?_
      rintro e w2 ⟨rfl, m2⟩
      replace g0 := g0.trans m2.but
      go_wp2_with fail
      refine (openB_nil m2.bf (by rw [List.length_replicate]; omega)).mono ?_
      rw [List.length_replicate]
      rintro e w3 ⟨k3, rfl, r3, -, b3⟩
      replace g0 := g0.trans b3
      clear m2 b3
      go_wp2_with fail
      go_loopw [10] (fun i W => ∃ k : Nat, k ≤ 0 ∧ i = .int .i64 k ∧ But Nowhere w3 W) (fun i _ => 0 - (intOf i).toNat)
      case atStart => exact ⟨0, Nat.zero_le _, rfl, But.refl _ _⟩
      case round =>
        obtain ⟨k, hk, rfl, B⟩ := hrel
        by_cases hlt : k < 0
        · omega
        · clear r3
          replace g0 := g0.trans B
          clear B
          have i1 : ¬ (k : Int) < (((0 : Nat) : Int)) := by omega
          go_wp2_with fail
          refine (fromBuf_some (S1.out.but g0) x1 (by omega)).mono ?_
          rintro e w4 ⟨rfl, m4⟩
          replace g0 := g0.trans m4.but
          go_wp2_with fail
          refine (openB_nil m4.bf (by omega)).mono ?_
          rintro e w5 ⟨k5, rfl, r5, -, b5⟩
          replace g0 := g0.trans b5
          clear m4 b5
          go_wp2_with fail
          go_loopw [13] (fun i W => ∃ k : Nat, k ≤ l1.length ∧ i = .int .i64 k ∧ But Nowhere w5 W) (fun i _ => l1.length - (intOf i).toNat)
          case atStart => exact ⟨0, Nat.zero_le _, rfl, But.refl _ _⟩
          case round =>
            obtain ⟨k, hk, rfl, B⟩ := hrel
            by_cases hlt : k < l1.length
            · have c1 := (r5.but B (not_nowhere _)).cell k hlt
              obtain ⟨-, sb, off, rfl, -, c2⟩ := (S1.out.but (g0.trans B)).at k hlt
              have hwr := small_int l1 x1 k hlt
              have i0 : (0 : Int) ≤ (k : Int) := by omega
              have i1 : (k : Int) < (l1.length : Int) := by omega
              go_wp2_with fail
              go_quiet (fail)
              go_wp2_with fail
              go_roundw
              case rel => exact ⟨k + 1, by omega, by go_num, B.drewN _⟩
              case measure => simp [intOf]; omega
            · have i1 : ¬ (k : Int) < (l1.length : Int) := by omega
              replace g0 := g0.trans B
              go_wp2_with ((go_at_call 8; refine (known_any _).mono ?_; rintro e w' ⟨rfl, hb⟩; replace g0 := g0.trans hb))
              go_ret
              exact ⟨rfl, g0⟩
    · have h2 : (0 : Int) ≤ 1048576 := by omega
      go_enter Try.func4, Try.ntmps4
      go_wp2_with fail
      refine (newBuf_some none 0 (by omega) _).mono ?_
      rintro e w1 ⟨rfl, m1⟩
      have g0 := m1.but
      have mA := m1.bf
      clear m1
      generalize w.heap.size + 1 = bA at mA ⊢
      generalize w.heap.size = gA at mA
      go_wp2_with fail
      refine (newBuf_some none 0 (by omega) _).mono ?_
      rintro e w2 ⟨rfl, m2⟩
      replace g0 := g0.trans m2.but
      replace mA := mA.but m2.but (not_nowhere _) (not_nowhere _)
      go_wp2_with fail
      refine (openB_nil m2.bf (by rw [List.length_replicate]; omega)).mono ?_
      rw [List.length_replicate]
      rintro e w3 ⟨k3, rfl, r3, -, b3⟩
      replace g0 := g0.trans b3
      replace mA := mA.but b3 (not_nowhere _) (not_nowhere _)
      clear m2 b3
      go_wp2_with fail
      go_loopw [10] (fun i W => ∃ k : Nat, k ≤ 0 ∧ i = .int .i64 k ∧ But Nowhere w3 W) (fun i _ => 0 - (intOf i).toNat)
      case atStart => exact ⟨0, Nat.zero_le _, rfl, But.refl _ _⟩
      case round =>
        obtain ⟨k, hk, rfl, B⟩ := hrel
        by_cases hlt : k < 0
        · omega
        · clear r3
          replace g0 := g0.trans B
          replace mA := mA.but B (not_nowhere _) (not_nowhere _)
          clear B
          have i1 : ¬ (k : Int) < ((0 : Int)) := by omega
          go_wp2_with fail
          refine (fromBuf_some (S1.out.but g0) x1 (by omega)).mono ?_
          rintro e w4 ⟨rfl, m4⟩
          replace g0 := g0.trans m4.but
          replace mA := mA.but m4.but (not_nowhere _) (not_nowhere _)
          go_wp2_with fail
          refine (openB_nil m4.bf (by omega)).mono ?_
          rintro e w5 ⟨k5, rfl, r5, -, b5⟩
          replace g0 := g0.trans b5
          replace mA := mA.but b5 (not_nowhere _) (not_nowhere _)
          clear m4 b5
          go_wp2_with fail
          go_loopw [13] (fun i W => ∃ k : Nat, k ≤ l1.length ∧ i = .int .i64 k ∧ But Nowhere w5 W) (fun i _ => l1.length - (intOf i).toNat)
          case atStart => exact ⟨0, Nat.zero_le _, rfl, But.refl _ _⟩
          case round =>
            obtain ⟨k, hk, rfl, B⟩ := hrel
            by_cases hlt : k < l1.length
            · have c1 := (r5.but B (not_nowhere _)).cell k hlt
              obtain ⟨-, sb, off, rfl, -, c2⟩ := (S1.out.but (g0.trans B)).at k hlt
              have hwr := small_int l1 x1 k hlt
              have i0 : (0 : Int) ≤ (k : Int) := by omega
              have i1 : (k : Int) < (l1.length : Int) := by omega
              go_wp2_with fail
              go_quiet (fail)
              go_wp2_with fail
              go_roundw
              case rel => exact ⟨k + 1, by omega, by go_num, B.drewN _⟩
              case measure => simp [intOf]; omega
            · have i1 : ¬ (k : Int) < (l1.length : Int) := by omega
              replace g0 := g0.trans B
              replace mA := mA.but B (not_nowhere _) (not_nowhere _)
              go_wp2_with (first | (go_at_call 8; refine (known_any _).mono ?_; rintro e w' ⟨rfl, hb⟩; replace g0 := g0.trans hb; replace mA := mA.but hb (not_nowhere _) (not_nowhere _)) | (go_at_call 17; refine (len_some mA).mono ?_; rw [List.length_replicate]; rintro e w' ⟨rfl, rfl⟩))
              go_ret
              exact ⟨rfl, g0⟩
    · obtain ⟨N, rfl⟩ : ∃ N : Nat, a0 = (N : Int) := ⟨a0.toNat, by omega⟩
      have h2 : (N : Int) ≤ 1048576 := by omega
      have h3 : 0 ≤ (N : Int) := by omega
      have h4 : 0 < N := by omega
      have hN3 : min (N : Int) 300 = N := by omega
      have hN4 : max 0 (N : Int) = N := by omega
      go_enter Try.func4, Try.ntmps4
      go_wp2_with fail
      refine (newBuf_some none N (by omega) _).mono ?_
      rintro e w1 ⟨rfl, m1⟩
      have g0 := m1.but
      have mA := m1.bf
      clear m1
      generalize w.heap.size + 1 = bA at mA ⊢
      generalize w.heap.size = gA at mA
      go_wp2_with fail
      refine (newBuf_some none N (by omega) _).mono ?_
      rintro e w2 ⟨rfl, m2⟩
      replace g0 := g0.trans m2.but
      replace mA := mA.but m2.but (not_nowhere _) (not_nowhere _)
      go_wp2_with fail
      refine (openB_nil m2.bf (by rw [List.length_replicate]; omega)).mono ?_
      rw [List.length_replicate]
      rintro e w3 ⟨k3, rfl, r3, -, b3⟩
      replace g0 := g0.trans b3
      replace mA := mA.but b3 (not_nowhere _) (not_nowhere _)
      clear m2 b3
      go_wp2_with fail
      go_loopw [10] (fun i W => ∃ k : Nat, k ≤ N ∧ i = .int .i64 k ∧ But Nowhere w3 W) (fun i _ => N - (intOf i).toNat)
      case atStart => exact ⟨0, Nat.zero_le _, rfl, But.refl _ _⟩
      case round =>
        obtain ⟨k, hk, rfl, B⟩ := hrel
        by_cases hlt : k < N
        · have c1 := (r3.but B (not_nowhere _)).cell k (by rw [List.length_replicate]; omega)
          rw [List.getElem_replicate] at c1
          have i0 : (0 : Int) ≤ (k : Int) := by omega
          have i1 : (k : Int) < ((N : Int)) := by omega
          go_wp2_with fail
          go_roundw
          case rel => exact ⟨k + 1, by omega, by go_num, B⟩
          case measure => simp [intOf]; omega
        · clear r3
          replace g0 := g0.trans B
          replace mA := mA.but B (not_nowhere _) (not_nowhere _)
          clear B
          have i1 : ¬ (k : Int) < ((N : Int)) := by omega
          go_wp2_with fail
          refine (fromBuf_some (S1.out.but g0) x1 (by omega)).mono ?_
          rintro e w4 ⟨rfl, m4⟩
          replace g0 := g0.trans m4.but
          replace mA := mA.but m4.but (not_nowhere _) (not_nowhere _)
          go_wp2_with fail
          refine (openB_nil m4.bf (by omega)).mono ?_
          rintro e w5 ⟨k5, rfl, r5, -, b5⟩
          replace g0 := g0.trans b5
          replace mA := mA.but b5 (not_nowhere _) (not_nowhere _)
          clear m4 b5
          go_wp2_with fail
          go_loopw [13] (fun i W => ∃ k : Nat, k ≤ l1.length ∧ i = .int .i64 k ∧ But Nowhere w5 W) (fun i _ => l1.length - (intOf i).toNat)
          case atStart => exact ⟨0, Nat.zero_le _, rfl, But.refl _ _⟩
          case round =>
            obtain ⟨k, hk, rfl, B⟩ := hrel
            by_cases hlt : k < l1.length
            · have c1 := (r5.but B (not_nowhere _)).cell k hlt
              obtain ⟨-, sb, off, rfl, -, c2⟩ := (S1.out.but (g0.trans B)).at k hlt
              have hwr := small_int l1 x1 k hlt
              have i0 : (0 : Int) ≤ (k : Int) := by omega
              have i1 : (k : Int) < (l1.length : Int) := by omega
              go_wp2_with fail
              go_quiet (fail)
              go_wp2_with fail
              go_roundw
              case rel => exact ⟨k + 1, by omega, by go_num, B.drewN _⟩
              case measure => simp [intOf]; omega
            · have i1 : ¬ (k : Int) < (l1.length : Int) := by omega
              replace g0 := g0.trans B
              replace mA := mA.but B (not_nowhere _) (not_nowhere _)
              go_wp2_with (first | (go_at_call 8; refine (known_any _).mono ?_; rintro e w' ⟨rfl, hb⟩; replace g0 := g0.trans hb; replace mA := mA.but hb (not_nowhere _) (not_nowhere _)) | (go_at_call 17; refine (len_some mA).mono ?_; rw [List.length_replicate]; rintro e w' ⟨rfl, rfl⟩))
              go_ret
              exact ⟨rfl, g0⟩
    · obtain ⟨N, rfl⟩ : ∃ N : Nat, a0 = (N : Int) := ⟨a0.toNat, by omega⟩
      have h2 : 0 ≤ (N : Int) := by omega
      have hN3 : min (N : Int) 300 = 300 := by omega
      go_enter Try.func4, Try.ntmps4
      go_wp2_with fail
      refine (newBuf_some none N (by omega) _).mono ?_
      rintro e w1 ⟨rfl, m1⟩
      have g0 := m1.but
      have mA := m1.bf
      clear m1
      generalize w.heap.size + 1 = bA at mA ⊢
      generalize w.heap.size = gA at mA
      go_wp2_with fail
      refine (newBuf_some none 300 (by omega) _).mono ?_
      rintro e w2 ⟨rfl, m2⟩
      replace g0 := g0.trans m2.but
      replace mA := mA.but m2.but (not_nowhere _) (not_nowhere _)
      go_wp2_with fail
      refine (openB_nil m2.bf (by rw [List.length_replicate]; omega)).mono ?_
      rw [List.length_replicate]
      rintro e w3 ⟨k3, rfl, r3, -, b3⟩
      replace g0 := g0.trans b3
      replace mA := mA.but b3 (not_nowhere _) (not_nowhere _)
      clear m2 b3
      go_wp2_with fail
      go_loopw [10] (fun i W => ∃ k : Nat, k ≤ 300 ∧ i = .int .i64 k ∧ But Nowhere w3 W) (fun i _ => 300 - (intOf i).toNat)
      case atStart => exact ⟨0, Nat.zero_le _, rfl, But.refl _ _⟩
      case round =>
        obtain ⟨k, hk, rfl, B⟩ := hrel
        by_cases hlt : k < 300
        · have c1 := (r3.but B (not_nowhere _)).cell k (by rw [List.length_replicate]; omega)
          rw [List.getElem_replicate] at c1
          have i0 : (0 : Int) ≤ (k : Int) := by omega
          have i1 : (k : Int) < ((300 : Int)) := by omega
          go_wp2_with fail
          go_roundw
          case rel => exact ⟨k + 1, by omega, by go_num, B⟩
          case measure => simp [intOf]; omega
        · clear r3
          replace g0 := g0.trans B
          replace mA := mA.but B (not_nowhere _) (not_nowhere _)
          clear B
          have i1 : ¬ (k : Int) < ((300 : Int)) := by omega
          go_wp2_with fail
          refine (fromBuf_some (S1.out.but g0) x1 (by omega)).mono ?_
          rintro e w4 ⟨rfl, m4⟩
          replace g0 := g0.trans m4.but
          replace mA := mA.but m4.but (not_nowhere _) (not_nowhere _)
          go_wp2_with fail
          refine (openB_nil m4.bf (by omega)).mono ?_
          rintro e w5 ⟨k5, rfl, r5, -, b5⟩
          replace g0 := g0.trans b5
          replace mA := mA.but b5 (not_nowhere _) (not_nowhere _)
          clear m4 b5
          go_wp2_with fail
          go_loopw [13] (fun i W => ∃ k : Nat, k ≤ l1.length ∧ i = .int .i64 k ∧ But Nowhere w5 W) (fun i _ => l1.length - (intOf i).toNat)
          case atStart => exact ⟨0, Nat.zero_le _, rfl, But.refl _ _⟩
          case round =>
            obtain ⟨k, hk, rfl, B⟩ := hrel
            by_cases hlt : k < l1.length
            · have c1 := (r5.but B (not_nowhere _)).cell k hlt
              obtain ⟨-, sb, off, rfl, -, c2⟩ := (S1.out.but (g0.trans B)).at k hlt
              have hwr := small_int l1 x1 k hlt
              have i0 : (0 : Int) ≤ (k : Int) := by omega
              have i1 : (k : Int) < (l1.length : Int) := by omega
              go_wp2_with fail
              go_quiet (fail)
              go_wp2_with fail
              go_roundw
              case rel => exact ⟨k + 1, by omega, by go_num, B.drewN _⟩
              case measure => simp [intOf]; omega
            · have i1 : ¬ (k : Int) < (l1.length : Int) := by omega
              replace g0 := g0.trans B
              replace mA := mA.but B (not_nowhere _) (not_nowhere _)
              go_wp2_with (first | (go_at_call 8; refine (known_any _).mono ?_; rintro e w' ⟨rfl, hb⟩; replace g0 := g0.trans hb; replace mA := mA.but hb (not_nowhere _) (not_nowhere _)) | (go_at_call 17; refine (len_some mA).mono ?_; rw [List.length_replicate]; rintro e w' ⟨rfl, rfl⟩))
              go_ret
              exact ⟨rfl, g0⟩
    · have h2 : 0 ≤ a0 := by omega
      have h3 : decide (a0 ≤ 1048576) = false := by simp; omega
      have hN3 : min a0 300 = 300 := by omega
      go_enter Try.func4, Try.ntmps4
      go_wp2_with fail
      refine (newBuf_none none _ (by omega) _).mono ?_
      rintro e w1 ⟨rfl, rfl⟩
      have g0 := But.refl Nowhere w1
      go_wp2_with fail
      refine (newBuf_some none 300 (by omega) _).mono ?_
      rintro e w2 ⟨rfl, m2⟩
      replace g0 := g0.trans m2.but
      go_wp2_with fail
      refine (openB_nil m2.bf (by rw [List.length_replicate]; omega)).mono ?_
      rw [List.length_replicate]
      rintro e w3 ⟨k3, rfl, r3, -, b3⟩
      replace g0 := g0.trans b3
      clear m2 b3
      go_wp2_with fail
      go_loopw [10] (fun i W => ∃ k : Nat, k ≤ 300 ∧ i = .int .i64 k ∧ But Nowhere w3 W) (fun i _ => 300 - (intOf i).toNat)
      case atStart => exact ⟨0, Nat.zero_le _, rfl, But.refl _ _⟩
      case round =>
        obtain ⟨k, hk, rfl, B⟩ := hrel
        by_cases hlt : k < 300
        · have c1 := (r3.but B (not_nowhere _)).cell k (by rw [List.length_replicate]; omega)
          rw [List.getElem_replicate] at c1
          have i0 : (0 : Int) ≤ (k : Int) := by omega
          have i1 : (k : Int) < ((300 : Int)) := by omega
          go_wp2_with fail
          go_roundw
          case rel => exact ⟨k + 1, by omega, by go_num, B⟩
          case measure => simp [intOf]; omega
        · clear r3
          replace g0 := g0.trans B
          clear B
          have i1 : ¬ (k : Int) < ((300 : Int)) := by omega
          go_wp2_with fail
          refine (fromBuf_some (S1.out.but g0) x1 (by omega)).mono ?_
          rintro e w4 ⟨rfl, m4⟩
          replace g0 := g0.trans m4.but
          go_wp2_with fail
          refine (openB_nil m4.bf (by omega)).mono ?_
          rintro e w5 ⟨k5, rfl, r5, -, b5⟩
          replace g0 := g0.trans b5
          clear m4 b5
          go_wp2_with fail
          go_loopw [13] (fun i W => ∃ k : Nat, k ≤ l1.length ∧ i = .int .i64 k ∧ But Nowhere w5 W) (fun i _ => l1.length - (intOf i).toNat)
          case atStart => exact ⟨0, Nat.zero_le _, rfl, But.refl _ _⟩
          case round =>
            obtain ⟨k, hk, rfl, B⟩ := hrel
            by_cases hlt : k < l1.length
            · have c1 := (r5.but B (not_nowhere _)).cell k hlt
              obtain ⟨-, sb, off, rfl, -, c2⟩ := (S1.out.but (g0.trans B)).at k hlt
              have hwr := small_int l1 x1 k hlt
              have i0 : (0 : Int) ≤ (k : Int) := by omega
              have i1 : (k : Int) < (l1.length : Int) := by omega
              go_wp2_with fail
              go_quiet (fail)
              go_wp2_with fail
              go_roundw
              case rel => exact ⟨k + 1, by omega, by go_num, B.drewN _⟩
              case measure => simp [intOf]; omega
            · have i1 : ¬ (k : Int) < (l1.length : Int) := by omega
              replace g0 := g0.trans B
              go_wp2_with ((go_at_call 8; refine (known_any _).mono ?_; rintro e w' ⟨rfl, hb⟩; replace g0 := g0.trans hb))
              go_ret
              exact ⟨rfl, g0⟩
  · have hgt : decide (200 < (l1.length : Int)) = true := by simp; omega
    go_enter Try.func4, Try.ntmps4
    go_wp2_with (go_at_call 8; refine (known_any _).mono ?_; rintro e w' ⟨rfl, hb⟩)
    go_ret
    exact ⟨rfl, hb⟩

set_option maxRecDepth 100000 in
theorem lifted (os : Os) (started : os.Started) (H : Type) (enc : TypeId × Value → H) :
    ReturnsInHanded {} Try.checked os 4 .any (Rows.bufNewSpec.pre6 enc Try.prog Try.f4 Rows.bufNewRow.domain false) (Rows.bufNewSpec.post enc Try.prog Try.f4 false true false false) := by
  refine returnsInHanded_of_change_sized (C := Try.checked) own started (by kernel_rfl) Try.func4
    (ChangeSpec.witness6 (enc := enc) (C := Try.checked) false ⟨#[], #[.int .i64 0, .slice none 0 0], []⟩ 8 (by kernel_rfl) (by kernel_rfl) (by kernel_rfl) (by kernel_rfl)) ?_
  intro W base args ds gs before hval0 hW hcnd hsz0 _
  have hval : ∀ (j : Nat) t v, Try.f4.params[j]? = some t → args[j]? = some v → Value.okWide Try.prog W .any base t v := hval0
  have hsz : (DataW.weightsEach Try.prog (Try.f4.params.toList ++ Rows.bufNewSpec.plain.varTypes Try.prog) (ds ++ gs)).all (· ≤ reachBytes) = true := hsz0
  have hW' := hW
  obtain ⟨p, q, hA0, hV, rfl, hfz, hnd⟩ := hW
  have hA : DataW.TrodAll enc Try.prog W 0 (fun _ => true) true Try.f4.params.toList args.toList ds p := hA0
  rw [Try.params4] at hA hval hsz
  obtain ⟨v0, vs0, d0, ds0, p0, q0, hargs, rfl, rfl, h0, r0⟩ := trodAll_cons hA
  obtain ⟨v1, vs1, d1, ds1, p1, q1, rfl, rfl, rfl, h1, r1⟩ := trodAll_cons r0
  obtain ⟨rfl, rfl, rfl⟩ := trodAll_nil r1
  obtain rfl : args = #[v0, v1] := by cases args; simp_all
  obtain ⟨rfl, rfl⟩ := trodVars_none hV
  obtain ⟨a0, rfl, rfl, rfl, w0⟩ := open_int Try.underlying3 (hval 0 3 v0 rfl rfl) h0
  obtain ⟨l1, ⟨s1, x1⟩, e1⟩ := open_bytes (hval 1 52 v1 rfl rfl) h1
  have n1 := bytes_small hsz (j := 1) rfl rfl e1
  clear hA0 hval0
  refine (walk W a0 w0 v1 l1 s1 x1 n1).mono fun e W' ⟨he, hg⟩ => ?_
  subst he
  exact ⟨_, rfl, law_post laidOut readable rfl Try.underlying4 rfl rfl hW' hg.below⟩

theorem over : Rows.bufNewRow.holds Try.pinned (OpenSpec.ofChange Rows.bufNewSpec) :=
  OpenClaim.holds_of_wide 4 Try.f4 rfl rfl rfl rfl rfl rfl rfl ⟨rfl, rfl, rfl, rfl, rfl⟩ rfl rfl rfl rfl rfl (by kernel_rfl) Try.func4 (by kernel_rfl)
    (of_decide_eq_true (by kernel_rfl)) (by unfold Func.isWrapper; first | (rw [if_pos (by decide +kernel)]; kernel_rfl) | (rw [if_neg (by decide +kernel)]; exact ⟨rfl, rfl⟩))
    (fun os started H enc _ => lifted os started H enc)

theorem proved : Rows.BufNewSaid :=
  over
end Go.Proofs.Ytgmpadbeoenfaaa.bufNew
namespace Go.Proofs.Ytgmpadbeoenfaaa
theorem bufNew_holds : Rows.BufNewSaid := bufNew.proved
#print axioms bufNew_holds
end Go.Proofs.Ytgmpadbeoenfaaa
