/- The document's frequencies of a block; blocks of choices; blocks of secrets. -/
import Derived.Test.YthaekjdnaaikfaaDoorBlk64
import Derived.Test.YthaekjdnaaikfaaDoorDcMath
import Derived.Test.YthaekjdnaaikfaaDoorDcLaw
import Derived.Test.YthaekjdnaaikfaaDoorCol1
namespace Go.Proofs.YthaekjdnaaikfaaDoor
set_option linter.unusedVariables false
open Go.ChangeShapes Go.WideShapes Go.ChangeAt Go.RowKit

set_option maxHeartbeats 1600000 in
theorem refRound40_pos (n : Int) (w : World) (h0 : 0 ≤ n) (h1 : n ≤ 1152921504606846976) : Calls Tryd.prog 28 #[.int .i64 n, .int .i64 1099511627776] w fun e w' => e = .returned (.int .i64 ((n + 549755813888) / 1099511627776)) ∧ w' = w := by
  have e1 : wrap64 (n / 1099511627776 * 1099511627776) = n / 1099511627776 * 1099511627776 := w64 _ (by omega)
  by_cases hc : 1099511627776 ≤ 2 * (n - n / 1099511627776 * 1099511627776)
  · rw [show (n + 549755813888) / 1099511627776 = n / 1099511627776 + 1 by omega]
    go_enter Tryd.func28, Tryd.ntmps28
    go_wp2
    go_ret
    exact ⟨rfl, rfl⟩
  · rw [show (n + 549755813888) / 1099511627776 = n / 1099511627776 by omega]
    go_enter Tryd.func28, Tryd.ntmps28
    go_wp2
    go_ret
    exact ⟨rfl, rfl⟩

set_option maxHeartbeats 1600000 in
theorem refRound40_in (n : Int) (w : World) (h0 : -1152921504606846976 ≤ n) (h1 : n ≤ 1152921504606846976) : Calls Tryd.prog 28 #[.int .i64 n, .int .i64 1099511627776] w fun e w' => e = .returned (.int .i64 (rnd n)) ∧ w' = w := by
  unfold rnd
  by_cases hn : n < 0
  · rw [if_pos hn]
    go_enter Tryd.func28, Tryd.ntmps28
    go_wp2_with (go_at_call 28; refine (refRound40_pos _ _ (by omega) (by omega)).mono ?_; rintro e w' ⟨rfl, rfl⟩)
    go_ret
    exact ⟨rfl, rfl⟩
  · rw [if_neg hn]
    exact refRound40_pos n w (by omega) h1

/-- A row of the table, as cells. -/
def facRow (u : Nat) : List Value := (List.range 8).map fun x => .int .i64 (fac u x)

theorem facRow_at (u x : Nat) (hx : x < 8) : (facRow u)[x]? = some (.int .i64 (fac u x)) := by simp [facRow, hx]

set_option maxHeartbeats 3200000 in
set_option maxRecDepth 100000 in
theorem refFactor_in (u x : Int) (w : World) (hu : 0 ≤ u ∧ u < 8) (hx : 0 ≤ x ∧ x < 8) : Calls Tryd.prog 27 #[.int .i64 u, .int .i64 x] w fun e w' => e = .returned (.int .i64 (fac u.toNat x.toNat)) ∧ But Nowhere w w' := by
  obtain ⟨u0, u1⟩ := hu
  obtain ⟨x0, x1⟩ := hx
  have u2 : ¬ 7 < u := by omega
  have x2 : ¬ 7 < x := by omega
  go_enter Tryd.func27, Tryd.ntmps27
  go_wp2_with fail
  have hc : u = 0 ∨ u = 1 ∨ u = 2 ∨ u = 3 ∨ u = 4 ∨ u = 5 ∨ u = 6 ∨ u = 7 := by omega
  rcases hc with rfl | rfl | rfl | rfl | rfl | rfl | rfl | rfl
  all_goals
    simp only [Int.reduceToNat, List.getElem_cons_zero, List.getElem_cons_succ]
    go_simp
    go_wp2_with fail
    go_ret
    refine ⟨?_, ?_⟩
    · have hx : x = 0 ∨ x = 1 ∨ x = 2 ∨ x = 3 ∨ x = 4 ∨ x = 5 ∨ x = 6 ∨ x = 7 := by omega
      rcases hx with rfl | rfl | rfl | rfl | rfl | rfl | rfl | rfl <;> rfl
    · repeat (refine But.alloc ?_ _)
      exact But.refl _ _

set_option maxHeartbeats 800000 in
theorem refFactor_out (u x : Int) (w : World) (h : ¬ ((0 ≤ u ∧ u < 8) ∧ (0 ≤ x ∧ x < 8))) : Calls Tryd.prog 27 #[.int .i64 u, .int .i64 x] w fun e w' => e = .returned (.int .i64 0) ∧ But Nowhere w w' := by
  by_cases h1 : u < 0
  · go_enter Tryd.func27, Tryd.ntmps27
    go_wp2_with fail
    go_ret
    exact ⟨rfl, But.refl _ _⟩
  · by_cases h2 : 7 < u
    · go_enter Tryd.func27, Tryd.ntmps27
      go_wp2_with fail
      go_ret
      exact ⟨rfl, But.refl _ _⟩
    · by_cases h3 : x < 0
      · go_enter Tryd.func27, Tryd.ntmps27
        go_wp2_with fail
        go_ret
        exact ⟨rfl, But.refl _ _⟩
      · have h4 : 7 < x := by omega
        go_enter Tryd.func27, Tryd.ntmps27
        go_wp2_with fail
        go_ret
        exact ⟨rfl, But.refl _ _⟩

theorem refFactor_any (u x : Int) (w : World) : Calls Tryd.prog 27 #[.int .i64 u, .int .i64 x] w fun e w' => e = .returned (.int .i64 (facI u x)) ∧ But Nowhere w w' := by
  unfold facI
  by_cases h : (0 ≤ u ∧ u < 8) ∧ (0 ≤ x ∧ x < 8)
  · rw [if_pos (by omega)]
    exact refFactor_in u x w h.1 h.2
  · rw [if_neg (by omega)]
    exact refFactor_out u x w h

theorem clp_of (b : Nat → Int) (lo hi : Int) (k : Nat) : clipF (b k) lo hi = clp lo hi b k := rfl

/-- What is added at place k for number i. -/
def addK (t : Nat → Nat → Int) (c : Nat → Int) (i k : Nat) : Int := c k * t (i % 8) (k % 8) * t (i / 8) (k / 8)

theorem addK_bd (t : Nat → Nat → Int) (c : Nat → Int) (ht : ∀ u, u < 8 → ∀ x, x < 8 → -514214 ≤ t u x ∧ t u x ≤ 514214) (hc : ∀ j, j < 64 → -32768 ≤ c j ∧ c j ≤ 32768) (i k : Nat) (hi : i < 64) (hk : k < 64) :
    (-(32768 * 514214) ≤ c k * t (i % 8) (k % 8) ∧ c k * t (i % 8) (k % 8) ≤ 32768 * 514214) ∧ (-(32768 * 514214 * 514214) ≤ addK t c i k ∧ addK t c i k ≤ 32768 * 514214 * 514214) := by
  have h1 := mul_bd (hc k hk) (ht (i % 8) (by omega) (k % 8) (by omega))
  exact ⟨h1, mul_bd h1 (ht (i / 8) (by omega) (k / 8) (by omega))⟩

theorem addK_sum (t : Nat → Nat → Int) (c : Nat → Int) (ht : ∀ u, u < 8 → ∀ x, x < 8 → -514214 ≤ t u x ∧ t u x ≤ 514214) (hc : ∀ j, j < 64 → -32768 ≤ c j ∧ c j ≤ 32768) (i k : Nat) (hi : i < 64) (hk : k ≤ 64) :
    -1152921504606846976 ≤ sumTo (addK t c i) k ∧ sumTo (addK t c i) k ≤ 1152921504606846976 := by
  have h := sumTo_le (f := addK t c i) (M := 32768 * 514214 * 514214) k (fun j hj => (addK_bd t c ht hc i j hi (by omega)).2)
  have h3 : (k : Int) * (32768 * 514214 * 514214) ≤ 64 * (32768 * 514214 * 514214) := Int.mul_le_mul_of_nonneg_right (by omega) (by omega)
  omega

theorem turnF_add (lo hi : Int) (t : Nat → Nat → Int) (b : Nat → Int) (i : Nat) (h : i < 64) : rnd (sumTo (addK t (clp lo hi b) i) 64) = turnF lo hi t b i := by
  unfold turnF
  rw [wgt_wgt t _ i h]
  rfl

theorem mod8 (i : Nat) : (i : Int) % 8 = ((i % 8 : Nat) : Int) := by omega
theorem div8 (i : Nat) : (i : Int) / 8 = ((i / 8 : Nat) : Int) := by omega

set_option maxHeartbeats 6400000 in
set_option maxRecDepth 100000 in
theorem refForward_any (b : Nat → Int) (w : World) : Calls Tryd.prog 14 #[.agg (tab .i64 64 b).toArray] w fun e w' =>
    e = .returned (.agg (tab .i64 64 (fwd b)).toArray) ∧ But Nowhere w w' := by
  have hu := Tryd.underlying27
  have hiA : ∀ f, (Tryd.prog.info? 27).map (·.size) = some (tab .i64 64 f).length := fun f => by rw [tab_length]; kernel_rfl
  have hiB : ∀ f, (Tryd.prog.info? 27).map (·.size) = some (tab .i64 64 f).toArray.size := fun f => by rw [List.size_toArray, tab_length]; kernel_rfl
  have hc : ∀ j, j < 64 → -32768 ≤ (clp (-4096) 4096 b) j ∧ (clp (-4096) 4096 b) j ≤ 32768 := fun j _ => by have := clp_bd (lo := (-4096)) (hi := 4096) b j (by omega); omega
  have HB1 : Hid (∀ i k, i < 64 → k < 64 → (-(32768 * 514214) ≤ (clp (-4096) 4096 b) k * fac (i % 8) (k % 8) ∧ (clp (-4096) 4096 b) k * fac (i % 8) (k % 8) ≤ 32768 * 514214) ∧ (-(32768 * 514214 * 514214) ≤ addK fac (clp (-4096) 4096 b) i k ∧ addK fac (clp (-4096) 4096 b) i k ≤ 32768 * 514214 * 514214)) := fun i k hi hk => addK_bd fac (clp (-4096) 4096 b) fac_bd hc i k hi hk
  have HB2 : Hid (∀ i k, i < 64 → k ≤ 64 → -1152921504606846976 ≤ sumTo (addK fac (clp (-4096) 4096 b) i) k ∧ sumTo (addK fac (clp (-4096) 4096 b) i) k ≤ 1152921504606846976) := fun i k hi hk => addK_sum fac (clp (-4096) 4096 b) fac_bd hc i k hi hk
  clear hc
  have k0 := (((Keep.start w).made 27 (tab .i64 64 b)).zero 27).zero 27
  have kk := k0.layAll (fun _ => 0)
  have hth := k0.head.there 0 64 (by rw [tab_length]; omega)
  have hi64 : (Tryd.prog.info? 27).map (·.size) = some 64 := by kernel_rfl
  have hall := tab_all .i64 64 (fun _ => 0)
  rw [← sixtyfour] at kk hall
  simp only [World.size_alloc] at kk hth
  have HZ : Hid _ := And.intro hth (And.intro hi64 hall)
  clear k0 hth hi64 hall
  go_enter Tryd.func14, Tryd.ntmps14
  go_wp2_with (refine wpList_store_mid rfl 27 (.tmp 3) (.tmp 7) rfl (w.heap.size + 1 + 1) 0 (Value.int .i64 0 :: Value.int .i64 0 :: Value.int .i64 0 :: Value.int .i64 0 :: Value.int .i64 0 :: Value.int .i64 0 :: Value.int .i64 0 :: Value.int .i64 0 :: Value.int .i64 0 :: Value.int .i64 0 :: Value.int .i64 0 :: Value.int .i64 0 :: Value.int .i64 0 :: Value.int .i64 0 :: Value.int .i64 0 :: Value.int .i64 0 :: Value.int .i64 0 :: Value.int .i64 0 :: Value.int .i64 0 :: Value.int .i64 0 :: Value.int .i64 0 :: Value.int .i64 0 :: Value.int .i64 0 :: Value.int .i64 0 :: Value.int .i64 0 :: Value.int .i64 0 :: Value.int .i64 0 :: Value.int .i64 0 :: Value.int .i64 0 :: Value.int .i64 0 :: Value.int .i64 0 :: Value.int .i64 0 :: Value.int .i64 0 :: Value.int .i64 0 :: Value.int .i64 0 :: Value.int .i64 0 :: Value.int .i64 0 :: Value.int .i64 0 :: Value.int .i64 0 :: Value.int .i64 0 :: Value.int .i64 0 :: Value.int .i64 0 :: Value.int .i64 0 :: Value.int .i64 0 :: Value.int .i64 0 :: Value.int .i64 0 :: Value.int .i64 0 :: Value.int .i64 0 :: Value.int .i64 0 :: Value.int .i64 0 :: Value.int .i64 0 :: Value.int .i64 0 :: Value.int .i64 0 :: Value.int .i64 0 :: Value.int .i64 0 :: Value.int .i64 0 :: Value.int .i64 0 :: Value.int .i64 0 :: Value.int .i64 0 :: Value.int .i64 0 :: Value.int .i64 0 :: Value.int .i64 0 :: Value.int .i64 0 :: Value.int .i64 0 :: []).toArray rfl rfl HZ.out.1 HZ.out.2.1 HZ.out.2.2 ?_)
  clear HZ
  revert kk
  generalize ((((w.alloc (.cells (tab .i64 64 b).toArray 27)).alloc (.cells (Value.int .i64 0 :: Value.int .i64 0 :: Value.int .i64 0 :: Value.int .i64 0 :: Value.int .i64 0 :: Value.int .i64 0 :: Value.int .i64 0 :: Value.int .i64 0 :: Value.int .i64 0 :: Value.int .i64 0 :: Value.int .i64 0 :: Value.int .i64 0 :: Value.int .i64 0 :: Value.int .i64 0 :: Value.int .i64 0 :: Value.int .i64 0 :: Value.int .i64 0 :: Value.int .i64 0 :: Value.int .i64 0 :: Value.int .i64 0 :: Value.int .i64 0 :: Value.int .i64 0 :: Value.int .i64 0 :: Value.int .i64 0 :: Value.int .i64 0 :: Value.int .i64 0 :: Value.int .i64 0 :: Value.int .i64 0 :: Value.int .i64 0 :: Value.int .i64 0 :: Value.int .i64 0 :: Value.int .i64 0 :: Value.int .i64 0 :: Value.int .i64 0 :: Value.int .i64 0 :: Value.int .i64 0 :: Value.int .i64 0 :: Value.int .i64 0 :: Value.int .i64 0 :: Value.int .i64 0 :: Value.int .i64 0 :: Value.int .i64 0 :: Value.int .i64 0 :: Value.int .i64 0 :: Value.int .i64 0 :: Value.int .i64 0 :: Value.int .i64 0 :: Value.int .i64 0 :: Value.int .i64 0 :: Value.int .i64 0 :: Value.int .i64 0 :: Value.int .i64 0 :: Value.int .i64 0 :: Value.int .i64 0 :: Value.int .i64 0 :: Value.int .i64 0 :: Value.int .i64 0 :: Value.int .i64 0 :: Value.int .i64 0 :: Value.int .i64 0 :: Value.int .i64 0 :: Value.int .i64 0 :: Value.int .i64 0 :: Value.int .i64 0 :: []).toArray 27)).alloc (.cells (Value.int .i64 0 :: Value.int .i64 0 :: Value.int .i64 0 :: Value.int .i64 0 :: Value.int .i64 0 :: Value.int .i64 0 :: Value.int .i64 0 :: Value.int .i64 0 :: Value.int .i64 0 :: Value.int .i64 0 :: Value.int .i64 0 :: Value.int .i64 0 :: Value.int .i64 0 :: Value.int .i64 0 :: Value.int .i64 0 :: Value.int .i64 0 :: Value.int .i64 0 :: Value.int .i64 0 :: Value.int .i64 0 :: Value.int .i64 0 :: Value.int .i64 0 :: Value.int .i64 0 :: Value.int .i64 0 :: Value.int .i64 0 :: Value.int .i64 0 :: Value.int .i64 0 :: Value.int .i64 0 :: Value.int .i64 0 :: Value.int .i64 0 :: Value.int .i64 0 :: Value.int .i64 0 :: Value.int .i64 0 :: Value.int .i64 0 :: Value.int .i64 0 :: Value.int .i64 0 :: Value.int .i64 0 :: Value.int .i64 0 :: Value.int .i64 0 :: Value.int .i64 0 :: Value.int .i64 0 :: Value.int .i64 0 :: Value.int .i64 0 :: Value.int .i64 0 :: Value.int .i64 0 :: Value.int .i64 0 :: Value.int .i64 0 :: Value.int .i64 0 :: Value.int .i64 0 :: Value.int .i64 0 :: Value.int .i64 0 :: Value.int .i64 0 :: Value.int .i64 0 :: Value.int .i64 0 :: Value.int .i64 0 :: Value.int .i64 0 :: Value.int .i64 0 :: Value.int .i64 0 :: Value.int .i64 0 :: Value.int .i64 0 :: Value.int .i64 0 :: Value.int .i64 0 :: Value.int .i64 0 :: Value.int .i64 0 :: Value.int .i64 0 :: []).toArray 27)).setCells (w.heap.size + 1 + 1) 0 (Value.int .i64 0 :: Value.int .i64 0 :: Value.int .i64 0 :: Value.int .i64 0 :: Value.int .i64 0 :: Value.int .i64 0 :: Value.int .i64 0 :: Value.int .i64 0 :: Value.int .i64 0 :: Value.int .i64 0 :: Value.int .i64 0 :: Value.int .i64 0 :: Value.int .i64 0 :: Value.int .i64 0 :: Value.int .i64 0 :: Value.int .i64 0 :: Value.int .i64 0 :: Value.int .i64 0 :: Value.int .i64 0 :: Value.int .i64 0 :: Value.int .i64 0 :: Value.int .i64 0 :: Value.int .i64 0 :: Value.int .i64 0 :: Value.int .i64 0 :: Value.int .i64 0 :: Value.int .i64 0 :: Value.int .i64 0 :: Value.int .i64 0 :: Value.int .i64 0 :: Value.int .i64 0 :: Value.int .i64 0 :: Value.int .i64 0 :: Value.int .i64 0 :: Value.int .i64 0 :: Value.int .i64 0 :: Value.int .i64 0 :: Value.int .i64 0 :: Value.int .i64 0 :: Value.int .i64 0 :: Value.int .i64 0 :: Value.int .i64 0 :: Value.int .i64 0 :: Value.int .i64 0 :: Value.int .i64 0 :: Value.int .i64 0 :: Value.int .i64 0 :: Value.int .i64 0 :: Value.int .i64 0 :: Value.int .i64 0 :: Value.int .i64 0 :: Value.int .i64 0 :: Value.int .i64 0 :: Value.int .i64 0 :: Value.int .i64 0 :: Value.int .i64 0 :: Value.int .i64 0 :: Value.int .i64 0 :: Value.int .i64 0 :: Value.int .i64 0 :: Value.int .i64 0 :: Value.int .i64 0 :: Value.int .i64 0 :: Value.int .i64 0 :: [])) = W3
  intro kk
  rw [sixtyfour] at kk
  try simp only [Act.put]
  go_loopw [4] (fun i V => ∃ n : Nat, n ≤ 64 ∧ i = .int .i64 n ∧ Keep w V [(w.heap.size + 1 + 1, 27, tab .i64 64 (fun j => if j < n then fwd b j else 0)), (w.heap.size + 1, 27, tab .i64 64 (fun _ => 0)), (w.heap.size, 27, tab .i64 64 b)]) (fun i _ => 64 - (intOf i).toNat)
  case atStart => exact ⟨0, Nat.zero_le _, rfl, by rw [tab_congr .i64 64 (fun j => if j < 0 then fwd b j else 0) (fun _ => 0) (fun j _ => if_neg (by omega))]; exact kk⟩
  case round =>
    clear kk
    obtain ⟨i, hi, rfl, kk⟩ := hrel
    by_cases hlt : i < 64
    · have i0 : (0 : Int) ≤ (i : Int) := by omega
      have i1 : (i : Int) < 64 := by omega
      go_wp2_with fail
      go_loopw [5, 6] (fun s m V => ∃ k : Nat, k ≤ 64 ∧ m = .int .i64 k ∧ s = .int .i64 (sumTo (addK fac (clp (-4096) 4096 b) i) k) ∧ Keep w V [(w.heap.size + 1 + 1, 27, tab .i64 64 (fun j => if j < i then fwd b j else 0)), (w.heap.size + 1, 27, tab .i64 64 (fun _ => 0)), (w.heap.size, 27, tab .i64 64 b)]) (fun _ m _ => 64 - (intOf m).toNat)
      case atStart => exact ⟨0, Nat.zero_le _, rfl, rfl, kk⟩
      case round =>
        clear kk
        obtain ⟨k, hk, rfl, rfl, kk⟩ := hrel
        by_cases hlt2 : k < 64
        · have j0 : (0 : Int) ≤ (k : Int) := by omega
          have j1 : (k : Int) < 64 := by omega
          have c0 := (kk.get (b := w.heap.size) (t := 27) (c := tab .i64 64 b) (by simp)).cell k hlt2
          have r1 : (i : Int).tmod 8 = (i : Int) % 8 := Int.tmod_eq_emod_of_nonneg (by omega)
          have r2 : (k : Int).tmod 8 = (k : Int) % 8 := Int.tmod_eq_emod_of_nonneg (by omega)
          have r3 : (i : Int).tdiv 8 = (i : Int) / 8 := Int.tdiv_eq_ediv_of_nonneg (by omega)
          have r4 : (k : Int).tdiv 8 = (k : Int) / 8 := Int.tdiv_eq_ediv_of_nonneg (by omega)
          have r5 : IntKind.i64.wrap ((i : Int) / 8) = (i : Int) / 8 := by rw [wrap_i64_eq]; exact w64 _ (by omega)
          have r6 : IntKind.i64.wrap ((k : Int) / 8) = (k : Int) / 8 := by rw [wrap_i64_eq]; exact w64 _ (by omega)
          obtain ⟨C, hC⟩ : ∃ c, (clp (-4096) 4096 b) k = c := ⟨_, rfl⟩
          obtain ⟨T1, h1⟩ : ∃ c, fac (i % 8) (k % 8) = c := ⟨_, rfl⟩
          obtain ⟨T2, h2⟩ : ∃ c, fac (i / 8) (k / 8) = c := ⟨_, rfl⟩
          obtain ⟨b1, b2⟩ := HB1.out i k hlt hlt2
          have b3 := HB2.out i k hlt hk
          have b4 := HB2.out i (k + 1) hlt (by omega)
          have e4 : sumTo (addK fac (clp (-4096) 4096 b) i) (k + 1) = sumTo (addK fac (clp (-4096) 4096 b) i) k + addK fac (clp (-4096) 4096 b) i k := rfl
          have e5 : addK fac (clp (-4096) 4096 b) i k = C * T1 * T2 := by unfold addK; rw [hC, h1, h2]
          obtain ⟨S0, hS⟩ : ∃ c, sumTo (addK fac (clp (-4096) 4096 b) i) k = c := ⟨_, rfl⟩
          rw [hC, h1] at b1
          rw [e5] at b2 e4
          rw [hS] at b3 e4
          rw [e4] at b4
          rw [hS]
          have Q1 : Hid (wrap64 (C * T1) = C * T1) := w64 _ (by omega)
          have Q2 : Hid (wrap64 (C * T1 * T2) = C * T1 * T2) := w64 _ (by omega)
          have Q3 : Hid (wrap64 (S0 + C * T1 * T2) = S0 + C * T1 * T2) := w64 _ (by omega)
          have HE : Hid (sumTo (addK fac (clp (-4096) 4096 b) i) (k + 1) = S0 + C * T1 * T2) := e4
          have HC : Hid (clp (-4096) 4096 b k = C) := hC
          have HF1 : Hid (facI ((i : Int) % 8) ((k : Int) % 8) = T1) := by show facI ((i : Int) % 8) ((k : Int) % 8) = T1; rw [mod8 i, mod8 k, facI_in (i % 8) (k % 8) (by omega) (by omega), ← h1]
          have HF2 : Hid (facI ((i : Int) / 8) ((k : Int) / 8) = T2) := by show facI ((i : Int) / 8) ((k : Int) / 8) = T2; rw [div8 i, div8 k, facI_in (i / 8) (k / 8) (by omega) (by omega), ← h2]
          clear b1 b2 b3 b4 e4 e5 hC h1 h2 hS
          go_wp2_with (go_at_call 26; refine (refClip_any _ _ _ _).mono ?_; rintro e x1 ⟨rfl, rfl⟩; rw [clp_of, HC.out])
          refine (refFactor_any _ _ _).mono ?_
          rintro e x2 ⟨rfl, dd⟩
          rw [HF1.out]
          replace kk := kk.step dd
          clear dd c0
          have q1 := Q1.out
          go_wp2_with fail
          clear q1
          refine (refFactor_any _ _ _).mono ?_
          rintro e x3 ⟨rfl, dd⟩
          rw [HF2.out]
          replace kk := kk.step dd
          clear dd
          have q2 := Q2.out
          have q3 := Q3.out
          have HX : Hid _ := kk
          clear kk
          go_wp2_with fail
          clear q2 q3
          go_roundw
          case rel => exact ⟨k + 1, by omega, by go_num, by first | rw [HE.out, Q1.out, Q2.out, Q3.out] | rw [HE.out], HX.out⟩
          case measure => simp [intOf]; omega
        · obtain rfl : k = 64 := by omega
          have b3 := HB2.out i 64 hlt (by omega)
          have HE : Hid (rnd (sumTo (addK fac (clp (-4096) 4096 b) i) 64) = fwd b i) := turnF_add (-4096) 4096 fac b i hlt
          obtain ⟨S0, hS⟩ : ∃ c, sumTo (addK fac (clp (-4096) 4096 b) i) 64 = c := ⟨_, rfl⟩
          rw [hS] at b3 HE ⊢
          have c0 := kk.head.cell i hlt
          have f0 := kk.head.frozen i
          simp only [Nat.lt_irrefl, if_false] at c0
          have kX := kk.set i (.int .i64 (fwd b i))
          rw [tab_grow .i64 64 (fwd b) (fun _ => 0) i] at kX
          have HX : Hid _ := kX
          have HBk : Hid _ := b3
          clear kX kk b3 hS
          go_wp2_with (go_at_call 28; refine (refRound40_in _ _ HBk.out.1 HBk.out.2).mono ?_; rintro e x1 ⟨rfl, rfl⟩; rw [HE.out])
          go_roundw
          case rel => exact ⟨i + 1, by omega, by go_num, HX.out⟩
          case measure => simp [intOf]; omega
    · obtain rfl : i = 64 := by omega
      rw [tab_full] at kk
      have hr1 := kk.head.all
      replace kk := kk.swap
      have hth := kk.head.there 0 (tab .i64 64 (fwd b)).toArray.size (by rw [List.size_toArray, tab_length, tab_length]; omega)
      have kX := kk.layAll (fwd b)
      have HX : Hid _ := And.intro kX.head kX.but
      clear kX kk
      go_wp2_with (first | (refine wpList_load_mid rfl 27 (.tmp 3) rfl (w.heap.size + 1 + 1) 0 rfl (tab .i64 64 (fwd b)) _ ?_ hu rfl (hiA _) ?_; exact hr1) | (refine wpList_store_mid rfl 27 (.tmp 2) (.tmp 38) rfl (w.heap.size + 1) 0 (tab .i64 64 (fwd b)).toArray rfl rfl ?_ (hiB _) (tab_all _ _ _) ?_; exact hth))
      exact bodyPost_ret (results_cells rfl HX.out.1 hu rfl (hiA _) _ rfl) rfl ⟨rfl, HX.out.2⟩

set_option maxHeartbeats 6400000 in
set_option maxRecDepth 100000 in
theorem block_any (v : Value) (l : List Int) (k : Int) (hk8 : 0 ≤ k ∧ k ≤ 255) (w : World) (hv : View w .u8 v l) (hx : ∀ x ∈ l, 0 ≤ x ∧ x ≤ 255) (hl : l.length ≤ 9223372036854775807) : Calls Tryd.prog 15 #[v, .int .u8 k] w fun e w' =>
    ∃ f, e = .returned (.agg (tab .i64 64 f).toArray) ∧ (∀ j, j < 64 → -128 ≤ f j ∧ f j ≤ 127) ∧ But Nowhere w w' := by
  obtain ⟨vo, vc, rfl⟩ := hv.slice
  have hu := Tryd.underlying27
  have hiA : ∀ f, (Tryd.prog.info? 27).map (·.size) = some (tab .i64 64 f).length := fun f => by rw [tab_length]; kernel_rfl
  have hiB : ∀ f, (Tryd.prog.info? 27).map (·.size) = some (tab .i64 64 f).toArray.size := fun f => by rw [List.size_toArray, tab_length]; kernel_rfl
  have hi64 : (Tryd.prog.info? 27).map (·.size) = some 64 := by kernel_rfl
  have hall : (Value.int .i64 0 :: Value.int .i64 0 :: Value.int .i64 0 :: Value.int .i64 0 :: Value.int .i64 0 :: Value.int .i64 0 :: Value.int .i64 0 :: Value.int .i64 0 :: Value.int .i64 0 :: Value.int .i64 0 :: Value.int .i64 0 :: Value.int .i64 0 :: Value.int .i64 0 :: Value.int .i64 0 :: Value.int .i64 0 :: Value.int .i64 0 :: Value.int .i64 0 :: Value.int .i64 0 :: Value.int .i64 0 :: Value.int .i64 0 :: Value.int .i64 0 :: Value.int .i64 0 :: Value.int .i64 0 :: Value.int .i64 0 :: Value.int .i64 0 :: Value.int .i64 0 :: Value.int .i64 0 :: Value.int .i64 0 :: Value.int .i64 0 :: Value.int .i64 0 :: Value.int .i64 0 :: Value.int .i64 0 :: Value.int .i64 0 :: Value.int .i64 0 :: Value.int .i64 0 :: Value.int .i64 0 :: Value.int .i64 0 :: Value.int .i64 0 :: Value.int .i64 0 :: Value.int .i64 0 :: Value.int .i64 0 :: Value.int .i64 0 :: Value.int .i64 0 :: Value.int .i64 0 :: Value.int .i64 0 :: Value.int .i64 0 :: Value.int .i64 0 :: Value.int .i64 0 :: Value.int .i64 0 :: Value.int .i64 0 :: Value.int .i64 0 :: Value.int .i64 0 :: Value.int .i64 0 :: Value.int .i64 0 :: Value.int .i64 0 :: Value.int .i64 0 :: Value.int .i64 0 :: Value.int .i64 0 :: Value.int .i64 0 :: Value.int .i64 0 :: Value.int .i64 0 :: Value.int .i64 0 :: Value.int .i64 0 :: Value.int .i64 0 :: []).toArray.all (·.oneCell') = true := by have := tab_all .i64 64 (fun _ => 0); rw [← sixtyfour] at this; exact this
  have HZ : Hid _ := And.intro hi64 hall
  clear hi64 hall
  have kk := ((Keep.start w).zero 27).zeroed
  have hth := there_zero (w.alloc (.cells (Value.int .i64 0 :: Value.int .i64 0 :: Value.int .i64 0 :: Value.int .i64 0 :: Value.int .i64 0 :: Value.int .i64 0 :: Value.int .i64 0 :: Value.int .i64 0 :: Value.int .i64 0 :: Value.int .i64 0 :: Value.int .i64 0 :: Value.int .i64 0 :: Value.int .i64 0 :: Value.int .i64 0 :: Value.int .i64 0 :: Value.int .i64 0 :: Value.int .i64 0 :: Value.int .i64 0 :: Value.int .i64 0 :: Value.int .i64 0 :: Value.int .i64 0 :: Value.int .i64 0 :: Value.int .i64 0 :: Value.int .i64 0 :: Value.int .i64 0 :: Value.int .i64 0 :: Value.int .i64 0 :: Value.int .i64 0 :: Value.int .i64 0 :: Value.int .i64 0 :: Value.int .i64 0 :: Value.int .i64 0 :: Value.int .i64 0 :: Value.int .i64 0 :: Value.int .i64 0 :: Value.int .i64 0 :: Value.int .i64 0 :: Value.int .i64 0 :: Value.int .i64 0 :: Value.int .i64 0 :: Value.int .i64 0 :: Value.int .i64 0 :: Value.int .i64 0 :: Value.int .i64 0 :: Value.int .i64 0 :: Value.int .i64 0 :: Value.int .i64 0 :: Value.int .i64 0 :: Value.int .i64 0 :: Value.int .i64 0 :: Value.int .i64 0 :: Value.int .i64 0 :: Value.int .i64 0 :: Value.int .i64 0 :: Value.int .i64 0 :: Value.int .i64 0 :: Value.int .i64 0 :: Value.int .i64 0 :: Value.int .i64 0 :: Value.int .i64 0 :: Value.int .i64 0 :: Value.int .i64 0 :: Value.int .i64 0 :: Value.int .i64 0 :: []).toArray 27))
  simp only [World.size_alloc] at kk hth
  go_enter Tryd.func15, Tryd.ntmps15
  go_wp2_with (refine wpList_store_mid rfl 27 (.tmp 5) (.tmp 7) rfl (w.heap.size + 1) 0 (Value.int .i64 0 :: Value.int .i64 0 :: Value.int .i64 0 :: Value.int .i64 0 :: Value.int .i64 0 :: Value.int .i64 0 :: Value.int .i64 0 :: Value.int .i64 0 :: Value.int .i64 0 :: Value.int .i64 0 :: Value.int .i64 0 :: Value.int .i64 0 :: Value.int .i64 0 :: Value.int .i64 0 :: Value.int .i64 0 :: Value.int .i64 0 :: Value.int .i64 0 :: Value.int .i64 0 :: Value.int .i64 0 :: Value.int .i64 0 :: Value.int .i64 0 :: Value.int .i64 0 :: Value.int .i64 0 :: Value.int .i64 0 :: Value.int .i64 0 :: Value.int .i64 0 :: Value.int .i64 0 :: Value.int .i64 0 :: Value.int .i64 0 :: Value.int .i64 0 :: Value.int .i64 0 :: Value.int .i64 0 :: Value.int .i64 0 :: Value.int .i64 0 :: Value.int .i64 0 :: Value.int .i64 0 :: Value.int .i64 0 :: Value.int .i64 0 :: Value.int .i64 0 :: Value.int .i64 0 :: Value.int .i64 0 :: Value.int .i64 0 :: Value.int .i64 0 :: Value.int .i64 0 :: Value.int .i64 0 :: Value.int .i64 0 :: Value.int .i64 0 :: Value.int .i64 0 :: Value.int .i64 0 :: Value.int .i64 0 :: Value.int .i64 0 :: Value.int .i64 0 :: Value.int .i64 0 :: Value.int .i64 0 :: Value.int .i64 0 :: Value.int .i64 0 :: Value.int .i64 0 :: Value.int .i64 0 :: Value.int .i64 0 :: Value.int .i64 0 :: Value.int .i64 0 :: Value.int .i64 0 :: Value.int .i64 0 :: Value.int .i64 0 :: []).toArray rfl rfl hth HZ.out.1 HZ.out.2 ?_)
  clear hth HZ
  revert kk
  generalize ((w.alloc (.cells (Value.int .i64 0 :: Value.int .i64 0 :: Value.int .i64 0 :: Value.int .i64 0 :: Value.int .i64 0 :: Value.int .i64 0 :: Value.int .i64 0 :: Value.int .i64 0 :: Value.int .i64 0 :: Value.int .i64 0 :: Value.int .i64 0 :: Value.int .i64 0 :: Value.int .i64 0 :: Value.int .i64 0 :: Value.int .i64 0 :: Value.int .i64 0 :: Value.int .i64 0 :: Value.int .i64 0 :: Value.int .i64 0 :: Value.int .i64 0 :: Value.int .i64 0 :: Value.int .i64 0 :: Value.int .i64 0 :: Value.int .i64 0 :: Value.int .i64 0 :: Value.int .i64 0 :: Value.int .i64 0 :: Value.int .i64 0 :: Value.int .i64 0 :: Value.int .i64 0 :: Value.int .i64 0 :: Value.int .i64 0 :: Value.int .i64 0 :: Value.int .i64 0 :: Value.int .i64 0 :: Value.int .i64 0 :: Value.int .i64 0 :: Value.int .i64 0 :: Value.int .i64 0 :: Value.int .i64 0 :: Value.int .i64 0 :: Value.int .i64 0 :: Value.int .i64 0 :: Value.int .i64 0 :: Value.int .i64 0 :: Value.int .i64 0 :: Value.int .i64 0 :: Value.int .i64 0 :: Value.int .i64 0 :: Value.int .i64 0 :: Value.int .i64 0 :: Value.int .i64 0 :: Value.int .i64 0 :: Value.int .i64 0 :: Value.int .i64 0 :: Value.int .i64 0 :: Value.int .i64 0 :: Value.int .i64 0 :: Value.int .i64 0 :: Value.int .i64 0 :: Value.int .i64 0 :: Value.int .i64 0 :: Value.int .i64 0 :: Value.int .i64 0 :: []).toArray 27)).alloc (.cells (Value.int .i64 0 :: Value.int .i64 0 :: Value.int .i64 0 :: Value.int .i64 0 :: Value.int .i64 0 :: Value.int .i64 0 :: Value.int .i64 0 :: Value.int .i64 0 :: Value.int .i64 0 :: Value.int .i64 0 :: Value.int .i64 0 :: Value.int .i64 0 :: Value.int .i64 0 :: Value.int .i64 0 :: Value.int .i64 0 :: Value.int .i64 0 :: Value.int .i64 0 :: Value.int .i64 0 :: Value.int .i64 0 :: Value.int .i64 0 :: Value.int .i64 0 :: Value.int .i64 0 :: Value.int .i64 0 :: Value.int .i64 0 :: Value.int .i64 0 :: Value.int .i64 0 :: Value.int .i64 0 :: Value.int .i64 0 :: Value.int .i64 0 :: Value.int .i64 0 :: Value.int .i64 0 :: Value.int .i64 0 :: Value.int .i64 0 :: Value.int .i64 0 :: Value.int .i64 0 :: Value.int .i64 0 :: Value.int .i64 0 :: Value.int .i64 0 :: Value.int .i64 0 :: Value.int .i64 0 :: Value.int .i64 0 :: Value.int .i64 0 :: Value.int .i64 0 :: Value.int .i64 0 :: Value.int .i64 0 :: Value.int .i64 0 :: Value.int .i64 0 :: Value.int .i64 0 :: Value.int .i64 0 :: Value.int .i64 0 :: Value.int .i64 0 :: Value.int .i64 0 :: Value.int .i64 0 :: Value.int .i64 0 :: Value.int .i64 0 :: Value.int .i64 0 :: Value.int .i64 0 :: Value.int .i64 0 :: Value.int .i64 0 :: Value.int .i64 0 :: Value.int .i64 0 :: Value.int .i64 0 :: Value.int .i64 0 :: Value.int .i64 0 :: []).toArray 27)).setCells (w.heap.size + 1) 0 (Value.int .i64 0 :: Value.int .i64 0 :: Value.int .i64 0 :: Value.int .i64 0 :: Value.int .i64 0 :: Value.int .i64 0 :: Value.int .i64 0 :: Value.int .i64 0 :: Value.int .i64 0 :: Value.int .i64 0 :: Value.int .i64 0 :: Value.int .i64 0 :: Value.int .i64 0 :: Value.int .i64 0 :: Value.int .i64 0 :: Value.int .i64 0 :: Value.int .i64 0 :: Value.int .i64 0 :: Value.int .i64 0 :: Value.int .i64 0 :: Value.int .i64 0 :: Value.int .i64 0 :: Value.int .i64 0 :: Value.int .i64 0 :: Value.int .i64 0 :: Value.int .i64 0 :: Value.int .i64 0 :: Value.int .i64 0 :: Value.int .i64 0 :: Value.int .i64 0 :: Value.int .i64 0 :: Value.int .i64 0 :: Value.int .i64 0 :: Value.int .i64 0 :: Value.int .i64 0 :: Value.int .i64 0 :: Value.int .i64 0 :: Value.int .i64 0 :: Value.int .i64 0 :: Value.int .i64 0 :: Value.int .i64 0 :: Value.int .i64 0 :: Value.int .i64 0 :: Value.int .i64 0 :: Value.int .i64 0 :: Value.int .i64 0 :: Value.int .i64 0 :: Value.int .i64 0 :: Value.int .i64 0 :: Value.int .i64 0 :: Value.int .i64 0 :: Value.int .i64 0 :: Value.int .i64 0 :: Value.int .i64 0 :: Value.int .i64 0 :: Value.int .i64 0 :: Value.int .i64 0 :: Value.int .i64 0 :: Value.int .i64 0 :: Value.int .i64 0 :: Value.int .i64 0 :: Value.int .i64 0 :: Value.int .i64 0 :: Value.int .i64 0 :: []) = W1
  intro kk
  try simp only [Act.put]
  go_loopw [6] (fun i V => ∃ (n : Nat) (f : Nat → Int), n ≤ 64 ∧ i = .int .i64 n ∧ (∀ j, j < n → -128 ≤ f j ∧ f j ≤ 127) ∧ Keep w V [(w.heap.size + 1, 27, tab .i64 64 f), (w.heap.size, 27, tab .i64 64 (fun _ => 0))]) (fun i _ => 64 - (intOf i).toNat)
  case atStart => exact ⟨0, fun _ => 0, Nat.zero_le _, rfl, fun j hj => by omega, kk⟩
  case round =>
    clear kk
    obtain ⟨n, f, hn, rfl, hf, kk⟩ := hrel
    by_cases hlt : n < 64
    · have i0 : (0 : Int) ≤ (n : Int) := by omega
      have i1 : (n : Int) < 64 := by omega
      have c0 := kk.head.cell n hlt
      have f0 := kk.head.frozen n
      have e0 : wrap64 (k - 128) = k - 128 := w64 _ (by omega)
      by_cases hz : l.length = 0
      · have hz' : ¬ (0 : Int) < (l.length : Int) := by omega
        have kX := kk.set n (.int .i64 (k - 128))
        rw [tab_set] at kX
        have HX : Hid _ := kX
        clear kX kk
        go_wp2_with fail
        go_roundw
        case rel => exact ⟨n + 1, _, by omega, by go_num, fun j hj => by unfold upd; split; omega; exact hf j (by omega), HX.out⟩
        case measure => simp [intOf]; omega
      · have hlp : n % l.length < l.length := Nat.mod_lt _ (by omega)
        obtain ⟨-, vb, off, rfl, hvb, hvc⟩ := hv.at (n % l.length) hlp
        obtain ⟨y, hy⟩ : ∃ y, l[n % l.length] = y := ⟨_, rfl⟩
        have hy2 := hx _ (List.getElem_mem hlp)
        rw [hy] at hvc hy2
        have hz' : (0 : Int) < (l.length : Int) := by omega
        have hzz : ¬ (l.length : Int) = 0 := by omega
        obtain ⟨D, hD⟩ : ∃ D, n / l.length = D := ⟨_, rfl⟩
        obtain ⟨Mo, hMo⟩ : ∃ D, n % l.length = D := ⟨_, rfl⟩
        have r1 : (n : Int).tmod (l.length : Int) = (Mo : Int) := by rw [Int.tmod_eq_emod_of_nonneg (by omega), ← hMo]; rfl
        have r2 : (n : Int).tdiv (l.length : Int) = (D : Int) := by rw [Int.tdiv_eq_ediv_of_nonneg (by omega), ← hD]; rfl
        have hD9 : D < 64 := by have := Nat.div_le_self n l.length; omega
        have r3 : IntKind.i64.wrap (D : Int) = D := by rw [wrap_i64_eq]; exact w64 _ (by omega)
        rw [hMo] at hvc hlp
        have m1 : (Mo : Int) < (l.length : Int) := by omega
        have e1 : IntKind.i64.wrap (k - 128) = k - 128 := by rw [wrap_i64_eq]; exact e0
        clear hy hMo hD
        go_wp2_with fail
        replace kk := (kk.setTab n (k - 128)).drew
        have hS := kk.but.keeps (not_nowhere _) hvc
        clear c0 f0
        have c0 := kk.head.cell n hlt
        have f0 := kk.head.frozen n
        refine wp_region_till (S := fun V => V.cell? ⟨vb, off + Mo, none⟩ = some (.int .u8 y)) (R := fun _ => True) (k := 19) (m := 100) (by kernel_rfl) hS trivial ?_
        revert kk hS c0 f0
        generalize (wr.setCell ⟨w.heap.size + 1, n, none⟩ (.int .i64 (k - 128))).drew = V
        intro kk hS c0 f0
        (refine Walk.take (i := 0) (oi := { dst := some 20, op := Op.move (Operand.tmp 6), type := 3, pos := "law.go:46", after := #[], guard := none }) (v := ?_) rfl (by kernel_rfl) (by kernel_rfl) (by kernel_rfl) (by kernel_rfl) (fun _ _ _ h => h) (Or.inl ⟨by rfl, ?_⟩) ?_; rotate_left; (intro w hw; clear hw; (try go_split_ands); go_simp; try (with_reducible rfl)); simp only [Act.put, List.setIfInBounds_toArray, List.set_cons_zero, List.set_cons_succ])
        (refine Walk.take (i := 1) (oi := { dst := some 21, op := Op.move (Operand.tmp 0), type := 28, pos := "law.go:46", after := #[], guard := none }) (v := ?_) rfl (by kernel_rfl) (by kernel_rfl) (by kernel_rfl) (by kernel_rfl) (fun _ _ _ h => h) (Or.inl ⟨by rfl, ?_⟩) ?_; rotate_left; (intro w hw; clear hw; (try go_split_ands); go_simp; try (with_reducible rfl)); simp only [Act.put, List.setIfInBounds_toArray, List.set_cons_zero, List.set_cons_succ])
        (refine Walk.take (i := 2) (oi := { dst := some 22, op := Op.move (Operand.tmp 6), type := 3, pos := "law.go:46", after := #[], guard := none }) (v := ?_) rfl (by kernel_rfl) (by kernel_rfl) (by kernel_rfl) (by kernel_rfl) (fun _ _ _ h => h) (Or.inl ⟨by rfl, ?_⟩) ?_; rotate_left; (intro w hw; clear hw; (try go_split_ands); go_simp; try (with_reducible rfl)); simp only [Act.put, List.setIfInBounds_toArray, List.set_cons_zero, List.set_cons_succ])
        (refine Walk.take (i := 3) (oi := { dst := some 23, op := Op.move (Operand.tmp 0), type := 28, pos := "law.go:46", after := #[], guard := none }) (v := ?_) rfl (by kernel_rfl) (by kernel_rfl) (by kernel_rfl) (by kernel_rfl) (fun _ _ _ h => h) (Or.inl ⟨by rfl, ?_⟩) ?_; rotate_left; (intro w hw; clear hw; (try go_split_ands); go_simp; try (with_reducible rfl)); simp only [Act.put, List.setIfInBounds_toArray, List.set_cons_zero, List.set_cons_succ])
        (refine Walk.take (i := 4) (oi := { dst := some 24, op := Op.call { callee := Callee.builtin Builtin.len, args := #[Operand.tmp 23], argTypes := #[28] }, type := 3, pos := "law.go:46", after := #[{ on := 3, ground := Ground.data }], guard := none }) (v := ?_) rfl (by kernel_rfl) (by kernel_rfl) (by kernel_rfl) (by kernel_rfl) (fun _ _ _ h => h) (Or.inl ⟨by rfl, ?_⟩) ?_; rotate_left; (intro w hw; clear hw; (try go_split_ands); go_simp; try (with_reducible rfl)); simp only [Act.put, List.setIfInBounds_toArray, List.set_cons_zero, List.set_cons_succ])
        (refine Walk.take (i := 5) (oi := { dst := some 25, op := Op.binOp BinOp.rem 3 (Operand.tmp 22) (Operand.tmp 24) 3, type := 3, pos := "law.go:46", after := #[{ on := 2, ground := Ground.data }, { on := 4, ground := Ground.data }], guard := none }) (v := ?_) rfl (by kernel_rfl) (by kernel_rfl) (by kernel_rfl) (by kernel_rfl) (fun _ _ _ h => h) (Or.inl ⟨by rfl, ?_⟩) ?_; rotate_left; (intro w hw; clear hw; (try go_split_ands); go_simp; try (with_reducible rfl)); simp only [Act.put, List.setIfInBounds_toArray, List.set_cons_zero, List.set_cons_succ])
        (refine Walk.take (i := 6) (oi := { dst := some 26, op := Op.indexAddr 28 (Operand.tmp 21) (Operand.tmp 25), type := 0, pos := "law.go:46", after := #[{ on := 1, ground := Ground.data }, { on := 5, ground := Ground.data }], guard := none }) (v := ?_) rfl (by kernel_rfl) (by kernel_rfl) (by kernel_rfl) (by kernel_rfl) (fun _ _ _ h => h) (Or.inl ⟨by rfl, ?_⟩) ?_; rotate_left; (intro w hw; clear hw; (try go_split_ands); go_simp; try (with_reducible rfl)); simp only [Act.put, List.setIfInBounds_toArray, List.set_cons_zero, List.set_cons_succ])
        (refine Walk.take (i := 7) (oi := { dst := some 27, op := Op.load 5 (Operand.tmp 26), type := 5, pos := "law.go:46", after := #[{ on := 6, ground := Ground.data }], guard := none }) (v := ?_) rfl (by kernel_rfl) (by kernel_rfl) (by kernel_rfl) (by kernel_rfl) (fun _ _ _ h => h) (Or.inl ⟨by rfl, ?_⟩) ?_; rotate_left; (intro w hw; have hS1 := hw.1 (by kernel_rfl); clear hw; (try dsimp only at hS1); (try go_split_ands); go_simp; try (with_reducible rfl)); simp only [Act.put, List.setIfInBounds_toArray, List.set_cons_zero, List.set_cons_succ])
        (refine Walk.take (i := 8) (oi := { dst := some 28, op := Op.move (Operand.tmp 6), type := 3, pos := "law.go:46", after := #[], guard := none }) (v := ?_) rfl (by kernel_rfl) (by kernel_rfl) (by kernel_rfl) (by kernel_rfl) (fun _ _ _ h => h) (Or.inl ⟨by rfl, ?_⟩) ?_; rotate_left; (intro w hw; clear hw; (try go_split_ands); go_simp; try (with_reducible rfl)); simp only [Act.put, List.setIfInBounds_toArray, List.set_cons_zero, List.set_cons_succ])
        (refine Walk.take (i := 9) (oi := { dst := some 29, op := Op.move (Operand.tmp 0), type := 28, pos := "law.go:46", after := #[], guard := none }) (v := ?_) rfl (by kernel_rfl) (by kernel_rfl) (by kernel_rfl) (by kernel_rfl) (fun _ _ _ h => h) (Or.inl ⟨by rfl, ?_⟩) ?_; rotate_left; (intro w hw; clear hw; (try go_split_ands); go_simp; try (with_reducible rfl)); simp only [Act.put, List.setIfInBounds_toArray, List.set_cons_zero, List.set_cons_succ])
        (refine Walk.take (i := 10) (oi := { dst := some 30, op := Op.call { callee := Callee.builtin Builtin.len, args := #[Operand.tmp 29], argTypes := #[28] }, type := 3, pos := "law.go:46", after := #[{ on := 9, ground := Ground.data }], guard := none }) (v := ?_) rfl (by kernel_rfl) (by kernel_rfl) (by kernel_rfl) (by kernel_rfl) (fun _ _ _ h => h) (Or.inl ⟨by rfl, ?_⟩) ?_; rotate_left; (intro w hw; clear hw; (try go_split_ands); go_simp; try (with_reducible rfl)); simp only [Act.put, List.setIfInBounds_toArray, List.set_cons_zero, List.set_cons_succ])
        (refine Walk.take (i := 11) (oi := { dst := some 31, op := Op.binOp BinOp.quo 3 (Operand.tmp 28) (Operand.tmp 30) 3, type := 3, pos := "law.go:46", after := #[{ on := 8, ground := Ground.data }, { on := 10, ground := Ground.data }], guard := none }) (v := ?_) rfl (by kernel_rfl) (by kernel_rfl) (by kernel_rfl) (by kernel_rfl) (fun _ _ _ h => h) (Or.inl ⟨by rfl, ?_⟩) ?_; rotate_left; (intro w hw; clear hw; (try go_split_ands); go_simp; try (with_reducible rfl)); simp only [Act.put, List.setIfInBounds_toArray, List.set_cons_zero, List.set_cons_succ])
        (refine Walk.take (i := 12) (oi := { dst := some 32, op := Op.convert 3 5 (Operand.tmp 31), type := 5, pos := "law.go:46", after := #[{ on := 11, ground := Ground.data }], guard := none }) (v := ?_) rfl (by kernel_rfl) (by kernel_rfl) (by kernel_rfl) (by kernel_rfl) (fun _ _ _ h => h) (Or.inl ⟨by rfl, ?_⟩) ?_; rotate_left; (intro w hw; clear hw; (try go_split_ands); go_simp; try (with_reducible rfl)); simp only [Act.put, List.setIfInBounds_toArray, List.set_cons_zero, List.set_cons_succ])
        (refine Walk.take (i := 13) (oi := { dst := some 33, op := Op.move (Operand.tmp 1), type := 5, pos := "law.go:46", after := #[], guard := none }) (v := ?_) rfl (by kernel_rfl) (by kernel_rfl) (by kernel_rfl) (by kernel_rfl) (fun _ _ _ h => h) (Or.inl ⟨by rfl, ?_⟩) ?_; rotate_left; (intro w hw; clear hw; (try go_split_ands); go_simp; try (with_reducible rfl)); simp only [Act.put, List.setIfInBounds_toArray, List.set_cons_zero, List.set_cons_succ])
        (refine Walk.take (i := 14) (oi := { dst := some 34, op := Op.binOp BinOp.mul 5 (Operand.tmp 32) (Operand.tmp 33) 5, type := 5, pos := "law.go:46", after := #[{ on := 12, ground := Ground.data }, { on := 13, ground := Ground.data }], guard := none }) (v := ?_) rfl (by kernel_rfl) (by kernel_rfl) (by kernel_rfl) (by kernel_rfl) (fun _ _ _ h => h) (Or.inl ⟨by rfl, ?_⟩) ?_; rotate_left; (intro w hw; clear hw; (try go_split_ands); go_simp; try (with_reducible rfl)); simp only [Act.put, List.setIfInBounds_toArray, List.set_cons_zero, List.set_cons_succ])
        (refine Walk.take (i := 15) (oi := { dst := some 35, op := Op.binOp BinOp.add 5 (Operand.tmp 27) (Operand.tmp 34) 5, type := 5, pos := "law.go:46", after := #[{ on := 7, ground := Ground.data }, { on := 14, ground := Ground.data }], guard := none }) (v := ?_) rfl (by kernel_rfl) (by kernel_rfl) (by kernel_rfl) (by kernel_rfl) (fun _ _ _ h => h) (Or.inl ⟨by rfl, ?_⟩) ?_; rotate_left; (intro w hw; clear hw; (try go_split_ands); go_simp; try (with_reducible rfl)); simp only [Act.put, List.setIfInBounds_toArray, List.set_cons_zero, List.set_cons_succ])
        (refine Walk.take (i := 16) (oi := { dst := some 36, op := Op.convert 5 3 (Operand.tmp 35), type := 3, pos := "law.go:46", after := #[{ on := 15, ground := Ground.data }], guard := none }) (v := ?_) rfl (by kernel_rfl) (by kernel_rfl) (by kernel_rfl) (by kernel_rfl) (fun _ _ _ h => h) (Or.inl ⟨by rfl, ?_⟩) ?_; rotate_left; (intro w hw; clear hw; (try go_split_ands); go_simp; try (with_reducible rfl)); simp only [Act.put, List.setIfInBounds_toArray, List.set_cons_zero, List.set_cons_succ])
        (refine Walk.take (i := 17) (oi := { dst := some 37, op := Op.binOp BinOp.sub 3 (Operand.tmp 36) (Operand.const (Value.int IntKind.i64 128)) 3, type := 3, pos := "law.go:46", after := #[{ on := 16, ground := Ground.data }], guard := none }) (v := ?_) rfl (by kernel_rfl) (by kernel_rfl) (by kernel_rfl) (by kernel_rfl) (fun _ _ _ h => h) (Or.inl ⟨by rfl, ?_⟩) ?_; rotate_left; (intro w hw; clear hw; (try go_split_ands); go_simp; try (with_reducible rfl)); simp only [Act.put, List.setIfInBounds_toArray, List.set_cons_zero, List.set_cons_succ])
        (refine Walk.take (i := 18) (oi := { dst := some 38, op := Op.indexAddr 27 (Operand.tmp 5) (Operand.tmp 20), type := 0, pos := "law.go:46", after := #[{ on := 0, ground := Ground.data }, { on := 0, ground := Ground.phase }, { on := 1, ground := Ground.phase }, { on := 2, ground := Ground.phase }, { on := 3, ground := Ground.phase }, { on := 4, ground := Ground.phase }, { on := 5, ground := Ground.phase }, { on := 6, ground := Ground.phase }, { on := 7, ground := Ground.phase }, { on := 8, ground := Ground.phase }, { on := 9, ground := Ground.phase }, { on := 10, ground := Ground.phase }, { on := 11, ground := Ground.phase }, { on := 12, ground := Ground.phase }, { on := 13, ground := Ground.phase }, { on := 14, ground := Ground.phase }, { on := 15, ground := Ground.phase }, { on := 16, ground := Ground.phase }, { on := 17, ground := Ground.phase }], guard := none }) (v := ?_) rfl (by kernel_rfl) (by kernel_rfl) (by kernel_rfl) (by kernel_rfl) (fun _ _ _ h => h) (Or.inl ⟨by rfl, ?_⟩) ?_; rotate_left; (intro w hw; clear hw; (try go_split_ands); go_simp; try (with_reducible rfl)); simp only [Act.put, List.setIfInBounds_toArray, List.set_cons_zero, List.set_cons_succ])
        (refine Walk.go (i := 19) (o := { dst := none, op := Op.store 3 (Operand.tmp 38) (Operand.tmp 37), type := 0, pos := "law.go:46", after := #[{ on := 18, ground := Ground.data }, { on := 17, ground := Ground.data }, { on := 0, ground := Ground.phase }, { on := 1, ground := Ground.phase }, { on := 2, ground := Ground.phase }, { on := 3, ground := Ground.phase }, { on := 4, ground := Ground.phase }, { on := 5, ground := Ground.phase }, { on := 6, ground := Ground.phase }, { on := 7, ground := Ground.phase }, { on := 8, ground := Ground.phase }, { on := 9, ground := Ground.phase }, { on := 10, ground := Ground.phase }, { on := 11, ground := Ground.phase }, { on := 12, ground := Ground.phase }, { on := 13, ground := Ground.phase }, { on := 14, ground := Ground.phase }, { on := 15, ground := Ground.phase }, { on := 16, ground := Ground.phase }, { on := 17, ground := Ground.phase }], guard := none }) (by kernel_rfl) rfl (fun K hK => ?_); go_simp; (skip); refine hK.out _ _ (⟨fun q => absurd q (by decide), fun _ => trivial⟩) ?_; clear hK K; try simp only [Act.put, List.setIfInBounds_toArray, List.set_cons_zero, List.set_cons_succ])
        refine Walk.done (by kernel_rfl) ?_ _
        have kX := kk.setTab n (IntKind.i64.wrap (IntKind.i64.wrap (IntKind.u8.wrap (y + IntKind.u8.wrap (IntKind.u8.wrap (D : Int) * k))) - 128))
        have hb9 := u8_off (y + IntKind.u8.wrap (IntKind.u8.wrap (D : Int) * k))
        revert kX hb9
        generalize IntKind.i64.wrap (IntKind.i64.wrap (IntKind.u8.wrap (y + IntKind.u8.wrap (IntKind.u8.wrap (D : Int) * k))) - 128) = X
        intro kX hb9
        have HX : Hid _ := kX
        have HB : Hid _ := hb9
        clear kX kk hb9 c0 f0 hS
        go_wp2_with fail
        go_roundw
        case rel => exact ⟨n + 1, _, by omega, by go_num, fun j hj => by
            unfold upd
            split
            · exact HB.out
            · exact hf j (by omega), HX.out⟩
        case measure => simp [intOf]; omega
    · obtain rfl : n = 64 := by omega
      have hr1 := kk.head.all
      replace kk := kk.swap
      have hth := kk.head.there 0 (tab .i64 64 f).toArray.size (by rw [List.size_toArray, tab_length, tab_length]; omega)
      have kX := kk.layAll f
      have HX : Hid _ := And.intro kX.head kX.but
      clear kX kk
      go_wp2_with (first | (refine wpList_load_mid rfl 27 (.tmp 5) rfl (w.heap.size + 1) 0 rfl (tab .i64 64 f) _ ?_ hu rfl (hiA _) ?_; exact hr1) | (refine wpList_store_mid rfl 27 (.tmp 4) (.tmp 39) rfl (w.heap.size) 0 (tab .i64 64 f).toArray rfl rfl ?_ (hiB _) (tab_all _ _ _) ?_; exact hth))
      exact bodyPost_ret (results_cells rfl HX.out.1 hu rfl (hiA _) _ rfl) rfl ⟨f, rfl, fun j hj => hf j hj, HX.out.2⟩

set_option maxHeartbeats 3200000 in
set_option maxRecDepth 100000 in
theorem hide_any (b : Nat → Int) (w : World) : Calls Tryd.prog 22 #[.agg (tab .i64 64 b).toArray] w fun e w' =>
    e = .returned (.agg (tab .i64 64 b).toArray) ∧ But Nowhere w w' := by
  have hu := Tryd.underlying37
  have hiA : ∀ f, (Tryd.prog.info? 37).map (·.size) = some (tab .i64 64 f).length := fun f => by rw [tab_length]; kernel_rfl
  have hiB : ∀ f, (Tryd.prog.info? 37).map (·.size) = some (tab .i64 64 f).toArray.size := fun f => by rw [List.size_toArray, tab_length]; kernel_rfl
  have k0 := (((Keep.start w).made 27 (tab .i64 64 b)).zero 37).zero 37
  have kk := k0.layAll (fun _ => 0)
  have hth := k0.head.there 0 64 (by rw [tab_length]; omega)
  have hi64 : (Tryd.prog.info? 37).map (·.size) = some 64 := by kernel_rfl
  have hall := tab_all .i64 64 (fun _ => 0)
  rw [← sixtyfour] at kk hall
  simp only [World.size_alloc] at kk hth
  have HZ : Hid _ := And.intro hth (And.intro hi64 hall)
  clear k0 hth hi64 hall
  go_enter Tryd.func22, Tryd.ntmps22
  go_wp2_with (refine wpList_store_mid rfl 37 (.tmp 3) (.tmp 5) rfl (w.heap.size + 1 + 1) 0 (Value.int .i64 0 :: Value.int .i64 0 :: Value.int .i64 0 :: Value.int .i64 0 :: Value.int .i64 0 :: Value.int .i64 0 :: Value.int .i64 0 :: Value.int .i64 0 :: Value.int .i64 0 :: Value.int .i64 0 :: Value.int .i64 0 :: Value.int .i64 0 :: Value.int .i64 0 :: Value.int .i64 0 :: Value.int .i64 0 :: Value.int .i64 0 :: Value.int .i64 0 :: Value.int .i64 0 :: Value.int .i64 0 :: Value.int .i64 0 :: Value.int .i64 0 :: Value.int .i64 0 :: Value.int .i64 0 :: Value.int .i64 0 :: Value.int .i64 0 :: Value.int .i64 0 :: Value.int .i64 0 :: Value.int .i64 0 :: Value.int .i64 0 :: Value.int .i64 0 :: Value.int .i64 0 :: Value.int .i64 0 :: Value.int .i64 0 :: Value.int .i64 0 :: Value.int .i64 0 :: Value.int .i64 0 :: Value.int .i64 0 :: Value.int .i64 0 :: Value.int .i64 0 :: Value.int .i64 0 :: Value.int .i64 0 :: Value.int .i64 0 :: Value.int .i64 0 :: Value.int .i64 0 :: Value.int .i64 0 :: Value.int .i64 0 :: Value.int .i64 0 :: Value.int .i64 0 :: Value.int .i64 0 :: Value.int .i64 0 :: Value.int .i64 0 :: Value.int .i64 0 :: Value.int .i64 0 :: Value.int .i64 0 :: Value.int .i64 0 :: Value.int .i64 0 :: Value.int .i64 0 :: Value.int .i64 0 :: Value.int .i64 0 :: Value.int .i64 0 :: Value.int .i64 0 :: Value.int .i64 0 :: Value.int .i64 0 :: Value.int .i64 0 :: []).toArray rfl rfl HZ.out.1 HZ.out.2.1 HZ.out.2.2 ?_)
  clear HZ
  revert kk
  generalize ((((w.alloc (.cells (tab .i64 64 b).toArray 27)).alloc (.cells (Value.int .i64 0 :: Value.int .i64 0 :: Value.int .i64 0 :: Value.int .i64 0 :: Value.int .i64 0 :: Value.int .i64 0 :: Value.int .i64 0 :: Value.int .i64 0 :: Value.int .i64 0 :: Value.int .i64 0 :: Value.int .i64 0 :: Value.int .i64 0 :: Value.int .i64 0 :: Value.int .i64 0 :: Value.int .i64 0 :: Value.int .i64 0 :: Value.int .i64 0 :: Value.int .i64 0 :: Value.int .i64 0 :: Value.int .i64 0 :: Value.int .i64 0 :: Value.int .i64 0 :: Value.int .i64 0 :: Value.int .i64 0 :: Value.int .i64 0 :: Value.int .i64 0 :: Value.int .i64 0 :: Value.int .i64 0 :: Value.int .i64 0 :: Value.int .i64 0 :: Value.int .i64 0 :: Value.int .i64 0 :: Value.int .i64 0 :: Value.int .i64 0 :: Value.int .i64 0 :: Value.int .i64 0 :: Value.int .i64 0 :: Value.int .i64 0 :: Value.int .i64 0 :: Value.int .i64 0 :: Value.int .i64 0 :: Value.int .i64 0 :: Value.int .i64 0 :: Value.int .i64 0 :: Value.int .i64 0 :: Value.int .i64 0 :: Value.int .i64 0 :: Value.int .i64 0 :: Value.int .i64 0 :: Value.int .i64 0 :: Value.int .i64 0 :: Value.int .i64 0 :: Value.int .i64 0 :: Value.int .i64 0 :: Value.int .i64 0 :: Value.int .i64 0 :: Value.int .i64 0 :: Value.int .i64 0 :: Value.int .i64 0 :: Value.int .i64 0 :: Value.int .i64 0 :: Value.int .i64 0 :: Value.int .i64 0 :: Value.int .i64 0 :: []).toArray 37)).alloc (.cells (Value.int .i64 0 :: Value.int .i64 0 :: Value.int .i64 0 :: Value.int .i64 0 :: Value.int .i64 0 :: Value.int .i64 0 :: Value.int .i64 0 :: Value.int .i64 0 :: Value.int .i64 0 :: Value.int .i64 0 :: Value.int .i64 0 :: Value.int .i64 0 :: Value.int .i64 0 :: Value.int .i64 0 :: Value.int .i64 0 :: Value.int .i64 0 :: Value.int .i64 0 :: Value.int .i64 0 :: Value.int .i64 0 :: Value.int .i64 0 :: Value.int .i64 0 :: Value.int .i64 0 :: Value.int .i64 0 :: Value.int .i64 0 :: Value.int .i64 0 :: Value.int .i64 0 :: Value.int .i64 0 :: Value.int .i64 0 :: Value.int .i64 0 :: Value.int .i64 0 :: Value.int .i64 0 :: Value.int .i64 0 :: Value.int .i64 0 :: Value.int .i64 0 :: Value.int .i64 0 :: Value.int .i64 0 :: Value.int .i64 0 :: Value.int .i64 0 :: Value.int .i64 0 :: Value.int .i64 0 :: Value.int .i64 0 :: Value.int .i64 0 :: Value.int .i64 0 :: Value.int .i64 0 :: Value.int .i64 0 :: Value.int .i64 0 :: Value.int .i64 0 :: Value.int .i64 0 :: Value.int .i64 0 :: Value.int .i64 0 :: Value.int .i64 0 :: Value.int .i64 0 :: Value.int .i64 0 :: Value.int .i64 0 :: Value.int .i64 0 :: Value.int .i64 0 :: Value.int .i64 0 :: Value.int .i64 0 :: Value.int .i64 0 :: Value.int .i64 0 :: Value.int .i64 0 :: Value.int .i64 0 :: Value.int .i64 0 :: Value.int .i64 0 :: []).toArray 37)).setCells (w.heap.size + 1 + 1) 0 (Value.int .i64 0 :: Value.int .i64 0 :: Value.int .i64 0 :: Value.int .i64 0 :: Value.int .i64 0 :: Value.int .i64 0 :: Value.int .i64 0 :: Value.int .i64 0 :: Value.int .i64 0 :: Value.int .i64 0 :: Value.int .i64 0 :: Value.int .i64 0 :: Value.int .i64 0 :: Value.int .i64 0 :: Value.int .i64 0 :: Value.int .i64 0 :: Value.int .i64 0 :: Value.int .i64 0 :: Value.int .i64 0 :: Value.int .i64 0 :: Value.int .i64 0 :: Value.int .i64 0 :: Value.int .i64 0 :: Value.int .i64 0 :: Value.int .i64 0 :: Value.int .i64 0 :: Value.int .i64 0 :: Value.int .i64 0 :: Value.int .i64 0 :: Value.int .i64 0 :: Value.int .i64 0 :: Value.int .i64 0 :: Value.int .i64 0 :: Value.int .i64 0 :: Value.int .i64 0 :: Value.int .i64 0 :: Value.int .i64 0 :: Value.int .i64 0 :: Value.int .i64 0 :: Value.int .i64 0 :: Value.int .i64 0 :: Value.int .i64 0 :: Value.int .i64 0 :: Value.int .i64 0 :: Value.int .i64 0 :: Value.int .i64 0 :: Value.int .i64 0 :: Value.int .i64 0 :: Value.int .i64 0 :: Value.int .i64 0 :: Value.int .i64 0 :: Value.int .i64 0 :: Value.int .i64 0 :: Value.int .i64 0 :: Value.int .i64 0 :: Value.int .i64 0 :: Value.int .i64 0 :: Value.int .i64 0 :: Value.int .i64 0 :: Value.int .i64 0 :: Value.int .i64 0 :: Value.int .i64 0 :: Value.int .i64 0 :: Value.int .i64 0 :: [])) = W3
  intro kk
  rw [sixtyfour] at kk
  try simp only [Act.put]
  go_loopw [4] (fun i V => ∃ k : Nat, k ≤ 64 ∧ i = .int .i64 k ∧ Keep w V [(w.heap.size + 1 + 1, 37, tab .i64 64 (fun j => if j < k then b j else 0)), (w.heap.size + 1, 37, tab .i64 64 (fun _ => 0)), (w.heap.size, 27, tab .i64 64 b)]) (fun i _ => 64 - (intOf i).toNat)
  case atStart => exact ⟨0, Nat.zero_le _, rfl, by rw [tab_congr .i64 64 (fun j => if j < 0 then b j else 0) (fun _ => 0) (fun j _ => if_neg (by omega))]; exact kk⟩
  case round =>
    clear kk
    obtain ⟨k, hk, rfl, kk⟩ := hrel
    by_cases hlt : k < 64
    · have i0 : (0 : Int) ≤ (k : Int) := by omega
      have i1 : (k : Int) < 64 := by omega
      have cB := (kk.get (b := w.heap.size) (t := 27) (c := tab .i64 64 b) (by simp)).cell k hlt
      go_wp2_with fail
      refine (of_any _ _).mono ?_
      rintro e x1 ⟨rfl, dd⟩
      replace kk := kk.step dd
      clear dd cB
      have c0 := kk.head.cell k hlt
      have f0 := kk.head.frozen k
      simp only [Nat.lt_irrefl, if_false] at c0
      have kX := kk.set k (.int .i64 (b k))
      rw [tab_grow .i64 64 b (fun _ => 0) k] at kX
      have HX : Hid _ := kX
      clear kX kk
      go_wp2_with fail
      clear c0 f0
      go_roundw
      case rel => exact ⟨k + 1, by omega, by go_num, HX.out⟩
      case measure => simp [intOf]; omega
    · obtain rfl : k = 64 := by omega
      rw [tab_full] at kk
      have hr1 := kk.head.all
      replace kk := kk.swap
      have hth := kk.head.there 0 (tab .i64 64 b).toArray.size (by rw [List.size_toArray, tab_length, tab_length]; omega)
      have kX := kk.layAll b
      have HX : Hid _ := And.intro kX.head kX.but
      clear kX kk
      go_wp2_with (first | (refine wpList_load_mid rfl 37 (.tmp 3) rfl (w.heap.size + 1 + 1) 0 rfl (tab .i64 64 b) _ ?_ hu rfl (hiA _) ?_; exact hr1) | (refine wpList_store_mid rfl 37 (.tmp 2) (.tmp 16) rfl (w.heap.size + 1) 0 (tab .i64 64 b).toArray rfl rfl ?_ (hiB _) (tab_all _ _ _) ?_; exact hth))
      exact bodyPost_ret (results_cells rfl HX.out.1 hu rfl (hiA _) _ rfl) rfl ⟨rfl, HX.out.2⟩

end Go.Proofs.YthaekjdnaaikfaaDoor
