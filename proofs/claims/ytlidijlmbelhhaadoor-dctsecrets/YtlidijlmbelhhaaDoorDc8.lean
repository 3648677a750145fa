/- The document's Forward and Back. -/
import Derived.Test.YtlidijlmbelhhaaDoorDc2
import Derived.Test.YtlidijlmbelhhaaDoorDc6
namespace Go.Proofs.YtlidijlmbelhhaaDoor
set_option linter.unusedVariables false
open Go.ChangeShapes Go.WideShapes Go.ChangeAt Go.RowKit

/-- What is added at place k for number i. -/
def addK (t : Nat → Nat → Int) (c : Nat → Int) (i k : Nat) : Int := c k * t (i % 8) (k % 8) * t (i / 8) (k / 8)

theorem addK_bd (t : Nat → Nat → Int) (c : Nat → Int) (ht : ∀ u, u < 8 → ∀ x, x < 8 → -514214 ≤ t u x ∧ t u x ≤ 514214) (hc : ∀ j, j < 64 → -32768 ≤ c j ∧ c j ≤ 32768) (i k : Nat) (hi : i < 64) (hk : k < 64) :
    (-(32768 * 514214) ≤ c k * t (i % 8) (k % 8) ∧ c k * t (i % 8) (k % 8) ≤ 32768 * 514214) ∧ (-(32768 * 514214 * 514214) ≤ addK t c i k ∧ addK t c i k ≤ 32768 * 514214 * 514214) := by
  have h1 := mul_bd (hc k hk) (ht (i % 8) (by omega) (k % 8) (by omega))
  exact ⟨h1, mul_bd h1 (ht (i / 8) (by omega) (k / 8) (by omega))⟩

theorem addK_sum (t : Nat → Nat → Int) (c : Nat → Int) (ht : ∀ u, u < 8 → ∀ x, x < 8 → -514214 ≤ t u x ∧ t u x ≤ 514214) (hc : ∀ j, j < 64 → -32768 ≤ c j ∧ c j ≤ 32768) (i k : Nat) (hi : i < 64) (hk : k ≤ 64) :
    -1152921504606846976 ≤ sumTo (addK t c i) k ∧ sumTo (addK t c i) k ≤ 1152921504606846976 := by
  have h := sumTo_le (f := addK t c i) (M := 32768 * 514214 * 514214) k (fun j hj => (addK_bd t c ht hc i j hi (by omega)).2)
  have h3 : (k : Int) * (32768 * 514214 * 514214) ≤ 64 * (32768 * 514214 * 514214) := Int.mul_le_mul_of_nonneg_right (by omega) (by omega)
  omega

theorem turnF_add (lo hi : Int) (t : Nat → Nat → Int) (b : Nat → Int) (i : Nat) (h : i < 64) : rnd (sumTo (addK t (clp lo hi b) i) 64) = turnF lo hi t b i := by
  unfold turnF
  rw [wgt_wgt t _ i h]
  rfl

theorem mod8 (i : Nat) : (i : Int) % 8 = ((i % 8 : Nat) : Int) := by omega
theorem div8 (i : Nat) : (i : Int) / 8 = ((i / 8 : Nat) : Int) := by omega

set_option maxHeartbeats 6400000 in
set_option maxRecDepth 100000 in
theorem refForward_any (b : Nat → Int) (w : World) : Calls Tryd.prog 11 #[.agg (tab .i64 64 b).toArray] w fun e w' =>
    e = .returned (.agg (tab .i64 64 (fwd b)).toArray) ∧ But Nowhere w w' := by
  have hu := Tryd.underlying23
  have hiA : ∀ f, (Tryd.prog.info? 23).map (·.size) = some (tab .i64 64 f).length := fun f => by rw [tab_length]; kernel_rfl
  have hiB : ∀ f, (Tryd.prog.info? 23).map (·.size) = some (tab .i64 64 f).toArray.size := fun f => by rw [List.size_toArray, tab_length]; kernel_rfl
  have hc : ∀ j, j < 64 → -32768 ≤ (clp (-4096) 4096 b) j ∧ (clp (-4096) 4096 b) j ≤ 32768 := fun j _ => by have := clp_bd (lo := (-4096)) (hi := 4096) b j (by omega); omega
  have HB1 : Hid (∀ i k, i < 64 → k < 64 → (-(32768 * 514214) ≤ (clp (-4096) 4096 b) k * fac (i % 8) (k % 8) ∧ (clp (-4096) 4096 b) k * fac (i % 8) (k % 8) ≤ 32768 * 514214) ∧ (-(32768 * 514214 * 514214) ≤ addK fac (clp (-4096) 4096 b) i k ∧ addK fac (clp (-4096) 4096 b) i k ≤ 32768 * 514214 * 514214)) := fun i k hi hk => addK_bd fac (clp (-4096) 4096 b) fac_bd hc i k hi hk
  have HB2 : Hid (∀ i k, i < 64 → k ≤ 64 → -1152921504606846976 ≤ sumTo (addK fac (clp (-4096) 4096 b) i) k ∧ sumTo (addK fac (clp (-4096) 4096 b) i) k ≤ 1152921504606846976) := fun i k hi hk => addK_sum fac (clp (-4096) 4096 b) fac_bd hc i k hi hk
  clear hc
  have k0 := (((Keep.start w).made 23 (tab .i64 64 b)).zero 23).zero 23
  have kk := k0.layAll (fun _ => 0)
  have hth := k0.head.there 0 64 (by rw [tab_length]; omega)
  have hi64 : (Tryd.prog.info? 23).map (·.size) = some 64 := by kernel_rfl
  have hall := tab_all .i64 64 (fun _ => 0)
  rw [← sixtyfour] at kk hall
  simp only [World.size_alloc] at kk hth
  have HZ : Hid _ := And.intro hth (And.intro hi64 hall)
  clear k0 hth hi64 hall
  go_enter Tryd.func11, Tryd.ntmps11
  go_wp2_with (refine wpList_store_mid rfl 23 (.tmp 3) (.tmp 7) rfl (w.heap.size + 1 + 1) 0 (Value.int .i64 0 :: Value.int .i64 0 :: Value.int .i64 0 :: Value.int .i64 0 :: Value.int .i64 0 :: Value.int .i64 0 :: Value.int .i64 0 :: Value.int .i64 0 :: Value.int .i64 0 :: Value.int .i64 0 :: Value.int .i64 0 :: Value.int .i64 0 :: Value.int .i64 0 :: Value.int .i64 0 :: Value.int .i64 0 :: Value.int .i64 0 :: Value.int .i64 0 :: Value.int .i64 0 :: Value.int .i64 0 :: Value.int .i64 0 :: Value.int .i64 0 :: Value.int .i64 0 :: Value.int .i64 0 :: Value.int .i64 0 :: Value.int .i64 0 :: Value.int .i64 0 :: Value.int .i64 0 :: Value.int .i64 0 :: Value.int .i64 0 :: Value.int .i64 0 :: Value.int .i64 0 :: Value.int .i64 0 :: Value.int .i64 0 :: Value.int .i64 0 :: Value.int .i64 0 :: Value.int .i64 0 :: Value.int .i64 0 :: Value.int .i64 0 :: Value.int .i64 0 :: Value.int .i64 0 :: Value.int .i64 0 :: Value.int .i64 0 :: Value.int .i64 0 :: Value.int .i64 0 :: Value.int .i64 0 :: Value.int .i64 0 :: Value.int .i64 0 :: Value.int .i64 0 :: Value.int .i64 0 :: Value.int .i64 0 :: Value.int .i64 0 :: Value.int .i64 0 :: Value.int .i64 0 :: Value.int .i64 0 :: Value.int .i64 0 :: Value.int .i64 0 :: Value.int .i64 0 :: Value.int .i64 0 :: Value.int .i64 0 :: Value.int .i64 0 :: Value.int .i64 0 :: Value.int .i64 0 :: Value.int .i64 0 :: Value.int .i64 0 :: []).toArray rfl rfl HZ.out.1 HZ.out.2.1 HZ.out.2.2 ?_)
  clear HZ
  revert kk
  generalize ((((w.alloc (.cells (tab .i64 64 b).toArray 23)).alloc (.cells (Value.int .i64 0 :: Value.int .i64 0 :: Value.int .i64 0 :: Value.int .i64 0 :: Value.int .i64 0 :: Value.int .i64 0 :: Value.int .i64 0 :: Value.int .i64 0 :: Value.int .i64 0 :: Value.int .i64 0 :: Value.int .i64 0 :: Value.int .i64 0 :: Value.int .i64 0 :: Value.int .i64 0 :: Value.int .i64 0 :: Value.int .i64 0 :: Value.int .i64 0 :: Value.int .i64 0 :: Value.int .i64 0 :: Value.int .i64 0 :: Value.int .i64 0 :: Value.int .i64 0 :: Value.int .i64 0 :: Value.int .i64 0 :: Value.int .i64 0 :: Value.int .i64 0 :: Value.int .i64 0 :: Value.int .i64 0 :: Value.int .i64 0 :: Value.int .i64 0 :: Value.int .i64 0 :: Value.int .i64 0 :: Value.int .i64 0 :: Value.int .i64 0 :: Value.int .i64 0 :: Value.int .i64 0 :: Value.int .i64 0 :: Value.int .i64 0 :: Value.int .i64 0 :: Value.int .i64 0 :: Value.int .i64 0 :: Value.int .i64 0 :: Value.int .i64 0 :: Value.int .i64 0 :: Value.int .i64 0 :: Value.int .i64 0 :: Value.int .i64 0 :: Value.int .i64 0 :: Value.int .i64 0 :: Value.int .i64 0 :: Value.int .i64 0 :: Value.int .i64 0 :: Value.int .i64 0 :: Value.int .i64 0 :: Value.int .i64 0 :: Value.int .i64 0 :: Value.int .i64 0 :: Value.int .i64 0 :: Value.int .i64 0 :: Value.int .i64 0 :: Value.int .i64 0 :: Value.int .i64 0 :: Value.int .i64 0 :: Value.int .i64 0 :: []).toArray 23)).alloc (.cells (Value.int .i64 0 :: Value.int .i64 0 :: Value.int .i64 0 :: Value.int .i64 0 :: Value.int .i64 0 :: Value.int .i64 0 :: Value.int .i64 0 :: Value.int .i64 0 :: Value.int .i64 0 :: Value.int .i64 0 :: Value.int .i64 0 :: Value.int .i64 0 :: Value.int .i64 0 :: Value.int .i64 0 :: Value.int .i64 0 :: Value.int .i64 0 :: Value.int .i64 0 :: Value.int .i64 0 :: Value.int .i64 0 :: Value.int .i64 0 :: Value.int .i64 0 :: Value.int .i64 0 :: Value.int .i64 0 :: Value.int .i64 0 :: Value.int .i64 0 :: Value.int .i64 0 :: Value.int .i64 0 :: Value.int .i64 0 :: Value.int .i64 0 :: Value.int .i64 0 :: Value.int .i64 0 :: Value.int .i64 0 :: Value.int .i64 0 :: Value.int .i64 0 :: Value.int .i64 0 :: Value.int .i64 0 :: Value.int .i64 0 :: Value.int .i64 0 :: Value.int .i64 0 :: Value.int .i64 0 :: Value.int .i64 0 :: Value.int .i64 0 :: Value.int .i64 0 :: Value.int .i64 0 :: Value.int .i64 0 :: Value.int .i64 0 :: Value.int .i64 0 :: Value.int .i64 0 :: Value.int .i64 0 :: Value.int .i64 0 :: Value.int .i64 0 :: Value.int .i64 0 :: Value.int .i64 0 :: Value.int .i64 0 :: Value.int .i64 0 :: Value.int .i64 0 :: Value.int .i64 0 :: Value.int .i64 0 :: Value.int .i64 0 :: Value.int .i64 0 :: Value.int .i64 0 :: Value.int .i64 0 :: Value.int .i64 0 :: Value.int .i64 0 :: []).toArray 23)).setCells (w.heap.size + 1 + 1) 0 (Value.int .i64 0 :: Value.int .i64 0 :: Value.int .i64 0 :: Value.int .i64 0 :: Value.int .i64 0 :: Value.int .i64 0 :: Value.int .i64 0 :: Value.int .i64 0 :: Value.int .i64 0 :: Value.int .i64 0 :: Value.int .i64 0 :: Value.int .i64 0 :: Value.int .i64 0 :: Value.int .i64 0 :: Value.int .i64 0 :: Value.int .i64 0 :: Value.int .i64 0 :: Value.int .i64 0 :: Value.int .i64 0 :: Value.int .i64 0 :: Value.int .i64 0 :: Value.int .i64 0 :: Value.int .i64 0 :: Value.int .i64 0 :: Value.int .i64 0 :: Value.int .i64 0 :: Value.int .i64 0 :: Value.int .i64 0 :: Value.int .i64 0 :: Value.int .i64 0 :: Value.int .i64 0 :: Value.int .i64 0 :: Value.int .i64 0 :: Value.int .i64 0 :: Value.int .i64 0 :: Value.int .i64 0 :: Value.int .i64 0 :: Value.int .i64 0 :: Value.int .i64 0 :: Value.int .i64 0 :: Value.int .i64 0 :: Value.int .i64 0 :: Value.int .i64 0 :: Value.int .i64 0 :: Value.int .i64 0 :: Value.int .i64 0 :: Value.int .i64 0 :: Value.int .i64 0 :: Value.int .i64 0 :: Value.int .i64 0 :: Value.int .i64 0 :: Value.int .i64 0 :: Value.int .i64 0 :: Value.int .i64 0 :: Value.int .i64 0 :: Value.int .i64 0 :: Value.int .i64 0 :: Value.int .i64 0 :: Value.int .i64 0 :: Value.int .i64 0 :: Value.int .i64 0 :: Value.int .i64 0 :: Value.int .i64 0 :: Value.int .i64 0 :: [])) = W3
  intro kk
  rw [sixtyfour] at kk
  try simp only [Act.put]
  go_loopw [4] (fun i V => ∃ n : Nat, n ≤ 64 ∧ i = .int .i64 n ∧ Keep w V [(w.heap.size + 1 + 1, 23, tab .i64 64 (fun j => if j < n then fwd b j else 0)), (w.heap.size + 1, 23, tab .i64 64 (fun _ => 0)), (w.heap.size, 23, tab .i64 64 b)]) (fun i _ => 64 - (intOf i).toNat)
  case atStart => exact ⟨0, Nat.zero_le _, rfl, by rw [tab_congr .i64 64 (fun j => if j < 0 then fwd b j else 0) (fun _ => 0) (fun j _ => if_neg (by omega))]; exact kk⟩
  case round =>
    clear kk
    obtain ⟨i, hi, rfl, kk⟩ := hrel
    by_cases hlt : i < 64
    · have i0 : (0 : Int) ≤ (i : Int) := by omega
      have i1 : (i : Int) < 64 := by omega
      go_wp2_with fail
      go_loopw [5, 6] (fun s m V => ∃ k : Nat, k ≤ 64 ∧ m = .int .i64 k ∧ s = .int .i64 (sumTo (addK fac (clp (-4096) 4096 b) i) k) ∧ Keep w V [(w.heap.size + 1 + 1, 23, tab .i64 64 (fun j => if j < i then fwd b j else 0)), (w.heap.size + 1, 23, tab .i64 64 (fun _ => 0)), (w.heap.size, 23, tab .i64 64 b)]) (fun _ m _ => 64 - (intOf m).toNat)
      case atStart => exact ⟨0, Nat.zero_le _, rfl, rfl, kk⟩
      case round =>
        clear kk
        obtain ⟨k, hk, rfl, rfl, kk⟩ := hrel
        by_cases hlt2 : k < 64
        · have j0 : (0 : Int) ≤ (k : Int) := by omega
          have j1 : (k : Int) < 64 := by omega
          have c0 := (kk.get (b := w.heap.size) (t := 23) (c := tab .i64 64 b) (by simp)).cell k hlt2
          have r1 : (i : Int).tmod 8 = (i : Int) % 8 := Int.tmod_eq_emod_of_nonneg (by omega)
          have r2 : (k : Int).tmod 8 = (k : Int) % 8 := Int.tmod_eq_emod_of_nonneg (by omega)
          have r3 : (i : Int).tdiv 8 = (i : Int) / 8 := Int.tdiv_eq_ediv_of_nonneg (by omega)
          have r4 : (k : Int).tdiv 8 = (k : Int) / 8 := Int.tdiv_eq_ediv_of_nonneg (by omega)
          have r5 : IntKind.i64.wrap ((i : Int) / 8) = (i : Int) / 8 := by rw [wrap_i64_eq]; exact w64 _ (by omega)
          have r6 : IntKind.i64.wrap ((k : Int) / 8) = (k : Int) / 8 := by rw [wrap_i64_eq]; exact w64 _ (by omega)
          obtain ⟨C, hC⟩ : ∃ c, (clp (-4096) 4096 b) k = c := ⟨_, rfl⟩
          obtain ⟨T1, h1⟩ : ∃ c, fac (i % 8) (k % 8) = c := ⟨_, rfl⟩
          obtain ⟨T2, h2⟩ : ∃ c, fac (i / 8) (k / 8) = c := ⟨_, rfl⟩
          obtain ⟨b1, b2⟩ := HB1.out i k hlt hlt2
          have b3 := HB2.out i k hlt hk
          have b4 := HB2.out i (k + 1) hlt (by omega)
          have e4 : sumTo (addK fac (clp (-4096) 4096 b) i) (k + 1) = sumTo (addK fac (clp (-4096) 4096 b) i) k + addK fac (clp (-4096) 4096 b) i k := rfl
          have e5 : addK fac (clp (-4096) 4096 b) i k = C * T1 * T2 := by unfold addK; rw [hC, h1, h2]
          obtain ⟨S0, hS⟩ : ∃ c, sumTo (addK fac (clp (-4096) 4096 b) i) k = c := ⟨_, rfl⟩
          rw [hC, h1] at b1
          rw [e5] at b2 e4
          rw [hS] at b3 e4
          rw [e4] at b4
          rw [hS]
          have Q1 : Hid (wrap64 (C * T1) = C * T1) := w64 _ (by omega)
          have Q2 : Hid (wrap64 (C * T1 * T2) = C * T1 * T2) := w64 _ (by omega)
          have Q3 : Hid (wrap64 (S0 + C * T1 * T2) = S0 + C * T1 * T2) := w64 _ (by omega)
          have HE : Hid (sumTo (addK fac (clp (-4096) 4096 b) i) (k + 1) = S0 + C * T1 * T2) := e4
          have HC : Hid (clp (-4096) 4096 b k = C) := hC
          have HF1 : Hid (facI ((i : Int) % 8) ((k : Int) % 8) = T1) := by show facI ((i : Int) % 8) ((k : Int) % 8) = T1; rw [mod8 i, mod8 k, facI_in (i % 8) (k % 8) (by omega) (by omega), ← h1]
          have HF2 : Hid (facI ((i : Int) / 8) ((k : Int) / 8) = T2) := by show facI ((i : Int) / 8) ((k : Int) / 8) = T2; rw [div8 i, div8 k, facI_in (i / 8) (k / 8) (by omega) (by omega), ← h2]
          clear b1 b2 b3 b4 e4 e5 hC h1 h2 hS
          go_wp2_with (go_at_call 22; refine (refClip_any _ _ _ _).mono ?_; rintro e x1 ⟨rfl, rfl⟩; rw [clp_of, HC.out])
          refine (refFactor_any _ _ _).mono ?_
          rintro e x2 ⟨rfl, dd⟩
          rw [HF1.out]
          replace kk := kk.step dd
          clear dd c0
          have q1 := Q1.out
          go_wp2_with fail
          clear q1
          refine (refFactor_any _ _ _).mono ?_
          rintro e x3 ⟨rfl, dd⟩
          rw [HF2.out]
          replace kk := kk.step dd
          clear dd
          have q2 := Q2.out
          have q3 := Q3.out
          have HX : Hid _ := kk
          clear kk
          go_wp2_with fail
          clear q2 q3
          go_roundw
          case rel => exact ⟨k + 1, by omega, by go_num, by first | rw [HE.out, Q1.out, Q2.out, Q3.out] | rw [HE.out], HX.out⟩
          case measure => simp [intOf]; omega
        · obtain rfl : k = 64 := by omega
          have b3 := HB2.out i 64 hlt (by omega)
          have HE : Hid (rnd (sumTo (addK fac (clp (-4096) 4096 b) i) 64) = fwd b i) := turnF_add (-4096) 4096 fac b i hlt
          obtain ⟨S0, hS⟩ : ∃ c, sumTo (addK fac (clp (-4096) 4096 b) i) 64 = c := ⟨_, rfl⟩
          rw [hS] at b3 HE ⊢
          have c0 := kk.head.cell i hlt
          have f0 := kk.head.frozen i
          simp only [Nat.lt_irrefl, if_false] at c0
          have kX := kk.set i (.int .i64 (fwd b i))
          rw [tab_grow .i64 64 (fwd b) (fun _ => 0) i] at kX
          have HX : Hid _ := kX
          have HBk : Hid _ := b3
          clear kX kk b3 hS
          go_wp2_with (go_at_call 23; refine (refRound40_in _ _ HBk.out.1 HBk.out.2).mono ?_; rintro e x1 ⟨rfl, rfl⟩; rw [HE.out])
          go_roundw
          case rel => exact ⟨i + 1, by omega, by go_num, HX.out⟩
          case measure => simp [intOf]; omega
    · obtain rfl : i = 64 := by omega
      rw [tab_full] at kk
      have hr1 := kk.head.all
      replace kk := kk.swap
      have hth := kk.head.there 0 (tab .i64 64 (fwd b)).toArray.size (by rw [List.size_toArray, tab_length, tab_length]; omega)
      have kX := kk.layAll (fwd b)
      have HX : Hid _ := And.intro kX.head kX.but
      clear kX kk
      go_wp2_with (first | (refine wpList_load_mid rfl 23 (.tmp 3) rfl (w.heap.size + 1 + 1) 0 rfl (tab .i64 64 (fwd b)) _ ?_ hu rfl (hiA _) ?_; exact hr1) | (refine wpList_store_mid rfl 23 (.tmp 2) (.tmp 38) rfl (w.heap.size + 1) 0 (tab .i64 64 (fwd b)).toArray rfl rfl ?_ (hiB _) (tab_all _ _ _) ?_; exact hth))
      exact bodyPost_ret (results_cells rfl HX.out.1 hu rfl (hiA _) _ rfl) rfl ⟨rfl, HX.out.2⟩

set_option maxHeartbeats 6400000 in
set_option maxRecDepth 100000 in
theorem refBack_any (b : Nat → Int) (w : World) : Calls Tryd.prog 15 #[.agg (tab .i64 64 b).toArray] w fun e w' =>
    e = .returned (.agg (tab .i64 64 (bck b)).toArray) ∧ But Nowhere w w' := by
  have hu := Tryd.underlying23
  have hiA : ∀ f, (Tryd.prog.info? 23).map (·.size) = some (tab .i64 64 f).length := fun f => by rw [tab_length]; kernel_rfl
  have hiB : ∀ f, (Tryd.prog.info? 23).map (·.size) = some (tab .i64 64 f).toArray.size := fun f => by rw [List.size_toArray, tab_length]; kernel_rfl
  have hc : ∀ j, j < 64 → -32768 ≤ (clp (-32768) 32767 b) j ∧ (clp (-32768) 32767 b) j ≤ 32768 := fun j _ => by have := clp_bd (lo := (-32768)) (hi := 32767) b j (by omega); omega
  have HB1 : Hid (∀ i k, i < 64 → k < 64 → (-(32768 * 514214) ≤ (clp (-32768) 32767 b) k * facT (i % 8) (k % 8) ∧ (clp (-32768) 32767 b) k * facT (i % 8) (k % 8) ≤ 32768 * 514214) ∧ (-(32768 * 514214 * 514214) ≤ addK facT (clp (-32768) 32767 b) i k ∧ addK facT (clp (-32768) 32767 b) i k ≤ 32768 * 514214 * 514214)) := fun i k hi hk => addK_bd facT (clp (-32768) 32767 b) facT_bd hc i k hi hk
  have HB2 : Hid (∀ i k, i < 64 → k ≤ 64 → -1152921504606846976 ≤ sumTo (addK facT (clp (-32768) 32767 b) i) k ∧ sumTo (addK facT (clp (-32768) 32767 b) i) k ≤ 1152921504606846976) := fun i k hi hk => addK_sum facT (clp (-32768) 32767 b) facT_bd hc i k hi hk
  clear hc
  have k0 := (((Keep.start w).made 23 (tab .i64 64 b)).zero 23).zero 23
  have kk := k0.layAll (fun _ => 0)
  have hth := k0.head.there 0 64 (by rw [tab_length]; omega)
  have hi64 : (Tryd.prog.info? 23).map (·.size) = some 64 := by kernel_rfl
  have hall := tab_all .i64 64 (fun _ => 0)
  rw [← sixtyfour] at kk hall
  simp only [World.size_alloc] at kk hth
  have HZ : Hid _ := And.intro hth (And.intro hi64 hall)
  clear k0 hth hi64 hall
  go_enter Tryd.func15, Tryd.ntmps15
  go_wp2_with (refine wpList_store_mid rfl 23 (.tmp 3) (.tmp 7) rfl (w.heap.size + 1 + 1) 0 (Value.int .i64 0 :: Value.int .i64 0 :: Value.int .i64 0 :: Value.int .i64 0 :: Value.int .i64 0 :: Value.int .i64 0 :: Value.int .i64 0 :: Value.int .i64 0 :: Value.int .i64 0 :: Value.int .i64 0 :: Value.int .i64 0 :: Value.int .i64 0 :: Value.int .i64 0 :: Value.int .i64 0 :: Value.int .i64 0 :: Value.int .i64 0 :: Value.int .i64 0 :: Value.int .i64 0 :: Value.int .i64 0 :: Value.int .i64 0 :: Value.int .i64 0 :: Value.int .i64 0 :: Value.int .i64 0 :: Value.int .i64 0 :: Value.int .i64 0 :: Value.int .i64 0 :: Value.int .i64 0 :: Value.int .i64 0 :: Value.int .i64 0 :: Value.int .i64 0 :: Value.int .i64 0 :: Value.int .i64 0 :: Value.int .i64 0 :: Value.int .i64 0 :: Value.int .i64 0 :: Value.int .i64 0 :: Value.int .i64 0 :: Value.int .i64 0 :: Value.int .i64 0 :: Value.int .i64 0 :: Value.int .i64 0 :: Value.int .i64 0 :: Value.int .i64 0 :: Value.int .i64 0 :: Value.int .i64 0 :: Value.int .i64 0 :: Value.int .i64 0 :: Value.int .i64 0 :: Value.int .i64 0 :: Value.int .i64 0 :: Value.int .i64 0 :: Value.int .i64 0 :: Value.int .i64 0 :: Value.int .i64 0 :: Value.int .i64 0 :: Value.int .i64 0 :: Value.int .i64 0 :: Value.int .i64 0 :: Value.int .i64 0 :: Value.int .i64 0 :: Value.int .i64 0 :: Value.int .i64 0 :: Value.int .i64 0 :: Value.int .i64 0 :: []).toArray rfl rfl HZ.out.1 HZ.out.2.1 HZ.out.2.2 ?_)
  clear HZ
  revert kk
  generalize ((((w.alloc (.cells (tab .i64 64 b).toArray 23)).alloc (.cells (Value.int .i64 0 :: Value.int .i64 0 :: Value.int .i64 0 :: Value.int .i64 0 :: Value.int .i64 0 :: Value.int .i64 0 :: Value.int .i64 0 :: Value.int .i64 0 :: Value.int .i64 0 :: Value.int .i64 0 :: Value.int .i64 0 :: Value.int .i64 0 :: Value.int .i64 0 :: Value.int .i64 0 :: Value.int .i64 0 :: Value.int .i64 0 :: Value.int .i64 0 :: Value.int .i64 0 :: Value.int .i64 0 :: Value.int .i64 0 :: Value.int .i64 0 :: Value.int .i64 0 :: Value.int .i64 0 :: Value.int .i64 0 :: Value.int .i64 0 :: Value.int .i64 0 :: Value.int .i64 0 :: Value.int .i64 0 :: Value.int .i64 0 :: Value.int .i64 0 :: Value.int .i64 0 :: Value.int .i64 0 :: Value.int .i64 0 :: Value.int .i64 0 :: Value.int .i64 0 :: Value.int .i64 0 :: Value.int .i64 0 :: Value.int .i64 0 :: Value.int .i64 0 :: Value.int .i64 0 :: Value.int .i64 0 :: Value.int .i64 0 :: Value.int .i64 0 :: Value.int .i64 0 :: Value.int .i64 0 :: Value.int .i64 0 :: Value.int .i64 0 :: Value.int .i64 0 :: Value.int .i64 0 :: Value.int .i64 0 :: Value.int .i64 0 :: Value.int .i64 0 :: Value.int .i64 0 :: Value.int .i64 0 :: Value.int .i64 0 :: Value.int .i64 0 :: Value.int .i64 0 :: Value.int .i64 0 :: Value.int .i64 0 :: Value.int .i64 0 :: Value.int .i64 0 :: Value.int .i64 0 :: Value.int .i64 0 :: Value.int .i64 0 :: []).toArray 23)).alloc (.cells (Value.int .i64 0 :: Value.int .i64 0 :: Value.int .i64 0 :: Value.int .i64 0 :: Value.int .i64 0 :: Value.int .i64 0 :: Value.int .i64 0 :: Value.int .i64 0 :: Value.int .i64 0 :: Value.int .i64 0 :: Value.int .i64 0 :: Value.int .i64 0 :: Value.int .i64 0 :: Value.int .i64 0 :: Value.int .i64 0 :: Value.int .i64 0 :: Value.int .i64 0 :: Value.int .i64 0 :: Value.int .i64 0 :: Value.int .i64 0 :: Value.int .i64 0 :: Value.int .i64 0 :: Value.int .i64 0 :: Value.int .i64 0 :: Value.int .i64 0 :: Value.int .i64 0 :: Value.int .i64 0 :: Value.int .i64 0 :: Value.int .i64 0 :: Value.int .i64 0 :: Value.int .i64 0 :: Value.int .i64 0 :: Value.int .i64 0 :: Value.int .i64 0 :: Value.int .i64 0 :: Value.int .i64 0 :: Value.int .i64 0 :: Value.int .i64 0 :: Value.int .i64 0 :: Value.int .i64 0 :: Value.int .i64 0 :: Value.int .i64 0 :: Value.int .i64 0 :: Value.int .i64 0 :: Value.int .i64 0 :: Value.int .i64 0 :: Value.int .i64 0 :: Value.int .i64 0 :: Value.int .i64 0 :: Value.int .i64 0 :: Value.int .i64 0 :: Value.int .i64 0 :: Value.int .i64 0 :: Value.int .i64 0 :: Value.int .i64 0 :: Value.int .i64 0 :: Value.int .i64 0 :: Value.int .i64 0 :: Value.int .i64 0 :: Value.int .i64 0 :: Value.int .i64 0 :: Value.int .i64 0 :: Value.int .i64 0 :: Value.int .i64 0 :: []).toArray 23)).setCells (w.heap.size + 1 + 1) 0 (Value.int .i64 0 :: Value.int .i64 0 :: Value.int .i64 0 :: Value.int .i64 0 :: Value.int .i64 0 :: Value.int .i64 0 :: Value.int .i64 0 :: Value.int .i64 0 :: Value.int .i64 0 :: Value.int .i64 0 :: Value.int .i64 0 :: Value.int .i64 0 :: Value.int .i64 0 :: Value.int .i64 0 :: Value.int .i64 0 :: Value.int .i64 0 :: Value.int .i64 0 :: Value.int .i64 0 :: Value.int .i64 0 :: Value.int .i64 0 :: Value.int .i64 0 :: Value.int .i64 0 :: Value.int .i64 0 :: Value.int .i64 0 :: Value.int .i64 0 :: Value.int .i64 0 :: Value.int .i64 0 :: Value.int .i64 0 :: Value.int .i64 0 :: Value.int .i64 0 :: Value.int .i64 0 :: Value.int .i64 0 :: Value.int .i64 0 :: Value.int .i64 0 :: Value.int .i64 0 :: Value.int .i64 0 :: Value.int .i64 0 :: Value.int .i64 0 :: Value.int .i64 0 :: Value.int .i64 0 :: Value.int .i64 0 :: Value.int .i64 0 :: Value.int .i64 0 :: Value.int .i64 0 :: Value.int .i64 0 :: Value.int .i64 0 :: Value.int .i64 0 :: Value.int .i64 0 :: Value.int .i64 0 :: Value.int .i64 0 :: Value.int .i64 0 :: Value.int .i64 0 :: Value.int .i64 0 :: Value.int .i64 0 :: Value.int .i64 0 :: Value.int .i64 0 :: Value.int .i64 0 :: Value.int .i64 0 :: Value.int .i64 0 :: Value.int .i64 0 :: Value.int .i64 0 :: Value.int .i64 0 :: Value.int .i64 0 :: Value.int .i64 0 :: [])) = W3
  intro kk
  rw [sixtyfour] at kk
  try simp only [Act.put]
  go_loopw [4] (fun i V => ∃ n : Nat, n ≤ 64 ∧ i = .int .i64 n ∧ Keep w V [(w.heap.size + 1 + 1, 23, tab .i64 64 (fun j => if j < n then bck b j else 0)), (w.heap.size + 1, 23, tab .i64 64 (fun _ => 0)), (w.heap.size, 23, tab .i64 64 b)]) (fun i _ => 64 - (intOf i).toNat)
  case atStart => exact ⟨0, Nat.zero_le _, rfl, by rw [tab_congr .i64 64 (fun j => if j < 0 then bck b j else 0) (fun _ => 0) (fun j _ => if_neg (by omega))]; exact kk⟩
  case round =>
    clear kk
    obtain ⟨i, hi, rfl, kk⟩ := hrel
    by_cases hlt : i < 64
    · have i0 : (0 : Int) ≤ (i : Int) := by omega
      have i1 : (i : Int) < 64 := by omega
      go_wp2_with fail
      go_loopw [5, 6] (fun s m V => ∃ k : Nat, k ≤ 64 ∧ m = .int .i64 k ∧ s = .int .i64 (sumTo (addK facT (clp (-32768) 32767 b) i) k) ∧ Keep w V [(w.heap.size + 1 + 1, 23, tab .i64 64 (fun j => if j < i then bck b j else 0)), (w.heap.size + 1, 23, tab .i64 64 (fun _ => 0)), (w.heap.size, 23, tab .i64 64 b)]) (fun _ m _ => 64 - (intOf m).toNat)
      case atStart => exact ⟨0, Nat.zero_le _, rfl, rfl, kk⟩
      case round =>
        clear kk
        obtain ⟨k, hk, rfl, rfl, kk⟩ := hrel
        by_cases hlt2 : k < 64
        · have j0 : (0 : Int) ≤ (k : Int) := by omega
          have j1 : (k : Int) < 64 := by omega
          have c0 := (kk.get (b := w.heap.size) (t := 23) (c := tab .i64 64 b) (by simp)).cell k hlt2
          have r1 : (i : Int).tmod 8 = (i : Int) % 8 := Int.tmod_eq_emod_of_nonneg (by omega)
          have r2 : (k : Int).tmod 8 = (k : Int) % 8 := Int.tmod_eq_emod_of_nonneg (by omega)
          have r3 : (i : Int).tdiv 8 = (i : Int) / 8 := Int.tdiv_eq_ediv_of_nonneg (by omega)
          have r4 : (k : Int).tdiv 8 = (k : Int) / 8 := Int.tdiv_eq_ediv_of_nonneg (by omega)
          have r5 : IntKind.i64.wrap ((i : Int) / 8) = (i : Int) / 8 := by rw [wrap_i64_eq]; exact w64 _ (by omega)
          have r6 : IntKind.i64.wrap ((k : Int) / 8) = (k : Int) / 8 := by rw [wrap_i64_eq]; exact w64 _ (by omega)
          obtain ⟨C, hC⟩ : ∃ c, (clp (-32768) 32767 b) k = c := ⟨_, rfl⟩
          obtain ⟨T1, h1⟩ : ∃ c, facT (i % 8) (k % 8) = c := ⟨_, rfl⟩
          obtain ⟨T2, h2⟩ : ∃ c, facT (i / 8) (k / 8) = c := ⟨_, rfl⟩
          obtain ⟨b1, b2⟩ := HB1.out i k hlt hlt2
          have b3 := HB2.out i k hlt hk
          have b4 := HB2.out i (k + 1) hlt (by omega)
          have e4 : sumTo (addK facT (clp (-32768) 32767 b) i) (k + 1) = sumTo (addK facT (clp (-32768) 32767 b) i) k + addK facT (clp (-32768) 32767 b) i k := rfl
          have e5 : addK facT (clp (-32768) 32767 b) i k = C * T1 * T2 := by unfold addK; rw [hC, h1, h2]
          obtain ⟨S0, hS⟩ : ∃ c, sumTo (addK facT (clp (-32768) 32767 b) i) k = c := ⟨_, rfl⟩
          rw [hC, h1] at b1
          rw [e5] at b2 e4
          rw [hS] at b3 e4
          rw [e4] at b4
          rw [hS]
          have Q1 : Hid (wrap64 (C * T1) = C * T1) := w64 _ (by omega)
          have Q2 : Hid (wrap64 (C * T1 * T2) = C * T1 * T2) := w64 _ (by omega)
          have Q3 : Hid (wrap64 (S0 + C * T1 * T2) = S0 + C * T1 * T2) := w64 _ (by omega)
          have HE : Hid (sumTo (addK facT (clp (-32768) 32767 b) i) (k + 1) = S0 + C * T1 * T2) := e4
          have HC : Hid (clp (-32768) 32767 b k = C) := hC
          have HF1 : Hid (facI ((k : Int) % 8) ((i : Int) % 8) = T1) := by show facI ((k : Int) % 8) ((i : Int) % 8) = T1; rw [mod8 i, mod8 k, facI_in (k % 8) (i % 8) (by omega) (by omega), ← h1]; rfl
          have HF2 : Hid (facI ((k : Int) / 8) ((i : Int) / 8) = T2) := by show facI ((k : Int) / 8) ((i : Int) / 8) = T2; rw [div8 i, div8 k, facI_in (k / 8) (i / 8) (by omega) (by omega), ← h2]; rfl
          clear b1 b2 b3 b4 e4 e5 hC h1 h2 hS
          go_wp2_with (go_at_call 22; refine (refClip_any _ _ _ _).mono ?_; rintro e x1 ⟨rfl, rfl⟩; rw [clp_of, HC.out])
          refine (refFactor_any _ _ _).mono ?_
          rintro e x2 ⟨rfl, dd⟩
          rw [HF1.out]
          replace kk := kk.step dd
          clear dd c0
          have q1 := Q1.out
          go_wp2_with fail
          clear q1
          refine (refFactor_any _ _ _).mono ?_
          rintro e x3 ⟨rfl, dd⟩
          rw [HF2.out]
          replace kk := kk.step dd
          clear dd
          have q2 := Q2.out
          have q3 := Q3.out
          have HX : Hid _ := kk
          clear kk
          go_wp2_with fail
          clear q2 q3
          go_roundw
          case rel => exact ⟨k + 1, by omega, by go_num, by first | rw [HE.out, Q1.out, Q2.out, Q3.out] | rw [HE.out], HX.out⟩
          case measure => simp [intOf]; omega
        · obtain rfl : k = 64 := by omega
          have b3 := HB2.out i 64 hlt (by omega)
          have HE : Hid (rnd (sumTo (addK facT (clp (-32768) 32767 b) i) 64) = bck b i) := turnF_add (-32768) 32767 facT b i hlt
          obtain ⟨S0, hS⟩ : ∃ c, sumTo (addK facT (clp (-32768) 32767 b) i) 64 = c := ⟨_, rfl⟩
          rw [hS] at b3 HE ⊢
          have c0 := kk.head.cell i hlt
          have f0 := kk.head.frozen i
          simp only [Nat.lt_irrefl, if_false] at c0
          have kX := kk.set i (.int .i64 (bck b i))
          rw [tab_grow .i64 64 (bck b) (fun _ => 0) i] at kX
          have HX : Hid _ := kX
          have HBk : Hid _ := b3
          clear kX kk b3 hS
          go_wp2_with (go_at_call 23; refine (refRound40_in _ _ HBk.out.1 HBk.out.2).mono ?_; rintro e x1 ⟨rfl, rfl⟩; rw [HE.out])
          go_roundw
          case rel => exact ⟨i + 1, by omega, by go_num, HX.out⟩
          case measure => simp [intOf]; omega
    · obtain rfl : i = 64 := by omega
      rw [tab_full] at kk
      have hr1 := kk.head.all
      replace kk := kk.swap
      have hth := kk.head.there 0 (tab .i64 64 (bck b)).toArray.size (by rw [List.size_toArray, tab_length, tab_length]; omega)
      have kX := kk.layAll (bck b)
      have HX : Hid _ := And.intro kX.head kX.but
      clear kX kk
      go_wp2_with (first | (refine wpList_load_mid rfl 23 (.tmp 3) rfl (w.heap.size + 1 + 1) 0 rfl (tab .i64 64 (bck b)) _ ?_ hu rfl (hiA _) ?_; exact hr1) | (refine wpList_store_mid rfl 23 (.tmp 2) (.tmp 38) rfl (w.heap.size + 1) 0 (tab .i64 64 (bck b)).toArray rfl rfl ?_ (hiB _) (tab_all _ _ _) ?_; exact hth))
      exact bodyPost_ret (results_cells rfl HX.out.1 hu rfl (hiA _) _ rfl) rfl ⟨rfl, HX.out.2⟩

end Go.Proofs.YtlidijlmbelhhaaDoor
