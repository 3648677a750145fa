/- For all numbers u and x and every byte k, the law DctFactors of layer 8 returns true: Factor of any numbers is what the chapter says; rows are of one length, and apart from each other, but for what is rounded. No condition. -/
import Derived.Test.YtlidijlmbelhhaaDoorDcTab
import Derived.Test.YtlidijlmbelhhaaDoorDcFac
import Derived.Test.YtlidijlmbelhhaaDoorDc2
import Derived.Test.YtlidijlmbelhhaaDoorDc9
import Derived.Test.YtlidijlmbelhhaaDoorFrame
import Derived.Test.YtlidijlmbelhhaaDoorRows
import Derived.Test.YtlidijlmbelhhaaDoorDcTab
import Derived.Test.YtlidijlmbelhhaaDoorCards
import Derived.Test.YtlidijlmbelhhaaDoorTie
namespace Go.Proofs.YtlidijlmbelhhaaDoor.dctFactors
open Go.ChangeShapes Go.WideShapes Go.ChangeAt Go.RowKit
set_option linter.unusedVariables false

theorem own : ownKnob Tryd.prog.godebug = none := by kernel_rfl
theorem laidOut : laidOutB Tryd.prog = true := by kernel_rfl
theorem readable : ∀ t ∈ Tryd.f5.params.toList, Tryd.prog.readableRec t = true ∧ t < Tryd.prog.types.size := by
  rw [Tryd.params5]
  simp only [List.mem_cons, List.not_mem_nil, or_false, forall_eq_or_imp, forall_eq]
  refine ⟨⟨by kernel_rfl, of_decide_eq_true (by kernel_rfl)⟩, ⟨by kernel_rfl, of_decide_eq_true (by kernel_rfl)⟩, ⟨by kernel_rfl, of_decide_eq_true (by kernel_rfl)⟩⟩

set_option maxHeartbeats 20000000 in
set_option maxRecDepth 100000 in
theorem walk (w : World) (hT : Tab w) (a0 : Int) (w0 : (Lit.int .i64 a0).wf = true) (a1 : Int) (w1 : (Lit.int .i64 a1).wf = true) (a2 : Int) (w2 : (Lit.int .u8 a2).wf = true) :
    Calls Tryd.prog 5 #[.int .i64 a0, .int .i64 a1, .int .u8 a2] w fun e w' => e = .returned (.bool true) ∧ But Nowhere w w' := by
  have u2 := u8_in w2
  obtain ⟨A, hA, hA8⟩ : ∃ A : Nat, a2 % 8 = (A : Int) ∧ A < 8 := ⟨(a2 % 8).toNat, by omega, by omega⟩
  obtain ⟨B, hB, hB8⟩ : ∃ B : Nat, a2 / 8 % 8 = (B : Int) ∧ B < 8 := ⟨(a2 / 8 % 8).toNat, by omega, by omega⟩
  have HA : Hid _ := hA
  have HB : Hid _ := hB
  clear hA hB
  go_enter Tryd.func5, Tryd.ntmps5
  go_wp2_with fail
  rw [HA.out, HB.out]
  go_loopw [9, 10] (fun s i V => ∃ m : Nat, m ≤ 8 ∧ i = .int .i64 m ∧ s = .int .i64 (sumTo (fun i => fac A i * fac B i) m) ∧ But Nowhere w V) (fun _ i _ => 8 - (intOf i).toNat)
  case atStart => exact ⟨0, Nat.zero_le _, rfl, rfl, But.refl _ _⟩
  case round =>
    obtain ⟨m, hm, rfl, rfl, BW⟩ := hrel
    by_cases hlt : m < 8
    · have i0 : (0 : Int) ≤ (m : Int) := by omega
      have i1 : (m : Int) < 8 := by omega
      have h1 := fac_sums A B hA8 hB8 m hm
      have h2 := fac_bd A hA8 m hlt
      have h3 := fac_bd B hB8 m hlt
      have h4 := mul_bd h2 h3
      have e1 := facI_in A m hA8 hlt
      have e2 := facI_in B m hB8 hlt
      have HE : Hid (sumTo (fun i => fac A i * fac B i) (m + 1) = sumTo (fun i => fac A i * fac B i) m + fac A m * fac B m) := rfl
      obtain ⟨P, hP⟩ : ∃ z, fac A m = z := ⟨_, rfl⟩
      obtain ⟨Q, hQ⟩ : ∃ z, fac B m = z := ⟨_, rfl⟩
      obtain ⟨S0, hS⟩ : ∃ z, sumTo (fun i => fac A i * fac B i) m = z := ⟨_, rfl⟩
      rw [hP] at e1 HE h4
      rw [hQ] at e2 HE h4
      rw [hS] at HE h1 ⊢
      have HE1 : Hid _ := e1
      have HE2 : Hid _ := e2
      have Q1 : Hid (wrap64 (P * Q) = P * Q) := w64 _ (by omega)
      have Q2 : Hid (wrap64 (S0 + P * Q) = S0 + P * Q) := w64 _ (by omega)
      clear e1 e2 hP hQ hS h1 h2 h3 h4
      go_wp2_with fail
      refine (factor_any _ _ _ (hT.but BW)).mono ?_
      rintro e x1 ⟨rfl, rfl⟩
      rw [HE1.out]
      go_wp2_with fail
      refine (factor_any _ _ _ (hT.but BW)).mono ?_
      rintro e x1 ⟨rfl, rfl⟩
      rw [HE2.out]
      go_wp2_with fail
      go_roundw
      case rel => exact ⟨m + 1, by omega, by go_num, by rw [HE.out, Q1.out, Q2.out], BW⟩
      case measure => simp [intOf]; omega
    · obtain rfl : m = 8 := by omega
      have h1 := fac_sums A B hA8 hB8 8 hm
      have h5 := fac_rows A hA8 B hB8
      have e1 := facI_in A B hA8 hB8
      obtain ⟨S0, hS⟩ : ∃ z, sumTo (fun i => fac A i * fac B i) 8 = z := ⟨_, rfl⟩
      rw [hS] at h1 h5 ⊢
      clear hS
      by_cases hab : A = B
      · subst hab
        rw [if_pos rfl] at h5
        have r8 : wrap64 (S0 - 1099511627776) = S0 - 1099511627776 := w64 _ (by omega)
        have HV : Hid (decide (wrap64 (S0 - 1099511627776) < 8388608) = true ∧ decide (-8388608 < wrap64 (S0 - 1099511627776)) = true) := by
          show decide (wrap64 (S0 - 1099511627776) < 8388608) = true ∧ decide (-8388608 < wrap64 (S0 - 1099511627776)) = true
          rw [r8]
          exact ⟨decide_eq_true (by omega), decide_eq_true (by omega)⟩
        clear r8 h5 h1
        go_upto_region 10 with fail
        go_wp2_with fail
        refine (known_any _ (hT.but BW)).mono ?_
        rintro e x9 ⟨rfl, dd⟩
        replace BW := BW.trans dd
        clear dd
        obtain ⟨q1, q2⟩ := HV.out
        go_wp2_with (first | (go_at_call 20; refine (factor_any _ _ _ (hT.but BW)).mono ?_; rintro e x1 ⟨rfl, rfl⟩) | (go_at_call 21; refine (refFactor_any _ _ _).mono ?_; rintro e x2 ⟨rfl, dd⟩; replace BW := BW.trans dd; clear dd))
        go_ret
        exact ⟨rfl, BW⟩
      · rw [if_neg hab, Int.sub_zero] at h5
        have hab2 : ((A : Int) == (B : Int)) = false := by rw [beq_eq_false_iff_ne]; omega
        have hab3 : ¬ (A : Int) = (B : Int) := by omega
        have HV : Hid (decide (S0 < 8388608) = true ∧ decide (-8388608 < S0) = true) := ⟨decide_eq_true (by omega), decide_eq_true (by omega)⟩
        have r9 : ∀ _ : True, wrap64 (S0 - 1099511627776) = S0 - 1099511627776 := fun _ => w64 _ (by omega)
        clear r9 h5 h1
        go_upto_region 10 with fail
        go_wp2_with fail
        refine (known_any _ (hT.but BW)).mono ?_
        rintro e x9 ⟨rfl, dd⟩
        replace BW := BW.trans dd
        clear dd
        obtain ⟨q1, q2⟩ := HV.out
        go_wp2_with (first | (go_at_call 20; refine (factor_any _ _ _ (hT.but BW)).mono ?_; rintro e x1 ⟨rfl, rfl⟩) | (go_at_call 21; refine (refFactor_any _ _ _).mono ?_; rintro e x2 ⟨rfl, dd⟩; replace BW := BW.trans dd; clear dd))
        go_ret
        exact ⟨rfl, BW⟩

set_option maxRecDepth 100000 in
theorem lifted (os : Os) (started : os.Started) (H : Type) (enc : TypeId × Value → H) :
    ReturnsInHanded {} Tryd.checked os 5 .any (fun w args => (Rows.dctFactorsSpec.pre enc Tryd.prog Tryd.f5 Rows.dctFactorsRow.domain false w args ∧ laidMetH Tryd.prog Rows.dctFactorsRow.laid w) ∧ sizedMet enc Tryd.prog Tryd.f5 (OpenSpec.ofChange Rows.dctFactorsSpec) false w args) (Rows.dctFactorsSpec.post enc Tryd.prog Tryd.f5 false true false false) := by
  refine returnsInHanded_of_change_and (C := Tryd.checked) (X := fun w _ => laidMetH Tryd.prog laidL w) (fun _ _ _ hh h => h.of_heap hh) own started (by kernel_rfl) Tryd.func5
    (ChangeSpec.witness_shaped (enc := enc) (C := Tryd.checked) (os := os) (X := fun w _ => laidMetH Tryd.prog laidL w) false (World.laidAll Tryd.prog os laidL) #[.int .i64 0, .int .i64 0, .int .u8 0] 8 (World.laidAll_os _ _ _) (World.shaped_of_ZipB (by kernel_rfl) (by kernel_rfl)) (by kernel_rfl) (by kernel_rfl) (by kernel_rfl) (by rw [MakeChecks.laidMetH_plain _ _ _ (by kernel_rfl)]; exact laidMet_laidAll _ (by kernel_rfl) (by kernel_rfl))) ?_
  intro W base args ds gs before hval0 hW hcnd hsz0 hL0 _
  have hTW := tab_of_laid hL0
  have hval : ∀ (j : Nat) t v, Tryd.f5.params[j]? = some t → args[j]? = some v → Value.okWide Tryd.prog W .any base t v := hval0
  have hsz : (DataW.weightsEach Tryd.prog (Tryd.f5.params.toList ++ Rows.dctFactorsSpec.plain.varTypes Tryd.prog) (ds ++ gs)).all (· ≤ reachBytes) = true := hsz0
  have hW' := hW
  obtain ⟨p, q, hA0, hV, rfl, hfz, hnd⟩ := hW
  have hA : DataW.TrodAll enc Tryd.prog W 0 (fun _ => true) true Tryd.f5.params.toList args.toList ds p := hA0
  rw [Tryd.params5] at hA hval hsz
  obtain ⟨v0, vs0, d0, ds0, p0, q0, hargs, rfl, rfl, h0, r0⟩ := trodAll_cons hA
  obtain ⟨v1, vs1, d1, ds1, p1, q1, rfl, rfl, rfl, h1, r1⟩ := trodAll_cons r0
  obtain ⟨v2, vs2, d2, ds2, p2, q2, rfl, rfl, rfl, h2, r2⟩ := trodAll_cons r1
  obtain ⟨rfl, rfl, rfl⟩ := trodAll_nil r2
  obtain rfl : args = #[v0, v1, v2] := by cases args; simp_all
  obtain ⟨rfl, rfl⟩ := trodVars_none hV
  obtain ⟨a0, rfl, rfl, rfl, w0⟩ := open_int Tryd.underlying3 (hval 0 3 v0 rfl rfl) h0
  obtain ⟨a1, rfl, rfl, rfl, w1⟩ := open_int Tryd.underlying3 (hval 1 3 v1 rfl rfl) h1
  obtain ⟨a2, rfl, rfl, rfl, w2⟩ := open_int Tryd.underlying5 (hval 2 5 v2 rfl rfl) h2
  clear hA0 hval0
  refine (walk W hTW a0 w0 a1 w1 a2 w2).mono fun e W' ⟨he, hg⟩ => ?_
  subst he
  exact ⟨_, rfl, law_post laidOut readable rfl Tryd.underlying4 rfl rfl hW' hg.below⟩

theorem over : Rows.dctFactorsRow.holds Tryd.pinned (OpenSpec.ofChange Rows.dctFactorsSpec) :=
  OpenClaim.holds_of_wide 5 Tryd.f5 rfl rfl rfl rfl rfl rfl rfl ⟨rfl, rfl, rfl, rfl, rfl⟩ rfl rfl rfl rfl rfl (by kernel_rfl) Tryd.func5 (by kernel_rfl)
    (of_decide_eq_true (by kernel_rfl)) (by unfold Func.isWrapper; first | (rw [if_pos (by decide +kernel)]; kernel_rfl) | (rw [if_neg (by decide +kernel)]; exact ⟨rfl, rfl⟩))
    (fun os started H enc _ => lifted os started H enc)

end Go.Proofs.YtlidijlmbelhhaaDoor.dctFactors
namespace Go.Proofs.YtlidijlmbelhhaaDoor
set_option maxRecDepth 100000 in
theorem dctFactors_holds : Rows.DctFactorsCardSaid :=
  Claim7.holds_tied_plain_at .later [] [.data] true (true, "c0c7664018938c434e71cfd2d2174dff01844ca891f7fb176941030ca0ec6212") false dctFactors.over (fun _ h => by cases h) (by kernel_rfl) (fun _ h => by cases h) dctFactors_row_tie rfl ⟨rfl, rfl⟩ (by kernel_rfl) rfl
    (fun f fn hf hfn => by
      obtain rfl : f = 5 := Option.some.inj ((show Tryd.prog.funcNamed "cyanotype/cyanotypelaw08.DctFactors" = some 5 by kernel_rfl).symm.trans hf) |>.symm
      obtain rfl : fn = Tryd.f5 := (Option.some.inj (Tryd.func5.symm.trans hfn)).symm
      exact ⟨by kernel_rfl, fun j t ht => by
        rw [Tryd.params5] at ht
        have hm : t ∈ [3, 3, 5] := by simpa using Array.mem_of_getElem? ht
        have hall : ([3, 3, 5].all fun u => !Tryd.prog.wantsStandIn u) = true := by kernel_rfl
        exact (show Tryd.prog.wantsStandIn t = false by simpa using List.all_eq_true.1 hall t hm)⟩)
    (by kernel_rfl)
#print axioms dctFactors_holds
end Go.Proofs.YtlidijlmbelhhaaDoor
