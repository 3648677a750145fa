/- For every n and d the law NumCeils of layer 1 returns true: as many as are needed, and one less is too few. No condition. -/
import Derived.Test.YtbabbbplpoeacaaKnown
import Derived.Test.YtbabbbplpoeacaaRows
import Derived.WalkKit
import Derived.ProofKit
import Derived.OpenShut
namespace Go.Proofs.Ytbabbbplpoeacaa.numCeils
open Go.ChangeShapes Go.WideShapes Go.ChangeAt Go.RowKit
set_option linter.unusedVariables false

theorem own : ownKnob Try.prog.godebug = none := by kernel_rfl

theorem walk (a0 : Int) (a1 : Int) (w0 : (Lit.int .u32 a0).wf = true) (w1 : (Lit.int .u16 a1).wf = true) (w : World) :
    Calls Try.prog 7 #[.int .u32 a0, .int .u16 a1] w fun e w' => e = .returned (.bool true) ∧ Grown w w' := by
  have b0 := bounds_u32 w0
  have b1 := bounds_u16 w1
  obtain ⟨c1, c2, c3⟩ := ceil_up a0 (a1 + 1) (by omega) (by omega) (by omega) (by omega)
  have c4 : (ceilF a0 (a1 + 1) - 1) * (a1 + 1) = ceilF a0 (a1 + 1) * (a1 + 1) - (a1 + 1) := by rw [Int.sub_mul, Int.one_mul]
  have c5 : (ceilF a0 (a1 + 1) - 1) * (a1 + 1) < a0 := by omega
  have c6 : ceilF a0 (a1 + 1) * 1 ≤ ceilF a0 (a1 + 1) * (a1 + 1) := Int.mul_le_mul_of_nonneg_left (by omega) c3
  have c6' : ceilF a0 (a1 + 1) ≤ ceilF a0 (a1 + 1) * (a1 + 1) := by omega
  have e1 : wrap64 (ceilF a0 (a1 + 1) * (a1 + 1)) = ceilF a0 (a1 + 1) * (a1 + 1) := w64 _ (by omega) (by omega)
  have e2 : wrap64 ((ceilF a0 (a1 + 1) - 1) * (a1 + 1)) = (ceilF a0 (a1 + 1) - 1) * (a1 + 1) := w64 _ (by omega) (by omega)
  clear c4 c6
  by_cases hz : a0 = 0
  · subst hz
    have z : ceilF 0 (a1 + 1) = 0 := ceil_zero _
    clear c1 c2 c3 c5 c6' e1 e2
    go_enter Try.func7, Try.ntmps7
    go_wp2_with (first | (go_at_call 11; refine (known_any _).mono ?_; rintro e w' ⟨rfl, rfl⟩) | (go_at_call 18; refine (size_any _ _ (by omega) (by omega)).mono ?_; rintro e w' ⟨rfl, rfl⟩) | (go_at_call 20; refine (low_any _ _ (by omega) (by omega)).mono ?_; rintro e w' ⟨rfl, rfl⟩) | (go_at_call 22; refine (back_any _ _ _).mono ?_; rintro e w' ⟨rfl, rfl⟩) | (go_at_call 16; refine (round_any _ _ _ (by omega) (by omega)).mono ?_; rintro e w' ⟨rfl, rfl⟩) | (go_at_call 12; refine (clip_any _ _ _ _).mono ?_; rintro e w' ⟨rfl, rfl⟩) | (go_at_call 14; refine (ceil_any _ _ _).mono ?_; rintro e w' ⟨rfl, rfl⟩))
    all_goals go_ret
    all_goals exact ⟨rfl, Grown.refl _⟩
  · have hz' : (a0 == 0) = false := by simp only [beq_eq_false_iff_ne]; exact hz
    have hp := ceil_pos a0 (a1 + 1) (by omega) (by omega) (by omega) (by omega)
    have hc : (ceilF a0 (a1 + 1) == 0) = false := by simp only [beq_eq_false_iff_ne]; omega
    clear hz
    go_enter Try.func7, Try.ntmps7
    go_wp2_with (first | (go_at_call 11; refine (known_any _).mono ?_; rintro e w' ⟨rfl, rfl⟩) | (go_at_call 18; refine (size_any _ _ (by omega) (by omega)).mono ?_; rintro e w' ⟨rfl, rfl⟩) | (go_at_call 20; refine (low_any _ _ (by omega) (by omega)).mono ?_; rintro e w' ⟨rfl, rfl⟩) | (go_at_call 22; refine (back_any _ _ _).mono ?_; rintro e w' ⟨rfl, rfl⟩) | (go_at_call 16; refine (round_any _ _ _ (by omega) (by omega)).mono ?_; rintro e w' ⟨rfl, rfl⟩) | (go_at_call 12; refine (clip_any _ _ _ _).mono ?_; rintro e w' ⟨rfl, rfl⟩) | (go_at_call 14; refine (ceil_any _ _ _).mono ?_; rintro e w' ⟨rfl, rfl⟩))
    all_goals go_ret
    all_goals exact ⟨rfl, Grown.refl _⟩

set_option maxRecDepth 100000 in
theorem lifted (os : Os) (started : os.Started) (H : Type) (enc : TypeId × Value → H) :
    ReturnsInHanded {} Try.checked os 7 .any (Rows.numCeilsSpec.pre6 enc Try.prog Try.f7 Rows.numCeilsRow.domain false) (Rows.numCeilsSpec.post enc Try.prog Try.f7 false true false false) := by
  refine returnsInHanded_of_change (C := Try.checked) own started (by kernel_rfl) Try.func7
    (ChangeSpec.witness6 (enc := enc) (C := Try.checked) false ⟨#[], #[.int .u32 0, .int .u16 0], []⟩ 8 (by kernel_rfl) (by kernel_rfl) (by kernel_rfl) (by kernel_rfl)) ?_
  intro W base args ds gs before hval0 hW hcnd _
  have hval : ∀ (j : Nat) t v, Try.f7.params[j]? = some t → args[j]? = some v → Value.okWide Try.prog W .any base t v := hval0
  have hW' := hW
  obtain ⟨p, q, hA0, hV, rfl, hfz, hnd⟩ := hW
  have hA : DataW.TrodAll enc Try.prog W 0 (fun _ => true) true Try.f7.params.toList args.toList ds p := hA0
  rw [Try.params7] at hA hval
  obtain ⟨v0, vs0, d0, ds0, p0, q0, hargs, rfl, rfl, h0, r0⟩ := trodAll_cons hA
  obtain ⟨v1, vs1, d1, ds1, p1, q1, rfl, rfl, rfl, h1, r1⟩ := trodAll_cons r0
  obtain ⟨rfl, rfl, rfl⟩ := trodAll_nil r1
  obtain rfl : args = #[v0, v1] := by cases args; simp_all
  obtain ⟨rfl, rfl⟩ := trodVars_none hV
  obtain ⟨a0, rfl, rfl, rfl, w0⟩ := open_int Try.underlying31 (hval 0 31 v0 rfl rfl) h0
  obtain ⟨a1, rfl, rfl, rfl, w1⟩ := open_int Try.underlying28 (hval 1 28 v1 rfl rfl) h1
  clear hA0 hval0
  simp only [List.append_nil] at hW'
  refine (walk a0 a1 w0 w1 W).mono fun e W' ⟨he, hg⟩ => ?_
  subst he
  exact ⟨_, rfl, post_of_same (pa := []) (pv := []) hW' (fun _ _ _ => (trodAll_cons_mk (shut_bool Try.underlying4 _) trodAll_mk0)) (fun sp _ => (trodAll_cons_mk (shut_int Try.underlying31 w0) (trodAll_cons_mk (shut_int Try.underlying28 w1) trodAll_mk0))) (fun _ _ => rfl) rfl
    (hg.frame _) hg.2.1 (ok_one (by kernel_rfl) rfl (okWide_bool_mk Try.underlying4 _))⟩

theorem over : Rows.numCeilsRow.holds Try.pinned (OpenSpec.ofChange Rows.numCeilsSpec) :=
  OpenClaim.holds_of_wide 7 Try.f7 rfl rfl rfl rfl rfl rfl rfl ⟨rfl, rfl, rfl, rfl, rfl⟩ rfl rfl rfl rfl rfl (by kernel_rfl) Try.func7 (by kernel_rfl)
    (of_decide_eq_true (by kernel_rfl)) (by unfold Func.isWrapper; first | (rw [if_pos (by decide +kernel)]; kernel_rfl) | (rw [if_neg (by decide +kernel)]; exact ⟨rfl, rfl⟩))
    (fun os started H enc _ => lifted os started H enc)

theorem proved : Rows.NumCeilsSaid :=
  over
end Go.Proofs.Ytbabbbplpoeacaa.numCeils
namespace Go.Proofs.Ytbabbbplpoeacaa
theorem numCeils_holds : Rows.NumCeilsSaid := numCeils.proved
#print axioms numCeils_holds
end Go.Proofs.Ytbabbbplpoeacaa
