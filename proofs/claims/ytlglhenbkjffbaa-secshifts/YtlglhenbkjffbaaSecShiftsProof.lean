/- For every number, the law SecShifts of layer 3 returns true: Shl and Shr of any secret, by any number, are what the chapter says. No condition. -/
import Derived.Test.YtlglhenbkjffbaaSecRef
import Derived.Test.YtlglhenbkjffbaaFrame
import Derived.Test.YtlglhenbkjffbaaRows
namespace Go.Proofs.Ytlglhenbkjffbaa.secShifts
open Go.ChangeShapes Go.WideShapes Go.ChangeAt Go.RowKit
set_option linter.unusedVariables false

theorem own : ownKnob Try.prog.godebug = none := by kernel_rfl
theorem laidOut : laidOutB Try.prog = true := by kernel_rfl
theorem readable : ∀ t ∈ Try.f5.params.toList, Try.prog.readableRec t = true ∧ t < Try.prog.types.size := by
  rw [Try.params5]
  simp only [List.mem_cons, List.not_mem_nil, or_false, forall_eq_or_imp, forall_eq]
  refine ⟨⟨by kernel_rfl, of_decide_eq_true (by kernel_rfl)⟩, ⟨by kernel_rfl, of_decide_eq_true (by kernel_rfl)⟩, ⟨by kernel_rfl, of_decide_eq_true (by kernel_rfl)⟩⟩

set_option maxHeartbeats 20000000 in
set_option maxRecDepth 100000 in
theorem walk (w : World) (a0 : Int) (w0 : (Lit.int .i64 a0).wf = true) (a1 : Int) (w1 : (Lit.int .i64 a1).wf = true) (a2 : Int) (w2 : (Lit.int .u8 a2).wf = true) :
    Calls Try.prog 5 #[.int .i64 a0, .int .i64 a1, .int .u8 a2] w fun e w' => e = .returned (.bool true) ∧ But Nowhere w w' := by
  obtain ⟨u0, u1⟩ := u8_in w2
  clear w0 w1 w2
  go_enter Try.func5, Try.ntmps5
  go_wp2_with fail
  refine (of_any _ _).mono ?_
  rintro e v1 ⟨rfl, hb⟩
  have g0 := hb
  clear hb
  have hb := (But.refl Nowhere v1).alloc (.cells #[.int .i64 (a0)] 23)
  replace g0 := g0.trans hb
  clear hb
  have kX : (v1.alloc (.cells #[.int .i64 (a0)] 23)).cell? ⟨v1.heap.size, 0, none⟩ = some (.int .i64 (a0)) := by go_simp
  go_wp2_with (first | (go_at_call 18; refine (known_any _).mono ?_; rintro e w' ⟨rfl, hb⟩; replace kX := hb.keeps (not_nowhere _) kX; replace g0 := g0.trans hb; clear hb) | (go_at_call 11; refine (told_any _ _).mono ?_; rintro e w' ⟨rfl, hb⟩; replace kX := hb.keeps (not_nowhere _) kX; replace g0 := g0.trans hb; clear hb) | (go_at_call 31; refine (shl_num _ _ _).mono ?_; rintro e w' ⟨rfl, hb⟩; replace kX := hb.keeps (not_nowhere _) kX; replace g0 := g0.trans hb; clear hb) | (go_at_call 33; refine (shr_any _ _ _).mono ?_; rintro e w' ⟨rfl, hb⟩; replace kX := hb.keeps (not_nowhere _) kX; replace g0 := g0.trans hb; clear hb) | (go_at_call 32; refine (refShl _ _ _).mono ?_; rintro e w' ⟨rfl, rfl⟩) | (go_at_call 34; refine (refShr _ _ _).mono ?_; rintro e w' ⟨rfl, rfl⟩))
  go_ret
  exact ⟨rfl, g0⟩

set_option maxRecDepth 100000 in
theorem lifted (os : Os) (started : os.Started) (H : Type) (enc : TypeId × Value → H) :
    ReturnsInHanded {} Try.checked os 5 .any (Rows.secShiftsSpec.pre6 enc Try.prog Try.f5 Rows.secShiftsRow.domain false) (Rows.secShiftsSpec.post enc Try.prog Try.f5 false true false false) := by
  refine returnsInHanded_of_change_sized (C := Try.checked) own started (by kernel_rfl) Try.func5
    (ChangeSpec.witness6 (enc := enc) (C := Try.checked) false ⟨#[], #[.int .i64 0, .int .i64 0, .int .u8 0], []⟩ 8 (by kernel_rfl) (by kernel_rfl) (by kernel_rfl) (by kernel_rfl)) ?_
  intro W base args ds gs before hval0 hW hcnd hsz0 _
  have hval : ∀ (j : Nat) t v, Try.f5.params[j]? = some t → args[j]? = some v → Value.okWide Try.prog W .any base t v := hval0
  have hsz : (DataW.weightsEach Try.prog (Try.f5.params.toList ++ Rows.secShiftsSpec.plain.varTypes Try.prog) (ds ++ gs)).all (· ≤ reachBytes) = true := hsz0
  have hW' := hW
  obtain ⟨p, q, hA0, hV, rfl, hfz, hnd⟩ := hW
  have hA : DataW.TrodAll enc Try.prog W 0 (fun _ => true) true Try.f5.params.toList args.toList ds p := hA0
  rw [Try.params5] at hA hval hsz
  obtain ⟨v0, vs0, d0, ds0, p0, q0, hargs, rfl, rfl, h0, r0⟩ := trodAll_cons hA
  obtain ⟨v1, vs1, d1, ds1, p1, q1, rfl, rfl, rfl, h1, r1⟩ := trodAll_cons r0
  obtain ⟨v2, vs2, d2, ds2, p2, q2, rfl, rfl, rfl, h2, r2⟩ := trodAll_cons r1
  obtain ⟨rfl, rfl, rfl⟩ := trodAll_nil r2
  obtain rfl : args = #[v0, v1, v2] := by cases args; simp_all
  obtain ⟨rfl, rfl⟩ := trodVars_none hV
  obtain ⟨a0, rfl, rfl, rfl, w0⟩ := open_int Try.underlying3 (hval 0 3 v0 rfl rfl) h0
  obtain ⟨a1, rfl, rfl, rfl, w1⟩ := open_int Try.underlying3 (hval 1 3 v1 rfl rfl) h1
  obtain ⟨a2, rfl, rfl, rfl, w2⟩ := open_int Try.underlying5 (hval 2 5 v2 rfl rfl) h2
  clear hA0 hval0
  refine (walk W a0 w0 a1 w1 a2 w2).mono fun e W' ⟨he, hg⟩ => ?_
  subst he
  exact ⟨_, rfl, law_post laidOut readable rfl Try.underlying4 rfl rfl hW' hg.below⟩

theorem over : Rows.secShiftsRow.holds Try.pinned (OpenSpec.ofChange Rows.secShiftsSpec) :=
  OpenClaim.holds_of_wide 5 Try.f5 rfl rfl rfl rfl rfl rfl rfl ⟨rfl, rfl, rfl, rfl, rfl⟩ rfl rfl rfl rfl rfl (by kernel_rfl) Try.func5 (by kernel_rfl)
    (of_decide_eq_true (by kernel_rfl)) (by unfold Func.isWrapper; first | (rw [if_pos (by decide +kernel)]; kernel_rfl) | (rw [if_neg (by decide +kernel)]; exact ⟨rfl, rfl⟩))
    (fun os started H enc _ => lifted os started H enc)

theorem proved : Rows.SecShiftsSaid :=
  over
end Go.Proofs.Ytlglhenbkjffbaa.secShifts
namespace Go.Proofs.Ytlglhenbkjffbaa
theorem secShifts_holds : Rows.SecShiftsSaid := secShifts.proved
#print axioms secShifts_holds
end Go.Proofs.Ytlglhenbkjffbaa
