/- For every byte, the law ColorGray of layer 6 returns true: a gray has its luma, and no colour, there and back. No condition. -/
import Derived.Test.YtgamogjiekefoaaColRef
import Derived.Test.YtgamogjiekefoaaFrame
import Derived.Test.YtgamogjiekefoaaRows
namespace Go.Proofs.Ytgamogjiekefoaa.colorGray
open Go.ChangeShapes Go.WideShapes Go.ChangeAt Go.RowKit
set_option linter.unusedVariables false

theorem own : ownKnob Try.prog.godebug = none := by kernel_rfl
theorem laidOut : laidOutB Try.prog = true := by kernel_rfl
theorem readable : ∀ t ∈ Try.f5.params.toList, Try.prog.readableRec t = true ∧ t < Try.prog.types.size := by
  rw [Try.params5]
  simp only [List.mem_cons, List.not_mem_nil, or_false, forall_eq]
  refine ⟨by kernel_rfl, of_decide_eq_true (by kernel_rfl)⟩

set_option maxHeartbeats 20000000 in
set_option maxRecDepth 100000 in
theorem walk (w : World) (a0 : Int) (w0 : (Lit.int .u8 a0).wf = true) :
    Calls Try.prog 5 #[.int .u8 a0] w fun e w' => e = .returned (.bool true) ∧ But Nowhere w w' := by
  have u0 := u8_in w0
  clear w0
  have c0 : clipF a0 0 255 = a0 := by unfold clipF; split; omega; split <;> omega
  have c1 : clipF 128 0 255 = 128 := by decide
  have b1 := colorLuma_any a0 a0 a0
  have b2 := colorBack_any a0 128 128
  have e1 : luma1.of a0 a0 a0 = a0 := by unfold Rw.of partF; rw [c0]; simp only []; rw [clipF_eq (b := a0) (by omega), c0]
  have e2 : luma2.of a0 a0 a0 = 128 := by unfold Rw.of partF; rw [c0]; simp only []; rw [clipF_eq (b := 128) (by omega), c1]
  have e3 : luma3.of a0 a0 a0 = 128 := by unfold Rw.of partF; rw [c0]; simp only []; rw [clipF_eq (b := 128) (by omega), c1]
  have e4 : back1.of a0 128 128 = a0 := by unfold Rw.of partF; rw [c0, c1]; simp only []; rw [clipF_eq (b := a0) (by omega), c0]
  have e5 : back2.of a0 128 128 = a0 := by unfold Rw.of partF; rw [c0, c1]; simp only []; rw [clipF_eq (b := a0) (by omega), c0]
  have e6 : back3.of a0 128 128 = a0 := by unfold Rw.of partF; rw [c0, c1]; simp only []; rw [clipF_eq (b := a0) (by omega), c0]
  rw [e1, e2, e3] at b1
  rw [e4, e5, e6] at b2
  clear e1 e2 e3 e4 e5 e6 c0 c1
  go_enter Try.func5, Try.ntmps5
  go_wp2_with fail
  refine (b1 _).mono ?_
  rintro e v1 ⟨rfl, h1⟩
  go_wp2_with fail
  refine (b2 _).mono ?_
  rintro e v2 ⟨rfl, h2⟩
  clear b1 b2
  go_wp2_with fail
  refine (known06_any _).mono ?_
  rintro e v3 ⟨rfl, h3⟩
  go_wp2_with fail
  go_ret
  exact ⟨rfl, h1.trans (h2.trans h3)⟩

set_option maxRecDepth 100000 in
theorem lifted (os : Os) (started : os.Started) (H : Type) (enc : TypeId × Value → H) :
    ReturnsInHanded {} Try.checked os 5 .any (Rows.colorGraySpec.pre6 enc Try.prog Try.f5 Rows.colorGrayRow.domain false) (Rows.colorGraySpec.post enc Try.prog Try.f5 false true false false) := by
  refine returnsInHanded_of_change_sized (C := Try.checked) own started (by kernel_rfl) Try.func5
    (ChangeSpec.witness6 (enc := enc) (C := Try.checked) false ⟨#[], #[.int .u8 0], []⟩ 8 (by kernel_rfl) (by kernel_rfl) (by kernel_rfl) (by kernel_rfl)) ?_
  intro W base args ds gs before hval0 hW hcnd hsz0 _
  have hval : ∀ (j : Nat) t v, Try.f5.params[j]? = some t → args[j]? = some v → Value.okWide Try.prog W .any base t v := hval0
  have hsz : (DataW.weightsEach Try.prog (Try.f5.params.toList ++ Rows.colorGraySpec.plain.varTypes Try.prog) (ds ++ gs)).all (· ≤ reachBytes) = true := hsz0
  have hW' := hW
  obtain ⟨p, q, hA0, hV, rfl, hfz, hnd⟩ := hW
  have hA : DataW.TrodAll enc Try.prog W 0 (fun _ => true) true Try.f5.params.toList args.toList ds p := hA0
  rw [Try.params5] at hA hval hsz
  obtain ⟨v0, vs0, d0, ds0, p0, q0, hargs, rfl, rfl, h0, r0⟩ := trodAll_cons hA
  obtain ⟨rfl, rfl, rfl⟩ := trodAll_nil r0
  obtain rfl : args = #[v0] := by cases args; simp_all
  obtain ⟨rfl, rfl⟩ := trodVars_none hV
  obtain ⟨a0, rfl, rfl, rfl, w0⟩ := open_int Try.underlying5 (hval 0 5 v0 rfl rfl) h0
  clear hA0 hval0
  refine (walk W a0 w0).mono fun e W' ⟨he, hg⟩ => ?_
  subst he
  exact ⟨_, rfl, law_post laidOut readable rfl Try.underlying4 rfl rfl hW' hg.below⟩

theorem over : Rows.colorGrayRow.holds Try.pinned (OpenSpec.ofChange Rows.colorGraySpec) :=
  OpenClaim.holds_of_wide 5 Try.f5 rfl rfl rfl rfl rfl rfl rfl ⟨rfl, rfl, rfl, rfl, rfl⟩ rfl rfl rfl rfl rfl (by kernel_rfl) Try.func5 (by kernel_rfl)
    (of_decide_eq_true (by kernel_rfl)) (by unfold Func.isWrapper; first | (rw [if_pos (by decide +kernel)]; kernel_rfl) | (rw [if_neg (by decide +kernel)]; exact ⟨rfl, rfl⟩))
    (fun os started H enc _ => lifted os started H enc)

theorem proved : Rows.ColorGraySaid :=
  over
end Go.Proofs.Ytgamogjiekefoaa.colorGray
namespace Go.Proofs.Ytgamogjiekefoaa
theorem colorGray_holds : Rows.ColorGraySaid := colorGray.proved
#print axioms colorGray_holds
end Go.Proofs.Ytgamogjiekefoaa
