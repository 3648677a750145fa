/- For every n the law TraceNil of layer 2 returns true: a recorder that is none has nothing, and takes nothing. No condition. -/
import Derived.Test.YtmmlbdiifpdphaaKnown
import Derived.Test.YtmmlbdiifpdphaaFrame
import Derived.Test.YtmmlbdiifpdphaaRows
namespace Go.Proofs.Ytmmlbdiifpdphaa.traceNil
open Go.ChangeShapes Go.WideShapes Go.ChangeAt Go.RowKit
set_option linter.unusedVariables false

theorem own : ownKnob Try.prog.godebug = none := by kernel_rfl
theorem laidOut : laidOutB Try.prog = true := by kernel_rfl
theorem readable : ∀ t ∈ Try.f5.params.toList, Try.prog.readableRec t = true ∧ t < Try.prog.types.size := by
  rw [Try.params5]
  simp only [List.mem_cons, List.not_mem_nil, or_false, forall_eq]
  refine ⟨by kernel_rfl, of_decide_eq_true (by kernel_rfl)⟩

set_option maxHeartbeats 2000000 in
set_option maxRecDepth 100000 in
theorem walk (w : World) (a0 : Int) (w0 : (Lit.int .i64 a0).wf = true) :
    Calls Try.prog 5 #[.int .i64 a0] w fun e w' => e = .returned (.bool true) ∧ But Nowhere w w' := by
  have e1 : sameB [] [] = true := by decide
  have e2 : sameB [] [(3, 0)] = false := by decide
  have e3 : cnt 3 [(3, 0)] = 1 := by decide
  go_enter Try.func5, Try.ntmps5
  go_wp2_with fail
  refine (idx_none _ _).mono ?_
  rintro e w1 ⟨rfl, b1⟩
  go_wp2_with fail
  refine (br_none _ _).mono ?_
  rintro e w2 ⟨rfl, b2⟩
  go_wp2_with fail
  refine (open_none _).mono ?_
  rintro e w3 ⟨rfl, b3⟩
  go_wp2_with fail
  refine (new_any _).mono ?_
  rintro e w4 ⟨rfl, h4⟩
  have b4 := (b1.trans b2).trans (b3.trans h4.but)
  go_wp2_with fail
  refine (same_ns _ _ _ _ h4.rcd).mono ?_
  rintro e w5 ⟨rfl, b5⟩
  have h5 := h4.step b5
  go_wp2_with fail
  refine (open_some _ _ _ _ h5.rcd (by simp)).mono ?_
  rintro e w6 ⟨rfl, hl⟩
  obtain ⟨v6, h6, -, -⟩ := h5.laid hl
  have b6 : But Nowhere w w6 := ((b1.trans b2).trans b3).trans h6.but
  clear hl h5 h4 b5 b4
  go_wp2_with fail
  refine (known_any _).mono ?_
  rintro e w7 ⟨rfl, b7⟩
  have h7 := h6.step b7
  go_wp2_with fail
  refine (events_none _).mono ?_
  rintro e w8 ⟨rfl, rfl⟩
  go_wp2_with fail
  refine (count_none _ _).mono ?_
  rintro e w9 ⟨rfl, b9⟩
  have h9 := h7.step b9
  go_wp2_with fail
  refine (same_ns _ _ _ _ h9.rcd).mono ?_
  rintro e w10 ⟨rfl, b10⟩
  have h10 := h9.step b10
  go_wp2_with fail
  refine (count_some _ _ _ _ _ h10.rcd (by simp)).mono ?_
  rintro e w11 ⟨rfl, b11⟩
  go_wp2_with fail
  go_ret
  exact ⟨ret_bool (by decide), (((b6.trans b7).trans b9).trans b10).trans b11⟩

set_option maxRecDepth 100000 in
theorem lifted (os : Os) (started : os.Started) (H : Type) (enc : TypeId × Value → H) :
    ReturnsInHanded {} Try.checked os 5 .any (Rows.traceNilSpec.pre6 enc Try.prog Try.f5 Rows.traceNilRow.domain false) (Rows.traceNilSpec.post enc Try.prog Try.f5 false true false false) := by
  refine returnsInHanded_of_change_sized (C := Try.checked) own started (by kernel_rfl) Try.func5
    (ChangeSpec.witness6 (enc := enc) (C := Try.checked) false ⟨#[], #[.int .i64 0], []⟩ 8 (by kernel_rfl) (by kernel_rfl) (by kernel_rfl) (by kernel_rfl)) ?_
  intro W base args ds gs before hval0 hW hcnd hsz0 _
  have hval : ∀ (j : Nat) t v, Try.f5.params[j]? = some t → args[j]? = some v → Value.okWide Try.prog W .any base t v := hval0
  have hsz : (DataW.weightsEach Try.prog (Try.f5.params.toList ++ Rows.traceNilSpec.plain.varTypes Try.prog) (ds ++ gs)).all (· ≤ reachBytes) = true := hsz0
  have hW' := hW
  obtain ⟨p, q, hA0, hV, rfl, hfz, hnd⟩ := hW
  have hA : DataW.TrodAll enc Try.prog W 0 (fun _ => true) true Try.f5.params.toList args.toList ds p := hA0
  rw [Try.params5] at hA hval hsz
  obtain ⟨v0, vs0, d0, ds0, p0, q0, hargs, rfl, rfl, h0, r0⟩ := trodAll_cons hA
  obtain ⟨rfl, rfl, rfl⟩ := trodAll_nil r0
  obtain rfl : args = #[v0] := by cases args; simp_all
  obtain ⟨rfl, rfl⟩ := trodVars_none hV
  obtain ⟨a0, rfl, rfl, rfl, w0⟩ := open_int Try.underlying3 (hval 0 3 v0 rfl rfl) h0
  clear hA0 hval0
  refine (walk W a0 w0).mono fun e W' ⟨he, hg⟩ => ?_
  subst he
  exact ⟨_, rfl, law_post laidOut readable rfl Try.underlying4 rfl rfl hW' hg.below⟩

theorem over : Rows.traceNilRow.holds Try.pinned (OpenSpec.ofChange Rows.traceNilSpec) :=
  OpenClaim.holds_of_wide 5 Try.f5 rfl rfl rfl rfl rfl rfl rfl ⟨rfl, rfl, rfl, rfl, rfl⟩ rfl rfl rfl rfl rfl (by kernel_rfl) Try.func5 (by kernel_rfl)
    (of_decide_eq_true (by kernel_rfl)) (by unfold Func.isWrapper; first | (rw [if_pos (by decide +kernel)]; kernel_rfl) | (rw [if_neg (by decide +kernel)]; exact ⟨rfl, rfl⟩))
    (fun os started H enc _ => lifted os started H enc)

theorem proved : Rows.TraceNilSaid :=
  over
end Go.Proofs.Ytmmlbdiifpdphaa.traceNil
namespace Go.Proofs.Ytmmlbdiifpdphaa
theorem traceNil_holds : Rows.TraceNilSaid := traceNil.proved
#print axioms traceNil_holds
end Go.Proofs.Ytmmlbdiifpdphaa
