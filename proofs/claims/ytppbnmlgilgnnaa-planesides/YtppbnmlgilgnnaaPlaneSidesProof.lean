/- Side, Sides and Grid of any public numbers are what the chapter says. -/
import Derived.Test.YtppbnmlgilgnnaaPlRef1
import Derived.Test.YtppbnmlgilgnnaaPlArg
import Derived.Test.YtppbnmlgilgnnaaFrame
import Derived.Test.YtppbnmlgilgnnaaRows
namespace Go.Proofs.Ytppbnmlgilgnnaa.planeSides
open Go.ChangeShapes Go.WideShapes Go.ChangeAt Go.RowKit
set_option linter.unusedVariables false

theorem own : ownKnob Try.prog.godebug = none := by kernel_rfl
theorem laidOut : laidOutB Try.prog = true := by kernel_rfl
theorem readable : ∀ t ∈ Try.f3.params.toList, Try.prog.readableRec t = true ∧ t < Try.prog.types.size := by
  rw [Try.params3]
  simp only [List.mem_cons, List.not_mem_nil, or_false, forall_eq_or_imp, forall_eq]
  refine ⟨⟨by kernel_rfl, of_decide_eq_true (by kernel_rfl)⟩, ⟨by kernel_rfl, of_decide_eq_true (by kernel_rfl)⟩, ⟨by kernel_rfl, of_decide_eq_true (by kernel_rfl)⟩⟩

set_option maxHeartbeats 20000000 in
set_option maxRecDepth 100000 in
theorem walk (w : World) (p0W p0H p0m p0q p0i p0c : Int) (x0 : I64 p0W ∧ I64 p0H ∧ I64 p0m) (a1 : Int) (w1 : (Lit.int .i64 a1).wf = true) (a2 : Int) (w2 : (Lit.int .u8 a2).wf = true) :
    Calls Try.prog 3 #[pV p0W p0H p0m p0q p0i p0c, .int .i64 a1, .int .u8 a2] w fun e w' => e = .returned (.bool true) ∧ But Nowhere w w' := by
  have kk := (Keep.start w).made 23 (pC p0W p0H p0m p0q p0i p0c)
  go_enter Try.func3, Try.ntmps3
  go_wp2_with fail
  refine (grid_any _ _ _ _ _ _ _).mono ?_
  rintro e w1 ⟨rfl, b1⟩
  replace kk := kk.step b1
  have c0 := kk.head.at 0
  have c1 := kk.head.at 1
  have c2 := kk.head.at 2
  have c3 := kk.head.at 3
  have c4 := kk.head.at 4
  have c5 := kk.head.at 5
  simp only [List.getElem?_cons_zero, List.getElem?_cons_succ] at c0 c1 c2 c3 c4 c5
  clear b1
  obtain ⟨a, ha⟩ : ∃ a, gridW p0W p0H p0m = a := ⟨_, rfl⟩
  obtain ⟨b, hb⟩ : ∃ a, gridH p0W p0H p0m = a := ⟨_, rfl⟩
  rw [ha, hb]
  go_wp2_with fail
  refine (refGrid_any _ _ _ _ _ _ _).mono ?_
  rintro e w2 ⟨rfl, b2⟩
  rw [ha, hb]
  clear ha hb c0 c1 c2 c3 c4 c5
  replace kk := kk.step b2
  clear b2
  have c0 := kk.head.at 0
  have c1 := kk.head.at 1
  have c2 := kk.head.at 2
  have c3 := kk.head.at 3
  have c4 := kk.head.at 4
  have c5 := kk.head.at 5
  have f2 := kk.head.frozen 2
  simp only [List.getElem?_cons_zero, List.getElem?_cons_succ] at c0 c1 c2 c3 c4 c5
  go_wp2_with fail
  obtain ⟨M, hM⟩ : ∃ M, wrap64 (a2.tmod 6) = M := ⟨_, rfl⟩
  rw [hM]
  replace kk := kk.set 2 (.int .i64 M)
  simp only [List.set_cons_zero, List.set_cons_succ] at kk
  clear c0 c1 c2 c3 c4 c5 f2
  refine (grid_any _ _ _ _ _ _ _).mono ?_
  rintro e w3 ⟨rfl, b3⟩
  obtain ⟨c, hc⟩ : ∃ a, gridW p0W p0H M = a := ⟨_, rfl⟩
  obtain ⟨d, hd⟩ : ∃ a, gridH p0W p0H M = a := ⟨_, rfl⟩
  rw [hc, hd]
  replace kk := kk.step b3
  clear b3
  have c0 := kk.head.at 0
  have c1 := kk.head.at 1
  have c2 := kk.head.at 2
  have c3 := kk.head.at 3
  have c4 := kk.head.at 4
  have c5 := kk.head.at 5
  simp only [List.getElem?_cons_zero, List.getElem?_cons_succ] at c0 c1 c2 c3 c4 c5
  go_wp2_with fail
  refine (refGrid_any _ _ _ _ _ _ _).mono ?_
  rintro e w4 ⟨rfl, b4⟩
  rw [hc, hd]
  clear hc hd c0 c1 c2 c3 c4 c5
  replace kk := kk.step b4
  clear b4
  have HB : Hid (But Nowhere w w4) := kk.but
  clear kk
  go_wp2_with fail
  refine (known_any _).mono ?_
  rintro e w5 ⟨rfl, b5⟩
  replace HB : Hid (But Nowhere w w5) := HB.out.trans b5
  clear b5
  go_wp2_with fail
  refine (lawSides_any _ _).mono ?_
  rintro e w6 ⟨rfl, b6⟩
  replace HB : Hid (But Nowhere w w6) := HB.out.trans b6
  clear b6
  go_wp2_with fail
  refine (lawSides_any _ _).mono ?_
  rintro e w7 ⟨rfl, b7⟩
  go_wp2_with fail
  go_ret
  exact ⟨rfl, HB.out.trans b7⟩

set_option maxRecDepth 100000 in
theorem lifted (os : Os) (started : os.Started) (H : Type) (enc : TypeId × Value → H) :
    ReturnsInHanded {} Try.checked os 3 .any (Rows.planeSidesSpec.pre6 enc Try.prog Try.f3 Rows.planeSidesRow.domain false) (Rows.planeSidesSpec.post enc Try.prog Try.f3 false true false false) := by
  refine returnsInHanded_of_change_sized (C := Try.checked) own started (by kernel_rfl) Try.func3
    (ChangeSpec.witness6 (enc := enc) (C := Try.checked) false ⟨#[], #[.agg #[.int .i64 0, .int .i64 0, .int .i64 0, .int .i64 0, .int .i64 0, .int .i64 0], .int .i64 0, .int .u8 0], []⟩ 8 (by kernel_rfl) (by kernel_rfl) (by kernel_rfl) (by kernel_rfl)) ?_
  intro W base args ds gs before hval0 hW hcnd hsz0 _
  have hval : ∀ (j : Nat) t v, Try.f3.params[j]? = some t → args[j]? = some v → Value.okWide Try.prog W .any base t v := hval0
  have hsz : (DataW.weightsEach Try.prog (Try.f3.params.toList ++ Rows.planeSidesSpec.plain.varTypes Try.prog) (ds ++ gs)).all (· ≤ reachBytes) = true := hsz0
  have hW' := hW
  obtain ⟨p, q, hA0, hV, rfl, hfz, hnd⟩ := hW
  have hA : DataW.TrodAll enc Try.prog W 0 (fun _ => true) true Try.f3.params.toList args.toList ds p := hA0
  rw [Try.params3] at hA hval hsz
  obtain ⟨v0, vs0, d0, ds0, p0, q0, hargs, rfl, rfl, h0, r0⟩ := trodAll_cons hA
  obtain ⟨v1, vs1, d1, ds1, p1, q1, rfl, rfl, rfl, h1, r1⟩ := trodAll_cons r0
  obtain ⟨v2, vs2, d2, ds2, p2, q2, rfl, rfl, rfl, h2, r2⟩ := trodAll_cons r1
  obtain ⟨rfl, rfl, rfl⟩ := trodAll_nil r2
  obtain rfl : args = #[v0, v1, v2] := by cases args; simp_all
  obtain ⟨rfl, rfl⟩ := trodVars_none hV
  obtain ⟨p0W, p0H, p0m, p0q, p0i, p0c, rfl, x0⟩ := open_P (hval 0 23 v0 rfl rfl) h0
  obtain ⟨a1, rfl, rfl, rfl, w1⟩ := open_int Try.underlying3 (hval 1 3 v1 rfl rfl) h1
  obtain ⟨a2, rfl, rfl, rfl, w2⟩ := open_int Try.underlying5 (hval 2 5 v2 rfl rfl) h2
  clear hA0 hval0
  refine (walk W p0W p0H p0m p0q p0i p0c x0 a1 w1 a2 w2).mono fun e W' ⟨he, hg⟩ => ?_
  subst he
  exact ⟨_, rfl, law_post laidOut readable rfl Try.underlying4 rfl rfl hW' hg.below⟩

theorem over : Rows.planeSidesRow.holds Try.pinned (OpenSpec.ofChange Rows.planeSidesSpec) :=
  OpenClaim.holds_of_wide 3 Try.f3 rfl rfl rfl rfl rfl rfl rfl ⟨rfl, rfl, rfl, rfl, rfl⟩ rfl rfl rfl rfl rfl (by kernel_rfl) Try.func3 (by kernel_rfl)
    (of_decide_eq_true (by kernel_rfl)) (by unfold Func.isWrapper; first | (rw [if_pos (by decide +kernel)]; kernel_rfl) | (rw [if_neg (by decide +kernel)]; exact ⟨rfl, rfl⟩))
    (fun os started H enc _ => lifted os started H enc)

theorem proved : Rows.PlaneSidesSaid :=
  over
end Go.Proofs.Ytppbnmlgilgnnaa.planeSides
namespace Go.Proofs.Ytppbnmlgilgnnaa
theorem planeSides_holds : Rows.PlaneSidesSaid := planeSides.proved
#print axioms planeSides_holds
end Go.Proofs.Ytppbnmlgilgnnaa
