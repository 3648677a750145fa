/- For every three bytes, the law ColorNear of layer 6 returns true: there and back no part is further off than two. No condition. -/
import Derived.Test.YtgamogjiekefoaaColMath
import Derived.Test.YtgamogjiekefoaaFrame
import Derived.Test.YtgamogjiekefoaaRows
namespace Go.Proofs.Ytgamogjiekefoaa.colorNear
open Go.ChangeShapes Go.WideShapes Go.ChangeAt Go.RowKit
set_option linter.unusedVariables false

theorem own : ownKnob Try.prog.godebug = none := by kernel_rfl
theorem laidOut : laidOutB Try.prog = true := by kernel_rfl
theorem readable : ∀ t ∈ Try.f6.params.toList, Try.prog.readableRec t = true ∧ t < Try.prog.types.size := by
  rw [Try.params6]
  simp only [List.mem_cons, List.not_mem_nil, or_false, forall_eq_or_imp, forall_eq]
  refine ⟨⟨by kernel_rfl, of_decide_eq_true (by kernel_rfl)⟩, ⟨by kernel_rfl, of_decide_eq_true (by kernel_rfl)⟩, ⟨by kernel_rfl, of_decide_eq_true (by kernel_rfl)⟩⟩

set_option maxHeartbeats 20000000 in
set_option maxRecDepth 100000 in
theorem walk (w : World) (a0 : Int) (w0 : (Lit.int .u8 a0).wf = true) (a1 : Int) (w1 : (Lit.int .u8 a1).wf = true) (a2 : Int) (w2 : (Lit.int .u8 a2).wf = true) :
    Calls Try.prog 6 #[.int .u8 a0, .int .u8 a1, .int .u8 a2] w fun e w' => e = .returned (.bool true) ∧ But Nowhere w w' := by
  have u0 := u8_in w0
  have u1 := u8_in w1
  have u2 := u8_in w2
  clear w0 w1 w2
  have b1 := colorLuma_any a0 a1 a2
  obtain ⟨x, y, z, e1, e2, e3, n1, n2, n3⟩ := near_back a0 a1 a2 u0 u1 u2
  have b2 := colorBack_any x y z
  rw [e1, e2, e3] at b1
  clear e1 e2 e3
  have t1 := part_in back1.a back1.b back1.c back1.r (clipF x 0 255) (clipF y 0 255) (clipF z 0 255)
  have t2 := part_in back2.a back2.b back2.c back2.r (clipF x 0 255) (clipF y 0 255) (clipF z 0 255)
  have t3 := part_in back3.a back3.b back3.c back3.r (clipF x 0 255) (clipF y 0 255) (clipF z 0 255)
  change 0 ≤ back1.of x y z ∧ back1.of x y z ≤ 255 at t1
  change 0 ≤ back2.of x y z ∧ back2.of x y z ≤ 255 at t2
  change 0 ≤ back3.of x y z ∧ back3.of x y z ≤ 255 at t3
  generalize back1.of x y z = m1 at *
  generalize back2.of x y z = m2 at *
  generalize back3.of x y z = m3 at *
  go_enter Try.func6, Try.ntmps6
  go_wp2_with fail
  refine (b1 _).mono ?_
  rintro e v1 ⟨rfl, h1⟩
  go_wp2_with fail
  refine (b2 _).mono ?_
  rintro e v2 ⟨rfl, h2⟩
  clear b1 b2
  go_wp2_with fail
  refine (known06_any _).mono ?_
  rintro e v3 ⟨rfl, h3⟩
  go_wp2_with (go_at_call 14; refine (near_in _ _ _ (by omega) (by omega) (by omega) (by omega)).mono ?_; rintro e w' ⟨rfl, rfl⟩)
  go_ret
  exact ⟨rfl, h1.trans (h2.trans h3)⟩

set_option maxRecDepth 100000 in
theorem lifted (os : Os) (started : os.Started) (H : Type) (enc : TypeId × Value → H) :
    ReturnsInHanded {} Try.checked os 6 .any (Rows.colorNearSpec.pre6 enc Try.prog Try.f6 Rows.colorNearRow.domain false) (Rows.colorNearSpec.post enc Try.prog Try.f6 false true false false) := by
  refine returnsInHanded_of_change_sized (C := Try.checked) own started (by kernel_rfl) Try.func6
    (ChangeSpec.witness6 (enc := enc) (C := Try.checked) false ⟨#[], #[.int .u8 0, .int .u8 0, .int .u8 0], []⟩ 8 (by kernel_rfl) (by kernel_rfl) (by kernel_rfl) (by kernel_rfl)) ?_
  intro W base args ds gs before hval0 hW hcnd hsz0 _
  have hval : ∀ (j : Nat) t v, Try.f6.params[j]? = some t → args[j]? = some v → Value.okWide Try.prog W .any base t v := hval0
  have hsz : (DataW.weightsEach Try.prog (Try.f6.params.toList ++ Rows.colorNearSpec.plain.varTypes Try.prog) (ds ++ gs)).all (· ≤ reachBytes) = true := hsz0
  have hW' := hW
  obtain ⟨p, q, hA0, hV, rfl, hfz, hnd⟩ := hW
  have hA : DataW.TrodAll enc Try.prog W 0 (fun _ => true) true Try.f6.params.toList args.toList ds p := hA0
  rw [Try.params6] at hA hval hsz
  obtain ⟨v0, vs0, d0, ds0, p0, q0, hargs, rfl, rfl, h0, r0⟩ := trodAll_cons hA
  obtain ⟨v1, vs1, d1, ds1, p1, q1, rfl, rfl, rfl, h1, r1⟩ := trodAll_cons r0
  obtain ⟨v2, vs2, d2, ds2, p2, q2, rfl, rfl, rfl, h2, r2⟩ := trodAll_cons r1
  obtain ⟨rfl, rfl, rfl⟩ := trodAll_nil r2
  obtain rfl : args = #[v0, v1, v2] := by cases args; simp_all
  obtain ⟨rfl, rfl⟩ := trodVars_none hV
  obtain ⟨a0, rfl, rfl, rfl, w0⟩ := open_int Try.underlying5 (hval 0 5 v0 rfl rfl) h0
  obtain ⟨a1, rfl, rfl, rfl, w1⟩ := open_int Try.underlying5 (hval 1 5 v1 rfl rfl) h1
  obtain ⟨a2, rfl, rfl, rfl, w2⟩ := open_int Try.underlying5 (hval 2 5 v2 rfl rfl) h2
  clear hA0 hval0
  refine (walk W a0 w0 a1 w1 a2 w2).mono fun e W' ⟨he, hg⟩ => ?_
  subst he
  exact ⟨_, rfl, law_post laidOut readable rfl Try.underlying4 rfl rfl hW' hg.below⟩

theorem over : Rows.colorNearRow.holds Try.pinned (OpenSpec.ofChange Rows.colorNearSpec) :=
  OpenClaim.holds_of_wide 6 Try.f6 rfl rfl rfl rfl rfl rfl rfl ⟨rfl, rfl, rfl, rfl, rfl⟩ rfl rfl rfl rfl rfl (by kernel_rfl) Try.func6 (by kernel_rfl)
    (of_decide_eq_true (by kernel_rfl)) (by unfold Func.isWrapper; first | (rw [if_pos (by decide +kernel)]; kernel_rfl) | (rw [if_neg (by decide +kernel)]; exact ⟨rfl, rfl⟩))
    (fun os started H enc _ => lifted os started H enc)

theorem proved : Rows.ColorNearSaid :=
  over
end Go.Proofs.Ytgamogjiekefoaa.colorNear
namespace Go.Proofs.Ytgamogjiekefoaa
theorem colorNear_holds : Rows.ColorNearSaid := colorNear.proved
#print axioms colorNear_holds
end Go.Proofs.Ytgamogjiekefoaa
