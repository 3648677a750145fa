/- For every three numbers, the law ColorClips of layer 6 returns true: numbers beyond a byte are as its ends; all that is told is a byte. No condition. -/
import Derived.Test.YtgamogjiekefoaaColMath
import Derived.Test.YtgamogjiekefoaaFrame
import Derived.Test.YtgamogjiekefoaaRows
namespace Go.Proofs.Ytgamogjiekefoaa.colorClips
open Go.ChangeShapes Go.WideShapes Go.ChangeAt Go.RowKit
set_option linter.unusedVariables false

theorem own : ownKnob Try.prog.godebug = none := by kernel_rfl
theorem laidOut : laidOutB Try.prog = true := by kernel_rfl
theorem readable : ∀ t ∈ Try.f7.params.toList, Try.prog.readableRec t = true ∧ t < Try.prog.types.size := by
  rw [Try.params7]
  simp only [List.mem_cons, List.not_mem_nil, or_false, forall_eq_or_imp, forall_eq]
  refine ⟨⟨by kernel_rfl, of_decide_eq_true (by kernel_rfl)⟩, ⟨by kernel_rfl, of_decide_eq_true (by kernel_rfl)⟩, ⟨by kernel_rfl, of_decide_eq_true (by kernel_rfl)⟩⟩

set_option maxHeartbeats 20000000 in
set_option maxRecDepth 100000 in
theorem walk (w : World) (a0 : Int) (w0 : (Lit.int .i64 a0).wf = true) (a1 : Int) (w1 : (Lit.int .i64 a1).wf = true) (a2 : Int) (w2 : (Lit.int .i64 a2).wf = true) :
    Calls Try.prog 7 #[.int .i64 a0, .int .i64 a1, .int .i64 a2] w fun e w' => e = .returned (.bool true) ∧ But Nowhere w w' := by
  clear w0 w1 w2
  have L := @lumaSame a0 a1 a2
  have B := @backSame a0 a1 a2
  have t1 := luma1.of_in a0 a1 a2
  have t2 := luma2.of_in a0 a1 a2
  have t3 := luma3.of_in a0 a1 a2
  have t4 := back1.of_in a0 a1 a2
  have t5 := back2.of_in a0 a1 a2
  have t6 := back3.of_in a0 a1 a2
  generalize luma1.of a0 a1 a2 = m1 at *
  generalize luma2.of a0 a1 a2 = m2 at *
  generalize luma3.of a0 a1 a2 = m3 at *
  generalize back1.of a0 a1 a2 = m4 at *
  generalize back2.of a0 a1 a2 = m5 at *
  generalize back3.of a0 a1 a2 = m6 at *
  have HT : Hid ((0 ≤ m1 ∧ m1 ≤ 255) ∧ (0 ≤ m2 ∧ m2 ≤ 255) ∧ (0 ≤ m3 ∧ m3 ≤ 255) ∧ (0 ≤ m4 ∧ m4 ≤ 255) ∧ (0 ≤ m5 ∧ m5 ≤ 255) ∧ (0 ≤ m6 ∧ m6 ≤ 255)) := ⟨t1, t2, t3, t4, t5, t6⟩
  clear t1 t2 t3 t4 t5 t6
  go_enter Try.func7, Try.ntmps7
  go_wp2_with fail
  refine (L rfl rfl rfl _).mono ?_
  rintro e v1 ⟨rfl, g0⟩
  go_upto_region 2 with fail
  go_cut [10, 11, 12] from 27 to 40 (fun s t u W => s = .int .i64 m1 ∧ t = .int .i64 m2 ∧ u = .int .i64 m3 ∧ But Nowhere w W)
  case first =>
    go_wp2_with (go_at_call 12; refine (L (by unfold clipF; split <;> (try split) <;> (try split) <;> (try split) <;> omega) (by unfold clipF; split <;> (try split) <;> (try split) <;> (try split) <;> omega) (by unfold clipF; split <;> (try split) <;> (try split) <;> (try split) <;> omega) _).mono ?_; rintro e w' ⟨rfl, hb⟩)
    all_goals
      go_meet
      case rel => exact ⟨rfl, rfl, rfl, g0.trans hb⟩
  case rest =>
    obtain ⟨rfl, rfl, rfl, g1⟩ := hcut
    clear g0 v1 L
    go_wp2_with fail
    refine (B rfl rfl rfl _).mono ?_
    rintro e v2 ⟨rfl, h2⟩
    replace g1 := g1.trans h2
    clear h2
    go_upto_region 4 with fail
    go_cut [16, 17, 18] from 49 to 62 (fun s t u W => s = .int .i64 m4 ∧ t = .int .i64 m5 ∧ u = .int .i64 m6 ∧ But Nowhere w W)
    case first =>
      go_wp2_with (go_at_call 13; refine (B (by unfold clipF; split <;> (try split) <;> (try split) <;> (try split) <;> omega) (by unfold clipF; split <;> (try split) <;> (try split) <;> (try split) <;> omega) (by unfold clipF; split <;> (try split) <;> (try split) <;> (try split) <;> omega) _).mono ?_; rintro e w' ⟨rfl, hb⟩)
      all_goals
        go_meet
        case rel => exact ⟨rfl, rfl, rfl, g1.trans hb⟩
    case rest =>
      obtain ⟨rfl, rfl, rfl, g2⟩ := hcut
      clear g1 v2 B
      obtain ⟨t1, t2, t3, t4, t5, t6⟩ := HT.out
      clear HT
      go_wp2_with fail
      refine (known06_any _).mono ?_
      rintro e v3 ⟨rfl, h3⟩
      replace g2 := g2.trans h3
      clear h3
      go_wp2_with (go_at_call 15; refine (lawPart_in _ _ (by assumption)).mono ?_; rintro e w' ⟨rfl, rfl⟩)
      go_ret
      exact ⟨rfl, g2⟩

set_option maxRecDepth 100000 in
theorem lifted (os : Os) (started : os.Started) (H : Type) (enc : TypeId × Value → H) :
    ReturnsInHanded {} Try.checked os 7 .any (Rows.colorClipsSpec.pre6 enc Try.prog Try.f7 Rows.colorClipsRow.domain false) (Rows.colorClipsSpec.post enc Try.prog Try.f7 false true false false) := by
  refine returnsInHanded_of_change_sized (C := Try.checked) own started (by kernel_rfl) Try.func7
    (ChangeSpec.witness6 (enc := enc) (C := Try.checked) false ⟨#[], #[.int .i64 0, .int .i64 0, .int .i64 0], []⟩ 8 (by kernel_rfl) (by kernel_rfl) (by kernel_rfl) (by kernel_rfl)) ?_
  intro W base args ds gs before hval0 hW hcnd hsz0 _
  have hval : ∀ (j : Nat) t v, Try.f7.params[j]? = some t → args[j]? = some v → Value.okWide Try.prog W .any base t v := hval0
  have hsz : (DataW.weightsEach Try.prog (Try.f7.params.toList ++ Rows.colorClipsSpec.plain.varTypes Try.prog) (ds ++ gs)).all (· ≤ reachBytes) = true := hsz0
  have hW' := hW
  obtain ⟨p, q, hA0, hV, rfl, hfz, hnd⟩ := hW
  have hA : DataW.TrodAll enc Try.prog W 0 (fun _ => true) true Try.f7.params.toList args.toList ds p := hA0
  rw [Try.params7] at hA hval hsz
  obtain ⟨v0, vs0, d0, ds0, p0, q0, hargs, rfl, rfl, h0, r0⟩ := trodAll_cons hA
  obtain ⟨v1, vs1, d1, ds1, p1, q1, rfl, rfl, rfl, h1, r1⟩ := trodAll_cons r0
  obtain ⟨v2, vs2, d2, ds2, p2, q2, rfl, rfl, rfl, h2, r2⟩ := trodAll_cons r1
  obtain ⟨rfl, rfl, rfl⟩ := trodAll_nil r2
  obtain rfl : args = #[v0, v1, v2] := by cases args; simp_all
  obtain ⟨rfl, rfl⟩ := trodVars_none hV
  obtain ⟨a0, rfl, rfl, rfl, w0⟩ := open_int Try.underlying3 (hval 0 3 v0 rfl rfl) h0
  obtain ⟨a1, rfl, rfl, rfl, w1⟩ := open_int Try.underlying3 (hval 1 3 v1 rfl rfl) h1
  obtain ⟨a2, rfl, rfl, rfl, w2⟩ := open_int Try.underlying3 (hval 2 3 v2 rfl rfl) h2
  clear hA0 hval0
  refine (walk W a0 w0 a1 w1 a2 w2).mono fun e W' ⟨he, hg⟩ => ?_
  subst he
  exact ⟨_, rfl, law_post laidOut readable rfl Try.underlying4 rfl rfl hW' hg.below⟩

theorem over : Rows.colorClipsRow.holds Try.pinned (OpenSpec.ofChange Rows.colorClipsSpec) :=
  OpenClaim.holds_of_wide 7 Try.f7 rfl rfl rfl rfl rfl rfl rfl ⟨rfl, rfl, rfl, rfl, rfl⟩ rfl rfl rfl rfl rfl (by kernel_rfl) Try.func7 (by kernel_rfl)
    (of_decide_eq_true (by kernel_rfl)) (by unfold Func.isWrapper; first | (rw [if_pos (by decide +kernel)]; kernel_rfl) | (rw [if_neg (by decide +kernel)]; exact ⟨rfl, rfl⟩))
    (fun os started H enc _ => lifted os started H enc)

theorem proved : Rows.ColorClipsSaid :=
  over
end Go.Proofs.Ytgamogjiekefoaa.colorClips
namespace Go.Proofs.Ytgamogjiekefoaa
theorem colorClips_holds : Rows.ColorClipsSaid := colorClips.proved
#print axioms colorClips_holds
end Go.Proofs.Ytgamogjiekefoaa
