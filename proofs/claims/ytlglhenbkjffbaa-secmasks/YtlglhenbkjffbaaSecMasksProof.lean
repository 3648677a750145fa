/- For every numbers, the law SecMasks of layer 3 returns true: Less, Equal, Select, Clip and Abs of any secrets are what the chapter says. No condition. -/
import Derived.Test.YtlglhenbkjffbaaSecRef
import Derived.Test.YtlglhenbkjffbaaFrame
import Derived.Test.YtlglhenbkjffbaaRows
namespace Go.Proofs.Ytlglhenbkjffbaa.secMasks
open Go.ChangeShapes Go.WideShapes Go.ChangeAt Go.RowKit
set_option linter.unusedVariables false

theorem own : ownKnob Try.prog.godebug = none := by kernel_rfl
theorem laidOut : laidOutB Try.prog = true := by kernel_rfl
theorem readable : ∀ t ∈ Try.f4.params.toList, Try.prog.readableRec t = true ∧ t < Try.prog.types.size := by
  rw [Try.params4]
  simp only [List.mem_cons, List.not_mem_nil, or_false, forall_eq_or_imp, forall_eq]
  refine ⟨⟨by kernel_rfl, of_decide_eq_true (by kernel_rfl)⟩, ⟨by kernel_rfl, of_decide_eq_true (by kernel_rfl)⟩, ⟨by kernel_rfl, of_decide_eq_true (by kernel_rfl)⟩, ⟨by kernel_rfl, of_decide_eq_true (by kernel_rfl)⟩, ⟨by kernel_rfl, of_decide_eq_true (by kernel_rfl)⟩, ⟨by kernel_rfl, of_decide_eq_true (by kernel_rfl)⟩⟩

set_option maxHeartbeats 20000000 in
set_option maxRecDepth 100000 in
theorem walk (w : World) (a0 : Int) (w0 : (Lit.int .i64 a0).wf = true) (a1 : Int) (w1 : (Lit.int .i64 a1).wf = true) (a2 : Int) (w2 : (Lit.int .i64 a2).wf = true) (a3 : Int) (w3 : (Lit.int .i64 a3).wf = true) (a4 : Int) (w4 : (Lit.int .i64 a4).wf = true) (a5 : Int) (w5 : (Lit.int .u8 a5).wf = true) :
    Calls Try.prog 4 #[.int .i64 a0, .int .i64 a1, .int .i64 a2, .int .i64 a3, .int .i64 a4, .int .u8 a5] w fun e w' => e = .returned (.bool true) ∧ But Nowhere w w' := by
  have HA : Hid (I64 a0) := i64_in w0
  have HB : Hid (I64 a1) := i64_in w1
  have HM : Hid (I64 a2) := i64_in w2
  have HL : Hid (I64 a3) := i64_in w3
  have HH : Hid (I64 a4) := i64_in w4
  have HZ : Hid (I64 (a0 / 2 ^ (a5 % 64).toNat)) := shr_in _ _ HA.out
  have HW : Hid (I64 (a1 / 2 ^ (a5 % 64).toNat)) := shr_in _ _ HB.out
  obtain ⟨u0, u1⟩ := u8_in w5
  have m0 : 0 ≤ a5 % 64 := by omega
  have m1 : a5 % 64 ≤ 64 := by omega
  have hE : eqM a0 a0 = -1 := by simp [eqM, maskF]
  clear w0 w1 w2 w3 w4 w5
  go_enter Try.func4, Try.ntmps4
  go_wp2_with fail
  refine (of_any _ _).mono ?_
  rintro e v1 ⟨rfl, hb⟩
  have g0 := hb
  clear hb
  have hb := (But.refl Nowhere v1).alloc (.cells #[.int .i64 (a0)] 23)
  replace g0 := g0.trans hb
  clear hb
  have kX : (v1.alloc (.cells #[.int .i64 (a0)] 23)).cell? ⟨v1.heap.size, 0, none⟩ = some (.int .i64 (a0)) := by go_simp
  go_wp2_with fail
  refine (of_any _ _).mono ?_
  rintro e v2 ⟨rfl, hb⟩
  replace kX := hb.keeps (not_nowhere _) kX
  replace g0 := g0.trans hb
  clear hb
  have hb := (But.refl Nowhere v2).alloc (.cells #[.int .i64 (a1)] 23)
  replace kX := hb.keeps (not_nowhere _) kX
  replace g0 := g0.trans hb
  clear hb
  have kY : (v2.alloc (.cells #[.int .i64 (a1)] 23)).cell? ⟨v2.heap.size, 0, none⟩ = some (.int .i64 (a1)) := by go_simp
  go_wp2_with fail
  refine (of_any _ _).mono ?_
  rintro e v3 ⟨rfl, hb⟩
  replace kX := hb.keeps (not_nowhere _) kX
  replace kY := hb.keeps (not_nowhere _) kY
  replace g0 := g0.trans hb
  clear hb
  have hb := (But.refl Nowhere v3).alloc (.cells #[.int .i64 (a0 / 2 ^ (a5 % 64).toNat)] 23)
  replace kX := hb.keeps (not_nowhere _) kX
  replace kY := hb.keeps (not_nowhere _) kY
  replace g0 := g0.trans hb
  clear hb
  have kZ : (v3.alloc (.cells #[.int .i64 (a0 / 2 ^ (a5 % 64).toNat)] 23)).cell? ⟨v3.heap.size, 0, none⟩ = some (.int .i64 (a0 / 2 ^ (a5 % 64).toNat)) := by go_simp
  go_wp2_with fail
  refine (of_any _ _).mono ?_
  rintro e v4 ⟨rfl, hb⟩
  replace kX := hb.keeps (not_nowhere _) kX
  replace kY := hb.keeps (not_nowhere _) kY
  replace kZ := hb.keeps (not_nowhere _) kZ
  replace g0 := g0.trans hb
  clear hb
  have hb := (But.refl Nowhere v4).alloc (.cells #[.int .i64 (a1 / 2 ^ (a5 % 64).toNat)] 23)
  replace kX := hb.keeps (not_nowhere _) kX
  replace kY := hb.keeps (not_nowhere _) kY
  replace kZ := hb.keeps (not_nowhere _) kZ
  replace g0 := g0.trans hb
  clear hb
  have kW : (v4.alloc (.cells #[.int .i64 (a1 / 2 ^ (a5 % 64).toNat)] 23)).cell? ⟨v4.heap.size, 0, none⟩ = some (.int .i64 (a1 / 2 ^ (a5 % 64).toNat)) := by go_simp
  go_wp2_with (first | (go_at_call 11; refine (told_any _ _).mono ?_; rintro e w' ⟨rfl, hb⟩; replace kX := hb.keeps (not_nowhere _) kX; replace kY := hb.keeps (not_nowhere _) kY; replace kZ := hb.keeps (not_nowhere _) kZ; replace kW := hb.keeps (not_nowhere _) kW; replace g0 := g0.trans hb; clear hb) | (go_at_call 21; refine (less_any _ _ _ (by first | exact HA.out | exact HB.out | exact HZ.out | exact HW.out | exact HL.out | exact HH.out | exact HM.out) (by first | exact HA.out | exact HB.out | exact HZ.out | exact HW.out | exact HL.out | exact HH.out | exact HM.out)).mono ?_; rintro e w' ⟨rfl, hb⟩; replace kX := hb.keeps (not_nowhere _) kX; replace kY := hb.keeps (not_nowhere _) kY; replace kZ := hb.keeps (not_nowhere _) kZ; replace kW := hb.keeps (not_nowhere _) kW; replace g0 := g0.trans hb; clear hb) | (go_at_call 23; refine (equal_mask _ _ _ (by first | exact HA.out | exact HB.out | exact HZ.out | exact HW.out | exact HL.out | exact HH.out | exact HM.out) (by first | exact HA.out | exact HB.out | exact HZ.out | exact HW.out | exact HL.out | exact HH.out | exact HM.out)).mono ?_; rintro e w' ⟨rfl, hb⟩; replace kX := hb.keeps (not_nowhere _) kX; replace kY := hb.keeps (not_nowhere _) kY; replace kZ := hb.keeps (not_nowhere _) kZ; replace kW := hb.keeps (not_nowhere _) kW; replace g0 := g0.trans hb; clear hb) | (go_at_call 22; refine (refLess _ _ _).mono ?_; rintro e w' ⟨rfl, rfl⟩) | (go_at_call 24; refine (refEqual _ _ _).mono ?_; rintro e w' ⟨rfl, rfl⟩))
  clear kZ kW
  first | go_region_held3 (fun u => But Nowhere w' u ∧ u.cell? ⟨v1.heap.size, 0, none⟩ = some (.int .i64 (a0)) ∧ u.cell? ⟨v2.heap.size, 0, none⟩ = some (.int .i64 (a1)))
    ((go_split_ands; refine and_of (fun hq => ⟨hq.keeps (not_nowhere _) kX, hq.keeps (not_nowhere _) kY⟩) ?_; first | assumption | exact (But.refl _ _).drew | (refine But.step ?_ hb (fun _ _ f => f); assumption)))
    (first | (go_at_call 11; refine (told_any _ _).mono ?_; rintro e u ⟨rfl, hb⟩) | (go_at_call 10; refine (of_any _ _).mono ?_; rintro e u ⟨rfl, hb⟩) | (go_at_call 25; refine (select_any _ _ _ _).mono ?_; rintro e u ⟨rfl, hb⟩) | (go_at_call 26; refine (refSelect _ _ _ _ (by first | exact HA.out | exact HB.out | exact HZ.out | exact HW.out | exact HL.out | exact HH.out | exact HM.out)).mono ?_; rintro e u ⟨rfl, hw⟩; have hb := But.ofEq (S := Nowhere) hw; clear hw) | (go_at_call 27; refine (clip_any _ _ _ _ (by first | exact HA.out | exact HB.out | exact HZ.out | exact HW.out | exact HL.out | exact HH.out | exact HM.out) (by first | exact HA.out | exact HB.out | exact HZ.out | exact HW.out | exact HL.out | exact HH.out | exact HM.out) (by first | exact HA.out | exact HB.out | exact HZ.out | exact HW.out | exact HL.out | exact HH.out | exact HM.out)).mono ?_; rintro e u ⟨rfl, hb⟩) | (go_at_call 28; refine (refClip _ _ _ _).mono ?_; rintro e u ⟨rfl, hw⟩; have hb := But.ofEq (S := Nowhere) hw; clear hw) | (go_at_call 29; refine (abs_any _ _ (by first | exact HA.out | exact HB.out | exact HZ.out | exact HW.out | exact HL.out | exact HH.out | exact HM.out)).mono ?_; rintro e u ⟨rfl, hb⟩) | (go_at_call 30; refine (refAbs _ _).mono ?_; rintro e u ⟨rfl, hw⟩; have hb := But.ofEq (S := Nowhere) hw; clear hw) | (go_at_call 23; refine (equal_mask _ _ _ (by first | exact HA.out | exact HB.out | exact HZ.out | exact HW.out | exact HL.out | exact HH.out | exact HM.out) (by first | exact HA.out | exact HB.out | exact HZ.out | exact HW.out | exact HL.out | exact HH.out | exact HM.out)).mono ?_; rintro e u ⟨rfl, hb⟩)) | fail
  all_goals
    rename_i hh
    obtain ⟨q0, -⟩ := hh
    have g1 := g0.trans q0
    clear q0
    go_wp2_with (go_at_call 18; refine (known_any _).mono ?_; rintro e z ⟨rfl, hb⟩)
    go_ret
    exact ⟨rfl, g1.trans hb⟩

set_option maxRecDepth 100000 in
theorem lifted (os : Os) (started : os.Started) (H : Type) (enc : TypeId × Value → H) :
    ReturnsInHanded {} Try.checked os 4 .any (Rows.secMasksSpec.pre6 enc Try.prog Try.f4 Rows.secMasksRow.domain false) (Rows.secMasksSpec.post enc Try.prog Try.f4 false true false false) := by
  refine returnsInHanded_of_change_sized (C := Try.checked) own started (by kernel_rfl) Try.func4
    (ChangeSpec.witness6 (enc := enc) (C := Try.checked) false ⟨#[], #[.int .i64 0, .int .i64 0, .int .i64 0, .int .i64 0, .int .i64 0, .int .u8 0], []⟩ 8 (by kernel_rfl) (by kernel_rfl) (by kernel_rfl) (by kernel_rfl)) ?_
  intro W base args ds gs before hval0 hW hcnd hsz0 _
  have hval : ∀ (j : Nat) t v, Try.f4.params[j]? = some t → args[j]? = some v → Value.okWide Try.prog W .any base t v := hval0
  have hsz : (DataW.weightsEach Try.prog (Try.f4.params.toList ++ Rows.secMasksSpec.plain.varTypes Try.prog) (ds ++ gs)).all (· ≤ reachBytes) = true := hsz0
  have hW' := hW
  obtain ⟨p, q, hA0, hV, rfl, hfz, hnd⟩ := hW
  have hA : DataW.TrodAll enc Try.prog W 0 (fun _ => true) true Try.f4.params.toList args.toList ds p := hA0
  rw [Try.params4] at hA hval hsz
  obtain ⟨v0, vs0, d0, ds0, p0, q0, hargs, rfl, rfl, h0, r0⟩ := trodAll_cons hA
  obtain ⟨v1, vs1, d1, ds1, p1, q1, rfl, rfl, rfl, h1, r1⟩ := trodAll_cons r0
  obtain ⟨v2, vs2, d2, ds2, p2, q2, rfl, rfl, rfl, h2, r2⟩ := trodAll_cons r1
  obtain ⟨v3, vs3, d3, ds3, p3, q3, rfl, rfl, rfl, h3, r3⟩ := trodAll_cons r2
  obtain ⟨v4, vs4, d4, ds4, p4, q4, rfl, rfl, rfl, h4, r4⟩ := trodAll_cons r3
  obtain ⟨v5, vs5, d5, ds5, p5, q5, rfl, rfl, rfl, h5, r5⟩ := trodAll_cons r4
  obtain ⟨rfl, rfl, rfl⟩ := trodAll_nil r5
  obtain rfl : args = #[v0, v1, v2, v3, v4, v5] := by cases args; simp_all
  obtain ⟨rfl, rfl⟩ := trodVars_none hV
  obtain ⟨a0, rfl, rfl, rfl, w0⟩ := open_int Try.underlying3 (hval 0 3 v0 rfl rfl) h0
  obtain ⟨a1, rfl, rfl, rfl, w1⟩ := open_int Try.underlying3 (hval 1 3 v1 rfl rfl) h1
  obtain ⟨a2, rfl, rfl, rfl, w2⟩ := open_int Try.underlying3 (hval 2 3 v2 rfl rfl) h2
  obtain ⟨a3, rfl, rfl, rfl, w3⟩ := open_int Try.underlying3 (hval 3 3 v3 rfl rfl) h3
  obtain ⟨a4, rfl, rfl, rfl, w4⟩ := open_int Try.underlying3 (hval 4 3 v4 rfl rfl) h4
  obtain ⟨a5, rfl, rfl, rfl, w5⟩ := open_int Try.underlying5 (hval 5 5 v5 rfl rfl) h5
  clear hA0 hval0
  refine (walk W a0 w0 a1 w1 a2 w2 a3 w3 a4 w4 a5 w5).mono fun e W' ⟨he, hg⟩ => ?_
  subst he
  exact ⟨_, rfl, law_post laidOut readable rfl Try.underlying4 rfl rfl hW' hg.below⟩

theorem over : Rows.secMasksRow.holds Try.pinned (OpenSpec.ofChange Rows.secMasksSpec) :=
  OpenClaim.holds_of_wide 4 Try.f4 rfl rfl rfl rfl rfl rfl rfl ⟨rfl, rfl, rfl, rfl, rfl⟩ rfl rfl rfl rfl rfl (by kernel_rfl) Try.func4 (by kernel_rfl)
    (of_decide_eq_true (by kernel_rfl)) (by unfold Func.isWrapper; first | (rw [if_pos (by decide +kernel)]; kernel_rfl) | (rw [if_neg (by decide +kernel)]; exact ⟨rfl, rfl⟩))
    (fun os started H enc _ => lifted os started H enc)

theorem proved : Rows.SecMasksSaid :=
  over
end Go.Proofs.Ytlglhenbkjffbaa.secMasks
namespace Go.Proofs.Ytlglhenbkjffbaa
theorem secMasks_holds : Rows.SecMasksSaid := secMasks.proved
#print axioms secMasks_holds
end Go.Proofs.Ytlglhenbkjffbaa
