/- For every three numbers, the law SecRules of layer 3 returns true: sums may be turned, and taken back; a mask picks one, its opposite the other. No condition. -/
import Derived.Test.YtlglhenbkjffbaaSecLaw
import Derived.Test.YtlglhenbkjffbaaFrame
import Derived.Test.YtlglhenbkjffbaaRows
namespace Go.Proofs.Ytlglhenbkjffbaa.secRules
open Go.ChangeShapes Go.WideShapes Go.ChangeAt Go.RowKit
set_option linter.unusedVariables false

theorem own : ownKnob Try.prog.godebug = none := by kernel_rfl
theorem laidOut : laidOutB Try.prog = true := by kernel_rfl
theorem readable : ∀ t ∈ Try.f7.params.toList, Try.prog.readableRec t = true ∧ t < Try.prog.types.size := by
  rw [Try.params7]
  simp only [List.mem_cons, List.not_mem_nil, or_false, forall_eq_or_imp, forall_eq]
  refine ⟨⟨by kernel_rfl, of_decide_eq_true (by kernel_rfl)⟩, ⟨by kernel_rfl, of_decide_eq_true (by kernel_rfl)⟩, ⟨by kernel_rfl, of_decide_eq_true (by kernel_rfl)⟩⟩

set_option maxHeartbeats 20000000 in
set_option maxRecDepth 100000 in
theorem walk (w : World) (a0 : Int) (w0 : (Lit.int .i64 a0).wf = true) (a1 : Int) (w1 : (Lit.int .i64 a1).wf = true) (a2 : Int) (w2 : (Lit.int .i64 a2).wf = true) :
    Calls Try.prog 7 #[.int .i64 a0, .int .i64 a1, .int .i64 a2] w fun e w' => e = .returned (.bool true) ∧ But Nowhere w w' := by
  have HA : Hid (I64 a0) := i64_in w0
  have HB : Hid (I64 a1) := i64_in w1
  have HC : Hid (I64 a2) := i64_in w2
  clear w0 w1 w2
  have n1 : wrap64 (a1 + a0) = wrap64 (a0 + a1) := by rw [Int.add_comm]
  have n2 : wrap64 (wrap64 (a0 + a1) - a1) = a0 := by have := HA.out; unfold wrap64; omega
  have n3 := mul_over a0 a1 a2
  have n4 : bits .xor .i64 (bits .xor .i64 a0 a1) a1 = a0 := xor_back _ _ HA.out
  have n5 := sel_min a0 a1 HA.out HB.out
  have n6 := sel_max a0 a1 HA.out HB.out
  go_enter Try.func7, Try.ntmps7
  go_wp2_with fail
  refine (of_any _ _).mono ?_
  rintro e v1 ⟨rfl, hb⟩
  have g0 := hb
  clear hb
  have hb := (But.refl Nowhere v1).alloc (.cells #[.int .i64 (a0)] 23)
  replace g0 := g0.trans hb
  clear hb
  have kX : (v1.alloc (.cells #[.int .i64 (a0)] 23)).cell? ⟨v1.heap.size, 0, none⟩ = some (.int .i64 (a0)) := by go_simp
  go_wp2_with fail
  refine (of_any _ _).mono ?_
  rintro e v2 ⟨rfl, hb⟩
  replace kX := hb.keeps (not_nowhere _) kX
  replace g0 := g0.trans hb
  clear hb
  have hb := (But.refl Nowhere v2).alloc (.cells #[.int .i64 (a1)] 23)
  replace kX := hb.keeps (not_nowhere _) kX
  replace g0 := g0.trans hb
  clear hb
  have kY : (v2.alloc (.cells #[.int .i64 (a1)] 23)).cell? ⟨v2.heap.size, 0, none⟩ = some (.int .i64 (a1)) := by go_simp
  go_wp2_with fail
  refine (of_any _ _).mono ?_
  rintro e v3 ⟨rfl, hb⟩
  replace kX := hb.keeps (not_nowhere _) kX
  replace kY := hb.keeps (not_nowhere _) kY
  replace g0 := g0.trans hb
  clear hb
  have hb := (But.refl Nowhere v3).alloc (.cells #[.int .i64 (a2)] 23)
  replace kX := hb.keeps (not_nowhere _) kX
  replace kY := hb.keeps (not_nowhere _) kY
  replace g0 := g0.trans hb
  clear hb
  have kZ : (v3.alloc (.cells #[.int .i64 (a2)] 23)).cell? ⟨v3.heap.size, 0, none⟩ = some (.int .i64 (a2)) := by go_simp
  go_wp2_with (first | (go_at_call 21; refine (less_any _ _ _ (by first | exact HA.out | exact HB.out | exact HC.out) (by first | exact HA.out | exact HB.out | exact HC.out)).mono ?_; rintro e w' ⟨rfl, hb⟩; replace kX := hb.keeps (not_nowhere _) kX; replace kY := hb.keeps (not_nowhere _) kY; replace kZ := hb.keeps (not_nowhere _) kZ; replace g0 := g0.trans hb; clear hb))
  have hb := (But.refl Nowhere w').alloc (.cells #[.int .i64 (lessM a0 a1)] 23)
  replace kX := hb.keeps (not_nowhere _) kX
  replace kY := hb.keeps (not_nowhere _) kY
  replace kZ := hb.keeps (not_nowhere _) kZ
  replace g0 := g0.trans hb
  clear hb
  have kM : (w'.alloc (.cells #[.int .i64 (lessM a0 a1)] 23)).cell? ⟨w'.heap.size, 0, none⟩ = some (.int .i64 (lessM a0 a1)) := by go_simp
  generalize w'.alloc (.cells #[.int .i64 (lessM a0 a1)] 23) = W at g0 kX kY kZ kM ⊢
  first | go_region_held3 (fun u => But Nowhere W u ∧ u.cell? ⟨v1.heap.size, 0, none⟩ = some (.int .i64 (a0)) ∧ u.cell? ⟨v2.heap.size, 0, none⟩ = some (.int .i64 (a1)) ∧ u.cell? ⟨v3.heap.size, 0, none⟩ = some (.int .i64 (a2)))
    ((go_split_ands; refine and_of (fun hq => ⟨hq.keeps (not_nowhere _) kX, hq.keeps (not_nowhere _) kY, hq.keeps (not_nowhere _) kZ⟩) ?_; first | assumption | exact (But.refl _ _).drew | (refine But.step ?_ hb (fun _ _ f => f); assumption)))
    (first | (go_at_call 11; refine (told_any _ _).mono ?_; rintro e u ⟨rfl, hb⟩) | (go_at_call 12; refine (add_any _ _ _).mono ?_; rintro e u ⟨rfl, hb⟩) | (go_at_call 13; refine (sub_any _ _ _).mono ?_; rintro e u ⟨rfl, hb⟩) | (go_at_call 14; refine (mul_any _ _ _).mono ?_; rintro e u ⟨rfl, hb⟩)) | fail
  rename_i hh
  obtain ⟨q0, -⟩ := hh
  replace kX := q0.keeps (not_nowhere _) kX
  replace kY := q0.keeps (not_nowhere _) kY
  replace kM := q0.keeps (not_nowhere _) kM
  replace g0 := g0.trans q0
  clear q0 kZ
  go_wp2_with fail
  generalize lessM a0 a1 = mk at kM n5 n6 ⊢
  generalize hmn : (if a1 < a0 then a1 else a0) = mn at n5
  generalize hmx : (if a0 < a1 then a1 else a0) = mx at n6
  first | go_region_held3 (fun z => But Nowhere u z ∧ z.cell? ⟨v1.heap.size, 0, none⟩ = some (.int .i64 (a0)) ∧ z.cell? ⟨v2.heap.size, 0, none⟩ = some (.int .i64 (a1)) ∧ z.cell? ⟨w'.heap.size, 0, none⟩ = some (.int .i64 (mk)))
    ((go_split_ands; refine and_of (fun hq => ⟨hq.keeps (not_nowhere _) kX, hq.keeps (not_nowhere _) kY, hq.keeps (not_nowhere _) kM⟩) ?_; first | assumption | exact (But.refl _ _).drew | (refine But.step ?_ hb (fun _ _ f => f); assumption)))
    (first | (go_at_call 18; refine (known_any _).mono ?_; rintro e z ⟨rfl, hb⟩) | (go_at_call 11; refine (told_any _ _).mono ?_; rintro e z ⟨rfl, hb⟩) | (go_at_call 25; refine (select_any _ _ _ _).mono ?_; rintro e z ⟨rfl, hb⟩) | (go_at_call 19; refine (not_any _ _).mono ?_; rintro e z ⟨rfl, hb⟩) | (go_at_call 17; refine (xor_any _ _ _).mono ?_; rintro e z ⟨rfl, hb⟩)) | fail
  all_goals
    rename_i hh
    obtain ⟨q0, -⟩ := hh
    replace g0 := g0.trans q0
    clear q0
    go_wp2_with fail
    go_ret
    exact ⟨rfl, g0⟩

set_option maxRecDepth 100000 in
theorem lifted (os : Os) (started : os.Started) (H : Type) (enc : TypeId × Value → H) :
    ReturnsInHanded {} Try.checked os 7 .any (Rows.secRulesSpec.pre6 enc Try.prog Try.f7 Rows.secRulesRow.domain false) (Rows.secRulesSpec.post enc Try.prog Try.f7 false true false false) := by
  refine returnsInHanded_of_change_sized (C := Try.checked) own started (by kernel_rfl) Try.func7
    (ChangeSpec.witness6 (enc := enc) (C := Try.checked) false ⟨#[], #[.int .i64 0, .int .i64 0, .int .i64 0], []⟩ 8 (by kernel_rfl) (by kernel_rfl) (by kernel_rfl) (by kernel_rfl)) ?_
  intro W base args ds gs before hval0 hW hcnd hsz0 _
  have hval : ∀ (j : Nat) t v, Try.f7.params[j]? = some t → args[j]? = some v → Value.okWide Try.prog W .any base t v := hval0
  have hsz : (DataW.weightsEach Try.prog (Try.f7.params.toList ++ Rows.secRulesSpec.plain.varTypes Try.prog) (ds ++ gs)).all (· ≤ reachBytes) = true := hsz0
  have hW' := hW
  obtain ⟨p, q, hA0, hV, rfl, hfz, hnd⟩ := hW
  have hA : DataW.TrodAll enc Try.prog W 0 (fun _ => true) true Try.f7.params.toList args.toList ds p := hA0
  rw [Try.params7] at hA hval hsz
  obtain ⟨v0, vs0, d0, ds0, p0, q0, hargs, rfl, rfl, h0, r0⟩ := trodAll_cons hA
  obtain ⟨v1, vs1, d1, ds1, p1, q1, rfl, rfl, rfl, h1, r1⟩ := trodAll_cons r0
  obtain ⟨v2, vs2, d2, ds2, p2, q2, rfl, rfl, rfl, h2, r2⟩ := trodAll_cons r1
  obtain ⟨rfl, rfl, rfl⟩ := trodAll_nil r2
  obtain rfl : args = #[v0, v1, v2] := by cases args; simp_all
  obtain ⟨rfl, rfl⟩ := trodVars_none hV
  obtain ⟨a0, rfl, rfl, rfl, w0⟩ := open_int Try.underlying3 (hval 0 3 v0 rfl rfl) h0
  obtain ⟨a1, rfl, rfl, rfl, w1⟩ := open_int Try.underlying3 (hval 1 3 v1 rfl rfl) h1
  obtain ⟨a2, rfl, rfl, rfl, w2⟩ := open_int Try.underlying3 (hval 2 3 v2 rfl rfl) h2
  clear hA0 hval0
  refine (walk W a0 w0 a1 w1 a2 w2).mono fun e W' ⟨he, hg⟩ => ?_
  subst he
  exact ⟨_, rfl, law_post laidOut readable rfl Try.underlying4 rfl rfl hW' hg.below⟩

theorem over : Rows.secRulesRow.holds Try.pinned (OpenSpec.ofChange Rows.secRulesSpec) :=
  OpenClaim.holds_of_wide 7 Try.f7 rfl rfl rfl rfl rfl rfl rfl ⟨rfl, rfl, rfl, rfl, rfl⟩ rfl rfl rfl rfl rfl (by kernel_rfl) Try.func7 (by kernel_rfl)
    (of_decide_eq_true (by kernel_rfl)) (by unfold Func.isWrapper; first | (rw [if_pos (by decide +kernel)]; kernel_rfl) | (rw [if_neg (by decide +kernel)]; exact ⟨rfl, rfl⟩))
    (fun os started H enc _ => lifted os started H enc)

theorem proved : Rows.SecRulesSaid :=
  over
end Go.Proofs.Ytlglhenbkjffbaa.secRules
namespace Go.Proofs.Ytlglhenbkjffbaa
theorem secRules_holds : Rows.SecRulesSaid := secRules.proved
#print axioms secRules_holds
end Go.Proofs.Ytlglhenbkjffbaa
