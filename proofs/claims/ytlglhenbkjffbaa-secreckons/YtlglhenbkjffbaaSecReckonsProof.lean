/- For every two numbers, the law SecReckons of layer 3 returns true: what is reckoned with any two secrets is what is reckoned with numbers. No condition. -/
import Derived.Test.YtlglhenbkjffbaaSecLaw
import Derived.Test.YtlglhenbkjffbaaFrame
import Derived.Test.YtlglhenbkjffbaaRows
namespace Go.Proofs.Ytlglhenbkjffbaa.secReckons
open Go.ChangeShapes Go.WideShapes Go.ChangeAt Go.RowKit
set_option linter.unusedVariables false

theorem own : ownKnob Try.prog.godebug = none := by kernel_rfl
theorem laidOut : laidOutB Try.prog = true := by kernel_rfl
theorem readable : ∀ t ∈ Try.f3.params.toList, Try.prog.readableRec t = true ∧ t < Try.prog.types.size := by
  rw [Try.params3]
  simp only [List.mem_cons, List.not_mem_nil, or_false, forall_eq_or_imp, forall_eq]
  refine ⟨⟨by kernel_rfl, of_decide_eq_true (by kernel_rfl)⟩, ⟨by kernel_rfl, of_decide_eq_true (by kernel_rfl)⟩⟩

set_option maxHeartbeats 20000000 in
set_option maxRecDepth 100000 in
theorem walk (w : World) (a0 : Int) (w0 : (Lit.int .i64 a0).wf = true) (a1 : Int) (w1 : (Lit.int .i64 a1).wf = true) :
    Calls Try.prog 3 #[.int .i64 a0, .int .i64 a1] w fun e w' => e = .returned (.bool true) ∧ But Nowhere w w' := by
  have ha := i64_in w0
  have hn := xor_not a0 ha
  have hw : wrap64 (-1 - a0) = -1 - a0 := w64 _ (by omega)
  clear ha w0 w1
  have g0 := But.refl Nowhere w
  go_enter Try.func3, Try.ntmps3
  go_wp2_with fail
  refine (of_any _ _).mono ?_
  rintro e v1 ⟨rfl, h1⟩
  go_wp2_with fail
  refine (of_any _ _).mono ?_
  rintro e v2 ⟨rfl, h2⟩
  have kX := h2.keeps (p := ⟨v1.heap.size, 0, none⟩) (v := .int .i64 a0) (not_nowhere _) (by go_simp)
  have g1 : But Nowhere w v2 := (h1.alloc _).trans h2
  have g0 := g1.alloc (.cells #[.int .i64 a1] 23)
  replace kX := ((But.refl Nowhere v2).alloc (.cells #[.int .i64 a1] 23)).keeps (not_nowhere _) kX
  have kY : (v2.alloc (.cells #[.int .i64 a1] 23)).cell? ⟨v2.heap.size, 0, none⟩ = some (.int .i64 a1) := by go_simp
  clear h1 h2 g1
  go_wp2_with (first | (go_at_call 11; refine (told_any _ _).mono ?_; rintro e w' ⟨rfl, hb⟩; replace kX := hb.keeps (not_nowhere _) kX; replace kY := hb.keeps (not_nowhere _) kY; replace g0 := g0.trans hb; clear hb) | (go_at_call 12; refine (add_any _ _ _).mono ?_; rintro e w' ⟨rfl, hb⟩; replace kX := hb.keeps (not_nowhere _) kX; replace kY := hb.keeps (not_nowhere _) kY; replace g0 := g0.trans hb; clear hb) | (go_at_call 13; refine (sub_any _ _ _).mono ?_; rintro e w' ⟨rfl, hb⟩; replace kX := hb.keeps (not_nowhere _) kX; replace kY := hb.keeps (not_nowhere _) kY; replace g0 := g0.trans hb; clear hb) | (go_at_call 14; refine (mul_any _ _ _).mono ?_; rintro e w' ⟨rfl, hb⟩; replace kX := hb.keeps (not_nowhere _) kX; replace kY := hb.keeps (not_nowhere _) kY; replace g0 := g0.trans hb; clear hb) | (go_at_call 15; refine (and_any _ _ _).mono ?_; rintro e w' ⟨rfl, hb⟩; replace kX := hb.keeps (not_nowhere _) kX; replace kY := hb.keeps (not_nowhere _) kY; replace g0 := g0.trans hb; clear hb) | (go_at_call 16; refine (or_any _ _ _).mono ?_; rintro e w' ⟨rfl, hb⟩; replace kX := hb.keeps (not_nowhere _) kX; replace kY := hb.keeps (not_nowhere _) kY; replace g0 := g0.trans hb; clear hb) | (go_at_call 17; refine (xor_any _ _ _).mono ?_; rintro e w' ⟨rfl, hb⟩; replace kX := hb.keeps (not_nowhere _) kX; replace kY := hb.keeps (not_nowhere _) kY; replace g0 := g0.trans hb; clear hb) | (go_at_call 18; refine (known_any _).mono ?_; rintro e w' ⟨rfl, hb⟩; replace kX := hb.keeps (not_nowhere _) kX; replace kY := hb.keeps (not_nowhere _) kY; replace g0 := g0.trans hb; clear hb) | (go_at_call 19; refine (not_any _ _).mono ?_; rintro e w' ⟨rfl, hb⟩; replace kX := hb.keeps (not_nowhere _) kX; replace kY := hb.keeps (not_nowhere _) kY; replace g0 := g0.trans hb; clear hb) | (go_at_call 20; refine (neg_any _ _).mono ?_; rintro e w' ⟨rfl, hb⟩; replace kX := hb.keeps (not_nowhere _) kX; replace kY := hb.keeps (not_nowhere _) kY; replace g0 := g0.trans hb; clear hb))
  go_ret
  exact ⟨rfl, g0⟩

set_option maxRecDepth 100000 in
theorem lifted (os : Os) (started : os.Started) (H : Type) (enc : TypeId × Value → H) :
    ReturnsInHanded {} Try.checked os 3 .any (Rows.secReckonsSpec.pre6 enc Try.prog Try.f3 Rows.secReckonsRow.domain false) (Rows.secReckonsSpec.post enc Try.prog Try.f3 false true false false) := by
  refine returnsInHanded_of_change_sized (C := Try.checked) own started (by kernel_rfl) Try.func3
    (ChangeSpec.witness6 (enc := enc) (C := Try.checked) false ⟨#[], #[.int .i64 0, .int .i64 0], []⟩ 8 (by kernel_rfl) (by kernel_rfl) (by kernel_rfl) (by kernel_rfl)) ?_
  intro W base args ds gs before hval0 hW hcnd hsz0 _
  have hval : ∀ (j : Nat) t v, Try.f3.params[j]? = some t → args[j]? = some v → Value.okWide Try.prog W .any base t v := hval0
  have hsz : (DataW.weightsEach Try.prog (Try.f3.params.toList ++ Rows.secReckonsSpec.plain.varTypes Try.prog) (ds ++ gs)).all (· ≤ reachBytes) = true := hsz0
  have hW' := hW
  obtain ⟨p, q, hA0, hV, rfl, hfz, hnd⟩ := hW
  have hA : DataW.TrodAll enc Try.prog W 0 (fun _ => true) true Try.f3.params.toList args.toList ds p := hA0
  rw [Try.params3] at hA hval hsz
  obtain ⟨v0, vs0, d0, ds0, p0, q0, hargs, rfl, rfl, h0, r0⟩ := trodAll_cons hA
  obtain ⟨v1, vs1, d1, ds1, p1, q1, rfl, rfl, rfl, h1, r1⟩ := trodAll_cons r0
  obtain ⟨rfl, rfl, rfl⟩ := trodAll_nil r1
  obtain rfl : args = #[v0, v1] := by cases args; simp_all
  obtain ⟨rfl, rfl⟩ := trodVars_none hV
  obtain ⟨a0, rfl, rfl, rfl, w0⟩ := open_int Try.underlying3 (hval 0 3 v0 rfl rfl) h0
  obtain ⟨a1, rfl, rfl, rfl, w1⟩ := open_int Try.underlying3 (hval 1 3 v1 rfl rfl) h1
  clear hA0 hval0
  refine (walk W a0 w0 a1 w1).mono fun e W' ⟨he, hg⟩ => ?_
  subst he
  exact ⟨_, rfl, law_post laidOut readable rfl Try.underlying4 rfl rfl hW' hg.below⟩

theorem over : Rows.secReckonsRow.holds Try.pinned (OpenSpec.ofChange Rows.secReckonsSpec) :=
  OpenClaim.holds_of_wide 3 Try.f3 rfl rfl rfl rfl rfl rfl rfl ⟨rfl, rfl, rfl, rfl, rfl⟩ rfl rfl rfl rfl rfl (by kernel_rfl) Try.func3 (by kernel_rfl)
    (of_decide_eq_true (by kernel_rfl)) (by unfold Func.isWrapper; first | (rw [if_pos (by decide +kernel)]; kernel_rfl) | (rw [if_neg (by decide +kernel)]; exact ⟨rfl, rfl⟩))
    (fun os started H enc _ => lifted os started H enc)

theorem proved : Rows.SecReckonsSaid :=
  over
end Go.Proofs.Ytlglhenbkjffbaa.secReckons
namespace Go.Proofs.Ytlglhenbkjffbaa
theorem secReckons_holds : Rows.SecReckonsSaid := secReckons.proved
#print axioms secReckons_holds
end Go.Proofs.Ytlglhenbkjffbaa
