/- For every list of numbers, every list of bytes and every byte k the law OptimSizes of layer 11 returns true: sizes, tables and costs are what the document says -/
import Derived.Test.YtlpeplihbdcklaaMgL
import Derived.Test.YtlpeplihbdcklaaFrame
import Derived.Test.YtlpeplihbdcklaaRows
namespace Go.Proofs.Ytlpeplihbdcklaa.optimSizes
open Go.ChangeShapes Go.WideShapes Go.ChangeAt Go.RowKit
set_option linter.unusedVariables false

theorem own : ownKnob Try.prog.godebug = none := by kernel_rfl
theorem laidOut : laidOutB Try.prog = true := by kernel_rfl
theorem readable : ∀ t ∈ Try.f3.params.toList, Try.prog.readableRec t = true ∧ t < Try.prog.types.size := by
  rw [Try.params3]
  simp only [List.mem_cons, List.not_mem_nil, or_false, forall_eq_or_imp, forall_eq]
  refine ⟨⟨by kernel_rfl, of_decide_eq_true (by kernel_rfl)⟩, ⟨by kernel_rfl, of_decide_eq_true (by kernel_rfl)⟩, ⟨by kernel_rfl, of_decide_eq_true (by kernel_rfl)⟩⟩

set_option maxHeartbeats 20000000 in
set_option maxRecDepth 100000 in
theorem walk (w : World) (v0 : Value) (l0 : List Int) (s0 : View w .i64 v0 l0) (x0 : ∀ x ∈ l0, I64 x) (n0 : l0.length ≤ 17592186044416) (y0 : Roomy v0) (v1 : Value) (l1 : List Int) (s1 : View w .u8 v1 l1) (x1 : ∀ x ∈ l1, 0 ≤ x ∧ x ≤ 255) (n1 : l1.length ≤ 140737488355328) (a2 : Int) (w2 : (Lit.int .u8 a2).wf = true) :
    Calls Try.prog 3 #[v0, v1, .int .u8 a2] w fun e w' => e = .returned (.bool true) ∧ But Nowhere w w' := by
  have u2 := u8_in w2
  obtain ⟨ao, cap, rfl⟩ := s0.slice
  have hcap : l0.length ≤ cap := y0 _ _ _ rfl
  have hb : But Nowhere w w := But.refl _ _
  have hv : View w .i64 (.slice ao l0.length cap) l0 := s0
  have hc : View w .u8 v1 l1 := s1
  clear s0 s1 y0
  go_enter Try.func3, Try.ntmps3
  by_cases h : 300 < l0.length
  · have d1 : decide ((l0.length : Int) > 300) = true := by simp; omega
    go_wp2_with (go_at_call 8; refine (known_any _).mono ?_; rintro e yk ⟨rfl, dk⟩; replace hb := hb.trans dk; replace hv := hv.but dk; replace hc := hc.but dk; clear dk)
    go_ret
    exact ⟨rfl, hb⟩
  · have d1 : decide ((l0.length : Int) > 300) = false := by simp; omega
    go_wp2_with (first | (go_at_call 8; refine (known_any _).mono ?_; rintro e yk ⟨rfl, dk⟩; replace hb := hb.trans dk; replace hv := hv.but dk; replace hc := hc.but dk; clear dk) | (go_at_call 9; refine (sizes_law ao cap l0 x0 (by omega) hcap _ hv).mono ?_; rintro e y1 ⟨rfl, d⟩; replace hb := hb.trans d; replace hc := hc.but d; clear d hv hcap x0) | (go_at_call 10; refine (often_any v1 l1 a2 u2 _ hc x1 n1).mono ?_; rintro e y2 ⟨ao2, cap2, m, rfl, hv2, hcap2, hm, hall, d⟩; replace hb := hb.trans d; clear d hc; have hI : ∀ x ∈ m, I64 x := fun x hx => (by have := hall x hx; unfold I64; omega); have hml : m.length ≤ 140737488355328 := (by omega)) | (go_at_call 9; refine (sizes_law ao2 cap2 m hI hml hcap2 _ hv2).mono ?_; rintro e y3 ⟨rfl, d⟩; replace hb := hb.trans d; clear d))
    go_ret
    exact ⟨rfl, hb⟩

set_option maxRecDepth 100000 in
theorem lifted (os : Os) (started : os.Started) (H : Type) (enc : TypeId × Value → H) :
    ReturnsInHanded {} Try.checked os 3 .any (Rows.optimSizesSpec.pre6 enc Try.prog Try.f3 Rows.optimSizesRow.domain false) (Rows.optimSizesSpec.post enc Try.prog Try.f3 false true false false) := by
  refine returnsInHanded_of_change_sized (C := Try.checked) own started (by kernel_rfl) Try.func3
    (ChangeSpec.witness6 (enc := enc) (C := Try.checked) false ⟨#[], #[.slice none 0 0, .slice none 0 0, .int .u8 0], []⟩ 8 (by kernel_rfl) (by kernel_rfl) (by kernel_rfl) (by kernel_rfl)) ?_
  intro W base args ds gs before hval0 hW hcnd hsz0 _
  have hval : ∀ (j : Nat) t v, Try.f3.params[j]? = some t → args[j]? = some v → Value.okWide Try.prog W .any base t v := hval0
  have hsz : (DataW.weightsEach Try.prog (Try.f3.params.toList ++ Rows.optimSizesSpec.plain.varTypes Try.prog) (ds ++ gs)).all (· ≤ reachBytes) = true := hsz0
  have hW' := hW
  obtain ⟨p, q, hA0, hV, rfl, hfz, hnd⟩ := hW
  have hA : DataW.TrodAll enc Try.prog W 0 (fun _ => true) true Try.f3.params.toList args.toList ds p := hA0
  rw [Try.params3] at hA hval hsz
  obtain ⟨v0, vs0, d0, ds0, p0, q0, hargs, rfl, rfl, h0, r0⟩ := trodAll_cons hA
  obtain ⟨v1, vs1, d1, ds1, p1, q1, rfl, rfl, rfl, h1, r1⟩ := trodAll_cons r0
  obtain ⟨v2, vs2, d2, ds2, p2, q2, rfl, rfl, rfl, h2, r2⟩ := trodAll_cons r1
  obtain ⟨rfl, rfl, rfl⟩ := trodAll_nil r2
  obtain rfl : args = #[v0, v1, v2] := by cases args; simp_all
  obtain ⟨rfl, rfl⟩ := trodVars_none hV
  have y0 := ints_room (hval 0 22 v0 rfl rfl) h0
  obtain ⟨l0, ⟨s0, x0⟩, e0⟩ := open_ints (hval 0 22 v0 rfl rfl) h0
  have n0 := ints_small hsz (j := 0) rfl rfl e0
  obtain ⟨l1, ⟨s1, x1⟩, e1⟩ := open_bytes (hval 1 23 v1 rfl rfl) h1
  have n1 := bytes_small hsz (j := 1) rfl rfl e1
  obtain ⟨a2, rfl, rfl, rfl, w2⟩ := open_int Try.underlying5 (hval 2 5 v2 rfl rfl) h2
  clear hA0 hval0
  refine (walk W v0 l0 s0 x0 n0 y0 v1 l1 s1 x1 n1 a2 w2).mono fun e W' ⟨he, hg⟩ => ?_
  subst he
  exact ⟨_, rfl, law_post laidOut readable rfl Try.underlying4 rfl rfl hW' hg.below⟩

theorem over : Rows.optimSizesRow.holds Try.pinned (OpenSpec.ofChange Rows.optimSizesSpec) :=
  OpenClaim.holds_of_wide 3 Try.f3 rfl rfl rfl rfl rfl rfl rfl ⟨rfl, rfl, rfl, rfl, rfl⟩ rfl rfl rfl rfl rfl (by kernel_rfl) Try.func3 (by kernel_rfl)
    (of_decide_eq_true (by kernel_rfl)) (by unfold Func.isWrapper; first | (rw [if_pos (by decide +kernel)]; kernel_rfl) | (rw [if_neg (by decide +kernel)]; exact ⟨rfl, rfl⟩))
    (fun os started H enc _ => lifted os started H enc)

theorem proved : Rows.OptimSizesSaid :=
  over
end Go.Proofs.Ytlpeplihbdcklaa.optimSizes
namespace Go.Proofs.Ytlpeplihbdcklaa
theorem optimSizes_holds : Rows.OptimSizesSaid := optimSizes.proved
#print axioms optimSizes_holds
end Go.Proofs.Ytlpeplihbdcklaa
