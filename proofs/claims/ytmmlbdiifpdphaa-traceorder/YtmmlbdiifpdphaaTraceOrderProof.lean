/- For every n and m, both or not, the law TraceOrder of layer 2 returns true: two events that change places are seen, if they differ. No condition. -/
import Derived.Test.YtmmlbdiifpdphaaKnown
import Derived.Test.YtmmlbdiifpdphaaFrame
import Derived.Test.YtmmlbdiifpdphaaRows
namespace Go.Proofs.Ytmmlbdiifpdphaa.traceOrder
open Go.ChangeShapes Go.WideShapes Go.ChangeAt Go.RowKit
set_option linter.unusedVariables false

theorem own : ownKnob Try.prog.godebug = none := by kernel_rfl
theorem laidOut : laidOutB Try.prog = true := by kernel_rfl
theorem readable : ∀ t ∈ Try.f7.params.toList, Try.prog.readableRec t = true ∧ t < Try.prog.types.size := by
  rw [Try.params7]
  simp only [List.mem_cons, List.not_mem_nil, or_false, forall_eq_or_imp, forall_eq]
  refine ⟨⟨by kernel_rfl, of_decide_eq_true (by kernel_rfl)⟩, ⟨by kernel_rfl, of_decide_eq_true (by kernel_rfl)⟩, ⟨by kernel_rfl, of_decide_eq_true (by kernel_rfl)⟩⟩

set_option maxHeartbeats 2000000 in
set_option maxRecDepth 100000 in
theorem walk (w : World) (a0 : Int) (w0 : (Lit.int .i64 a0).wf = true) (a1 : Int) (w1 : (Lit.int .i64 a1).wf = true) (a2 : Bool) :
    Calls Try.prog 7 #[.int .i64 a0, .int .i64 a1, .bool a2] w fun e w' => e = .returned (.bool true) ∧ But Nowhere w w' := by
  go_enter Try.func7, Try.ntmps7
  go_wp2_with fail
  refine (new_any _).mono ?_
  rintro e w1 ⟨rfl, h1⟩
  go_wp2_with fail
  refine (new_any _).mono ?_
  rintro e w2 ⟨rfl, h2⟩
  have h := h1.two h2
  clear h1 h2
  go_wp2_with fail
  refine (idx_some _ _ _ _ _ h.one.rcd (by simp)).mono ?_
  rintro e w3 ⟨rfl, hl⟩
  obtain ⟨v3, h3⟩ := h.laid hl
  clear hl h
  go_wp2_with fail
  refine (br_some _ _ _ _ _ h3.two.rcd (by simp)).mono ?_
  rintro e w4 ⟨rfl, hl⟩
  obtain ⟨v4, h4⟩ := h3.swap.laid hl
  clear hl h3
  go_wp2_with fail
  refine (br_some _ _ _ _ _ h4.two.rcd (by simp)).mono ?_
  rintro e w5 ⟨rfl, hl⟩
  obtain ⟨v5, h5⟩ := h4.swap.laid hl
  clear hl h4
  go_wp2_with fail
  refine (idx_some _ _ _ _ _ h5.two.rcd (by simp)).mono ?_
  rintro e w6 ⟨rfl, hl⟩
  obtain ⟨v6, h6'⟩ := h5.swap.laid hl
  have h6 := h6'.swap
  clear hl h5 h6'
  simp only [List.nil_append, List.cons_append] at h6
  cases a2
  · have e0 : sameB [(1, a0), (2, a1)] [(2, a1), (1, a0)] = false := by simp [sameB]
    have c1 : cnt 1 [(1, a0), (2, a1)] = 1 := rfl
    have c2 : cnt 1 [(2, a1), (1, a0)] = 1 := rfl
    have c3 : cnt 2 [(1, a0), (2, a1)] = 1 := rfl
    have c4 : cnt 2 [(2, a1), (1, a0)] = 1 := rfl
    have c5 : cnt 3 [(1, a0), (2, a1)] = 0 := rfl
    have c6 : cnt 3 [(2, a1), (1, a0)] = 0 := rfl
    go_wp2_with fail
    refine (known_any _).mono ?_
    rintro e w7 ⟨rfl, b7⟩
    have h7 := h6.step b7
    clear h6 b7
    go_wp2_with fail
    refine (same_some _ _ _ _ _ _ _ h7.one.rcd h7.two.rcd (by simp)).mono ?_
    rintro e w8 ⟨rfl, b8⟩
    have h8 := h7.step b8
    clear h7 b8
    go_wp2_with fail
    refine (count_some _ _ _ _ _ h8.one.rcd (by simp)).mono ?_
    rintro e w9 ⟨rfl, b9⟩
    have h9 := h8.step b9
    clear h8 b9
    go_wp2_with fail
    refine (count_some _ _ _ _ _ h9.two.rcd (by simp)).mono ?_
    rintro e w10 ⟨rfl, b10⟩
    have h10 := h9.step b10
    clear h9 b10
    go_wp2_with fail
    refine (count_some _ _ _ _ _ h10.one.rcd (by simp)).mono ?_
    rintro e w11 ⟨rfl, b11⟩
    have h11 := h10.step b11
    clear h10 b11
    go_wp2_with fail
    refine (count_some _ _ _ _ _ h11.two.rcd (by simp)).mono ?_
    rintro e w12 ⟨rfl, b12⟩
    have h12 := h11.step b12
    clear h11 b12
    go_wp2_with fail
    refine (count_some _ _ _ _ _ h12.one.rcd (by simp)).mono ?_
    rintro e w13 ⟨rfl, b13⟩
    have h13 := h12.step b13
    clear h12 b13
    go_wp2_with fail
    refine (count_some _ _ _ _ _ h13.two.rcd (by simp)).mono ?_
    rintro e w14 ⟨rfl, b14⟩
    have h14 := h13.step b14
    clear h13 b14
    go_wp2_with fail
    go_ret
    exact ⟨rfl, h14.one.but⟩
  · have e0 : sameB [(1, a0), (2, a1), (3, 0)] [(2, a1), (1, a0), (3, 0)] = false := by simp [sameB]
    have c1 : cnt 1 [(1, a0), (2, a1), (3, 0)] = 1 := rfl
    have c2 : cnt 1 [(2, a1), (1, a0), (3, 0)] = 1 := rfl
    have c3 : cnt 2 [(1, a0), (2, a1), (3, 0)] = 1 := rfl
    have c4 : cnt 2 [(2, a1), (1, a0), (3, 0)] = 1 := rfl
    have c5 : cnt 3 [(1, a0), (2, a1), (3, 0)] = 1 := rfl
    have c6 : cnt 3 [(2, a1), (1, a0), (3, 0)] = 1 := rfl
    go_wp2_with fail
    refine (open_some _ _ _ _ h6.one.rcd (by simp)).mono ?_
    rintro e w7 ⟨rfl, hl⟩
    obtain ⟨v7, h7⟩ := h6.laid hl
    clear hl h6
    go_wp2_with fail
    refine (open_some _ _ _ _ h7.two.rcd (by simp)).mono ?_
    rintro e w8 ⟨rfl, hl⟩
    obtain ⟨v8, h8'⟩ := h7.swap.laid hl
    have h8 := h8'.swap
    clear hl h7 h8'
    simp only [List.nil_append, List.cons_append] at h8
    go_wp2_with fail
    refine (known_any _).mono ?_
    rintro e w9 ⟨rfl, b9⟩
    have h9 := h8.step b9
    clear h8 b9
    go_wp2_with fail
    refine (same_some _ _ _ _ _ _ _ h9.one.rcd h9.two.rcd (by simp)).mono ?_
    rintro e w10 ⟨rfl, b10⟩
    have h10 := h9.step b10
    clear h9 b10
    go_wp2_with fail
    refine (count_some _ _ _ _ _ h10.one.rcd (by simp)).mono ?_
    rintro e w11 ⟨rfl, b11⟩
    have h11 := h10.step b11
    clear h10 b11
    go_wp2_with fail
    refine (count_some _ _ _ _ _ h11.two.rcd (by simp)).mono ?_
    rintro e w12 ⟨rfl, b12⟩
    have h12 := h11.step b12
    clear h11 b12
    go_wp2_with fail
    refine (count_some _ _ _ _ _ h12.one.rcd (by simp)).mono ?_
    rintro e w13 ⟨rfl, b13⟩
    have h13 := h12.step b13
    clear h12 b13
    go_wp2_with fail
    refine (count_some _ _ _ _ _ h13.two.rcd (by simp)).mono ?_
    rintro e w14 ⟨rfl, b14⟩
    have h14 := h13.step b14
    clear h13 b14
    go_wp2_with fail
    refine (count_some _ _ _ _ _ h14.one.rcd (by simp)).mono ?_
    rintro e w15 ⟨rfl, b15⟩
    have h15 := h14.step b15
    clear h14 b15
    go_wp2_with fail
    refine (count_some _ _ _ _ _ h15.two.rcd (by simp)).mono ?_
    rintro e w16 ⟨rfl, b16⟩
    have h16 := h15.step b16
    clear h15 b16
    go_wp2_with fail
    go_ret
    exact ⟨rfl, h16.one.but⟩

set_option maxRecDepth 100000 in
theorem lifted (os : Os) (started : os.Started) (H : Type) (enc : TypeId × Value → H) :
    ReturnsInHanded {} Try.checked os 7 .any (Rows.traceOrderSpec.pre6 enc Try.prog Try.f7 Rows.traceOrderRow.domain false) (Rows.traceOrderSpec.post enc Try.prog Try.f7 false true false false) := by
  refine returnsInHanded_of_change_sized (C := Try.checked) own started (by kernel_rfl) Try.func7
    (ChangeSpec.witness6 (enc := enc) (C := Try.checked) false ⟨#[], #[.int .i64 0, .int .i64 0, .bool false], []⟩ 8 (by kernel_rfl) (by kernel_rfl) (by kernel_rfl) (by kernel_rfl)) ?_
  intro W base args ds gs before hval0 hW hcnd hsz0 _
  have hval : ∀ (j : Nat) t v, Try.f7.params[j]? = some t → args[j]? = some v → Value.okWide Try.prog W .any base t v := hval0
  have hsz : (DataW.weightsEach Try.prog (Try.f7.params.toList ++ Rows.traceOrderSpec.plain.varTypes Try.prog) (ds ++ gs)).all (· ≤ reachBytes) = true := hsz0
  have hW' := hW
  obtain ⟨p, q, hA0, hV, rfl, hfz, hnd⟩ := hW
  have hA : DataW.TrodAll enc Try.prog W 0 (fun _ => true) true Try.f7.params.toList args.toList ds p := hA0
  rw [Try.params7] at hA hval hsz
  obtain ⟨v0, vs0, d0, ds0, p0, q0, hargs, rfl, rfl, h0, r0⟩ := trodAll_cons hA
  obtain ⟨v1, vs1, d1, ds1, p1, q1, rfl, rfl, rfl, h1, r1⟩ := trodAll_cons r0
  obtain ⟨v2, vs2, d2, ds2, p2, q2, rfl, rfl, rfl, h2, r2⟩ := trodAll_cons r1
  obtain ⟨rfl, rfl, rfl⟩ := trodAll_nil r2
  obtain rfl : args = #[v0, v1, v2] := by cases args; simp_all
  obtain ⟨rfl, rfl⟩ := trodVars_none hV
  obtain ⟨a0, rfl, rfl, rfl, w0⟩ := open_int Try.underlying3 (hval 0 3 v0 rfl rfl) h0
  obtain ⟨a1, rfl, rfl, rfl, w1⟩ := open_int Try.underlying3 (hval 1 3 v1 rfl rfl) h1
  obtain ⟨a2, rfl, rfl, rfl⟩ := open_bool Try.underlying4 (hval 2 4 v2 rfl rfl) h2
  clear hA0 hval0
  refine (walk W a0 w0 a1 w1 a2).mono fun e W' ⟨he, hg⟩ => ?_
  subst he
  exact ⟨_, rfl, law_post laidOut readable rfl Try.underlying4 rfl rfl hW' hg.below⟩

theorem over : Rows.traceOrderRow.holds Try.pinned (OpenSpec.ofChange Rows.traceOrderSpec) :=
  OpenClaim.holds_of_wide 7 Try.f7 rfl rfl rfl rfl rfl rfl rfl ⟨rfl, rfl, rfl, rfl, rfl⟩ rfl rfl rfl rfl rfl (by kernel_rfl) Try.func7 (by kernel_rfl)
    (of_decide_eq_true (by kernel_rfl)) (by unfold Func.isWrapper; first | (rw [if_pos (by decide +kernel)]; kernel_rfl) | (rw [if_neg (by decide +kernel)]; exact ⟨rfl, rfl⟩))
    (fun os started H enc _ => lifted os started H enc)

theorem proved : Rows.TraceOrderSaid :=
  over
end Go.Proofs.Ytmmlbdiifpdphaa.traceOrder
namespace Go.Proofs.Ytmmlbdiifpdphaa
theorem traceOrder_holds : Rows.TraceOrderSaid := traceOrder.proved
#print axioms traceOrder_holds
end Go.Proofs.Ytmmlbdiifpdphaa
