/- For all lists a and b of things and every kind the law TraceKeeps of layer 2 returns true: whatever is recorded, Events, Count and Same are what the chapter says. No condition. -/
import Derived.Test.YtmmlbdiifpdphaaLay
import Derived.Test.YtmmlbdiifpdphaaKnown
import Derived.Test.YtmmlbdiifpdphaaFrame
import Derived.Test.YtmmlbdiifpdphaaRows
namespace Go.Proofs.Ytmmlbdiifpdphaa.traceKeeps
open Go.ChangeShapes Go.WideShapes Go.ChangeAt Go.RowKit
set_option linter.unusedVariables false

theorem own : ownKnob Try.prog.godebug = none := by kernel_rfl
theorem laidOut : laidOutB Try.prog = true := by kernel_rfl
theorem readable : ∀ t ∈ Try.f3.params.toList, Try.prog.readableRec t = true ∧ t < Try.prog.types.size := by
  rw [Try.params3]
  simp only [List.mem_cons, List.not_mem_nil, or_false, forall_eq_or_imp, forall_eq]
  refine ⟨⟨by kernel_rfl, of_decide_eq_true (by kernel_rfl)⟩, ⟨by kernel_rfl, of_decide_eq_true (by kernel_rfl)⟩, ⟨by kernel_rfl, of_decide_eq_true (by kernel_rfl)⟩⟩

set_option maxHeartbeats 2000000 in
set_option maxRecDepth 100000 in
theorem walk (w : World) (v0 : Value) (l0 : List Ev) (s0 : Seens w v0 l0) (n0 : l0.length ≤ 8796093022208) (v1 : Value) (l1 : List Ev) (s1 : Seens w v1 l1) (n1 : l1.length ≤ 8796093022208) (a2 : Int) (w2 : (Lit.int .i64 a2).wf = true) :
    Calls Try.prog 3 #[v0, v1, .int .i64 a2] w fun e w' => e = .returned (.bool true) ∧ But Nowhere w w' := by
  have S0 : Hid (Seens w v0 l0) := s0
  have S1 : Hid (Seens w v1 l1) := s1
  obtain ⟨ao, cap, rfl, -⟩ := s0
  obtain ⟨ao', cap', rfl, -⟩ := s1
  by_cases hl : l0.length + l1.length ≤ 100
  · have hgt : decide (100 < (l0.length : Int) + (l1.length : Int)) = false := by simp; omega
    go_enter Try.func3, Try.ntmps3
    go_wp2_with fail
    refine (known_any _).mono ?_
    rintro e w1 ⟨rfl, b1⟩
    go_wp2_with fail
    refine (layAll_any _ l0 _ (Seens.but S0.out b1) (by omega)).mono ?_
    rintro e w2 ⟨b2, u2, x2, rfl, h2, k2, -⟩
    have s2 := Seens.but (Seens.but S1.out b1) h2.but
    go_wp2_with fail
    refine (layAll_any _ l1 _ s2 (by omega)).mono ?_
    rintro e w3 ⟨b3, u3, x3, rfl, h3, k3, -⟩
    have k2' := h3.but.owns k2 (fun _ _ f => f)
    have h := h2.two h3
    clear k2 h2 h3 s2 S0 S1
    have hm : (l0.map evOf).length ≤ 100 := by simp; omega
    have hm2 : (l1.map evOf).length ≤ 100 := by simp; omega
    generalize l0.map evOf = es at *
    generalize l1.map evOf = fs at *
    have e1 : sameB es es = true := by simp [sameB]
    go_wp2_with fail
    refine (events_some _ _ _ _ h.one.rcd (by omega)).mono ?_
    rintro e w4 ⟨l, rfl, he, hn, b4⟩
    have h4 := h.step b4
    have p4 := b4.owns k2' (fun _ _ f => f)
    have q4 := b4.owns k3 (fun _ _ f => f)
    clear h b4 k2' k3 hn
    go_wp2_with fail
    refine (refSame_any _ _ _ _ _ he p4 (by omega)).mono ?_
    rintro e w5 ⟨rfl, b5⟩
    have h5 := h4.step b5
    have p5 := b5.owns p4 (fun _ _ f => f)
    have q5 := b5.owns q4 (fun _ _ f => f)
    clear h4 b5 p4 q4 he
    go_wp2_with fail
    refine (count_some _ _ _ _ _ h5.one.rcd (by omega)).mono ?_
    rintro e w6 ⟨rfl, b6⟩
    have h6 := h5.step b6
    have p6 := b6.owns p5 (fun _ _ f => f)
    have q6 := b6.owns q5 (fun _ _ f => f)
    clear h5 b6 p5 q5
    go_wp2_with fail
    refine (refCount_any _ _ _ _ p6 (by omega)).mono ?_
    rintro e w7 ⟨rfl, rfl⟩
    go_wp2_with fail
    refine (same_some _ _ _ _ _ _ _ h6.one.rcd h6.two.rcd (by omega)).mono ?_
    rintro e w8 ⟨rfl, b8⟩
    have h8 := h6.step b8
    have p8 := b8.owns p6 (fun _ _ f => f)
    have q8 := b8.owns q6 (fun _ _ f => f)
    clear h6 b8 p6 q6
    go_wp2_with fail
    refine (refSame_any _ _ _ _ _ p8 q8 (by omega)).mono ?_
    rintro e w9 ⟨rfl, b9⟩
    have h9 := h8.step b9
    clear h8 b9 p8 q8
    go_wp2_with fail
    refine (same_some _ _ _ _ _ _ _ h9.one.rcd h9.one.rcd (by omega)).mono ?_
    rintro e w10 ⟨rfl, b10⟩
    have h10 := h9.step b10
    go_wp2_with fail
    go_ret
    exact ⟨rfl, b1.trans h10.one.but⟩
  · have hgt : decide (100 < (l0.length : Int) + (l1.length : Int)) = true := by simp; omega
    clear S0 S1
    go_enter Try.func3, Try.ntmps3
    go_wp2_with fail
    refine (known_any _).mono ?_
    rintro e w1 ⟨rfl, b1⟩
    go_wp2_with fail
    go_ret
    exact ⟨rfl, b1⟩

set_option maxRecDepth 100000 in
theorem lifted (os : Os) (started : os.Started) (H : Type) (enc : TypeId × Value → H) :
    ReturnsInHanded {} Try.checked os 3 .any (Rows.traceKeepsSpec.pre6 enc Try.prog Try.f3 Rows.traceKeepsRow.domain false) (Rows.traceKeepsSpec.post enc Try.prog Try.f3 false true false false) := by
  refine returnsInHanded_of_change_sized (C := Try.checked) own started (by kernel_rfl) Try.func3
    (ChangeSpec.witness6 (enc := enc) (C := Try.checked) false ⟨#[], #[.slice none 0 0, .slice none 0 0, .int .i64 0], []⟩ 8 (by kernel_rfl) (by kernel_rfl) (by kernel_rfl) (by kernel_rfl)) ?_
  intro W base args ds gs before hval0 hW hcnd hsz0 _
  have hval : ∀ (j : Nat) t v, Try.f3.params[j]? = some t → args[j]? = some v → Value.okWide Try.prog W .any base t v := hval0
  have hsz : (DataW.weightsEach Try.prog (Try.f3.params.toList ++ Rows.traceKeepsSpec.plain.varTypes Try.prog) (ds ++ gs)).all (· ≤ reachBytes) = true := hsz0
  have hW' := hW
  obtain ⟨p, q, hA0, hV, rfl, hfz, hnd⟩ := hW
  have hA : DataW.TrodAll enc Try.prog W 0 (fun _ => true) true Try.f3.params.toList args.toList ds p := hA0
  rw [Try.params3] at hA hval hsz
  obtain ⟨v0, vs0, d0, ds0, p0, q0, hargs, rfl, rfl, h0, r0⟩ := trodAll_cons hA
  obtain ⟨v1, vs1, d1, ds1, p1, q1, rfl, rfl, rfl, h1, r1⟩ := trodAll_cons r0
  obtain ⟨v2, vs2, d2, ds2, p2, q2, rfl, rfl, rfl, h2, r2⟩ := trodAll_cons r1
  obtain ⟨rfl, rfl, rfl⟩ := trodAll_nil r2
  obtain rfl : args = #[v0, v1, v2] := by cases args; simp_all
  obtain ⟨rfl, rfl⟩ := trodVars_none hV
  obtain ⟨l0, s0, e0⟩ := open_seens (hval 0 22 v0 rfl rfl) h0
  have n0 := seens_small hsz (j := 0) rfl rfl e0
  obtain ⟨l1, s1, e1⟩ := open_seens (hval 1 22 v1 rfl rfl) h1
  have n1 := seens_small hsz (j := 1) rfl rfl e1
  obtain ⟨a2, rfl, rfl, rfl, w2⟩ := open_int Try.underlying3 (hval 2 3 v2 rfl rfl) h2
  clear hA0 hval0
  refine (walk W v0 l0 s0 n0 v1 l1 s1 n1 a2 w2).mono fun e W' ⟨he, hg⟩ => ?_
  subst he
  exact ⟨_, rfl, law_post laidOut readable rfl Try.underlying4 rfl rfl hW' hg.below⟩

theorem over : Rows.traceKeepsRow.holds Try.pinned (OpenSpec.ofChange Rows.traceKeepsSpec) :=
  OpenClaim.holds_of_wide 3 Try.f3 rfl rfl rfl rfl rfl rfl rfl ⟨rfl, rfl, rfl, rfl, rfl⟩ rfl rfl rfl rfl rfl (by kernel_rfl) Try.func3 (by kernel_rfl)
    (of_decide_eq_true (by kernel_rfl)) (by unfold Func.isWrapper; first | (rw [if_pos (by decide +kernel)]; kernel_rfl) | (rw [if_neg (by decide +kernel)]; exact ⟨rfl, rfl⟩))
    (fun os started H enc _ => lifted os started H enc)

theorem proved : Rows.TraceKeepsSaid :=
  over
end Go.Proofs.Ytmmlbdiifpdphaa.traceKeeps
namespace Go.Proofs.Ytmmlbdiifpdphaa
theorem traceKeeps_holds : Rows.TraceKeepsSaid := traceKeeps.proved
#print axioms traceKeeps_holds
end Go.Proofs.Ytmmlbdiifpdphaa
