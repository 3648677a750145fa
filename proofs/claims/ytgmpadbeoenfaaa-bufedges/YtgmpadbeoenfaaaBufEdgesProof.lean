/- For every n, i and v the law BufEdges of layer 4 returns true: what is no place is neither got nor set, and not seen. No condition. -/
import Derived.Test.YtgmpadbeoenfaaaBufLaw
import Derived.Test.YtgmpadbeoenfaaaFrame
import Derived.Test.YtgmpadbeoenfaaaRows
namespace Go.Proofs.Ytgmpadbeoenfaaa.bufEdges
open Go.ChangeShapes Go.WideShapes Go.ChangeAt Go.RowKit
set_option linter.unusedVariables false

theorem own : ownKnob Try.prog.godebug = none := by kernel_rfl
theorem laidOut : laidOutB Try.prog = true := by kernel_rfl
theorem readable : ∀ t ∈ Try.f7.params.toList, Try.prog.readableRec t = true ∧ t < Try.prog.types.size := by
  rw [Try.params7]
  simp only [List.mem_cons, List.not_mem_nil, or_false, forall_eq_or_imp, forall_eq]
  refine ⟨⟨by kernel_rfl, of_decide_eq_true (by kernel_rfl)⟩, ⟨by kernel_rfl, of_decide_eq_true (by kernel_rfl)⟩, ⟨by kernel_rfl, of_decide_eq_true (by kernel_rfl)⟩⟩

set_option maxHeartbeats 20000000 in
set_option maxRecDepth 100000 in
theorem walk (w : World) (a0 : Int) (w0 : (Lit.int .u8 a0).wf = true) (a1 : Int) (w1 : (Lit.int .i64 a1).wf = true) (a2 : Int) (w2 : (Lit.int .i64 a2).wf = true) :
    Calls Try.prog 7 #[.int .u8 a0, .int .i64 a1, .int .i64 a2] w fun e w' => e = .returned (.bool true) ∧ But Nowhere w w' := by
  obtain ⟨u0, u1⟩ := u8_in w0
  clear w0 w1 w2
  obtain ⟨N, hN⟩ : ∃ N : Nat, a0 % 50 = (N : Int) := ⟨(a0 % 50).toNat, by omega⟩
  have hN2 : N < 50 := by omega
  by_cases hin : 0 ≤ a1 ∧ a1 < (N : Int)
  · obtain ⟨h0, h1⟩ := hin
    go_enter Try.func7, Try.ntmps7
    go_wp2_with (go_at_call 8; refine (known_any _).mono ?_; rintro e w' ⟨rfl, hb⟩)
    go_ret
    exact ⟨rfl, hb⟩
  · have hout : a1 < 0 ∨ (N : Int) ≤ a1 := by omega
    have hlen : (List.replicate N (0 : Int)).length = N := by simp
    have e1 := seenAt_out (List.replicate N 0) a1 (by rw [hlen]; exact hout)
    have e2 := lay_out (List.replicate N 0) a1 a2 (by rw [hlen]; exact hout)
    have e3 := word_out (List.replicate N 0) a1 (by rw [hlen]; exact hout)
    clear hin
    go_enter Try.func7, Try.ntmps7
    rcases (show (0 ≤ a1 ∧ decide (a1 < (N : Int)) = false) ∨ ¬ 0 ≤ a1 by simp; omega) with ⟨h0, h1⟩ | h0
    all_goals
      clear hout
      go_wp2_with fail
      refine (new_any _).mono ?_
      rintro e w1 ⟨rfl, h1⟩
      go_wp2_with fail
      refine (newBuf_some (ptr (some w.heap.size)) N (by omega) _).mono ?_
      rintro e w2 ⟨rfl, m2⟩
      have h := Bo.start h1 m2
      clear h1 m2
      generalize w1.heap.size + 1 = b at *
      generalize w1.heap.size = g at *
      clear w1
      go_wp2_with fail
      refine (of_any _ _).mono ?_
      rintro e w3 ⟨rfl, b3⟩
      replace h := h.step b3
      clear b3 w2
      go_wp2_with fail
      refine (h.setAt (by simp) a1 a2).mono ?_
      rw [e1, e2]
      rintro e w4 ⟨rfl, v4, h4, -, -⟩
      clear h
      clear w3
      go_wp2_with fail
      refine (h4.get (by simp) a1).mono ?_
      rw [e1, e3]
      rintro e w5 ⟨rfl, v5, h5, -, -⟩
      clear h4 w4
      have kX : (w5.alloc (.cells #[.int .i64 0] 35)).cell? ⟨w5.heap.size, 0, none⟩ = some (.int .i64 0) := by go_simp
      replace h5 := h5.step ((But.refl Nowhere _).alloc (.cells #[.int .i64 0] 35))
      go_wp2_with (first | (go_at_call 8; refine (known_any _).mono ?_; rintro e w' ⟨rfl, hb⟩; replace h5 := h5.step hb; replace kX := hb.keeps (not_nowhere _) kX; clear hb) | (go_at_call 17; refine (len_some h5.bf).mono ?_; rw [hlen]; rintro e w' ⟨rfl, rfl⟩) | (go_at_call 15; refine (tell_none _ _).mono ?_; rintro e w7 ⟨rfl, b7⟩; replace h5 := h5.step b7; clear b7) | (go_at_call 20; refine (events_some _ _ _ _ h5.rc (by simp)).mono ?_; rintro e w6 ⟨u, rfl, hu, -, b6⟩; obtain ⟨ua, uc, rfl⟩ := hu.slice; replace h5 := h5.step b6; clear hu b6))
      go_ret
      exact ⟨rfl, h5.but⟩

set_option maxRecDepth 100000 in
theorem lifted (os : Os) (started : os.Started) (H : Type) (enc : TypeId × Value → H) :
    ReturnsInHanded {} Try.checked os 7 .any (Rows.bufEdgesSpec.pre6 enc Try.prog Try.f7 Rows.bufEdgesRow.domain false) (Rows.bufEdgesSpec.post enc Try.prog Try.f7 false true false false) := by
  refine returnsInHanded_of_change_sized (C := Try.checked) own started (by kernel_rfl) Try.func7
    (ChangeSpec.witness6 (enc := enc) (C := Try.checked) false ⟨#[], #[.int .u8 0, .int .i64 0, .int .i64 0], []⟩ 8 (by kernel_rfl) (by kernel_rfl) (by kernel_rfl) (by kernel_rfl)) ?_
  intro W base args ds gs before hval0 hW hcnd hsz0 _
  have hval : ∀ (j : Nat) t v, Try.f7.params[j]? = some t → args[j]? = some v → Value.okWide Try.prog W .any base t v := hval0
  have hsz : (DataW.weightsEach Try.prog (Try.f7.params.toList ++ Rows.bufEdgesSpec.plain.varTypes Try.prog) (ds ++ gs)).all (· ≤ reachBytes) = true := hsz0
  have hW' := hW
  obtain ⟨p, q, hA0, hV, rfl, hfz, hnd⟩ := hW
  have hA : DataW.TrodAll enc Try.prog W 0 (fun _ => true) true Try.f7.params.toList args.toList ds p := hA0
  rw [Try.params7] at hA hval hsz
  obtain ⟨v0, vs0, d0, ds0, p0, q0, hargs, rfl, rfl, h0, r0⟩ := trodAll_cons hA
  obtain ⟨v1, vs1, d1, ds1, p1, q1, rfl, rfl, rfl, h1, r1⟩ := trodAll_cons r0
  obtain ⟨v2, vs2, d2, ds2, p2, q2, rfl, rfl, rfl, h2, r2⟩ := trodAll_cons r1
  obtain ⟨rfl, rfl, rfl⟩ := trodAll_nil r2
  obtain rfl : args = #[v0, v1, v2] := by cases args; simp_all
  obtain ⟨rfl, rfl⟩ := trodVars_none hV
  obtain ⟨a0, rfl, rfl, rfl, w0⟩ := open_int Try.underlying5 (hval 0 5 v0 rfl rfl) h0
  obtain ⟨a1, rfl, rfl, rfl, w1⟩ := open_int Try.underlying3 (hval 1 3 v1 rfl rfl) h1
  obtain ⟨a2, rfl, rfl, rfl, w2⟩ := open_int Try.underlying3 (hval 2 3 v2 rfl rfl) h2
  clear hA0 hval0
  refine (walk W a0 w0 a1 w1 a2 w2).mono fun e W' ⟨he, hg⟩ => ?_
  subst he
  exact ⟨_, rfl, law_post laidOut readable rfl Try.underlying4 rfl rfl hW' hg.below⟩

theorem over : Rows.bufEdgesRow.holds Try.pinned (OpenSpec.ofChange Rows.bufEdgesSpec) :=
  OpenClaim.holds_of_wide 7 Try.f7 rfl rfl rfl rfl rfl rfl rfl ⟨rfl, rfl, rfl, rfl, rfl⟩ rfl rfl rfl rfl rfl (by kernel_rfl) Try.func7 (by kernel_rfl)
    (of_decide_eq_true (by kernel_rfl)) (by unfold Func.isWrapper; first | (rw [if_pos (by decide +kernel)]; kernel_rfl) | (rw [if_neg (by decide +kernel)]; exact ⟨rfl, rfl⟩))
    (fun os started H enc _ => lifted os started H enc)

theorem proved : Rows.BufEdgesSaid :=
  over
end Go.Proofs.Ytgmpadbeoenfaaa.bufEdges
namespace Go.Proofs.Ytgmpadbeoenfaaa
theorem bufEdges_holds : Rows.BufEdgesSaid := bufEdges.proved
#print axioms bufEdges_holds
end Go.Proofs.Ytgmpadbeoenfaaa
