/- For every k the law NumEdges of layer 1 returns true: bits of noughts alone tell the least number of their size, of ones alone the greatest; more bits tell nothing. No condition. -/
import Derived.Test.YtbabbbplpoeacaaKnown
import Derived.Test.YtbabbbplpoeacaaRows
import Derived.WalkKit
import Derived.ProofKit
import Derived.OpenShut
namespace Go.Proofs.Ytbabbbplpoeacaa.numEdges
open Go.ChangeShapes Go.WideShapes Go.ChangeAt Go.RowKit
set_option linter.unusedVariables false

theorem own : ownKnob Try.prog.godebug = none := by kernel_rfl

theorem walk (a0 : Int) (w0 : (Lit.int .u8 a0).wf = true) (w : World) :
    Calls Try.prog 10 #[.int .u8 a0] w fun e w' => e = .returned (.bool true) ∧ Grown w w' := by
  have b0 := bounds_u8 w0
  obtain ⟨g1, g2, g3, g4, g5, g6⟩ := back_edges (a0 % 32) (by omega) (by omega)
  have hp := pow_bd (a0 % 32).toNat (by omega)
  have hw : wrap64 (2 ^ (a0 % 32).toNat) = 2 ^ (a0 % 32).toNat := w64 _ (by omega) (by omega)
  have f1 : (backF 0 (a0 % 32) == 1 - 2 ^ (a0 % 32).toNat) = true := by rw [g1]; simp
  have f2 : (backF (2 ^ (a0 % 32).toNat - 1) (a0 % 32) == 2 ^ (a0 % 32).toNat - 1) = true := by rw [g2]; simp
  have f3 : (backF (2 ^ (a0 % 32).toNat) (a0 % 32) == 0) = true := by rw [g3]; rfl
  have f4 : (backF (-1) (a0 % 32) == 0) = true := by rw [g4]; rfl
  have f5 : (backF 1 (32 + a0 % 32) == 0) = true := by rw [g5]; rfl
  have f6 : (backF 0 (-1 - a0 % 32) == 0) = true := by rw [g6]; rfl
  clear g1 g2 g3 g4 g5 g6
  go_enter Try.func10, Try.ntmps10
  go_wp2_with (first | (go_at_call 11; refine (known_any _).mono ?_; rintro e w' ⟨rfl, rfl⟩) | (go_at_call 18; refine (size_any _ _ (by omega) (by omega)).mono ?_; rintro e w' ⟨rfl, rfl⟩) | (go_at_call 20; refine (low_any _ _ (by omega) (by omega)).mono ?_; rintro e w' ⟨rfl, rfl⟩) | (go_at_call 22; refine (back_any _ _ _).mono ?_; rintro e w' ⟨rfl, rfl⟩) | (go_at_call 16; refine (round_any _ _ _ (by omega) (by omega)).mono ?_; rintro e w' ⟨rfl, rfl⟩) | (go_at_call 12; refine (clip_any _ _ _ _).mono ?_; rintro e w' ⟨rfl, rfl⟩) | (go_at_call 14; refine (ceil_any _ _ _).mono ?_; rintro e w' ⟨rfl, rfl⟩))
  all_goals go_ret
  all_goals exact ⟨rfl, Grown.refl _⟩

set_option maxRecDepth 100000 in
theorem lifted (os : Os) (started : os.Started) (H : Type) (enc : TypeId × Value → H) :
    ReturnsInHanded {} Try.checked os 10 .any (Rows.numEdgesSpec.pre6 enc Try.prog Try.f10 Rows.numEdgesRow.domain false) (Rows.numEdgesSpec.post enc Try.prog Try.f10 false true false false) := by
  refine returnsInHanded_of_change (C := Try.checked) own started (by kernel_rfl) Try.func10
    (ChangeSpec.witness6 (enc := enc) (C := Try.checked) false ⟨#[], #[.int .u8 0], []⟩ 8 (by kernel_rfl) (by kernel_rfl) (by kernel_rfl) (by kernel_rfl)) ?_
  intro W base args ds gs before hval0 hW hcnd _
  have hval : ∀ (j : Nat) t v, Try.f10.params[j]? = some t → args[j]? = some v → Value.okWide Try.prog W .any base t v := hval0
  have hW' := hW
  obtain ⟨p, q, hA0, hV, rfl, hfz, hnd⟩ := hW
  have hA : DataW.TrodAll enc Try.prog W 0 (fun _ => true) true Try.f10.params.toList args.toList ds p := hA0
  rw [Try.params10] at hA hval
  obtain ⟨v0, vs0, d0, ds0, p0, q0, hargs, rfl, rfl, h0, r0⟩ := trodAll_cons hA
  obtain ⟨rfl, rfl, rfl⟩ := trodAll_nil r0
  obtain rfl : args = #[v0] := by cases args; simp_all
  obtain ⟨rfl, rfl⟩ := trodVars_none hV
  obtain ⟨a0, rfl, rfl, rfl, w0⟩ := open_int Try.underlying5 (hval 0 5 v0 rfl rfl) h0
  clear hA0 hval0
  simp only [List.append_nil] at hW'
  refine (walk a0 w0 W).mono fun e W' ⟨he, hg⟩ => ?_
  subst he
  exact ⟨_, rfl, post_of_same (pa := []) (pv := []) hW' (fun _ _ _ => (trodAll_cons_mk (shut_bool Try.underlying4 _) trodAll_mk0)) (fun sp _ => (trodAll_cons_mk (shut_int Try.underlying5 w0) trodAll_mk0)) (fun _ _ => rfl) rfl
    (hg.frame _) hg.2.1 (ok_one (by kernel_rfl) rfl (okWide_bool_mk Try.underlying4 _))⟩

theorem over : Rows.numEdgesRow.holds Try.pinned (OpenSpec.ofChange Rows.numEdgesSpec) :=
  OpenClaim.holds_of_wide 10 Try.f10 rfl rfl rfl rfl rfl rfl rfl ⟨rfl, rfl, rfl, rfl, rfl⟩ rfl rfl rfl rfl rfl (by kernel_rfl) Try.func10 (by kernel_rfl)
    (of_decide_eq_true (by kernel_rfl)) (by unfold Func.isWrapper; first | (rw [if_pos (by decide +kernel)]; kernel_rfl) | (rw [if_neg (by decide +kernel)]; exact ⟨rfl, rfl⟩))
    (fun os started H enc _ => lifted os started H enc)

theorem proved : Rows.NumEdgesSaid :=
  over
end Go.Proofs.Ytbabbbplpoeacaa.numEdges
namespace Go.Proofs.Ytbabbbplpoeacaa
theorem numEdges_holds : Rows.NumEdgesSaid := numEdges.proved
#print axioms numEdges_holds
end Go.Proofs.Ytbabbbplpoeacaa
