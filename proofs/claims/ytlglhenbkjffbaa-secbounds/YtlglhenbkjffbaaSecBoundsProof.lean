/- For every numbers, the law SecBounds of layer 3 returns true: what is clipped lies in bounds, and is itself, if it did; what is shifted up and down again is as it was, if it is small. No condition. -/
import Derived.Test.YtlglhenbkjffbaaSecLaw
import Derived.Test.YtlglhenbkjffbaaFrame
import Derived.Test.YtlglhenbkjffbaaRows
namespace Go.Proofs.Ytlglhenbkjffbaa.secBounds
open Go.ChangeShapes Go.WideShapes Go.ChangeAt Go.RowKit
set_option linter.unusedVariables false

theorem own : ownKnob Try.prog.godebug = none := by kernel_rfl
theorem laidOut : laidOutB Try.prog = true := by kernel_rfl
theorem readable : ∀ t ∈ Try.f8.params.toList, Try.prog.readableRec t = true ∧ t < Try.prog.types.size := by
  rw [Try.params8]
  simp only [List.mem_cons, List.not_mem_nil, or_false, forall_eq_or_imp, forall_eq]
  refine ⟨⟨by kernel_rfl, of_decide_eq_true (by kernel_rfl)⟩, ⟨by kernel_rfl, of_decide_eq_true (by kernel_rfl)⟩, ⟨by kernel_rfl, of_decide_eq_true (by kernel_rfl)⟩, ⟨by kernel_rfl, of_decide_eq_true (by kernel_rfl)⟩, ⟨by kernel_rfl, of_decide_eq_true (by kernel_rfl)⟩⟩

set_option maxHeartbeats 20000000 in
set_option maxRecDepth 100000 in
theorem walk (w : World) (a0 : Int) (w0 : (Lit.int .i64 a0).wf = true) (a1 : Int) (w1 : (Lit.int .i32 a1).wf = true) (a2 : Int) (w2 : (Lit.int .i32 a2).wf = true) (a3 : Int) (w3 : (Lit.int .i32 a3).wf = true) (a4 : Int) (w4 : (Lit.int .u8 a4).wf = true) :
    Calls Try.prog 8 #[.int .i64 a0, .int .i32 a1, .int .i32 a2, .int .i32 a3, .int .u8 a4] w fun e w' => e = .returned (.bool true) ∧ But Nowhere w w' := by
  have HA : Hid (I64 a0) := i64_in w0
  obtain ⟨b0, b1⟩ := i32_in w1
  obtain ⟨c0, c1⟩ := i32_in w2
  obtain ⟨d0, d1⟩ := i32_in w3
  obtain ⟨u0, u1⟩ := u8_in w4
  have HB : Hid (I64 a1) := (show I64 a1 by omega)
  have HC : Hid (I64 a2) := (show I64 a2 by omega)
  have HD : Hid (I64 a3) := (show I64 a3 by omega)
  have hs := small_back a3 (a4 % 32) ⟨d0, d1⟩ (by omega) (by omega)
  clear w0 w1 w2 w3 w4
  have g0 := But.refl Nowhere w
  by_cases h : a2 < a1
  · have hn : ¬ a1 < a2 := by omega
    have s0 : a2 ≤ clipF a0 a2 a1 := by unfold clipF; split <;> (try split) <;> omega
    have s1 : clipF a0 a2 a1 ≤ a1 := by unfold clipF; split <;> (try split) <;> omega
    by_cases k : a0 < a2
    · go_enter Try.func8, Try.ntmps8
      go_wp2_with (first | (go_at_call 18; refine (known_any _).mono ?_; rintro e w' ⟨rfl, hb⟩; replace g0 := g0.trans hb; clear hb) | (go_at_call 11; refine (told_any _ _).mono ?_; rintro e w' ⟨rfl, hb⟩; replace g0 := g0.trans hb; clear hb) | (go_at_call 10; refine (of_any _ _).mono ?_; rintro e w' ⟨rfl, hb⟩; replace g0 := g0.trans hb; clear hb) | (go_at_call 27; refine (clip_any _ _ _ _ (by first | exact HA.out | exact HB.out | exact HC.out | exact HD.out) (by first | exact HA.out | exact HB.out | exact HC.out | exact HD.out) (by first | exact HA.out | exact HB.out | exact HC.out | exact HD.out)).mono ?_; rintro e w' ⟨rfl, hb⟩; replace g0 := g0.trans hb; clear hb) | (go_at_call 31; refine (shl_num _ _ _).mono ?_; rintro e w' ⟨rfl, hb⟩; replace g0 := g0.trans hb; clear hb) | (go_at_call 33; refine (shr_any _ _ _).mono ?_; rintro e w' ⟨rfl, hb⟩; replace g0 := g0.trans hb; clear hb))
      go_ret
      exact ⟨rfl, g0⟩
    · by_cases l : a1 < a0
      · go_enter Try.func8, Try.ntmps8
        go_wp2_with (first | (go_at_call 18; refine (known_any _).mono ?_; rintro e w' ⟨rfl, hb⟩; replace g0 := g0.trans hb; clear hb) | (go_at_call 11; refine (told_any _ _).mono ?_; rintro e w' ⟨rfl, hb⟩; replace g0 := g0.trans hb; clear hb) | (go_at_call 10; refine (of_any _ _).mono ?_; rintro e w' ⟨rfl, hb⟩; replace g0 := g0.trans hb; clear hb) | (go_at_call 27; refine (clip_any _ _ _ _ (by first | exact HA.out | exact HB.out | exact HC.out | exact HD.out) (by first | exact HA.out | exact HB.out | exact HC.out | exact HD.out) (by first | exact HA.out | exact HB.out | exact HC.out | exact HD.out)).mono ?_; rintro e w' ⟨rfl, hb⟩; replace g0 := g0.trans hb; clear hb) | (go_at_call 31; refine (shl_num _ _ _).mono ?_; rintro e w' ⟨rfl, hb⟩; replace g0 := g0.trans hb; clear hb) | (go_at_call 33; refine (shr_any _ _ _).mono ?_; rintro e w' ⟨rfl, hb⟩; replace g0 := g0.trans hb; clear hb))
        go_ret
        exact ⟨rfl, g0⟩
      · have s2 : clipF a0 a2 a1 = a0 := by unfold clipF; rw [if_neg k, if_neg l]
        go_enter Try.func8, Try.ntmps8
        go_wp2_with (first | (go_at_call 18; refine (known_any _).mono ?_; rintro e w' ⟨rfl, hb⟩; replace g0 := g0.trans hb; clear hb) | (go_at_call 11; refine (told_any _ _).mono ?_; rintro e w' ⟨rfl, hb⟩; replace g0 := g0.trans hb; clear hb) | (go_at_call 10; refine (of_any _ _).mono ?_; rintro e w' ⟨rfl, hb⟩; replace g0 := g0.trans hb; clear hb) | (go_at_call 27; refine (clip_any _ _ _ _ (by first | exact HA.out | exact HB.out | exact HC.out | exact HD.out) (by first | exact HA.out | exact HB.out | exact HC.out | exact HD.out) (by first | exact HA.out | exact HB.out | exact HC.out | exact HD.out)).mono ?_; rintro e w' ⟨rfl, hb⟩; replace g0 := g0.trans hb; clear hb) | (go_at_call 31; refine (shl_num _ _ _).mono ?_; rintro e w' ⟨rfl, hb⟩; replace g0 := g0.trans hb; clear hb) | (go_at_call 33; refine (shr_any _ _ _).mono ?_; rintro e w' ⟨rfl, hb⟩; replace g0 := g0.trans hb; clear hb))
        go_ret
        exact ⟨rfl, g0⟩
  · have s0 : a1 ≤ clipF a0 a1 a2 := by unfold clipF; split <;> (try split) <;> omega
    have s1 : clipF a0 a1 a2 ≤ a2 := by unfold clipF; split <;> (try split) <;> omega
    have hn : a1 ≤ a2 := by omega
    by_cases e : a1 = a2
    · subst e
      by_cases k : a0 < a1
      · go_enter Try.func8, Try.ntmps8
        go_wp2_with (first | (go_at_call 18; refine (known_any _).mono ?_; rintro e w' ⟨rfl, hb⟩; replace g0 := g0.trans hb; clear hb) | (go_at_call 11; refine (told_any _ _).mono ?_; rintro e w' ⟨rfl, hb⟩; replace g0 := g0.trans hb; clear hb) | (go_at_call 10; refine (of_any _ _).mono ?_; rintro e w' ⟨rfl, hb⟩; replace g0 := g0.trans hb; clear hb) | (go_at_call 27; refine (clip_any _ _ _ _ (by first | exact HA.out | exact HB.out | exact HC.out | exact HD.out) (by first | exact HA.out | exact HB.out | exact HC.out | exact HD.out) (by first | exact HA.out | exact HB.out | exact HC.out | exact HD.out)).mono ?_; rintro e w' ⟨rfl, hb⟩; replace g0 := g0.trans hb; clear hb) | (go_at_call 31; refine (shl_num _ _ _).mono ?_; rintro e w' ⟨rfl, hb⟩; replace g0 := g0.trans hb; clear hb) | (go_at_call 33; refine (shr_any _ _ _).mono ?_; rintro e w' ⟨rfl, hb⟩; replace g0 := g0.trans hb; clear hb))
        go_ret
        exact ⟨rfl, g0⟩
      · by_cases l : a1 < a0
        · go_enter Try.func8, Try.ntmps8
          go_wp2_with (first | (go_at_call 18; refine (known_any _).mono ?_; rintro e w' ⟨rfl, hb⟩; replace g0 := g0.trans hb; clear hb) | (go_at_call 11; refine (told_any _ _).mono ?_; rintro e w' ⟨rfl, hb⟩; replace g0 := g0.trans hb; clear hb) | (go_at_call 10; refine (of_any _ _).mono ?_; rintro e w' ⟨rfl, hb⟩; replace g0 := g0.trans hb; clear hb) | (go_at_call 27; refine (clip_any _ _ _ _ (by first | exact HA.out | exact HB.out | exact HC.out | exact HD.out) (by first | exact HA.out | exact HB.out | exact HC.out | exact HD.out) (by first | exact HA.out | exact HB.out | exact HC.out | exact HD.out)).mono ?_; rintro e w' ⟨rfl, hb⟩; replace g0 := g0.trans hb; clear hb) | (go_at_call 31; refine (shl_num _ _ _).mono ?_; rintro e w' ⟨rfl, hb⟩; replace g0 := g0.trans hb; clear hb) | (go_at_call 33; refine (shr_any _ _ _).mono ?_; rintro e w' ⟨rfl, hb⟩; replace g0 := g0.trans hb; clear hb))
          go_ret
          exact ⟨rfl, g0⟩
        · have s2 : clipF a0 a1 a1 = a0 := by unfold clipF; rw [if_neg k, if_neg l]
          go_enter Try.func8, Try.ntmps8
          go_wp2_with (first | (go_at_call 18; refine (known_any _).mono ?_; rintro e w' ⟨rfl, hb⟩; replace g0 := g0.trans hb; clear hb) | (go_at_call 11; refine (told_any _ _).mono ?_; rintro e w' ⟨rfl, hb⟩; replace g0 := g0.trans hb; clear hb) | (go_at_call 10; refine (of_any _ _).mono ?_; rintro e w' ⟨rfl, hb⟩; replace g0 := g0.trans hb; clear hb) | (go_at_call 27; refine (clip_any _ _ _ _ (by first | exact HA.out | exact HB.out | exact HC.out | exact HD.out) (by first | exact HA.out | exact HB.out | exact HC.out | exact HD.out) (by first | exact HA.out | exact HB.out | exact HC.out | exact HD.out)).mono ?_; rintro e w' ⟨rfl, hb⟩; replace g0 := g0.trans hb; clear hb) | (go_at_call 31; refine (shl_num _ _ _).mono ?_; rintro e w' ⟨rfl, hb⟩; replace g0 := g0.trans hb; clear hb) | (go_at_call 33; refine (shr_any _ _ _).mono ?_; rintro e w' ⟨rfl, hb⟩; replace g0 := g0.trans hb; clear hb))
          go_ret
          exact ⟨rfl, g0⟩
    · have hm : a1 < a2 := by omega
      clear e
      by_cases k : a0 < a1
      · go_enter Try.func8, Try.ntmps8
        go_wp2_with (first | (go_at_call 18; refine (known_any _).mono ?_; rintro e w' ⟨rfl, hb⟩; replace g0 := g0.trans hb; clear hb) | (go_at_call 11; refine (told_any _ _).mono ?_; rintro e w' ⟨rfl, hb⟩; replace g0 := g0.trans hb; clear hb) | (go_at_call 10; refine (of_any _ _).mono ?_; rintro e w' ⟨rfl, hb⟩; replace g0 := g0.trans hb; clear hb) | (go_at_call 27; refine (clip_any _ _ _ _ (by first | exact HA.out | exact HB.out | exact HC.out | exact HD.out) (by first | exact HA.out | exact HB.out | exact HC.out | exact HD.out) (by first | exact HA.out | exact HB.out | exact HC.out | exact HD.out)).mono ?_; rintro e w' ⟨rfl, hb⟩; replace g0 := g0.trans hb; clear hb) | (go_at_call 31; refine (shl_num _ _ _).mono ?_; rintro e w' ⟨rfl, hb⟩; replace g0 := g0.trans hb; clear hb) | (go_at_call 33; refine (shr_any _ _ _).mono ?_; rintro e w' ⟨rfl, hb⟩; replace g0 := g0.trans hb; clear hb))
        go_ret
        exact ⟨rfl, g0⟩
      · by_cases l : a2 < a0
        · go_enter Try.func8, Try.ntmps8
          go_wp2_with (first | (go_at_call 18; refine (known_any _).mono ?_; rintro e w' ⟨rfl, hb⟩; replace g0 := g0.trans hb; clear hb) | (go_at_call 11; refine (told_any _ _).mono ?_; rintro e w' ⟨rfl, hb⟩; replace g0 := g0.trans hb; clear hb) | (go_at_call 10; refine (of_any _ _).mono ?_; rintro e w' ⟨rfl, hb⟩; replace g0 := g0.trans hb; clear hb) | (go_at_call 27; refine (clip_any _ _ _ _ (by first | exact HA.out | exact HB.out | exact HC.out | exact HD.out) (by first | exact HA.out | exact HB.out | exact HC.out | exact HD.out) (by first | exact HA.out | exact HB.out | exact HC.out | exact HD.out)).mono ?_; rintro e w' ⟨rfl, hb⟩; replace g0 := g0.trans hb; clear hb) | (go_at_call 31; refine (shl_num _ _ _).mono ?_; rintro e w' ⟨rfl, hb⟩; replace g0 := g0.trans hb; clear hb) | (go_at_call 33; refine (shr_any _ _ _).mono ?_; rintro e w' ⟨rfl, hb⟩; replace g0 := g0.trans hb; clear hb))
          go_ret
          exact ⟨rfl, g0⟩
        · have s2 : clipF a0 a1 a2 = a0 := by unfold clipF; rw [if_neg k, if_neg l]
          go_enter Try.func8, Try.ntmps8
          go_wp2_with (first | (go_at_call 18; refine (known_any _).mono ?_; rintro e w' ⟨rfl, hb⟩; replace g0 := g0.trans hb; clear hb) | (go_at_call 11; refine (told_any _ _).mono ?_; rintro e w' ⟨rfl, hb⟩; replace g0 := g0.trans hb; clear hb) | (go_at_call 10; refine (of_any _ _).mono ?_; rintro e w' ⟨rfl, hb⟩; replace g0 := g0.trans hb; clear hb) | (go_at_call 27; refine (clip_any _ _ _ _ (by first | exact HA.out | exact HB.out | exact HC.out | exact HD.out) (by first | exact HA.out | exact HB.out | exact HC.out | exact HD.out) (by first | exact HA.out | exact HB.out | exact HC.out | exact HD.out)).mono ?_; rintro e w' ⟨rfl, hb⟩; replace g0 := g0.trans hb; clear hb) | (go_at_call 31; refine (shl_num _ _ _).mono ?_; rintro e w' ⟨rfl, hb⟩; replace g0 := g0.trans hb; clear hb) | (go_at_call 33; refine (shr_any _ _ _).mono ?_; rintro e w' ⟨rfl, hb⟩; replace g0 := g0.trans hb; clear hb))
          go_ret
          exact ⟨rfl, g0⟩

set_option maxRecDepth 100000 in
theorem lifted (os : Os) (started : os.Started) (H : Type) (enc : TypeId × Value → H) :
    ReturnsInHanded {} Try.checked os 8 .any (Rows.secBoundsSpec.pre6 enc Try.prog Try.f8 Rows.secBoundsRow.domain false) (Rows.secBoundsSpec.post enc Try.prog Try.f8 false true false false) := by
  refine returnsInHanded_of_change_sized (C := Try.checked) own started (by kernel_rfl) Try.func8
    (ChangeSpec.witness6 (enc := enc) (C := Try.checked) false ⟨#[], #[.int .i64 0, .int .i32 0, .int .i32 0, .int .i32 0, .int .u8 0], []⟩ 8 (by kernel_rfl) (by kernel_rfl) (by kernel_rfl) (by kernel_rfl)) ?_
  intro W base args ds gs before hval0 hW hcnd hsz0 _
  have hval : ∀ (j : Nat) t v, Try.f8.params[j]? = some t → args[j]? = some v → Value.okWide Try.prog W .any base t v := hval0
  have hsz : (DataW.weightsEach Try.prog (Try.f8.params.toList ++ Rows.secBoundsSpec.plain.varTypes Try.prog) (ds ++ gs)).all (· ≤ reachBytes) = true := hsz0
  have hW' := hW
  obtain ⟨p, q, hA0, hV, rfl, hfz, hnd⟩ := hW
  have hA : DataW.TrodAll enc Try.prog W 0 (fun _ => true) true Try.f8.params.toList args.toList ds p := hA0
  rw [Try.params8] at hA hval hsz
  obtain ⟨v0, vs0, d0, ds0, p0, q0, hargs, rfl, rfl, h0, r0⟩ := trodAll_cons hA
  obtain ⟨v1, vs1, d1, ds1, p1, q1, rfl, rfl, rfl, h1, r1⟩ := trodAll_cons r0
  obtain ⟨v2, vs2, d2, ds2, p2, q2, rfl, rfl, rfl, h2, r2⟩ := trodAll_cons r1
  obtain ⟨v3, vs3, d3, ds3, p3, q3, rfl, rfl, rfl, h3, r3⟩ := trodAll_cons r2
  obtain ⟨v4, vs4, d4, ds4, p4, q4, rfl, rfl, rfl, h4, r4⟩ := trodAll_cons r3
  obtain ⟨rfl, rfl, rfl⟩ := trodAll_nil r4
  obtain rfl : args = #[v0, v1, v2, v3, v4] := by cases args; simp_all
  obtain ⟨rfl, rfl⟩ := trodVars_none hV
  obtain ⟨a0, rfl, rfl, rfl, w0⟩ := open_int Try.underlying3 (hval 0 3 v0 rfl rfl) h0
  obtain ⟨a1, rfl, rfl, rfl, w1⟩ := open_int Try.underlying21 (hval 1 21 v1 rfl rfl) h1
  obtain ⟨a2, rfl, rfl, rfl, w2⟩ := open_int Try.underlying21 (hval 2 21 v2 rfl rfl) h2
  obtain ⟨a3, rfl, rfl, rfl, w3⟩ := open_int Try.underlying21 (hval 3 21 v3 rfl rfl) h3
  obtain ⟨a4, rfl, rfl, rfl, w4⟩ := open_int Try.underlying5 (hval 4 5 v4 rfl rfl) h4
  clear hA0 hval0
  refine (walk W a0 w0 a1 w1 a2 w2 a3 w3 a4 w4).mono fun e W' ⟨he, hg⟩ => ?_
  subst he
  exact ⟨_, rfl, law_post laidOut readable rfl Try.underlying4 rfl rfl hW' hg.below⟩

theorem over : Rows.secBoundsRow.holds Try.pinned (OpenSpec.ofChange Rows.secBoundsSpec) :=
  OpenClaim.holds_of_wide 8 Try.f8 rfl rfl rfl rfl rfl rfl rfl ⟨rfl, rfl, rfl, rfl, rfl⟩ rfl rfl rfl rfl rfl (by kernel_rfl) Try.func8 (by kernel_rfl)
    (of_decide_eq_true (by kernel_rfl)) (by unfold Func.isWrapper; first | (rw [if_pos (by decide +kernel)]; kernel_rfl) | (rw [if_neg (by decide +kernel)]; exact ⟨rfl, rfl⟩))
    (fun os started H enc _ => lifted os started H enc)

theorem proved : Rows.SecBoundsSaid :=
  over
end Go.Proofs.Ytlglhenbkjffbaa.secBounds
namespace Go.Proofs.Ytlglhenbkjffbaa
theorem secBounds_holds : Rows.SecBoundsSaid := secBounds.proved
#print axioms secBounds_holds
end Go.Proofs.Ytlglhenbkjffbaa
