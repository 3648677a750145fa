/- For every two numbers and n, the law SecOpens of layer 3 returns true: each time a secret is told, that is seen; what it is, is not. No condition. -/
import Derived.Test.YtlglhenbkjffbaaSecLaw
import Derived.Test.YtlglhenbkjffbaaSecTwo
import Derived.Test.YtlglhenbkjffbaaFrame
import Derived.Test.YtlglhenbkjffbaaRows
namespace Go.Proofs.Ytlglhenbkjffbaa.secOpens
open Go.ChangeShapes Go.WideShapes Go.ChangeAt Go.RowKit
set_option linter.unusedVariables false

theorem own : ownKnob Try.prog.godebug = none := by kernel_rfl
theorem laidOut : laidOutB Try.prog = true := by kernel_rfl
theorem readable : ∀ t ∈ Try.f6.params.toList, Try.prog.readableRec t = true ∧ t < Try.prog.types.size := by
  rw [Try.params6]
  simp only [List.mem_cons, List.not_mem_nil, or_false, forall_eq_or_imp, forall_eq]
  refine ⟨⟨by kernel_rfl, of_decide_eq_true (by kernel_rfl)⟩, ⟨by kernel_rfl, of_decide_eq_true (by kernel_rfl)⟩, ⟨by kernel_rfl, of_decide_eq_true (by kernel_rfl)⟩⟩

set_option maxHeartbeats 20000000 in
set_option maxRecDepth 100000 in
theorem walk (w : World) (a0 : Int) (w0 : (Lit.int .i64 a0).wf = true) (a1 : Int) (w1 : (Lit.int .i64 a1).wf = true) (a2 : Int) (w2 : (Lit.int .u8 a2).wf = true) :
    Calls Try.prog 6 #[.int .i64 a0, .int .i64 a1, .int .u8 a2] w fun e w' => e = .returned (.bool true) ∧ But Nowhere w w' := by
  obtain ⟨u0, u1⟩ := u8_in w2
  clear w0 w1 w2
  obtain ⟨N, hN⟩ : ∃ N : Nat, a2 % 20 = (N : Int) := ⟨(a2 % 20).toNat, by omega⟩
  have hN2 : N < 20 := by omega
  go_enter Try.func6, Try.ntmps6
  go_wp2_with fail
  refine (new_any _).mono ?_
  rintro e v1 ⟨rfl, h1⟩
  go_wp2_with fail
  refine (new_any _).mono ?_
  rintro e v2 ⟨rfl, h2⟩
  have h := h1.two h2
  clear h1 h2
  go_wp2_with fail
  refine (of_any _ _).mono ?_
  rintro e v3 ⟨rfl, hb⟩
  replace h := h.step hb
  clear hb
  have nx := h.outside (k := v3.heap.size) (Nat.le_refl _)
  have kX : (v3.alloc (.cells #[.int .i64 a0] 23)).cell? ⟨v3.heap.size, 0, none⟩ = some (.int .i64 a0) := by go_simp
  replace h := h.step ((But.refl Nowhere v3).alloc (.cells #[.int .i64 a0] 23))
  go_wp2_with fail
  refine (of_any _ _).mono ?_
  rintro e v4 ⟨rfl, hb⟩
  replace h := h.step hb
  replace kX := hb.keeps (not_nowhere _) kX
  clear hb
  have ny := h.outside (k := v4.heap.size) (Nat.le_refl _)
  have hb := (But.refl Nowhere v4).alloc (.cells #[.int .i64 a1] 23)
  have kY : (v4.alloc (.cells #[.int .i64 a1] 23)).cell? ⟨v4.heap.size, 0, none⟩ = some (.int .i64 a1) := by go_simp
  replace h := h.step hb
  replace kX := hb.keeps (not_nowhere _) kX
  clear hb
  go_wp2_with fail
  go_loopw [11] (fun i W => ∃ (k : Nat) (v u : Value), k ≤ N ∧ i = .int .i64 k ∧ Two w W w.heap.size v (List.replicate k ((3 : Int), (0 : Int))) v1.heap.size u (List.replicate k ((3 : Int), (0 : Int))) ∧ Apart w.heap.size v v1.heap.size u v3.heap.size ∧ Apart w.heap.size v v1.heap.size u v4.heap.size ∧ W.cell? ⟨v3.heap.size, 0, none⟩ = some (.int .i64 a0) ∧ W.cell? ⟨v4.heap.size, 0, none⟩ = some (.int .i64 a1)) (fun i _ => N - (intOf i).toNat)
  case atStart => exact ⟨0, _, _, Nat.zero_le _, rfl, h, nx, ny, kX, kY⟩
  case round =>
    clear h nx ny kX kY
    obtain ⟨k, v, u, hk, rfl, h, nx, ny, kX, kY⟩ := hrel
    by_cases hlt : k < N
    · have hl1 : (k : Int) < (N : Int) := by omega
      go_wp2_with fail
      refine (tell_some _ _ _ _ _ h.one.rcd (by simp; omega)).mono ?_
      rintro e x1 ⟨rfl, hl⟩
      obtain ⟨v', h', hf, hb⟩ := h.laid2 hl
      have lx := cell_lt kX
      have ly := cell_lt kY
      replace kX := hb.keeps nx.1 kX
      replace kY := hb.keeps ny.1 kY
      replace nx := hf _ lx nx
      replace ny := hf _ ly ny
      clear hf hb hl h lx ly
      go_wp2_with fail
      refine (tell_some _ _ _ _ _ h'.two.rcd (by simp; omega)).mono ?_
      rintro e x2 ⟨rfl, hl⟩
      obtain ⟨u', h, hf, hb⟩ := h'.swap.laid2 hl
      have lx := cell_lt kX
      have ly := cell_lt kY
      replace kX := hb.keeps nx.2 kX
      replace kY := hb.keeps ny.2 kY
      replace nx := hf _ lx nx.swap
      replace ny := hf _ ly ny.swap
      clear hf hb hl h' lx ly
      go_wp2_with fail
      go_roundw
      case rel => exact ⟨k + 1, v', u', by omega, by go_num, by rw [List.replicate_succ']; exact h.swap, nx.swap, ny.swap, kX, kY⟩
      case measure => simp [intOf]; omega
    · have hl1 : ¬ (k : Int) < (N : Int) := by omega
      obtain rfl : k = N := by omega
      have c1 := cnt_all k
      have c2 := sameB_self (List.replicate k ((3 : Int), (0 : Int)))
      clear nx ny kX kY hk hlt
      go_wp2_with (first | (go_at_call 18; refine (known_any _).mono ?_; rintro e w' ⟨rfl, hb⟩; replace h := h.step hb; clear hb) | (go_at_call 37; refine (count_some _ _ _ _ _ h.one.rcd (by simp; omega)).mono ?_; rintro e w' ⟨rfl, hb⟩; replace h := h.step hb; clear hb) | (go_at_call 38; refine (same_some _ _ _ _ _ _ _ h.one.rcd h.two.rcd (by simp; omega)).mono ?_; rintro e w' ⟨rfl, hb⟩; replace h := h.step hb; clear hb))
      go_ret
      exact ⟨rfl, h.one.but⟩

set_option maxRecDepth 100000 in
theorem lifted (os : Os) (started : os.Started) (H : Type) (enc : TypeId × Value → H) :
    ReturnsInHanded {} Try.checked os 6 .any (Rows.secOpensSpec.pre6 enc Try.prog Try.f6 Rows.secOpensRow.domain false) (Rows.secOpensSpec.post enc Try.prog Try.f6 false true false false) := by
  refine returnsInHanded_of_change_sized (C := Try.checked) own started (by kernel_rfl) Try.func6
    (ChangeSpec.witness6 (enc := enc) (C := Try.checked) false ⟨#[], #[.int .i64 0, .int .i64 0, .int .u8 0], []⟩ 8 (by kernel_rfl) (by kernel_rfl) (by kernel_rfl) (by kernel_rfl)) ?_
  intro W base args ds gs before hval0 hW hcnd hsz0 _
  have hval : ∀ (j : Nat) t v, Try.f6.params[j]? = some t → args[j]? = some v → Value.okWide Try.prog W .any base t v := hval0
  have hsz : (DataW.weightsEach Try.prog (Try.f6.params.toList ++ Rows.secOpensSpec.plain.varTypes Try.prog) (ds ++ gs)).all (· ≤ reachBytes) = true := hsz0
  have hW' := hW
  obtain ⟨p, q, hA0, hV, rfl, hfz, hnd⟩ := hW
  have hA : DataW.TrodAll enc Try.prog W 0 (fun _ => true) true Try.f6.params.toList args.toList ds p := hA0
  rw [Try.params6] at hA hval hsz
  obtain ⟨v0, vs0, d0, ds0, p0, q0, hargs, rfl, rfl, h0, r0⟩ := trodAll_cons hA
  obtain ⟨v1, vs1, d1, ds1, p1, q1, rfl, rfl, rfl, h1, r1⟩ := trodAll_cons r0
  obtain ⟨v2, vs2, d2, ds2, p2, q2, rfl, rfl, rfl, h2, r2⟩ := trodAll_cons r1
  obtain ⟨rfl, rfl, rfl⟩ := trodAll_nil r2
  obtain rfl : args = #[v0, v1, v2] := by cases args; simp_all
  obtain ⟨rfl, rfl⟩ := trodVars_none hV
  obtain ⟨a0, rfl, rfl, rfl, w0⟩ := open_int Try.underlying3 (hval 0 3 v0 rfl rfl) h0
  obtain ⟨a1, rfl, rfl, rfl, w1⟩ := open_int Try.underlying3 (hval 1 3 v1 rfl rfl) h1
  obtain ⟨a2, rfl, rfl, rfl, w2⟩ := open_int Try.underlying5 (hval 2 5 v2 rfl rfl) h2
  clear hA0 hval0
  refine (walk W a0 w0 a1 w1 a2 w2).mono fun e W' ⟨he, hg⟩ => ?_
  subst he
  exact ⟨_, rfl, law_post laidOut readable rfl Try.underlying4 rfl rfl hW' hg.below⟩

theorem over : Rows.secOpensRow.holds Try.pinned (OpenSpec.ofChange Rows.secOpensSpec) :=
  OpenClaim.holds_of_wide 6 Try.f6 rfl rfl rfl rfl rfl rfl rfl ⟨rfl, rfl, rfl, rfl, rfl⟩ rfl rfl rfl rfl rfl (by kernel_rfl) Try.func6 (by kernel_rfl)
    (of_decide_eq_true (by kernel_rfl)) (by unfold Func.isWrapper; first | (rw [if_pos (by decide +kernel)]; kernel_rfl) | (rw [if_neg (by decide +kernel)]; exact ⟨rfl, rfl⟩))
    (fun os started H enc _ => lifted os started H enc)

theorem proved : Rows.SecOpensSaid :=
  over
end Go.Proofs.Ytlglhenbkjffbaa.secOpens
namespace Go.Proofs.Ytlglhenbkjffbaa
theorem secOpens_holds : Rows.SecOpensSaid := secOpens.proved
#print axioms secOpens_holds
end Go.Proofs.Ytlglhenbkjffbaa
