/- For every at, n of a byte and every s the law ScanBack of layer 5 returns true: what was laid over noughts is taken as it was, wherever it lies. No condition. -/
import Derived.Test.YthfdabcknagjoaaScanBits
import Derived.Test.YthfdabcknagjoaaFrame
import Derived.Test.YthfdabcknagjoaaRows
namespace Go.Proofs.Ythfdabcknagjoaa.scanBack
open Go.ChangeShapes Go.WideShapes Go.ChangeAt Go.RowKit
set_option linter.unusedVariables false

theorem own : ownKnob Try.prog.godebug = none := by kernel_rfl
theorem laidOut : laidOutB Try.prog = true := by kernel_rfl
theorem readable : ∀ t ∈ Try.f8.params.toList, Try.prog.readableRec t = true ∧ t < Try.prog.types.size := by
  rw [Try.params8]
  simp only [List.mem_cons, List.not_mem_nil, or_false, forall_eq_or_imp, forall_eq]
  refine ⟨⟨by kernel_rfl, of_decide_eq_true (by kernel_rfl)⟩, ⟨by kernel_rfl, of_decide_eq_true (by kernel_rfl)⟩, ⟨by kernel_rfl, of_decide_eq_true (by kernel_rfl)⟩⟩

set_option maxHeartbeats 20000000 in
set_option maxRecDepth 100000 in
theorem walk (w : World) (a0 : Int) (w0 : (Lit.int .u8 a0).wf = true) (a1 : Int) (w1 : (Lit.int .i64 a1).wf = true) (a2 : Int) (w2 : (Lit.int .u8 a2).wf = true) :
    Calls Try.prog 8 #[.int .u8 a0, .int .i64 a1, .int .u8 a2] w fun e w' => e = .returned (.bool true) ∧ But Nowhere w w' := by
  obtain ⟨p0, p1⟩ := u8_in w0
  have hs := i64_in w1
  obtain ⟨n0, n1⟩ := u8_in w2
  clear w0 w1 w2
  obtain ⟨P, hP⟩ : ∃ P : Nat, a0 % 50 = (P : Int) := ⟨(a0 % 50).toNat, by omega⟩
  obtain ⟨C, hC⟩ : ∃ C : Nat, a2 % 8 = (C : Int) := ⟨(a2 % 8).toNat, by omega⟩
  have hP2 : P < 50 := by omega
  have hC2 : C < 8 := by omega
  have HC : clipF (C : Int) 0 8 = C := by unfold clipF; rw [if_neg (by omega), if_neg (by omega)]
  have E1 := clip_zero 60
  have E2 := clip_all 60
  have E3 : (clipF (60 : Int) 0 (60 : Nat) - clipF 0 0 (60 : Nat)).toNat = 60 := by rw [E1]; rfl
  have hpow : wrap64 (2 ^ (8 * C)) = 2 ^ (8 * C) := by
    refine w64 _ ?_
    have h1 := one_le_pow (8 * C)
    have h2 : (2 : Int) ^ (8 * C) ≤ 2 ^ 56 := by
      have := Nat.pow_le_pow_right (n := 2) (by decide) (show 8 * C ≤ 56 by omega)
      exact_mod_cast this
    omega
  have hpow2 : Hid (wrap64 (2 ^ (8 * C) - 1) = 2 ^ (8 * C) - 1) := by
    refine w64 _ ?_
    have h1 := one_le_pow (8 * C)
    have h2 : (2 : Int) ^ (8 * C) ≤ 2 ^ 56 := by
      have := Nat.pow_le_pow_right (n := 2) (by decide) (show 8 * C ≤ 56 by omega)
      exact_mod_cast this
    omega
  go_enter Try.func8, Try.ntmps8
  go_wp2_with fail
  refine (newBuf_some (ptr none) 60 (by omega) _).mono ?_
  rintro e w1 ⟨rfl, m1⟩
  have h := m1.bf
  have hb := m1.but
  have ng := m1.newg
  have nf : ∀ v k, ¬ FootO none v k := fun v k ⟨_, e, _⟩ => by cases e
  clear m1
  generalize w.heap.size + 1 = b at *
  obtain ⟨g, hgg⟩ : ∃ g, w.heap.size = g := ⟨_, rfl⟩
  rw [hgg] at h
  replace ng : w.heap.size ≤ g := by omega
  clear hgg
  go_wp2_with fail
  refine (of_any _ _).mono ?_
  rintro e w2 ⟨rfl, b2⟩
  replace h := h.but b2 (not_nowhere _) (not_nowhere _)
  replace hb := hb.trans b2
  clear b2
  go_wp2_with fail
  refine (of_any _ _).mono ?_
  rintro e w3 ⟨rfl, b3⟩
  replace h := h.but b3 (not_nowhere _) (not_nowhere _)
  replace hb := hb.trans b3
  clear b3
  go_wp2_with fail
  have pt := put_o h (RcO.nil w3) (nf _ _) (nf _ _) (noughts_in 60) (by simp) P a1 C 0 60
  rw [List.length_replicate, HC, E3, E1] at pt
  refine pt.mono ?_
  rintro e w4 ⟨rfl, v4, r4, m4, f4, b4⟩
  replace hb : But Nowhere w w4 := hb.step b4 (fun k hk f => f.elim (nf _ _) (fun q => by omega))
  clear pt h m4 b4
  have hL := upd_length (putF P a1 C) (List.replicate 60 0) 0 60
  rw [List.length_replicate] at hL
  have hwd : ∀ i : Int, 0 ≤ i → i < 60 → word (upd (putF P a1 C) (List.replicate 60 0) 0 60) i = putF P a1 C i 0 := by
    intro i h0 h1
    rw [word_upd _ _ _ _ _ (by omega) (by simp), if_pos (by omega), word_noughts]
  have htk := acc_tk a1 P C _ (by omega) (by omega) hwd 60 (by omega)
  rw [show min (60 - P) C = C by omega, tk_all a1 hs C (by omega)] at htk
  have HT : Hid (acc (takeF P C) (upd (putF P a1 C) (List.replicate 60 0) 0 60) 0 60 = bits .and .i64 a1 (2 ^ (8 * C) - 1)) := htk
  clear hwd htk
  generalize upd (putF P a1 C) (List.replicate 60 0) 0 60 = L at *
  have HL : Hid (L.length = 60) := hL
  clear hL
  rw [more_none] at r4
  go_wp2_with fail
  refine (of_any _ _).mono ?_
  rintro e w5 ⟨rfl, b5⟩
  replace f4 := f4.but b5 (not_nowhere _) (not_nowhere _)
  replace r4 := r4.but b5 (fun _ _ f => f)
  replace hb := hb.trans b5
  clear b5
  have tt := take_o f4 r4 (nf _ _) (nf _ _) (by have := HL.out; simp; omega) P C 0 60
  rw [HL.out, HC, E3, E1, HT.out] at tt
  go_wp2_with fail
  refine tt.mono ?_
  rintro e w6 ⟨rfl, v6, -, -, b6⟩
  replace hb := hb.step b6 (fun k hk f => (nf _ _ f).elim)
  clear tt f4 r4 b6
  have kX : (w6.alloc (.cells #[.int .i64 (bits .and .i64 a1 (2 ^ (8 * C) - 1))] 29)).cell? ⟨w6.heap.size, 0, none⟩ = some (.int .i64 (bits .and .i64 a1 (2 ^ (8 * C) - 1))) := by go_simp
  replace hb := hb.alloc (.cells #[.int .i64 (bits .and .i64 a1 (2 ^ (8 * C) - 1))] 29)
  go_wp2_with (first | (go_at_call 11; refine (known05_any _).mono ?_; rintro e w7 ⟨rfl, b7⟩; replace kX := b7.keeps (not_nowhere _) kX; replace hb := hb.trans b7) | (go_at_call 16; refine (tell_none _ _).mono ?_; rintro e w8 ⟨rfl, b8⟩; replace hb := hb.trans b8))
  go_ret
  exact ⟨ret_bool (by rw [hpow2.out]; exact beq_self_eq_true _), hb⟩

set_option maxRecDepth 100000 in
theorem lifted (os : Os) (started : os.Started) (H : Type) (enc : TypeId × Value → H) :
    ReturnsInHanded {} Try.checked os 8 .any (Rows.scanBackSpec.pre6 enc Try.prog Try.f8 Rows.scanBackRow.domain false) (Rows.scanBackSpec.post enc Try.prog Try.f8 false true false false) := by
  refine returnsInHanded_of_change_sized (C := Try.checked) own started (by kernel_rfl) Try.func8
    (ChangeSpec.witness6 (enc := enc) (C := Try.checked) false ⟨#[], #[.int .u8 0, .int .i64 0, .int .u8 0], []⟩ 8 (by kernel_rfl) (by kernel_rfl) (by kernel_rfl) (by kernel_rfl)) ?_
  intro W base args ds gs before hval0 hW hcnd hsz0 _
  have hval : ∀ (j : Nat) t v, Try.f8.params[j]? = some t → args[j]? = some v → Value.okWide Try.prog W .any base t v := hval0
  have hsz : (DataW.weightsEach Try.prog (Try.f8.params.toList ++ Rows.scanBackSpec.plain.varTypes Try.prog) (ds ++ gs)).all (· ≤ reachBytes) = true := hsz0
  have hW' := hW
  obtain ⟨p, q, hA0, hV, rfl, hfz, hnd⟩ := hW
  have hA : DataW.TrodAll enc Try.prog W 0 (fun _ => true) true Try.f8.params.toList args.toList ds p := hA0
  rw [Try.params8] at hA hval hsz
  obtain ⟨v0, vs0, d0, ds0, p0, q0, hargs, rfl, rfl, h0, r0⟩ := trodAll_cons hA
  obtain ⟨v1, vs1, d1, ds1, p1, q1, rfl, rfl, rfl, h1, r1⟩ := trodAll_cons r0
  obtain ⟨v2, vs2, d2, ds2, p2, q2, rfl, rfl, rfl, h2, r2⟩ := trodAll_cons r1
  obtain ⟨rfl, rfl, rfl⟩ := trodAll_nil r2
  obtain rfl : args = #[v0, v1, v2] := by cases args; simp_all
  obtain ⟨rfl, rfl⟩ := trodVars_none hV
  obtain ⟨a0, rfl, rfl, rfl, w0⟩ := open_int Try.underlying5 (hval 0 5 v0 rfl rfl) h0
  obtain ⟨a1, rfl, rfl, rfl, w1⟩ := open_int Try.underlying3 (hval 1 3 v1 rfl rfl) h1
  obtain ⟨a2, rfl, rfl, rfl, w2⟩ := open_int Try.underlying5 (hval 2 5 v2 rfl rfl) h2
  clear hA0 hval0
  refine (walk W a0 w0 a1 w1 a2 w2).mono fun e W' ⟨he, hg⟩ => ?_
  subst he
  exact ⟨_, rfl, law_post laidOut readable rfl Try.underlying4 rfl rfl hW' hg.below⟩

theorem over : Rows.scanBackRow.holds Try.pinned (OpenSpec.ofChange Rows.scanBackSpec) :=
  OpenClaim.holds_of_wide 8 Try.f8 rfl rfl rfl rfl rfl rfl rfl ⟨rfl, rfl, rfl, rfl, rfl⟩ rfl rfl rfl rfl rfl (by kernel_rfl) Try.func8 (by kernel_rfl)
    (of_decide_eq_true (by kernel_rfl)) (by unfold Func.isWrapper; first | (rw [if_pos (by decide +kernel)]; kernel_rfl) | (rw [if_neg (by decide +kernel)]; exact ⟨rfl, rfl⟩))
    (fun os started H enc _ => lifted os started H enc)

theorem proved : Rows.ScanBackSaid :=
  over
end Go.Proofs.Ythfdabcknagjoaa.scanBack
namespace Go.Proofs.Ythfdabcknagjoaa
theorem scanBack_holds : Rows.ScanBackSaid := scanBack.proved
#print axioms scanBack_holds
end Go.Proofs.Ythfdabcknagjoaa
