/- For all lists l, m of numbers, every a, b, s and every from, to of a byte the law ScanSame of layer 5 returns true: over the same window the same is seen, whatever the place, and whatever is held. No condition. -/
import Derived.Test.YthfdabcknagjoaaScanTwo
import Derived.Test.YthfdabcknagjoaaSecTwo
import Derived.Test.YthfdabcknagjoaaFrame
import Derived.Test.YthfdabcknagjoaaRows
namespace Go.Proofs.Ythfdabcknagjoaa.scanSame
open Go.ChangeShapes Go.WideShapes Go.ChangeAt Go.RowKit
set_option linter.unusedVariables false

theorem own : ownKnob Try.prog.godebug = none := by kernel_rfl
theorem laidOut : laidOutB Try.prog = true := by kernel_rfl
theorem readable : ∀ t ∈ Try.f7.params.toList, Try.prog.readableRec t = true ∧ t < Try.prog.types.size := by
  rw [Try.params7]
  simp only [List.mem_cons, List.not_mem_nil, or_false, forall_eq_or_imp, forall_eq]
  refine ⟨⟨by kernel_rfl, of_decide_eq_true (by kernel_rfl)⟩, ⟨by kernel_rfl, of_decide_eq_true (by kernel_rfl)⟩, ⟨by kernel_rfl, of_decide_eq_true (by kernel_rfl)⟩, ⟨by kernel_rfl, of_decide_eq_true (by kernel_rfl)⟩, ⟨by kernel_rfl, of_decide_eq_true (by kernel_rfl)⟩, ⟨by kernel_rfl, of_decide_eq_true (by kernel_rfl)⟩, ⟨by kernel_rfl, of_decide_eq_true (by kernel_rfl)⟩⟩

set_option maxHeartbeats 20000000 in
set_option maxRecDepth 100000 in
theorem walk (w : World) (v0 : Value) (l0 : List Int) (s0 : View w .i64 v0 l0) (x0 : ∀ x ∈ l0, I64 x) (n0 : l0.length ≤ 17592186044416) (v1 : Value) (l1 : List Int) (s1 : View w .i64 v1 l1) (x1 : ∀ x ∈ l1, I64 x) (n1 : l1.length ≤ 17592186044416) (y1 : Roomy v1) (a2 : Int) (w2 : (Lit.int .i64 a2).wf = true) (a3 : Int) (w3 : (Lit.int .i64 a3).wf = true) (a4 : Int) (w4 : (Lit.int .i64 a4).wf = true) (a5 : Int) (w5 : (Lit.int .u8 a5).wf = true) (a6 : Int) (w6 : (Lit.int .u8 a6).wf = true) :
    Calls Try.prog 7 #[v0, v1, .int .i64 a2, .int .i64 a3, .int .i64 a4, .int .u8 a5, .int .u8 a6] w fun e w' => e = .returned (.bool true) ∧ But Nowhere w w' := by
  have ia := i64_in w2
  have ib := i64_in w3
  have is := i64_in w4
  obtain ⟨f0, f1⟩ := u8_in w5
  obtain ⟨t0, t1⟩ := u8_in w6
  clear w2 w3 w4 w5 w6
  have S0 : Hid (View w .i64 v0 l0) := s0
  obtain ⟨ao, cap, rfl⟩ := s0.slice
  have S1 : Hid (View w .i64 v1 l1) := s1
  obtain ⟨ao1, cap1, rfl⟩ := s1.slice
  have hcap := y1 _ _ _ rfl
  clear s0 s1 y1
  have hI : I64s l0 := x0
  have hI1 : I64s (l1.take l0.length) := fun x hx => x1 x (List.mem_of_mem_take hx)
  clear x0 x1
  by_cases hl : l0.length ≤ 40 ∧ l0.length ≤ l1.length
  · obtain ⟨hl, hl2⟩ := hl
    have hgt : decide (40 < (l0.length : Int)) = false := by simp; omega
    have hgt2 : decide ((l1.length : Int) < (l0.length : Int)) = false := by simp; omega
    have hlt1 : (l1.take l0.length).length = l0.length := by rw [List.length_take]; omega
    go_enter Try.func7, Try.ntmps7
    go_wp2_with fail
    refine (of05_num S0.out (by omega)).mono ?_
    rintro e wa ⟨o, b, g, x, rfl, hA, xr, -⟩
    obtain ⟨xo, xc, rfl⟩ := (View.of_owns xr).slice
    replace hA := hA.step ((But.refl Nowhere _).alloc (.cells #[.slice xo l0.length xc, .slice none 0 0] 43))
    clear xr
    have bwa := hA.but
    go_wp2_with fail
    refine (of05_num ((S1.out.but hA.but).take l0.length (by omega) cap1) (by omega)).mono ?_
    rintro e wb ⟨p, c, d, y, rfl, hB, yr, -⟩
    obtain ⟨yo, yc, rfl⟩ := (View.of_owns yr).slice
    have h := Bt.start hA hB
    replace h := h.step ((But.refl Nowhere _).alloc (.cells #[.slice yo l0.length yc, .slice none 0 0] 43))
    clear hA hB yr bwa
    have hm : Hid ((l1.take l0.length).length = l0.length) := hlt1
    have il := hI
    have im := hI1
    have g1 := seenW_length 1 l0.length a5 a6
    have g2 := seenW_length 2 l0.length a5 a6
    have q13 := cnt_seenW 3 1 l0.length a5 a6
    have q23 := cnt_seenW 3 2 l0.length a5 a6
    have q12 := cnt_seenW 2 1 l0.length a5 a6
    have q22 := cnt_seenW 2 2 l0.length a5 a6
    rw [if_neg (by decide), if_neg (by decide)] at q13 q23
    rw [if_pos rfl, if_neg (by decide)] at q12 q22
    have HQ : Hid (∀ A B : List Ev, A = seenW 1 l0.length a5 a6 → B = seenW 2 l0.length a5 a6 → cnt 3 ((([] ++ A) ++ B ++ B) ++ A) = 0 ∧ cnt 2 ((([] ++ A) ++ B ++ B) ++ A) = 4) := by
      rintro A B rfl rfl
      simp only [cnt_app, q13, q23, q12, q22]
      decide
    obtain ⟨E1, e1⟩ : ∃ E1, seenW 1 l0.length a5 a6 = E1 := ⟨_, rfl⟩
    obtain ⟨E2, e2⟩ : ∃ E2, seenW 2 l0.length a5 a6 = E2 := ⟨_, rfl⟩
    obtain ⟨c3, c2⟩ := HQ.out E1 E2 e1.symm e2.symm
    rw [e1] at g1
    rw [e2] at g2
    clear q13 q23 q12 q22 HQ
    go_wp2_with fail
    refine (of_any _ _).mono ?_
    rintro e wq ⟨rfl, bq⟩
    replace h := h.step bq
    clear bq
    go_wp2_with fail
    refine (h.load rfl il (by have q2 := hm.out; simp <;> omega) _ _ _ ia).mono ?_
    rintro e wr ⟨xx, rfl, vv, hh⟩
    clear h
    have h := hh
    clear hh
    rw [e1] at h
    go_wp2_with fail
    refine (of_any _ _).mono ?_
    rintro e wq ⟨rfl, bq⟩
    replace h := h.step bq
    clear bq
    go_wp2_with fail
    refine (h.swap.load hm.out im (by have q2 := hm.out; simp <;> omega) _ _ _ ib).mono ?_
    rintro e wr ⟨xx, rfl, vv, hh⟩
    clear h
    have h := hh.swap
    clear hh
    rw [e1] at h
    go_wp2_with fail
    refine (of_any _ _).mono ?_
    rintro e wq ⟨rfl, bq⟩
    replace h := h.step bq
    clear bq
    go_wp2_with fail
    refine (of_any _ _).mono ?_
    rintro e wq ⟨rfl, bq⟩
    replace h := h.step bq
    clear bq
    go_wp2_with fail
    refine (h.store rfl il (by have q2 := hm.out; simp <;> omega) _ _ _ _ ib is).mono ?_
    rintro e wr ⟨rfl, vv, ll, hh, n2, i2⟩
    clear il
    have hn : Hid (ll.length = l0.length) := n2
    have il := i2
    clear n2 i2
    clear h
    have h := hh
    clear hh
    rw [e2] at h
    go_wp2_with fail
    refine (of_any _ _).mono ?_
    rintro e wq ⟨rfl, bq⟩
    replace h := h.step bq
    clear bq
    go_wp2_with fail
    refine (of_any _ _).mono ?_
    rintro e wq ⟨rfl, bq⟩
    replace h := h.step bq
    clear bq
    go_wp2_with fail
    refine (h.swap.store hm.out im (by have q1 := hn.out; have q2 := hm.out; simp <;> omega) _ _ _ _ ia ia).mono ?_
    rintro e wr ⟨rfl, vv, ll, hh, n2, i2⟩
    clear hm im
    have hm : Hid (ll.length = l0.length) := n2
    have im := i2
    clear n2 i2
    clear h
    have h := hh.swap
    clear hh
    rw [e2] at h
    go_wp2_with fail
    refine (of_any _ _).mono ?_
    rintro e wq ⟨rfl, bq⟩
    replace h := h.step bq
    clear bq
    go_wp2_with fail
    refine (of_any _ _).mono ?_
    rintro e wq ⟨rfl, bq⟩
    replace h := h.step bq
    clear bq
    go_wp2_with fail
    refine (h.put hn.out il (by have q1 := hn.out; have q2 := hm.out; simp <;> omega) _ _ _ _ _).mono ?_
    rintro e wr ⟨rfl, vv, ll, hh, n2, i2⟩
    clear hn il
    have hn : Hid (ll.length = l0.length) := n2
    have il := i2
    clear n2 i2
    clear h
    have h := hh
    clear hh
    rw [e2] at h
    go_wp2_with fail
    refine (of_any _ _).mono ?_
    rintro e wq ⟨rfl, bq⟩
    replace h := h.step bq
    clear bq
    go_wp2_with fail
    refine (of_any _ _).mono ?_
    rintro e wq ⟨rfl, bq⟩
    replace h := h.step bq
    clear bq
    go_wp2_with fail
    refine (h.swap.put hm.out im (by have q1 := hn.out; have q2 := hm.out; simp <;> omega) _ _ _ _ _).mono ?_
    rintro e wr ⟨rfl, vv, ll, hh, n2, i2⟩
    clear hm im
    have hm : Hid (ll.length = l0.length) := n2
    have im := i2
    clear n2 i2
    clear h
    have h := hh.swap
    clear hh
    rw [e2] at h
    go_wp2_with fail
    refine (of_any _ _).mono ?_
    rintro e wq ⟨rfl, bq⟩
    replace h := h.step bq
    clear bq
    go_wp2_with fail
    refine (h.take hn.out (by have q1 := hn.out; have q2 := hm.out; simp <;> omega) _ _ _ _).mono ?_
    rintro e wr ⟨xx, rfl, vv, hh⟩
    clear h
    have h := hh
    clear hh
    rw [e1] at h
    go_wp2_with fail
    refine (of_any _ _).mono ?_
    rintro e wq ⟨rfl, bq⟩
    replace h := h.step bq
    clear bq
    go_wp2_with fail
    refine (h.swap.take hm.out (by have q1 := hn.out; have q2 := hm.out; simp <;> omega) _ _ _ _).mono ?_
    rintro e wr ⟨xx, rfl, vv, hh⟩
    clear h
    have h := hh.swap
    clear hh
    rw [e1] at h
    have hE : ([] ++ E1 ++ E2 ++ E2 ++ E1 : List Ev).length ≤ 1000000 := by simp; omega
    revert c3 c2 hE h
    generalize ([] ++ E1 ++ E2 ++ E2 ++ E1 : List Ev) = E
    intro c3 c2 h hE
    have k3 := fun v => count_some o v E 3
    have k2 := fun v => count_some o v E 2
    rw [c3] at k3
    rw [c2] at k2
    have ks := fun v u => same_some o p v u E E
    rw [sameB_self] at ks
    clear c3 c2
    go_wp2_with (first | (go_at_call 11; refine (known05_any _).mono ?_; rintro e w7 ⟨rfl, b7⟩; replace h := h.step b7) | (go_at_call 28; first | (refine (trace_some h.one.bf).mono ?_; rintro e w' ⟨rfl, rfl⟩) | (refine (trace_some h.two.bf).mono ?_; rintro e w' ⟨rfl, rfl⟩)) | (go_at_call 27; refine (ks _ _ _ h.one.rc h.two.rc hE).mono ?_; rintro e w8 ⟨rfl, b8⟩; replace h := h.step b8) | (go_at_call 29; refine (k3 _ _ h.one.rc hE).mono ?_; clear k3; rintro e w8 ⟨rfl, b8⟩; replace h := h.step b8) | (go_at_call 29; refine (k2 _ _ h.one.rc hE).mono ?_; rintro e w8 ⟨rfl, b8⟩; replace h := h.step b8))
    go_ret
    exact ⟨rfl, h.one.but⟩
  · rcases (show 40 < l0.length ∨ (l0.length ≤ 40 ∧ l1.length < l0.length) by omega) with h1 | ⟨h1, h2⟩
    · go_enter Try.func7, Try.ntmps7
      go_wp2_with (go_at_call 11; refine (known05_any _).mono ?_; rintro e w' ⟨rfl, hb⟩)
      go_ret
      exact ⟨rfl, hb⟩
    · have hgt : decide (40 < (l0.length : Int)) = false := by simp; omega
      go_enter Try.func7, Try.ntmps7
      go_wp2_with (go_at_call 11; refine (known05_any _).mono ?_; rintro e w' ⟨rfl, hb⟩)
      go_ret
      exact ⟨rfl, hb⟩

set_option maxRecDepth 100000 in
theorem lifted (os : Os) (started : os.Started) (H : Type) (enc : TypeId × Value → H) :
    ReturnsInHanded {} Try.checked os 7 .any (Rows.scanSameSpec.pre6 enc Try.prog Try.f7 Rows.scanSameRow.domain false) (Rows.scanSameSpec.post enc Try.prog Try.f7 false true false false) := by
  refine returnsInHanded_of_change_sized (C := Try.checked) own started (by kernel_rfl) Try.func7
    (ChangeSpec.witness6 (enc := enc) (C := Try.checked) false ⟨#[], #[.slice none 0 0, .slice none 0 0, .int .i64 0, .int .i64 0, .int .i64 0, .int .u8 0, .int .u8 0], []⟩ 8 (by kernel_rfl) (by kernel_rfl) (by kernel_rfl) (by kernel_rfl)) ?_
  intro W base args ds gs before hval0 hW hcnd hsz0 _
  have hval : ∀ (j : Nat) t v, Try.f7.params[j]? = some t → args[j]? = some v → Value.okWide Try.prog W .any base t v := hval0
  have hsz : (DataW.weightsEach Try.prog (Try.f7.params.toList ++ Rows.scanSameSpec.plain.varTypes Try.prog) (ds ++ gs)).all (· ≤ reachBytes) = true := hsz0
  have hW' := hW
  obtain ⟨p, q, hA0, hV, rfl, hfz, hnd⟩ := hW
  have hA : DataW.TrodAll enc Try.prog W 0 (fun _ => true) true Try.f7.params.toList args.toList ds p := hA0
  rw [Try.params7] at hA hval hsz
  obtain ⟨v0, vs0, d0, ds0, p0, q0, hargs, rfl, rfl, h0, r0⟩ := trodAll_cons hA
  obtain ⟨v1, vs1, d1, ds1, p1, q1, rfl, rfl, rfl, h1, r1⟩ := trodAll_cons r0
  obtain ⟨v2, vs2, d2, ds2, p2, q2, rfl, rfl, rfl, h2, r2⟩ := trodAll_cons r1
  obtain ⟨v3, vs3, d3, ds3, p3, q3, rfl, rfl, rfl, h3, r3⟩ := trodAll_cons r2
  obtain ⟨v4, vs4, d4, ds4, p4, q4, rfl, rfl, rfl, h4, r4⟩ := trodAll_cons r3
  obtain ⟨v5, vs5, d5, ds5, p5, q5, rfl, rfl, rfl, h5, r5⟩ := trodAll_cons r4
  obtain ⟨v6, vs6, d6, ds6, p6, q6, rfl, rfl, rfl, h6, r6⟩ := trodAll_cons r5
  obtain ⟨rfl, rfl, rfl⟩ := trodAll_nil r6
  obtain rfl : args = #[v0, v1, v2, v3, v4, v5, v6] := by cases args; simp_all
  obtain ⟨rfl, rfl⟩ := trodVars_none hV
  obtain ⟨l0, ⟨s0, x0⟩, e0⟩ := open_ints (hval 0 22 v0 rfl rfl) h0
  have n0 := ints_small hsz (j := 0) rfl rfl e0
  have y1 := ints_room (hval 1 22 v1 rfl rfl) h1
  obtain ⟨l1, ⟨s1, x1⟩, e1⟩ := open_ints (hval 1 22 v1 rfl rfl) h1
  have n1 := ints_small hsz (j := 1) rfl rfl e1
  obtain ⟨a2, rfl, rfl, rfl, w2⟩ := open_int Try.underlying3 (hval 2 3 v2 rfl rfl) h2
  obtain ⟨a3, rfl, rfl, rfl, w3⟩ := open_int Try.underlying3 (hval 3 3 v3 rfl rfl) h3
  obtain ⟨a4, rfl, rfl, rfl, w4⟩ := open_int Try.underlying3 (hval 4 3 v4 rfl rfl) h4
  obtain ⟨a5, rfl, rfl, rfl, w5⟩ := open_int Try.underlying5 (hval 5 5 v5 rfl rfl) h5
  obtain ⟨a6, rfl, rfl, rfl, w6⟩ := open_int Try.underlying5 (hval 6 5 v6 rfl rfl) h6
  clear hA0 hval0
  refine (walk W v0 l0 s0 x0 n0 v1 l1 s1 x1 n1 y1 a2 w2 a3 w3 a4 w4 a5 w5 a6 w6).mono fun e W' ⟨he, hg⟩ => ?_
  subst he
  exact ⟨_, rfl, law_post laidOut readable rfl Try.underlying4 rfl rfl hW' hg.below⟩

theorem over : Rows.scanSameRow.holds Try.pinned (OpenSpec.ofChange Rows.scanSameSpec) :=
  OpenClaim.holds_of_wide 7 Try.f7 rfl rfl rfl rfl rfl rfl rfl ⟨rfl, rfl, rfl, rfl, rfl⟩ rfl rfl rfl rfl rfl (by kernel_rfl) Try.func7 (by kernel_rfl)
    (of_decide_eq_true (by kernel_rfl)) (by unfold Func.isWrapper; first | (rw [if_pos (by decide +kernel)]; kernel_rfl) | (rw [if_neg (by decide +kernel)]; exact ⟨rfl, rfl⟩))
    (fun os started H enc _ => lifted os started H enc)

theorem proved : Rows.ScanSameSaid :=
  over
end Go.Proofs.Ythfdabcknagjoaa.scanSame
namespace Go.Proofs.Ythfdabcknagjoaa
theorem scanSame_holds : Rows.ScanSameSaid := scanSame.proved
#print axioms scanSame_holds
end Go.Proofs.Ythfdabcknagjoaa
