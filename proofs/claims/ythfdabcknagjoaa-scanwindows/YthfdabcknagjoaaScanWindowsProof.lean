/- For every n, from, to, at of a byte and every s the law ScanWindows of layer 5 returns true: a place outside of a window is as if it were not there; no more is seen than the window has. No condition. -/
import Derived.Test.YthfdabcknagjoaaScanNum
import Derived.Test.YthfdabcknagjoaaFrame
import Derived.Test.YthfdabcknagjoaaRows
namespace Go.Proofs.Ythfdabcknagjoaa.scanWindows
open Go.ChangeShapes Go.WideShapes Go.ChangeAt Go.RowKit
set_option linter.unusedVariables false

theorem own : ownKnob Try.prog.godebug = none := by kernel_rfl
theorem laidOut : laidOutB Try.prog = true := by kernel_rfl
theorem readable : ∀ t ∈ Try.f10.params.toList, Try.prog.readableRec t = true ∧ t < Try.prog.types.size := by
  rw [Try.params10]
  simp only [List.mem_cons, List.not_mem_nil, or_false, forall_eq_or_imp, forall_eq]
  refine ⟨⟨by kernel_rfl, of_decide_eq_true (by kernel_rfl)⟩, ⟨by kernel_rfl, of_decide_eq_true (by kernel_rfl)⟩, ⟨by kernel_rfl, of_decide_eq_true (by kernel_rfl)⟩, ⟨by kernel_rfl, of_decide_eq_true (by kernel_rfl)⟩, ⟨by kernel_rfl, of_decide_eq_true (by kernel_rfl)⟩⟩

set_option maxHeartbeats 20000000 in
set_option maxRecDepth 100000 in
theorem walk (w : World) (a0 : Int) (w0 : (Lit.int .u8 a0).wf = true) (a1 : Int) (w1 : (Lit.int .u8 a1).wf = true) (a2 : Int) (w2 : (Lit.int .u8 a2).wf = true) (a3 : Int) (w3 : (Lit.int .u8 a3).wf = true) (a4 : Int) (w4 : (Lit.int .i64 a4).wf = true) :
    Calls Try.prog 10 #[.int .u8 a0, .int .u8 a1, .int .u8 a2, .int .u8 a3, .int .i64 a4] w fun e w' => e = .returned (.bool true) ∧ But Nowhere w w' := by
  obtain ⟨n0, n1⟩ := u8_in w0
  obtain ⟨f0, f1⟩ := u8_in w1
  obtain ⟨t0, t1⟩ := u8_in w2
  obtain ⟨p0, p1⟩ := u8_in w3
  have hs := i64_in w4
  clear w0 w1 w2 w3 w4
  obtain ⟨M, hM⟩ : ∃ M : Nat, a0 % 60 = (M : Int) := ⟨(a0 % 60).toNat, by omega⟩
  have hM2 : M < 60 := by omega
  go_enter Try.func10, Try.ntmps10
  go_wp2_with fail
  refine (new_any _).mono ?_
  rintro e w1 ⟨rfl, h1⟩
  go_wp2_with fail
  refine (newBuf_some (ptr (some w.heap.size)) M (by omega) _).mono ?_
  rintro e w2 ⟨rfl, m2⟩
  have h := Bo.start h1 m2
  clear h1 m2
  generalize w1.heap.size + 1 = b at *
  generalize w1.heap.size = g at *
  clear w1
  go_wp2_with fail
  refine (of_any _ _).mono ?_
  rintro e w3 ⟨rfl, b3⟩
  replace h := h.step b3
  clear b3 w2
  go_wp2_with fail
  refine (of_any _ _).mono ?_
  rintro e w4 ⟨rfl, b4⟩
  replace h := h.step b4
  clear b4 w3
  go_wp2_with fail
  refine (h.store (L := M) (by simp) (noughts_in M) (by simp; omega) a3 a4 a1 a2 (by omega) hs).mono ?_
  rintro e w5 ⟨rfl, v5, h5, -, -⟩
  clear h w4
  have HW : Hid (∀ i : Nat, i < M → word (upd (stF a3 a4) (List.replicate M 0) (lo M a1) (wide M a1 a2)) i = if lo M a1 ≤ i ∧ (i : Int) < lo M a1 + wide M a1 a2 ∧ (i : Int) = a3 then a4 else 0) := by
    intro i hi
    have hw := wide_in M a1 a2
    rw [word_upd _ _ _ _ _ hw.1 (by simpa using hw.2), word_noughts]
    unfold stF
    by_cases c : lo M a1 ≤ (i : Int) ∧ (i : Int) < lo M a1 + (wide M a1 a2 : Int)
    · rw [if_pos c]
      by_cases d : a3 = (i : Int)
      · rw [if_pos d, if_pos ⟨c.1, c.2, d.symm⟩]
      · rw [if_neg d, if_neg (fun q => d q.2.2.symm)]
    · rw [if_neg c, if_neg (fun q => c ⟨q.1, q.2.1⟩)]
  have hc1 := cnt_seenW 1 2 M a1 a2
  have hc2 := cnt_seenW 2 2 M a1 a2
  have hle := seenW_length 2 M a1 a2
  rw [if_neg (by decide), if_pos rfl] at hc1
  rw [if_pos rfl, if_neg (by decide)] at hc2
  simp only [Int.zero_add, List.nil_append] at hc1 hc2 h5
  have hA : (lo M a1 = (M : Int) ∧ (M : Int) < a1) ∨ (lo M a1 = a1 ∧ a1 ≤ (M : Int)) := by
    unfold lo clipF
    rw [if_neg (by omega)]
    split <;> omega
  have hB : ∃ C : Int, (wide M a1 a2 : Int) = C - lo M a1 ∧ ((C = lo M a1 ∧ (a2 ≤ lo M a1 ∨ (M : Int) ≤ lo M a1)) ∨ (C = (M : Int) ∧ (M : Int) < a2) ∨ (C = a2 ∧ a2 ≤ (M : Int) ∧ lo M a1 ≤ a2)) := by
    refine ⟨lo M a1 + wide M a1 a2, by omega, ?_⟩
    unfold wide lo clipF
    rw [if_neg (show ¬ a1 < 0 by omega), if_neg (show ¬ a2 < 0 by omega)]
    split <;> split <;> omega
  obtain ⟨C, hC, hB⟩ := hB
  have hlen : (upd (stF a3 a4) (List.replicate M 0) (lo M a1) (wide M a1 a2)).length = M := by rw [upd_length]; simp
  generalize upd (stF a3 a4) (List.replicate M 0) (lo M a1) (wide M a1 a2) = L at *
  generalize seenW 2 M a1 a2 = E at *
  generalize lo M a1 = A at *
  generalize wide M a1 a2 = N at *
  have HC1 : Hid (cnt 1 E = ((2 * N : Nat) : Int)) := hc1
  have HC2 : Hid (cnt 2 E = 1) := hc2
  have HL : Hid (L.length = M) := hlen
  clear hc1 hc2 hlen
  go_wp2_with fail
  all_goals
    refine (words_some h5.bf).mono ?_
    rw [HL.out]
    rintro e w6 ⟨q, rfl, hR, hq, b6⟩
    replace h5 := h5.step b6
    clear b6 hq
    go_wp2_with fail
    go_loopw [17] (fun i W => ∃ k : Nat, k ≤ M ∧ i = .int .i64 k ∧ Bo w W w.heap.size v5 E b g L ∧ Row W q 29 .i64 L) (fun i _ => M - (intOf i).toNat)
    case atStart => exact ⟨0, Nat.zero_le _, rfl, h5, hR⟩
    case round =>
      clear h5 hR
      obtain ⟨k, hk, rfl, h5, hR⟩ := hrel
      by_cases hlt : k < M
      · have c1 := hR.cell k (by rw [HL.out]; exact hlt)
        rw [word_nat L k (by rw [HL.out]; exact hlt), HW.out k hlt] at c1
        by_cases e3 : (k : Int) = a3
        · subst e3
          by_cases hin : A ≤ (k : Int) ∧ (k : Int) < A + N
          · rw [if_pos ⟨hin.1, hin.2, rfl⟩] at c1
            go_wp2_with (go_at_call 16; refine (tell_none _ _).mono ?_; rintro e w8 ⟨rfl, b8⟩)
            all_goals
              first
              | (exfalso; omega)
              | (go_roundw
                 case rel => exact ⟨k + 1, by omega, by go_num, h5.step b8, hR.but b8 (not_nowhere _)⟩
                 case measure => simp [intOf]; omega)
          · rw [if_neg (fun q => hin ⟨q.1, q.2.1⟩)] at c1
            go_wp2_with (go_at_call 16; refine (tell_none _ _).mono ?_; rintro e w8 ⟨rfl, b8⟩)
            all_goals
              first
              | (exfalso; omega)
              | (go_roundw
                 case rel => exact ⟨k + 1, by omega, by go_num, h5.step b8, hR.but b8 (not_nowhere _)⟩
                 case measure => simp [intOf]; omega)
        · rw [if_neg (fun q => e3 q.2.2)] at c1
          go_wp2_with (go_at_call 16; refine (tell_none _ _).mono ?_; rintro e w8 ⟨rfl, b8⟩)
          all_goals
            first
            | (exfalso; omega)
            | (go_roundw
               case rel => exact ⟨k + 1, by omega, by go_num, h5.step b8, hR.but b8 (not_nowhere _)⟩
               case measure => simp [intOf]; omega)
      · have k1 := count_some w.heap.size v5 E 1
        have k2 := count_some w.heap.size v5 E 2
        rw [HC1.out] at k1
        rw [HC2.out] at k2
        have hN : ((2 * N : Nat) : Int) = 2 * (C - A) := by omega
        rw [hN] at k1
        clear hN
        go_wp2_with (first | (go_at_call 11; refine (known05_any _).mono ?_; rintro e w7 ⟨rfl, b7⟩; replace h5 := h5.step b7) | (go_at_call 29; refine (k1 _ h5.rc (by omega)).mono ?_; clear k1; rintro e w8 ⟨rfl, b8⟩; replace h5 := h5.step b8) | (go_at_call 29; refine (k2 _ h5.rc (by omega)).mono ?_; rintro e w8 ⟨rfl, b8⟩; replace h5 := h5.step b8))
        all_goals first
          | (go_ret
             exact ⟨rfl, h5.but⟩)
          | (exfalso; omega)
          | trace_state

set_option maxRecDepth 100000 in
theorem lifted (os : Os) (started : os.Started) (H : Type) (enc : TypeId × Value → H) :
    ReturnsInHanded {} Try.checked os 10 .any (Rows.scanWindowsSpec.pre6 enc Try.prog Try.f10 Rows.scanWindowsRow.domain false) (Rows.scanWindowsSpec.post enc Try.prog Try.f10 false true false false) := by
  refine returnsInHanded_of_change_sized (C := Try.checked) own started (by kernel_rfl) Try.func10
    (ChangeSpec.witness6 (enc := enc) (C := Try.checked) false ⟨#[], #[.int .u8 0, .int .u8 0, .int .u8 0, .int .u8 0, .int .i64 0], []⟩ 8 (by kernel_rfl) (by kernel_rfl) (by kernel_rfl) (by kernel_rfl)) ?_
  intro W base args ds gs before hval0 hW hcnd hsz0 _
  have hval : ∀ (j : Nat) t v, Try.f10.params[j]? = some t → args[j]? = some v → Value.okWide Try.prog W .any base t v := hval0
  have hsz : (DataW.weightsEach Try.prog (Try.f10.params.toList ++ Rows.scanWindowsSpec.plain.varTypes Try.prog) (ds ++ gs)).all (· ≤ reachBytes) = true := hsz0
  have hW' := hW
  obtain ⟨p, q, hA0, hV, rfl, hfz, hnd⟩ := hW
  have hA : DataW.TrodAll enc Try.prog W 0 (fun _ => true) true Try.f10.params.toList args.toList ds p := hA0
  rw [Try.params10] at hA hval hsz
  obtain ⟨v0, vs0, d0, ds0, p0, q0, hargs, rfl, rfl, h0, r0⟩ := trodAll_cons hA
  obtain ⟨v1, vs1, d1, ds1, p1, q1, rfl, rfl, rfl, h1, r1⟩ := trodAll_cons r0
  obtain ⟨v2, vs2, d2, ds2, p2, q2, rfl, rfl, rfl, h2, r2⟩ := trodAll_cons r1
  obtain ⟨v3, vs3, d3, ds3, p3, q3, rfl, rfl, rfl, h3, r3⟩ := trodAll_cons r2
  obtain ⟨v4, vs4, d4, ds4, p4, q4, rfl, rfl, rfl, h4, r4⟩ := trodAll_cons r3
  obtain ⟨rfl, rfl, rfl⟩ := trodAll_nil r4
  obtain rfl : args = #[v0, v1, v2, v3, v4] := by cases args; simp_all
  obtain ⟨rfl, rfl⟩ := trodVars_none hV
  obtain ⟨a0, rfl, rfl, rfl, w0⟩ := open_int Try.underlying5 (hval 0 5 v0 rfl rfl) h0
  obtain ⟨a1, rfl, rfl, rfl, w1⟩ := open_int Try.underlying5 (hval 1 5 v1 rfl rfl) h1
  obtain ⟨a2, rfl, rfl, rfl, w2⟩ := open_int Try.underlying5 (hval 2 5 v2 rfl rfl) h2
  obtain ⟨a3, rfl, rfl, rfl, w3⟩ := open_int Try.underlying5 (hval 3 5 v3 rfl rfl) h3
  obtain ⟨a4, rfl, rfl, rfl, w4⟩ := open_int Try.underlying3 (hval 4 3 v4 rfl rfl) h4
  clear hA0 hval0
  refine (walk W a0 w0 a1 w1 a2 w2 a3 w3 a4 w4).mono fun e W' ⟨he, hg⟩ => ?_
  subst he
  exact ⟨_, rfl, law_post laidOut readable rfl Try.underlying4 rfl rfl hW' hg.below⟩

theorem over : Rows.scanWindowsRow.holds Try.pinned (OpenSpec.ofChange Rows.scanWindowsSpec) :=
  OpenClaim.holds_of_wide 10 Try.f10 rfl rfl rfl rfl rfl rfl rfl ⟨rfl, rfl, rfl, rfl, rfl⟩ rfl rfl rfl rfl rfl (by kernel_rfl) Try.func10 (by kernel_rfl)
    (of_decide_eq_true (by kernel_rfl)) (by unfold Func.isWrapper; first | (rw [if_pos (by decide +kernel)]; kernel_rfl) | (rw [if_neg (by decide +kernel)]; exact ⟨rfl, rfl⟩))
    (fun os started H enc _ => lifted os started H enc)

theorem proved : Rows.ScanWindowsSaid :=
  over
end Go.Proofs.Ythfdabcknagjoaa.scanWindows
namespace Go.Proofs.Ythfdabcknagjoaa
theorem scanWindows_holds : Rows.ScanWindowsSaid := scanWindows.proved
#print axioms scanWindows_holds
end Go.Proofs.Ythfdabcknagjoaa
