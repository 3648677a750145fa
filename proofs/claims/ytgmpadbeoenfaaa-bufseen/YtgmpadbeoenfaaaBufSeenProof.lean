/- For every list l of numbers, x and list at of bytes the law BufSeen of layer 4 returns true: two buffers, of which the same places are asked, have the same trace, whatever they hold. No condition. -/
import Derived.Test.YtgmpadbeoenfaaaBufTwo
import Derived.Test.YtgmpadbeoenfaaaSecTwo
import Derived.Test.YtgmpadbeoenfaaaFrame
import Derived.Test.YtgmpadbeoenfaaaRows
namespace Go.Proofs.Ytgmpadbeoenfaaa.bufSeen
open Go.ChangeShapes Go.WideShapes Go.ChangeAt Go.RowKit
set_option linter.unusedVariables false

theorem own : ownKnob Try.prog.godebug = none := by kernel_rfl
theorem laidOut : laidOutB Try.prog = true := by kernel_rfl
theorem readable : ∀ t ∈ Try.f5.params.toList, Try.prog.readableRec t = true ∧ t < Try.prog.types.size := by
  rw [Try.params5]
  simp only [List.mem_cons, List.not_mem_nil, or_false, forall_eq_or_imp, forall_eq]
  refine ⟨⟨by kernel_rfl, of_decide_eq_true (by kernel_rfl)⟩, ⟨by kernel_rfl, of_decide_eq_true (by kernel_rfl)⟩, ⟨by kernel_rfl, of_decide_eq_true (by kernel_rfl)⟩⟩

set_option maxHeartbeats 20000000 in
set_option maxRecDepth 100000 in
theorem walk (w : World) (v0 : Value) (l0 : List Int) (s0 : View w .i64 v0 l0) (x0 : ∀ x ∈ l0, I64 x) (n0 : l0.length ≤ 17592186044416) (a1 : Int) (w1 : (Lit.int .i64 a1).wf = true) (v2 : Value) (l2 : List Int) (s2 : View w .u8 v2 l2) (x2 : ∀ x ∈ l2, 0 ≤ x ∧ x ≤ 255) (n2 : l2.length ≤ 140737488355328) :
    Calls Try.prog 5 #[v0, .int .i64 a1, v2] w fun e w' => e = .returned (.bool true) ∧ But Nowhere w w' := by
  clear w1
  have S0 : Hid (View w .i64 v0 l0) := s0
  obtain ⟨ao, cap, rfl⟩ := s0.slice
  have S2 : Hid (View w .u8 v2 l2) := s2
  obtain ⟨ao2, cap2, rfl⟩ := s2.slice
  clear s0 s2
  by_cases hl : l0.length ≤ 40 ∧ l2.length ≤ 60
  · obtain ⟨hl, hl2⟩ := hl
    have hgt : decide (40 < (l0.length : Int)) = false := by simp; omega
    have hgt2 : decide (60 < (l2.length : Int)) = false := by simp; omega
    have hm := make_ints l0.length (by omega)
    go_enter Try.func5, Try.ntmps5
    go_wp2_with fail
    refine (of_num S0.out hl).mono ?_
    rintro e wa ⟨o, b, g, x, rfl, hA, xr, -⟩
    obtain ⟨xo, xc, rfl⟩ := (View.of_owns xr).slice
    replace hA := hA.step ((But.refl Nowhere _).alloc (.cells #[.slice xo l0.length xc, .slice none 0 0] 28))
    clear xr
    go_wp2_with fail
    have R1 : Row ((wa.alloc (.cells #[.slice xo l0.length xc, .slice none 0 0] 28)).alloc (.cells (ints .i64 (List.replicate l0.length 0)).toArray 3)) (wa.heap.size + 1) 3 .i64 (List.replicate l0.length 0) := by
      have := heap_alloc_new (wa.alloc (.cells #[.slice xo l0.length xc, .slice none 0 0] 28)) (.cells (ints .i64 (List.replicate l0.length 0)).toArray 3)
      simpa [Row] using this
    have V1 := R1.view l0.length
    rw [List.length_replicate] at V1
    replace hA := hA.step ((But.refl Nowhere _).alloc (.cells (ints .i64 (List.replicate l0.length 0)).toArray 3))
    refine (of_num V1 (by rw [List.length_replicate]; omega)).mono ?_
    rintro e wb ⟨p, c, d, y, rfl, hB, yr, -⟩
    obtain ⟨yo, yc, rfl⟩ := (View.of_owns yr).slice
    have h := Bt.start hA hB
    rw [List.length_replicate]
    replace h := h.step ((But.refl Nowhere _).alloc (.cells #[.slice yo l0.length yc, .slice none 0 0] 28))
    clear hA hB yr V1 R1 hm
    go_wp2_with fail
    go_loopw [11] (fun i W => ∃ (k : Nat) (v u : Value) (es : List Ev) (l m : List Int), k ≤ l2.length ∧ i = .int .i64 k ∧ Bt w W o v es b g l p u es c d m ∧ l.length = l0.length ∧ m.length = l0.length ∧ es.length ≤ 2 * k ∧ cnt 3 es = 0) (fun i _ => l2.length - (intOf i).toNat)
    case atStart => exact ⟨0, _, _, _, _, _, Nat.zero_le _, rfl, h, rfl, by simp, by simp, rfl⟩
    case round =>
      clear h
      obtain ⟨k, v, u, es, l, m, hk, rfl, h, el, em, ee, ec⟩ := hrel
      by_cases hlt : k < l2.length
      · obtain ⟨-, sb, off, rfl, -, c1⟩ := (S2.out.but h.one.but).at k hlt
        obtain ⟨-, sb', off', e', hsb, -⟩ := S2.out.at k hlt
        cases e'
        obtain ⟨y0, y1⟩ := x2 _ (List.getElem_mem hlt)
        have i0 : (0 : Int) ≤ (k : Int) := by omega
        have i1 : (k : Int) < (l2.length : Int) := by omega
        obtain ⟨z, hz⟩ : ∃ z, l2[k] = z := ⟨_, rfl⟩
        rw [hz] at y0 y1 c1
        obtain ⟨P, hP⟩ : ∃ P : Nat, z % 50 = (P : Int) := ⟨(z % 50).toNat, by omega⟩
        obtain ⟨Q, hQ⟩ : ∃ Q : Nat, z / 3 = (Q : Int) := ⟨(z / 3).toNat, by omega⟩
        have hP2 : IntKind.i64.wrap (z.tmod 50) = (P : Int) := by rw [Int.tmod_eq_emod_of_nonneg y0, hP, wrap_i64_eq]; exact w64 _ (by omega)
        have hQ2 : IntKind.u8.wrap (z.tdiv 3) = (Q : Int) := by rw [Int.tdiv_eq_ediv_of_nonneg y0, hQ, IntKind.wrap_u8]; omega
        have hQ3 : IntKind.i64.wrap (Q : Int) = (Q : Int) := by rw [wrap_i64_eq]; exact w64 _ (by omega)
        have hP1 : P < 50 := by omega
        have hQ1 : Q < 100 := by omega
        have n1 := h.old hsb
        have c1d : wr.drew.cell? ⟨sb, off + k, none⟩ = some (.int .u8 z) := by simpa using c1
        have hd := h.step (But.refl Nowhere wr).drew
        go_wp2_with fail
        go_region_held3 (fun u => u.cell? ⟨sb, off + k, none⟩ = some (.int .u8 z))
          (first | assumption | exact c1d | exact hb3.keeps (not_nowhere _) (by assumption) | exact hb4.keeps n1 (by assumption))
          (first | (go_at_call 11; refine (of_any _ _).mono ?_; rintro e w3 ⟨rfl, hb3⟩) | (go_at_call 10; refine ((hd.step hb3).set (by omega) P _).mono ?_; rintro e w4 ⟨rfl, v4, h4, hb4⟩))
        rename_i hh
        clear hd h hb3 hb4 c1 c1d n1
        rw [seenAt_len l0 l _ el] at h4
        have el4 : (lay l (P : Int) a1).length = l0.length := by rw [lay_length]; exact el
        generalize lay l (P : Int) a1 = la at h4 el4
        have es4 := seenAt_le l0 (P : Int)
        have n4 := h4.old hsb
        have n4b := h4.swap.old hsb
        have c4d : w4.drew.cell? ⟨sb, off + k, none⟩ = some (.int .u8 z) := by simpa using hh
        clear hh
        have hd := h4.step (But.refl Nowhere w4).drew
        have ee4 : (es ++ seenAt l0 (P : Int)).length ≤ 2 * k + 1 := by simp; omega
        go_wp2_with fail
        go_region_held3 (fun u => u.cell? ⟨sb, off + k, none⟩ = some (.int .u8 z))
          (first | assumption | exact c4d | exact hb5.keeps n4 (by assumption) | exact hb6.keeps n4b (by assumption))
          (first | (go_at_call 13; refine (hd.get (by omega) Q).mono ?_; rintro e w5 ⟨rfl, v5, h5, hb5⟩) | (go_at_call 10; refine (h5.swap.set (by omega) P _).mono ?_; rintro e w6 ⟨rfl, v6, h6, hb6⟩))
        all_goals
          rename_i hh
          clear hd h4 h5 hb5 hb6 c4d
          rw [seenAt_len l0 la _ el4, seenAt_len l0 m _ em] at h6
          have em6 : (lay m (P : Int) (word la (Q : Int))).length = l0.length := by rw [lay_length]; exact em
          generalize lay m (P : Int) (word la (Q : Int)) = mb at h6 em6
          have es6 := seenAt_le l0 (Q : Int)
          go_wp2_with fail
          refine (h6.get (by omega) Q).mono ?_
          rintro e w7 ⟨rfl, v7, h7, -⟩
          rw [seenAt_len l0 mb _ em6] at h7
          clear h6 hh
          have ec7 : cnt 3 (es ++ seenAt l0 (P : Int) ++ seenAt l0 (Q : Int)) = 0 := by rw [cnt_app, cnt_app, cnt_seenAt, cnt_seenAt, ec]; rfl
          have ee7 : (es ++ seenAt l0 (P : Int) ++ seenAt l0 (Q : Int)).length ≤ 2 * (k + 1) := by simp at ee4 ⊢; omega
          generalize es ++ seenAt l0 (P : Int) ++ seenAt l0 (Q : Int) = es7 at h7 ec7 ee7
          clear hz hP hQ y0 y1 hP2 hQ2 hQ3 ee4 es4 es6
          go_wp2_with fail
          go_roundw
          case rel => exact ⟨k + 1, _, _, es7, _, _, by omega, by go_num, h7.swap, el4, em6, ee7, ec7⟩
          case measure => simp [intOf]; omega
      · have i1 : ¬ (k : Int) < (l2.length : Int) := by omega
        have c2 := sameB_self es
        go_wp2_with (first | (go_at_call 8; refine (known_any _).mono ?_; rintro e w' ⟨rfl, hb⟩; replace h := h.step hb; clear hb) | (go_at_call 19; first | (refine (trace_some h.one.bf).mono ?_; rintro e w' ⟨rfl, rfl⟩) | (refine (trace_some h.two.bf).mono ?_; rintro e w' ⟨rfl, rfl⟩)) | (go_at_call 26; refine (count_some _ _ _ _ _ h.one.rc (by omega)).mono ?_; rintro e w' ⟨rfl, hb⟩; replace h := h.step hb; clear hb) | (go_at_call 16; refine (words_some h.one.bf).mono ?_; rw [el]; rintro e w' ⟨kk, rfl, -, -, hb⟩; replace h := h.step hb; clear hb) | (go_at_call 27; refine (same_some _ _ _ _ _ _ _ h.one.rc h.two.rc (by omega)).mono ?_; rintro e w' ⟨rfl, hb⟩; replace h := h.step hb; clear hb))
        go_ret
        exact ⟨rfl, h.one.but⟩
  · go_enter Try.func5, Try.ntmps5
    rcases (show decide (40 < (l0.length : Int)) = true ∨ (decide (40 < (l0.length : Int)) = false ∧ decide (60 < (l2.length : Int)) = true) by
      rcases Nat.lt_or_ge 40 l0.length with h | h
      · exact .inl (by simp; omega)
      · exact .inr ⟨by simp; omega, by simp; omega⟩) with h1 | ⟨h1, h2⟩
    all_goals
      clear hl
      go_wp2_with (go_at_call 8; refine (known_any _).mono ?_; rintro e w' ⟨rfl, hb⟩)
      go_ret
      exact ⟨rfl, hb⟩

set_option maxRecDepth 100000 in
theorem lifted (os : Os) (started : os.Started) (H : Type) (enc : TypeId × Value → H) :
    ReturnsInHanded {} Try.checked os 5 .any (Rows.bufSeenSpec.pre6 enc Try.prog Try.f5 Rows.bufSeenRow.domain false) (Rows.bufSeenSpec.post enc Try.prog Try.f5 false true false false) := by
  refine returnsInHanded_of_change_sized (C := Try.checked) own started (by kernel_rfl) Try.func5
    (ChangeSpec.witness6 (enc := enc) (C := Try.checked) false ⟨#[], #[.slice none 0 0, .int .i64 0, .slice none 0 0], []⟩ 8 (by kernel_rfl) (by kernel_rfl) (by kernel_rfl) (by kernel_rfl)) ?_
  intro W base args ds gs before hval0 hW hcnd hsz0 _
  have hval : ∀ (j : Nat) t v, Try.f5.params[j]? = some t → args[j]? = some v → Value.okWide Try.prog W .any base t v := hval0
  have hsz : (DataW.weightsEach Try.prog (Try.f5.params.toList ++ Rows.bufSeenSpec.plain.varTypes Try.prog) (ds ++ gs)).all (· ≤ reachBytes) = true := hsz0
  have hW' := hW
  obtain ⟨p, q, hA0, hV, rfl, hfz, hnd⟩ := hW
  have hA : DataW.TrodAll enc Try.prog W 0 (fun _ => true) true Try.f5.params.toList args.toList ds p := hA0
  rw [Try.params5] at hA hval hsz
  obtain ⟨v0, vs0, d0, ds0, p0, q0, hargs, rfl, rfl, h0, r0⟩ := trodAll_cons hA
  obtain ⟨v1, vs1, d1, ds1, p1, q1, rfl, rfl, rfl, h1, r1⟩ := trodAll_cons r0
  obtain ⟨v2, vs2, d2, ds2, p2, q2, rfl, rfl, rfl, h2, r2⟩ := trodAll_cons r1
  obtain ⟨rfl, rfl, rfl⟩ := trodAll_nil r2
  obtain rfl : args = #[v0, v1, v2] := by cases args; simp_all
  obtain ⟨rfl, rfl⟩ := trodVars_none hV
  obtain ⟨l0, ⟨s0, x0⟩, e0⟩ := open_ints (hval 0 22 v0 rfl rfl) h0
  have n0 := ints_small hsz (j := 0) rfl rfl e0
  obtain ⟨a1, rfl, rfl, rfl, w1⟩ := open_int Try.underlying3 (hval 1 3 v1 rfl rfl) h1
  obtain ⟨l2, ⟨s2, x2⟩, e2⟩ := open_bytes (hval 2 52 v2 rfl rfl) h2
  have n2 := bytes_small hsz (j := 2) rfl rfl e2
  clear hA0 hval0
  refine (walk W v0 l0 s0 x0 n0 a1 w1 v2 l2 s2 x2 n2).mono fun e W' ⟨he, hg⟩ => ?_
  subst he
  exact ⟨_, rfl, law_post laidOut readable rfl Try.underlying4 rfl rfl hW' hg.below⟩

theorem over : Rows.bufSeenRow.holds Try.pinned (OpenSpec.ofChange Rows.bufSeenSpec) :=
  OpenClaim.holds_of_wide 5 Try.f5 rfl rfl rfl rfl rfl rfl rfl ⟨rfl, rfl, rfl, rfl, rfl⟩ rfl rfl rfl rfl rfl (by kernel_rfl) Try.func5 (by kernel_rfl)
    (of_decide_eq_true (by kernel_rfl)) (by unfold Func.isWrapper; first | (rw [if_pos (by decide +kernel)]; kernel_rfl) | (rw [if_neg (by decide +kernel)]; exact ⟨rfl, rfl⟩))
    (fun os started H enc _ => lifted os started H enc)

theorem proved : Rows.BufSeenSaid :=
  over
end Go.Proofs.Ytgmpadbeoenfaaa.bufSeen
namespace Go.Proofs.Ytgmpadbeoenfaaa
theorem bufSeen_holds : Rows.BufSeenSaid := bufSeen.proved
#print axioms bufSeen_holds
end Go.Proofs.Ytgmpadbeoenfaaa
