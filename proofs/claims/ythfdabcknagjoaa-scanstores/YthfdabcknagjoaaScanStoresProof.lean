/- For every list l of numbers, at of a byte and every s the law ScanStores of layer 5 returns true: what was laid at a place of a window is loaded from there; all else is as it was. No condition. -/
import Derived.Test.YthfdabcknagjoaaScanNum
import Derived.Test.YthfdabcknagjoaaFrame
import Derived.Test.YthfdabcknagjoaaRows
namespace Go.Proofs.Ythfdabcknagjoaa.scanStores
open Go.ChangeShapes Go.WideShapes Go.ChangeAt Go.RowKit
set_option linter.unusedVariables false

theorem own : ownKnob Try.prog.godebug = none := by kernel_rfl
theorem laidOut : laidOutB Try.prog = true := by kernel_rfl
theorem readable : ∀ t ∈ Try.f9.params.toList, Try.prog.readableRec t = true ∧ t < Try.prog.types.size := by
  rw [Try.params9]
  simp only [List.mem_cons, List.not_mem_nil, or_false, forall_eq_or_imp, forall_eq]
  refine ⟨⟨by kernel_rfl, of_decide_eq_true (by kernel_rfl)⟩, ⟨by kernel_rfl, of_decide_eq_true (by kernel_rfl)⟩, ⟨by kernel_rfl, of_decide_eq_true (by kernel_rfl)⟩⟩

set_option maxHeartbeats 20000000 in
set_option maxRecDepth 100000 in
theorem walk (w : World) (v0 : Value) (l0 : List Int) (s0 : View w .i64 v0 l0) (x0 : ∀ x ∈ l0, I64 x) (n0 : l0.length ≤ 17592186044416) (a1 : Int) (w1 : (Lit.int .u8 a1).wf = true) (a2 : Int) (w2 : (Lit.int .i64 a2).wf = true) :
    Calls Try.prog 9 #[v0, .int .u8 a1, .int .i64 a2] w fun e w' => e = .returned (.bool true) ∧ But Nowhere w w' := by
  obtain ⟨p0, p1⟩ := u8_in w1
  have hs := i64_in w2
  clear w1 w2
  have S0 : Hid (View w .i64 v0 l0) := s0
  obtain ⟨ao, cap, rfl⟩ := s0.slice
  clear s0
  have hI : I64s l0 := x0
  clear x0
  by_cases hl : 1 ≤ l0.length ∧ l0.length ≤ 60
  · obtain ⟨hl1, hl2⟩ := hl
    have hgt : decide (60 < (l0.length : Int)) = false := by simp; omega
    have hz : ((l0.length : Int) == 0) = false := by rw [beq_eq_false_iff_ne]; omega
    obtain ⟨P, hP⟩ : ∃ P : Nat, a1 % (l0.length : Int) = (P : Int) := ⟨(a1 % (l0.length : Int)).toNat, by have := Int.emod_nonneg a1 (show (l0.length : Int) ≠ 0 by omega); omega⟩
    have hP1 : P < l0.length := by have := Int.emod_lt_of_pos a1 (show (0 : Int) < (l0.length : Int) by omega); omega
    have hP2 : a1.tmod (l0.length : Int) = (P : Int) := by rw [Int.tmod_eq_emod_of_nonneg p0]; exact hP
    have E1 := lo_zero l0.length
    have E2 := wide_all l0.length
    go_enter Try.func9, Try.ntmps9
    go_wp2_with fail
    refine (of05_num S0.out hl2).mono ?_
    rintro e wa ⟨o, b, g, x, rfl, h, xr, -⟩
    obtain ⟨xo, xc, rfl⟩ := (View.of_owns xr).slice
    replace h := h.step ((But.refl Nowhere _).alloc (.cells #[.slice xo l0.length xc, .slice none 0 0] 43))
    clear xr
    go_wp2_with fail
    refine (of_any _ _).mono ?_
    rintro e w3 ⟨rfl, b3⟩
    replace h := h.step b3
    clear b3
    go_wp2_with fail
    refine (of_any _ _).mono ?_
    rintro e w4 ⟨rfl, b4⟩
    replace h := h.step b4
    clear b4 w3
    go_wp2_with fail
    have st := h.store (L := l0.length) rfl hI (by simp; omega) P a2 0 l0.length (by omega) hs
    rw [E1, E2] at st
    refine st.mono ?_
    rintro e w5 ⟨rfl, v5, h5, -, -⟩
    clear h st w4
    have hL := upd_length (stF P a2) l0 0 l0.length
    have iL := upd_in (f := stF P a2) l0 0 l0.length hI (fun i x hx => by unfold stF; split <;> assumption)
    have HW : Hid (∀ i : Int, 0 ≤ i → i < l0.length → word (upd (stF P a2) l0 0 l0.length) i = if (P : Int) = i then a2 else word l0 i) := by
      intro i h0 h1
      rw [word_upd _ _ _ _ _ (by omega) (by omega), if_pos (by omega)]
      rfl
    have le5 := seenW_length 2 l0.length 0 l0.length
    generalize upd (stF P a2) l0 0 l0.length = L at *
    rw [List.nil_append] at h5
    generalize seenW 2 l0.length 0 l0.length = E at *
    have HL : Hid (L.length = l0.length) := hL
    go_wp2_with fail
    refine (of_any _ _).mono ?_
    rintro e w6 ⟨rfl, b6⟩
    replace h5 := h5.step b6
    clear b6
    have ld := h5.load (L := l0.length) hL iL (by omega) P 0 l0.length (by omega)
    rw [E1, E2, acc_ld, if_pos (by omega), HW.out P (by omega) (by omega), if_pos rfl] at ld
    clear hL
    go_wp2_with fail
    refine ld.mono ?_
    rintro e w7 ⟨rfl, v7, h7, -, -⟩
    clear ld h5 w6
    have le7 := seenW_length 1 l0.length 0 l0.length
    generalize seenW 1 l0.length 0 l0.length = E7 at *
    have kX : (w7.alloc (.cells #[.int .i64 a2] 29)).cell? ⟨w7.heap.size, 0, none⟩ = some (.int .i64 a2) := by go_simp
    have nX : ¬ FootB o v7 b g w7.heap.size := fun f => by have := h7.lt f; omega
    replace h7 := h7.step ((But.refl Nowhere _).alloc (.cells #[.int .i64 a2] 29))
    go_wp2_with fail
    refine (of_any _ _).mono ?_
    rintro e w8 ⟨rfl, b8⟩
    replace h7 := h7.step b8
    replace kX := b8.keeps (not_nowhere _) kX
    clear b8
    have ld := h7.load (L := l0.length) HL.out iL (by simp; have := HL.out; omega) l0.length 0 l0.length (by omega)
    rw [E1, E2, acc_ld, if_neg (by omega)] at ld
    go_wp2_with fail
    refine ld.mono ?_
    rintro e w9 ⟨rfl, v9, h9, -, b9⟩
    replace kX := b9.keeps nX kX
    clear ld h7 b9 nX w8
    rw [List.append_assoc] at h9
    have le9 := seenW_length 1 l0.length 0 l0.length
    generalize w7.heap.size = nx at *
    clear w7
    have kY : (w9.alloc (.cells #[.int .i64 0] 29)).cell? ⟨w9.heap.size, 0, none⟩ = some (.int .i64 0) := by go_simp
    have b10 := (But.refl Nowhere w9).alloc (.cells #[.int .i64 0] 29)
    replace h9 := h9.step b10
    replace kX := b10.keeps (not_nowhere _) kX
    clear b10
    go_wp2_with fail
    refine (words_some h9.bf).mono ?_
    rw [HL.out]
    rintro e w10 ⟨q, rfl, hR, hq, b10⟩
    replace h9 := h9.step b10
    replace kX := b10.keeps (not_nowhere _) kX
    replace kY := b10.keeps (not_nowhere _) kY
    clear b10 hq
    generalize w9.heap.size = ny at *
    go_wp2_with fail
    go_loopw [13] (fun i W => ∃ k : Nat, k ≤ l0.length ∧ i = .int .i64 k ∧ But Nowhere w W ∧ Row W q 29 .i64 L ∧ W.cell? ⟨nx, 0, none⟩ = some (.int .i64 a2) ∧ W.cell? ⟨ny, 0, none⟩ = some (.int .i64 0)) (fun i _ => l0.length - (intOf i).toNat)
    case atStart => exact ⟨0, Nat.zero_le _, rfl, h9.but, hR, kX, kY⟩
    case round =>
      clear h9 hR kX kY
      obtain ⟨k, hk, rfl, hB, hR, kX, kY⟩ := hrel
      by_cases hlt : k < l0.length
      · have c1 := hR.cell k (by rw [HL.out]; exact hlt)
        rw [word_nat L k (by rw [HL.out]; exact hlt), HW.out k (by omega) (by omega)] at c1
        obtain ⟨-, sb, off, rfl, -, c2⟩ := (S0.out.but hB).at k hlt
        rw [word_nat l0 k hlt] at c2
        have i0 : (0 : Int) ≤ (k : Int) := by omega
        have i1 : (k : Int) < (l0.length : Int) := by omega
        by_cases e3 : (k : Int) = (P : Int)
        · have e4 : ((k : Int) != (P : Int)) = false := by simp; omega
          go_wp2_with fail
          go_quiet (fail)
          go_wp2_with fail
          go_roundw
          case rel => exact ⟨k + 1, by omega, by go_num, hB.drewN _, hR, kX, kY⟩
          case measure => simp [intOf]; omega
        · rw [if_neg (fun q => e3 q.symm)] at c1
          have e4 : ((k : Int) != (P : Int)) = true := by simp; omega
          generalize word l0 k = z at *
          have d1 : wr.drew.cell? ⟨q, k, none⟩ = some (.int .i64 z) := c1
          have d2 : wr.drew.cell? ⟨sb, off + k, none⟩ = some (.int .i64 z) := c2
          go_wp2_with fail
          go_region_held3 (fun u => But Nowhere wr u ∧ u.cell? ⟨q, k, none⟩ = some (.int .i64 z) ∧ u.cell? ⟨sb, off + k, none⟩ = some (.int .i64 z))
            ((go_split_ands; refine and_of (fun hq => ⟨hq.keeps (not_nowhere _) c1, hq.keeps (not_nowhere _) c2⟩) ?_; first | exact (But.refl _ _).drew | (refine But.step ?_ hb (fun _ _ f => f); assumption)))
            ((go_at_call 16; refine (tell_none _ _).mono ?_; rintro e w' ⟨rfl, hb⟩))
          all_goals
            rename_i hh
            obtain ⟨q0, -, -⟩ := hh
            go_wp2_with fail
            go_roundw
            case rel => exact ⟨k + 1, by omega, by go_num, hB.trans q0, hR.but q0 (not_nowhere _), q0.keeps (not_nowhere _) kX, q0.keeps (not_nowhere _) kY⟩
            case measure => simp [intOf]; omega
      · go_wp2_with (first | (go_at_call 11; refine (known05_any _).mono ?_; rintro e w11 ⟨rfl, b11⟩; replace kX := b11.keeps (not_nowhere _) kX; replace kY := b11.keeps (not_nowhere _) kY; replace hB := hB.trans b11) | (go_at_call 16; refine (tell_none _ _).mono ?_; rintro e w12 ⟨rfl, b12⟩; replace kX := b12.keeps (not_nowhere _) kX; replace kY := b12.keeps (not_nowhere _) kY; replace hB := hB.trans b12))
        go_ret
        exact ⟨rfl, hB⟩
  · go_enter Try.func9, Try.ntmps9
    rcases (show 60 < l0.length ∨ l0.length = 0 by omega) with h1 | h1
    · go_wp2_with (go_at_call 11; refine (known05_any _).mono ?_; rintro e w' ⟨rfl, hb⟩)
      go_ret
      exact ⟨rfl, hb⟩
    · rw [h1]
      go_wp2_with (go_at_call 11; refine (known05_any _).mono ?_; rintro e w' ⟨rfl, hb⟩)
      go_ret
      exact ⟨rfl, hb⟩

set_option maxRecDepth 100000 in
theorem lifted (os : Os) (started : os.Started) (H : Type) (enc : TypeId × Value → H) :
    ReturnsInHanded {} Try.checked os 9 .any (Rows.scanStoresSpec.pre6 enc Try.prog Try.f9 Rows.scanStoresRow.domain false) (Rows.scanStoresSpec.post enc Try.prog Try.f9 false true false false) := by
  refine returnsInHanded_of_change_sized (C := Try.checked) own started (by kernel_rfl) Try.func9
    (ChangeSpec.witness6 (enc := enc) (C := Try.checked) false ⟨#[], #[.slice none 0 0, .int .u8 0, .int .i64 0], []⟩ 8 (by kernel_rfl) (by kernel_rfl) (by kernel_rfl) (by kernel_rfl)) ?_
  intro W base args ds gs before hval0 hW hcnd hsz0 _
  have hval : ∀ (j : Nat) t v, Try.f9.params[j]? = some t → args[j]? = some v → Value.okWide Try.prog W .any base t v := hval0
  have hsz : (DataW.weightsEach Try.prog (Try.f9.params.toList ++ Rows.scanStoresSpec.plain.varTypes Try.prog) (ds ++ gs)).all (· ≤ reachBytes) = true := hsz0
  have hW' := hW
  obtain ⟨p, q, hA0, hV, rfl, hfz, hnd⟩ := hW
  have hA : DataW.TrodAll enc Try.prog W 0 (fun _ => true) true Try.f9.params.toList args.toList ds p := hA0
  rw [Try.params9] at hA hval hsz
  obtain ⟨v0, vs0, d0, ds0, p0, q0, hargs, rfl, rfl, h0, r0⟩ := trodAll_cons hA
  obtain ⟨v1, vs1, d1, ds1, p1, q1, rfl, rfl, rfl, h1, r1⟩ := trodAll_cons r0
  obtain ⟨v2, vs2, d2, ds2, p2, q2, rfl, rfl, rfl, h2, r2⟩ := trodAll_cons r1
  obtain ⟨rfl, rfl, rfl⟩ := trodAll_nil r2
  obtain rfl : args = #[v0, v1, v2] := by cases args; simp_all
  obtain ⟨rfl, rfl⟩ := trodVars_none hV
  obtain ⟨l0, ⟨s0, x0⟩, e0⟩ := open_ints (hval 0 22 v0 rfl rfl) h0
  have n0 := ints_small hsz (j := 0) rfl rfl e0
  obtain ⟨a1, rfl, rfl, rfl, w1⟩ := open_int Try.underlying5 (hval 1 5 v1 rfl rfl) h1
  obtain ⟨a2, rfl, rfl, rfl, w2⟩ := open_int Try.underlying3 (hval 2 3 v2 rfl rfl) h2
  clear hA0 hval0
  refine (walk W v0 l0 s0 x0 n0 a1 w1 a2 w2).mono fun e W' ⟨he, hg⟩ => ?_
  subst he
  exact ⟨_, rfl, law_post laidOut readable rfl Try.underlying4 rfl rfl hW' hg.below⟩

theorem over : Rows.scanStoresRow.holds Try.pinned (OpenSpec.ofChange Rows.scanStoresSpec) :=
  OpenClaim.holds_of_wide 9 Try.f9 rfl rfl rfl rfl rfl rfl rfl ⟨rfl, rfl, rfl, rfl, rfl⟩ rfl rfl rfl rfl rfl (by kernel_rfl) Try.func9 (by kernel_rfl)
    (of_decide_eq_true (by kernel_rfl)) (by unfold Func.isWrapper; first | (rw [if_pos (by decide +kernel)]; kernel_rfl) | (rw [if_neg (by decide +kernel)]; exact ⟨rfl, rfl⟩))
    (fun os started H enc _ => lifted os started H enc)

theorem proved : Rows.ScanStoresSaid :=
  over
end Go.Proofs.Ythfdabcknagjoaa.scanStores
namespace Go.Proofs.Ythfdabcknagjoaa
theorem scanStores_holds : Rows.ScanStoresSaid := scanStores.proved
#print axioms scanStores_holds
end Go.Proofs.Ythfdabcknagjoaa
