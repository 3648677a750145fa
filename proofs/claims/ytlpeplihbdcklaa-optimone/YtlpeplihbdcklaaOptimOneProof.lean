/- For every byte v and every number n of 16 bits the law OptimOne of layer 11 returns true: one value alone has a code of one bit, none has no table, all alike have eight or nine bits -/
import Derived.Test.YtlpeplihbdcklaaMgL
import Derived.Test.YtlpeplihbdcklaaFrame
import Derived.Test.YtlpeplihbdcklaaRows
namespace Go.Proofs.Ytlpeplihbdcklaa.optimOne
open Go.ChangeShapes Go.WideShapes Go.ChangeAt Go.RowKit
set_option linter.unusedVariables false

theorem own : ownKnob Try.prog.godebug = none := by kernel_rfl
theorem laidOut : laidOutB Try.prog = true := by kernel_rfl
theorem readable : ∀ t ∈ Try.f6.params.toList, Try.prog.readableRec t = true ∧ t < Try.prog.types.size := by
  rw [Try.params6]
  simp only [List.mem_cons, List.not_mem_nil, or_false, forall_eq_or_imp, forall_eq]
  refine ⟨⟨by kernel_rfl, of_decide_eq_true (by kernel_rfl)⟩, ⟨by kernel_rfl, of_decide_eq_true (by kernel_rfl)⟩⟩

set_option maxHeartbeats 20000000 in
set_option maxRecDepth 100000 in
theorem walk (w : World) (a0 : Int) (w0 : (Lit.int .u8 a0).wf = true) (a1 : Int) (w1 : (Lit.int .u16 a1).wf = true) :
    Calls Try.prog 6 #[.int .u8 a0, .int .u16 a1] w fun e w' => e = .returned (.bool true) ∧ But Nowhere w w' := by
  have u0 := u8_in w0
  have u1 := u16_lit w1
  obtain ⟨v, rfl⟩ : ∃ v : Nat, a0 = v := ⟨a0.toNat, by omega⟩
  have hv256 : v < 256 := by omega
  have i0 : (0 : Int) ≤ (v : Int) := by omega
  have huT := Try.underlying30
  have hzT := zeroTbl
  have hz5 := zero512
  have huC := Try.underlying35
  have huK := Try.underlying34
  obtain ⟨M, hM⟩ : ∃ M : Nat, M = v + 1 := ⟨_, rfl⟩
  have r0 : IntKind.i64.wrap (v : Int) = (v : Int) := by rw [wrap_i64_eq, w64 _ (by omega)]
  have r2 : IntKind.i64.wrap a1 = a1 := by rw [wrap_i64_eq, w64 _ (by omega)]
  have hm : (Instr.makeSlice 22 (.int .i64 ((v : Int) + 1)) (.int .i64 ((v : Int) + 1))).run Try.prog w = .ok (.slice (some ⟨w.heap.size, 0, none⟩) M M) (w.alloc (.cells (tab .i64 M (fun _ => 0)).toArray 3)) := by
    have := make_tab M (by omega) w
    rw [show ((M : Nat) : Int) = (v : Int) + 1 by omega] at this
    exact this
  have kk := (Keep.start w).made 3 (tab .i64 M (fun _ => 0))
  have hMI : ∀ j, j < M → I64 (oneF v (a1 + 1) j) := fun j hj => by unfold oneF upd I64; dsimp only; split <;> omega
  have hM3 : M ≤ 300 := by omega
  have hvM : (v : Int) < (M : Int) := by omega
  obtain ⟨f1, f2, f3⟩ := one_facts v hv256 (a1 + 1) (by omega) (by omega)
  rw [← hM] at f1 f2 f3
  have HM : Hid (M = v + 1) := hM
  clear hM
  go_enter Try.func6, Try.ntmps6
  go_upto_region 2 with fail
  clear hm
  revert kk
  obtain ⟨g, hg⟩ : ∃ n, w.heap.size = n := ⟨_, rfl⟩
  rw [hg]
  clear hg
  generalize (w.alloc (.cells (tab .i64 M (fun _ => 0)).toArray 3)) = W1
  intro kk
  have kX := kk.set v (.int .i64 (a1 + 1))
  rw [tab_set] at kX
  have HX : Hid (Keep w (W1.setCell ⟨g, v, none⟩ (.int .i64 (a1 + 1))) [(g, 3, tab .i64 M (oneF v (a1 + 1)))]) := kX
  have q0 := kk.head.cell v (by omega)
  have fz := kk.head.frozen v
  clear kX kk
  go_upto_region 3 with fail
  clear q0 fz
  revert HX
  generalize W1.setCell ⟨g, v, none⟩ (.int .i64 (a1 + 1)) = W2
  intro HX
  have kL := HX.out.head
  have hb := HX.out.but
  clear HX
  go_upto_region 4 with (first
    | (go_at_call 11; refine (best_lst g M (oneF v (a1 + 1)) hM3 hMI _ kL).mono ?_; rintro e y2 ⟨p1, rfl, v1, d⟩; replace kL := kL.but d (not_nowhere _); replace hb := hb.trans d; clear d; rw [f1] at f3 v1; obtain ⟨cA, hcA⟩ : ∃ c, tabC (szF (wtF (lst M (oneF v (a1 + 1))))) = c := ⟨_, rfl⟩; rw [hcA] at f2 f3 ⊢; obtain ⟨a1', q1, rfl⟩ : ∃ a q, p1 = .slice a 1 q := v1.slice)
    | (refine wpList_store_mid rfl 30 (.tmp 6) (.tmp 22) rfl y2.heap.size 0 (tbl cA (.slice a1' 1 q1)).toArray rfl rfl ?_ (infoTB _ _) (tbl_all _ _ _ _) ?_; exact newTbl_there y2 _ _))
  obtain ⟨nT1, bT1⟩ := newTbl y2 cA (.slice a1' 1 q1)
  revert nT1 bT1
  obtain ⟨T1, hT1⟩ : ∃ n, y2.heap.size = n := ⟨_, rfl⟩
  rw [hT1]
  clear hT1
  generalize (y2.alloc (.cells (tbl (fun _ => 0) (.slice none 0 0)).toArray 30)).setCells T1 0 (tbl cA (.slice a1' 1 q1)) = V1
  intro nT1 bT1
  try simp only [Act.put]
  have k1 := nT1
  replace v1 := v1.but bT1
  replace kL := kL.but bT1 (not_nowhere _)
  replace hb := hb.trans bT1
  have HIA : Hid (∀ j, j < 16 → I64 (cA j)) := by rw [← hcA]; exact tabC_i64 (wtF_wt _)
  have HF : Hid (cA 0 = 1 ∧ costF cA [(v : Int)] (wtF (lst M (oneF v (a1 + 1)))) = a1 + 1) := ⟨f2, f3⟩
  have HE : Hid (View V1 .u8 (.slice a1' 1 q1) [(v : Int)] ∧ Cells V1 T1 30 (tbl cA (.slice a1' 1 q1)) ∧ Cells V1 g 3 (tab .i64 M (oneF v (a1 + 1))) ∧ But Nowhere w V1) := ⟨v1, k1, kL, hb⟩
  clear nT1 bT1 v1 k1 kL hb f1 f2 f3 hcA
  have hm : (Instr.makeSlice 22 (.int .i64 256) (.int .i64 256)).run Try.prog V1 = .ok (.slice (some ⟨V1.heap.size, 0, none⟩) 256 256) (V1.alloc (.cells (tab .i64 256 (fun _ => 0)).toArray 3)) := make_tab 256 (by omega) V1
  have kk := (Keep.start V1).made 3 (tab .i64 256 (fun _ => 0))
  go_upto_region 6 with fail
  clear hm
  revert kk
  obtain ⟨g2, hg2⟩ : ∃ n, V1.heap.size = n := ⟨_, rfl⟩
  rw [hg2]
  clear hg2
  generalize (V1.alloc (.cells (tab .i64 256 (fun _ => 0)).toArray 3)) = W3
  intro kk
  go_loopw [8] (fun j V => ∃ i : Nat, i ≤ 256 ∧ j = .int .i64 i ∧ Keep V1 V [(g2, 3, tab .i64 256 (fun j => if j < i then 5 else 0))]) (fun j _ => 256 - (intOf j).toNat)
  case atStart => exact ⟨0, Nat.zero_le _, rfl, by rw [show tab .i64 256 (fun j => if j < 0 then 5 else 0) = tab .i64 256 (fun _ => 0) from tab_congr _ _ _ _ (fun j hj => if_neg (by omega))]; exact kk⟩
  case round =>
    clear kk
    obtain ⟨i, hi, rfl, kk⟩ := hrel
    by_cases hlt : i < 256
    · have i0 : (0 : Int) ≤ (i : Int) := by omega
      have i1 : (i : Int) < 256 := by omega
      have kX := kk.set i (.int .i64 5)
      rw [tab_grow .i64 256 (fun _ => 5) (fun _ => 0) i] at kX
      have HX : Hid _ := kX
      have q0 := kk.head.cell i (by omega)
      have f0 := kk.head.frozen i
      clear kX kk
      go_wp2_with fail
      go_roundw
      case rel => exact ⟨i + 1, by omega, by go_num, HX.out⟩
      case measure => simp [intOf]; omega
    · obtain rfl : i = 256 := by omega
      rw [tab_full .i64 256 (fun _ => 5) (fun _ => 0)] at kk
      have k5 := kk.head
      have b5 := kk.but
      clear kk
      go_upto_region 10 with (first
        | (go_at_call 11; refine (best_lst g2 256 (fun _ => 5) (by omega) (fun _ _ => by unfold I64; omega) _ k5).mono ?_; rintro e y4 ⟨p2, rfl, v2, d⟩; replace b5 := b5.trans d; clear d k5; have af := alike_facts; have HI5 : Hid (∀ j, j < 16 → I64 (tabC (szF (wtF (lst 256 (fun _ => 5)))) j)) := tabC_i64 (wtF_wt _); have HB5 : Hid (∀ x ∈ tabV (szF (wtF (lst 256 (fun _ => 5)))), 0 ≤ x ∧ x ≤ 255) := tabV_byte _; have HL5 : Hid ((tabV (szF (wtF (lst 256 (fun _ => 5))))).length ≤ 140737488355328) := (by have := tabV_len (wtF_wt (lst 256 (fun _ => 5))); show _ ≤ _; omega); revert v2 af HI5 HB5 HL5; generalize tabC (szF (wtF (lst 256 (fun _ => 5)))) = cA'; generalize tabV (szF (wtF (lst 256 (fun _ => 5)))) = lA'; intro v2 af HI5 HB5 HL5; have HAF : Hid _ := af; clear af)
        | (go_at_call 13; refine (codes_spec cA' p2 lA' HI5.out _ v2 HB5.out HL5.out).mono ?_; rintro e y5 ⟨rfl, d⟩; replace b5 := b5.trans d; clear d v2)
        | (refine wpList_store_mid rfl 35 (.tmp 9) (.tmp 33) rfl y5.heap.size 0 (tab .i64 512 (both (codN cA' lA') (codV cA' lA'))).toArray rfl rfl ?_ (infoCB _) (tab_all _ _ _) ?_; exact newCod_there y5 _))
      obtain ⟨nNB, bNB⟩ := newCod y5 (both (codN cA' lA') (codV cA' lA'))
      revert nNB bNB
      obtain ⟨NB, hNB⟩ : ∃ n, y5.heap.size = n := ⟨_, rfl⟩
      rw [hNB]
      clear hNB
      generalize (y5.alloc (.cells (tab .i64 512 (fun _ => 0)).toArray 35)).setCells NB 0 (tab .i64 512 (both (codN cA' lA') (codV cA' lA'))) = V5
      intro nNB bNB
      try simp only [Act.put]
      replace b5 := b5.trans bNB
      clear bNB
      have hlB := nNB.lt
      have HC : Hid (∀ i, i < 256 → V5.cell? ⟨NB, i * 2, none⟩ = some (.int .i64 (codN cA' lA' i))) := fun i hi => cod_cell nNB i hi
      have HB5' : Hid (But Nowhere V1 V5) := b5
      clear nNB b5
      go_upto_region 11 with fail
      go_loopw [10] (fun j V => ∃ i : Nat, i ≤ 256 ∧ j = .int .i64 i ∧ But Nowhere V5 V) (fun j _ => 256 - (intOf j).toNat)
      case atStart => exact ⟨0, Nat.zero_le _, rfl, But.refl _ _⟩
      case round =>
        obtain ⟨i, hi, rfl, hc⟩ := hrel
        by_cases hlt : i < 256
        · have i0 : (0 : Int) ≤ (i : Int) := by omega
          have i1 : (i : Int) < 256 := by omega
          have c0 := (hc.cell hlB (not_nowhere _)).trans (HC.out i hlt)
          have HY := HAF.out i hlt
          revert c0 HY
          generalize codN cA' lA' i = K8
          intro c0 HY
          rcases HY with rfl | rfl
          · go_wp2_with fail
            go_roundw
            case rel => exact ⟨i + 1, by omega, by go_num, hc⟩
            case measure => simp [intOf]; omega
          · go_wp2_with fail
            go_roundw
            case rel => exact ⟨i + 1, by omega, by go_num, hc⟩
            case measure => simp [intOf]; omega
        · obtain ⟨v1, k1, kL, hb⟩ := HE.out
          replace hc := HB5'.out.trans hc
          have HV1 : Hid (View wr .u8 (.slice a1' 1 q1) [(v : Int)]) := v1.but hc
          replace k1 := k1.but hc (not_nowhere _)
          replace kL := kL.but hc (not_nowhere _)
          replace hb := hb.trans hc
          clear HE HB5' HC hlB hc v1
          obtain ⟨ao', cap', e, h'⟩ := HV1.out
          cases e
          obtain ⟨b, off, rfl, hbl, hcell⟩ := h' (by simp)
          have vv : wr.cell? ⟨b, off, none⟩ = some (.int .u8 (v : Int)) := hcell 0 (by simp)
          clear h' hcell
          have hHF := HF.out.1
          go_wp2_with (first
            | (go_at_call 8; refine (known_any _).mono ?_; rintro e yk ⟨rfl, d⟩; replace vv := (d.cell hbl (not_nowhere _)).trans vv; have HV2 : Hid (View yk .u8 (.slice (some ⟨b, off, none⟩) 1 q1) [(v : Int)]) := HV1.out.but d; replace k1 := k1.but d (not_nowhere _); replace kL := kL.but d (not_nowhere _); replace hb := hb.trans d; clear d; have c16 := k1.vals; have c0 := k1.cnt 0 (by omega); rw [hHF] at c0)
            | (refine wpList_load_want (by rfl) 30 (.tmp 6) rfl T1 0 rfl (tbl cA (.slice (some ⟨b, off, none⟩) 1 q1)) _ ?_ huT rfl (infoT _ _) ?_; exact k1.all)
            | (go_at_call 14; refine (cost_lst cA (.slice (some ⟨b, off, none⟩) 1 q1) [(v : Int)] HIA.out (by simp; omega) (by simp) g M (oneF v (a1 + 1)) hM3 hMI _ HV2.out kL).mono ?_; rintro e y7 ⟨rfl, d⟩; replace hb := hb.trans d; clear d; rw [HF.out.2])
            | (go_at_call 11; refine (best_nil _).mono ?_; rintro e y9 ⟨c9, a9, q9, rfl, d⟩; replace hb := hb.trans d; clear d; have hf := field_vals c9 a9 0 q9))
          go_ret
          exact ⟨by simp, hb⟩

set_option maxRecDepth 100000 in
theorem lifted (os : Os) (started : os.Started) (H : Type) (enc : TypeId × Value → H) :
    ReturnsInHanded {} Try.checked os 6 .any (Rows.optimOneSpec.pre6 enc Try.prog Try.f6 Rows.optimOneRow.domain false) (Rows.optimOneSpec.post enc Try.prog Try.f6 false true false false) := by
  refine returnsInHanded_of_change_sized (C := Try.checked) own started (by kernel_rfl) Try.func6
    (ChangeSpec.witness6 (enc := enc) (C := Try.checked) false ⟨#[], #[.int .u8 0, .int .u16 0], []⟩ 8 (by kernel_rfl) (by kernel_rfl) (by kernel_rfl) (by kernel_rfl)) ?_
  intro W base args ds gs before hval0 hW hcnd hsz0 _
  have hval : ∀ (j : Nat) t v, Try.f6.params[j]? = some t → args[j]? = some v → Value.okWide Try.prog W .any base t v := hval0
  have hsz : (DataW.weightsEach Try.prog (Try.f6.params.toList ++ Rows.optimOneSpec.plain.varTypes Try.prog) (ds ++ gs)).all (· ≤ reachBytes) = true := hsz0
  have hW' := hW
  obtain ⟨p, q, hA0, hV, rfl, hfz, hnd⟩ := hW
  have hA : DataW.TrodAll enc Try.prog W 0 (fun _ => true) true Try.f6.params.toList args.toList ds p := hA0
  rw [Try.params6] at hA hval hsz
  obtain ⟨v0, vs0, d0, ds0, p0, q0, hargs, rfl, rfl, h0, r0⟩ := trodAll_cons hA
  obtain ⟨v1, vs1, d1, ds1, p1, q1, rfl, rfl, rfl, h1, r1⟩ := trodAll_cons r0
  obtain ⟨rfl, rfl, rfl⟩ := trodAll_nil r1
  obtain rfl : args = #[v0, v1] := by cases args; simp_all
  obtain ⟨rfl, rfl⟩ := trodVars_none hV
  obtain ⟨a0, rfl, rfl, rfl, w0⟩ := open_int Try.underlying5 (hval 0 5 v0 rfl rfl) h0
  obtain ⟨a1, rfl, rfl, rfl, w1⟩ := open_int Try.underlying42 (hval 1 42 v1 rfl rfl) h1
  clear hA0 hval0
  refine (walk W a0 w0 a1 w1).mono fun e W' ⟨he, hg⟩ => ?_
  subst he
  exact ⟨_, rfl, law_post laidOut readable rfl Try.underlying4 rfl rfl hW' hg.below⟩

theorem over : Rows.optimOneRow.holds Try.pinned (OpenSpec.ofChange Rows.optimOneSpec) :=
  OpenClaim.holds_of_wide 6 Try.f6 rfl rfl rfl rfl rfl rfl rfl ⟨rfl, rfl, rfl, rfl, rfl⟩ rfl rfl rfl rfl rfl (by kernel_rfl) Try.func6 (by kernel_rfl)
    (of_decide_eq_true (by kernel_rfl)) (by unfold Func.isWrapper; first | (rw [if_pos (by decide +kernel)]; kernel_rfl) | (rw [if_neg (by decide +kernel)]; exact ⟨rfl, rfl⟩))
    (fun os started H enc _ => lifted os started H enc)

theorem proved : Rows.OptimOneSaid :=
  over
end Go.Proofs.Ytlpeplihbdcklaa.optimOne
namespace Go.Proofs.Ytlpeplihbdcklaa
theorem optimOne_holds : Rows.OptimOneSaid := optimOne.proved
#print axioms optimOne_holds
end Go.Proofs.Ytlpeplihbdcklaa
