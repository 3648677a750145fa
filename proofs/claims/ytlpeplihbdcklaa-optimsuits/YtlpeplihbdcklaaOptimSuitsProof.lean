/- For every list of bytes and every byte k the law OptimSuits of layer 11 returns true: the table may be, each value that comes has a code and none else -/
import Derived.Test.YtlpeplihbdcklaaMgL
import Derived.Test.YtlpeplihbdcklaaFrame
import Derived.Test.YtlpeplihbdcklaaRows
namespace Go.Proofs.Ytlpeplihbdcklaa.optimSuits
open Go.ChangeShapes Go.WideShapes Go.ChangeAt Go.RowKit
set_option linter.unusedVariables false

theorem own : ownKnob Try.prog.godebug = none := by kernel_rfl
theorem laidOut : laidOutB Try.prog = true := by kernel_rfl
theorem readable : ∀ t ∈ Try.f4.params.toList, Try.prog.readableRec t = true ∧ t < Try.prog.types.size := by
  rw [Try.params4]
  simp only [List.mem_cons, List.not_mem_nil, or_false, forall_eq_or_imp, forall_eq]
  refine ⟨⟨by kernel_rfl, of_decide_eq_true (by kernel_rfl)⟩, ⟨by kernel_rfl, of_decide_eq_true (by kernel_rfl)⟩⟩

set_option maxHeartbeats 20000000 in
set_option maxRecDepth 100000 in
theorem walk (w : World) (v0 : Value) (l0 : List Int) (s0 : View w .u8 v0 l0) (x0 : ∀ x ∈ l0, 0 ≤ x ∧ x ≤ 255) (n0 : l0.length ≤ 140737488355328) (a1 : Int) (w1 : (Lit.int .u8 a1).wf = true) :
    Calls Try.prog 4 #[v0, .int .u8 a1] w fun e w' => e = .returned (.bool true) ∧ But Nowhere w w' := by
  have u1 := u8_in w1
  have huT := Try.underlying30
  have hzT := zeroTbl
  have hz5 := zero512
  have huC := Try.underlying35
  have huK := Try.underlying34
  go_enter Try.func4, Try.ntmps4
  go_upto_region 2 with (go_at_call 10; refine (often_any v0 l0 a1 u1 _ s0 x0 n0).mono ?_; rintro e y1 ⟨ao, cap, m, rfl, hv, hcap, hm, hall, hb⟩; have hI : ∀ x ∈ m, I64 x := fun x hx => (by have := hall x hx; unfold I64; omega); have hml : m.length ≤ 140737488355328 := (by omega))
  go_upto_region 3 with (first | (go_at_call 11; refine (best_any ao cap m hI hml hcap _ hv).mono ?_; rintro e y2 ⟨p1, rfl, v1, d⟩; replace hv := hv.but d; replace hb := hb.trans d; clear d; obtain ⟨cA, hcA⟩ : ∃ c, tabC (szF (wtF m)) = c := ⟨_, rfl⟩; obtain ⟨lA, hlA⟩ : ∃ c, tabV (szF (wtF m)) = c := ⟨_, rfl⟩; rw [hcA]; rw [hlA] at v1; have HCA : Hid (tabC (szF (wtF m)) = cA ∧ tabV (szF (wtF m)) = lA) := ⟨hcA, hlA⟩; clear hcA hlA; obtain ⟨a1, q1, rfl⟩ := v1.slice) | (refine wpList_store_mid rfl 30 (.tmp 6) (.tmp 14) rfl y2.heap.size 0 (tbl cA (.slice a1 lA.length q1)).toArray rfl rfl ?_ (infoTB _ _) (tbl_all _ _ _ _) ?_; exact newTbl_there y2 _ _))
  obtain ⟨nT1, bT1⟩ := newTbl y2 cA (.slice a1 lA.length q1)
  revert nT1 bT1
  obtain ⟨T1, hT1⟩ : ∃ n, y2.heap.size = n := ⟨_, rfl⟩
  rw [hT1]
  clear hT1
  generalize (y2.alloc (.cells (tbl (fun _ => 0) (.slice none 0 0)).toArray 30)).setCells T1 0 (tbl cA (.slice a1 lA.length q1)) = V1
  intro nT1 bT1
  try simp only [Act.put]
  replace hv := hv.but bT1
  replace v1 := v1.but bT1
  replace hb := hb.trans bT1
  have k1 := nT1
  clear nT1 bT1
  have HK : Hid ((∀ j, j < 16 → I64 (cA j)) ∧ (∀ x ∈ lA, 0 ≤ x ∧ x ≤ 255) ∧ lA.length ≤ 140737488355328) := by
    rw [← HCA.out.1, ← HCA.out.2]
    exact ⟨tabC_i64 (wtF_wt m), tabV_byte _, by have := tabV_len (wtF_wt m); omega⟩
  have HCK : Hid (checkB cA lA = true) := by
    rw [← HCA.out.1, ← HCA.out.2]
    exact check_own m
  go_upto_region 5 with (first | (refine wpList_load_mid rfl 30 (.tmp 6) rfl T1 0 rfl (tbl cA (.slice a1 lA.length q1)) _ ?_ huT rfl (infoT _ _) ?_; exact k1.all) | (go_at_call 12; refine (check_any cA (.slice a1 lA.length q1) lA HK.out.1 _ v1 HK.out.2.1 HK.out.2.2).mono ?_; rintro e y3 ⟨rfl, d⟩; rw [HCK.out]; replace hv := hv.but d; replace v1 := v1.but d; replace k1 := k1.but d (not_nowhere _); replace hb := hb.trans d; clear d))
  go_upto_region 6 with (first | (refine wpList_load_mid rfl 30 (.tmp 6) rfl T1 0 rfl (tbl cA (.slice a1 lA.length q1)) _ ?_ huT rfl (infoT _ _) ?_; exact k1.all) | (go_at_call 13; refine (codes_spec cA (.slice a1 lA.length q1) lA HK.out.1 _ v1 HK.out.2.1 HK.out.2.2).mono ?_; rintro e y4 ⟨rfl, d⟩; replace hv := hv.but d; replace v1 := v1.but d; replace k1 := k1.but d (not_nowhere _); replace hb := hb.trans d; clear d) | (refine wpList_store_mid rfl 35 (.tmp 7) (.tmp 19) rfl y4.heap.size 0 (tab .i64 512 (both (codN cA lA) (codV cA lA))).toArray rfl rfl ?_ (infoCB _) (tab_all _ _ _) ?_; exact newCod_there y4 _))
  obtain ⟨nNB, bNB⟩ := newCod y4 (both (codN cA lA) (codV cA lA))
  revert nNB bNB
  obtain ⟨NB, hNB⟩ : ∃ n, y4.heap.size = n := ⟨_, rfl⟩
  rw [hNB]
  clear hNB
  generalize (y4.alloc (.cells (tab .i64 512 (fun _ => 0)).toArray 35)).setCells NB 0 (tab .i64 512 (both (codN cA lA) (codV cA lA))) = V5
  intro nNB bNB
  try simp only [Act.put]
  replace hv := hv.but bNB
  replace v1 := v1.but bNB
  replace k1 := k1.but bNB (not_nowhere _)
  replace hb := hb.trans bNB
  clear bNB
  have HE : Hid (View V5 .i64 (.slice ao m.length cap) m ∧ View V5 .u8 (.slice a1 lA.length q1) lA ∧ Cells V5 T1 30 (tbl cA (.slice a1 lA.length q1)) ∧ But Nowhere w V5) := ⟨hv, v1, k1, hb⟩
  have hlB := nNB.lt
  have HC : Hid (∀ i, i < 256 → V5.cell? ⟨NB, i * 2, none⟩ = some (.int .i64 (codN cA lA i))) := fun i hi => cod_cell nNB i hi
  clear hv v1 k1 hb nNB
  go_upto_region 7 with fail
  go_loopw [8] (fun j V => ∃ i : Nat, i ≤ 256 ∧ j = .int .i64 i ∧ But Nowhere V5 V) (fun j _ => 256 - (intOf j).toNat)
  case atStart => exact ⟨0, Nat.zero_le _, rfl, But.refl _ _⟩
  case round =>
    obtain ⟨i, hi, rfl, hc⟩ := hrel
    by_cases hlt : i < 256
    · have i0 : (0 : Int) ≤ (i : Int) := by omega
      have i1 : (i : Int) < 256 := by omega
      have c0 := (hc.cell hlB (not_nowhere _)).trans (HC.out i hlt)
      by_cases q : i < m.length
      · have d1 : decide ((i : Int) < (m.length : Int)) = true := by simp; omega
        have d2 : (i : Int) < (m.length : Int) := by omega
        obtain ⟨ao', cap', e, h'⟩ := HE.out.1
        cases e
        obtain ⟨b, off, rfl, hlg, hcell⟩ := h' (by intro e; subst e; simp at q)
        have c1 := (hc.cell (p := ⟨b, off + i, none⟩) hlg (not_nowhere _)).trans (hcell i q)
        have HY := comes_yes hall hlt q
        rw [HCA.out.1, HCA.out.2] at HY
        clear h' hcell
        revert HY c0 c1
        generalize codN cA lA i = N
        generalize m[i] = x
        intro c0 c1 HY
        by_cases hx : 0 < x
        · have hN := HY.1 hx
          have dx : decide (x > 0) = true := by simpa using hx
          have dn : decide (N > 0) = true := by simpa using hN
          go_wp2_with fail
          go_roundw
          case rel => exact ⟨i + 1, by omega, by go_num, hc⟩
          case measure => simp [intOf]; omega
        · have hN := HY.2 hx
          have dx : decide (x > 0) = false := by simpa using hx
          have dn : decide (N > 0) = false := by simp; omega
          go_wp2_with fail
          go_roundw
          case rel => exact ⟨i + 1, by omega, by go_num, hc⟩
          case measure => simp [intOf]; omega
      · have d1 : decide ((i : Int) < (m.length : Int)) = false := by simp; omega
        have hN := comes_no hlt q
        rw [HCA.out.1, HCA.out.2] at hN
        revert hN c0
        generalize codN cA lA i = N
        intro c0 hN
        have dn : decide (N > 0) = false := by simp; omega
        go_wp2_with fail
        go_roundw
        case rel => exact ⟨i + 1, by omega, by go_num, hc⟩
        case measure => simp [intOf]; omega
    · obtain rfl : i = 256 := by omega
      obtain ⟨hv, v1, k1, hb⟩ := HE.out
      replace hv := hv.but hc
      replace v1 := v1.but hc
      replace k1 := k1.but hc (not_nowhere _)
      replace hb := hb.trans hc
      have HP : Hid (0 ≤ costF cA lA (wtF m)) := by
        rw [← HCA.out.1, ← HCA.out.2]
        exact cost_pos m
      clear hc HE hlB HC
      go_wp2_with (first
        | (go_at_call 8; refine (known_any _).mono ?_; rintro e yk ⟨rfl, d⟩; replace hv := hv.but d; replace v1 := v1.but d; replace k1 := k1.but d (not_nowhere _); replace hb := hb.trans d; clear d)
        | (refine wpList_load_want (by rfl) 30 (.tmp 6) rfl T1 0 rfl (tbl cA (.slice a1 lA.length q1)) _ ?_ huT rfl (infoT _ _) ?_; exact k1.all)
        | (go_at_call 14; refine (cost_any cA (.slice a1 lA.length q1) lA HK.out.1 HK.out.2.1 HK.out.2.2 ao cap m hI hml hcap _ v1 hv).mono ?_; rintro e y6 ⟨rfl, d⟩; replace hb := hb.trans d; clear d; revert HP; generalize costF cA lA (wtF m) = Y; intro HP; have dy : decide (Y ≥ 0) = true := (by have := HP.out; simpa using this)))
      go_ret
      exact ⟨by simp, hb⟩

set_option maxRecDepth 100000 in
theorem lifted (os : Os) (started : os.Started) (H : Type) (enc : TypeId × Value → H) :
    ReturnsInHanded {} Try.checked os 4 .any (Rows.optimSuitsSpec.pre6 enc Try.prog Try.f4 Rows.optimSuitsRow.domain false) (Rows.optimSuitsSpec.post enc Try.prog Try.f4 false true false false) := by
  refine returnsInHanded_of_change_sized (C := Try.checked) own started (by kernel_rfl) Try.func4
    (ChangeSpec.witness6 (enc := enc) (C := Try.checked) false ⟨#[], #[.slice none 0 0, .int .u8 0], []⟩ 8 (by kernel_rfl) (by kernel_rfl) (by kernel_rfl) (by kernel_rfl)) ?_
  intro W base args ds gs before hval0 hW hcnd hsz0 _
  have hval : ∀ (j : Nat) t v, Try.f4.params[j]? = some t → args[j]? = some v → Value.okWide Try.prog W .any base t v := hval0
  have hsz : (DataW.weightsEach Try.prog (Try.f4.params.toList ++ Rows.optimSuitsSpec.plain.varTypes Try.prog) (ds ++ gs)).all (· ≤ reachBytes) = true := hsz0
  have hW' := hW
  obtain ⟨p, q, hA0, hV, rfl, hfz, hnd⟩ := hW
  have hA : DataW.TrodAll enc Try.prog W 0 (fun _ => true) true Try.f4.params.toList args.toList ds p := hA0
  rw [Try.params4] at hA hval hsz
  obtain ⟨v0, vs0, d0, ds0, p0, q0, hargs, rfl, rfl, h0, r0⟩ := trodAll_cons hA
  obtain ⟨v1, vs1, d1, ds1, p1, q1, rfl, rfl, rfl, h1, r1⟩ := trodAll_cons r0
  obtain ⟨rfl, rfl, rfl⟩ := trodAll_nil r1
  obtain rfl : args = #[v0, v1] := by cases args; simp_all
  obtain ⟨rfl, rfl⟩ := trodVars_none hV
  obtain ⟨l0, ⟨s0, x0⟩, e0⟩ := open_bytes (hval 0 23 v0 rfl rfl) h0
  have n0 := bytes_small hsz (j := 0) rfl rfl e0
  obtain ⟨a1, rfl, rfl, rfl, w1⟩ := open_int Try.underlying5 (hval 1 5 v1 rfl rfl) h1
  clear hA0 hval0
  refine (walk W v0 l0 s0 x0 n0 a1 w1).mono fun e W' ⟨he, hg⟩ => ?_
  subst he
  exact ⟨_, rfl, law_post laidOut readable rfl Try.underlying4 rfl rfl hW' hg.below⟩

theorem over : Rows.optimSuitsRow.holds Try.pinned (OpenSpec.ofChange Rows.optimSuitsSpec) :=
  OpenClaim.holds_of_wide 4 Try.f4 rfl rfl rfl rfl rfl rfl rfl ⟨rfl, rfl, rfl, rfl, rfl⟩ rfl rfl rfl rfl rfl (by kernel_rfl) Try.func4 (by kernel_rfl)
    (of_decide_eq_true (by kernel_rfl)) (by unfold Func.isWrapper; first | (rw [if_pos (by decide +kernel)]; kernel_rfl) | (rw [if_neg (by decide +kernel)]; exact ⟨rfl, rfl⟩))
    (fun os started H enc _ => lifted os started H enc)

theorem proved : Rows.OptimSuitsSaid :=
  over
end Go.Proofs.Ytlpeplihbdcklaa.optimSuits
namespace Go.Proofs.Ytlpeplihbdcklaa
theorem optimSuits_holds : Rows.OptimSuitsSaid := optimSuits.proved
#print axioms optimSuits_holds
end Go.Proofs.Ytlpeplihbdcklaa
