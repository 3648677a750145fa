/- For all bytes class and part, the law HuffStandard of layer 10 returns true: the codes of a Standard table are those of the chapter's lists of values, no others, and the table is Checked. No condition. -/
import Derived.Test.YtadcfndjbhcfbaaHuSpec
import Derived.Test.YtadcfndjbhcfbaaHuLaw
import Derived.Test.YtadcfndjbhcfbaaFrame
import Derived.Test.YtadcfndjbhcfbaaRows
namespace Go.Proofs.Ytadcfndjbhcfbaa.huffStandard
open Go.ChangeShapes Go.WideShapes Go.ChangeAt Go.RowKit
set_option linter.unusedVariables false

theorem own : ownKnob Try.prog.godebug = none := by kernel_rfl
theorem laidOut : laidOutB Try.prog = true := by kernel_rfl
theorem readable : ∀ t ∈ Try.f7.params.toList, Try.prog.readableRec t = true ∧ t < Try.prog.types.size := by
  rw [Try.params7]
  simp only [List.mem_cons, List.not_mem_nil, or_false, forall_eq_or_imp, forall_eq]
  refine ⟨⟨by kernel_rfl, of_decide_eq_true (by kernel_rfl)⟩, ⟨by kernel_rfl, of_decide_eq_true (by kernel_rfl)⟩⟩

set_option maxHeartbeats 20000000 in
set_option maxRecDepth 100000 in
theorem walk (w : World) (a0 : Int) (w0 : (Lit.int .u8 a0).wf = true) (a1 : Int) (w1 : (Lit.int .u8 a1).wf = true) :
    Calls Try.prog 7 #[.int .u8 a0, .int .u8 a1] w fun e w' => e = .returned (.bool true) ∧ But Nowhere w w' := by
  have hTw : HT w := by first | exact hT | exact trivial
  have u0 := u8_in w0
  have u1 := u8_in w1
  have huT := Try.underlying25
  have hiT : ∀ c pv, (Try.prog.info? 25).map (·.size) = some (tbl c pv).length := fun c pv => by rw [tbl_length]; kernel_rfl
  have kk := Keep.start w
  have t0 : a0.tmod 2 = a0 % 2 := Int.tmod_eq_emod_of_nonneg (by omega)
  have t1 : a1.tmod 2 = a1 % 2 := Int.tmod_eq_emod_of_nonneg (by omega)
  have x0 : IntKind.u8.wrap (a0 % 2) = a0 % 2 := by rw [IntKind.wrap_u8]; omega
  have x1 : IntKind.u8.wrap (a1 % 2) = a1 % 2 := by rw [IntKind.wrap_u8]; omega
  have y0 : IntKind.i64.wrap (a0 % 2) = a0 % 2 := by rw [wrap_i64_eq]; exact w64 _ (by omega)
  have y1 : IntKind.i64.wrap (a1 % 2) = a1 % 2 := by rw [wrap_i64_eq]; exact w64 _ (by omega)
  go_enter Try.func7, Try.ntmps7
  go_wp2_with fail
  refine (specStandard _ _ _ hTw).mono ?_
  rintro e z1 ⟨pvs, rfl, hvs, dd⟩
  replace kk := kk.step dd
  clear dd
  have hI := ix_odd a0 (a1 % 2) u0.1
  revert hI
  revert hvs
  generalize stdIx (a0 % 2) (a1 % 2) = i9
  intro hvs hI
  have HI9 : Hid (i9 < 4) := hI.1
  have HOD : Hid (a0 % 2 = 1 ↔ 2 ≤ i9) := hI.2
  have HVS : Hid (View z1 .u8 pvs (stdL i9)) := hvs
  have HB1 : Hid (But Nowhere w z1) := kk.but
  clear kk
  have kk := Keep.start z1
  obtain ⟨po9, n9, pc9, hpv9⟩ : ∃ a n c, pvs = .slice a n c := by obtain ⟨a, c, e, _⟩ := HVS.out; exact ⟨_, _, _, e⟩
  have HAL : Hid ((tbl (stdc i9) pvs).toArray.all (·.oneCell') = true) := by rw [hpv9]; exact tbl_all _ _ _ _
  clear hpv9 hvs hI
  replace kk := kk.made 25 (Value.int .i64 0 :: Value.int .i64 0 :: Value.int .i64 0 :: Value.int .i64 0 :: Value.int .i64 0 :: Value.int .i64 0 :: Value.int .i64 0 :: Value.int .i64 0 :: Value.int .i64 0 :: Value.int .i64 0 :: Value.int .i64 0 :: Value.int .i64 0 :: Value.int .i64 0 :: Value.int .i64 0 :: Value.int .i64 0 :: Value.int .i64 0 :: Value.slice none 0 0 :: [])
  have hth := kk.head.there 0 (tbl (stdc i9) pvs).toArray.size (by simp [tbl_length])
  replace kk := kk.laid_any (tbl (stdc i9) pvs) (by rw [tbl_length]; rfl)
  have HX : Hid _ := kk
  clear kk
  have hal : (tbl (stdc i9) pvs).toArray.all (·.oneCell') = true := HAL.out
  have hi2 : (Try.prog.info? 25).map (·.size) = some (tbl (stdc i9) pvs).toArray.size := by rw [List.size_toArray, tbl_length]; kernel_rfl
  go_upto_region 2 with (refine wpList_store_mid rfl 25 (.tmp 5) (.tmp 15) rfl z1.heap.size 0 (tbl (stdc i9) pvs).toArray rfl rfl ?_ hi2 hal ?_; exact hth)
  have kk := HX.out
  clear HX hth hal hi2
  revert kk
  obtain ⟨SB, hSB⟩ : ∃ b, z1.heap.size = b := ⟨_, rfl⟩
  rw [hSB]
  clear hSB
  generalize (z1.alloc (.cells (Value.int .i64 0 :: Value.int .i64 0 :: Value.int .i64 0 :: Value.int .i64 0 :: Value.int .i64 0 :: Value.int .i64 0 :: Value.int .i64 0 :: Value.int .i64 0 :: Value.int .i64 0 :: Value.int .i64 0 :: Value.int .i64 0 :: Value.int .i64 0 :: Value.int .i64 0 :: Value.int .i64 0 :: Value.int .i64 0 :: Value.int .i64 0 :: Value.slice none 0 0 :: []).toArray 25)).setCells SB 0 (tbl (stdc i9) pvs) = WSB
  intro kk
  try simp only [Act.put]
  have hr := kk.head.all
  go_wp2_with (refine wpList_load_mid rfl 25 (.tmp 5) rfl SB 0 rfl (tbl (stdc i9) pvs) _ ?_ huT rfl (hiT _ _) ?_; exact hr)
  refine (specCodes (stdc i9) pvs (stdL i9) (stdc_i64 i9 HI9.out) _ (HVS.out.but kk.but) (std_byte i9 HI9.out) (by have := (stdL_length i9 HI9.out).1; omega) (HT_but _ _ hTw (HB1.out.trans kk.but))).mono ?_
  rintro e z2 ⟨rfl, dd⟩
  replace kk := kk.step dd
  clear dd hr
  replace kk := kk.made 37 (tab .i64 512 (fun _ => 0))
  have hth := kk.head.there 0 (tab .i64 512 (both (codN (stdc i9) (stdL i9)) (codV (stdc i9) (stdL i9)))).toArray.size (by simp [tab_length])
  replace kk := kk.layAll (both (codN (stdc i9) (stdL i9)) (codV (stdc i9) (stdL i9)))
  have HX : Hid _ := kk
  clear kk
  have hz := zero512
  have hiB : (Try.prog.info? 37).map (·.size) = some (tab .i64 512 (both (codN (stdc i9) (stdL i9)) (codV (stdc i9) (stdL i9)))).toArray.size := by rw [List.size_toArray, tab_length]; kernel_rfl
  go_upto_region 3 with (refine wpList_store_mid rfl 37 (.tmp 6) (.tmp 17) rfl z2.heap.size 0 (tab .i64 512 (both (codN (stdc i9) (stdL i9)) (codV (stdc i9) (stdL i9)))).toArray rfl rfl ?_ hiB (tab_all _ _ _) ?_; exact hth)
  have kk := HX.out
  clear HX hth hz hiB
  revert kk
  obtain ⟨CB, hCB⟩ : ∃ b, z2.heap.size = b := ⟨_, rfl⟩
  rw [hCB]
  clear hCB
  generalize (z2.alloc (.cells (tab .i64 512 (fun _ => 0)).toArray 37)).setCells CB 0 (tab .i64 512 (both (codN (stdc i9) (stdL i9)) (codV (stdc i9) (stdL i9)))) = WCB
  intro kk
  try simp only [Act.put]
  go_wp2_with fail
  go_loopw [7] (fun u V => ∃ v : Nat, v ≤ 256 ∧ u = .int .i64 v ∧ Keep z1 V [(CB, 37, tab .i64 512 (both (codN (stdc i9) (stdL i9)) (codV (stdc i9) (stdL i9)))), (SB, 25, tbl (stdc i9) pvs)]) (fun u _ => 256 - (intOf u).toNat)
  case atStart => exact ⟨0, by omega, rfl, kk⟩
  case round =>
    clear kk
    obtain ⟨v, hv, rfl, kk⟩ := hrel
    by_cases hlt : (v : Int) < 256
    · have hvN : v < 256 := by omega
      have v0 : (0 : Int) ≤ (v : Int) := by omega
      have c0 := kk.head.cell (v * 2) (by omega)
      rw [show both (codN (stdc i9) (stdL i9)) (codV (stdc i9) (stdL i9)) (v * 2) = codN (stdc i9) (stdL i9) v by unfold both; rw [if_pos (by omega), show v * 2 / 2 = v by omega]] at c0
      have HK : Hid _ := kk
      clear kk
      by_cases hod : a0 % 2 = 1
      · have HP := std_high i9 ⟨HOD.out.1 hod, HI9.out⟩ v hvN
        revert HP
        revert c0
        generalize codN (stdc i9) (stdL i9) v = N
        intro c0 HP
        have HP : Hid _ := HP
        have t16 : (v : Int).tmod 16 = ((v % 16 : Nat) : Int) := by rw [Int.tmod_eq_emod_of_nonneg (by omega)]; rfl
        obtain ⟨m, hm⟩ : ∃ m, v % 16 = m := ⟨_, rfl⟩
        rw [hm] at t16 HP
        clear hm
        by_cases d0 : (v : Int) = 0
        · have b0 : ((v : Int) == 0) = true := by simpa using d0
          have hN := HP.out.1 (by omega)
          clear d0
          go_wp2_with fail
          go_roundw
          case rel => exact ⟨v + 1, by omega, by go_num, HK.out⟩
          case measure => simp [intOf]; omega
        · have b0 : ((v : Int) == 0) = false := by simpa using d0
          by_cases d1 : (v : Int) = 240
          · have b1 : ((v : Int) == 240) = true := by simpa using d1
            have hN := HP.out.1 (by omega)
            clear d1
            go_wp2_with fail
            go_roundw
            case rel => exact ⟨v + 1, by omega, by go_num, HK.out⟩
            case measure => simp [intOf]; omega
          · have b1 : ((v : Int) == 240) = false := by simpa using d1
            by_cases d2 : (1 : Int) ≤ (m : Int)
            · by_cases d3 : (m : Int) ≤ 10
              · skip
                have hN := HP.out.1 (by omega)
                skip
                go_wp2_with fail
                go_roundw
                case rel => exact ⟨v + 1, by omega, by go_num, HK.out⟩
                case measure => simp [intOf]; omega
              · skip
                have hN := HP.out.2 (by omega)
                skip
                go_wp2_with fail
                go_roundw
                case rel => exact ⟨v + 1, by omega, by go_num, HK.out⟩
                case measure => simp [intOf]; omega
            · skip
              have hN := HP.out.2 (by omega)
              skip
              go_wp2_with fail
              go_roundw
              case rel => exact ⟨v + 1, by omega, by go_num, HK.out⟩
              case measure => simp [intOf]; omega
      · have ev : a0 % 2 = 0 := by omega
        have HP := std_low i9 (by have := HOD.out; omega) v hvN
        revert HP
        revert c0
        generalize codN (stdc i9) (stdL i9) v = N
        intro c0 HP
        have HP : Hid _ := HP
        clear hod
        by_cases d0 : (v : Int) ≤ 11
        · have hN := HP.out.1 (by omega)
          skip
          go_wp2_with fail
          go_roundw
          case rel => exact ⟨v + 1, by omega, by go_num, HK.out⟩
          case measure => simp [intOf]; omega
        · have hN := HP.out.2 (by omega)
          skip
          go_wp2_with fail
          go_roundw
          case rel => exact ⟨v + 1, by omega, by go_num, HK.out⟩
          case measure => simp [intOf]; omega
    · obtain rfl : v = 256 := by omega
      have hr := (kk.get (b := SB) (t := 25) (c := tbl (stdc i9) pvs) (by simp)).all
      go_wp2_with fail
      refine (known_any HT_but specCheck specCodes specStandard _ (HT_but _ _ hTw (HB1.out.trans kk.but))).mono ?_
      rintro e z3 ⟨rfl, dd⟩
      replace kk := kk.step dd
      clear dd hr
      have hr := (kk.get (b := SB) (t := 25) (c := tbl (stdc i9) pvs) (by simp)).all
      go_wp2_with (refine wpList_load_midG rfl 25 (.tmp 5) rfl SB 0 rfl (tbl (stdc i9) pvs) _ ?_ huT rfl (hiT _ _) ?_; exact hr)
      refine (specCheck (stdc i9) pvs (stdL i9) (stdc_i64 i9 HI9.out) _ (HVS.out.but kk.but) (std_byte i9 HI9.out) (by have := (stdL_length i9 HI9.out).1; omega) (HT_but _ _ hTw (HB1.out.trans kk.but))).mono ?_
      rintro e z4 ⟨rfl, dd⟩
      rw [std_check i9 HI9.out]
      have HX : Hid _ := HB1.out.trans (kk.but.trans dd)
      clear kk dd hr
      go_wp2_with fail
      go_ret
      exact ⟨rfl, HX.out⟩

set_option maxRecDepth 100000 in
theorem lifted (os : Os) (started : os.Started) (H : Type) (enc : TypeId × Value → H) :
    ReturnsInHanded {} Try.checked os 7 .any (Rows.huffStandardSpec.pre6 enc Try.prog Try.f7 Rows.huffStandardRow.domain false) (Rows.huffStandardSpec.post enc Try.prog Try.f7 false true false false) := by
  refine returnsInHanded_of_change_sized (C := Try.checked) own started (by kernel_rfl) Try.func7
    (ChangeSpec.witness6 (enc := enc) (C := Try.checked) false ⟨#[], #[.int .u8 0, .int .u8 0], []⟩ 8 (by kernel_rfl) (by kernel_rfl) (by kernel_rfl) (by kernel_rfl)) ?_
  intro W base args ds gs before hval0 hW hcnd hsz0 _
  have hval : ∀ (j : Nat) t v, Try.f7.params[j]? = some t → args[j]? = some v → Value.okWide Try.prog W .any base t v := hval0
  have hsz : (DataW.weightsEach Try.prog (Try.f7.params.toList ++ Rows.huffStandardSpec.plain.varTypes Try.prog) (ds ++ gs)).all (· ≤ reachBytes) = true := hsz0
  have hW' := hW
  obtain ⟨p, q, hA0, hV, rfl, hfz, hnd⟩ := hW
  have hA : DataW.TrodAll enc Try.prog W 0 (fun _ => true) true Try.f7.params.toList args.toList ds p := hA0
  rw [Try.params7] at hA hval hsz
  obtain ⟨v0, vs0, d0, ds0, p0, q0, hargs, rfl, rfl, h0, r0⟩ := trodAll_cons hA
  obtain ⟨v1, vs1, d1, ds1, p1, q1, rfl, rfl, rfl, h1, r1⟩ := trodAll_cons r0
  obtain ⟨rfl, rfl, rfl⟩ := trodAll_nil r1
  obtain rfl : args = #[v0, v1] := by cases args; simp_all
  obtain ⟨rfl, rfl⟩ := trodVars_none hV
  obtain ⟨a0, rfl, rfl, rfl, w0⟩ := open_int Try.underlying5 (hval 0 5 v0 rfl rfl) h0
  obtain ⟨a1, rfl, rfl, rfl, w1⟩ := open_int Try.underlying5 (hval 1 5 v1 rfl rfl) h1
  clear hA0 hval0
  refine (walk W a0 w0 a1 w1).mono fun e W' ⟨he, hg⟩ => ?_
  subst he
  exact ⟨_, rfl, law_post laidOut readable rfl Try.underlying4 rfl rfl hW' hg.below⟩

theorem over : Rows.huffStandardRow.holds Try.pinned (OpenSpec.ofChange Rows.huffStandardSpec) :=
  OpenClaim.holds_of_wide 7 Try.f7 rfl rfl rfl rfl rfl rfl rfl ⟨rfl, rfl, rfl, rfl, rfl⟩ rfl rfl rfl rfl rfl (by kernel_rfl) Try.func7 (by kernel_rfl)
    (of_decide_eq_true (by kernel_rfl)) (by unfold Func.isWrapper; first | (rw [if_pos (by decide +kernel)]; kernel_rfl) | (rw [if_neg (by decide +kernel)]; exact ⟨rfl, rfl⟩))
    (fun os started H enc _ => lifted os started H enc)

theorem proved : Rows.HuffStandardSaid :=
  over
end Go.Proofs.Ytadcfndjbhcfbaa.huffStandard
namespace Go.Proofs.Ytadcfndjbhcfbaa
theorem huffStandard_holds : Rows.HuffStandardSaid := huffStandard.proved
#print axioms huffStandard_holds
end Go.Proofs.Ytadcfndjbhcfbaa
