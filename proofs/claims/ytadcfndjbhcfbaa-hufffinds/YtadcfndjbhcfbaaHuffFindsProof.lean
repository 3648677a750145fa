/- For every table, every list of bytes, all numbers bits and value, every number w of 16 bits and every byte k, the law HuffFinds of layer 10 returns true: Find of any bits in any table, in choices, and in Standard, is what the chapter says; so is FindSec of secrets, and CodeSec. No condition. -/
import Derived.Test.YtadcfndjbhcfbaaHuSpec
import Derived.Test.YtadcfndjbhcfbaaFrame
import Derived.Test.YtadcfndjbhcfbaaRows
namespace Go.Proofs.Ytadcfndjbhcfbaa.huffFinds
open Go.ChangeShapes Go.WideShapes Go.ChangeAt Go.RowKit
set_option linter.unusedVariables false

theorem own : ownKnob Try.prog.godebug = none := by kernel_rfl
theorem laidOut : laidOutB Try.prog = true := by kernel_rfl
theorem readable : ∀ t ∈ Try.f4.params.toList, Try.prog.readableRec t = true ∧ t < Try.prog.types.size := by
  rw [Try.params4]
  simp only [List.mem_cons, List.not_mem_nil, or_false, forall_eq_or_imp, forall_eq]
  refine ⟨⟨by kernel_rfl, of_decide_eq_true (by kernel_rfl)⟩, ⟨by kernel_rfl, of_decide_eq_true (by kernel_rfl)⟩, ⟨by kernel_rfl, of_decide_eq_true (by kernel_rfl)⟩, ⟨by kernel_rfl, of_decide_eq_true (by kernel_rfl)⟩, ⟨by kernel_rfl, of_decide_eq_true (by kernel_rfl)⟩, ⟨by kernel_rfl, of_decide_eq_true (by kernel_rfl)⟩⟩

set_option maxHeartbeats 20000000 in
set_option maxRecDepth 100000 in
theorem walk (w : World) (c0 : Nat → Int) (pv0 : Value) (l0 : List Int) (i0 : ∀ j, j < 16 → I64 (c0 j)) (s0 : View w .u8 pv0 l0) (x0 : ∀ x ∈ l0, 0 ≤ x ∧ x ≤ 255) (v1 : Value) (l1 : List Int) (s1 : View w .u8 v1 l1) (x1 : ∀ x ∈ l1, 0 ≤ x ∧ x ≤ 255) (n1 : l1.length ≤ 140737488355328) (a2 : Int) (w2 : (Lit.int .i64 a2).wf = true) (a3 : Int) (w3 : (Lit.int .i64 a3).wf = true) (a4 : Int) (w4 : (Lit.int .u16 a4).wf = true) (a5 : Int) (w5 : (Lit.int .u8 a5).wf = true) :
    Calls Try.prog 4 #[.agg (tbl c0 pv0).toArray, v1, .int .i64 a2, .int .i64 a3, .int .u16 a4, .int .u8 a5] w fun e w' => e = .returned (.bool true) ∧ But Nowhere w w' := by
  have hTw : HT w := by first | exact hT | exact trivial
  have u4 : 0 ≤ a4 ∧ a4 ≤ 65535 := by simpa [Lit.wf, IntKind.min, IntKind.max, IntKind.signed, IntKind.bits] using w4
  have u5 := u8_in w5
  have B2 : Hid _ := i64_in w2
  have B3 : Hid _ := i64_in w3
  have huT := Try.underlying25
  have hiT : ∀ c pv, (Try.prog.info? 25).map (·.size) = some (tbl c pv).length := fun c pv => by rw [tbl_length]; kernel_rfl
  have HS0 : Hid (View w .u8 pv0 l0) := s0
  have HS1 : Hid (View w .u8 v1 l1) := s1
  clear s1
  obtain ⟨ao, cap, rfl⟩ := s0.slice
  clear s0
  have kk := (Keep.start w).made 25 (tbl c0 (.slice ao l0.length cap))
  have c16 := kk.head.vals
  go_enter Try.func4, Try.ntmps4
  by_cases ha : 300 < l0.length
  · have a1 : (300 : Int) < (l0.length : Int) := by omega
    go_wp2_with fail
    refine (known_any HT_but specCheck specCodes specStandard _ (HT_but _ _ hTw kk.but)).mono ?_
    rintro e x1 ⟨rfl, dd⟩
    have HX : Hid _ := kk.but.trans dd
    clear dd kk
    go_wp2_with fail
    go_ret
    exact ⟨rfl, HX.out⟩
  · have a1 : ¬ (300 : Int) < (l0.length : Int) := by omega
    go_wp2_with fail
    refine (known_any HT_but specCheck specCodes specStandard _ (HT_but _ _ hTw kk.but)).mono ?_
    rintro e x9 ⟨rfl, dd⟩
    replace kk := kk.step dd
    clear dd c16
    go_wp2_with fail
    refine (refStandard_any _ _ _).mono ?_
    rintro e x8 ⟨g5, rfl, k5⟩
    have hI9 := stdIx_lt (a5 % 2) (a5 / 2 % 2)
    have hv5 := std_view _ hI9 k5.head
    have HW8 : Hid (But Nowhere w x8) := kk.but.trans k5.but
    have HB0 : Hid (Cells x8 w.heap.size 25 (tbl c0 (.slice ao l0.length cap))) := (kk.step k5.but).head
    have hT8 := HT_but _ _ hTw (kk.but.trans k5.but)
    have HV0 : Hid (View x8 .u8 (.slice ao l0.length cap) l0) := HS0.out.but HW8.out
    have HV1 : Hid (View x8 .u8 v1 l1) := HS1.out.but HW8.out
    clear kk HS0 HS1 k5
    have kk := Keep.start x8
    revert hv5
    revert hI9
    generalize stdIx (a5 % 2) (a5 / 2 % 2) = i9
    generalize Value.slice (some ⟨g5, 0, none⟩) (stdN i9) (stdN i9) = pvs
    intro hI9 hv5
    have HI9 : Hid (i9 < 4) := hI9
    have HVS : Hid (View x8 .u8 pvs (stdL i9)) := hv5
    clear hI9 hv5
    replace kk := kk.made 25 (Value.int .i64 0 :: Value.int .i64 0 :: Value.int .i64 0 :: Value.int .i64 0 :: Value.int .i64 0 :: Value.int .i64 0 :: Value.int .i64 0 :: Value.int .i64 0 :: Value.int .i64 0 :: Value.int .i64 0 :: Value.int .i64 0 :: Value.int .i64 0 :: Value.int .i64 0 :: Value.int .i64 0 :: Value.int .i64 0 :: Value.int .i64 0 :: Value.slice none 0 0 :: [])
    have hth := kk.head.there 0 (tbl (stdc i9) pvs).toArray.size (by simp [tbl_length])
    replace kk := kk.laid_any (tbl (stdc i9) pvs) (by rw [tbl_length]; rfl)
    have HX : Hid _ := kk
    clear kk
    obtain ⟨po9, n9, pc9, hpv9⟩ : ∃ a n c, pvs = .slice a n c := by obtain ⟨a, c, e, _⟩ := HVS.out; exact ⟨_, _, _, e⟩
    have hal : (tbl (stdc i9) pvs).toArray.all (·.oneCell') = true := by rw [hpv9]; exact tbl_all _ _ _ _
    have hi2 : (Try.prog.info? 25).map (·.size) = some (tbl (stdc i9) pvs).toArray.size := by rw [List.size_toArray, tbl_length]; kernel_rfl
    clear hpv9
    go_upto_region 4 with (refine wpList_store_mid rfl 25 (.tmp 13) (.tmp 30) rfl x8.heap.size 0 (tbl (stdc i9) pvs).toArray rfl rfl ?_ hi2 hal ?_; exact hth)
    have kk := HX.out
    clear HX hth hal hi2
    revert kk
    obtain ⟨SB, hSB⟩ : ∃ b, x8.heap.size = b := ⟨_, rfl⟩
    rw [hSB]
    clear hSB
    generalize (x8.alloc (.cells (Value.int .i64 0 :: Value.int .i64 0 :: Value.int .i64 0 :: Value.int .i64 0 :: Value.int .i64 0 :: Value.int .i64 0 :: Value.int .i64 0 :: Value.int .i64 0 :: Value.int .i64 0 :: Value.int .i64 0 :: Value.int .i64 0 :: Value.int .i64 0 :: Value.int .i64 0 :: Value.int .i64 0 :: Value.int .i64 0 :: Value.int .i64 0 :: Value.slice none 0 0 :: []).toArray 25)).setCells SB 0 (tbl (stdc i9) pvs) = WSB
    intro kk
    try simp only [Act.put]
    have hr := (Cells.all (Cells.but HB0.out kk.but (not_nowhere _)))
    go_wp2_with (first | (refine wpList_load_mid rfl 25 (.tmp 6) rfl w.heap.size 0 rfl (tbl c0 (.slice ao l0.length cap)) _ ?_ huT rfl (hiT _ _) ?_; exact hr) | (refine wpList_load_midG rfl 25 (.tmp 6) rfl w.heap.size 0 rfl (tbl c0 (.slice ao l0.length cap)) _ ?_ huT rfl (hiT _ _) ?_; exact hr))
    refine (finds_any HT_but specFind specFindSec c0 _ l0 a2 B2.out i0 _ (HV0.out.but kk.but) x0 (by omega) (HT_but _ _ hT8 kk.but)).mono ?_
    rintro e y1 ⟨rfl, dd⟩
    replace kk := kk.step dd
    clear dd hr
    go_wp2_with fail
    refine (table_law v1 l1 _ (HV1.out.but kk.but) x1 (by omega)).mono ?_
    rintro e y2 ⟨cs, pvt, xs, rfl, hvt, hbt, hit, hlt, dd⟩
    have HVT : Hid (View y2 .u8 pvt xs) := hvt
    clear hvt
    replace kk := kk.step dd
    clear dd
    go_wp2_with fail
    refine (finds_any HT_but specFind specFindSec cs pvt xs _ ⟨by omega, by omega⟩ hit _ HVT.out hbt (by omega) (HT_but _ _ hT8 kk.but)).mono ?_
    rintro e y3 ⟨rfl, dd⟩
    replace kk := kk.step dd
    clear dd
    have hr := (kk.get (b := SB) (t := 25) (c := tbl (stdc i9) pvs) (by simp)).all
    go_wp2_with (refine wpList_load_midG rfl 25 (.tmp 13) rfl SB 0 rfl (tbl (stdc i9) pvs) _ ?_ huT rfl (hiT _ _) ?_; exact hr)
    refine (finds_any HT_but specFind specFindSec (stdc i9) pvs (stdL i9) _ ⟨by omega, by omega⟩ (stdc_i64 i9 HI9.out) _ (HVS.out.but kk.but) (std_byte i9 HI9.out) (by have := (stdL_length i9 HI9.out).1; omega) (HT_but _ _ hT8 kk.but)).mono ?_
    rintro e y4 ⟨rfl, dd⟩
    replace kk := kk.step dd
    clear dd hr
    have hr := (kk.get (b := SB) (t := 25) (c := tbl (stdc i9) pvs) (by simp)).all
    go_wp2_with (refine wpList_load_midG rfl 25 (.tmp 13) rfl SB 0 rfl (tbl (stdc i9) pvs) _ ?_ huT rfl (hiT _ _) ?_; exact hr)
    refine (finds_any HT_but specFind specFindSec (stdc i9) pvs (stdL i9) _ ⟨by omega, by omega⟩ (stdc_i64 i9 HI9.out) _ (HVS.out.but kk.but) (std_byte i9 HI9.out) (by have := (stdL_length i9 HI9.out).1; omega) (HT_but _ _ hT8 kk.but)).mono ?_
    rintro e y5 ⟨rfl, dd⟩
    replace kk := kk.step dd
    clear dd hr
    have hr := (Cells.all (Cells.but HB0.out kk.but (not_nowhere _)))
    go_wp2_with (first | (refine wpList_load_mid rfl 25 (.tmp 6) rfl w.heap.size 0 rfl (tbl c0 (.slice ao l0.length cap)) _ ?_ huT rfl (hiT _ _) ?_; exact hr) | (refine wpList_load_midG rfl 25 (.tmp 6) rfl w.heap.size 0 rfl (tbl c0 (.slice ao l0.length cap)) _ ?_ huT rfl (hiT _ _) ?_; exact hr))
    refine (tells_any HT_but specCodeSec c0 _ l0 a3 B3.out i0 _ (HV0.out.but kk.but) x0 (by omega) (HT_but _ _ hT8 kk.but)).mono ?_
    rintro e y6 ⟨rfl, dd⟩
    replace kk := kk.step dd
    clear dd hr
    have hr := (kk.get (b := SB) (t := 25) (c := tbl (stdc i9) pvs) (by simp)).all
    go_wp2_with (refine wpList_load_midG rfl 25 (.tmp 13) rfl SB 0 rfl (tbl (stdc i9) pvs) _ ?_ huT rfl (hiT _ _) ?_; exact hr)
    refine (tells_any HT_but specCodeSec (stdc i9) pvs (stdL i9) _ ⟨by omega, by omega⟩ (stdc_i64 i9 HI9.out) _ (HVS.out.but kk.but) (std_byte i9 HI9.out) (by have := (stdL_length i9 HI9.out).1; omega) (HT_but _ _ hT8 kk.but)).mono ?_
    rintro e y7 ⟨rfl, dd⟩
    replace kk := kk.step dd
    clear dd hr
    go_wp2_with fail
    refine (table_law v1 l1 _ (HV1.out.but kk.but) x1 (by omega)).mono ?_
    rintro e y8 ⟨cs2, pvt2, xs2, rfl, hvt2, hbt2, hit2, hlt2, dd⟩
    have HVT2 : Hid (View y8 .u8 pvt2 xs2) := hvt2
    clear hvt2
    replace kk := kk.step dd
    clear dd
    go_wp2_with fail
    refine (tells_any HT_but specCodeSec cs2 pvt2 xs2 a3 B3.out hit2 _ HVT2.out hbt2 (by omega) (HT_but _ _ hT8 kk.but)).mono ?_
    rintro e y9 ⟨rfl, dd⟩
    replace kk := kk.step dd
    clear dd
    go_wp2_with fail
    go_ret
    exact ⟨rfl, HW8.out.trans kk.but⟩

set_option maxRecDepth 100000 in
theorem lifted (os : Os) (started : os.Started) (H : Type) (enc : TypeId × Value → H) :
    ReturnsInHanded {} Try.checked os 4 .any (Rows.huffFindsSpec.pre6 enc Try.prog Try.f4 Rows.huffFindsRow.domain false) (Rows.huffFindsSpec.post enc Try.prog Try.f4 false true false false) := by
  refine returnsInHanded_of_change_sized (C := Try.checked) own started (by kernel_rfl) Try.func4
    (ChangeSpec.witness6 (enc := enc) (C := Try.checked) false ⟨#[], #[.agg #[.int .i64 0, .int .i64 0, .int .i64 0, .int .i64 0, .int .i64 0, .int .i64 0, .int .i64 0, .int .i64 0, .int .i64 0, .int .i64 0, .int .i64 0, .int .i64 0, .int .i64 0, .int .i64 0, .int .i64 0, .int .i64 0, .slice none 0 0], .slice none 0 0, .int .i64 0, .int .i64 0, .int .u16 0, .int .u8 0], []⟩ 8 (by kernel_rfl) (by kernel_rfl) (by kernel_rfl) (by kernel_rfl)) ?_
  intro W base args ds gs before hval0 hW hcnd hsz0 _
  have hval : ∀ (j : Nat) t v, Try.f4.params[j]? = some t → args[j]? = some v → Value.okWide Try.prog W .any base t v := hval0
  have hsz : (DataW.weightsEach Try.prog (Try.f4.params.toList ++ Rows.huffFindsSpec.plain.varTypes Try.prog) (ds ++ gs)).all (· ≤ reachBytes) = true := hsz0
  have hW' := hW
  obtain ⟨p, q, hA0, hV, rfl, hfz, hnd⟩ := hW
  have hA : DataW.TrodAll enc Try.prog W 0 (fun _ => true) true Try.f4.params.toList args.toList ds p := hA0
  rw [Try.params4] at hA hval hsz
  obtain ⟨v0, vs0, d0, ds0, p0, q0, hargs, rfl, rfl, h0, r0⟩ := trodAll_cons hA
  obtain ⟨v1, vs1, d1, ds1, p1, q1, rfl, rfl, rfl, h1, r1⟩ := trodAll_cons r0
  obtain ⟨v2, vs2, d2, ds2, p2, q2, rfl, rfl, rfl, h2, r2⟩ := trodAll_cons r1
  obtain ⟨v3, vs3, d3, ds3, p3, q3, rfl, rfl, rfl, h3, r3⟩ := trodAll_cons r2
  obtain ⟨v4, vs4, d4, ds4, p4, q4, rfl, rfl, rfl, h4, r4⟩ := trodAll_cons r3
  obtain ⟨v5, vs5, d5, ds5, p5, q5, rfl, rfl, rfl, h5, r5⟩ := trodAll_cons r4
  obtain ⟨rfl, rfl, rfl⟩ := trodAll_nil r5
  obtain rfl : args = #[v0, v1, v2, v3, v4, v5] := by cases args; simp_all
  obtain ⟨rfl, rfl⟩ := trodVars_none hV
  obtain ⟨c0, pv0, l0, rfl, i0, s0, x0⟩ := open_table (hval 0 25 v0 rfl rfl) h0
  obtain ⟨l1, ⟨s1, x1⟩, e1⟩ := open_bytes (hval 1 23 v1 rfl rfl) h1
  have n1 := bytes_small hsz (j := 1) rfl rfl e1
  obtain ⟨a2, rfl, rfl, rfl, w2⟩ := open_int Try.underlying3 (hval 2 3 v2 rfl rfl) h2
  obtain ⟨a3, rfl, rfl, rfl, w3⟩ := open_int Try.underlying3 (hval 3 3 v3 rfl rfl) h3
  obtain ⟨a4, rfl, rfl, rfl, w4⟩ := open_int Try.underlying32 (hval 4 32 v4 rfl rfl) h4
  obtain ⟨a5, rfl, rfl, rfl, w5⟩ := open_int Try.underlying5 (hval 5 5 v5 rfl rfl) h5
  clear hA0 hval0
  refine (walk W c0 pv0 l0 i0 s0 x0 v1 l1 s1 x1 n1 a2 w2 a3 w3 a4 w4 a5 w5).mono fun e W' ⟨he, hg⟩ => ?_
  subst he
  exact ⟨_, rfl, law_post laidOut readable rfl Try.underlying4 rfl rfl hW' hg.below⟩

theorem over : Rows.huffFindsRow.holds Try.pinned (OpenSpec.ofChange Rows.huffFindsSpec) :=
  OpenClaim.holds_of_wide 4 Try.f4 rfl rfl rfl rfl rfl rfl rfl ⟨rfl, rfl, rfl, rfl, rfl⟩ rfl rfl rfl rfl rfl (by kernel_rfl) Try.func4 (by kernel_rfl)
    (of_decide_eq_true (by kernel_rfl)) (by unfold Func.isWrapper; first | (rw [if_pos (by decide +kernel)]; kernel_rfl) | (rw [if_neg (by decide +kernel)]; exact ⟨rfl, rfl⟩))
    (fun os started H enc _ => lifted os started H enc)

theorem proved : Rows.HuffFindsSaid :=
  over
end Go.Proofs.Ytadcfndjbhcfbaa.huffFinds
namespace Go.Proofs.Ytadcfndjbhcfbaa
theorem huffFinds_holds : Rows.HuffFindsSaid := huffFinds.proved
#print axioms huffFinds_holds
end Go.Proofs.Ytadcfndjbhcfbaa
