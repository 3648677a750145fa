/- For every list of bytes, every number rest of 16 bits and every byte k, the law HuffPrefix of layer 10 returns true: in a table made of choices, and in Standard's, no code has more than sixteen bits, or ones alone, each is found whatever stands behind it, and ones find none. No condition. -/
import Derived.Test.YtadcfndjbhcfbaaHuSpec
import Derived.Test.YtadcfndjbhcfbaaHuLaw
import Derived.Test.YtadcfndjbhcfbaaHuBits
import Derived.Test.YtadcfndjbhcfbaaHuApart
import Derived.Test.YtadcfndjbhcfbaaFrame
import Derived.Test.YtadcfndjbhcfbaaRows
namespace Go.Proofs.Ytadcfndjbhcfbaa.huffPrefix
open Go.ChangeShapes Go.WideShapes Go.ChangeAt Go.RowKit
set_option linter.unusedVariables false

theorem own : ownKnob Try.prog.godebug = none := by kernel_rfl
theorem laidOut : laidOutB Try.prog = true := by kernel_rfl
theorem readable : ∀ t ∈ Try.f5.params.toList, Try.prog.readableRec t = true ∧ t < Try.prog.types.size := by
  rw [Try.params5]
  simp only [List.mem_cons, List.not_mem_nil, or_false, forall_eq_or_imp, forall_eq]
  refine ⟨⟨by kernel_rfl, of_decide_eq_true (by kernel_rfl)⟩, ⟨by kernel_rfl, of_decide_eq_true (by kernel_rfl)⟩, ⟨by kernel_rfl, of_decide_eq_true (by kernel_rfl)⟩⟩

set_option maxHeartbeats 20000000 in
set_option maxRecDepth 100000 in
theorem walk (w : World) (v0 : Value) (l0 : List Int) (s0 : View w .u8 v0 l0) (x0 : ∀ x ∈ l0, 0 ≤ x ∧ x ≤ 255) (n0 : l0.length ≤ 140737488355328) (a1 : Int) (w1 : (Lit.int .u16 a1).wf = true) (a2 : Int) (w2 : (Lit.int .u8 a2).wf = true) :
    Calls Try.prog 5 #[v0, .int .u16 a1, .int .u8 a2] w fun e w' => e = .returned (.bool true) ∧ But Nowhere w w' := by
  have hTw : HT w := by first | exact hT | exact trivial
  have u1 : 0 ≤ a1 ∧ a1 ≤ 65535 := by simpa [Lit.wf, IntKind.min, IntKind.max, IntKind.signed, IntKind.bits] using w1
  have u2 := u8_in w2
  have huT := Try.underlying25
  have hiT : ∀ c pv, (Try.prog.info? 25).map (·.size) = some (tbl c pv).length := fun c pv => by rw [tbl_length]; kernel_rfl
  have kk := Keep.start w
  go_enter Try.func5, Try.ntmps5
  go_wp2_with fail
  refine (table_law v0 l0 _ s0 x0 n0).mono ?_
  rintro e z1 ⟨cs, pvt, xs, rfl, hvt, hbt, hit, hlt, dd⟩
  obtain ⟨ao, cap, rfl⟩ := hvt.slice
  have HB1 : Hid (But Nowhere w z1) := dd
  have HVX : Hid (View z1 .u8 (.slice ao xs.length cap) xs) := hvt
  clear hvt dd kk s0
  have kk := Keep.start z1
  replace kk := kk.made 25 (Value.int .i64 0 :: Value.int .i64 0 :: Value.int .i64 0 :: Value.int .i64 0 :: Value.int .i64 0 :: Value.int .i64 0 :: Value.int .i64 0 :: Value.int .i64 0 :: Value.int .i64 0 :: Value.int .i64 0 :: Value.int .i64 0 :: Value.int .i64 0 :: Value.int .i64 0 :: Value.int .i64 0 :: Value.int .i64 0 :: Value.int .i64 0 :: Value.slice none 0 0 :: [])
  have hth := kk.head.there 0 (tbl cs (.slice ao xs.length cap)).toArray.size (by simp [tbl_length])
  replace kk := kk.laid_any (tbl cs (.slice ao xs.length cap)) (by rw [tbl_length]; rfl)
  have HX : Hid _ := kk
  clear kk
  have hal : (tbl cs (.slice ao xs.length cap)).toArray.all (·.oneCell') = true := tbl_all _ _ _ _
  have hi2 : (Try.prog.info? 25).map (·.size) = some (tbl cs (.slice ao xs.length cap)).toArray.size := by rw [List.size_toArray, tbl_length]; kernel_rfl
  go_upto_region 2 with (refine wpList_store_mid rfl 25 (.tmp 7) (.tmp 17) rfl z1.heap.size 0 (tbl cs (.slice ao xs.length cap)).toArray rfl rfl ?_ hi2 hal ?_; exact hth)
  have kk := HX.out
  clear HX hth hal hi2
  revert kk
  obtain ⟨SB, hSB⟩ : ∃ b, z1.heap.size = b := ⟨_, rfl⟩
  rw [hSB]
  clear hSB
  generalize (z1.alloc (.cells (Value.int .i64 0 :: Value.int .i64 0 :: Value.int .i64 0 :: Value.int .i64 0 :: Value.int .i64 0 :: Value.int .i64 0 :: Value.int .i64 0 :: Value.int .i64 0 :: Value.int .i64 0 :: Value.int .i64 0 :: Value.int .i64 0 :: Value.int .i64 0 :: Value.int .i64 0 :: Value.int .i64 0 :: Value.int .i64 0 :: Value.int .i64 0 :: Value.slice none 0 0 :: []).toArray 25)).setCells SB 0 (tbl cs (.slice ao xs.length cap)) = WSB
  intro kk
  try simp only [Act.put]
  have t4 : a2.tmod 4 = a2 % 4 := Int.tmod_eq_emod_of_nonneg (by omega)
  have x4 : IntKind.u8.wrap (a2 % 4) = a2 % 4 := by rw [IntKind.wrap_u8]; omega
  by_cases hk4 : a2 % 4 = 0
  · have hb4 : (a2 % 4 == 0) = true := by simpa using hk4
    have t5 : a2.tdiv 4 = a2 / 4 := Int.tdiv_eq_ediv_of_nonneg (by omega)
    have t6 : a2.tdiv 8 = a2 / 8 := Int.tdiv_eq_ediv_of_nonneg (by omega)
    have x5 : IntKind.u8.wrap (a2 / 4) = a2 / 4 := by rw [IntKind.wrap_u8]; omega
    have x6 : IntKind.u8.wrap (a2 / 8) = a2 / 8 := by rw [IntKind.wrap_u8]; omega
    have t7 : (a2 / 4).tmod 2 = a2 / 4 % 2 := Int.tmod_eq_emod_of_nonneg (by omega)
    have t8 : (a2 / 8).tmod 2 = a2 / 8 % 2 := Int.tmod_eq_emod_of_nonneg (by omega)
    have x7 : IntKind.u8.wrap (a2 / 4 % 2) = a2 / 4 % 2 := by rw [IntKind.wrap_u8]; omega
    have x8 : IntKind.u8.wrap (a2 / 8 % 2) = a2 / 8 % 2 := by rw [IntKind.wrap_u8]; omega
    have y7 : IntKind.i64.wrap (a2 / 4 % 2) = a2 / 4 % 2 := by rw [wrap_i64_eq]; exact w64 _ (by omega)
    have y8 : IntKind.i64.wrap (a2 / 8 % 2) = a2 / 8 % 2 := by rw [wrap_i64_eq]; exact w64 _ (by omega)
    clear hk4
    go_wp2_with fail
    refine (specStandard _ _ _ (HT_but _ _ hTw (HB1.out.trans kk.but))).mono ?_
    rintro e z2 ⟨p9, rfl, hvs, dd⟩
    replace kk := kk.step dd
    clear dd
    have hoff := view_apart hvs kk.head (fun x => by simp)
    have hI9 := stdIx_lt (a2 / 4 % 2) (a2 / 8 % 2)
    revert hI9
    revert hoff
    revert hvs
    generalize stdIx (a2 / 4 % 2) (a2 / 8 % 2) = i9
    intro hvs hoff hI9
    have hth := kk.head.there 0 (tbl (stdc i9) p9).toArray.size (by simp [tbl_length])
    have kY := kk.laid_any (tbl (stdc i9) p9) (by rw [tbl_length, tbl_length])
    have hal : (tbl (stdc i9) p9).toArray.all (·.oneCell') = true := by obtain ⟨a, c, e, _⟩ := hvs; rw [e]; exact tbl_all _ _ _ _
    have hi2 : (Try.prog.info? 25).map (·.size) = some (tbl (stdc i9) p9).toArray.size := by rw [List.size_toArray, tbl_length]; kernel_rfl
    have HX : Hid _ := And.intro kY.head (And.intro (hvs.butS (But.setCells (S := fun k => k = SB) (tbl (stdc i9) p9) (But.refl (fun k => k = SB) z2) (fun _ => rfl) 0) hoff) (HB1.out.trans kY.but))
    have HJ : Hid _ := And.intro (stdc_i64 i9 hI9) (And.intro (std_byte i9 hI9) (Nat.le_trans (stdL_length i9 hI9).1 (by decide : 162 ≤ 140737488355328)))
    clear kk kY hvs hoff hI9 hit hbt hlt HVX HB1
    go_upto_region 4 with (refine wpList_store_mid rfl 25 (.tmp 7) (.tmp 29) rfl SB 0 (tbl (stdc i9) p9).toArray rfl rfl ?_ hi2 hal ?_; exact hth)
    try simp only [Act.put]
    clear hth hal hi2
    have hHX := HX.out
    have hHJ := HJ.out
    clear HX HJ
    revert hHX
    generalize z2.setCells SB 0 (tbl (stdc i9) p9) = zz
    revert hHJ
    generalize stdc i9 = c9
    generalize stdL i9 = l9
    intro hHJ hHX
    have HB0 : Hid (Cells zz SB 25 (tbl c9 p9)) := hHX.1
    have HVT : Hid (View zz .u8 p9 l9) := hHX.2.1
    have HBW : Hid (But Nowhere w zz) := hHX.2.2
    obtain ⟨hit, hbt, hl9⟩ := hHJ
    clear hHX
    have kk := Keep.start zz
    have hr := (Cells.all (Cells.but HB0.out kk.but (not_nowhere _)))
    go_wp2_with (refine wpList_load_mid rfl 25 (.tmp 7) rfl SB 0 rfl (tbl c9 p9) _ ?_ huT rfl (hiT _ _) ?_; exact hr)
    refine (specCodes c9 p9 l9 hit _ (HVT.out.but kk.but) hbt hl9 (HT_but _ _ hTw (HBW.out.trans kk.but))).mono ?_
    rintro e y1 ⟨rfl, dd⟩
    replace kk := kk.step dd
    clear dd hr
    replace kk := kk.made 37 (tab .i64 512 (fun _ => 0))
    have hth := kk.head.there 0 (tab .i64 512 (both (codN c9 l9) (codV c9 l9))).toArray.size (by simp [tab_length])
    replace kk := kk.layAll (both (codN c9 l9) (codV c9 l9))
    have HX : Hid _ := kk
    clear kk
    have hz := zero512
    have hiB : (Try.prog.info? 37).map (·.size) = some (tab .i64 512 (both (codN c9 l9) (codV c9 l9))).toArray.size := by rw [List.size_toArray, tab_length]; kernel_rfl
    go_upto_region 5 with (refine wpList_store_mid rfl 37 (.tmp 8) (.tmp 31) rfl y1.heap.size 0 (tab .i64 512 (both (codN c9 l9) (codV c9 l9))).toArray rfl rfl ?_ hiB (tab_all _ _ _) ?_; exact hth)
    have kk := HX.out
    clear HX hth hz hiB
    revert kk
    obtain ⟨CB, hCB⟩ : ∃ b, y1.heap.size = b := ⟨_, rfl⟩
    rw [hCB]
    clear hCB
    generalize (y1.alloc (.cells (tab .i64 512 (fun _ => 0)).toArray 37)).setCells CB 0 (tab .i64 512 (both (codN c9 l9) (codV c9 l9))) = WCB
    intro kk
    try simp only [Act.put]
    go_wp2_with fail
    go_loopw [9] (fun u V => ∃ v : Nat, v ≤ 256 ∧ u = .int .i64 v ∧ Keep zz V [(CB, 37, tab .i64 512 (both (codN c9 l9) (codV c9 l9)))]) (fun u _ => 256 - (intOf u).toNat)
    case atStart => exact ⟨0, by omega, rfl, kk⟩
    case round =>
      clear kk
      obtain ⟨v, hv, rfl, kk⟩ := hrel
      by_cases hlt : (v : Int) < 256
      · have hvN : v < 256 := by omega
        have v0 : (0 : Int) ≤ (v : Int) := by omega
        have e0 := kk.head.cell (v * 2) (by omega)
        have e1 := kk.head.cell (v * 2 + 1) (by omega)
        rw [show both (codN c9 l9) (codV c9 l9) (v * 2) = codN c9 l9 v by unfold both; rw [if_pos (by omega), show v * 2 / 2 = v by omega]] at e0
        rw [show both (codN c9 l9) (codV c9 l9) (v * 2 + 1) = codV c9 l9 v by unfold both; rw [if_neg (by omega), show (v * 2 + 1) / 2 = v by omega]] at e1
        rcases cod_cases c9 l9 v with ⟨hN, hV⟩ | ⟨hok, p, hp, hlp, hN, hV⟩
        · rw [hN] at e0
          have HK : Hid _ := kk
          clear kk hN hV e1
          go_wp2_with fail
          go_roundw
          case rel => exact ⟨v + 1, by omega, by go_num, HK.out⟩
          case measure => simp [intOf]; omega
        · rw [hN] at e0
          rw [hV] at e1
          have hin := p_in hok hp
          have hpw := pow_to (lenP c9 p) hin.2.1
          have hbt16 := code_bits a1 hin u1.1 u1.2
          have hF := finds_code hok p hp (a1 % 2 ^ (16 - lenP c9 p)) hbt16.1 hbt16.2.1
          rw [List.getElem?_eq_getElem hp] at hlp
          rw [Option.some.inj hlp] at hF
          have hA := and_low a1 (16 - lenP c9 p) u1.1 u1.2
          have hO := or_low (numP c9 p) (a1 % 2 ^ (16 - lenP c9 p)) (16 - lenP c9 p) hin.2.2.1 hbt16.1 hbt16.2.1 hbt16.2.2.2
          have hpm := pow_to (16 - lenP c9 p) (by omega)
          revert hA hO hF hbt16 hpm
          obtain ⟨L, hL⟩ : ∃ x : Nat, lenP c9 p = x := ⟨_, rfl⟩
          obtain ⟨Vn, hVn⟩ : ∃ x : Int, numP c9 p = x := ⟨_, rfl⟩
          rw [hL] at hin hpw e0 ⊢
          rw [hVn] at hin e1 ⊢
          obtain ⟨M, hM⟩ : ∃ x : Nat, 16 - L = x := ⟨_, rfl⟩
          rw [hM]
          obtain ⟨R, hR⟩ : ∃ x : Int, a1 % 2 ^ M = x := ⟨_, rfl⟩
          rw [hR]
          intro hbt16 hF hA hO hpm
          obtain ⟨B, hB⟩ : ∃ x : Int, Vn * 2 ^ M + R = x := ⟨_, rfl⟩
          rw [hB] at hO hF hbt16
          have HF : Hid (Finds c9 l9 B (v : Int) (L : Int)) := hF
          have hBI : I64 B := by rw [← hB]; exact ⟨by omega, by rw [hB]; omega⟩
          have HBI : Hid _ := hBI
          have hsub : IntKind.i64.wrap (16 - (L : Int)) = (M : Int) := by rw [wrap_i64_eq, w64 _ (by omega)]; omega
          have hsh : IntKind.i64.wrap ((2 : Int) ^ L) = 2 ^ L := by rw [wrap_i64_eq]; exact w64 _ (by omega)
          have hs2 : IntKind.i64.wrap ((2 : Int) ^ L - 1) = 2 ^ L - 1 := by rw [wrap_i64_eq]; exact w64 _ (by omega)
          have hm1 : IntKind.i64.wrap ((2 : Int) ^ M) = 2 ^ M := by rw [wrap_i64_eq]; exact w64 _ (by omega)
          have hm2 : IntKind.i64.wrap ((2 : Int) ^ M - 1) = 2 ^ M - 1 := by rw [wrap_i64_eq]; exact w64 _ (by omega)
          have hvm : IntKind.i64.wrap (Vn * 2 ^ M) = Vn * 2 ^ M := by rw [wrap_i64_eq]; exact w64 _ (by omega)
          have huL : IntKind.u64.wrap (L : Int) = L := by rw [IntKind.wrap_u64]; omega
          have huM : IntKind.u64.wrap (M : Int) = M := by rw [IntKind.wrap_u64]; omega
          have hua : IntKind.i64.wrap a1 = a1 := by rw [wrap_i64_eq]; exact w64 _ (by omega)
          have l1 : (1 : Int) ≤ (L : Int) := by omega
          have l2 : (L : Int) ≤ 16 := by omega
          have l3 : 0 ≤ Vn := hin.2.2.1
          have l4 : Vn < 2 ^ L - 1 := hin.2.2.2
          have l5 : min L 64 = L := by omega
          have l6 : min M 64 = M := by omega
          have hnz : ((L : Int) == 0) = false := by rw [beq_eq_false_iff_ne]; omega
          have HK : Hid _ := kk
          have hr := (Cells.all (Cells.but HB0.out kk.but (not_nowhere _)))
          clear kk hN hV hin hpw hL hVn hM hR hB hbt16 hpm hBI hlp
          go_wp2_with (refine wpList_load_mid rfl 25 (.tmp 7) rfl SB 0 rfl (tbl c9 p9) _ ?_ huT rfl (hiT _ _) ?_; exact hr)
          have kk := HK.out
          clear HK hr
          refine (specFind c9 p9 l9 B HBI.out hit _ (HVT.out.but kk.but) hbt hl9 (HT_but _ _ hTw (HBW.out.trans kk.but))).mono ?_
          rintro e y2 ⟨v', n', rfl, hf, dd⟩
          obtain ⟨h1, h2⟩ := finds_one hf HF.out
          subst h1
          subst h2
          replace kk := kk.step dd
          have HK : Hid _ := kk
          clear kk dd hf e0 e1
          go_wp2_with fail
          go_roundw
          case rel => exact ⟨v + 1, by omega, by go_num, HK.out⟩
          case measure => simp [intOf]; omega
      · obtain rfl : v = 256 := by omega
        have hr := (Cells.all (Cells.but HB0.out kk.but (not_nowhere _)))
        go_wp2_with (refine wpList_load_mid rfl 25 (.tmp 7) rfl SB 0 rfl (tbl c9 p9) _ ?_ huT rfl (hiT _ _) ?_; exact hr)
        refine (specFind c9 p9 l9 65535 ⟨by omega, by omega⟩ hit _ (HVT.out.but kk.but) hbt hl9 (HT_but _ _ hTw (HBW.out.trans kk.but))).mono ?_
        rintro e y3 ⟨v', n', rfl, hf, dd⟩
        obtain ⟨h1, h2⟩ := finds_one hf (finds_ones c9 l9)
        subst h1
        subst h2
        replace kk := kk.step dd
        clear dd hf hr
        go_wp2_with fail
        refine (known_any HT_but specCheck specCodes specStandard _ (HT_but _ _ hTw (HBW.out.trans kk.but))).mono ?_
        rintro e y4 ⟨rfl, dd⟩
        have HX : Hid _ := HBW.out.trans (kk.but.trans dd)
        clear kk dd
        go_wp2_with fail
        go_ret
        exact ⟨rfl, HX.out⟩
  · have hb4 : (a2 % 4 == 0) = false := by simpa using hk4
    clear hk4
    go_upto_region 4 with fail
    try simp only [Act.put]
    have hall := And.intro kk.head (And.intro (HVX.out.but kk.but) (And.intro (HB1.out.trans kk.but) (And.intro hit (And.intro hbt (show xs.length ≤ 140737488355328 by omega)))))
    clear kk HVX HB1 hlt hit hbt
    revert hall
    generalize Value.slice ao xs.length cap = p9
    generalize WSB = zz
    generalize cs = c9
    generalize xs = l9
    intro hall
    have HB0 : Hid (Cells zz SB 25 (tbl c9 p9)) := hall.1
    have HVT : Hid (View zz .u8 p9 l9) := hall.2.1
    have HBW : Hid (But Nowhere w zz) := hall.2.2.1
    have hit := hall.2.2.2.1
    have hbt := hall.2.2.2.2.1
    have hl9 := hall.2.2.2.2.2
    clear hall
    have kk := Keep.start zz
    have hr := (Cells.all (Cells.but HB0.out kk.but (not_nowhere _)))
    go_wp2_with (refine wpList_load_mid rfl 25 (.tmp 7) rfl SB 0 rfl (tbl c9 p9) _ ?_ huT rfl (hiT _ _) ?_; exact hr)
    refine (specCodes c9 p9 l9 hit _ (HVT.out.but kk.but) hbt hl9 (HT_but _ _ hTw (HBW.out.trans kk.but))).mono ?_
    rintro e y1 ⟨rfl, dd⟩
    replace kk := kk.step dd
    clear dd hr
    replace kk := kk.made 37 (tab .i64 512 (fun _ => 0))
    have hth := kk.head.there 0 (tab .i64 512 (both (codN c9 l9) (codV c9 l9))).toArray.size (by simp [tab_length])
    replace kk := kk.layAll (both (codN c9 l9) (codV c9 l9))
    have HX : Hid _ := kk
    clear kk
    have hz := zero512
    have hiB : (Try.prog.info? 37).map (·.size) = some (tab .i64 512 (both (codN c9 l9) (codV c9 l9))).toArray.size := by rw [List.size_toArray, tab_length]; kernel_rfl
    go_upto_region 5 with (refine wpList_store_mid rfl 37 (.tmp 8) (.tmp 31) rfl y1.heap.size 0 (tab .i64 512 (both (codN c9 l9) (codV c9 l9))).toArray rfl rfl ?_ hiB (tab_all _ _ _) ?_; exact hth)
    have kk := HX.out
    clear HX hth hz hiB
    revert kk
    obtain ⟨CB, hCB⟩ : ∃ b, y1.heap.size = b := ⟨_, rfl⟩
    rw [hCB]
    clear hCB
    generalize (y1.alloc (.cells (tab .i64 512 (fun _ => 0)).toArray 37)).setCells CB 0 (tab .i64 512 (both (codN c9 l9) (codV c9 l9))) = WCB
    intro kk
    try simp only [Act.put]
    go_wp2_with fail
    go_loopw [9] (fun u V => ∃ v : Nat, v ≤ 256 ∧ u = .int .i64 v ∧ Keep zz V [(CB, 37, tab .i64 512 (both (codN c9 l9) (codV c9 l9)))]) (fun u _ => 256 - (intOf u).toNat)
    case atStart => exact ⟨0, by omega, rfl, kk⟩
    case round =>
      clear kk
      obtain ⟨v, hv, rfl, kk⟩ := hrel
      by_cases hlt : (v : Int) < 256
      · have hvN : v < 256 := by omega
        have v0 : (0 : Int) ≤ (v : Int) := by omega
        have e0 := kk.head.cell (v * 2) (by omega)
        have e1 := kk.head.cell (v * 2 + 1) (by omega)
        rw [show both (codN c9 l9) (codV c9 l9) (v * 2) = codN c9 l9 v by unfold both; rw [if_pos (by omega), show v * 2 / 2 = v by omega]] at e0
        rw [show both (codN c9 l9) (codV c9 l9) (v * 2 + 1) = codV c9 l9 v by unfold both; rw [if_neg (by omega), show (v * 2 + 1) / 2 = v by omega]] at e1
        rcases cod_cases c9 l9 v with ⟨hN, hV⟩ | ⟨hok, p, hp, hlp, hN, hV⟩
        · rw [hN] at e0
          have HK : Hid _ := kk
          clear kk hN hV e1
          go_wp2_with fail
          go_roundw
          case rel => exact ⟨v + 1, by omega, by go_num, HK.out⟩
          case measure => simp [intOf]; omega
        · rw [hN] at e0
          rw [hV] at e1
          have hin := p_in hok hp
          have hpw := pow_to (lenP c9 p) hin.2.1
          have hbt16 := code_bits a1 hin u1.1 u1.2
          have hF := finds_code hok p hp (a1 % 2 ^ (16 - lenP c9 p)) hbt16.1 hbt16.2.1
          rw [List.getElem?_eq_getElem hp] at hlp
          rw [Option.some.inj hlp] at hF
          have hA := and_low a1 (16 - lenP c9 p) u1.1 u1.2
          have hO := or_low (numP c9 p) (a1 % 2 ^ (16 - lenP c9 p)) (16 - lenP c9 p) hin.2.2.1 hbt16.1 hbt16.2.1 hbt16.2.2.2
          have hpm := pow_to (16 - lenP c9 p) (by omega)
          revert hA hO hF hbt16 hpm
          obtain ⟨L, hL⟩ : ∃ x : Nat, lenP c9 p = x := ⟨_, rfl⟩
          obtain ⟨Vn, hVn⟩ : ∃ x : Int, numP c9 p = x := ⟨_, rfl⟩
          rw [hL] at hin hpw e0 ⊢
          rw [hVn] at hin e1 ⊢
          obtain ⟨M, hM⟩ : ∃ x : Nat, 16 - L = x := ⟨_, rfl⟩
          rw [hM]
          obtain ⟨R, hR⟩ : ∃ x : Int, a1 % 2 ^ M = x := ⟨_, rfl⟩
          rw [hR]
          intro hbt16 hF hA hO hpm
          obtain ⟨B, hB⟩ : ∃ x : Int, Vn * 2 ^ M + R = x := ⟨_, rfl⟩
          rw [hB] at hO hF hbt16
          have HF : Hid (Finds c9 l9 B (v : Int) (L : Int)) := hF
          have hBI : I64 B := by rw [← hB]; exact ⟨by omega, by rw [hB]; omega⟩
          have HBI : Hid _ := hBI
          have hsub : IntKind.i64.wrap (16 - (L : Int)) = (M : Int) := by rw [wrap_i64_eq, w64 _ (by omega)]; omega
          have hsh : IntKind.i64.wrap ((2 : Int) ^ L) = 2 ^ L := by rw [wrap_i64_eq]; exact w64 _ (by omega)
          have hs2 : IntKind.i64.wrap ((2 : Int) ^ L - 1) = 2 ^ L - 1 := by rw [wrap_i64_eq]; exact w64 _ (by omega)
          have hm1 : IntKind.i64.wrap ((2 : Int) ^ M) = 2 ^ M := by rw [wrap_i64_eq]; exact w64 _ (by omega)
          have hm2 : IntKind.i64.wrap ((2 : Int) ^ M - 1) = 2 ^ M - 1 := by rw [wrap_i64_eq]; exact w64 _ (by omega)
          have hvm : IntKind.i64.wrap (Vn * 2 ^ M) = Vn * 2 ^ M := by rw [wrap_i64_eq]; exact w64 _ (by omega)
          have huL : IntKind.u64.wrap (L : Int) = L := by rw [IntKind.wrap_u64]; omega
          have huM : IntKind.u64.wrap (M : Int) = M := by rw [IntKind.wrap_u64]; omega
          have hua : IntKind.i64.wrap a1 = a1 := by rw [wrap_i64_eq]; exact w64 _ (by omega)
          have l1 : (1 : Int) ≤ (L : Int) := by omega
          have l2 : (L : Int) ≤ 16 := by omega
          have l3 : 0 ≤ Vn := hin.2.2.1
          have l4 : Vn < 2 ^ L - 1 := hin.2.2.2
          have l5 : min L 64 = L := by omega
          have l6 : min M 64 = M := by omega
          have hnz : ((L : Int) == 0) = false := by rw [beq_eq_false_iff_ne]; omega
          have HK : Hid _ := kk
          have hr := (Cells.all (Cells.but HB0.out kk.but (not_nowhere _)))
          clear kk hN hV hin hpw hL hVn hM hR hB hbt16 hpm hBI hlp
          go_wp2_with (refine wpList_load_mid rfl 25 (.tmp 7) rfl SB 0 rfl (tbl c9 p9) _ ?_ huT rfl (hiT _ _) ?_; exact hr)
          have kk := HK.out
          clear HK hr
          refine (specFind c9 p9 l9 B HBI.out hit _ (HVT.out.but kk.but) hbt hl9 (HT_but _ _ hTw (HBW.out.trans kk.but))).mono ?_
          rintro e y2 ⟨v', n', rfl, hf, dd⟩
          obtain ⟨h1, h2⟩ := finds_one hf HF.out
          subst h1
          subst h2
          replace kk := kk.step dd
          have HK : Hid _ := kk
          clear kk dd hf e0 e1
          go_wp2_with fail
          go_roundw
          case rel => exact ⟨v + 1, by omega, by go_num, HK.out⟩
          case measure => simp [intOf]; omega
      · obtain rfl : v = 256 := by omega
        have hr := (Cells.all (Cells.but HB0.out kk.but (not_nowhere _)))
        go_wp2_with (refine wpList_load_mid rfl 25 (.tmp 7) rfl SB 0 rfl (tbl c9 p9) _ ?_ huT rfl (hiT _ _) ?_; exact hr)
        refine (specFind c9 p9 l9 65535 ⟨by omega, by omega⟩ hit _ (HVT.out.but kk.but) hbt hl9 (HT_but _ _ hTw (HBW.out.trans kk.but))).mono ?_
        rintro e y3 ⟨v', n', rfl, hf, dd⟩
        obtain ⟨h1, h2⟩ := finds_one hf (finds_ones c9 l9)
        subst h1
        subst h2
        replace kk := kk.step dd
        clear dd hf hr
        go_wp2_with fail
        refine (known_any HT_but specCheck specCodes specStandard _ (HT_but _ _ hTw (HBW.out.trans kk.but))).mono ?_
        rintro e y4 ⟨rfl, dd⟩
        have HX : Hid _ := HBW.out.trans (kk.but.trans dd)
        clear kk dd
        go_wp2_with fail
        go_ret
        exact ⟨rfl, HX.out⟩

set_option maxRecDepth 100000 in
theorem lifted (os : Os) (started : os.Started) (H : Type) (enc : TypeId × Value → H) :
    ReturnsInHanded {} Try.checked os 5 .any (Rows.huffPrefixSpec.pre6 enc Try.prog Try.f5 Rows.huffPrefixRow.domain false) (Rows.huffPrefixSpec.post enc Try.prog Try.f5 false true false false) := by
  refine returnsInHanded_of_change_sized (C := Try.checked) own started (by kernel_rfl) Try.func5
    (ChangeSpec.witness6 (enc := enc) (C := Try.checked) false ⟨#[], #[.slice none 0 0, .int .u16 0, .int .u8 0], []⟩ 8 (by kernel_rfl) (by kernel_rfl) (by kernel_rfl) (by kernel_rfl)) ?_
  intro W base args ds gs before hval0 hW hcnd hsz0 _
  have hval : ∀ (j : Nat) t v, Try.f5.params[j]? = some t → args[j]? = some v → Value.okWide Try.prog W .any base t v := hval0
  have hsz : (DataW.weightsEach Try.prog (Try.f5.params.toList ++ Rows.huffPrefixSpec.plain.varTypes Try.prog) (ds ++ gs)).all (· ≤ reachBytes) = true := hsz0
  have hW' := hW
  obtain ⟨p, q, hA0, hV, rfl, hfz, hnd⟩ := hW
  have hA : DataW.TrodAll enc Try.prog W 0 (fun _ => true) true Try.f5.params.toList args.toList ds p := hA0
  rw [Try.params5] at hA hval hsz
  obtain ⟨v0, vs0, d0, ds0, p0, q0, hargs, rfl, rfl, h0, r0⟩ := trodAll_cons hA
  obtain ⟨v1, vs1, d1, ds1, p1, q1, rfl, rfl, rfl, h1, r1⟩ := trodAll_cons r0
  obtain ⟨v2, vs2, d2, ds2, p2, q2, rfl, rfl, rfl, h2, r2⟩ := trodAll_cons r1
  obtain ⟨rfl, rfl, rfl⟩ := trodAll_nil r2
  obtain rfl : args = #[v0, v1, v2] := by cases args; simp_all
  obtain ⟨rfl, rfl⟩ := trodVars_none hV
  obtain ⟨l0, ⟨s0, x0⟩, e0⟩ := open_bytes (hval 0 23 v0 rfl rfl) h0
  have n0 := bytes_small hsz (j := 0) rfl rfl e0
  obtain ⟨a1, rfl, rfl, rfl, w1⟩ := open_int Try.underlying32 (hval 1 32 v1 rfl rfl) h1
  obtain ⟨a2, rfl, rfl, rfl, w2⟩ := open_int Try.underlying5 (hval 2 5 v2 rfl rfl) h2
  clear hA0 hval0
  refine (walk W v0 l0 s0 x0 n0 a1 w1 a2 w2).mono fun e W' ⟨he, hg⟩ => ?_
  subst he
  exact ⟨_, rfl, law_post laidOut readable rfl Try.underlying4 rfl rfl hW' hg.below⟩

theorem over : Rows.huffPrefixRow.holds Try.pinned (OpenSpec.ofChange Rows.huffPrefixSpec) :=
  OpenClaim.holds_of_wide 5 Try.f5 rfl rfl rfl rfl rfl rfl rfl ⟨rfl, rfl, rfl, rfl, rfl⟩ rfl rfl rfl rfl rfl (by kernel_rfl) Try.func5 (by kernel_rfl)
    (of_decide_eq_true (by kernel_rfl)) (by unfold Func.isWrapper; first | (rw [if_pos (by decide +kernel)]; kernel_rfl) | (rw [if_neg (by decide +kernel)]; exact ⟨rfl, rfl⟩))
    (fun os started H enc _ => lifted os started H enc)

theorem proved : Rows.HuffPrefixSaid :=
  over
end Go.Proofs.Ytadcfndjbhcfbaa.huffPrefix
namespace Go.Proofs.Ytadcfndjbhcfbaa
theorem huffPrefix_holds : Rows.HuffPrefixSaid := huffPrefix.proved
#print axioms huffPrefix_holds
end Go.Proofs.Ytadcfndjbhcfbaa
