/- For every list of bytes, the law HuffRow of layer 10 returns true: of a table made of choices just the values have codes, by rising lengths, next to each other where two have one length; of one that is not Checked none. No condition. -/
import Derived.Test.YtadcfndjbhcfbaaHuSpec
import Derived.Test.YtadcfndjbhcfbaaHuLaw
import Derived.Test.YtadcfndjbhcfbaaFrame
import Derived.Test.YtadcfndjbhcfbaaRows
namespace Go.Proofs.Ytadcfndjbhcfbaa.huffRow
open Go.ChangeShapes Go.WideShapes Go.ChangeAt Go.RowKit
set_option linter.unusedVariables false

theorem own : ownKnob Try.prog.godebug = none := by kernel_rfl
theorem laidOut : laidOutB Try.prog = true := by kernel_rfl
theorem readable : ∀ t ∈ Try.f6.params.toList, Try.prog.readableRec t = true ∧ t < Try.prog.types.size := by
  rw [Try.params6]
  simp only [List.mem_cons, List.not_mem_nil, or_false, forall_eq]
  refine ⟨by kernel_rfl, of_decide_eq_true (by kernel_rfl)⟩

set_option maxHeartbeats 20000000 in
set_option maxRecDepth 100000 in
theorem walk (w : World) (v0 : Value) (l0 : List Int) (s0 : View w .u8 v0 l0) (x0 : ∀ x ∈ l0, 0 ≤ x ∧ x ≤ 255) (n0 : l0.length ≤ 140737488355328) :
    Calls Try.prog 6 #[v0] w fun e w' => e = .returned (.bool true) ∧ But Nowhere w w' := by
  have hTw : HT w := by first | exact hT | exact trivial
  have huT := Try.underlying25
  have hiT : ∀ c pv, (Try.prog.info? 25).map (·.size) = some (tbl c pv).length := fun c pv => by rw [tbl_length]; kernel_rfl
  have kk := Keep.start w
  go_enter Try.func6, Try.ntmps6
  go_wp2_with fail
  refine (table_law v0 l0 _ s0 x0 n0).mono ?_
  rintro e z1 ⟨cs, pvt, xs, rfl, hvt, hbt, hit, hlt, dd⟩
  obtain ⟨ao, cap, rfl⟩ := hvt.slice
  have HB1 : Hid (But Nowhere w z1) := dd
  have HVT : Hid (View z1 .u8 (.slice ao xs.length cap) xs) := hvt
  have hl47 : xs.length ≤ 140737488355328 := by omega
  clear hvt dd kk s0
  have kk := Keep.start z1
  replace kk := kk.made 25 (Value.int .i64 0 :: Value.int .i64 0 :: Value.int .i64 0 :: Value.int .i64 0 :: Value.int .i64 0 :: Value.int .i64 0 :: Value.int .i64 0 :: Value.int .i64 0 :: Value.int .i64 0 :: Value.int .i64 0 :: Value.int .i64 0 :: Value.int .i64 0 :: Value.int .i64 0 :: Value.int .i64 0 :: Value.int .i64 0 :: Value.int .i64 0 :: Value.slice none 0 0 :: [])
  have hth := kk.head.there 0 (tbl cs (.slice ao xs.length cap)).toArray.size (by simp [tbl_length])
  replace kk := kk.laid_any (tbl cs (.slice ao xs.length cap)) (by rw [tbl_length]; rfl)
  have HX : Hid _ := kk
  clear kk
  have hal : (tbl cs (.slice ao xs.length cap)).toArray.all (·.oneCell') = true := tbl_all _ _ _ _
  have hi2 : (Try.prog.info? 25).map (·.size) = some (tbl cs (.slice ao xs.length cap)).toArray.size := by rw [List.size_toArray, tbl_length]; kernel_rfl
  go_upto_region 2 with (refine wpList_store_mid rfl 25 (.tmp 3) (.tmp 11) rfl z1.heap.size 0 (tbl cs (.slice ao xs.length cap)).toArray rfl rfl ?_ hi2 hal ?_; exact hth)
  have kk := HX.out
  clear HX hth hal hi2
  revert kk
  obtain ⟨SB, hSB⟩ : ∃ b, z1.heap.size = b := ⟨_, rfl⟩
  rw [hSB]
  clear hSB
  generalize (z1.alloc (.cells (Value.int .i64 0 :: Value.int .i64 0 :: Value.int .i64 0 :: Value.int .i64 0 :: Value.int .i64 0 :: Value.int .i64 0 :: Value.int .i64 0 :: Value.int .i64 0 :: Value.int .i64 0 :: Value.int .i64 0 :: Value.int .i64 0 :: Value.int .i64 0 :: Value.int .i64 0 :: Value.int .i64 0 :: Value.int .i64 0 :: Value.int .i64 0 :: Value.slice none 0 0 :: []).toArray 25)).setCells SB 0 (tbl cs (.slice ao xs.length cap)) = WSB
  intro kk
  try simp only [Act.put]
  have hr := kk.head.all
  go_wp2_with (refine wpList_load_mid rfl 25 (.tmp 3) rfl SB 0 rfl (tbl cs (.slice ao xs.length cap)) _ ?_ huT rfl (hiT _ _) ?_; exact hr)
  refine (specCodes cs (.slice ao xs.length cap) xs hit _ (HVT.out.but kk.but) hbt hl47 (HT_but _ _ hTw (HB1.out.trans kk.but))).mono ?_
  rintro e z2 ⟨rfl, dd⟩
  replace kk := kk.step dd
  clear dd hr
  replace kk := kk.made 37 (tab .i64 512 (fun _ => 0))
  have hth := kk.head.there 0 (tab .i64 512 (both (codN cs xs) (codV cs xs))).toArray.size (by simp [tab_length])
  replace kk := kk.layAll (both (codN cs xs) (codV cs xs))
  have HX : Hid _ := kk
  clear kk
  have hz := zero512
  have hiB : (Try.prog.info? 37).map (·.size) = some (tab .i64 512 (both (codN cs xs) (codV cs xs))).toArray.size := by rw [List.size_toArray, tab_length]; kernel_rfl
  go_upto_region 3 with (refine wpList_store_mid rfl 37 (.tmp 4) (.tmp 13) rfl z2.heap.size 0 (tab .i64 512 (both (codN cs xs) (codV cs xs))).toArray rfl rfl ?_ hiB (tab_all _ _ _) ?_; exact hth)
  have kk := HX.out
  clear HX hth hz hiB
  revert kk
  obtain ⟨CB, hCB⟩ : ∃ b, z2.heap.size = b := ⟨_, rfl⟩
  rw [hCB]
  clear hCB
  generalize (z2.alloc (.cells (tab .i64 512 (fun _ => 0)).toArray 37)).setCells CB 0 (tab .i64 512 (both (codN cs xs) (codV cs xs))) = WCB
  intro kk
  try simp only [Act.put]
  go_wp2_with fail
  go_loopw [5, 6] (fun n u V => ∃ v : Nat, v ≤ 256 ∧ u = .int .i64 v ∧ n = .int .i64 (hasN cs xs v) ∧ Keep z1 V [(CB, 37, tab .i64 512 (both (codN cs xs) (codV cs xs))), (SB, 25, tbl cs (.slice ao xs.length cap))]) (fun _ u _ => 256 - (intOf u).toNat)
  case atStart => exact ⟨0, by omega, rfl, rfl, kk⟩
  case round =>
    clear kk
    obtain ⟨v, hv, rfl, rfl, kk⟩ := hrel
    have hn := hasN_le cs xs v
    by_cases hlt : (v : Int) < 256
    · have hvN : v < 256 := by omega
      have v0 : (0 : Int) ≤ (v : Int) := by omega
      have c0 := kk.head.cell (v * 2) (by omega)
      rw [show both (codN cs xs) (codV cs xs) (v * 2) = codN cs xs v by unfold both; rw [if_pos (by omega), show v * 2 / 2 = v by omega]] at c0
      have HK : Hid _ := kk
      have hs : hasN cs xs (v + 1) = hasN cs xs v + if 0 < codN cs xs v then 1 else 0 := rfl
      have HS : Hid _ := hs
      clear kk hs
      revert HS
      revert c0
      generalize codN cs xs v = N
      obtain ⟨m, hm⟩ : ∃ m, hasN cs xs v = m := ⟨_, rfl⟩
      rw [hm] at hn ⊢
      clear hm
      intro c0 HS
      by_cases hp : 0 < N
      · have hq : hasN cs xs (v + 1) = m + 1 := by rw [HS.out, if_pos hp]
        have HQ : Hid _ := hq
        clear hq
        go_wp2_with fail
        go_roundw
        case rel => exact ⟨v + 1, by omega, by go_num, by rw [HQ.out]; go_num, HK.out⟩
        case measure => simp [intOf]; omega
      · have hq : hasN cs xs (v + 1) = m := by rw [HS.out, if_neg hp]; rfl
        have HQ : Hid _ := hq
        clear hq
        go_wp2_with fail
        go_roundw
        case rel => exact ⟨v + 1, by omega, by go_num, by rw [HQ.out], HK.out⟩
        case measure => simp [intOf]; omega
    · obtain rfl : v = 256 := by omega
      have hr := (kk.get (b := SB) (t := 25) (c := tbl cs (.slice ao xs.length cap)) (by simp)).all
      go_wp2_with (refine wpList_load_mid rfl 25 (.tmp 3) rfl SB 0 rfl (tbl cs (.slice ao xs.length cap)) _ ?_ huT rfl (hiT _ _) ?_; exact hr)
      refine (specCheck cs (.slice ao xs.length cap) xs hit _ (HVT.out.but kk.but) hbt hl47 (HT_but _ _ hTw (HB1.out.trans kk.but))).mono ?_
      rintro e z3 ⟨rfl, dd⟩
      replace kk := kk.step dd
      clear dd hr
      cases hB : checkB cs xs
      · have hno : ¬ OkT cs xs := fun h => by rw [(checkB_iff cs xs).2 h] at hB; cases hB
        rw [hasN_not hno 256]
        clear hno
        go_wp2_with fail
        refine (known_any HT_but specCheck specCodes specStandard _ (HT_but _ _ hTw (HB1.out.trans kk.but))).mono ?_
        rintro e z4 ⟨rfl, dd⟩
        replace kk := kk.step dd
        clear dd
        have HX : Hid _ := HB1.out.trans kk.but
        clear kk
        go_wp2_with fail
        go_ret
        exact ⟨rfl, HX.out⟩
      · have hok := (checkB_iff cs xs).1 hB
        have HOK : Hid _ := hok
        rw [hasN_all hok hbt]
        clear hok hn
        go_wp2_with fail
        go_loopw [7] (fun u V => ∃ q : Nat, q + 1 ≤ max xs.length 1 ∧ u = .int .i64 ((q : Int) + 1) ∧ Keep z1 V [(CB, 37, tab .i64 512 (both (codN cs xs) (codV cs xs))), (SB, 25, tbl cs (.slice ao xs.length cap))]) (fun u _ => xs.length - (intOf u).toNat)
        case atStart => exact ⟨0, by omega, rfl, kk⟩
        case round =>
          clear kk
          obtain ⟨q, hq, rfl, kk⟩ := hrel
          have c16 := (kk.get (b := SB) (t := 25) (c := tbl cs (.slice ao xs.length cap)) (by simp)).vals
          by_cases hlp : (q : Int) + 1 < (xs.length : Int)
          · have hok := HOK.out
            have h1 : q < xs.length := by omega
            have h2 : q + 1 < xs.length := by omega
            obtain ⟨v, hv1⟩ : ∃ v : Nat, xs[q] = (v : Int) := ⟨xs[q].toNat, by have := hbt _ (List.getElem_mem h1); omega⟩
            obtain ⟨u, hu1⟩ : ∃ u : Nat, xs[q + 1] = (u : Int) := ⟨xs[q + 1].toNat, by have := hbt _ (List.getElem_mem h2); omega⟩
            have v1 : v < 256 := by have := hbt _ (List.getElem_mem h1); omega
            have u1 : u < 256 := by have := hbt _ (List.getElem_mem h2); omega
            have v0 : (0 : Int) ≤ (v : Int) := by omega
            have u0 : (0 : Int) ≤ (u : Int) := by omega
            have v2 : (v : Int) < 256 := by omega
            have u2 : (u : Int) < 256 := by omega
            have q0 : (0 : Int) ≤ (q : Int) := by omega
            have q2 : (q : Int) < (xs.length : Int) := by omega
            have q3 : (0 : Int) ≤ (q : Int) + 1 := by omega
            obtain ⟨-, vb, off, hao, -, e1⟩ := (HVT.out.but kk.but).at q h1
            obtain ⟨-, vb', off', hao', -, e2⟩ := (HVT.out.but kk.but).at (q + 1) h2
            rw [hao] at hao'
            simp only [Option.some.injEq, Addr.mk.injEq, and_true] at hao'
            obtain ⟨rfl, rfl⟩ := hao'
            subst hao
            rw [hv1] at e1
            rw [hu1] at e2
            have k0 := kk.head.cell (v * 2) (by omega)
            have k1 := kk.head.cell (v * 2 + 1) (by omega)
            have k2 := kk.head.cell (u * 2) (by omega)
            have k3 := kk.head.cell (u * 2 + 1) (by omega)
            have m0 : both (codN cs xs) (codV cs xs) (v * 2) = ((lenP cs q : Nat) : Int) := by unfold both; rw [if_pos (by omega), show v * 2 / 2 = v by omega, (cod_of hok q h1 v hv1.symm).1]
            have m1 : both (codN cs xs) (codV cs xs) (v * 2 + 1) = numP cs q := by unfold both; rw [if_neg (by omega), show (v * 2 + 1) / 2 = v by omega, (cod_of hok q h1 v hv1.symm).2]
            have m2 : both (codN cs xs) (codV cs xs) (u * 2) = ((lenP cs (q + 1) : Nat) : Int) := by unfold both; rw [if_pos (by omega), show u * 2 / 2 = u by omega, (cod_of hok (q + 1) h2 u hu1.symm).1]
            have m3 : both (codN cs xs) (codV cs xs) (u * 2 + 1) = numP cs (q + 1) := by unfold both; rw [if_neg (by omega), show (u * 2 + 1) / 2 = u by omega, (cod_of hok (q + 1) h2 u hu1.symm).2]
            rw [m0] at k0
            rw [m1] at k1
            rw [m2] at k2
            rw [m3] at k3
            have hnx := p_next hok h2
            have b1 := p_in hok h1
            have b2 := p_in hok h2
            have b3 := pow_to (lenP cs q) b1.2.1
            have b4 := numP_small b1 b3
            have HOKX : Hid _ := And.intro hv1 hu1
            obtain ⟨L1, hL1⟩ : ∃ x : Nat, lenP cs q = x := ⟨_, rfl⟩
            obtain ⟨L2, hL2⟩ : ∃ x : Nat, lenP cs (q + 1) = x := ⟨_, rfl⟩
            obtain ⟨V1, hV1⟩ : ∃ x : Int, numP cs q = x := ⟨_, rfl⟩
            obtain ⟨V2, hV2⟩ : ∃ x : Int, numP cs (q + 1) = x := ⟨_, rfl⟩
            rw [hL1] at k0 hnx m0
            rw [hV1] at k1 hnx b4 m1
            rw [hL2] at k2 hnx m2
            rw [hV2] at k3 hnx m3
            have kA := kk.made 36 [.int .i64 (L1 : Int), .int .i64 V1]
            have HM : Hid _ := And.intro m2 m3
            have k2' := k2
            clear kk hok hv1 hu1 m0 m1 m2 m3 b1 b2 b3 hL1 hL2 hV1 hV2
            go_upto_region 15 with fail
            clear c16 e1 e2 k0 k1 k2 k3 k2'
            revert kA
            obtain ⟨AB, hAB⟩ : ∃ b, wr.heap.size = b := ⟨_, rfl⟩
            rw [hAB]
            clear hAB
            generalize wr.alloc (.cells #[.int .i64 (L1 : Int), .int .i64 V1] 36) = W5
            intro kA
            try simp only [Act.put]
            have c16 := (kA.get (b := SB) (t := 25) (c := tbl cs (.slice (some ⟨vb, off, none⟩) xs.length cap)) (by simp)).vals
            obtain ⟨-, vb', off', hao', -, e2⟩ := (HVT.out.but kA.but).at (q + 1) h2
            simp only [Option.some.injEq, Addr.mk.injEq, and_true] at hao'
            obtain ⟨rfl, rfl⟩ := hao'
            rw [HOKX.out.2] at e2
            have gC := kA.get (b := CB) (t := 37) (c := tab .i64 512 (both (codN cs xs) (codV cs xs))) (by simp)
            have k2 := gC.cell (u * 2) (by omega)
            have k3 := gC.cell (u * 2 + 1) (by omega)
            rw [HM.out.1] at k2
            rw [HM.out.2] at k3
            have kB := kA.made 36 [.int .i64 (L2 : Int), .int .i64 V2]
            clear kA gC
            go_upto_region 16 with fail
            clear c16 e2 k2 k3
            revert kB
            obtain ⟨BB, hBB⟩ : ∃ b, W5.heap.size = b := ⟨_, rfl⟩
            rw [hBB]
            clear hBB
            generalize W5.alloc (.cells #[.int .i64 (L2 : Int), .int .i64 V2] 36) = W6
            intro kB
            try simp only [Act.put]
            have a0 := (kB.get (b := AB) (t := 36) (c := [.int .i64 (L1 : Int), .int .i64 V1]) (by simp)).at 0
            have a1 := (kB.get (b := AB) (t := 36) (c := [.int .i64 (L1 : Int), .int .i64 V1]) (by simp)).at 1
            have d0 := kB.head.at 0
            have d1 := kB.head.at 1
            simp only [List.getElem?_cons_zero, List.getElem?_cons_succ] at a0 a1 d0 d1
            have HK : Hid _ := kB.drop.drop
            clear kB
            by_cases hll : L1 = L2
            · have hvv := hnx.2 hll
              subst hll
              rw [hvv] at d1
              clear hnx hvv
              go_wp2_with fail
              go_roundw
              case rel => exact ⟨q + 1, by omega, by go_num, HK.out⟩
              case measure => simp [intOf]; omega
            · have hlt : (L1 : Int) < (L2 : Int) := by have := hnx.1; omega
              have hb : ((L1 : Int) == (L2 : Int)) = false := by
                rw [beq_eq_false_iff_ne]
                omega
              clear hnx hll
              go_wp2_with fail
              go_roundw
              case rel => exact ⟨q + 1, by omega, by go_num, HK.out⟩
              case measure => simp [intOf]; omega
          · have HX : Hid _ := kk
            go_wp2_with fail
            clear c16
            refine (known_any HT_but specCheck specCodes specStandard _ (HT_but _ _ hTw (HB1.out.trans kk.but))).mono ?_
            rintro e z5 ⟨rfl, dd⟩
            replace kk := kk.step dd
            have c16 := (kk.get (b := SB) (t := 25) (c := tbl cs (.slice ao xs.length cap)) (by simp)).vals
            have HX : Hid _ := HB1.out.trans kk.but
            clear kk dd
            go_wp2_with fail
            go_ret
            exact ⟨rfl, HX.out⟩

set_option maxRecDepth 100000 in
theorem lifted (os : Os) (started : os.Started) (H : Type) (enc : TypeId × Value → H) :
    ReturnsInHanded {} Try.checked os 6 .any (Rows.huffRowSpec.pre6 enc Try.prog Try.f6 Rows.huffRowRow.domain false) (Rows.huffRowSpec.post enc Try.prog Try.f6 false true false false) := by
  refine returnsInHanded_of_change_sized (C := Try.checked) own started (by kernel_rfl) Try.func6
    (ChangeSpec.witness6 (enc := enc) (C := Try.checked) false ⟨#[], #[.slice none 0 0], []⟩ 8 (by kernel_rfl) (by kernel_rfl) (by kernel_rfl) (by kernel_rfl)) ?_
  intro W base args ds gs before hval0 hW hcnd hsz0 _
  have hval : ∀ (j : Nat) t v, Try.f6.params[j]? = some t → args[j]? = some v → Value.okWide Try.prog W .any base t v := hval0
  have hsz : (DataW.weightsEach Try.prog (Try.f6.params.toList ++ Rows.huffRowSpec.plain.varTypes Try.prog) (ds ++ gs)).all (· ≤ reachBytes) = true := hsz0
  have hW' := hW
  obtain ⟨p, q, hA0, hV, rfl, hfz, hnd⟩ := hW
  have hA : DataW.TrodAll enc Try.prog W 0 (fun _ => true) true Try.f6.params.toList args.toList ds p := hA0
  rw [Try.params6] at hA hval hsz
  obtain ⟨v0, vs0, d0, ds0, p0, q0, hargs, rfl, rfl, h0, r0⟩ := trodAll_cons hA
  obtain ⟨rfl, rfl, rfl⟩ := trodAll_nil r0
  obtain rfl : args = #[v0] := by cases args; simp_all
  obtain ⟨rfl, rfl⟩ := trodVars_none hV
  obtain ⟨l0, ⟨s0, x0⟩, e0⟩ := open_bytes (hval 0 23 v0 rfl rfl) h0
  have n0 := bytes_small hsz (j := 0) rfl rfl e0
  clear hA0 hval0
  refine (walk W v0 l0 s0 x0 n0).mono fun e W' ⟨he, hg⟩ => ?_
  subst he
  exact ⟨_, rfl, law_post laidOut readable rfl Try.underlying4 rfl rfl hW' hg.below⟩

theorem over : Rows.huffRowRow.holds Try.pinned (OpenSpec.ofChange Rows.huffRowSpec) :=
  OpenClaim.holds_of_wide 6 Try.f6 rfl rfl rfl rfl rfl rfl rfl ⟨rfl, rfl, rfl, rfl, rfl⟩ rfl rfl rfl rfl rfl (by kernel_rfl) Try.func6 (by kernel_rfl)
    (of_decide_eq_true (by kernel_rfl)) (by unfold Func.isWrapper; first | (rw [if_pos (by decide +kernel)]; kernel_rfl) | (rw [if_neg (by decide +kernel)]; exact ⟨rfl, rfl⟩))
    (fun os started H enc _ => lifted os started H enc)

theorem proved : Rows.HuffRowSaid :=
  over
end Go.Proofs.Ytadcfndjbhcfbaa.huffRow
namespace Go.Proofs.Ytadcfndjbhcfbaa
theorem huffRow_holds : Rows.HuffRowSaid := huffRow.proved
#print axioms huffRow_holds
end Go.Proofs.Ytadcfndjbhcfbaa
