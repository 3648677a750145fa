/- For every list of bytes and all bytes i and k, the law HuffRefuses of layer 10 returns true: Standard's tables are Checked; one with a value fewer, with a value twice, with a code of ones alone is not; one of a single code is. No condition. -/
import Derived.Test.YtadcfndjbhcfbaaHuSpec
import Derived.Test.YtadcfndjbhcfbaaHuLaw
import Derived.Test.YtadcfndjbhcfbaaHd11
import Derived.Test.YtadcfndjbhcfbaaHuTake
import Derived.Test.YtadcfndjbhcfbaaFrame
import Derived.Test.YtadcfndjbhcfbaaRows
namespace Go.Proofs.Ytadcfndjbhcfbaa.huffRefuses
open Go.ChangeShapes Go.WideShapes Go.ChangeAt Go.RowKit
set_option linter.unusedVariables false

theorem own : ownKnob Try.prog.godebug = none := by kernel_rfl
theorem laidOut : laidOutB Try.prog = true := by kernel_rfl
theorem readable : ∀ t ∈ Try.f8.params.toList, Try.prog.readableRec t = true ∧ t < Try.prog.types.size := by
  rw [Try.params8]
  simp only [List.mem_cons, List.not_mem_nil, or_false, forall_eq_or_imp, forall_eq]
  refine ⟨⟨by kernel_rfl, of_decide_eq_true (by kernel_rfl)⟩, ⟨by kernel_rfl, of_decide_eq_true (by kernel_rfl)⟩, ⟨by kernel_rfl, of_decide_eq_true (by kernel_rfl)⟩⟩

set_option maxHeartbeats 20000000 in
set_option maxRecDepth 100000 in
theorem walk (w : World) (v0 : Value) (l0 : List Int) (s0 : View w .u8 v0 l0) (x0 : ∀ x ∈ l0, 0 ≤ x ∧ x ≤ 255) (n0 : l0.length ≤ 140737488355328) (a1 : Int) (w1 : (Lit.int .u8 a1).wf = true) (a2 : Int) (w2 : (Lit.int .u8 a2).wf = true) :
    Calls Try.prog 8 #[v0, .int .u8 a1, .int .u8 a2] w fun e w' => e = .returned (.bool true) ∧ But Nowhere w w' := by
  have hTw : HT w := by first | exact hT | exact trivial
  have u1 := u8_in w1
  have u2 := u8_in w2
  have huT := Try.underlying25
  have hu16 := Try.underlying22
  have hiT : ∀ c pv, (Try.prog.info? 25).map (·.size) = some (tbl c pv).length := fun c pv => by rw [tbl_length]; kernel_rfl
  have kk := Keep.start w
  have t0 : a2.tmod 2 = a2 % 2 := Int.tmod_eq_emod_of_nonneg (by omega)
  have t1 : a2.tdiv 2 = a2 / 2 := Int.tdiv_eq_ediv_of_nonneg (by omega)
  have t2 : (a2 / 2).tmod 2 = a2 / 2 % 2 := Int.tmod_eq_emod_of_nonneg (by omega)
  have x0 : IntKind.u8.wrap (a2 % 2) = a2 % 2 := by rw [IntKind.wrap_u8]; omega
  have x1 : IntKind.u8.wrap (a2 / 2) = a2 / 2 := by rw [IntKind.wrap_u8]; omega
  have x2 : IntKind.u8.wrap (a2 / 2 % 2) = a2 / 2 % 2 := by rw [IntKind.wrap_u8]; omega
  have y0 : IntKind.i64.wrap (a2 % 2) = a2 % 2 := by rw [wrap_i64_eq]; exact w64 _ (by omega)
  have y1 : IntKind.i64.wrap (a2 / 2 % 2) = a2 / 2 % 2 := by rw [wrap_i64_eq]; exact w64 _ (by omega)
  go_enter Try.func8, Try.ntmps8
  go_wp2_with fail
  refine (standard_full _ _ _).mono ?_
  rintro e z1 ⟨g, rfl, hg, dd⟩
  replace kk := kk.step dd
  clear dd t0 t1 t2 x0 x1 x2 y0 y1
  have hI := stdIx_lt (a2 % 2) (a2 / 2 % 2)
  revert hI
  revert hg
  generalize stdIx (a2 % 2) (a2 / 2 % 2) = i9
  intro hg hI
  have HB1 : Hid (But Nowhere w z1) := kk.but
  have HG1 : Hid (Cells z1 g 5 (ints .u8 (stdL i9))) := hg
  have HIT : Hid _ := stdc_i64 i9 hI
  have HBY : Hid _ := std_byte i9 hI
  have HTL : Hid (checkB (stdc i9) ((stdL i9).drop 1) = false) := std_tail i9 hI
  have HCK : Hid (checkB (stdc i9) (stdL i9) = true) := std_check i9 hI
  have hmin := std_min i9 hI
  have hmax := (stdL_length i9 hI).1
  have hN := stdN_len i9 hI
  unfold slJ
  rw [hN]
  clear kk hg hN hI
  revert HG1 HIT HBY HTL HCK hmin hmax
  generalize stdc i9 = c9
  generalize stdL i9 = l9
  obtain ⟨n9, hn9⟩ : ∃ n, l9.length = n := ⟨_, rfl⟩
  rw [hn9]
  have HN9 : Hid (l9.length = n9) := hn9
  clear hn9
  intro HG1 HIT HBY HTL HCK hmin hmax
  have kk := Keep.start z1
  replace kk := kk.made 25 (Value.int .i64 0 :: Value.int .i64 0 :: Value.int .i64 0 :: Value.int .i64 0 :: Value.int .i64 0 :: Value.int .i64 0 :: Value.int .i64 0 :: Value.int .i64 0 :: Value.int .i64 0 :: Value.int .i64 0 :: Value.int .i64 0 :: Value.int .i64 0 :: Value.int .i64 0 :: Value.int .i64 0 :: Value.int .i64 0 :: Value.int .i64 0 :: Value.slice none 0 0 :: [])
  have hth := kk.head.there 0 (tbl c9 (.slice (some ⟨g, 0, none⟩) n9 n9)).toArray.size (by simp [tbl_length])
  replace kk := kk.laid_any (tbl c9 (.slice (some ⟨g, 0, none⟩) n9 n9)) (by rw [tbl_length]; rfl)
  have HX : Hid _ := kk
  clear kk
  have hal : (tbl c9 (.slice (some ⟨g, 0, none⟩) n9 n9)).toArray.all (·.oneCell') = true := tbl_all _ _ _ _
  have hi2 : (Try.prog.info? 25).map (·.size) = some (tbl c9 (.slice (some ⟨g, 0, none⟩) n9 n9)).toArray.size := by rw [List.size_toArray, tbl_length]; kernel_rfl
  go_upto_region 2 with (refine wpList_store_mid rfl 25 (.tmp 7) (.tmp 21) rfl z1.heap.size 0 (tbl c9 (.slice (some ⟨g, 0, none⟩) n9 n9)).toArray rfl rfl ?_ hi2 hal ?_; exact hth)
  have kk := HX.out
  clear HX hth hal hi2
  revert kk
  obtain ⟨SB, hSB⟩ : ∃ b, z1.heap.size = b := ⟨_, rfl⟩
  rw [hSB]
  clear hSB
  generalize (z1.alloc (.cells (Value.int .i64 0 :: Value.int .i64 0 :: Value.int .i64 0 :: Value.int .i64 0 :: Value.int .i64 0 :: Value.int .i64 0 :: Value.int .i64 0 :: Value.int .i64 0 :: Value.int .i64 0 :: Value.int .i64 0 :: Value.int .i64 0 :: Value.int .i64 0 :: Value.int .i64 0 :: Value.int .i64 0 :: Value.int .i64 0 :: Value.int .i64 0 :: Value.slice none 0 0 :: []).toArray 25)).setCells SB 0 (tbl c9 (.slice (some ⟨g, 0, none⟩) n9 n9)) = WSB
  intro kk
  try simp only [Act.put]
  have c16 := kk.head.vals
  have m0 : ¬ ((n9 : Int) < 12) := by omega
  go_wp2_with fail
  have HB0 : Hid (Cells WSB SB 25 (tbl c9 (.slice (some ⟨g, 0, none⟩) n9 n9))) := kk.head
  have HG : Hid (Cells WSB g 5 (ints .u8 l9)) := HG1.out.but kk.but (not_nowhere _)
  have HBW : Hid (But Nowhere w WSB) := HB1.out.trans kk.but
  have hgS : g ≠ SB := HG.out.ne HB0.out (by decide)
  clear HG1 HB1 c16 kk
  have kk := (Keep.start WSB).drew
  have hi16 : (Try.prog.info? 22).map (·.size) = some (tab .i64 16 c9).length := by rw [tab_length]; kernel_rfl
  have hst := fun V => slice_tail g n9 (by omega) V
  have hb2 := fun V => build_two c9 (some ⟨g, 1, none⟩) (n9 - 1) (n9 - 1) V
  refine wp_region_till (S := fun V => V.rangeAt SB 0 (tab .i64 16 c9) ∧ V.cell? ⟨SB, 16, none⟩ = some (.slice (some ⟨g, 0, none⟩) n9 n9)) (R := fun _ => True) (k := 100) (m := 100) (by kernel_rfl) ⟨tbl_range (HB0.out.but kk.but (not_nowhere _)), (HB0.out.but kk.but (not_nowhere _)).vals⟩ trivial ?_
  revert kk
  generalize WSB.drew = WG
  intro kk
  have hzX : WG.heap.size = WG.heap.size := rfl
  (refine Walk.take (i := 0) (oi := { dst := some 26, op := Op.fieldAddr 25 (Operand.tmp 7) 0, type := 0, pos := "more.go:30", after := #[], guard := none }) (v := ?_) rfl (by kernel_rfl) (by kernel_rfl) (by kernel_rfl) (by kernel_rfl) (fun _ _ _ h => h) (Or.inl ⟨by rfl, ?_⟩) ?_; rotate_left; (intro w hw; clear hw; (try go_split_ands); go_simp; try (with_reducible rfl)); simp only [Act.put, List.setIfInBounds_toArray, List.set_cons_zero, List.set_cons_succ])
  (refine Walk.take (i := 1) (oi := { dst := some 27, op := Op.load 22 (Operand.tmp 26), type := 22, pos := "more.go:30", after := #[{ on := 0, ground := Ground.data }], guard := none }) (v := .agg (tab .i64 16 c9).toArray) rfl (by kernel_rfl) (by kernel_rfl) (by kernel_rfl) (by kernel_rfl) (fun _ _ _ h => h) (yieldsIf_load_mid rfl 22 (.tmp 26) rfl (SB) 0 rfl (tab .i64 16 c9) _ (fun w hw => (hw.1 (by kernel_rfl)).1) hu16 rfl (hi16)) ?_; simp only [Act.put, List.setIfInBounds_toArray, List.set_cons_zero, List.set_cons_succ])
  (refine Walk.take (i := 2) (oi := { dst := some 28, op := Op.fieldAddr 25 (Operand.tmp 7) 1, type := 0, pos := "more.go:30", after := #[], guard := none }) (v := ?_) rfl (by kernel_rfl) (by kernel_rfl) (by kernel_rfl) (by kernel_rfl) (fun _ _ _ h => h) (Or.inl ⟨by rfl, ?_⟩) ?_; rotate_left; (intro w hw; clear hw; (try go_split_ands); go_simp; try (with_reducible rfl)); simp only [Act.put, List.setIfInBounds_toArray, List.set_cons_zero, List.set_cons_succ])
  (refine Walk.take (i := 3) (oi := { dst := some 29, op := Op.load 23 (Operand.tmp 28), type := 23, pos := "more.go:30", after := #[{ on := 2, ground := Ground.data }], guard := none }) (v := ?_) rfl (by kernel_rfl) (by kernel_rfl) (by kernel_rfl) (by kernel_rfl) (fun _ _ _ h => h) (Or.inl ⟨by rfl, ?_⟩) ?_; rotate_left; (intro w hw; have hS1 := hw.1 (by kernel_rfl); clear hw; (try dsimp only at hS1); (try go_split_ands); go_simp; try (with_reducible rfl)); simp only [Act.put, List.setIfInBounds_toArray, List.set_cons_zero, List.set_cons_succ])
  (refine Walk.take (i := 4) (oi := { dst := some 30, op := Op.slice 23 (Operand.tmp 29) (some (Operand.const (Value.int IntKind.i64 1))) none none, type := 23, pos := "more.go:30", after := #[{ on := 3, ground := Ground.data }], guard := none }) (v := ?_) rfl (by kernel_rfl) (by kernel_rfl) (by kernel_rfl) (by kernel_rfl) (fun _ _ _ h => h) (Or.inl ⟨by rfl, ?_⟩) ?_; rotate_left; (intro w hw; clear hw; (try go_split_ands); go_simp; try (with_reducible rfl)); simp only [Act.put, List.setIfInBounds_toArray, List.set_cons_zero, List.set_cons_succ])
  (refine Walk.take (i := 5) (oi := { dst := some 31, op := Op.build 25 #[(0, Operand.tmp 27), (1, Operand.tmp 30)], type := 25, pos := "more.go:30", after := #[{ on := 1, ground := Ground.data }, { on := 4, ground := Ground.data }], guard := none }) (v := .agg (tbl c9 (.slice (some ⟨g, 1, none⟩) (n9 - 1) (n9 - 1))).toArray) rfl (by kernel_rfl) (by kernel_rfl) (by kernel_rfl) (by kernel_rfl) (fun _ _ _ h => h) (Or.inl ⟨by rfl, fun w hw => exec_two rfl rfl rfl (hb2 w)⟩) ?_; simp only [Act.put, List.setIfInBounds_toArray, List.set_cons_zero, List.set_cons_succ])
  (refine Walk.go (i := 6) (o := { dst := some 8, op := Op.alloc 25, type := 0, pos := "more.go:30", after := #[], guard := none }) (by kernel_rfl) rfl (fun K hK => ?_); go_simp; (replace kk := kk.made 25 (Value.int .i64 0 :: Value.int .i64 0 :: Value.int .i64 0 :: Value.int .i64 0 :: Value.int .i64 0 :: Value.int .i64 0 :: Value.int .i64 0 :: Value.int .i64 0 :: Value.int .i64 0 :: Value.int .i64 0 :: Value.int .i64 0 :: Value.int .i64 0 :: Value.int .i64 0 :: Value.int .i64 0 :: Value.int .i64 0 :: Value.int .i64 0 :: Value.slice none 0 0 :: [])); refine hK.out _ _ (⟨fun _ => ⟨tbl_range (HB0.out.but kk.but (not_nowhere _)), (HB0.out.but kk.but (not_nowhere _)).vals⟩, fun _ => trivial⟩) ?_; clear hK K; try simp only [Act.put, List.setIfInBounds_toArray, List.set_cons_zero, List.set_cons_succ])
  (refine Walk.go (i := 7) (o := { dst := none, op := Op.store 25 (Operand.tmp 8) (Operand.tmp 31), type := 0, pos := "more.go:30", after := #[{ on := 6, ground := Ground.data }, { on := 5, ground := Ground.data }, { on := 0, ground := Ground.phase }, { on := 1, ground := Ground.phase }, { on := 2, ground := Ground.phase }, { on := 3, ground := Ground.phase }, { on := 4, ground := Ground.phase }, { on := 5, ground := Ground.phase }, { on := 6, ground := Ground.phase }], guard := none }) (by kernel_rfl) rfl (fun K hK => ?_); refine wp_store_mid 25 (.tmp 8) (.tmp 31) rfl _ 0 (tbl c9 (.slice (some ⟨g, 1, none⟩) (n9 - 1) (n9 - 1))).toArray rfl rfl (kk.head.there 0 _ (by simp [tbl_length])) (by rw [List.size_toArray, tbl_length]; kernel_rfl) (tbl_all _ _ _ _) ?_; (replace kk := kk.laid_any (tbl c9 (.slice (some ⟨g, 1, none⟩) (n9 - 1) (n9 - 1))) (by rw [tbl_length]; rfl)); refine hK.out _ _ (⟨fun _ => ⟨tbl_range (HB0.out.but kk.but (not_nowhere _)), (HB0.out.but kk.but (not_nowhere _)).vals⟩, fun _ => trivial⟩) ?_; clear hK K; try simp only [Act.put])
  refine Walk.done (by kernel_rfl) ?_ _
  clear hst hb2
  revert kk
  obtain ⟨XB, hXB⟩ : ∃ b, WG.heap.size = b := ⟨_, rfl⟩
  rw [hXB]
  clear hXB
  generalize (WG.alloc (.cells (Value.int .i64 0 :: Value.int .i64 0 :: Value.int .i64 0 :: Value.int .i64 0 :: Value.int .i64 0 :: Value.int .i64 0 :: Value.int .i64 0 :: Value.int .i64 0 :: Value.int .i64 0 :: Value.int .i64 0 :: Value.int .i64 0 :: Value.int .i64 0 :: Value.int .i64 0 :: Value.int .i64 0 :: Value.int .i64 0 :: Value.int .i64 0 :: Value.slice none 0 0 :: []).toArray 25)).setCells XB 0 (tbl c9 (.slice (some ⟨g, 1, none⟩) (n9 - 1) (n9 - 1))) = WX
  intro kk
  have hr := tbl_range (HB0.out.but kk.but (not_nowhere _))
  replace kk := kk.made 25 (Value.int .i64 0 :: Value.int .i64 0 :: Value.int .i64 0 :: Value.int .i64 0 :: Value.int .i64 0 :: Value.int .i64 0 :: Value.int .i64 0 :: Value.int .i64 0 :: Value.int .i64 0 :: Value.int .i64 0 :: Value.int .i64 0 :: Value.int .i64 0 :: Value.int .i64 0 :: Value.int .i64 0 :: Value.int .i64 0 :: Value.int .i64 0 :: Value.slice none 0 0 :: [])
  have hth := kk.head.there 0 (tbl c9 (.slice none 0 0)).toArray.size (by simp [tbl_length])
  replace kk := kk.laid_any (tbl c9 (.slice none 0 0)) (by rw [tbl_length]; rfl)
  have hi2 : (Try.prog.info? 25).map (·.size) = some (tbl c9 (.slice none 0 0)).toArray.size := by rw [List.size_toArray, tbl_length]; kernel_rfl
  have HX : Hid _ := kk
  clear kk
  go_upto_region 5 with fail
  go_step
  go_step
  go_simp
  go_step
  refine wpList_load_mid rfl 22 (.tmp 32) rfl SB 0 rfl (tab .i64 16 c9) _ ?_ hu16 rfl hi16 ?_
  · exact hr
  try simp only [Act.put]
  refine wpList_value rfl (exec_one rfl rfl (build_counts c9 _)) ?_
  go_step
  go_simp
  go_step
  refine wpList_store_mid rfl 25 (.tmp 9) (.tmp 34) rfl WX.heap.size 0 (tbl c9 (.slice none 0 0)).toArray rfl rfl ?_ hi2 (tbl_all _ _ _ _) ?_
  · exact hth
  try simp only [Act.put]
  go_upto_region 6 with fail
  have kk := HX.out
  clear HX hth hi2 hr
  revert kk
  obtain ⟨YB, hYB⟩ : ∃ b, WX.heap.size = b := ⟨_, rfl⟩
  rw [hYB]
  clear hYB
  generalize (WX.alloc (.cells (Value.int .i64 0 :: Value.int .i64 0 :: Value.int .i64 0 :: Value.int .i64 0 :: Value.int .i64 0 :: Value.int .i64 0 :: Value.int .i64 0 :: Value.int .i64 0 :: Value.int .i64 0 :: Value.int .i64 0 :: Value.int .i64 0 :: Value.int .i64 0 :: Value.int .i64 0 :: Value.int .i64 0 :: Value.int .i64 0 :: Value.int .i64 0 :: Value.slice none 0 0 :: []).toArray 25)).setCells YB 0 (tbl c9 (.slice none 0 0)) = WY
  intro kk
  try simp only [Act.put]
  obtain ⟨hb, cap, W4, hrun, L4, b4, hg4⟩ := Lst.moreB (Lst.start WY 5 1) ⟨g, 0, none⟩ n9 n9 (ints .u8 l9) (by rw [ints_length, HN9.out]) (fun j u hj => by
    have := (HG.out.but kk.but (not_nowhere _)).at j
    rw [hj] at this
    rw [Addr.add_lit]
    simpa using this) (ints_one _ _) (by omega) (by omega)
  rw [Nat.zero_add] at hrun L4
  rw [List.nil_append] at L4
  have HRUN : Hid _ := hrun
  have b4' : But Nowhere WY W4 := b4.mono (fun k _ q => by simp [Value.ownBlock] at q)
  obtain ⟨hb', cap', cur, ecur, hnew, hcap, hcur, hcells⟩ := L4.block (by omega) HN9.out
  simp only [Value.slice.injEq, Option.some.injEq, Addr.mk.injEq, and_true] at ecur
  obtain ⟨rfl, -, rfl⟩ := ecur
  have y16 := kk.head.vals
  have t16 := (HB0.out.but kk.but (not_nowhere _)).vals
  have k4 := kk.step b4'
  have y17 := k4.head.vals
  have f17 := k4.head.frozen 16
  have k5 := (k4.add hcur (Nat.le_trans kk.but.size hnew) (fun x hx => by
    rcases List.mem_cons.1 hx with rfl | hx
    · exact hcur.ne k4.head (by decide)
    · rcases List.mem_cons.1 hx with rfl | hx
      · exact hcur.ne (k4.get (b := XB) (t := 25) (c := tbl c9 (.slice (some ⟨g, 1, none⟩) (n9 - 1) (n9 - 1))) (by simp)) (by decide)
      · simp at hx)).swap.set 16 (.slice (some ⟨hb, 0, none⟩) n9 cap)
  rw [tbl_setV] at k5
  replace k5 := k5.swap
  have HK : Hid _ := k5
  clear kk k4 k5 hrun b4 b4' hg4 L4
  go_wp2_with (refine wpList_append_run rfl (.tmp 36) (.tmp 38) 23 rfl (.slice none 0 0) (.slice (some ⟨g, 0, none⟩) n9 n9) rfl rfl (.slice (some ⟨hb, 0, none⟩) n9 cap) W4 HRUN.out ?_)
  have kk := HK.out
  clear HK HRUN y16 t16 y17 f17
  revert kk
  generalize W4.setCell ⟨YB, 16, none⟩ (.slice (some ⟨hb, 0, none⟩) n9 cap) = W5
  intro kk
  obtain ⟨A, hA⟩ : ∃ A : Nat, a1 = (A : Int) := ⟨a1.toNat, by omega⟩
  obtain ⟨p, hp⟩ : ∃ p, A % n9 = p := ⟨_, rfl⟩
  obtain ⟨q, hq⟩ : ∃ p, (A + 1) % n9 = p := ⟨_, rfl⟩
  have hpq : p ≠ q := by rw [← hp, ← hq]; exact next_mod A n9 (by omega)
  have hpl : p < n9 := by rw [← hp]; exact Nat.mod_lt _ (by omega)
  have hql : q < n9 := by rw [← hq]; exact Nat.mod_lt _ (by omega)
  have e1 : a1.tmod (n9 : Int) = (p : Int) := by rw [hA, Int.tmod_eq_emod_of_nonneg (by omega), ← hp]; rfl
  have e2 : (a1 + 1).tmod (n9 : Int) = (q : Int) := by rw [hA, Int.tmod_eq_emod_of_nonneg (by omega), ← hq]; rfl
  have e3 : IntKind.i64.wrap a1 = a1 := by rw [wrap_i64_eq]; exact w64 _ (by omega)
  have e4 : IntKind.i64.wrap (a1 + 1) = a1 + 1 := by rw [wrap_i64_eq]; exact w64 _ (by omega)
  have e5 : IntKind.i64.wrap (p : Int) = p := by rw [wrap_i64_eq]; exact w64 _ (by omega)
  have e6 : IntKind.i64.wrap (q : Int) = q := by rw [wrap_i64_eq]; exact w64 _ (by omega)
  have hn0 : ¬ ((n9 : Int) = 0) := by omega
  have hnz : ((n9 : Int) == 0) = false := by rw [beq_eq_false_iff_ne]; exact hn0
  have p0 : (0 : Int) ≤ (p : Int) := by omega
  have p1 : (p : Int) < (n9 : Int) := by omega
  have q0 : (0 : Int) ≤ (q : Int) := by omega
  have q1 : (q : Int) < (n9 : Int) := by omega
  have hpl2 : p < l9.length := by rw [HN9.out]; exact hpl
  have hql2 : q < l9.length := by rw [HN9.out]; exact hql
  have HTW : Hid (checkB c9 (l9.set p l9[q]) = false) := twice_not hpl2 hql2 hpq
  have cP := (kk.head.at p).trans (hcells p hpl2)
  have cQ := (kk.head.at q).trans (hcells q hql2)
  have fP := kk.head.frozen p
  have cY := (kk.get (b := YB) (t := 25) (c := tbl c9 (.slice (some ⟨hb, 0, none⟩) n9 cap)) (by simp)).vals
  have HC2 : Hid (∀ i (hi : i < (l9.set p l9[q]).length), (cur.set p (.int .u8 l9[q]))[i]? = some (.int .u8 (l9.set p l9[q])[i])) := fun i hi => by
    have hil : i < l9.length := by simpa using hi
    rw [List.getElem_set]
    by_cases e : p = i
    · subst e
      rw [if_pos rfl, List.getElem?_set_self (by have := hcells p hpl2; exact (List.getElem?_eq_some_iff.1 this).1)]
    · rw [if_neg e, List.getElem?_set_ne e]
      exact hcells i hil
  have HBX : Hid (∀ x ∈ l9.set p l9[q], 0 ≤ x ∧ x ≤ 255) := fun x hx => by
    rcases List.mem_or_eq_of_mem_set hx with h | h
    · exact HBY.out x h
    · rw [h]; exact HBY.out _ (List.getElem_mem hql2)
  have HLY : Hid ((l9.set p l9[q]).length = n9) := by
    show (l9.set p l9[q]).length = n9
    rw [List.length_set]
    exact HN9.out
  revert HTW HC2 HBX HLY cQ
  obtain ⟨x, hx⟩ : ∃ x, l9[q] = x := ⟨_, rfl⟩
  rw [hx]
  generalize l9.set p x = ys
  intro HTW cQ HC2 HBX HLY
  obtain ⟨y, hy⟩ : ∃ y, l9[p] = y := ⟨_, rfl⟩
  rw [hy] at cP
  have HK : Hid _ := kk.set p (.int .u8 x)
  clear kk hp hq hA hpq hcells hx hy
  refine wp_region_till (S := fun V => V.cell? ⟨YB, 16, none⟩ = some (.slice (some ⟨hb, 0, none⟩) n9 cap) ∧ V.cell? ⟨hb, q, none⟩ = some (.int .u8 x)) (R := fun _ => True) (k := 20) (m := 100) (by kernel_rfl) ⟨cY, cQ⟩ trivial ?_
  (refine Walk.take (i := 0) (oi := { dst := some 41, op := Op.fieldAddr 25 (Operand.tmp 9) 1, type := 0, pos := "more.go:33", after := #[], guard := none }) (v := ?_) rfl (by kernel_rfl) (by kernel_rfl) (by kernel_rfl) (by kernel_rfl) (fun _ _ _ h => h) (Or.inl ⟨by rfl, ?_⟩) ?_; rotate_left; (intro w hw; clear hw; (try go_split_ands); go_simp; try (with_reducible rfl)); simp only [Act.put, List.setIfInBounds_toArray, List.set_cons_zero, List.set_cons_succ])
  (refine Walk.take (i := 1) (oi := { dst := some 42, op := Op.load 23 (Operand.tmp 41), type := 23, pos := "more.go:33", after := #[{ on := 0, ground := Ground.data }], guard := none }) (v := ?_) rfl (by kernel_rfl) (by kernel_rfl) (by kernel_rfl) (by kernel_rfl) (fun _ _ _ h => h) (Or.inl ⟨by rfl, ?_⟩) ?_; rotate_left; (intro w hw; have hS1 := hw.1 (by kernel_rfl); clear hw; (try dsimp only at hS1); (try go_split_ands); go_simp; try (with_reducible rfl)); simp only [Act.put, List.setIfInBounds_toArray, List.set_cons_zero, List.set_cons_succ])
  (refine Walk.take (i := 2) (oi := { dst := some 43, op := Op.move (Operand.tmp 1), type := 5, pos := "more.go:33", after := #[], guard := none }) (v := ?_) rfl (by kernel_rfl) (by kernel_rfl) (by kernel_rfl) (by kernel_rfl) (fun _ _ _ h => h) (Or.inl ⟨by rfl, ?_⟩) ?_; rotate_left; (intro w hw; clear hw; (try go_split_ands); go_simp; try (with_reducible rfl)); simp only [Act.put, List.setIfInBounds_toArray, List.set_cons_zero, List.set_cons_succ])
  (refine Walk.take (i := 3) (oi := { dst := some 44, op := Op.convert 5 3 (Operand.tmp 43), type := 3, pos := "more.go:33", after := #[{ on := 2, ground := Ground.data }], guard := none }) (v := ?_) rfl (by kernel_rfl) (by kernel_rfl) (by kernel_rfl) (by kernel_rfl) (fun _ _ _ h => h) (Or.inl ⟨by rfl, ?_⟩) ?_; rotate_left; (intro w hw; clear hw; (try go_split_ands); go_simp; try (with_reducible rfl)); simp only [Act.put, List.setIfInBounds_toArray, List.set_cons_zero, List.set_cons_succ])
  (refine Walk.take (i := 4) (oi := { dst := some 45, op := Op.fieldAddr 25 (Operand.tmp 9) 1, type := 0, pos := "more.go:33", after := #[], guard := none }) (v := ?_) rfl (by kernel_rfl) (by kernel_rfl) (by kernel_rfl) (by kernel_rfl) (fun _ _ _ h => h) (Or.inl ⟨by rfl, ?_⟩) ?_; rotate_left; (intro w hw; clear hw; (try go_split_ands); go_simp; try (with_reducible rfl)); simp only [Act.put, List.setIfInBounds_toArray, List.set_cons_zero, List.set_cons_succ])
  (refine Walk.take (i := 5) (oi := { dst := some 46, op := Op.load 23 (Operand.tmp 45), type := 23, pos := "more.go:33", after := #[{ on := 4, ground := Ground.data }], guard := none }) (v := ?_) rfl (by kernel_rfl) (by kernel_rfl) (by kernel_rfl) (by kernel_rfl) (fun _ _ _ h => h) (Or.inl ⟨by rfl, ?_⟩) ?_; rotate_left; (intro w hw; have hS1 := hw.1 (by kernel_rfl); clear hw; (try dsimp only at hS1); (try go_split_ands); go_simp; try (with_reducible rfl)); simp only [Act.put, List.setIfInBounds_toArray, List.set_cons_zero, List.set_cons_succ])
  (refine Walk.take (i := 6) (oi := { dst := some 47, op := Op.call { callee := Callee.builtin Builtin.len, args := #[Operand.tmp 46], argTypes := #[23] }, type := 3, pos := "more.go:33", after := #[{ on := 5, ground := Ground.data }], guard := none }) (v := ?_) rfl (by kernel_rfl) (by kernel_rfl) (by kernel_rfl) (by kernel_rfl) (fun _ _ _ h => h) (Or.inl ⟨by rfl, ?_⟩) ?_; rotate_left; (intro w hw; clear hw; (try go_split_ands); go_simp; try (with_reducible rfl)); simp only [Act.put, List.setIfInBounds_toArray, List.set_cons_zero, List.set_cons_succ])
  (refine Walk.take (i := 7) (oi := { dst := some 48, op := Op.binOp BinOp.rem 3 (Operand.tmp 44) (Operand.tmp 47) 3, type := 3, pos := "more.go:33", after := #[{ on := 3, ground := Ground.data }, { on := 6, ground := Ground.data }], guard := none }) (v := .int .i64 (p : Int)) rfl (by kernel_rfl) (by kernel_rfl) (by kernel_rfl) (by kernel_rfl) (fun _ _ _ h => h) (Or.inl ⟨by rfl, fun w hw => e1 ▸ exec_rem rfl rfl rfl hn0⟩) ?_; simp only [Act.put, List.setIfInBounds_toArray, List.set_cons_zero, List.set_cons_succ])
  (refine Walk.take (i := 8) (oi := { dst := some 49, op := Op.fieldAddr 25 (Operand.tmp 9) 1, type := 0, pos := "more.go:33", after := #[], guard := none }) (v := ?_) rfl (by kernel_rfl) (by kernel_rfl) (by kernel_rfl) (by kernel_rfl) (fun _ _ _ h => h) (Or.inl ⟨by rfl, ?_⟩) ?_; rotate_left; (intro w hw; clear hw; (try go_split_ands); go_simp; try (with_reducible rfl)); simp only [Act.put, List.setIfInBounds_toArray, List.set_cons_zero, List.set_cons_succ])
  (refine Walk.take (i := 9) (oi := { dst := some 50, op := Op.load 23 (Operand.tmp 49), type := 23, pos := "more.go:33", after := #[{ on := 8, ground := Ground.data }], guard := none }) (v := ?_) rfl (by kernel_rfl) (by kernel_rfl) (by kernel_rfl) (by kernel_rfl) (fun _ _ _ h => h) (Or.inl ⟨by rfl, ?_⟩) ?_; rotate_left; (intro w hw; have hS1 := hw.1 (by kernel_rfl); clear hw; (try dsimp only at hS1); (try go_split_ands); go_simp; try (with_reducible rfl)); simp only [Act.put, List.setIfInBounds_toArray, List.set_cons_zero, List.set_cons_succ])
  (refine Walk.take (i := 10) (oi := { dst := some 51, op := Op.move (Operand.tmp 1), type := 5, pos := "more.go:33", after := #[], guard := none }) (v := ?_) rfl (by kernel_rfl) (by kernel_rfl) (by kernel_rfl) (by kernel_rfl) (fun _ _ _ h => h) (Or.inl ⟨by rfl, ?_⟩) ?_; rotate_left; (intro w hw; clear hw; (try go_split_ands); go_simp; try (with_reducible rfl)); simp only [Act.put, List.setIfInBounds_toArray, List.set_cons_zero, List.set_cons_succ])
  (refine Walk.take (i := 11) (oi := { dst := some 52, op := Op.convert 5 3 (Operand.tmp 51), type := 3, pos := "more.go:33", after := #[{ on := 10, ground := Ground.data }], guard := none }) (v := ?_) rfl (by kernel_rfl) (by kernel_rfl) (by kernel_rfl) (by kernel_rfl) (fun _ _ _ h => h) (Or.inl ⟨by rfl, ?_⟩) ?_; rotate_left; (intro w hw; clear hw; (try go_split_ands); go_simp; try (with_reducible rfl)); simp only [Act.put, List.setIfInBounds_toArray, List.set_cons_zero, List.set_cons_succ])
  (refine Walk.take (i := 12) (oi := { dst := some 53, op := Op.binOp BinOp.add 3 (Operand.tmp 52) (Operand.const (Value.int IntKind.i64 1)) 3, type := 3, pos := "more.go:33", after := #[{ on := 11, ground := Ground.data }], guard := none }) (v := ?_) rfl (by kernel_rfl) (by kernel_rfl) (by kernel_rfl) (by kernel_rfl) (fun _ _ _ h => h) (Or.inl ⟨by rfl, ?_⟩) ?_; rotate_left; (intro w hw; clear hw; (try go_split_ands); go_simp; try (with_reducible rfl)); simp only [Act.put, List.setIfInBounds_toArray, List.set_cons_zero, List.set_cons_succ])
  (refine Walk.take (i := 13) (oi := { dst := some 54, op := Op.fieldAddr 25 (Operand.tmp 9) 1, type := 0, pos := "more.go:33", after := #[], guard := none }) (v := ?_) rfl (by kernel_rfl) (by kernel_rfl) (by kernel_rfl) (by kernel_rfl) (fun _ _ _ h => h) (Or.inl ⟨by rfl, ?_⟩) ?_; rotate_left; (intro w hw; clear hw; (try go_split_ands); go_simp; try (with_reducible rfl)); simp only [Act.put, List.setIfInBounds_toArray, List.set_cons_zero, List.set_cons_succ])
  (refine Walk.take (i := 14) (oi := { dst := some 55, op := Op.load 23 (Operand.tmp 54), type := 23, pos := "more.go:33", after := #[{ on := 13, ground := Ground.data }], guard := none }) (v := ?_) rfl (by kernel_rfl) (by kernel_rfl) (by kernel_rfl) (by kernel_rfl) (fun _ _ _ h => h) (Or.inl ⟨by rfl, ?_⟩) ?_; rotate_left; (intro w hw; have hS1 := hw.1 (by kernel_rfl); clear hw; (try dsimp only at hS1); (try go_split_ands); go_simp; try (with_reducible rfl)); simp only [Act.put, List.setIfInBounds_toArray, List.set_cons_zero, List.set_cons_succ])
  (refine Walk.take (i := 15) (oi := { dst := some 56, op := Op.call { callee := Callee.builtin Builtin.len, args := #[Operand.tmp 55], argTypes := #[23] }, type := 3, pos := "more.go:33", after := #[{ on := 14, ground := Ground.data }], guard := none }) (v := ?_) rfl (by kernel_rfl) (by kernel_rfl) (by kernel_rfl) (by kernel_rfl) (fun _ _ _ h => h) (Or.inl ⟨by rfl, ?_⟩) ?_; rotate_left; (intro w hw; clear hw; (try go_split_ands); go_simp; try (with_reducible rfl)); simp only [Act.put, List.setIfInBounds_toArray, List.set_cons_zero, List.set_cons_succ])
  (refine Walk.take (i := 16) (oi := { dst := some 57, op := Op.binOp BinOp.rem 3 (Operand.tmp 53) (Operand.tmp 56) 3, type := 3, pos := "more.go:33", after := #[{ on := 12, ground := Ground.data }, { on := 15, ground := Ground.data }], guard := none }) (v := .int .i64 (q : Int)) rfl (by kernel_rfl) (by kernel_rfl) (by kernel_rfl) (by kernel_rfl) (fun _ _ _ h => h) (Or.inl ⟨by rfl, fun w hw => e2 ▸ exec_rem rfl rfl rfl hn0⟩) ?_; simp only [Act.put, List.setIfInBounds_toArray, List.set_cons_zero, List.set_cons_succ])
  (refine Walk.take (i := 17) (oi := { dst := some 58, op := Op.indexAddr 23 (Operand.tmp 50) (Operand.tmp 57), type := 0, pos := "more.go:33", after := #[{ on := 9, ground := Ground.data }, { on := 16, ground := Ground.data }], guard := none }) (v := ?_) rfl (by kernel_rfl) (by kernel_rfl) (by kernel_rfl) (by kernel_rfl) (fun _ _ _ h => h) (Or.inl ⟨by rfl, ?_⟩) ?_; rotate_left; (intro w hw; clear hw; (try go_split_ands); go_simp; try (with_reducible rfl)); simp only [Act.put, List.setIfInBounds_toArray, List.set_cons_zero, List.set_cons_succ])
  (refine Walk.take (i := 18) (oi := { dst := some 59, op := Op.load 5 (Operand.tmp 58), type := 5, pos := "more.go:33", after := #[{ on := 17, ground := Ground.data }], guard := none }) (v := ?_) rfl (by kernel_rfl) (by kernel_rfl) (by kernel_rfl) (by kernel_rfl) (fun _ _ _ h => h) (Or.inl ⟨by rfl, ?_⟩) ?_; rotate_left; (intro w hw; have hS1 := hw.1 (by kernel_rfl); clear hw; (try dsimp only at hS1); (try go_split_ands); go_simp; try (with_reducible rfl)); simp only [Act.put, List.setIfInBounds_toArray, List.set_cons_zero, List.set_cons_succ])
  (refine Walk.take (i := 19) (oi := { dst := some 60, op := Op.indexAddr 23 (Operand.tmp 42) (Operand.tmp 48), type := 0, pos := "more.go:33", after := #[{ on := 1, ground := Ground.data }, { on := 7, ground := Ground.data }, { on := 0, ground := Ground.phase }, { on := 1, ground := Ground.phase }, { on := 2, ground := Ground.phase }, { on := 3, ground := Ground.phase }, { on := 4, ground := Ground.phase }, { on := 5, ground := Ground.phase }, { on := 6, ground := Ground.phase }, { on := 7, ground := Ground.phase }, { on := 8, ground := Ground.phase }, { on := 9, ground := Ground.phase }, { on := 10, ground := Ground.phase }, { on := 11, ground := Ground.phase }, { on := 12, ground := Ground.phase }, { on := 13, ground := Ground.phase }, { on := 14, ground := Ground.phase }, { on := 15, ground := Ground.phase }, { on := 16, ground := Ground.phase }, { on := 17, ground := Ground.phase }, { on := 18, ground := Ground.phase }], guard := none }) (v := ?_) rfl (by kernel_rfl) (by kernel_rfl) (by kernel_rfl) (by kernel_rfl) (fun _ _ _ h => h) (Or.inl ⟨by rfl, ?_⟩) ?_; rotate_left; (intro w hw; clear hw; (try go_split_ands); go_simp; try (with_reducible rfl)); simp only [Act.put, List.setIfInBounds_toArray, List.set_cons_zero, List.set_cons_succ])
  (refine Walk.go (i := 20) (o := { dst := none, op := Op.store 5 (Operand.tmp 60) (Operand.tmp 59), type := 0, pos := "more.go:33", after := #[{ on := 19, ground := Ground.data }, { on := 18, ground := Ground.data }, { on := 0, ground := Ground.phase }, { on := 1, ground := Ground.phase }, { on := 2, ground := Ground.phase }, { on := 3, ground := Ground.phase }, { on := 4, ground := Ground.phase }, { on := 5, ground := Ground.phase }, { on := 6, ground := Ground.phase }, { on := 7, ground := Ground.phase }, { on := 8, ground := Ground.phase }, { on := 9, ground := Ground.phase }, { on := 10, ground := Ground.phase }, { on := 11, ground := Ground.phase }, { on := 12, ground := Ground.phase }, { on := 13, ground := Ground.phase }, { on := 14, ground := Ground.phase }, { on := 15, ground := Ground.phase }, { on := 16, ground := Ground.phase }, { on := 17, ground := Ground.phase }, { on := 18, ground := Ground.phase }], guard := none }) (by kernel_rfl) rfl (fun K hK => ?_); go_simp; (skip); refine hK.out _ _ (⟨fun q => absurd q (by decide), fun _ => trivial⟩) ?_; clear hK K; try simp only [Act.put, List.setIfInBounds_toArray, List.set_cons_zero, List.set_cons_succ])
  refine Walk.done (by kernel_rfl) ?_ _
  clear cY cQ cP fP e1 e2 e3 e4 e5 e6 hn0 hnz p0 p1 q0 q1
  have kk := HK.out.drew
  have FS : Hid (Cells _ SB 25 (tbl c9 (.slice (some ⟨g, 0, none⟩) n9 n9))) := HB0.out.but kk.but (not_nowhere _)
  have FX := kk.get (b := XB) (t := 25) (c := tbl c9 (.slice (some ⟨g, 1, none⟩) (n9 - 1) (n9 - 1))) (by simp)
  have FY := kk.get (b := YB) (t := 25) (c := tbl c9 (.slice (some ⟨hb, 0, none⟩) n9 cap)) (by simp)
  have FG := HG.out.but kk.but (not_nowhere _)
  have VS := FG.view 0 n9 (l := l9) (fun i hi => by rw [Nat.zero_add]; exact ints_at .u8 l9 i hi)
  have VX := FG.view 1 (n9 - 1) (l := l9.drop 1) (fun i hi => by
    have hi2 : 1 + i < l9.length := by rw [List.length_drop] at hi; omega
    rw [ints_at .u8 l9 (1 + i) hi2, List.getElem_drop])
  have VY := kk.head.view 0 cap (l := ys) (fun i hi => by rw [Nat.zero_add]; exact HC2.out i hi)
  rw [HN9.out] at VS
  rw [List.length_drop, HN9.out] at VX
  rw [HLY.out] at VY
  have HQ : Hid _ := And.intro FS.out (And.intro FX (And.intro FY (And.intro VS (And.intro VX (And.intro VY (HBW.out.trans kk.but))))))
  clear FS FX FY FG VS VX VY kk HK HB0 HG HBW HC2 hcur hnew hcap hi16 hu16
  revert HQ
  generalize (W5.setCell ⟨hb, p, none⟩ (.int .u8 x)).drew = Q0
  intro HQ
  have kk := ((Keep.start Q0).made 25 (Value.int .i64 0 :: Value.int .i64 0 :: Value.int .i64 0 :: Value.int .i64 0 :: Value.int .i64 0 :: Value.int .i64 0 :: Value.int .i64 0 :: Value.int .i64 0 :: Value.int .i64 0 :: Value.int .i64 0 :: Value.int .i64 0 :: Value.int .i64 0 :: Value.int .i64 0 :: Value.int .i64 0 :: Value.int .i64 0 :: Value.int .i64 0 :: Value.slice none 0 0 :: []))
  have hth := kk.head.there 0 (tbl (fun _ => 0) (.slice none 0 0)).toArray.size (by simp [tbl_length])
  replace kk := kk.laid_any (tbl (fun _ => 0) (.slice none 0 0)) (by rw [tbl_length]; rfl)
  have hi2 : (Try.prog.info? 25).map (·.size) = some (tbl (fun _ => 0) (.slice none 0 0)).toArray.size := by rw [List.size_toArray, tbl_length]; kernel_rfl
  go_upto_region 8 with fail
  go_step
  refine wpList_value rfl (exec_none rfl (build_none _)) ?_
  go_step
  go_simp
  go_step
  refine wpList_store_mid rfl 25 (.tmp 10) (.tmp 61) rfl Q0.heap.size 0 (tbl (fun _ => 0) (.slice none 0 0)).toArray rfl rfl ?_ hi2 (tbl_all _ _ _ _) ?_
  · exact hth
  try simp only [Act.put]
  clear hth hi2
  revert kk
  obtain ⟨ZB, hZB⟩ : ∃ b, Q0.heap.size = b := ⟨_, rfl⟩
  rw [hZB]
  generalize (Q0.alloc (.cells (Value.int .i64 0 :: Value.int .i64 0 :: Value.int .i64 0 :: Value.int .i64 0 :: Value.int .i64 0 :: Value.int .i64 0 :: Value.int .i64 0 :: Value.int .i64 0 :: Value.int .i64 0 :: Value.int .i64 0 :: Value.int .i64 0 :: Value.int .i64 0 :: Value.int .i64 0 :: Value.int .i64 0 :: Value.int .i64 0 :: Value.int .i64 0 :: Value.slice none 0 0 :: []).toArray 25)).setCells ZB 0 (tbl (fun _ => 0) (.slice none 0 0)) = Q1
  intro kk
  have HZB : Hid (Q0.heap.size = ZB) := hZB
  have jj : TJ Q0 Q1 Q1 ZB (fun _ => 0) [] (.slice none 0 0) := ⟨(Lst.start Q0 5 1).step kk.but, kk.head, But.refl _ _, by simp [Value.ownBlock], kk.head.lt, by omega⟩
  have HQ1 : Hid (But Nowhere Q0 Q1) := kk.but
  clear kk hZB
  go_upto_region 9 with fail
  obtain ⟨m, hm⟩ : ∃ m : Nat, a1 % 6 = (m : Int) := ⟨(a1 % 6).toNat, by omega⟩
  have hm6 : m < 6 := by omega
  have r0 : a1.tmod 6 = (m : Int) := by rw [Int.tmod_eq_emod_of_nonneg (by omega), hm]
  have r1 : IntKind.u8.wrap (m : Int) = m := by rw [IntKind.wrap_u8]; omega
  have r2 : IntKind.i64.wrap (m : Int) = m := by rw [wrap_i64_eq]; exact w64 _ (by omega)
  have r3 : IntKind.i64.wrap ((m : Int) + 1) = m + 1 := by rw [wrap_i64_eq]; exact w64 _ (by omega)
  have r4 : IntKind.u64.wrap ((m : Int) + 1) = m + 1 := by rw [IntKind.wrap_u64]; omega
  have hpw := pow_to (m + 1) (by omega)
  have r5 : IntKind.i64.wrap ((2 : Int) ^ (m + 1)) = 2 ^ (m + 1) := by rw [wrap_i64_eq]; exact w64 _ (by omega)
  have r6 : min (m + 1) 64 = m + 1 := by omega
  have r7 : ((m : Int) + 1).toNat = m + 1 := by omega
  have r8 : (0 : Int) ≤ (m : Int) := by omega
  have r9 : (m : Int) < 16 := by omega
  have cm := jj.tab.cnt m (by omega)
  have fm := jj.tab.frozen m
  have j2 := jj.count m (by omega) (2 ^ (m + 1))
  have HJ : Hid _ := j2
  clear jj j2 hm
  go_wp2_with fail
  clear cm fm r0 r1 r2
  obtain ⟨P2, hP2⟩ : ∃ P2 : Nat, 2 ^ (m + 1) = P2 := ⟨_, rfl⟩
  have hP2i : ((2 : Int) ^ (m + 1)) = (P2 : Int) := by rw [← hP2]; simp
  have HP2 : Hid (2 ^ (m + 1) = P2) := hP2
  rw [hP2i] at hpw r5 HJ ⊢
  have hP64 : P2 ≤ 64 := by
    have := Nat.pow_le_pow_right (n := 2) (by decide) (show m + 1 ≤ 6 by omega)
    rw [hP2] at this
    exact this
  have hP1 : 0 < P2 := by rw [← hP2]; exact Nat.two_pow_pos _
  clear hP2
  go_loopw [12] (fun u V => ∃ k : Nat, k ≤ P2 ∧ u = .int .i64 k ∧ ∃ pv, TJ Q0 Q1 V ZB (upd (fun _ => 0) m (P2 : Int)) ((List.range k).map Int.ofNat) pv) (fun u _ => P2 - (intOf u).toNat)
  case atStart => exact ⟨0, by omega, rfl, _, HJ.out⟩
  case round =>
    clear HJ
    obtain ⟨k, hk, rfl, pv, jj⟩ := hrel
    have hzl : ((List.range k).map Int.ofNat).length = k := by simp
    by_cases hlt : (k : Int) < (P2 : Int)
    · have hkN : k < P2 := by omega
      have k0 : (0 : Int) ≤ (k : Int) := by omega
      have kb : IntKind.u8.wrap (k : Int) = k := by rw [IntKind.wrap_u8]; omega
      obtain ⟨B, hB⟩ : ∃ n, wr.heap.size = n := ⟨_, rfl⟩
      obtain ⟨g4, cap4, W6, hrun, c4, f4, j4, keep4⟩ := jj.push (k : Int) (by rw [hzl]; omega) B hB
      have c16 := jj.tab.vals
      rw [hzl] at hrun j4
      have HJ4 : Hid (TJ Q0 Q1 (W6.setCell ⟨ZB, 16, none⟩ (.slice (some ⟨g4, 0, none⟩) (k + 1) cap4)) ZB (upd (fun _ => 0) m (P2 : Int)) ((List.range (k + 1)).map Int.ofNat) (.slice (some ⟨g4, 0, none⟩) (k + 1) cap4)) := by
        rw [List.range_succ, List.map_append]
        exact j4
      have HRUN : Hid _ := hrun
      have HBB : Hid _ := hB
      clear hrun j4 keep4 jj hB
      go_wp2_with (first | (refine wpList_build_one Try.elemByte rfl (.tmp 83) rfl (.int .u8 (k : Int)) rfl [.int .u8 (k : Int)] rfl rfl (by omega) B HBB.out ?_) | (refine wpList_append_run rfl (.tmp 81) (.tmp 84) 23 rfl pv (.slice (some ⟨B, 0, none⟩) 1 1) rfl rfl (.slice (some ⟨g4, 0, none⟩) (k + 1) cap4) W6 HRUN.out ?_))
      clear c4 f4 c16 HRUN
      go_roundw
      case rel => exact ⟨k + 1, by omega, by go_num, _, HJ4.out⟩
      case measure => simp [intOf]; omega
    · obtain rfl : k = P2 := by omega
      obtain ⟨FS, FX, FY, VS, VX, VY, HBQ⟩ := HQ.out
      have hzb := HZB.out
      have nS : SB ≠ ZB := by have := FS.lt; omega
      have nX : XB ≠ ZB := by have := FX.lt; omega
      have nY : YB ≠ ZB := by have := FY.lt; omega
      have HFS : Hid (Cells wr SB 25 (tbl c9 (.slice (some ⟨g, 0, none⟩) n9 n9))) := (FS.but HQ1.out (not_nowhere _)).but jj.but nS
      have HFX : Hid (Cells wr XB 25 (tbl c9 (.slice (some ⟨g, 1, none⟩) (n9 - 1) (n9 - 1)))) := (FX.but HQ1.out (not_nowhere _)).but jj.but nX
      have HFY : Hid (Cells wr YB 25 (tbl c9 (.slice (some ⟨hb, 0, none⟩) n9 cap))) := (FY.but HQ1.out (not_nowhere _)).but jj.but nY
      have off : ∀ (v : Value) (l : List Int), View Q0 .u8 v l → Off (fun x => x = ZB) v := fun v l hv => View.off hv (fun b hb q => by omega)
      have HVS : Hid (View wr .u8 (.slice (some ⟨g, 0, none⟩) n9 n9) l9) := (VS.but HQ1.out).butS jj.but (off _ _ VS)
      have HVX : Hid (View wr .u8 (.slice (some ⟨g, 1, none⟩) (n9 - 1) (n9 - 1)) (l9.drop 1)) := (VX.but HQ1.out).butS jj.but (off _ _ VX)
      have HVY : Hid (View wr .u8 (.slice (some ⟨hb, 0, none⟩) n9 cap) ys) := (VY.but HQ1.out).butS jj.but (off _ _ VY)
      have HFZ : Hid (Cells wr ZB 25 (tbl (upd (fun _ => 0) m (k : Int)) pv)) := jj.tab
      have HVZ : Hid (View wr .u8 pv ((List.range k).map Int.ofNat)) := View.of_owns jj.lst.own
      have HBV : Hid (But Nowhere w wr) := (HBQ.trans HQ1.out).step jj.but (fun i hi q => by have := HBQ.size; omega)
      have HZN : Hid (checkB (upd (fun _ => 0) m (k : Int)) ((List.range k).map Int.ofNat) = false) := by
        have h := ones_not m hm6
        rw [HP2.out, hP2i] at h
        exact h
      have HM6 : Hid (m < 6 ∧ k ≤ 64) := ⟨hm6, hP64⟩
      clear jj FS FX FY VS VX VY HBQ off nS nX nY hzb
      have kk := ((Keep.start wr).made 5 [.int .u8 a1]).made 25 (Value.int .i64 0 :: Value.int .i64 0 :: Value.int .i64 0 :: Value.int .i64 0 :: Value.int .i64 0 :: Value.int .i64 0 :: Value.int .i64 0 :: Value.int .i64 0 :: Value.int .i64 0 :: Value.int .i64 0 :: Value.int .i64 0 :: Value.int .i64 0 :: Value.int .i64 0 :: Value.int .i64 0 :: Value.int .i64 0 :: Value.int .i64 0 :: Value.slice none 0 0 :: [])
      simp only [World.size_alloc] at kk
      have hth := kk.head.there 0 (tbl (fun _ => 0) (.slice (some ⟨wr.heap.size, 0, none⟩) 1 1)).toArray.size (by simp [tbl_length])
      replace kk := kk.laid_any (tbl (fun _ => 0) (.slice (some ⟨wr.heap.size, 0, none⟩) 1 1)) (by rw [tbl_length]; rfl)
      have hi2 : (Try.prog.info? 25).map (·.size) = some (tbl (fun _ => 0) (.slice (some ⟨wr.heap.size, 0, none⟩) 1 1)).toArray.size := by rw [List.size_toArray, tbl_length]; kernel_rfl
      have HK : Hid _ := kk
      clear kk
      go_upto_region 15 with fail
      go_step
      go_step
      try go_simp
      try go_step
      refine wpList_build_one Try.elemByte rfl (.tmp 87) rfl (.int .u8 a1) rfl [.int .u8 a1] rfl rfl (by omega) wr.heap.size rfl ?_
      try simp only [Act.put]
      refine wpList_value rfl (exec_one rfl rfl (build_values _ _ _ _)) ?_
      go_step
      go_simp
      go_step
      refine wpList_store_mid rfl 25 (.tmp 13) (.tmp 89) rfl (wr.heap.size + 1) 0 (tbl (fun _ => 0) (.slice (some ⟨wr.heap.size, 0, none⟩) 1 1)).toArray rfl rfl ?_ hi2 (tbl_all _ _ _ _) ?_
      · exact hth
      try simp only [Act.put]
      have kk := HK.out
      clear HK hth hi2
      revert kk
      obtain ⟨LB, hLB⟩ : ∃ b, wr.heap.size = b := ⟨_, rfl⟩
      rw [hLB]
      obtain ⟨WB, hWB⟩ : ∃ b, LB + 1 = b := ⟨_, rfl⟩
      rw [hWB]
      clear hLB hWB
      generalize ((wr.alloc (.cells [.int .u8 a1].toArray 5)).alloc (.cells (Value.int .i64 0 :: Value.int .i64 0 :: Value.int .i64 0 :: Value.int .i64 0 :: Value.int .i64 0 :: Value.int .i64 0 :: Value.int .i64 0 :: Value.int .i64 0 :: Value.int .i64 0 :: Value.int .i64 0 :: Value.int .i64 0 :: Value.int .i64 0 :: Value.int .i64 0 :: Value.int .i64 0 :: Value.int .i64 0 :: Value.int .i64 0 :: Value.slice none 0 0 :: []).toArray 25)).setCells WB 0 (tbl (fun _ => 0) (.slice (some ⟨LB, 0, none⟩) 1 1)) = R0
      intro kk
      obtain ⟨m2, hm2⟩ : ∃ m : Nat, a1 % 16 = (m : Int) := ⟨(a1 % 16).toNat, by omega⟩
      have hm16 : m2 < 16 := by omega
      have r0 : a1.tmod 16 = (m2 : Int) := by rw [Int.tmod_eq_emod_of_nonneg (by omega), hm2]
      have r1 : IntKind.u8.wrap (m2 : Int) = m2 := by rw [IntKind.wrap_u8]; omega
      have n1 : (0 : Int) ≤ (m2 : Int) := by omega
      have n2 : (m2 : Int) < 16 := by omega
      have cW := kk.head.cnt m2 hm16
      have fW := kk.head.frozen m2
      replace kk := kk.set m2 (.int .i64 1)
      rw [tbl_set _ _ _ hm16] at kk
      have HK : Hid _ := kk
      clear kk hm2
      go_wp2_with fail
      have kk := HK.out
      clear HK cW fW r0 r1
      revert kk
      generalize R0.setCell ⟨WB, m2, none⟩ (.int .i64 1) = R1
      intro kk
      refine (known_any HT_but specCheck specCodes specStandard _ (HT_but _ _ hTw (HBV.out.trans kk.but))).mono ?_
      rintro e q0 ⟨rfl, dd⟩
      replace kk := kk.step dd
      clear dd
      have hr := (Cells.but HFS.out kk.but (not_nowhere _)).all
      go_wp2_with (refine wpList_load_midG rfl 25 (.tmp 7) rfl SB 0 rfl (tbl c9 (.slice (some ⟨g, 0, none⟩) n9 n9)) _ ?_ huT rfl (hiT _ _) ?_; exact hr)
      refine (specCheck c9 (.slice (some ⟨g, 0, none⟩) n9 n9) l9 HIT.out _ (HVS.out.but kk.but) HBY.out (by have := HN9.out; omega) (HT_but _ _ hTw (HBV.out.trans kk.but))).mono ?_
      rintro e q1 ⟨rfl, dd⟩
      rw [HCK.out]
      replace kk := kk.step dd
      clear dd hr
      have hr := (Cells.but HFX.out kk.but (not_nowhere _)).all
      go_wp2_with (refine wpList_load_midG rfl 25 (.tmp 8) rfl XB 0 rfl (tbl c9 (.slice (some ⟨g, 1, none⟩) (n9 - 1) (n9 - 1))) _ ?_ huT rfl (hiT _ _) ?_; exact hr)
      refine (specCheck c9 (.slice (some ⟨g, 1, none⟩) (n9 - 1) (n9 - 1)) (l9.drop 1) HIT.out _ (HVX.out.but kk.but) (fun x hx => HBY.out x (List.mem_of_mem_drop hx)) (by rw [List.length_drop]; have := HN9.out; omega) (HT_but _ _ hTw (HBV.out.trans kk.but))).mono ?_
      rintro e q2 ⟨rfl, dd⟩
      rw [HTL.out]
      replace kk := kk.step dd
      clear dd hr
      have hr := (Cells.but HFY.out kk.but (not_nowhere _)).all
      go_wp2_with (refine wpList_load_midG rfl 25 (.tmp 9) rfl YB 0 rfl (tbl c9 (.slice (some ⟨hb, 0, none⟩) n9 cap)) _ ?_ huT rfl (hiT _ _) ?_; exact hr)
      refine (specCheck c9 (.slice (some ⟨hb, 0, none⟩) n9 cap) ys HIT.out _ (HVY.out.but kk.but) HBX.out (by have := HLY.out; omega) (HT_but _ _ hTw (HBV.out.trans kk.but))).mono ?_
      rintro e q3 ⟨rfl, dd⟩
      rw [HTW.out]
      replace kk := kk.step dd
      clear dd hr
      have hr := (Cells.but HFZ.out kk.but (not_nowhere _)).all
      go_wp2_with (refine wpList_load_midG rfl 25 (.tmp 10) rfl ZB 0 rfl (tbl (upd (fun _ => 0) m (k : Int)) pv) _ ?_ huT rfl (hiT _ _) ?_; exact hr)
      refine (specCheck (upd (fun _ => 0) m (k : Int)) pv ((List.range k).map Int.ofNat) (fun j _ => by have := HM6.out; unfold upd; split <;> (try dsimp only) <;> exact ⟨by omega, by omega⟩) _ (HVZ.out.but kk.but) (fun x hx => by have := HM6.out; obtain ⟨j, hj, rfl⟩ := List.mem_map.1 hx; have := List.mem_range.1 hj; simp; omega) (by have := HM6.out; simp; omega) (HT_but _ _ hTw (HBV.out.trans kk.but))).mono ?_
      rintro e q4 ⟨rfl, dd⟩
      rw [HZN.out]
      replace kk := kk.step dd
      clear dd hr
      have hr := (kk.get (b := WB) (t := 25) (c := tbl (upd (fun _ => 0) m2 1) (.slice (some ⟨LB, 0, none⟩) 1 1)) (by simp)).all
      go_wp2_with (refine wpList_load_midG rfl 25 (.tmp 13) rfl WB 0 rfl (tbl (upd (fun _ => 0) m2 1) (.slice (some ⟨LB, 0, none⟩) 1 1)) _ ?_ huT rfl (hiT _ _) ?_; exact hr)
      refine (specCheck (upd (fun _ => 0) m2 1) (.slice (some ⟨LB, 0, none⟩) 1 1) [a1] (fun j _ => by unfold upd; split <;> (try dsimp only) <;> exact ⟨by omega, by omega⟩) _ (Cells.one (kk.get (b := LB) (t := 5) (c := [.int .u8 a1]) (by simp))) (fun x hx => by simp at hx; subst hx; exact ⟨u1.1, u1.2⟩) (by simp) (HT_but _ _ hTw (HBV.out.trans kk.but))).mono ?_
      rintro e q5 ⟨rfl, dd⟩
      rw [one_ok m2 hm16 a1]
      replace kk := kk.step dd
      clear dd hr
      have HX : Hid _ := HBV.out.trans kk.but
      clear kk
      go_wp2_with fail
      go_ret
      exact ⟨rfl, HX.out⟩

set_option maxRecDepth 100000 in
theorem lifted (os : Os) (started : os.Started) (H : Type) (enc : TypeId × Value → H) :
    ReturnsInHanded {} Try.checked os 8 .any (Rows.huffRefusesSpec.pre6 enc Try.prog Try.f8 Rows.huffRefusesRow.domain false) (Rows.huffRefusesSpec.post enc Try.prog Try.f8 false true false false) := by
  refine returnsInHanded_of_change_sized (C := Try.checked) own started (by kernel_rfl) Try.func8
    (ChangeSpec.witness6 (enc := enc) (C := Try.checked) false ⟨#[], #[.slice none 0 0, .int .u8 0, .int .u8 0], []⟩ 8 (by kernel_rfl) (by kernel_rfl) (by kernel_rfl) (by kernel_rfl)) ?_
  intro W base args ds gs before hval0 hW hcnd hsz0 _
  have hval : ∀ (j : Nat) t v, Try.f8.params[j]? = some t → args[j]? = some v → Value.okWide Try.prog W .any base t v := hval0
  have hsz : (DataW.weightsEach Try.prog (Try.f8.params.toList ++ Rows.huffRefusesSpec.plain.varTypes Try.prog) (ds ++ gs)).all (· ≤ reachBytes) = true := hsz0
  have hW' := hW
  obtain ⟨p, q, hA0, hV, rfl, hfz, hnd⟩ := hW
  have hA : DataW.TrodAll enc Try.prog W 0 (fun _ => true) true Try.f8.params.toList args.toList ds p := hA0
  rw [Try.params8] at hA hval hsz
  obtain ⟨v0, vs0, d0, ds0, p0, q0, hargs, rfl, rfl, h0, r0⟩ := trodAll_cons hA
  obtain ⟨v1, vs1, d1, ds1, p1, q1, rfl, rfl, rfl, h1, r1⟩ := trodAll_cons r0
  obtain ⟨v2, vs2, d2, ds2, p2, q2, rfl, rfl, rfl, h2, r2⟩ := trodAll_cons r1
  obtain ⟨rfl, rfl, rfl⟩ := trodAll_nil r2
  obtain rfl : args = #[v0, v1, v2] := by cases args; simp_all
  obtain ⟨rfl, rfl⟩ := trodVars_none hV
  obtain ⟨l0, ⟨s0, x0⟩, e0⟩ := open_bytes (hval 0 23 v0 rfl rfl) h0
  have n0 := bytes_small hsz (j := 0) rfl rfl e0
  obtain ⟨a1, rfl, rfl, rfl, w1⟩ := open_int Try.underlying5 (hval 1 5 v1 rfl rfl) h1
  obtain ⟨a2, rfl, rfl, rfl, w2⟩ := open_int Try.underlying5 (hval 2 5 v2 rfl rfl) h2
  clear hA0 hval0
  refine (walk W v0 l0 s0 x0 n0 a1 w1 a2 w2).mono fun e W' ⟨he, hg⟩ => ?_
  subst he
  exact ⟨_, rfl, law_post laidOut readable rfl Try.underlying4 rfl rfl hW' hg.below⟩

theorem over : Rows.huffRefusesRow.holds Try.pinned (OpenSpec.ofChange Rows.huffRefusesSpec) :=
  OpenClaim.holds_of_wide 8 Try.f8 rfl rfl rfl rfl rfl rfl rfl ⟨rfl, rfl, rfl, rfl, rfl⟩ rfl rfl rfl rfl rfl (by kernel_rfl) Try.func8 (by kernel_rfl)
    (of_decide_eq_true (by kernel_rfl)) (by unfold Func.isWrapper; first | (rw [if_pos (by decide +kernel)]; kernel_rfl) | (rw [if_neg (by decide +kernel)]; exact ⟨rfl, rfl⟩))
    (fun os started H enc _ => lifted os started H enc)

theorem proved : Rows.HuffRefusesSaid :=
  over
end Go.Proofs.Ytadcfndjbhcfbaa.huffRefuses
namespace Go.Proofs.Ytadcfndjbhcfbaa
theorem huffRefuses_holds : Rows.HuffRefusesSaid := huffRefuses.proved
#print axioms huffRefuses_holds
end Go.Proofs.Ytadcfndjbhcfbaa
