/- Without the document's answer: there are as many MCUs as cover the image, and no more; each has as many blocks as its parts have. -/
import Derived.Test.YtppbnmlgilgnnaaDoorPlRef1
import Derived.Test.YtppbnmlgilgnnaaDoorPl13
import Derived.Test.YtppbnmlgilgnnaaDoorFrame
import Derived.Test.YtppbnmlgilgnnaaDoorRows
import Derived.Test.YtppbnmlgilgnnaaDoorDoorTab
import Derived.Test.YtppbnmlgilgnnaaDoorCards
import Derived.Test.YtppbnmlgilgnnaaDoorTie
namespace Go.Proofs.YtppbnmlgilgnnaaDoor.planeCounts
open Go.ChangeShapes Go.WideShapes Go.ChangeAt Go.RowKit
set_option linter.unusedVariables false

theorem own : ownKnob Tryd.prog.godebug = none := by kernel_rfl
theorem laidOut : laidOutB Tryd.prog = true := by kernel_rfl
theorem readable : ∀ t ∈ Tryd.f6.params.toList, Tryd.prog.readableRec t = true ∧ t < Tryd.prog.types.size := by
  rw [Tryd.params6]
  simp only [List.mem_cons, List.not_mem_nil, or_false, forall_eq_or_imp, forall_eq]
  refine ⟨⟨by kernel_rfl, of_decide_eq_true (by kernel_rfl)⟩, ⟨by kernel_rfl, of_decide_eq_true (by kernel_rfl)⟩, ⟨by kernel_rfl, of_decide_eq_true (by kernel_rfl)⟩, ⟨by kernel_rfl, of_decide_eq_true (by kernel_rfl)⟩⟩

set_option maxHeartbeats 20000000 in
set_option maxRecDepth 100000 in
theorem walk (w : World) (hT : Tab w) (a0 : Int) (w0 : (Lit.int .u8 a0).wf = true) (a1 : Int) (w1 : (Lit.int .u8 a1).wf = true) (a2 : Int) (w2 : (Lit.int .u8 a2).wf = true) (v3 : Value) (l3 : List Int) (s3 : View w .u8 v3 l3) (x3 : ∀ x ∈ l3, 0 ≤ x ∧ x ≤ 255) (n3 : l3.length ≤ 140737488355328) :
    Calls Tryd.prog 6 #[.int .u8 a0, .int .u8 a1, .int .u8 a2, v3] w fun e w' => e = .returned (.bool true) ∧ But Nowhere w w' := by
  have a0r : 0 ≤ a0 ∧ a0 ≤ 255 := u8_in w0
  have a1r : 0 ≤ a1 ∧ a1 ≤ 255 := u8_in w1
  have a2r : 0 ≤ a2 ∧ a2 ≤ 255 := u8_in w2
  obtain ⟨W, hW⟩ : ∃ W, 1 + a0 % 40 = W := ⟨_, rfl⟩
  obtain ⟨H, hH⟩ : ∃ H, 1 + a1 % 24 = H := ⟨_, rfl⟩
  obtain ⟨m, hm⟩ : ∃ m, 1 + a2 % 4 = m := ⟨_, rfl⟩
  have f : Fit W H m := ⟨by omega, by omega, by omega, by
    have : W * H ≤ 40 * 24 := Int.mul_le_mul (by omega) (by omega) (by omega) (by omega)
    omega⟩
  obtain ⟨e1, e2, g3, g4, g5, g6⟩ := f.grid
  have sd := side_fit f.m
  have ca := ceil_in W (sideW m) f.w.1 f.w.2 sd.1 sd.2.1
  have cb := ceil_in H (sideH m) f.h.1 f.h.2 sd.2.2.1 sd.2.2.2
  rw [← e1] at ca
  rw [← e2] at cb
  have hup := unit_part m f.m
  have hce := cntP_end m f.m
  obtain ⟨u0, u6⟩ := unit_pos m
  obtain ⟨vo, vc, rfl⟩ := s3.slice
  obtain ⟨a, ha⟩ : ∃ a, gridW W H m = a := ⟨_, rfl⟩
  obtain ⟨b, hb⟩ : ∃ b, gridH W H m = b := ⟨_, rfl⟩
  obtain ⟨x, hx⟩ : ∃ a, sideW m = a := ⟨_, rfl⟩
  obtain ⟨y, hy⟩ : ∃ b, sideH m = b := ⟨_, rfl⟩
  rw [ha, hx] at ca
  rw [hb, hy] at cb
  obtain ⟨-, -, -, za1, za2⟩ := ca
  obtain ⟨-, -, -, zb1, zb2⟩ := cb
  rw [ha] at g3 g4
  rw [hb] at g5 g6
  rw [hx, hy] at sd
  obtain ⟨N, hN⟩ : ∃ N : Nat, a * b = N := ⟨(a * b).toNat, by have : 0 ≤ a * b := Int.mul_nonneg (by omega) (by omega); omega⟩
  obtain ⟨M, hMl⟩ : ∃ M, (unitL m).length = M := ⟨_, rfl⟩
  rw [hMl] at u0 u6 hce
  have HAB : Hid (a * b = (N : Int)) := hN
  have HML : Hid ((unitL m).length = M) := hMl
  have HG : Hid (gridW W H m = a ∧ gridH W H m = b ∧ sideW m = x ∧ sideH m = y) := ⟨ha, hb, hx, hy⟩
  have wN : (N : Int) ≤ 8192 * 8192 := by rw [← hN]; exact Int.mul_le_mul g4 g6 (by omega) (by omega)
  have HCE : Hid _ := hce
  have HUP : Hid _ := hup
  clear e1 e2 ha hb hx hy hN hMl hce hup
  go_enter Tryd.func6, Tryd.ntmps6
  go_wp2_with fail
  refine (public_any _ _ _ a0r a1r a2r _).mono ?_
  rintro e w1 ⟨rfl, b1⟩
  rw [hW, hH, hm]
  clear hW hH hm a0r a1r a2r
  have kk := (Keep.start w).step b1 |>.made 23 (pC W H m 50 1 0)
  obtain ⟨PB, hPB⟩ : ∃ b, w1.heap.size = b := ⟨_, rfl⟩
  rw [hPB] at kk
  go_wp2_with fail
  revert kk
  generalize w1.alloc (.cells #[.int .i64 W, .int .i64 H, .int .i64 m, .int .i64 50, .int .i64 1, .int .i64 0] 23) = w2
  intro kk
  refine (grid_any _ _ _ _ _ _ _).mono ?_
  rintro e w3 ⟨rfl, b3⟩
  rw [HG.out.1, HG.out.2.1]
  replace kk := kk.step b3
  have c2 := kk.head.at 2
  simp only [List.getElem?_cons_zero, List.getElem?_cons_succ] at c2
  clear b3
  go_wp2_with fail
  refine (side_any _ _).mono ?_
  rintro e w4 ⟨rfl, b4⟩
  rw [HG.out.2.2.1, HG.out.2.2.2]
  replace kk := (kk.step b4).drew
  clear b4 c2 hPB
  have HS : ∀ V, Keep w V [(PB, 23, pC W H m 50 1 0)] → (V.cell? ⟨PB, 0, none⟩ = some (.int .i64 W) ∧ V.cell? ⟨PB, 1, none⟩ = some (.int .i64 H) ∧ V.cell? ⟨PB, 2, none⟩ = some (.int .i64 m) ∧ V.cell? ⟨PB, 3, none⟩ = some (.int .i64 50) ∧ V.cell? ⟨PB, 4, none⟩ = some (.int .i64 1) ∧ V.cell? ⟨PB, 5, none⟩ = some (.int .i64 0)) := fun V kk => have gP := kk.head; ⟨gP.at 0, gP.at 1, gP.at 2, gP.at 3, gP.at 4, gP.at 5⟩
  go_wp2_with fail
  refine wp_region_till (S := fun V => V.cell? ⟨PB, 0, none⟩ = some (.int .i64 W) ∧ V.cell? ⟨PB, 1, none⟩ = some (.int .i64 H) ∧ V.cell? ⟨PB, 2, none⟩ = some (.int .i64 m) ∧ V.cell? ⟨PB, 3, none⟩ = some (.int .i64 50) ∧ V.cell? ⟨PB, 4, none⟩ = some (.int .i64 1) ∧ V.cell? ⟨PB, 5, none⟩ = some (.int .i64 0)) (R := fun _ => True) (k := 100) (m := 100) (by kernel_rfl) (HS _ kk) trivial ?_
  (refine Walk.take (i := 0) (oi := { dst := some 34, op := Op.load 23 (Operand.tmp 9), type := 23, pos := "more.go:14", after := #[], guard := none }) (v := ?_) rfl (by kernel_rfl) (by kernel_rfl) (by kernel_rfl) (by kernel_rfl) (fun _ _ _ h => h) (Or.inl ⟨by rfl, ?_⟩) ?_; rotate_left; (intro w hw; have hS1 := hw.1 (by kernel_rfl); clear hw; (try dsimp only at hS1); (try go_split_ands); go_simp; try (with_reducible rfl)); simp only [Act.put, List.setIfInBounds_toArray, List.set_cons_zero, List.set_cons_succ])
  (refine Walk.take (i := 1) (oi := { dst := some 35, op := Op.load 23 (Operand.tmp 9), type := 23, pos := "more.go:14", after := #[], guard := none }) (v := ?_) rfl (by kernel_rfl) (by kernel_rfl) (by kernel_rfl) (by kernel_rfl) (fun _ _ _ h => h) (Or.inl ⟨by rfl, ?_⟩) ?_; rotate_left; (intro w hw; have hS1 := hw.1 (by kernel_rfl); clear hw; (try dsimp only at hS1); (try go_split_ands); go_simp; try (with_reducible rfl)); simp only [Act.put, List.setIfInBounds_toArray, List.set_cons_zero, List.set_cons_succ])
  (refine Walk.take (i := 2) (oi := { dst := some 36, op := Op.move (Operand.tmp 3), type := 24, pos := "more.go:14", after := #[], guard := none }) (v := ?_) rfl (by kernel_rfl) (by kernel_rfl) (by kernel_rfl) (by kernel_rfl) (fun _ _ _ h => h) (Or.inl ⟨by rfl, ?_⟩) ?_; rotate_left; (intro w hw; clear hw; (try go_split_ands); go_simp; try (with_reducible rfl)); simp only [Act.put, List.setIfInBounds_toArray, List.set_cons_zero, List.set_cons_succ])
  (refine Walk.go (i := 3) (o := { dst := some 37, op := Op.call { callee := Callee.value (Operand.func 11), args := #[Operand.tmp 35, Operand.tmp 36], argTypes := #[23, 24] }, type := 26, pos := "more.go:14", after := #[{ on := 1, ground := Ground.data }, { on := 2, ground := Ground.data }], guard := none }) (by kernel_rfl) rfl (fun K hK => ?_); go_simp; ((go_at_call 11; refine (image_any W H m f _ l3 _ (s3.but kk.but) x3 n3).mono ?_; rintro e y1 ⟨⟨li, pv, rfl, hil, hix, Li⟩, d⟩; replace kk := kk.step d; clear d; obtain ⟨po, pc, rfl⟩ := Li.slice)); refine hK.out _ _ (⟨fun _ => HS _ kk, fun _ => trivial⟩) ?_; clear hK K; try simp only [Act.put, List.setIfInBounds_toArray, List.set_cons_zero, List.set_cons_succ])
  (refine Walk.go (i := 4) (o := { dst := some 38, op := Op.call { callee := Callee.value (Operand.func 14), args := #[Operand.tmp 34, Operand.tmp 37], argTypes := #[23, 26] }, type := 30, pos := "more.go:14", after := #[{ on := 0, ground := Ground.data }, { on := 3, ground := Ground.data }, { on := 3, ground := Ground.chain }], guard := none }) (by kernel_rfl) rfl (fun K hK => ?_); go_simp; ((go_at_call 14; refine (planeSplit_fit W H m 50 1 0 f _ li _ (hT.but kk.but) (View.of_owns Li.own) hil hix _ rfl).mono ?_; rintro e y2 ⟨⟨v2, go2, G2, rfl, hB2, -, -⟩, d⟩; replace kk := kk.step d; clear d; rw [HG.out.1, HG.out.2.1, HAB.out, Int.toNat_natCast, HML.out] at hB2; obtain rfl := hB2.val)); refine hK.out _ _ (⟨fun _ => HS _ kk, fun _ => trivial⟩) ?_; clear hK K; try simp only [Act.put, List.setIfInBounds_toArray, List.set_cons_zero, List.set_cons_succ])
  (refine Walk.take (i := 5) (oi := { dst := some 14, op := Op.assign (Operand.tmp 38), type := 30, pos := "more.go:14", after := #[{ on := 4, ground := Ground.data }, { on := 4, ground := Ground.chain }, { on := 0, ground := Ground.phase }, { on := 1, ground := Ground.phase }, { on := 2, ground := Ground.phase }, { on := 3, ground := Ground.phase }, { on := 4, ground := Ground.phase }], guard := none }) (v := ?_) rfl (by kernel_rfl) (by kernel_rfl) (by kernel_rfl) (by kernel_rfl) (fun _ _ _ h => h) (Or.inl ⟨by rfl, ?_⟩) ?_; rotate_left; (intro w hw; clear hw; (try go_split_ands); go_simp; try (with_reducible rfl)); simp only [Act.put, List.setIfInBounds_toArray, List.set_cons_zero, List.set_cons_succ])
  refine Walk.done (by kernel_rfl) ?_ _
  clear Li HS
  have c2 := kk.head.at 2
  simp only [List.getElem?_cons_zero, List.getElem?_cons_succ] at c2
  obtain ⟨P, hP, hP3⟩ : ∃ P, partsN m = P ∧ P ≤ 3 := ⟨_, rfl, by unfold partsN; split <;> omega⟩
  go_wp2_with fail
  refine (sides_some m f.m _).mono ?_
  rintro e w5 ⟨rfl, k5, -⟩
  rw [hP]
  replace kk := kk.step k5.but
  have HB := hB2.step k5.but
  have hSd := k5.head
  obtain ⟨B, hB⟩ : ∃ b, y2.heap.size = b := ⟨_, rfl⟩
  rw [hB] at hSd ⊢
  clear k5 hB2 c2 hB
  have HUQ : Hid (∀ p : Nat, p < P → ∃ A D : Int, (nums (sidesC m))[p * 2]? = some (.int .i64 A) ∧ (nums (sidesC m))[p * 2 + 1]? = some (.int .i64 D) ∧ A * D = ((cntP m (p + 1) - cntP m p : Nat) : Int) ∧ cntP m p ≤ cntP m (p + 1) ∧ cntP m (p + 1) ≤ 6) := fun p hp => by
    obtain ⟨A, D, s0, s1, C, E, U, -, -, -, -, -, -, -, -, hAD, hpos, hle, -⟩ := HUP.out p (by rw [hP]; exact hp)
    have := HML.out
    exact ⟨A, D, U.a, U.b, hAD, by omega, by omega⟩
  have HCQ : Hid (cntP m P = M) := by have := HCE.out; rw [hP] at this; exact this
  clear hP HUP HCE
  go_wp2_with fail
  go_loopw [15, 17] (fun n i V => ∃ k : Nat, k ≤ P ∧ i = .int .i64 k ∧ n = .int .i64 (cntP m k : Int) ∧ ∃ q, V = w5.drewN q) (fun _ i _ => P - (intOf i).toNat)
  case atStart => exact ⟨0, Nat.zero_le _, rfl, rfl, 0, rfl⟩
  case round =>
    obtain ⟨k, hk, rfl, rfl, qq, rfl⟩ := hrel
    by_cases hlt : k < P
    · obtain ⟨A, D, kA, kD, hAD, hc0, hc6⟩ := HUQ.out k hlt
      have cA := (hSd.at (k * 2)).trans kA
      have cD := (hSd.at (k * 2 + 1)).trans kD
      have i0 : (0 : Int) ≤ (k : Int) := by omega
      have i1 : (k : Int) < (P : Int) := by omega
      have r1 : IntKind.i64.wrap (A * D) = ((cntP m (k + 1) - cntP m k : Nat) : Int) := by rw [hAD, wrap_i64_eq]; exact w64 _ (by omega)
      obtain ⟨d, hd⟩ : ∃ d, cntP m (k + 1) - cntP m k = d := ⟨_, rfl⟩
      rw [hd] at r1
      have r2 : IntKind.i64.wrap ((cntP m k : Int) + (d : Int)) = (cntP m k : Int) + (d : Int) := by rw [wrap_i64_eq]; exact w64 _ (by omega)
      have HD : Hid ((cntP m k : Int) + (d : Int) = (cntP m (k + 1) : Int)) := by show (cntP m k : Int) + (d : Int) = (cntP m (k + 1) : Int); omega
      clear kA kD hAD hd
      go_wp2_with fail
      go_quiet (fail)
      go_wp2_with fail
      go_roundw
      case rel => exact ⟨k + 1, by omega, by go_num, by rw [HD.out], _, rfl⟩
      case measure => simp [intOf]; omega
    · obtain rfl : k = P := by omega
      rw [HCQ.out]
      have HB2 := HB.step ((But.refl Nowhere _).drewN qq)
      replace kk := kk.step ((But.refl Nowhere _).drewN qq)
      clear HB hSd
      revert HB2 kk
      generalize w5.drewN qq = w6
      intro HB2 kk
      go_wp2_with fail
      go_loopw [18] (fun i V => ∃ k : Nat, k ≤ N ∧ i = .int .i64 k ∧ V = w6) (fun i _ => N - (intOf i).toNat)
      case atStart => exact ⟨0, Nat.zero_le _, rfl, rfl⟩
      case round =>
        obtain ⟨j, hj, rfl, rfl⟩ := hrel
        by_cases hlt2 : j < N
        · have i0 : (0 : Int) ≤ (j : Int) := by omega
          have i1 : (j : Int) < (N : Int) := by omega
          have cj := HB2.at j hlt2
          go_wp2_with fail
          go_roundw
          case rel => exact ⟨j + 1, by omega, by go_num, by trivial⟩
          case measure => simp [intOf]; omega
        · have eN : wrap64 (a * b) = (N : Int) := by rw [HAB.out]; exact w64 _ (by omega)
          have m1 : 0 ≤ a * x := Int.mul_nonneg (by omega) (by omega)
          have m2 : a * x ≤ 8192 * 16 := Int.mul_le_mul g4 sd.2.1 (by omega) (by omega)
          have m3 : 0 ≤ b * y := Int.mul_nonneg (by omega) (by omega)
          have m4 : b * y ≤ 8192 * 16 := Int.mul_le_mul g6 sd.2.2.2 (by omega) (by omega)
          have m5 : (a - 1) * x = a * x - x := by rw [Int.sub_mul, Int.one_mul]
          have m6 : (b - 1) * y = b * y - y := by rw [Int.sub_mul, Int.one_mul]
          have q1 : wrap64 (a * x) = a * x := w64 _ (by omega)
          have q2 : wrap64 (b * y) = b * y := w64 _ (by omega)
          have q3 : wrap64 (a - 1) = a - 1 := w64 _ (by omega)
          have q4 : wrap64 (b - 1) = b - 1 := w64 _ (by omega)
          have q5 : wrap64 ((a - 1) * x) = (a - 1) * x := w64 _ (by omega)
          have q6 : wrap64 ((b - 1) * y) = (b - 1) * y := w64 _ (by omega)
          have z1 : W ≤ a * x := za1
          have z2 : (a - 1) * x < W := za2
          have z3 : H ≤ b * y := zb1
          have z4 : (b - 1) * y < H := zb2
          clear m1 m2 m3 m4 m5 m6
          go_wp2_with fail
          refine (known_any _).mono ?_
          rintro e w7 ⟨rfl, b7⟩
          replace kk := kk.step b7
          have c0 := kk.head.at 0
          have c1 := kk.head.at 1
          simp only [List.getElem?_cons_zero, List.getElem?_cons_succ] at c0 c1
          go_wp2_with fail
          go_ret
          exact ⟨rfl, kk.but⟩

set_option maxRecDepth 100000 in
theorem lifted (os : Os) (started : os.Started) (H : Type) (enc : TypeId × Value → H) :
    ReturnsInHanded {} Tryd.checked os 6 .any (fun w args => (Rows.planeCountsSpec.pre enc Tryd.prog Tryd.f6 Rows.planeCountsRow.domain false w args ∧ laidMetH Tryd.prog Rows.planeCountsRow.laid w) ∧ sizedMet enc Tryd.prog Tryd.f6 (OpenSpec.ofChange Rows.planeCountsSpec) false w args) (Rows.planeCountsSpec.post enc Tryd.prog Tryd.f6 false true false false) := by
  refine returnsInHanded_of_change_and (C := Tryd.checked) (X := fun w _ => laidMetH Tryd.prog laidL w) (fun _ _ _ hh h => h.of_heap hh) own started (by kernel_rfl) Tryd.func6
    (ChangeSpec.witness_shaped (enc := enc) (C := Tryd.checked) (os := os) (X := fun w _ => laidMetH Tryd.prog laidL w) false (World.laidAll Tryd.prog os laidL) #[.int .u8 0, .int .u8 0, .int .u8 0, .slice none 0 0] 8 (World.laidAll_os _ _ _) (World.shaped_of_ZipB (by kernel_rfl) (by kernel_rfl)) (by kernel_rfl) (by kernel_rfl) (by kernel_rfl) (by rw [MakeChecks.laidMetH_plain _ _ _ (by kernel_rfl)]; exact laidMet_laidAll _ (by kernel_rfl) (by kernel_rfl))) ?_
  intro W base args ds gs before hval0 hW hcnd hsz0 hL0 _
  have hTW := tab_of_laid hL0
  have hval : ∀ (j : Nat) t v, Tryd.f6.params[j]? = some t → args[j]? = some v → Value.okWide Tryd.prog W .any base t v := hval0
  have hsz : (DataW.weightsEach Tryd.prog (Tryd.f6.params.toList ++ Rows.planeCountsSpec.plain.varTypes Tryd.prog) (ds ++ gs)).all (· ≤ reachBytes) = true := hsz0
  have hW' := hW
  obtain ⟨p, q, hA0, hV, rfl, hfz, hnd⟩ := hW
  have hA : DataW.TrodAll enc Tryd.prog W 0 (fun _ => true) true Tryd.f6.params.toList args.toList ds p := hA0
  rw [Tryd.params6] at hA hval hsz
  obtain ⟨v0, vs0, d0, ds0, p0, q0, hargs, rfl, rfl, h0, r0⟩ := trodAll_cons hA
  obtain ⟨v1, vs1, d1, ds1, p1, q1, rfl, rfl, rfl, h1, r1⟩ := trodAll_cons r0
  obtain ⟨v2, vs2, d2, ds2, p2, q2, rfl, rfl, rfl, h2, r2⟩ := trodAll_cons r1
  obtain ⟨v3, vs3, d3, ds3, p3, q3, rfl, rfl, rfl, h3, r3⟩ := trodAll_cons r2
  obtain ⟨rfl, rfl, rfl⟩ := trodAll_nil r3
  obtain rfl : args = #[v0, v1, v2, v3] := by cases args; simp_all
  obtain ⟨rfl, rfl⟩ := trodVars_none hV
  obtain ⟨a0, rfl, rfl, rfl, w0⟩ := open_int Tryd.underlying5 (hval 0 5 v0 rfl rfl) h0
  obtain ⟨a1, rfl, rfl, rfl, w1⟩ := open_int Tryd.underlying5 (hval 1 5 v1 rfl rfl) h1
  obtain ⟨a2, rfl, rfl, rfl, w2⟩ := open_int Tryd.underlying5 (hval 2 5 v2 rfl rfl) h2
  obtain ⟨l3, ⟨s3, x3⟩, e3⟩ := open_bytes (hval 3 24 v3 rfl rfl) h3
  have n3 := bytes_small hsz (j := 3) rfl rfl e3
  clear hA0 hval0
  refine (walk W hTW a0 w0 a1 w1 a2 w2 v3 l3 s3 x3 n3).mono fun e W' ⟨he, hg⟩ => ?_
  subst he
  exact ⟨_, rfl, law_post laidOut readable rfl Tryd.underlying4 rfl rfl hW' hg.below⟩

theorem over : Rows.planeCountsRow.holds Tryd.pinned (OpenSpec.ofChange Rows.planeCountsSpec) :=
  OpenClaim.holds_of_wide 6 Tryd.f6 rfl rfl rfl rfl rfl rfl rfl ⟨rfl, rfl, rfl, rfl, rfl⟩ rfl rfl rfl rfl rfl (by kernel_rfl) Tryd.func6 (by kernel_rfl)
    (of_decide_eq_true (by kernel_rfl)) (by unfold Func.isWrapper; first | (rw [if_pos (by decide +kernel)]; kernel_rfl) | (rw [if_neg (by decide +kernel)]; exact ⟨rfl, rfl⟩))
    (fun os started H enc _ => lifted os started H enc)

end Go.Proofs.YtppbnmlgilgnnaaDoor.planeCounts
namespace Go.Proofs.YtppbnmlgilgnnaaDoor
set_option maxRecDepth 100000 in
theorem planeCounts_holds : Rows.PlaneCountsCardSaid :=
  Claim7.holds_tied_plain_at .later [] [.data, .data] true (true, "ab5aa4f614d791b3d8cb4fdca616c939dd2ef51ee4a4484fecb3b38df204f3c9") false planeCounts.over (fun _ h => by cases h) (by kernel_rfl) (fun _ h => by cases h) planeCounts_row_tie rfl ⟨rfl, rfl⟩ (by kernel_rfl) rfl
    (fun f fn hf hfn => by
      obtain rfl : f = 6 := Option.some.inj ((show Tryd.prog.funcNamed "cyanotype/cyanotypelaw07.PlaneCounts" = some 6 by kernel_rfl).symm.trans hf) |>.symm
      obtain rfl : fn = Tryd.f6 := (Option.some.inj (Tryd.func6.symm.trans hfn)).symm
      exact ⟨by kernel_rfl, fun j t ht => by
        rw [Tryd.params6] at ht
        have hm : t ∈ [5, 5, 5, 24] := by simpa using Array.mem_of_getElem? ht
        have hall : ([5, 5, 5, 24].all fun u => !Tryd.prog.wantsStandIn u) = true := by kernel_rfl
        exact (show Tryd.prog.wantsStandIn t = false by simpa using List.all_eq_true.1 hall t hm)⟩)
    (by kernel_rfl)
#print axioms planeCounts_holds
end Go.Proofs.YtppbnmlgilgnnaaDoor
