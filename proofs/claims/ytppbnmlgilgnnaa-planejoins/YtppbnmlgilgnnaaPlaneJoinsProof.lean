/- Join of any blocks, and of choices, is what the chapter says; so is it of secrets. -/
import Derived.Test.YtppbnmlgilgnnaaPlRef1
import Derived.Test.YtppbnmlgilgnnaaMgA
import Derived.Test.YtppbnmlgilgnnaaMgC
import Derived.Test.YtppbnmlgilgnnaaMgB
import Derived.Test.YtppbnmlgilgnnaaFrame
import Derived.Test.YtppbnmlgilgnnaaRows
namespace Go.Proofs.Ytppbnmlgilgnnaa.planeJoins
open Go.ChangeShapes Go.WideShapes Go.ChangeAt Go.RowKit
set_option linter.unusedVariables false

theorem own : ownKnob Try.prog.godebug = none := by kernel_rfl
theorem laidOut : laidOutB Try.prog = true := by kernel_rfl
theorem readable : ∀ t ∈ Try.f4.params.toList, Try.prog.readableRec t = true ∧ t < Try.prog.types.size := by
  rw [Try.params4]
  simp only [List.mem_cons, List.not_mem_nil, or_false, forall_eq_or_imp, forall_eq]
  refine ⟨⟨by kernel_rfl, of_decide_eq_true (by kernel_rfl)⟩, ⟨by kernel_rfl, of_decide_eq_true (by kernel_rfl)⟩, ⟨by kernel_rfl, of_decide_eq_true (by kernel_rfl)⟩, ⟨by kernel_rfl, of_decide_eq_true (by kernel_rfl)⟩, ⟨by kernel_rfl, of_decide_eq_true (by kernel_rfl)⟩, ⟨by kernel_rfl, of_decide_eq_true (by kernel_rfl)⟩, ⟨by kernel_rfl, of_decide_eq_true (by kernel_rfl)⟩⟩

set_option maxHeartbeats 20000000 in
set_option maxRecDepth 100000 in
theorem walk (w : World) (p0W p0H p0m p0q p0i p0c : Int) (x0 : I64 p0W ∧ I64 p0H ∧ I64 p0m) (v1 : Value) (n1 : Nat) (L1 : Nat → Nat) (F1 : Nat → Nat → Int) (s1 : BA w v1 n1 L1 F1) (v2 : Value) (l2 : List Int) (s2 : View w .u8 v2 l2) (x2 : ∀ x ∈ l2, 0 ≤ x ∧ x ≤ 255) (n2 : l2.length ≤ 140737488355328) (a3 : Int) (w3 : (Lit.int .u8 a3).wf = true) (a4 : Int) (w4 : (Lit.int .u8 a4).wf = true) (a5 : Int) (w5 : (Lit.int .u8 a5).wf = true) (a6 : Int) (w6 : (Lit.int .u8 a6).wf = true) :
    Calls Try.prog 4 #[pV p0W p0H p0m p0q p0i p0c, v1, v2, .int .u8 a3, .int .u8 a4, .int .u8 a5, .int .u8 a6] w fun e w' => e = .returned (.bool true) ∧ But Nowhere w w' := by
  have a3r : 0 ≤ a3 ∧ a3 ≤ 255 := u8_in w3
  have a4r : 0 ≤ a4 ∧ a4 ≤ 255 := u8_in w4
  have a5r : 0 ≤ a5 ∧ a5 ≤ 255 := u8_in w5
  have a6r : 0 ≤ a6 ∧ a6 ≤ 255 := u8_in w6
  obtain ⟨W, hW⟩ : ∃ W, 1 + a3 % 40 = W := ⟨_, rfl⟩
  obtain ⟨H, hH⟩ : ∃ H, 1 + a4 % 24 = H := ⟨_, rfl⟩
  obtain ⟨m, hm⟩ : ∃ m, 1 + a5 % 4 = m := ⟨_, rfl⟩
  have f : Fit W H m := ⟨by omega, by omega, by omega, by
    have : W * H ≤ 40 * 24 := Int.mul_le_mul (by omega) (by omega) (by omega) (by omega)
    omega⟩
  have HW : Hid (1 + a3 % 40 = W ∧ 1 + a4 % 24 = H ∧ 1 + a5 % 4 = m) := ⟨hW, hH, hm⟩
  have hWs : W ≤ 40 ∧ H ≤ 24 := by omega
  have HNs : Hid ((gridW W H m * gridH W H m).toNat ≤ 1000) := grid_tiny f hWs.1 hWs.2
  have Hf : Hid (Fit W H m) := f
  clear hW hH hm f hWs
  have s1' := s1
  obtain ⟨vo1, vc1, rfl, -⟩ := s1'
  obtain ⟨vo2, vc2, rfl⟩ := s2.slice
  obtain ⟨A1, B1, r1, l1, HA10, HA20⟩ := join_both p0W p0H p0m p0q p0i p0c (.slice vo1 n1 vc1) n1 L1 F1
  have HA1 : Hid _ := HA10
  have HA2 : Hid _ := HA20
  clear HA10 HA20
  have kk := (Keep.start w).made 23 (pC p0W p0H p0m p0q p0i p0c)
  obtain ⟨PA, hPA⟩ : ∃ z, w.heap.size = z := ⟨_, rfl⟩
  rw [hPA] at kk
  by_cases hbig : (10 : Int) < (n1 : Int)
  · have hb2 : decide ((10 : Int) < (n1 : Int)) = true := by simpa using hbig
    have hb3 : 10 < n1 := by omega
    go_enter Try.func4, Try.ntmps4
    go_wp2_with fail
    refine (known_any _).mono ?_
    rintro e w1 ⟨rfl, b1⟩
    have HB : Hid (But Nowhere w w1) := kk.but.trans b1
    clear b1 kk
    go_wp2_with fail
    go_ret
    exact ⟨rfl, HB.out⟩
  · have hb2 : decide ((10 : Int) < (n1 : Int)) = false := by simpa using hbig
    have hb3 : ¬ 10 < n1 := by omega
    go_enter Try.func4, Try.ntmps4
    go_wp2_with fail
    refine (known_any _).mono ?_
    rintro e w1 ⟨rfl, b1⟩
    replace kk := kk.step b1
    clear b1
    go_wp2_with fail
    refine (public_any _ _ _ a3r a4r a5r _).mono ?_
    rintro e w2 ⟨rfl, b2⟩
    rw [HW.out.1, HW.out.2.1, HW.out.2.2]
    replace kk := (kk.step b2).made 23 (pC W H m 50 1 0)
    clear b2 HW a3r a4r a5r
    obtain ⟨PB, hPB⟩ : ∃ b, w2.heap.size = b := ⟨_, rfl⟩
    rw [hPB] at kk
    go_wp2_with fail
    clear hPB
    revert kk
    generalize w2.alloc (.cells #[.int .i64 W, .int .i64 H, .int .i64 m, .int .i64 50, .int .i64 1, .int .i64 0] 23) = w2'
    intro kk
    refine (blocks_any W H m Hf.out _ l2 _ w2' (s2.but kk.but) x2 n2 HNs.out).mono ?_
    rintro e w3 ⟨⟨vB, nB, LB, FB, rfl, hB2, hn2, hL2, hF2⟩, b3⟩
    obtain ⟨A2, B2, r2, lx, ⟨hx2, hl2⟩, HJ10, HJ20, HJ30⟩ := join_three W H m 50 1 0 Hf.out vB nB LB FB hF2
    have s9 := hB2
    obtain ⟨bo, bc, rfl, -⟩ := s9
    have HJ1 : Hid _ := HJ10
    have HJ2 : Hid _ := HJ20
    have HJ3 : Hid _ := HJ30
    have HL2 : Hid (∀ i, LB i ≤ 6) := hL2
    have HX2 : Hid (∀ x ∈ lx, 0 ≤ x ∧ x ≤ 255) := hx2
    replace kk := kk.step b3
    have gP := kk.head
    have c0 := gP.at 0
    have c1 := gP.at 1
    have c2 := gP.at 2
    have c3 := gP.at 3
    have c4 := gP.at 4
    have c5 := gP.at 5
    simp only [List.getElem?_cons_zero, List.getElem?_cons_succ] at c0 c1 c2 c3 c4 c5
    clear HJ10 HJ20 HJ30 hL2 hF2 hx2 b3 gP
    go_wp2_with fail
    refine (HJ2.out _ hB2).mono ?_
    rintro e w4 ⟨⟨vx, rfl, hVX⟩, b4⟩
    obtain ⟨xo, xc, rfl⟩ := hVX.slice
    replace kk := (kk.step b4).made 34 (imC A2 B2 r2 (.slice xo lx.length xc))
    replace hB2 := (hB2.but b4).but ((But.refl Nowhere w4).alloc (.cells #[.int .i64 A2, .int .i64 B2, .bool r2, .slice xo lx.length xc] 34))
    replace hVX := hVX.but ((But.refl Nowhere w4).alloc (.cells #[.int .i64 A2, .int .i64 B2, .bool r2, .slice xo lx.length xc] 34))
    have hB1 : BA _ _ n1 L1 F1 := s1.but kk.but
    clear b4 c0 c1 c2 c3 c4 c5
    obtain ⟨MB, hMB⟩ : ∃ b, w4.heap.size = b := ⟨_, rfl⟩
    rw [hMB] at kk
    go_wp2_with fail
    clear hMB
    revert hVX
    revert hB2
    revert hB1
    revert kk
    generalize w4.alloc (.cells #[.int .i64 A2, .int .i64 B2, .bool r2, .slice xo lx.length xc] 34) = w5
    intro kk hB1 hB2 hVX
    replace kk := kk.drew
    replace hB1 := hB1.but (But.refl Nowhere _).drew
    replace hB2 := hB2.but (But.refl Nowhere _).drew
    replace hVX := hVX.but (But.refl Nowhere _).drew
    have HS : ∀ V, Keep w V [(MB, 34, imC A2 B2 r2 (.slice xo lx.length xc)), (PB, 23, pC W H m 50 1 0), (PA, 23, pC p0W p0H p0m p0q p0i p0c)] → ((V.cell? ⟨PA, 0, none⟩ = some (.int .i64 p0W) ∧ V.cell? ⟨PA, 1, none⟩ = some (.int .i64 p0H) ∧ V.cell? ⟨PA, 2, none⟩ = some (.int .i64 p0m) ∧ V.cell? ⟨PA, 3, none⟩ = some (.int .i64 p0q) ∧ V.cell? ⟨PA, 4, none⟩ = some (.int .i64 p0i) ∧ V.cell? ⟨PA, 5, none⟩ = some (.int .i64 p0c)) ∧ (V.cell? ⟨PB, 0, none⟩ = some (.int .i64 W) ∧ V.cell? ⟨PB, 1, none⟩ = some (.int .i64 H) ∧ V.cell? ⟨PB, 2, none⟩ = some (.int .i64 m) ∧ V.cell? ⟨PB, 3, none⟩ = some (.int .i64 50) ∧ V.cell? ⟨PB, 4, none⟩ = some (.int .i64 1) ∧ V.cell? ⟨PB, 5, none⟩ = some (.int .i64 0)) ∧ (V.cell? ⟨MB, 0, none⟩ = some (.int .i64 A2) ∧ V.cell? ⟨MB, 1, none⟩ = some (.int .i64 B2) ∧ V.cell? ⟨MB, 2, none⟩ = some (.bool r2) ∧ V.cell? ⟨MB, 3, none⟩ = some (.slice xo lx.length xc))) := fun V kk => have gA := (kk.get (b := PA) (t := 23) (c := pC p0W p0H p0m p0q p0i p0c) (by simp)); have gP := (kk.get (b := PB) (t := 23) (c := pC W H m 50 1 0) (by simp)); have gN := kk.head; ⟨⟨gA.at 0, gA.at 1, gA.at 2, gA.at 3, gA.at 4, gA.at 5⟩, ⟨gP.at 0, gP.at 1, gP.at 2, gP.at 3, gP.at 4, gP.at 5⟩, ⟨gN.at 0, gN.at 1, gN.at 2, gN.at 3⟩⟩
    go_wp2_with fail
    refine wp_region_till (S := fun V => (V.cell? ⟨PA, 0, none⟩ = some (.int .i64 p0W) ∧ V.cell? ⟨PA, 1, none⟩ = some (.int .i64 p0H) ∧ V.cell? ⟨PA, 2, none⟩ = some (.int .i64 p0m) ∧ V.cell? ⟨PA, 3, none⟩ = some (.int .i64 p0q) ∧ V.cell? ⟨PA, 4, none⟩ = some (.int .i64 p0i) ∧ V.cell? ⟨PA, 5, none⟩ = some (.int .i64 p0c)) ∧ (V.cell? ⟨PB, 0, none⟩ = some (.int .i64 W) ∧ V.cell? ⟨PB, 1, none⟩ = some (.int .i64 H) ∧ V.cell? ⟨PB, 2, none⟩ = some (.int .i64 m) ∧ V.cell? ⟨PB, 3, none⟩ = some (.int .i64 50) ∧ V.cell? ⟨PB, 4, none⟩ = some (.int .i64 1) ∧ V.cell? ⟨PB, 5, none⟩ = some (.int .i64 0)) ∧ (V.cell? ⟨MB, 0, none⟩ = some (.int .i64 A2) ∧ V.cell? ⟨MB, 1, none⟩ = some (.int .i64 B2) ∧ V.cell? ⟨MB, 2, none⟩ = some (.bool r2) ∧ V.cell? ⟨MB, 3, none⟩ = some (.slice xo lx.length xc))) (R := fun _ => True) (k := 100) (m := 100) (by kernel_rfl) (HS _ kk) trivial ?_
    (refine Walk.take (i := 0) (oi := { dst := some 40, op := Op.load 23 (Operand.tmp 15), type := 23, pos := "law.go:158", after := #[], guard := none }) (v := ?_) rfl (by kernel_rfl) (by kernel_rfl) (by kernel_rfl) (by kernel_rfl) (fun _ _ _ h => h) (Or.inl ⟨by rfl, ?_⟩) ?_; rotate_left; (intro w hw; have hS1 := hw.1 (by kernel_rfl); clear hw; (try dsimp only at hS1); (try go_split_ands); go_simp; try (with_reducible rfl)); simp only [Act.put, List.setIfInBounds_toArray, List.set_cons_zero, List.set_cons_succ])
    (refine Walk.take (i := 1) (oi := { dst := some 41, op := Op.move (Operand.tmp 16), type := 29, pos := "law.go:158", after := #[], guard := none }) (v := ?_) rfl (by kernel_rfl) (by kernel_rfl) (by kernel_rfl) (by kernel_rfl) (fun _ _ _ h => h) (Or.inl ⟨by rfl, ?_⟩) ?_; rotate_left; (intro w hw; clear hw; (try go_split_ands); go_simp; try (with_reducible rfl)); simp only [Act.put, List.setIfInBounds_toArray, List.set_cons_zero, List.set_cons_succ])
    (refine Walk.go (i := 2) (o := { dst := some 42, op := Op.call { callee := Callee.value (Operand.func 13), args := #[Operand.tmp 41], argTypes := #[29] }, type := 38, pos := "law.go:158", after := #[{ on := 1, ground := Ground.data }], guard := none }) (by kernel_rfl) rfl (fun K hK => ?_); go_simp; ((go_at_call 13; refine (hidden_any _ nB LB FB _ hB2 (by omega) (fun i _ => Nat.le_trans (HL2.out i) (by omega))).mono ?_; rintro e x1 ⟨⟨vH, rfl, hBH⟩, d⟩; replace kk := kk.step d; replace hB1 := hB1.but d; replace hB2 := hB2.but d; replace hVX := hVX.but d; clear d)); refine hK.out _ _ (⟨fun _ => HS _ kk, fun _ => trivial⟩) ?_; clear hK K; try simp only [Act.put, List.setIfInBounds_toArray, List.set_cons_zero, List.set_cons_succ])
    (refine Walk.go (i := 3) (o := { dst := some 43, op := Op.call { callee := Callee.value (Operand.func 12), args := #[Operand.tmp 40, Operand.tmp 42], argTypes := #[23, 38] }, type := 36, pos := "law.go:158", after := #[{ on := 0, ground := Ground.data }, { on := 2, ground := Ground.data }, { on := 2, ground := Ground.chain }], guard := none }) (by kernel_rfl) rfl (fun K hK => ?_); go_simp; ((go_at_call 12; refine (HJ3.out _ _ hBH).mono ?_; rintro e x2 ⟨⟨vS, rfl, hVS⟩, d⟩; replace kk := kk.step d; replace hB1 := hB1.but d; replace hB2 := hB2.but d; replace hVX := hVX.but d; clear d hBH)); refine hK.out _ _ (⟨fun _ => HS _ kk, fun _ => trivial⟩) ?_; clear hK K; try simp only [Act.put, List.setIfInBounds_toArray, List.set_cons_zero, List.set_cons_succ])
    (refine Walk.take (i := 4) (oi := { dst := some 18, op := Op.assign (Operand.tmp 43), type := 36, pos := "law.go:158", after := #[{ on := 3, ground := Ground.data }, { on := 3, ground := Ground.chain }, { on := 0, ground := Ground.phase }, { on := 1, ground := Ground.phase }, { on := 2, ground := Ground.phase }, { on := 3, ground := Ground.phase }], guard := none }) (v := ?_) rfl (by kernel_rfl) (by kernel_rfl) (by kernel_rfl) (by kernel_rfl) (fun _ _ _ h => h) (Or.inl ⟨by rfl, ?_⟩) ?_; rotate_left; (intro w hw; clear hw; (try go_split_ands); go_simp; try (with_reducible rfl)); simp only [Act.put, List.setIfInBounds_toArray, List.set_cons_zero, List.set_cons_succ])
    refine Walk.done (by kernel_rfl) ?_ _
    obtain ⟨so0, sc, rfl⟩ := hVS.slice
    have x3 := kk.head.at 3
    simp only [List.getElem?_cons_zero, List.getElem?_cons_succ] at x3
    have hne : ((lx.length : Int) != (lx.length : Int)) = false := by simp
    have HHS : Hid _ := HS
    have HK : Hid _ := And.intro kk (And.intro hB1 (And.intro hB2 (And.intro hVX hVS)))
    clear HS kk hB1 hB2 hVX hVS
    go_wp2_with fail
    clear hne
    go_loopw [19] (fun i V => ∃ k : Nat, k ≤ lx.length ∧ i = .int .i64 k ∧ But Nowhere x2 V) (fun i _ => lx.length - (intOf i).toNat)
    case atStart => exact ⟨0, Nat.zero_le _, rfl, But.refl _ _⟩
    case round =>
      obtain ⟨k, hk, rfl, hb⟩ := hrel
      by_cases hlt : k < lx.length
      · have i0 : (0 : Int) ≤ (k : Int) := by omega
        have i1 : (k : Int) < (lx.length : Int) := by omega
        obtain ⟨-, -, -, hVX, hVS⟩ := HK.out
        obtain ⟨-, sb, so, rfl, -, hs⟩ := hVS.at k hlt
        obtain ⟨-, xb, xoff, rfl, -, hxc⟩ := hVX.at k hlt
        obtain ⟨x, hxk⟩ : ∃ x, lx[k] = x := ⟨_, rfl⟩
        rw [hxk] at hs hxc
        have hx5 : 0 ≤ x ∧ x ≤ 255 := by rw [← hxk]; exact HX2.out _ (List.getElem_mem hlt)
        have ew : IntKind.i64.wrap x = x := by rw [wrap_i64_eq]; exact w64 _ (by omega)
        have HS2 : ∀ V, But Nowhere x2 V → (V.cell? ⟨sb, so + k, none⟩ = some (.int .i64 x) ∧ V.cell? ⟨MB, 3, none⟩ = some (.slice (some ⟨xb, xoff, none⟩) lx.length xc) ∧ V.cell? ⟨xb, xoff + k, none⟩ = some (.int .u8 x)) := fun V hb => ⟨hb.keeps (not_nowhere _) hs, hb.keeps (not_nowhere _) x3, hb.keeps (not_nowhere _) hxc⟩
        have bu := hb.drew
        clear hxk hVX hVS hs hxc hb x3
        go_wp2_with fail
        refine wp_region_till (S := fun V => V.cell? ⟨sb, so + k, none⟩ = some (.int .i64 x) ∧ V.cell? ⟨MB, 3, none⟩ = some (.slice (some ⟨xb, xoff, none⟩) lx.length xc) ∧ V.cell? ⟨xb, xoff + k, none⟩ = some (.int .u8 x)) (R := fun _ => True) (k := 100) (m := 100) (by kernel_rfl) (HS2 _ bu) trivial ?_
        (refine Walk.take (i := 0) (oi := { dst := some 56, op := Op.move (Operand.tmp 18), type := 36, pos := "law.go:163", after := #[], guard := none }) (v := ?_) rfl (by kernel_rfl) (by kernel_rfl) (by kernel_rfl) (by kernel_rfl) (fun _ _ _ h => h) (Or.inl ⟨by rfl, ?_⟩) ?_; rotate_left; (intro w hw; clear hw; (try go_split_ands); go_simp; try (with_reducible rfl)); simp only [Act.put, List.setIfInBounds_toArray, List.set_cons_zero, List.set_cons_succ])
        (refine Walk.take (i := 1) (oi := { dst := some 57, op := Op.move (Operand.tmp 19), type := 3, pos := "law.go:163", after := #[], guard := none }) (v := ?_) rfl (by kernel_rfl) (by kernel_rfl) (by kernel_rfl) (by kernel_rfl) (fun _ _ _ h => h) (Or.inl ⟨by rfl, ?_⟩) ?_; rotate_left; (intro w hw; clear hw; (try go_split_ands); go_simp; try (with_reducible rfl)); simp only [Act.put, List.setIfInBounds_toArray, List.set_cons_zero, List.set_cons_succ])
        (refine Walk.take (i := 2) (oi := { dst := some 58, op := Op.indexAddr 36 (Operand.tmp 56) (Operand.tmp 57), type := 0, pos := "law.go:163", after := #[{ on := 0, ground := Ground.data }, { on := 1, ground := Ground.data }], guard := none }) (v := ?_) rfl (by kernel_rfl) (by kernel_rfl) (by kernel_rfl) (by kernel_rfl) (fun _ _ _ h => h) (Or.inl ⟨by rfl, ?_⟩) ?_; rotate_left; (intro w hw; clear hw; (try go_split_ands); go_simp; try (with_reducible rfl)); simp only [Act.put, List.setIfInBounds_toArray, List.set_cons_zero, List.set_cons_succ])
        (refine Walk.take (i := 3) (oi := { dst := some 59, op := Op.load 41 (Operand.tmp 58), type := 41, pos := "law.go:163", after := #[{ on := 2, ground := Ground.data }], guard := none }) (v := ?_) rfl (by kernel_rfl) (by kernel_rfl) (by kernel_rfl) (by kernel_rfl) (fun _ _ _ h => h) (Or.inl ⟨by rfl, ?_⟩) ?_; rotate_left; (intro w hw; have hS1 := hw.1 (by kernel_rfl); clear hw; (try dsimp only at hS1); (try go_split_ands); go_simp; try (with_reducible rfl)); simp only [Act.put, List.setIfInBounds_toArray, List.set_cons_zero, List.set_cons_succ])
        (refine Walk.take (i := 5) (oi := { dst := some 61, op := Op.fieldAddr 34 (Operand.tmp 17) 3, type := 0, pos := "law.go:163", after := #[], guard := none }) (v := ?_) rfl (by kernel_rfl) (by kernel_rfl) (by kernel_rfl) (by kernel_rfl) (fun _ _ _ h => h) (Or.inl ⟨by rfl, ?_⟩) ?_; rotate_left; (intro w hw; clear hw; (try go_split_ands); go_simp; try (with_reducible rfl)); simp only [Act.put, List.setIfInBounds_toArray, List.set_cons_zero, List.set_cons_succ])
        (refine Walk.take (i := 6) (oi := { dst := some 62, op := Op.load 30 (Operand.tmp 61), type := 30, pos := "law.go:163", after := #[{ on := 5, ground := Ground.data }], guard := none }) (v := ?_) rfl (by kernel_rfl) (by kernel_rfl) (by kernel_rfl) (by kernel_rfl) (fun _ _ _ h => h) (Or.inl ⟨by rfl, ?_⟩) ?_; rotate_left; (intro w hw; have hS1 := hw.1 (by kernel_rfl); clear hw; (try dsimp only at hS1); (try go_split_ands); go_simp; try (with_reducible rfl)); simp only [Act.put, List.setIfInBounds_toArray, List.set_cons_zero, List.set_cons_succ])
        (refine Walk.take (i := 7) (oi := { dst := some 63, op := Op.move (Operand.tmp 19), type := 3, pos := "law.go:163", after := #[], guard := none }) (v := ?_) rfl (by kernel_rfl) (by kernel_rfl) (by kernel_rfl) (by kernel_rfl) (fun _ _ _ h => h) (Or.inl ⟨by rfl, ?_⟩) ?_; rotate_left; (intro w hw; clear hw; (try go_split_ands); go_simp; try (with_reducible rfl)); simp only [Act.put, List.setIfInBounds_toArray, List.set_cons_zero, List.set_cons_succ])
        (refine Walk.take (i := 8) (oi := { dst := some 64, op := Op.indexAddr 30 (Operand.tmp 62) (Operand.tmp 63), type := 0, pos := "law.go:163", after := #[{ on := 6, ground := Ground.data }, { on := 7, ground := Ground.data }], guard := none }) (v := ?_) rfl (by kernel_rfl) (by kernel_rfl) (by kernel_rfl) (by kernel_rfl) (fun _ _ _ h => h) (Or.inl ⟨by rfl, ?_⟩) ?_; rotate_left; (intro w hw; clear hw; (try go_split_ands); go_simp; try (with_reducible rfl)); simp only [Act.put, List.setIfInBounds_toArray, List.set_cons_zero, List.set_cons_succ])
        (refine Walk.take (i := 9) (oi := { dst := some 65, op := Op.load 5 (Operand.tmp 64), type := 5, pos := "law.go:163", after := #[{ on := 8, ground := Ground.data }], guard := none }) (v := ?_) rfl (by kernel_rfl) (by kernel_rfl) (by kernel_rfl) (by kernel_rfl) (fun _ _ _ h => h) (Or.inl ⟨by rfl, ?_⟩) ?_; rotate_left; (intro w hw; have hS1 := hw.1 (by kernel_rfl); clear hw; (try dsimp only at hS1); (try go_split_ands); go_simp; try (with_reducible rfl)); simp only [Act.put, List.setIfInBounds_toArray, List.set_cons_zero, List.set_cons_succ])
        (refine Walk.take (i := 10) (oi := { dst := some 66, op := Op.convert 5 3 (Operand.tmp 65), type := 3, pos := "law.go:163", after := #[{ on := 9, ground := Ground.data }], guard := none }) (v := ?_) rfl (by kernel_rfl) (by kernel_rfl) (by kernel_rfl) (by kernel_rfl) (fun _ _ _ h => h) (Or.inl ⟨by rfl, ?_⟩) ?_; rotate_left; (intro w hw; clear hw; (try go_split_ands); go_simp; try (with_reducible rfl)); simp only [Act.put, List.setIfInBounds_toArray, List.set_cons_zero, List.set_cons_succ])
        (refine Walk.go (i := 4) (o := { dst := some 60, op := Op.call { callee := Callee.value (Operand.func 14), args := #[Operand.tmp 59, Operand.const (Value.pointer none)], argTypes := #[41, 70] }, type := 3, pos := "law.go:163", after := #[{ on := 3, ground := Ground.data }], guard := none }) (by kernel_rfl) rfl (fun K hK => ?_); go_simp; ((go_at_call 14; refine (tell_none _ _).mono ?_; rintro e x1 ⟨rfl, d⟩; replace bu := bu.trans d; clear d)); refine hK.out _ _ (⟨fun _ => HS2 _ bu, fun _ => trivial⟩) ?_; clear hK K; try simp only [Act.put, List.setIfInBounds_toArray, List.set_cons_zero, List.set_cons_succ])
        (refine Walk.take (i := 11) (oi := { dst := some 67, op := Op.binOp BinOp.neq 3 (Operand.tmp 60) (Operand.tmp 66) 3, type := 4, pos := "law.go:163", after := #[{ on := 4, ground := Ground.data }, { on := 10, ground := Ground.data }], guard := none }) (v := ?_) rfl (by kernel_rfl) (by kernel_rfl) (by kernel_rfl) (by kernel_rfl) (fun _ _ _ h => h) (Or.inl ⟨by rfl, ?_⟩) ?_; rotate_left; (intro w hw; clear hw; (try go_split_ands); go_simp; try (with_reducible rfl)); simp only [Act.put, List.setIfInBounds_toArray, List.set_cons_zero, List.set_cons_succ])
        refine Walk.done (by kernel_rfl) ?_ _
        clear HS2
        go_wp2_with fail
        go_roundw
        case rel => exact ⟨k + 1, by omega, by go_num, bu⟩
        case measure => simp [intOf]; omega
      · obtain rfl : k = lx.length := by omega
        have HS := HHS.out
        obtain ⟨kk, hB1, hB2, hVX, -⟩ := HK.out
        replace kk := (kk.step hb).drew
        replace hB1 := (hB1.but hb).but (But.refl Nowhere _).drew
        replace hB2 := (hB2.but hb).but (But.refl Nowhere _).drew
        replace hVX := (hVX.but hb).but (But.refl Nowhere _).drew
        clear hb x3 HK HHS
        go_wp2_with fail
        refine wp_region_till (S := fun V => (V.cell? ⟨PA, 0, none⟩ = some (.int .i64 p0W) ∧ V.cell? ⟨PA, 1, none⟩ = some (.int .i64 p0H) ∧ V.cell? ⟨PA, 2, none⟩ = some (.int .i64 p0m) ∧ V.cell? ⟨PA, 3, none⟩ = some (.int .i64 p0q) ∧ V.cell? ⟨PA, 4, none⟩ = some (.int .i64 p0i) ∧ V.cell? ⟨PA, 5, none⟩ = some (.int .i64 p0c)) ∧ (V.cell? ⟨PB, 0, none⟩ = some (.int .i64 W) ∧ V.cell? ⟨PB, 1, none⟩ = some (.int .i64 H) ∧ V.cell? ⟨PB, 2, none⟩ = some (.int .i64 m) ∧ V.cell? ⟨PB, 3, none⟩ = some (.int .i64 50) ∧ V.cell? ⟨PB, 4, none⟩ = some (.int .i64 1) ∧ V.cell? ⟨PB, 5, none⟩ = some (.int .i64 0)) ∧ (V.cell? ⟨MB, 0, none⟩ = some (.int .i64 A2) ∧ V.cell? ⟨MB, 1, none⟩ = some (.int .i64 B2) ∧ V.cell? ⟨MB, 2, none⟩ = some (.bool r2) ∧ V.cell? ⟨MB, 3, none⟩ = some (.slice xo lx.length xc))) (R := fun _ => True) (k := 100) (m := 100) (by kernel_rfl) (HS _ kk) trivial ?_
        (refine Walk.take (i := 0) (oi := { dst := some 68, op := Op.load 23 (Operand.tmp 7), type := 23, pos := "law.go:167", after := #[], guard := none }) (v := ?_) rfl (by kernel_rfl) (by kernel_rfl) (by kernel_rfl) (by kernel_rfl) (fun _ _ _ h => h) (Or.inl ⟨by rfl, ?_⟩) ?_; rotate_left; (intro w hw; have hS1 := hw.1 (by kernel_rfl); clear hw; (try dsimp only at hS1); (try go_split_ands); go_simp; try (with_reducible rfl)); simp only [Act.put, List.setIfInBounds_toArray, List.set_cons_zero, List.set_cons_succ])
        (refine Walk.take (i := 1) (oi := { dst := some 69, op := Op.move (Operand.tmp 1), type := 29, pos := "law.go:167", after := #[], guard := none }) (v := ?_) rfl (by kernel_rfl) (by kernel_rfl) (by kernel_rfl) (by kernel_rfl) (fun _ _ _ h => h) (Or.inl ⟨by rfl, ?_⟩) ?_; rotate_left; (intro w hw; clear hw; (try go_split_ands); go_simp; try (with_reducible rfl)); simp only [Act.put, List.setIfInBounds_toArray, List.set_cons_zero, List.set_cons_succ])
        (refine Walk.take (i := 3) (oi := { dst := some 71, op := Op.load 23 (Operand.tmp 7), type := 23, pos := "law.go:167", after := #[], guard := none }) (v := ?_) rfl (by kernel_rfl) (by kernel_rfl) (by kernel_rfl) (by kernel_rfl) (fun _ _ _ h => h) (Or.inl ⟨by rfl, ?_⟩) ?_; rotate_left; (intro w hw; have hS1 := hw.1 (by kernel_rfl); clear hw; (try dsimp only at hS1); (try go_split_ands); go_simp; try (with_reducible rfl)); simp only [Act.put, List.setIfInBounds_toArray, List.set_cons_zero, List.set_cons_succ])
        (refine Walk.take (i := 4) (oi := { dst := some 72, op := Op.move (Operand.tmp 1), type := 29, pos := "law.go:167", after := #[], guard := none }) (v := ?_) rfl (by kernel_rfl) (by kernel_rfl) (by kernel_rfl) (by kernel_rfl) (fun _ _ _ h => h) (Or.inl ⟨by rfl, ?_⟩) ?_; rotate_left; (intro w hw; clear hw; (try go_split_ands); go_simp; try (with_reducible rfl)); simp only [Act.put, List.setIfInBounds_toArray, List.set_cons_zero, List.set_cons_succ])
        (refine Walk.go (i := 2) (o := { dst := some 70, op := Op.call { callee := Callee.value (Operand.func 16), args := #[Operand.tmp 68, Operand.tmp 69], argTypes := #[23, 29] }, type := 34, pos := "law.go:167", after := #[{ on := 0, ground := Ground.data }, { on := 1, ground := Ground.data }], guard := none }) (by kernel_rfl) rfl (fun K hK => ?_); go_simp; ((go_at_call 16; refine (HA1.out _ hB1).mono ?_; rintro e y1 ⟨⟨pv1, rfl, hV1⟩, d⟩; replace kk := kk.step d; replace hB1 := hB1.but d; replace hB2 := hB2.but d; replace hVX := hVX.but d; clear d)); refine hK.out _ _ (⟨fun _ => HS _ kk, fun _ => trivial⟩) ?_; clear hK K; try simp only [Act.put, List.setIfInBounds_toArray, List.set_cons_zero, List.set_cons_succ])
        (refine Walk.go (i := 5) (o := { dst := some 73, op := Op.call { callee := Callee.value (Operand.func 11), args := #[Operand.tmp 71, Operand.tmp 72], argTypes := #[23, 29] }, type := 34, pos := "law.go:167", after := #[{ on := 3, ground := Ground.data }, { on := 4, ground := Ground.data }, { on := 2, ground := Ground.chain }], guard := none }) (by kernel_rfl) rfl (fun K hK => ?_); go_simp; ((go_at_call 11; refine (HA2.out _ hB1).mono ?_; rintro e y2 ⟨⟨pv2, rfl, hV2⟩, d⟩; replace hV1 := hV1.but d; replace kk := kk.step d; replace hB1 := hB1.but d; replace hB2 := hB2.but d; replace hVX := hVX.but d; clear d)); refine hK.out _ _ (⟨fun _ => HS _ kk, fun _ => trivial⟩) ?_; clear hK K; try simp only [Act.put, List.setIfInBounds_toArray, List.set_cons_zero, List.set_cons_succ])
        (refine Walk.go (i := 6) (o := { dst := some 74, op := Op.call { callee := Callee.value (Operand.func 15), args := #[Operand.tmp 70, Operand.tmp 73], argTypes := #[34, 34] }, type := 4, pos := "law.go:167", after := #[{ on := 2, ground := Ground.data }, { on := 5, ground := Ground.data }, { on := 5, ground := Ground.chain }], guard := none }) (by kernel_rfl) rfl (fun K hK => ?_); go_simp; ((go_at_call 15; refine (sameImage_all _ _ _ _ _ _ _ hV1 hV2).mono ?_; rintro e y3 ⟨rfl, d⟩; replace kk := kk.step d; replace hB1 := hB1.but d; replace hB2 := hB2.but d; replace hVX := hVX.but d; clear d hV1 hV2)); refine hK.out _ _ (⟨fun _ => HS _ kk, fun _ => trivial⟩) ?_; clear hK K; try simp only [Act.put, List.setIfInBounds_toArray, List.set_cons_zero, List.set_cons_succ])
        (refine Walk.take (i := 7) (oi := { dst := some 75, op := Op.move (Operand.tmp 74), type := 4, pos := "law.go:167", after := #[{ on := 6, ground := Ground.data }, { on := 6, ground := Ground.chain }], guard := none }) (v := ?_) rfl (by kernel_rfl) (by kernel_rfl) (by kernel_rfl) (by kernel_rfl) (fun _ _ _ h => h) (Or.inl ⟨by rfl, ?_⟩) ?_; rotate_left; (intro w hw; clear hw; (try go_split_ands); go_simp; try (with_reducible rfl)); simp only [Act.put, List.setIfInBounds_toArray, List.set_cons_zero, List.set_cons_succ])
        (refine Walk.take (i := 8) (oi := { dst := some 76, op := Op.load 23 (Operand.tmp 15), type := 23, pos := "law.go:167", after := #[{ on := 7, ground := Ground.guard }], guard := some (7, true) }) (v := ?_) rfl (by kernel_rfl) (by kernel_rfl) (by kernel_rfl) (by kernel_rfl) (fun _ _ _ h => h) (Or.inl ⟨by rfl, ?_⟩) ?_; rotate_left; (intro w hw; have hS1 := hw.1 (by kernel_rfl); clear hw; (try dsimp only at hS1); (try go_split_ands); go_simp; try (with_reducible rfl)); simp only [Act.put, List.setIfInBounds_toArray, List.set_cons_zero, List.set_cons_succ])
        (refine Walk.take (i := 9) (oi := { dst := some 77, op := Op.move (Operand.tmp 16), type := 29, pos := "law.go:167", after := #[{ on := 7, ground := Ground.guard }], guard := some (7, true) }) (v := ?_) rfl (by kernel_rfl) (by kernel_rfl) (by kernel_rfl) (by kernel_rfl) (fun _ _ _ h => h) (Or.inl ⟨by rfl, ?_⟩) ?_; rotate_left; (intro w hw; clear hw; (try go_split_ands); go_simp; try (with_reducible rfl)); simp only [Act.put, List.setIfInBounds_toArray, List.set_cons_zero, List.set_cons_succ])
        (refine Walk.take (i := 11) (oi := { dst := some 79, op := Op.load 34 (Operand.tmp 17), type := 34, pos := "law.go:167", after := #[{ on := 7, ground := Ground.guard }], guard := some (7, true) }) (v := ?_) rfl (by kernel_rfl) (by kernel_rfl) (by kernel_rfl) (by kernel_rfl) (fun _ _ _ h => h) (Or.inl ⟨by rfl, ?_⟩) ?_; rotate_left; (intro w hw; have hS1 := hw.1 (by kernel_rfl); clear hw; (try dsimp only at hS1); (try go_split_ands); go_simp; try (with_reducible rfl)); simp only [Act.put, List.setIfInBounds_toArray, List.set_cons_zero, List.set_cons_succ])
        (refine Walk.go (i := 10) (o := { dst := some 78, op := Op.call { callee := Callee.value (Operand.func 16), args := #[Operand.tmp 76, Operand.tmp 77], argTypes := #[23, 29] }, type := 34, pos := "law.go:167", after := #[{ on := 8, ground := Ground.data }, { on := 9, ground := Ground.data }, { on := 7, ground := Ground.chain }, { on := 7, ground := Ground.guard }], guard := some (7, true) }) (by kernel_rfl) rfl (fun K hK => ?_); go_simp; ((go_at_call 16; refine (HJ1.out _ hB2).mono ?_; rintro e y4 ⟨⟨pv4, rfl, hV4⟩, d⟩; replace kk := kk.step d; replace hB1 := hB1.but d; replace hB2 := hB2.but d; replace hVX := hVX.but d; clear d)); refine hK.out _ _ (⟨fun _ => HS _ kk, fun _ => trivial⟩) ?_; clear hK K; try simp only [Act.put, List.setIfInBounds_toArray, List.set_cons_zero, List.set_cons_succ])
        (refine Walk.go (i := 12) (o := { dst := some 80, op := Op.call { callee := Callee.value (Operand.func 15), args := #[Operand.tmp 78, Operand.tmp 79], argTypes := #[34, 34] }, type := 4, pos := "law.go:167", after := #[{ on := 10, ground := Ground.data }, { on := 11, ground := Ground.data }, { on := 10, ground := Ground.chain }, { on := 7, ground := Ground.guard }], guard := some (7, true) }) (by kernel_rfl) rfl (fun K hK => ?_); go_simp; ((go_at_call 15; refine (sameImage_all _ _ _ _ _ _ _ hV4 hVX).mono ?_; rintro e y5 ⟨rfl, d⟩; replace kk := kk.step d; replace hB1 := hB1.but d; replace hB2 := hB2.but d; replace hVX := hVX.but d; clear d hV4)); refine hK.out _ _ (⟨fun _ => HS _ kk, fun _ => trivial⟩) ?_; clear hK K; try simp only [Act.put, List.setIfInBounds_toArray, List.set_cons_zero, List.set_cons_succ])
        (refine Walk.take (i := 13) (oi := { dst := some 81, op := Op.pick (Operand.tmp 75) (Operand.tmp 80) (Operand.const (Value.bool false)), type := 4, pos := "law.go:167", after := #[{ on := 7, ground := Ground.data }, { on := 12, ground := Ground.data }], guard := none }) (v := ?_) rfl (by kernel_rfl) (by kernel_rfl) (by kernel_rfl) (by kernel_rfl) (fun _ _ _ h => h) (Or.inl ⟨by rfl, ?_⟩) ?_; rotate_left; (intro w hw; clear hw; (try go_split_ands); go_simp; try (with_reducible rfl)); simp only [Act.put, List.setIfInBounds_toArray, List.set_cons_zero, List.set_cons_succ])
        (refine Walk.take (i := 14) (oi := { dst := some 14, op := Op.assign (Operand.tmp 81), type := 4, pos := "law.go:167", after := #[{ on := 13, ground := Ground.data }, { on := 12, ground := Ground.chain }, { on := 0, ground := Ground.phase }, { on := 1, ground := Ground.phase }, { on := 2, ground := Ground.phase }, { on := 3, ground := Ground.phase }, { on := 4, ground := Ground.phase }, { on := 5, ground := Ground.phase }, { on := 6, ground := Ground.phase }, { on := 7, ground := Ground.phase }, { on := 8, ground := Ground.phase }, { on := 9, ground := Ground.phase }, { on := 10, ground := Ground.phase }, { on := 11, ground := Ground.phase }, { on := 12, ground := Ground.phase }, { on := 13, ground := Ground.phase }], guard := none }) (v := ?_) rfl (by kernel_rfl) (by kernel_rfl) (by kernel_rfl) (by kernel_rfl) (fun _ _ _ h => h) (Or.inl ⟨by rfl, ?_⟩) ?_; rotate_left; (intro w hw; clear hw; (try go_split_ands); go_simp; try (with_reducible rfl)); simp only [Act.put, List.setIfInBounds_toArray, List.set_cons_zero, List.set_cons_succ])
        refine Walk.done (by kernel_rfl) ?_ _
        clear HS
        go_wp2_with fail
        go_ret
        exact ⟨rfl, kk.but⟩

set_option maxRecDepth 100000 in
theorem lifted (os : Os) (started : os.Started) (H : Type) (enc : TypeId × Value → H) :
    ReturnsInHanded {} Try.checked os 4 .any (Rows.planeJoinsSpec.pre6 enc Try.prog Try.f4 Rows.planeJoinsRow.domain false) (Rows.planeJoinsSpec.post enc Try.prog Try.f4 false true false false) := by
  refine returnsInHanded_of_change_sized (C := Try.checked) own started (by kernel_rfl) Try.func4
    (ChangeSpec.witness6 (enc := enc) (C := Try.checked) false ⟨#[], #[.agg #[.int .i64 0, .int .i64 0, .int .i64 0, .int .i64 0, .int .i64 0, .int .i64 0], .slice none 0 0, .slice none 0 0, .int .u8 0, .int .u8 0, .int .u8 0, .int .u8 0], []⟩ 8 (by kernel_rfl) (by kernel_rfl) (by kernel_rfl) (by kernel_rfl)) ?_
  intro W base args ds gs before hval0 hW hcnd hsz0 _
  have hval : ∀ (j : Nat) t v, Try.f4.params[j]? = some t → args[j]? = some v → Value.okWide Try.prog W .any base t v := hval0
  have hsz : (DataW.weightsEach Try.prog (Try.f4.params.toList ++ Rows.planeJoinsSpec.plain.varTypes Try.prog) (ds ++ gs)).all (· ≤ reachBytes) = true := hsz0
  have hW' := hW
  obtain ⟨p, q, hA0, hV, rfl, hfz, hnd⟩ := hW
  have hA : DataW.TrodAll enc Try.prog W 0 (fun _ => true) true Try.f4.params.toList args.toList ds p := hA0
  rw [Try.params4] at hA hval hsz
  obtain ⟨v0, vs0, d0, ds0, p0, q0, hargs, rfl, rfl, h0, r0⟩ := trodAll_cons hA
  obtain ⟨v1, vs1, d1, ds1, p1, q1, rfl, rfl, rfl, h1, r1⟩ := trodAll_cons r0
  obtain ⟨v2, vs2, d2, ds2, p2, q2, rfl, rfl, rfl, h2, r2⟩ := trodAll_cons r1
  obtain ⟨v3, vs3, d3, ds3, p3, q3, rfl, rfl, rfl, h3, r3⟩ := trodAll_cons r2
  obtain ⟨v4, vs4, d4, ds4, p4, q4, rfl, rfl, rfl, h4, r4⟩ := trodAll_cons r3
  obtain ⟨v5, vs5, d5, ds5, p5, q5, rfl, rfl, rfl, h5, r5⟩ := trodAll_cons r4
  obtain ⟨v6, vs6, d6, ds6, p6, q6, rfl, rfl, rfl, h6, r6⟩ := trodAll_cons r5
  obtain ⟨rfl, rfl, rfl⟩ := trodAll_nil r6
  obtain rfl : args = #[v0, v1, v2, v3, v4, v5, v6] := by cases args; simp_all
  obtain ⟨rfl, rfl⟩ := trodVars_none hV
  obtain ⟨p0W, p0H, p0m, p0q, p0i, p0c, rfl, x0⟩ := open_P (hval 0 23 v0 rfl rfl) h0
  obtain ⟨n1, L1, F1, s1⟩ := open_blocks (hval 1 29 v1 rfl rfl) h1
  obtain ⟨l2, ⟨s2, x2⟩, e2⟩ := open_bytes (hval 2 30 v2 rfl rfl) h2
  have n2 := bytes_small hsz (j := 2) rfl rfl e2
  obtain ⟨a3, rfl, rfl, rfl, w3⟩ := open_int Try.underlying5 (hval 3 5 v3 rfl rfl) h3
  obtain ⟨a4, rfl, rfl, rfl, w4⟩ := open_int Try.underlying5 (hval 4 5 v4 rfl rfl) h4
  obtain ⟨a5, rfl, rfl, rfl, w5⟩ := open_int Try.underlying5 (hval 5 5 v5 rfl rfl) h5
  obtain ⟨a6, rfl, rfl, rfl, w6⟩ := open_int Try.underlying5 (hval 6 5 v6 rfl rfl) h6
  clear hA0 hval0
  refine (walk W p0W p0H p0m p0q p0i p0c x0 v1 n1 L1 F1 s1 v2 l2 s2 x2 n2 a3 w3 a4 w4 a5 w5 a6 w6).mono fun e W' ⟨he, hg⟩ => ?_
  subst he
  exact ⟨_, rfl, law_post laidOut readable rfl Try.underlying4 rfl rfl hW' hg.below⟩

theorem over : Rows.planeJoinsRow.holds Try.pinned (OpenSpec.ofChange Rows.planeJoinsSpec) :=
  OpenClaim.holds_of_wide 4 Try.f4 rfl rfl rfl rfl rfl rfl rfl ⟨rfl, rfl, rfl, rfl, rfl⟩ rfl rfl rfl rfl rfl (by kernel_rfl) Try.func4 (by kernel_rfl)
    (of_decide_eq_true (by kernel_rfl)) (by unfold Func.isWrapper; first | (rw [if_pos (by decide +kernel)]; kernel_rfl) | (rw [if_neg (by decide +kernel)]; exact ⟨rfl, rfl⟩))
    (fun os started H enc _ => lifted os started H enc)

theorem proved : Rows.PlaneJoinsSaid :=
  over
end Go.Proofs.Ytppbnmlgilgnnaa.planeJoins
namespace Go.Proofs.Ytppbnmlgilgnnaa
theorem planeJoins_holds : Rows.PlaneJoinsSaid := planeJoins.proved
#print axioms planeJoins_holds
end Go.Proofs.Ytppbnmlgilgnnaa
