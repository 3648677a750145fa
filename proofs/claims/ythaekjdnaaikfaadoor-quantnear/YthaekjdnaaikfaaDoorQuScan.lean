/- What Div and Round of package scan answer; num's Ceil; the document's Round. -/
import Derived.Test.YthaekjdnaaikfaaDoorSecNum
import Derived.Test.YthaekjdnaaikfaaDoorTill
import Derived.Test.YthaekjdnaaikfaaDoorCol1
namespace Go.Proofs.YthaekjdnaaikfaaDoor
set_option linter.unusedVariables false
open Go.ChangeShapes Go.WideShapes Go.ChangeAt Go.RowKit

theorem quo_bd (n d : Int) (h0 : 0 ≤ n) (h1 : 1 ≤ d) : 0 ≤ n / d ∧ n / d ≤ n ∧ 0 ≤ n / d * d ∧ n / d * d ≤ n ∧ n < n / d * d + d := by
  have a := Int.emod_add_mul_ediv n d
  have b := Int.emod_nonneg n (show d ≠ 0 by omega)
  have c := Int.emod_lt_of_pos n (show 0 < d by omega)
  rw [Int.mul_comm d] at a
  have e := Int.ediv_nonneg h0 (show 0 ≤ d by omega)
  exact ⟨e, Int.ediv_le_self _ h0, Int.mul_nonneg e (by omega), by omega, by omega⟩

theorem half_up (n d : Int) (h1 : 1 ≤ d) : (n + d / 2) / d = if d ≤ 2 * (n - n / d * d) then n / d + 1 else n / d := by
  have a := Int.emod_add_mul_ediv n d
  have b := Int.emod_nonneg n (show d ≠ 0 by omega)
  have c := Int.emod_lt_of_pos n (show 0 < d by omega)
  rw [Int.mul_comm d] at a
  by_cases h : d ≤ 2 * (n - n / d * d)
  · rw [if_pos h]
    have e : n + d / 2 = (n % d + d / 2 - d) + (n / d + 1) * d := by rw [Int.add_mul, Int.one_mul]; omega
    rw [e, Int.add_mul_ediv_right _ _ (by omega), Int.ediv_eq_zero_of_lt (by omega) (by omega)]; omega
  · rw [if_neg h]
    have e : n + d / 2 = (n % d + d / 2) + n / d * d := by omega
    rw [e, Int.add_mul_ediv_right _ _ (by omega), Int.ediv_eq_zero_of_lt (by omega) (by omega)]; omega

/-- A quotient by a product: n and d are below 2^16. -/
theorem div_prod (n d : Int) (h0 : 0 ≤ n) (h1 : n ≤ 65535) (d0 : 1 ≤ d) (d1 : d ≤ 65535) : n * ((4294967296 + d - 1) / d) / 4294967296 = n / d := by
  obtain ⟨q0, -, -, q3, q4⟩ := quo_bd n d h0 d0
  obtain ⟨c0, -, -, c3, c4⟩ := quo_bd (4294967296 + d - 1) d (by omega) d0
  generalize (4294967296 + d - 1) / d = c at *
  generalize n / d = q at *
  have l1 : q * 4294967296 ≤ q * (c * d) := Int.mul_le_mul_of_nonneg_left (by omega) q0
  have l2 : q * d * c ≤ n * c := Int.mul_le_mul_of_nonneg_right q3 c0
  have l3 : q * (c * d) = q * d * c := by rw [Int.mul_comm c d, Int.mul_assoc]
  apply Int.le_antisymm
  · apply Int.le_of_lt_add_one
    apply Int.ediv_lt_of_lt_mul (by omega)
    apply Classical.byContradiction
    intro hn
    have hn : (q + 1) * 4294967296 ≤ n * c := by omega
    have m1 := Int.mul_le_mul_of_nonneg_right hn (show 0 ≤ d by omega)
    have m2 : n * (c * d) ≤ n * (4294967296 + d - 1) := Int.mul_le_mul_of_nonneg_left (by omega) h0
    have m3 : n * c * d = n * (c * d) := Int.mul_assoc _ _ _
    have m4 : n * (4294967296 + d - 1) = n * 4294967296 + n * (d - 1) := by rw [← Int.mul_add]; congr 1; omega
    have m5 : n * (d - 1) ≤ 65535 * 65534 := Int.mul_le_mul h1 (by omega) (by omega) (by omega)
    have m6 : (q + 1) * 4294967296 * d = (q * d + d) * 4294967296 := by rw [Int.mul_assoc, Int.mul_comm 4294967296 d, ← Int.mul_assoc, Int.add_mul q 1 d, Int.one_mul]
    omega
  · exact Int.le_ediv_of_mul_le (by omega) (by omega)

set_option maxHeartbeats 400000 in
theorem numCeil_in (n d : Int) (w : World) (h0 : 0 ≤ n) (h1 : n ≤ 1099511627776) (h2 : 1 ≤ d) (h3 : d ≤ 1099511627776) : Calls Tryd.prog 64 #[.int .i64 n, .int .i64 d] w fun e w' => e = .returned (.int .i64 ((n + d - 1) / d)) ∧ w' = w := by
  go_enter Tryd.func64, Tryd.ntmps64
  go_wp2
  go_ret
  exact ⟨rfl, rfl⟩

set_option maxHeartbeats 400000 in
theorem refRound_pos (n d : Int) (w : World) (h0 : 0 ≤ n) (h1 : n ≤ 4611686018427387904) (h2 : 1 ≤ d) (h3 : d ≤ 1152921504606846976) : Calls Tryd.prog 28 #[.int .i64 n, .int .i64 d] w fun e w' => e = .returned (.int .i64 ((n + d / 2) / d)) ∧ w' = w := by
  obtain ⟨q0, q1, q2, q3, q4⟩ := quo_bd n d h0 h2
  have e1 : wrap64 (n / d * d) = n / d * d := w64 _ (by omega)
  rw [half_up n d h2]
  by_cases hc : d ≤ 2 * (n - n / d * d)
  · rw [if_pos hc]
    go_enter Tryd.func28, Tryd.ntmps28
    go_wp2
    go_ret
    exact ⟨rfl, rfl⟩
  · rw [if_neg hc]
    go_enter Tryd.func28, Tryd.ntmps28
    go_wp2
    go_ret
    exact ⟨rfl, rfl⟩

/-- To the nearest, halves away from 0. -/
def nearF (n d : Int) : Int := if n < 0 then -((-n + d / 2) / d) else (n + d / 2) / d

set_option maxHeartbeats 400000 in
theorem refRound_in (n d : Int) (w : World) (h0 : -4611686018427387904 ≤ n) (h1 : n ≤ 4611686018427387904) (h2 : 1 ≤ d) (h3 : d ≤ 1152921504606846976) : Calls Tryd.prog 28 #[.int .i64 n, .int .i64 d] w fun e w' => e = .returned (.int .i64 (nearF n d)) ∧ w' = w := by
  unfold nearF
  by_cases hn : n < 0
  · rw [if_pos hn]
    have r0 := Int.ediv_nonneg (show 0 ≤ -n + d / 2 by omega) (show 0 ≤ d by omega)
    have r1 := Int.ediv_le_self d (show 0 ≤ -n + d / 2 by omega)
    go_enter Tryd.func28, Tryd.ntmps28
    go_wp2_with (go_at_call 28; refine (refRound_pos _ _ _ (by omega) (by omega) (by omega) (by omega)).mono ?_; rintro e w' ⟨rfl, rfl⟩)
    go_ret
    exact ⟨rfl, rfl⟩
  · rw [if_neg hn]
    exact refRound_pos n d w (by omega) h1 h2 h3

/-- A variable in a block of its own. -/
def Box (w : World) (b : Nat) (t : TypeId) (v : Value) : Prop := w.heap[b]? = some (.cells #[v] t (0, 0))

theorem Box.lt {w : World} {b : Nat} {t : TypeId} {v : Value} (h : Box w b t v) : b < w.heap.size := (Array.getElem?_eq_some_iff.1 h).1
theorem Box.cell {w : World} {b : Nat} {t : TypeId} {v : Value} (h : Box w b t v) : w.cell? ⟨b, 0, none⟩ = some v := by rw [cell_of_row w b 0 _ _ _ h]; rfl
theorem Box.frozen {w : World} {b : Nat} {t : TypeId} {v : Value} (h : Box w b t v) : w.frozen? ⟨b, 0, none⟩ = false := by
  unfold Box at h
  simp [World.frozen?, h]
theorem Box.but {S : Nat → Prop} {w w' : World} {b : Nat} {t : TypeId} {v : Value} (h : Box w b t v) (hb : But S w w') (hs : ¬ S b) : Box w' b t v := (hb.block b h.lt hs).trans h
theorem Box.set {w : World} {b : Nat} {t : TypeId} {v : Value} (h : Box w b t v) (u : Value) : Box (w.setCell ⟨b, 0, none⟩ u) b t u := heap_setCell_one h
theorem Box.new (w : World) (t : TypeId) (v : Value) : Box (w.alloc (.cells #[v] t)) w.heap.size t v := heap_alloc_new w _
theorem Box.drew {w : World} {b : Nat} {t : TypeId} {v : Value} (h : Box w b t v) : Box w.drew b t v := h
theorem Box.alloc {w : World} {b : Nat} {t : TypeId} {v : Value} (h : Box w b t v) (o : Obj) : Box (w.alloc o) b t v := h.but ((But.refl Nowhere w).alloc o) (not_nowhere _)
theorem Box.far {w : World} {b c : Nat} {t : TypeId} {v : Value} (h : Box w b t v) (hn : b ≠ c) (j : Nat) (u : Value) : Box (w.setCell ⟨c, j, none⟩ u) b t v := h.but (But.setCell (S := fun x => x = c) (But.refl _ w) (p := ⟨c, j, none⟩) (fun _ => rfl) u) hn

set_option maxHeartbeats 3200000 in
set_option maxRecDepth 100000 in
theorem scanDiv_in (n d : Int) (w : World) (h0 : 0 ≤ n) (h1 : n ≤ 65535) (d0 : 1 ≤ d) (d1 : d ≤ 65535) : Calls Tryd.prog 53 #[S64 n, .int .i64 d] w fun e w' => e = .returned (S64 (n / d)) ∧ But Nowhere w w' := by
  have hp := div_prod n d h0 h1 d0 d1
  have hc := quo_bd (4294967296 + d - 1) d (by omega) d0
  have hc2 : (4294967296 + d - 1) / d ≤ 4294967296 := by
    apply Int.le_of_lt_add_one
    apply Int.ediv_lt_of_lt_mul (by omega)
    have : (4294967296 + 1) * 1 ≤ (4294967296 + 1) * d := Int.mul_le_mul_of_nonneg_left d0 (by omega)
    omega
  have hw : wrap64 (n * ((4294967296 + d - 1) / d)) = n * ((4294967296 + d - 1) / d) := by
    have l1 := Int.mul_nonneg h0 hc.1
    have l2 : n * ((4294967296 + d - 1) / d) ≤ 65535 * 4294967296 := Int.mul_le_mul h1 hc2 hc.1 (by omega)
    exact w64 _ (by omega)
  have hq : wrap64 (n * ((4294967296 + d - 1) / d)) / 2 ^ (shN 32).toNat = n / d := by rw [hw]; exact hp
  have HQ : Hid (wrap64 (n * ((4294967296 + d - 1) / d)) / 2 ^ (shN 32).toNat = n / d) := hq
  clear hq hw hp hc hc2
  have b0 : But Nowhere w ((w.alloc (.cells #[.int .i64 n] 36)).alloc (.cells #[.int .i64 0] 36)) := ((But.refl _ _).alloc _).alloc _
  have bA := (Box.new w 36 (.int .i64 n)).alloc (.cells #[.int .i64 0] 36)
  have bR := Box.new (w.alloc (.cells #[.int .i64 n] 36)) 36 (.int .i64 0)
  simp only [World.size_alloc] at bR
  go_enter Tryd.func53, Tryd.ntmps53
  go_wp2_with fail
  revert b0 bA bR
  generalize (w.alloc (.cells #[.int .i64 n] 36)).alloc (.cells #[.int .i64 0] 36) = W0
  intro b0 bA bR
  have cA := bA.drew.cell
  have cR := bR.drew.cell
  have fR := bR.drew.frozen
  clear bA bR
  refine wp_region_till (S := fun x => x.cell? ⟨w.heap.size, 0, none⟩ = some (.int .i64 n)) (R := fun _ => True) (k := 6) (m := 100) (by kernel_rfl) cA trivial ?_
  (refine Walk.take (i := 0) (oi := { dst := some 5, op := Op.load 36 (Operand.tmp 2), type := 36, pos := "scan.go:50", after := #[], guard := none }) (v := ?_) rfl (by kernel_rfl) (by kernel_rfl) (by kernel_rfl) (by kernel_rfl) (fun _ _ _ h => h) (Or.inl ⟨by rfl, ?_⟩) ?_; rotate_left; (intro w hw; have hS1 := hw.1 (by kernel_rfl); clear hw; (try dsimp only at hS1); (try go_split_ands); go_simp; try (with_reducible rfl)); simp only [Act.put, List.setIfInBounds_toArray, List.set_cons_zero, List.set_cons_succ])
  (refine Walk.take (i := 1) (oi := { dst := some 6, op := Op.move (Operand.tmp 1), type := 3, pos := "scan.go:50", after := #[], guard := none }) (v := ?_) rfl (by kernel_rfl) (by kernel_rfl) (by kernel_rfl) (by kernel_rfl) (fun _ _ _ h => h) (Or.inl ⟨by rfl, ?_⟩) ?_; rotate_left; (intro w hw; have hS1 := hw.1 (by kernel_rfl); clear hw; (try dsimp only at hS1); (try go_split_ands); go_simp; try (with_reducible rfl)); simp only [Act.put, List.setIfInBounds_toArray, List.set_cons_zero, List.set_cons_succ])
  (refine Walk.go (i := 2) (o := { dst := some 7, op := Op.call { callee := Callee.value (Operand.func 64), args := #[Operand.const (Value.int IntKind.i64 4294967296), Operand.tmp 6], argTypes := #[3, 3] }, type := 3, pos := "scan.go:50", after := #[{ on := 1, ground := Ground.data }], guard := none }) (by kernel_rfl) rfl (fun K hK => ?_); go_simp; ((go_at_call 64; refine (numCeil_in _ _ _ (by omega) (by omega) (by omega) (by omega)).mono ?_; rintro e x2 ⟨rfl, rfl⟩)); refine hK.out _ _ (⟨fun _ => cA, fun _ => trivial⟩) ?_; clear hK K; try simp only [Act.put, List.setIfInBounds_toArray, List.set_cons_zero, List.set_cons_succ])
  (refine Walk.go (i := 3) (o := { dst := some 8, op := Op.call { callee := Callee.value (Operand.func 35), args := #[Operand.tmp 7], argTypes := #[3] }, type := 36, pos := "scan.go:50", after := #[{ on := 2, ground := Ground.data }, { on := 2, ground := Ground.chain }], guard := none }) (by kernel_rfl) rfl (fun K hK => ?_); go_simp; ((go_at_call 35; refine (of_any _ _).mono ?_; rintro e x3 ⟨rfl, d3⟩; replace cA := d3.keeps (not_nowhere _) cA; replace fR := d3.thaws (not_nowhere _) cR fR; replace cR := d3.keeps (not_nowhere _) cR)); refine hK.out _ _ (⟨fun _ => cA, fun _ => trivial⟩) ?_; clear hK K; try simp only [Act.put, List.setIfInBounds_toArray, List.set_cons_zero, List.set_cons_succ])
  (refine Walk.go (i := 4) (o := { dst := some 9, op := Op.call { callee := Callee.value (Operand.func 57), args := #[Operand.tmp 5, Operand.tmp 8], argTypes := #[36, 36] }, type := 36, pos := "scan.go:50", after := #[{ on := 0, ground := Ground.data }, { on := 3, ground := Ground.data }, { on := 3, ground := Ground.chain }], guard := none }) (by kernel_rfl) rfl (fun K hK => ?_); go_simp; ((go_at_call 57; refine (mul_any _ _ _).mono ?_; rintro e x4 ⟨rfl, d4⟩; replace cA := d4.keeps (not_nowhere _) cA; replace fR := d4.thaws (not_nowhere _) cR fR; replace cR := d4.keeps (not_nowhere _) cR)); refine hK.out _ _ (⟨fun _ => cA, fun _ => trivial⟩) ?_; clear hK K; try simp only [Act.put, List.setIfInBounds_toArray, List.set_cons_zero, List.set_cons_succ])
  (refine Walk.go (i := 5) (o := { dst := some 10, op := Op.call { callee := Callee.value (Operand.func 63), args := #[Operand.tmp 9, Operand.const (Value.int IntKind.i64 32)], argTypes := #[36, 3] }, type := 36, pos := "scan.go:50", after := #[{ on := 4, ground := Ground.data }, { on := 4, ground := Ground.chain }], guard := none }) (by kernel_rfl) rfl (fun K hK => ?_); go_simp; ((go_at_call 63; refine (shr_any _ _ _).mono ?_; rintro e x5 ⟨rfl, d5⟩; replace cA := d5.keeps (not_nowhere _) cA; replace fR := d5.thaws (not_nowhere _) cR fR; replace cR := d5.keeps (not_nowhere _) cR)); refine hK.out _ _ (⟨fun _ => cA, fun _ => trivial⟩) ?_; clear hK K; try simp only [Act.put, List.setIfInBounds_toArray, List.set_cons_zero, List.set_cons_succ])
  (refine Walk.go (i := 6) (o := { dst := none, op := Op.store 36 (Operand.tmp 4) (Operand.tmp 10), type := 0, pos := "scan.go:50", after := #[{ on := 5, ground := Ground.data }, { on := 5, ground := Ground.chain }, { on := 0, ground := Ground.phase }, { on := 1, ground := Ground.phase }, { on := 2, ground := Ground.phase }, { on := 3, ground := Ground.phase }, { on := 4, ground := Ground.phase }, { on := 5, ground := Ground.phase }], guard := none }) (by kernel_rfl) rfl (fun K hK => ?_); go_simp; (skip); refine hK.out _ _ (⟨fun q => absurd q (by decide), fun _ => trivial⟩) ?_; clear hK K; try simp only [Act.put, List.setIfInBounds_toArray, List.set_cons_zero, List.set_cons_succ])
  refine Walk.done (by kernel_rfl) ?_ _
  go_wp2_with fail
  refine bodyPost_ret (results_sec rfl _ _ _ _ rfl (cell_set cR)) rfl ⟨by rw [HQ.out], ?_⟩
  exact (b0.drew.trans (d3.trans (d4.trans d5))).setCell (fun q => by exfalso; simp at q; omega) _

set_option maxHeartbeats 3200000 in
set_option maxRecDepth 100000 in
theorem scanRound_in (n d : Int) (w : World) (h0 : -32767 ≤ n) (h1 : n ≤ 32767) (d0 : 1 ≤ d) (e1 : d ≤ 255) : Calls Tryd.prog 47 #[S64 n, .int .i64 d] w fun e w' => e = .returned (S64 (nearF n d)) ∧ But Nowhere w w' := by
  obtain ⟨A, hA, hA0, hA1⟩ : ∃ A, absF n = A ∧ 0 ≤ A ∧ A ≤ 32767 := by
    refine ⟨absF n, rfl, ?_⟩
    unfold absF
    split
    · rw [w64 _ (by omega)]; omega
    · omega
  have hq := quo_bd (A + d / 2) d (by omega) d0
  have hsel : selF (lessM n 0) (wrap64 (-((A + d / 2) / d))) ((A + d / 2) / d) = nearF n d := by
    unfold lessM nearF
    rw [selF_mask _ _ _ (w64_in _) (by omega), w64 _ (by omega), ← hA]
    unfold absF
    split
    · rw [w64 _ (by omega)]
    · rfl
  have HS : Hid (selF (lessM n 0) (wrap64 (-((A + d / 2) / d))) ((A + d / 2) / d) = nearF n d) := hsel
  have HA := abs_any n
  rw [hA] at HA
  clear hsel hA
  have hw : wrap64 (A + d / 2) = A + d / 2 := w64 _ (by omega)
  have b0 : But Nowhere w ((w.alloc (.cells #[.int .i64 n] 36)).alloc (.cells #[.int .i64 0] 36)) := ((But.refl _ _).alloc _).alloc _
  have bA := (Box.new w 36 (.int .i64 n)).alloc (.cells #[.int .i64 0] 36)
  have bR := Box.new (w.alloc (.cells #[.int .i64 n] 36)) 36 (.int .i64 0)
  simp only [World.size_alloc] at bR
  go_enter Tryd.func47, Tryd.ntmps47
  go_wp2_with fail
  refine (HA _ (by omega)).mono ?_
  rintro e w1 ⟨rfl, b1⟩
  replace b0 := b0.trans b1
  replace bA := bA.but b1 (not_nowhere _)
  replace bR := bR.but b1 (not_nowhere _)
  clear b1
  go_wp2_with fail
  refine (of_any _ _).mono ?_
  rintro e w2 ⟨rfl, b2⟩
  replace b0 := b0.trans b2
  replace bA := bA.but b2 (not_nowhere _)
  replace bR := bR.but b2 (not_nowhere _)
  clear b2
  go_wp2_with fail
  refine (add_any _ _ _).mono ?_
  rw [hw]
  rintro e w3 ⟨rfl, b3⟩
  replace b0 := b0.trans b3
  replace bA := bA.but b3 (not_nowhere _)
  replace bR := bR.but b3 (not_nowhere _)
  clear b3
  go_wp2_with fail
  refine (scanDiv_in _ _ _ (by omega) (by omega) (by omega) (by omega)).mono ?_
  rintro e w4 ⟨rfl, b4⟩
  generalize (A + d / 2) / d = m at *
  replace b0 := (b0.trans b4).alloc (.cells #[.int .i64 m] 36)
  replace bA := (bA.but b4 (not_nowhere _)).alloc (.cells #[.int .i64 m] 36)
  replace bR := (bR.but b4 (not_nowhere _)).alloc (.cells #[.int .i64 m] 36)
  have bM := Box.new w4 36 (.int .i64 m)
  clear b4
  go_wp2_with fail
  revert b0 bA bR bM
  generalize w4.alloc (.cells #[.int .i64 m] 36) = W0
  intro b0 bA bR bM
  have cA := bA.drew.cell
  have cM := bM.drew.cell
  have cR := bR.drew.cell
  have fR := bR.drew.frozen
  clear bA bR bM
  generalize w4.heap.size = nm at *
  refine wp_region_till (S := fun x => x.cell? ⟨w.heap.size, 0, none⟩ = some (.int .i64 n) ∧ x.cell? ⟨nm, 0, none⟩ = some (.int .i64 m)) (R := fun _ => True) (k := 7) (m := 100) (by kernel_rfl) ⟨cA, cM⟩ trivial ?_
  (refine Walk.take (i := 0) (oi := { dst := some 14, op := Op.load 36 (Operand.tmp 2), type := 36, pos := "scan.go:56", after := #[], guard := none }) (v := ?_) rfl (by kernel_rfl) (by kernel_rfl) (by kernel_rfl) (by kernel_rfl) (fun _ _ _ h => h) (Or.inl ⟨by rfl, ?_⟩) ?_; rotate_left; (intro w hw; have hS1 := hw.1 (by kernel_rfl); clear hw; (try dsimp only at hS1); (try go_split_ands); go_simp; try (with_reducible rfl)); simp only [Act.put, List.setIfInBounds_toArray, List.set_cons_zero, List.set_cons_succ])
  (refine Walk.take (i := 3) (oi := { dst := some 17, op := Op.load 36 (Operand.tmp 5), type := 36, pos := "scan.go:56", after := #[], guard := none }) (v := ?_) rfl (by kernel_rfl) (by kernel_rfl) (by kernel_rfl) (by kernel_rfl) (fun _ _ _ h => h) (Or.inl ⟨by rfl, ?_⟩) ?_; rotate_left; (intro w hw; have hS1 := hw.1 (by kernel_rfl); clear hw; (try dsimp only at hS1); (try go_split_ands); go_simp; try (with_reducible rfl)); simp only [Act.put, List.setIfInBounds_toArray, List.set_cons_zero, List.set_cons_succ])
  (refine Walk.take (i := 5) (oi := { dst := some 19, op := Op.load 36 (Operand.tmp 5), type := 36, pos := "scan.go:56", after := #[], guard := none }) (v := ?_) rfl (by kernel_rfl) (by kernel_rfl) (by kernel_rfl) (by kernel_rfl) (fun _ _ _ h => h) (Or.inl ⟨by rfl, ?_⟩) ?_; rotate_left; (intro w hw; have hS1 := hw.1 (by kernel_rfl); clear hw; (try dsimp only at hS1); (try go_split_ands); go_simp; try (with_reducible rfl)); simp only [Act.put, List.setIfInBounds_toArray, List.set_cons_zero, List.set_cons_succ])
  (refine Walk.go (i := 1) (o := { dst := some 15, op := Op.call { callee := Callee.value (Operand.func 35), args := #[Operand.const (Value.int IntKind.i64 0)], argTypes := #[3] }, type := 36, pos := "scan.go:56", after := #[], guard := none }) (by kernel_rfl) rfl (fun K hK => ?_); go_simp; ((go_at_call 35; refine (of_any _ _).mono ?_; rintro e x1 ⟨rfl, d1⟩; replace cA := d1.keeps (not_nowhere _) cA; replace cM := d1.keeps (not_nowhere _) cM; replace fR := d1.thaws (not_nowhere _) cR fR; replace cR := d1.keeps (not_nowhere _) cR)); refine hK.out _ _ (⟨fun _ => ⟨cA, cM⟩, fun _ => trivial⟩) ?_; clear hK K; try simp only [Act.put, List.setIfInBounds_toArray, List.set_cons_zero, List.set_cons_succ])
  (refine Walk.go (i := 2) (o := { dst := some 16, op := Op.call { callee := Callee.value (Operand.func 51), args := #[Operand.tmp 14, Operand.tmp 15], argTypes := #[36, 36] }, type := 36, pos := "scan.go:56", after := #[{ on := 0, ground := Ground.data }, { on := 1, ground := Ground.data }, { on := 1, ground := Ground.chain }], guard := none }) (by kernel_rfl) rfl (fun K hK => ?_); go_simp; ((go_at_call 51; refine (less_any _ _ _ (by omega) (by omega)).mono ?_; rintro e x2 ⟨rfl, d2⟩; replace cA := d2.keeps (not_nowhere _) cA; replace cM := d2.keeps (not_nowhere _) cM; replace fR := d2.thaws (not_nowhere _) cR fR; replace cR := d2.keeps (not_nowhere _) cR)); refine hK.out _ _ (⟨fun _ => ⟨cA, cM⟩, fun _ => trivial⟩) ?_; clear hK K; try simp only [Act.put, List.setIfInBounds_toArray, List.set_cons_zero, List.set_cons_succ])
  (refine Walk.go (i := 4) (o := { dst := some 18, op := Op.call { callee := Callee.value (Operand.func 56), args := #[Operand.tmp 17], argTypes := #[36] }, type := 36, pos := "scan.go:56", after := #[{ on := 3, ground := Ground.data }, { on := 2, ground := Ground.chain }], guard := none }) (by kernel_rfl) rfl (fun K hK => ?_); go_simp; ((go_at_call 56; refine (neg_any _ _).mono ?_; rintro e x4 ⟨rfl, d4⟩; replace cA := d4.keeps (not_nowhere _) cA; replace cM := d4.keeps (not_nowhere _) cM; replace fR := d4.thaws (not_nowhere _) cR fR; replace cR := d4.keeps (not_nowhere _) cR)); refine hK.out _ _ (⟨fun _ => ⟨cA, cM⟩, fun _ => trivial⟩) ?_; clear hK K; try simp only [Act.put, List.setIfInBounds_toArray, List.set_cons_zero, List.set_cons_succ])
  (refine Walk.go (i := 6) (o := { dst := some 20, op := Op.call { callee := Callee.value (Operand.func 52), args := #[Operand.tmp 16, Operand.tmp 18, Operand.tmp 19], argTypes := #[36, 36, 36] }, type := 36, pos := "scan.go:56", after := #[{ on := 2, ground := Ground.data }, { on := 4, ground := Ground.data }, { on := 5, ground := Ground.data }, { on := 4, ground := Ground.chain }], guard := none }) (by kernel_rfl) rfl (fun K hK => ?_); go_simp; ((go_at_call 52; refine (select_any _ _ _ _).mono ?_; rintro e x6 ⟨rfl, d6⟩; replace cA := d6.keeps (not_nowhere _) cA; replace cM := d6.keeps (not_nowhere _) cM; replace fR := d6.thaws (not_nowhere _) cR fR; replace cR := d6.keeps (not_nowhere _) cR)); refine hK.out _ _ (⟨fun _ => ⟨cA, cM⟩, fun _ => trivial⟩) ?_; clear hK K; try simp only [Act.put, List.setIfInBounds_toArray, List.set_cons_zero, List.set_cons_succ])
  (refine Walk.go (i := 7) (o := { dst := none, op := Op.store 36 (Operand.tmp 4) (Operand.tmp 20), type := 0, pos := "scan.go:56", after := #[{ on := 6, ground := Ground.data }, { on := 6, ground := Ground.chain }, { on := 0, ground := Ground.phase }, { on := 1, ground := Ground.phase }, { on := 2, ground := Ground.phase }, { on := 3, ground := Ground.phase }, { on := 4, ground := Ground.phase }, { on := 5, ground := Ground.phase }, { on := 6, ground := Ground.phase }], guard := none }) (by kernel_rfl) rfl (fun K hK => ?_); go_simp; (skip); refine hK.out _ _ (⟨fun q => absurd q (by decide), fun _ => trivial⟩) ?_; clear hK K; try simp only [Act.put, List.setIfInBounds_toArray, List.set_cons_zero, List.set_cons_succ])
  refine Walk.done (by kernel_rfl) ?_ _
  go_wp2_with fail
  refine bodyPost_ret (results_sec rfl _ _ _ _ rfl (cell_set cR)) rfl ⟨by rw [HS.out], ?_⟩
  exact (b0.drew.trans (d1.trans (d2.trans (d4.trans d6)))).setCell (fun q => by exfalso; simp at q; omega) _

end Go.Proofs.YthaekjdnaaikfaaDoor
