import Derived.Test.YtlpeplihbdcklaaMgC
import Derived.Test.YtlpeplihbdcklaaOpS1

/- Comparing values by size. -/
namespace Go.Proofs.Ytlpeplihbdcklaa
set_option linter.unusedVariables false
open Go.ChangeShapes Go.WideShapes Go.ChangeAt Go.RowKit

theorem isNaN_any (x : Int) (w : World) : Calls Try.prog 56 #[.int .i64 x] w fun e w' => e = .returned (.bool false) ∧ But Nowhere w w' := by
  go_enter Try.func56, Try.ntmps56
  go_wp2_with fail
  go_ret
  exact ⟨by simp, But.refl _ _⟩

def cmpI (x y : Int) : Int := if x < y then -1 else if y < x then 1 else 0
theorem cmpI_neg (x y : Int) : decide (cmpI x y < 0) = decide (x < y) := by
  unfold cmpI
  by_cases h : x < y
  · rw [if_pos h]; simp [h]
  · rw [if_neg h]
    by_cases k : y < x
    · rw [if_pos k]; simp [h]
    · rw [if_neg k]; simp [h]

set_option maxHeartbeats 800000 in
theorem compare_any (x y : Int) (w : World) : Calls Try.prog 46 #[.int .i64 x, .int .i64 y] w fun e w' => e = .returned (.int .i64 (cmpI x y)) ∧ But Nowhere w w' := by
  unfold cmpI
  by_cases h : x < y
  · have d1 : decide (x < y) = true := by simpa using h
    rw [if_pos h]
    go_enter Try.func46, Try.ntmps46
    go_upto_region 2 with (go_at_call 56; refine (isNaN_any _ _).mono ?_; rintro e y1 ⟨rfl, b1⟩)
    go_wp2_with (go_at_call 56; refine (isNaN_any _ _).mono ?_; rintro e y2 ⟨rfl, b2⟩)
    go_ret
    exact ⟨rfl, b1.trans b2⟩
  · have d1 : decide (x < y) = false := by simpa using h
    rw [if_neg h]
    by_cases k : y < x
    · have d2 : decide (x > y) = true := by simpa using k
      rw [if_pos k]
      go_enter Try.func46, Try.ntmps46
      go_upto_region 2 with (go_at_call 56; refine (isNaN_any _ _).mono ?_; rintro e y1 ⟨rfl, b1⟩)
      go_wp2_with (go_at_call 56; refine (isNaN_any _ _).mono ?_; rintro e y2 ⟨rfl, b2⟩)
      go_ret
      exact ⟨rfl, b1.trans b2⟩
    · have d2 : decide (x > y) = false := by simpa using k
      rw [if_neg k]
      go_enter Try.func46, Try.ntmps46
      go_upto_region 2 with (go_at_call 56; refine (isNaN_any _ _).mono ?_; rintro e y1 ⟨rfl, b1⟩)
      go_wp2_with (go_at_call 56; refine (isNaN_any _ _).mono ?_; rintro e y2 ⟨rfl, b2⟩)
      go_ret
      exact ⟨rfl, b1.trans b2⟩

/-- What compares: the sizes lie in block zb. -/
abbrev cmpV (zb : Nat) : Value := .func (.func 45) #[] #[.pointer (some ⟨zb, 0, none⟩)]

set_option maxHeartbeats 1600000 in
theorem cmp_any (z : Nat → Nat) (zb : Nat) (x y : Int) (hx : 0 ≤ x ∧ x ≤ 255) (hy : 0 ≤ y ∧ y ≤ 255) (w : World) (hz : Cells w zb 47 (tab .i64 257 (fun i => (z i : Int)))) :
    Calls Try.prog 45 #[.int .u8 x, .int .u8 y, .pointer (some ⟨zb, 0, none⟩)] w fun e w' => e = .returned (.int .i64 (cmpI (z x.toNat) (z y.toNat))) ∧ But Nowhere w w' := by
  have hu := Try.underlying47
  have hA : Try.prog.arrayLen 47 = 257 := by kernel_rfl
  obtain ⟨a, rfl⟩ : ∃ a : Nat, x = a := ⟨x.toNat, by omega⟩
  obtain ⟨b, rfl⟩ : ∃ b : Nat, y = b := ⟨y.toNat, by omega⟩
  simp only [Int.toNat_natCast]
  have x0 := hz.cell a (by omega)
  have y0 := hz.cell b (by omega)
  have a0 : (0 : Int) ≤ (a : Int) := by omega
  have b0 : (0 : Int) ≤ (b : Int) := by omega
  have a1 : (a : Int) < 257 := by omega
  have b1 : (b : Int) < 257 := by omega
  have hlx := hz.lt
  go_enter Try.func45, Try.ntmps45
  go_wp2_with fail
  refine wp_region_till (S := fun V => V.cell? ⟨zb, a, none⟩ = some (.int .i64 (z a : Int)) ∧ V.cell? ⟨zb, b, none⟩ = some (.int .i64 (z b : Int))) (R := fun _ => True) (k := 100) (m := 100) (by kernel_rfl) ⟨x0, y0⟩ trivial ?_
  (refine Walk.take (i := 0) (oi := { dst := some 6, op := Op.move (Operand.tmp 0), type := 5, pos := "optim.go:108", after := #[], guard := none }) (v := ?_) rfl (by kernel_rfl) (by kernel_rfl) (by kernel_rfl) (by kernel_rfl) (fun _ _ _ h => h) (Or.inl ⟨by rfl, ?_⟩) ?_; rotate_left; (intro w hw; clear hw; (try go_split_ands); go_simp; try (with_reducible rfl)); simp only [Act.put, List.setIfInBounds_toArray, List.set_cons_zero, List.set_cons_succ])
  (refine Walk.take (i := 1) (oi := { dst := some 7, op := Op.indexAddr 47 (Operand.tmp 2) (Operand.tmp 6), type := 0, pos := "optim.go:108", after := #[{ on := 0, ground := Ground.data }], guard := none }) (v := ?_) rfl (by kernel_rfl) (by kernel_rfl) (by kernel_rfl) (by kernel_rfl) (fun _ _ _ h => h) (Or.inl ⟨by rfl, ?_⟩) ?_; rotate_left; (intro w hw; clear hw; (try go_split_ands); go_simp; try (with_reducible rfl)); simp only [Act.put, List.setIfInBounds_toArray, List.set_cons_zero, List.set_cons_succ])
  (refine Walk.take (i := 2) (oi := { dst := some 8, op := Op.load 3 (Operand.tmp 7), type := 3, pos := "optim.go:108", after := #[{ on := 1, ground := Ground.data }], guard := none }) (v := ?_) rfl (by kernel_rfl) (by kernel_rfl) (by kernel_rfl) (by kernel_rfl) (fun _ _ _ h => h) (Or.inl ⟨by rfl, ?_⟩) ?_; rotate_left; (intro w hw; have hS1 := hw.1 (by kernel_rfl); clear hw; (try dsimp only at hS1); (try go_split_ands); go_simp; try (with_reducible rfl)); simp only [Act.put, List.setIfInBounds_toArray, List.set_cons_zero, List.set_cons_succ])
  (refine Walk.take (i := 3) (oi := { dst := some 9, op := Op.move (Operand.tmp 1), type := 5, pos := "optim.go:108", after := #[], guard := none }) (v := ?_) rfl (by kernel_rfl) (by kernel_rfl) (by kernel_rfl) (by kernel_rfl) (fun _ _ _ h => h) (Or.inl ⟨by rfl, ?_⟩) ?_; rotate_left; (intro w hw; clear hw; (try go_split_ands); go_simp; try (with_reducible rfl)); simp only [Act.put, List.setIfInBounds_toArray, List.set_cons_zero, List.set_cons_succ])
  (refine Walk.take (i := 4) (oi := { dst := some 10, op := Op.indexAddr 47 (Operand.tmp 2) (Operand.tmp 9), type := 0, pos := "optim.go:108", after := #[{ on := 3, ground := Ground.data }], guard := none }) (v := ?_) rfl (by kernel_rfl) (by kernel_rfl) (by kernel_rfl) (by kernel_rfl) (fun _ _ _ h => h) (Or.inl ⟨by rfl, ?_⟩) ?_; rotate_left; (intro w hw; clear hw; (try go_split_ands); go_simp; try (with_reducible rfl)); simp only [Act.put, List.setIfInBounds_toArray, List.set_cons_zero, List.set_cons_succ])
  (refine Walk.take (i := 5) (oi := { dst := some 11, op := Op.load 3 (Operand.tmp 10), type := 3, pos := "optim.go:108", after := #[{ on := 4, ground := Ground.data }], guard := none }) (v := ?_) rfl (by kernel_rfl) (by kernel_rfl) (by kernel_rfl) (by kernel_rfl) (fun _ _ _ h => h) (Or.inl ⟨by rfl, ?_⟩) ?_; rotate_left; (intro w hw; have hS1 := hw.1 (by kernel_rfl); clear hw; (try dsimp only at hS1); (try go_split_ands); go_simp; try (with_reducible rfl)); simp only [Act.put, List.setIfInBounds_toArray, List.set_cons_zero, List.set_cons_succ])
  (refine Walk.go (i := 6) (o := { dst := some 12, op := Op.call { callee := Callee.value (Operand.func 46), args := #[Operand.tmp 8, Operand.tmp 11], argTypes := #[3, 3] }, type := 3, pos := "optim.go:108", after := #[{ on := 2, ground := Ground.data }, { on := 5, ground := Ground.data }], guard := none }) (by kernel_rfl) rfl (fun K hK => ?_); go_simp; ((go_at_call 46; refine (compare_any _ _ _).mono ?_; rintro e y ⟨rfl, dy⟩)); refine hK.out _ _ (⟨fun _ => ⟨(dy.cell hlx (not_nowhere _)).trans x0, (dy.cell hlx (not_nowhere _)).trans y0⟩, fun _ => trivial⟩) ?_; clear hK K; try simp only [Act.put, List.setIfInBounds_toArray, List.set_cons_zero, List.set_cons_succ])
  (refine Walk.take (i := 7) (oi := { dst := some 5, op := Op.assign (Operand.tmp 12), type := 3, pos := "optim.go:108", after := #[{ on := 6, ground := Ground.data }, { on := 6, ground := Ground.chain }, { on := 0, ground := Ground.phase }, { on := 1, ground := Ground.phase }, { on := 2, ground := Ground.phase }, { on := 3, ground := Ground.phase }, { on := 4, ground := Ground.phase }, { on := 5, ground := Ground.phase }, { on := 6, ground := Ground.phase }], guard := none }) (v := ?_) rfl (by kernel_rfl) (by kernel_rfl) (by kernel_rfl) (by kernel_rfl) (fun _ _ _ h => h) (Or.inl ⟨by rfl, ?_⟩) ?_; rotate_left; (intro w hw; clear hw; (try go_split_ands); go_simp; try (with_reducible rfl)); simp only [Act.put, List.setIfInBounds_toArray, List.set_cons_zero, List.set_cons_succ])
  refine Walk.done (by kernel_rfl) ?_ _
  go_wp2_with fail
  go_ret
  exact ⟨rfl, ((But.refl _ _).drew).trans dy⟩

end Go.Proofs.Ytlpeplihbdcklaa

/- Insertion sort of bytes, by size. -/
namespace Go.Proofs.Ytlpeplihbdcklaa
set_option linter.unusedVariables false
open Go.ChangeShapes Go.WideShapes Go.ChangeAt Go.RowKit

theorem cmpI_lt (x y : Int) : cmpI x y < 0 ↔ x < y := by
  have := cmpI_neg x y
  simpa using this

/-- A list of n bytes, that may have room. -/
abbrev dv (D n cap : Nat) : Value := .slice (some ⟨D, 0, none⟩) n cap

theorem Cells.setA {W : World} {b : Nat} {t : TypeId} {k : IntKind} {n : Nat} {f : Nat → Int} {R : List Value} (h : Cells W b t (tab k n f ++ R)) (j : Nat) (hj : j < n) (x : Int) : Cells (W.setCell ⟨b, j, none⟩ (.int k x)) b t (tab k n (upd f j x) ++ R) := by
  have := h.set j (.int k x)
  rw [List.set_append_left _ _ (by rw [tab_length]; exact hj), tab_set] at this
  exact this
theorem Cells.frozenA {W : World} {b : Nat} {t : TypeId} {l : List Value} (h : Cells W b t l) (j : Nat) : W.frozen? ⟨b, j, none⟩ = false := h.frozen j

theorem two_upd (f : Nat → Int) (i j : Nat) : upd (upd f i (f j)) j (f i) = swpI f i j := by
  funext k
  unfold upd swpI
  rfl
theorem swpI_comm (f : Nat → Int) (i j : Nat) : swpI f i j = swpI f j i := by
  funext k
  unfold swpI
  by_cases e1 : k = j
  · by_cases e2 : k = i
    · subst e1; subst e2; rfl
    · rw [if_pos e1, if_neg e2, if_pos e1]
  · rw [if_neg e1]
    by_cases e2 : k = i
    · rw [if_pos e2, if_pos e2]
    · rw [if_neg e2, if_neg e2, if_neg e1]

/-- Value v = f i is on its way down, at j. -/
structure Ins (z : Nat → Nat) (f h : Nat → Int) (a i j : Nat) : Prop where
  lo : a ≤ j
  hi : j ≤ i
  all : ∀ x y, a ≤ x → x < y → y ≤ i → x ≠ j → y ≠ j → ltV z (h x) (h y)
  up : ∀ y, j < y → y ≤ i → ltV z (h j) (h y)
  less : ∀ x, a ≤ x → x ≤ i → x ≠ j → h x < h j
  same : Same f h a (i + 1)

theorem Ins.start {z : Nat → Nat} {f g : Nat → Int} {a b i : Nat} (hs : SortedOn z g a i) (hk : Same f g a i) (hai : a ≤ i) (hib : i < b) (hr : ∀ x y, a ≤ x → x < y → y < b → f x < f y) : Ins z f g a i i := by
  refine ⟨hai, Nat.le_refl _, fun x y h1 h2 h3 h4 h5 => hs x y h1 h2 (by omega), fun y h1 h2 => by omega, fun x h1 h2 h3 => ?_, hk.wide (Nat.le_refl _) (by omega)⟩
  obtain ⟨x', hx, e⟩ := hk.bwd x h1 (by omega)
  rw [← e, hk.out i (by omega)]
  exact hr x' i hx.1 hx.2 hib

theorem Ins.done {z : Nat → Nat} {f h : Nat → Int} {a i j : Nat} (I : Ins z f h a i j) (hq : j = a ∨ ¬ z (h j).toNat < z (h (j - 1)).toNat) : SortedOn z h a (i + 1) ∧ Same f h a (i + 1) := by
  obtain ⟨h1, h2, h3, h4, h5, h6⟩ := I
  refine ⟨fun x y x1 x2 x3 => ?_, h6⟩
  by_cases e1 : x = j
  · subst e1; exact h4 y x2 (by omega)
  · by_cases e2 : y = j
    · subst e2
      rcases hq with q | q
      · omega
      · have l1 : ltV z (h (y - 1)) (h y) := by
          have := h5 (y - 1) (by omega) (by omega) (by omega)
          unfold ltV
          omega
        by_cases e3 : x = y - 1
        · rw [e3]; exact l1
        · exact (h3 x (y - 1) x1 (by omega) (by omega) e1 (by omega)).trans l1
    · exact h3 x y x1 x2 (by omega) e1 e2

theorem Ins.next {z : Nat → Nat} {f h : Nat → Int} {a i j : Nat} (I : Ins z f h a i j) (ha : a < j) (hq : z (h j).toNat < z (h (j - 1)).toNat) : Ins z f (swpI h j (j - 1)) a i (j - 1) := by
  obtain ⟨h1, h2, h3, h4, h5, h6⟩ := I
  have l1 : ltV z (h j) (h (j - 1)) := .inl hq
  have sj : swpI h j (j - 1) j = h (j - 1) := swpI_l _ _ _
  have sp : swpI h j (j - 1) (j - 1) = h j := swpI_r _ _ _
  have so : ∀ k, k ≠ j → k ≠ j - 1 → swpI h j (j - 1) k = h k := fun k a b => swpI_o _ _ _ a b
  refine ⟨by omega, by omega, fun x y x1 x2 x3 x4 x5 => ?_, fun y y1 y2 => ?_, fun x x1 x2 x3 => ?_, h6.trans (Same.swap h (by omega) (by omega))⟩
  · by_cases e1 : x = j
    · subst e1
      rw [sj, so y (by omega) x5]
      exact h3 (x - 1) y (by omega) (by omega) x3 (by omega) (by omega)
    · rw [so x e1 x4]
      by_cases e2 : y = j
      · subst e2
        rw [sj]
        exact h3 x (y - 1) x1 (by omega) (by omega) e1 (by omega)
      · rw [so y e2 x5]
        exact h3 x y x1 x2 x3 e1 e2
  · rw [sp]
    by_cases e : y = j
    · subst e; rw [sj]; exact l1
    · rw [so y e (by omega)]; exact h4 y (by omega) y2
  · rw [sp]
    by_cases e : x = j
    · subst e; rw [sj]; exact h5 (x - 1) (by omega) (by omega) (by omega)
    · rw [so x e x3]; exact h5 x x1 x2 e

theorem swpI_bd {f : Nat → Int} {n i j : Nat} (hf : ∀ k, k < n → 0 ≤ f k ∧ f k ≤ 255) (hi : i < n) (hj : j < n) : ∀ k, k < n → 0 ≤ swpI f i j k ∧ swpI f i j k ≤ 255 := fun k hk => by
  unfold swpI
  split
  · exact hf i hi
  · split
    · exact hf j hj
    · exact hf k hk
theorem Same.bd {f g : Nat → Int} {a b n : Nat} (h : Same f g a b) (hb : b ≤ n) (hf : ∀ k, k < n → 0 ≤ f k ∧ f k ≤ 255) : ∀ k, k < n → 0 ≤ g k ∧ g k ≤ 255 := fun k hk => by
  by_cases q : a ≤ k ∧ k < b
  · obtain ⟨i, hi, e⟩ := h.bwd k q.1 q.2
    rw [← e]; exact hf i (by omega)
  · rw [h.out k q]; exact hf k hk

set_option maxHeartbeats 6400000 in
set_option maxRecDepth 100000 in
theorem insertion_any (z : Nat → Nat) (zb D n cap a b : Nat) (f0 : Nat → Int) (R : List Value) (hf0 : ∀ i, i < n → 0 ≤ f0 i ∧ f0 i ≤ 255) (hr : ∀ x y, a ≤ x → x < y → y < b → f0 x < f0 y) (hab : a ≤ b) (hbn : b ≤ n) (hn : n ≤ 100000) (hne : zb ≠ D) (w : World)
    (hz : Cells w zb 47 (tab .i64 257 (fun i => (z i : Int)))) (hd : Cells w D 5 (tab .u8 n f0 ++ R)) :
    Calls Try.prog 58 #[dv D n cap, .int .i64 a, .int .i64 b, cmpV zb] w fun e w' => e = .returned (.tuple #[]) ∧ ∃ g, Cells w' D 5 (tab .u8 n g ++ R) ∧ SortedOn z g a b ∧ Same f0 g a b ∧ But (fun k => k = D) w w' := by
  have hu8 := Try.underlying5
  have hlD := hd.lt
  go_enter Try.func58, Try.ntmps58
  go_upto_region 1 with fail
  go_loopw [8] (fun v V => ∃ (i : Nat) (g : Nat → Int), v = .int .i64 i ∧ a < i ∧ (i ≤ b ∨ (i = a + 1 ∧ a = b ∧ g = f0)) ∧ SortedOn z g a i ∧ Same f0 g a i ∧ Cells V D 5 (tab .u8 n g ++ R) ∧ But (fun k => k = D) w V) (fun v _ => b + 1 - (intOf v).toNat)
  case atStart =>
    refine ⟨a + 1, f0, by go_num, by omega, ?_, fun i j h1 h2 h3 => by omega, Same.refl _ _ _, hd, But.refl _ _⟩
    by_cases q : a = b
    · exact .inr ⟨rfl, q, rfl⟩
    · exact .inl (by omega)
  case round =>
    obtain ⟨i, g, rfl, hai, hib, hs, hk, hD, hB⟩ := hrel
    by_cases hlt : i < b
    · have d1 : decide ((i : Int) < (b : Int)) = true := by simp; omega
      have hI := Ins.start hs hk (by omega) hlt hr
      have HR : Hid _ := hr
      clear hs hk hib
      go_upto_region 4 with fail
      go_loopw [9] (fun v V => ∃ (j : Nat) (h : Nat → Int), v = .int .i64 j ∧ Ins z f0 h a i j ∧ Cells V D 5 (tab .u8 n h ++ R) ∧ But (fun k => k = D) w V) (fun v _ => (intOf v).toNat)
      case atStart => exact ⟨i, g, rfl, hI, hD, hB⟩
      case round =>
        clear hI hD hB
        obtain ⟨j, f, rfl, I, ks, hB⟩ := hrel
        have hlo := I.lo
        have hhi := I.hi
        have hf := I.same.bd (n := n) (by omega) hf0
        by_cases q : a < j
        · have j0 : (0 : Int) ≤ (j : Int) := by omega
          have j1 : (j : Int) < (n : Int) := by omega
          have k1 : (0 : Int) ≤ (j : Int) - 1 := by omega
          have k2 : (j : Int) - 1 < (n : Int) := by omega
          have k3 : IntKind.i64.wrap ((j : Int) - 1) = ((j - 1 : Nat) : Int) := by rw [wrap_i64_eq, w64 _ (by omega)]; omega
          have k4 : j - 1 < n := by omega
          have d2 : decide ((j : Int) > (a : Int)) = true := by simp; omega
          have x0 := ks.cellA j (by omega)
          have y0 := ks.cellA (j - 1) (by omega)
          have hlw := ks.lt
          have hzW := (hz.but hB hne).but ((But.refl Nowhere wr).drew) (not_nowhere _)
          have HI : Hid _ := And.intro I hB
          clear I hB
          go_wp2_with fail
          refine wp_region_till (S := fun V => V.cell? ⟨D, j, none⟩ = some (.int .u8 (f j)) ∧ V.cell? ⟨D, j - 1, none⟩ = some (.int .u8 (f (j - 1)))) (R := fun _ => True) (k := 100) (m := 100) (by kernel_rfl) ⟨x0, y0⟩ trivial ?_
          (refine Walk.take (i := 0) (oi := { dst := some 18, op := Op.move (Operand.tmp 9), type := 3, pos := "zsortanyfunc.go:12", after := #[], guard := none }) (v := ?_) rfl (by kernel_rfl) (by kernel_rfl) (by kernel_rfl) (by kernel_rfl) (fun _ _ _ h => h) (Or.inl ⟨by rfl, ?_⟩) ?_; rotate_left; (intro w hw; clear hw; (try go_split_ands); go_simp; try (with_reducible rfl)); simp only [Act.put, List.setIfInBounds_toArray, List.set_cons_zero, List.set_cons_succ])
          (refine Walk.take (i := 1) (oi := { dst := some 19, op := Op.move (Operand.tmp 1), type := 3, pos := "zsortanyfunc.go:12", after := #[], guard := none }) (v := ?_) rfl (by kernel_rfl) (by kernel_rfl) (by kernel_rfl) (by kernel_rfl) (fun _ _ _ h => h) (Or.inl ⟨by rfl, ?_⟩) ?_; rotate_left; (intro w hw; clear hw; (try go_split_ands); go_simp; try (with_reducible rfl)); simp only [Act.put, List.setIfInBounds_toArray, List.set_cons_zero, List.set_cons_succ])
          (refine Walk.take (i := 2) (oi := { dst := some 20, op := Op.binOp BinOp.gtr 3 (Operand.tmp 18) (Operand.tmp 19) 3, type := 4, pos := "zsortanyfunc.go:12", after := #[{ on := 0, ground := Ground.data }, { on := 1, ground := Ground.data }], guard := none }) (v := ?_) rfl (by kernel_rfl) (by kernel_rfl) (by kernel_rfl) (by kernel_rfl) (fun _ _ _ h => h) (Or.inl ⟨by rfl, ?_⟩) ?_; rotate_left; (intro w hw; clear hw; (try go_split_ands); go_simp; try (with_reducible rfl)); simp only [Act.put, List.setIfInBounds_toArray, List.set_cons_zero, List.set_cons_succ])
          (refine Walk.take (i := 3) (oi := { dst := some 21, op := Op.move (Operand.tmp 20), type := 4, pos := "zsortanyfunc.go:12", after := #[{ on := 2, ground := Ground.data }], guard := none }) (v := ?_) rfl (by kernel_rfl) (by kernel_rfl) (by kernel_rfl) (by kernel_rfl) (fun _ _ _ h => h) (Or.inl ⟨by rfl, ?_⟩) ?_; rotate_left; (intro w hw; clear hw; (try go_split_ands); go_simp; try (with_reducible rfl)); simp only [Act.put, List.setIfInBounds_toArray, List.set_cons_zero, List.set_cons_succ])
          (refine Walk.take (i := 4) (oi := { dst := some 22, op := Op.move (Operand.tmp 3), type := 74, pos := "zsortanyfunc.go:12", after := #[{ on := 3, ground := Ground.guard }], guard := some (3, true) }) (v := ?_) rfl (by kernel_rfl) (by kernel_rfl) (by kernel_rfl) (by kernel_rfl) (fun _ _ _ h => h) (Or.inl ⟨by rfl, ?_⟩) ?_; rotate_left; (intro w hw; clear hw; (try go_split_ands); go_simp; try (with_reducible rfl)); simp only [Act.put, List.setIfInBounds_toArray, List.set_cons_zero, List.set_cons_succ])
          (refine Walk.take (i := 5) (oi := { dst := some 23, op := Op.move (Operand.tmp 0), type := 23, pos := "zsortanyfunc.go:12", after := #[{ on := 3, ground := Ground.guard }], guard := some (3, true) }) (v := ?_) rfl (by kernel_rfl) (by kernel_rfl) (by kernel_rfl) (by kernel_rfl) (fun _ _ _ h => h) (Or.inl ⟨by rfl, ?_⟩) ?_; rotate_left; (intro w hw; clear hw; (try go_split_ands); go_simp; try (with_reducible rfl)); simp only [Act.put, List.setIfInBounds_toArray, List.set_cons_zero, List.set_cons_succ])
          (refine Walk.take (i := 6) (oi := { dst := some 24, op := Op.move (Operand.tmp 9), type := 3, pos := "zsortanyfunc.go:12", after := #[{ on := 3, ground := Ground.guard }], guard := some (3, true) }) (v := ?_) rfl (by kernel_rfl) (by kernel_rfl) (by kernel_rfl) (by kernel_rfl) (fun _ _ _ h => h) (Or.inl ⟨by rfl, ?_⟩) ?_; rotate_left; (intro w hw; clear hw; (try go_split_ands); go_simp; try (with_reducible rfl)); simp only [Act.put, List.setIfInBounds_toArray, List.set_cons_zero, List.set_cons_succ])
          (refine Walk.take (i := 7) (oi := { dst := some 25, op := Op.indexAddr 23 (Operand.tmp 23) (Operand.tmp 24), type := 0, pos := "zsortanyfunc.go:12", after := #[{ on := 5, ground := Ground.data }, { on := 6, ground := Ground.data }, { on := 3, ground := Ground.guard }], guard := some (3, true) }) (v := ?_) rfl (by kernel_rfl) (by kernel_rfl) (by kernel_rfl) (by kernel_rfl) (fun _ _ _ h => h) (Or.inl ⟨by rfl, ?_⟩) ?_; rotate_left; (intro w hw; clear hw; (try go_split_ands); go_simp; try (with_reducible rfl)); simp only [Act.put, List.setIfInBounds_toArray, List.set_cons_zero, List.set_cons_succ])
          (refine Walk.take (i := 8) (oi := { dst := some 26, op := Op.load 5 (Operand.tmp 25), type := 5, pos := "zsortanyfunc.go:12", after := #[{ on := 7, ground := Ground.data }, { on := 3, ground := Ground.guard }], guard := some (3, true) }) (v := ?_) rfl (by kernel_rfl) (by kernel_rfl) (by kernel_rfl) (by kernel_rfl) (fun _ _ _ h => h) (Or.inl ⟨by rfl, ?_⟩) ?_; rotate_left; (intro w hw; have hS1 := hw.1 (by kernel_rfl); clear hw; (try dsimp only at hS1); (try go_split_ands); go_simp; try (with_reducible rfl)); simp only [Act.put, List.setIfInBounds_toArray, List.set_cons_zero, List.set_cons_succ])
          (refine Walk.take (i := 9) (oi := { dst := some 27, op := Op.move (Operand.tmp 0), type := 23, pos := "zsortanyfunc.go:12", after := #[{ on := 3, ground := Ground.guard }], guard := some (3, true) }) (v := ?_) rfl (by kernel_rfl) (by kernel_rfl) (by kernel_rfl) (by kernel_rfl) (fun _ _ _ h => h) (Or.inl ⟨by rfl, ?_⟩) ?_; rotate_left; (intro w hw; clear hw; (try go_split_ands); go_simp; try (with_reducible rfl)); simp only [Act.put, List.setIfInBounds_toArray, List.set_cons_zero, List.set_cons_succ])
          (refine Walk.take (i := 10) (oi := { dst := some 28, op := Op.move (Operand.tmp 9), type := 3, pos := "zsortanyfunc.go:12", after := #[{ on := 3, ground := Ground.guard }], guard := some (3, true) }) (v := ?_) rfl (by kernel_rfl) (by kernel_rfl) (by kernel_rfl) (by kernel_rfl) (fun _ _ _ h => h) (Or.inl ⟨by rfl, ?_⟩) ?_; rotate_left; (intro w hw; clear hw; (try go_split_ands); go_simp; try (with_reducible rfl)); simp only [Act.put, List.setIfInBounds_toArray, List.set_cons_zero, List.set_cons_succ])
          (refine Walk.take (i := 11) (oi := { dst := some 29, op := Op.binOp BinOp.sub 3 (Operand.tmp 28) (Operand.const (Value.int IntKind.i64 1)) 3, type := 3, pos := "zsortanyfunc.go:12", after := #[{ on := 10, ground := Ground.data }, { on := 3, ground := Ground.guard }], guard := some (3, true) }) (v := ?_) rfl (by kernel_rfl) (by kernel_rfl) (by kernel_rfl) (by kernel_rfl) (fun _ _ _ h => h) (Or.inl ⟨by rfl, ?_⟩) ?_; rotate_left; (intro w hw; clear hw; (try go_split_ands); go_simp; try (with_reducible rfl)); simp only [Act.put, List.setIfInBounds_toArray, List.set_cons_zero, List.set_cons_succ])
          (refine Walk.take (i := 12) (oi := { dst := some 30, op := Op.indexAddr 23 (Operand.tmp 27) (Operand.tmp 29), type := 0, pos := "zsortanyfunc.go:12", after := #[{ on := 9, ground := Ground.data }, { on := 11, ground := Ground.data }, { on := 3, ground := Ground.guard }], guard := some (3, true) }) (v := ?_) rfl (by kernel_rfl) (by kernel_rfl) (by kernel_rfl) (by kernel_rfl) (fun _ _ _ h => h) (Or.inl ⟨by rfl, ?_⟩) ?_; rotate_left; (intro w hw; clear hw; (try go_split_ands); go_simp; try (with_reducible rfl)); simp only [Act.put, List.setIfInBounds_toArray, List.set_cons_zero, List.set_cons_succ])
          (refine Walk.take (i := 13) (oi := { dst := some 31, op := Op.load 5 (Operand.tmp 30), type := 5, pos := "zsortanyfunc.go:12", after := #[{ on := 12, ground := Ground.data }, { on := 3, ground := Ground.guard }], guard := some (3, true) }) (v := ?_) rfl (by kernel_rfl) (by kernel_rfl) (by kernel_rfl) (by kernel_rfl) (fun _ _ _ h => h) (Or.inl ⟨by rfl, ?_⟩) ?_; rotate_left; (intro w hw; have hS1 := hw.1 (by kernel_rfl); clear hw; (try dsimp only at hS1); (try go_split_ands); go_simp; try (with_reducible rfl)); simp only [Act.put, List.setIfInBounds_toArray, List.set_cons_zero, List.set_cons_succ])
          (refine Walk.go (i := 14) (o := { dst := some 32, op := Op.call { callee := Callee.value (Operand.tmp 22), args := #[Operand.tmp 26, Operand.tmp 31], argTypes := #[5, 5] }, type := 3, pos := "zsortanyfunc.go:12", after := #[{ on := 4, ground := Ground.data }, { on := 8, ground := Ground.data }, { on := 13, ground := Ground.data }, { on := 3, ground := Ground.chain }, { on := 3, ground := Ground.guard }], guard := some (3, true) }) (by kernel_rfl) rfl (fun K hK => ?_); go_simp; ((go_at_call 45; refine (cmp_any z zb _ _ (hf j (by omega)) (hf (j - 1) (by omega)) _ hzW).mono ?_; rintro e y ⟨rfl, dy⟩)); refine hK.out _ _ (⟨fun _ => ⟨(dy.cell hlw (not_nowhere _)).trans x0, (dy.cell hlw (not_nowhere _)).trans y0⟩, fun _ => trivial⟩) ?_; clear hK K; try simp only [Act.put, List.setIfInBounds_toArray, List.set_cons_zero, List.set_cons_succ])
          (refine Walk.take (i := 15) (oi := { dst := some 33, op := Op.binOp BinOp.lss 3 (Operand.tmp 32) (Operand.const (Value.int IntKind.i64 0)) 3, type := 4, pos := "zsortanyfunc.go:12", after := #[{ on := 14, ground := Ground.data }, { on := 3, ground := Ground.guard }], guard := some (3, true) }) (v := ?_) rfl (by kernel_rfl) (by kernel_rfl) (by kernel_rfl) (by kernel_rfl) (fun _ _ _ h => h) (Or.inl ⟨by rfl, ?_⟩) ?_; rotate_left; (intro w hw; clear hw; (try go_split_ands); go_simp; try (with_reducible rfl)); simp only [Act.put, List.setIfInBounds_toArray, List.set_cons_zero, List.set_cons_succ])
          (refine Walk.take (i := 16) (oi := { dst := some 34, op := Op.pick (Operand.tmp 21) (Operand.tmp 33) (Operand.const (Value.bool false)), type := 4, pos := "zsortanyfunc.go:12", after := #[{ on := 3, ground := Ground.data }, { on := 15, ground := Ground.data }], guard := none }) (v := ?_) rfl (by kernel_rfl) (by kernel_rfl) (by kernel_rfl) (by kernel_rfl) (fun _ _ _ h => h) (Or.inl ⟨by rfl, ?_⟩) ?_; rotate_left; (intro w hw; clear hw; (try go_split_ands); go_simp; try (with_reducible rfl)); simp only [Act.put, List.setIfInBounds_toArray, List.set_cons_zero, List.set_cons_succ])
          refine Walk.done (by kernel_rfl) ?_ _
          have bY : But Nowhere wr y := ((But.refl _ _).drew).trans dy
          replace ks := ks.but bY (not_nowhere _)
          have x1 := ks.cellA j (by omega)
          have y1 := ks.cellA (j - 1) (by omega)
          by_cases q3 : z (f j).toNat < z (f (j - 1)).toNat
          · have d3 : cmpI (z (f j).toNat : Int) (z (f (j - 1)).toNat : Int) < 0 := (cmpI_lt _ _).2 (by omega)
            have HN : Hid _ := HI.out.1.next q q3
            clear q3 dy x0 y0
            generalize cmpI (z (f j).toNat : Int) (z (f (j - 1)).toNat : Int) = c at *
            go_wp2_with fail
            refine wp_region_till (S := fun V => V.cell? ⟨D, j, none⟩ = some (.int .u8 (f j)) ∧ V.cell? ⟨D, j - 1, none⟩ = some (.int .u8 (f (j - 1)))) (R := fun _ => True) (k := 15) (m := 100) (by kernel_rfl) ⟨x1, y1⟩ trivial ?_
            (refine Walk.take (i := 0) (oi := { dst := some 37, op := Op.move (Operand.tmp 0), type := 23, pos := "zsortanyfunc.go:13", after := #[], guard := none }) (v := ?_) rfl (by kernel_rfl) (by kernel_rfl) (by kernel_rfl) (by kernel_rfl) (fun _ _ _ h => h) (Or.inl ⟨by rfl, ?_⟩) ?_; rotate_left; (intro w hw; clear hw; (try go_split_ands); go_simp; try (with_reducible rfl)); simp only [Act.put, List.setIfInBounds_toArray, List.set_cons_zero, List.set_cons_succ])
            (refine Walk.take (i := 1) (oi := { dst := some 38, op := Op.move (Operand.tmp 9), type := 3, pos := "zsortanyfunc.go:13", after := #[], guard := none }) (v := ?_) rfl (by kernel_rfl) (by kernel_rfl) (by kernel_rfl) (by kernel_rfl) (fun _ _ _ h => h) (Or.inl ⟨by rfl, ?_⟩) ?_; rotate_left; (intro w hw; clear hw; (try go_split_ands); go_simp; try (with_reducible rfl)); simp only [Act.put, List.setIfInBounds_toArray, List.set_cons_zero, List.set_cons_succ])
            (refine Walk.take (i := 2) (oi := { dst := some 39, op := Op.move (Operand.tmp 0), type := 23, pos := "zsortanyfunc.go:13", after := #[{ on := 15, ground := Ground.gcOnly Departure.lateStores }], guard := none }) (v := ?_) rfl (by kernel_rfl) (by kernel_rfl) (by kernel_rfl) (by kernel_rfl) (fun _ _ _ h => h) (Or.inl ⟨by rfl, ?_⟩) ?_; rotate_left; (intro w hw; clear hw; (try go_split_ands); go_simp; try (with_reducible rfl)); simp only [Act.put, List.setIfInBounds_toArray, List.set_cons_zero, List.set_cons_succ])
            (refine Walk.take (i := 3) (oi := { dst := some 40, op := Op.move (Operand.tmp 9), type := 3, pos := "zsortanyfunc.go:13", after := #[{ on := 15, ground := Ground.gcOnly Departure.lateStores }], guard := none }) (v := ?_) rfl (by kernel_rfl) (by kernel_rfl) (by kernel_rfl) (by kernel_rfl) (fun _ _ _ h => h) (Or.inl ⟨by rfl, ?_⟩) ?_; rotate_left; (intro w hw; clear hw; (try go_split_ands); go_simp; try (with_reducible rfl)); simp only [Act.put, List.setIfInBounds_toArray, List.set_cons_zero, List.set_cons_succ])
            (refine Walk.take (i := 4) (oi := { dst := some 41, op := Op.binOp BinOp.sub 3 (Operand.tmp 40) (Operand.const (Value.int IntKind.i64 1)) 3, type := 3, pos := "zsortanyfunc.go:13", after := #[{ on := 3, ground := Ground.data }, { on := 15, ground := Ground.gcOnly Departure.lateStores }], guard := none }) (v := ?_) rfl (by kernel_rfl) (by kernel_rfl) (by kernel_rfl) (by kernel_rfl) (fun _ _ _ h => h) (Or.inl ⟨by rfl, ?_⟩) ?_; rotate_left; (intro w hw; clear hw; (try go_split_ands); go_simp; try (with_reducible rfl)); simp only [Act.put, List.setIfInBounds_toArray, List.set_cons_zero, List.set_cons_succ])
            (refine Walk.take (i := 5) (oi := { dst := some 42, op := Op.move (Operand.tmp 0), type := 23, pos := "zsortanyfunc.go:13", after := #[], guard := none }) (v := ?_) rfl (by kernel_rfl) (by kernel_rfl) (by kernel_rfl) (by kernel_rfl) (fun _ _ _ h => h) (Or.inl ⟨by rfl, ?_⟩) ?_; rotate_left; (intro w hw; clear hw; (try go_split_ands); go_simp; try (with_reducible rfl)); simp only [Act.put, List.setIfInBounds_toArray, List.set_cons_zero, List.set_cons_succ])
            (refine Walk.take (i := 6) (oi := { dst := some 43, op := Op.move (Operand.tmp 9), type := 3, pos := "zsortanyfunc.go:13", after := #[], guard := none }) (v := ?_) rfl (by kernel_rfl) (by kernel_rfl) (by kernel_rfl) (by kernel_rfl) (fun _ _ _ h => h) (Or.inl ⟨by rfl, ?_⟩) ?_; rotate_left; (intro w hw; clear hw; (try go_split_ands); go_simp; try (with_reducible rfl)); simp only [Act.put, List.setIfInBounds_toArray, List.set_cons_zero, List.set_cons_succ])
            (refine Walk.take (i := 7) (oi := { dst := some 44, op := Op.binOp BinOp.sub 3 (Operand.tmp 43) (Operand.const (Value.int IntKind.i64 1)) 3, type := 3, pos := "zsortanyfunc.go:13", after := #[{ on := 6, ground := Ground.data }], guard := none }) (v := ?_) rfl (by kernel_rfl) (by kernel_rfl) (by kernel_rfl) (by kernel_rfl) (fun _ _ _ h => h) (Or.inl ⟨by rfl, ?_⟩) ?_; rotate_left; (intro w hw; clear hw; (try go_split_ands); go_simp; try (with_reducible rfl)); simp only [Act.put, List.setIfInBounds_toArray, List.set_cons_zero, List.set_cons_succ])
            (refine Walk.take (i := 8) (oi := { dst := some 45, op := Op.indexAddr 23 (Operand.tmp 42) (Operand.tmp 44), type := 0, pos := "zsortanyfunc.go:13", after := #[{ on := 5, ground := Ground.data }, { on := 7, ground := Ground.data }], guard := none }) (v := ?_) rfl (by kernel_rfl) (by kernel_rfl) (by kernel_rfl) (by kernel_rfl) (fun _ _ _ h => h) (Or.inl ⟨by rfl, ?_⟩) ?_; rotate_left; (intro w hw; clear hw; (try go_split_ands); go_simp; try (with_reducible rfl)); simp only [Act.put, List.setIfInBounds_toArray, List.set_cons_zero, List.set_cons_succ])
            (refine Walk.take (i := 9) (oi := { dst := some 46, op := Op.load 5 (Operand.tmp 45), type := 5, pos := "zsortanyfunc.go:13", after := #[{ on := 8, ground := Ground.data }], guard := none }) (v := ?_) rfl (by kernel_rfl) (by kernel_rfl) (by kernel_rfl) (by kernel_rfl) (fun _ _ _ h => h) (Or.inl ⟨by rfl, ?_⟩) ?_; rotate_left; (intro w hw; have hS1 := hw.1 (by kernel_rfl); clear hw; (try dsimp only at hS1); (try go_split_ands); go_simp; try (with_reducible rfl)); simp only [Act.put, List.setIfInBounds_toArray, List.set_cons_zero, List.set_cons_succ])
            (refine Walk.take (i := 10) (oi := { dst := some 47, op := Op.move (Operand.tmp 0), type := 23, pos := "zsortanyfunc.go:13", after := #[], guard := none }) (v := ?_) rfl (by kernel_rfl) (by kernel_rfl) (by kernel_rfl) (by kernel_rfl) (fun _ _ _ h => h) (Or.inl ⟨by rfl, ?_⟩) ?_; rotate_left; (intro w hw; clear hw; (try go_split_ands); go_simp; try (with_reducible rfl)); simp only [Act.put, List.setIfInBounds_toArray, List.set_cons_zero, List.set_cons_succ])
            (refine Walk.take (i := 11) (oi := { dst := some 48, op := Op.move (Operand.tmp 9), type := 3, pos := "zsortanyfunc.go:13", after := #[], guard := none }) (v := ?_) rfl (by kernel_rfl) (by kernel_rfl) (by kernel_rfl) (by kernel_rfl) (fun _ _ _ h => h) (Or.inl ⟨by rfl, ?_⟩) ?_; rotate_left; (intro w hw; clear hw; (try go_split_ands); go_simp; try (with_reducible rfl)); simp only [Act.put, List.setIfInBounds_toArray, List.set_cons_zero, List.set_cons_succ])
            (refine Walk.take (i := 12) (oi := { dst := some 49, op := Op.indexAddr 23 (Operand.tmp 47) (Operand.tmp 48), type := 0, pos := "zsortanyfunc.go:13", after := #[{ on := 10, ground := Ground.data }, { on := 11, ground := Ground.data }], guard := none }) (v := ?_) rfl (by kernel_rfl) (by kernel_rfl) (by kernel_rfl) (by kernel_rfl) (fun _ _ _ h => h) (Or.inl ⟨by rfl, ?_⟩) ?_; rotate_left; (intro w hw; clear hw; (try go_split_ands); go_simp; try (with_reducible rfl)); simp only [Act.put, List.setIfInBounds_toArray, List.set_cons_zero, List.set_cons_succ])
            (refine Walk.take (i := 13) (oi := { dst := some 50, op := Op.load 5 (Operand.tmp 49), type := 5, pos := "zsortanyfunc.go:13", after := #[{ on := 12, ground := Ground.data }], guard := none }) (v := ?_) rfl (by kernel_rfl) (by kernel_rfl) (by kernel_rfl) (by kernel_rfl) (fun _ _ _ h => h) (Or.inl ⟨by rfl, ?_⟩) ?_; rotate_left; (intro w hw; have hS1 := hw.1 (by kernel_rfl); clear hw; (try dsimp only at hS1); (try go_split_ands); go_simp; try (with_reducible rfl)); simp only [Act.put, List.setIfInBounds_toArray, List.set_cons_zero, List.set_cons_succ])
            (refine Walk.take (i := 14) (oi := { dst := some 51, op := Op.indexAddr 23 (Operand.tmp 37) (Operand.tmp 38), type := 0, pos := "zsortanyfunc.go:13", after := #[{ on := 0, ground := Ground.data }, { on := 1, ground := Ground.data }, { on := 0, ground := Ground.phase }, { on := 1, ground := Ground.phase }, { on := 2, ground := Ground.textOnly Departure.lateStores }, { on := 3, ground := Ground.textOnly Departure.lateStores }, { on := 4, ground := Ground.textOnly Departure.lateStores }, { on := 5, ground := Ground.phase }, { on := 6, ground := Ground.phase }, { on := 7, ground := Ground.phase }, { on := 8, ground := Ground.phase }, { on := 9, ground := Ground.phase }, { on := 10, ground := Ground.textOnly Departure.lateStores }, { on := 11, ground := Ground.textOnly Departure.lateStores }, { on := 12, ground := Ground.textOnly Departure.lateStoresUnsure }, { on := 13, ground := Ground.phase }], guard := none }) (v := ?_) rfl (by kernel_rfl) (by kernel_rfl) (by kernel_rfl) (by kernel_rfl) (fun _ _ _ h => h) (Or.inl ⟨by rfl, ?_⟩) ?_; rotate_left; (intro w hw; clear hw; (try go_split_ands); go_simp; try (with_reducible rfl)); simp only [Act.put, List.setIfInBounds_toArray, List.set_cons_zero, List.set_cons_succ])
            have f7 := ks.frozenA j
            (refine Walk.go (i := 15) (o := { dst := none, op := Op.store 5 (Operand.tmp 51) (Operand.tmp 46), type := 0, pos := "zsortanyfunc.go:13", after := #[{ on := 14, ground := Ground.data }, { on := 9, ground := Ground.data }, { on := 0, ground := Ground.phase }, { on := 1, ground := Ground.phase }, { on := 2, ground := Ground.textOnly Departure.lateStores }, { on := 3, ground := Ground.textOnly Departure.lateStores }, { on := 4, ground := Ground.textOnly Departure.lateStores }, { on := 5, ground := Ground.phase }, { on := 6, ground := Ground.phase }, { on := 7, ground := Ground.phase }, { on := 8, ground := Ground.phase }, { on := 9, ground := Ground.phase }, { on := 10, ground := Ground.textOnly Departure.lateStores }, { on := 11, ground := Ground.textOnly Departure.lateStores }, { on := 12, ground := Ground.textOnly Departure.lateStoresUnsure }, { on := 13, ground := Ground.phase }], guard := none }) (by kernel_rfl) rfl (fun K hK => ?_); go_simp; (replace ks := ks.setA j (by omega) (f (j - 1))); refine hK.out _ _ (⟨fun q => absurd q (by decide), fun _ => trivial⟩) ?_; clear hK K; try simp only [Act.put, List.setIfInBounds_toArray, List.set_cons_zero, List.set_cons_succ])
            (refine Walk.take (i := 16) (oi := { dst := some 52, op := Op.indexAddr 23 (Operand.tmp 39) (Operand.tmp 41), type := 0, pos := "zsortanyfunc.go:13", after := #[{ on := 2, ground := Ground.data }, { on := 4, ground := Ground.data }, { on := 0, ground := Ground.phase }, { on := 1, ground := Ground.phase }, { on := 2, ground := Ground.phase }, { on := 3, ground := Ground.phase }, { on := 4, ground := Ground.phase }, { on := 5, ground := Ground.phase }, { on := 6, ground := Ground.phase }, { on := 7, ground := Ground.phase }, { on := 8, ground := Ground.phase }, { on := 9, ground := Ground.phase }, { on := 10, ground := Ground.phase }, { on := 11, ground := Ground.phase }, { on := 12, ground := Ground.phase }, { on := 13, ground := Ground.phase }, { on := 14, ground := Ground.phase }, { on := 15, ground := Ground.phase }], guard := none }) (v := ?_) rfl (by kernel_rfl) (by kernel_rfl) (by kernel_rfl) (by kernel_rfl) (fun _ _ _ h => h) (Or.inl ⟨by rfl, ?_⟩) ?_; rotate_left; (intro w hw; clear hw; (try go_split_ands); go_simp; try (with_reducible rfl)); simp only [Act.put, List.setIfInBounds_toArray, List.set_cons_zero, List.set_cons_succ])
            have c8 := ks.cellA (j - 1) (by omega)
            have f8 := ks.frozenA (j - 1)
            (refine Walk.go (i := 17) (o := { dst := none, op := Op.store 5 (Operand.tmp 52) (Operand.tmp 50), type := 0, pos := "zsortanyfunc.go:13", after := #[{ on := 16, ground := Ground.data }, { on := 13, ground := Ground.data }, { on := 15, ground := Ground.chain }, { on := 0, ground := Ground.phase }, { on := 1, ground := Ground.phase }, { on := 2, ground := Ground.phase }, { on := 3, ground := Ground.phase }, { on := 4, ground := Ground.phase }, { on := 5, ground := Ground.phase }, { on := 6, ground := Ground.phase }, { on := 7, ground := Ground.phase }, { on := 8, ground := Ground.phase }, { on := 9, ground := Ground.phase }, { on := 10, ground := Ground.phase }, { on := 11, ground := Ground.phase }, { on := 12, ground := Ground.phase }, { on := 13, ground := Ground.phase }, { on := 14, ground := Ground.phase }, { on := 15, ground := Ground.phase }], guard := none }) (by kernel_rfl) rfl (fun K hK => ?_); go_simp; (replace ks := ks.setA (j - 1) (by omega) (f j)); refine hK.out _ _ (⟨fun q => absurd q (by decide), fun _ => trivial⟩) ?_; clear hK K; try simp only [Act.put, List.setIfInBounds_toArray, List.set_cons_zero, List.set_cons_succ])
            refine Walk.done (by kernel_rfl) ?_ _
            go_wp2_with fail
            go_roundw
            case rel =>
              rw [two_upd] at ks
              exact ⟨j - 1, swpI f j (j - 1), by go_num, HN.out, ks, ((HI.out.2.step bY (fun _ _ h => h.elim)).drew.setCell (p := ⟨D, j, none⟩) (fun _ => rfl) _).setCell (p := ⟨D, j - 1, none⟩) (fun _ => rfl) _⟩
            case measure => simp [intOf]; omega
          · have d3 : 0 ≤ cmpI (z (f j).toNat : Int) (z (f (j - 1)).toNat : Int) := by have := (cmpI_lt (z (f j).toNat : Int) (z (f (j - 1)).toNat : Int)); omega
            obtain ⟨s1, s2⟩ := HI.out.1.done (.inr q3)
            have HN : Hid _ := And.intro s1 (And.intro s2 (And.intro ks (HI.out.2.step bY (fun _ _ h => h.elim))))
            clear q3 dy x0 y0 x1 y1 s1 s2 ks
            generalize cmpI (z (f j).toNat : Int) (z (f (j - 1)).toNat : Int) = c at *
            go_wp2_with fail
            go_roundw
            case rel => exact ⟨i + 1, f, by go_num, by omega, .inl (by omega), HN.out⟩
            case measure => simp [intOf]; omega
        · obtain rfl : j = a := by omega
          obtain ⟨s1, s2⟩ := I.done (.inl rfl)
          have d2 : decide ((j : Int) > (j : Int)) = false := by simp
          have HN : Hid _ := And.intro s1 (And.intro s2 (And.intro ks hB))
          clear I hf s1 s2 ks hB
          go_wp2_with fail
          refine wp_region_till (S := fun V => True) (R := fun _ => True) (k := 100) (m := 100) (by kernel_rfl) trivial trivial ?_
          (refine Walk.take (i := 0) (oi := { dst := some 18, op := Op.move (Operand.tmp 9), type := 3, pos := "zsortanyfunc.go:12", after := #[], guard := none }) (v := ?_) rfl (by kernel_rfl) (by kernel_rfl) (by kernel_rfl) (by kernel_rfl) (fun _ _ _ h => h) (Or.inl ⟨by rfl, ?_⟩) ?_; rotate_left; (intro w hw; clear hw; (try go_split_ands); go_simp; try (with_reducible rfl)); simp only [Act.put, List.setIfInBounds_toArray, List.set_cons_zero, List.set_cons_succ])
          (refine Walk.take (i := 1) (oi := { dst := some 19, op := Op.move (Operand.tmp 1), type := 3, pos := "zsortanyfunc.go:12", after := #[], guard := none }) (v := ?_) rfl (by kernel_rfl) (by kernel_rfl) (by kernel_rfl) (by kernel_rfl) (fun _ _ _ h => h) (Or.inl ⟨by rfl, ?_⟩) ?_; rotate_left; (intro w hw; clear hw; (try go_split_ands); go_simp; try (with_reducible rfl)); simp only [Act.put, List.setIfInBounds_toArray, List.set_cons_zero, List.set_cons_succ])
          (refine Walk.take (i := 2) (oi := { dst := some 20, op := Op.binOp BinOp.gtr 3 (Operand.tmp 18) (Operand.tmp 19) 3, type := 4, pos := "zsortanyfunc.go:12", after := #[{ on := 0, ground := Ground.data }, { on := 1, ground := Ground.data }], guard := none }) (v := ?_) rfl (by kernel_rfl) (by kernel_rfl) (by kernel_rfl) (by kernel_rfl) (fun _ _ _ h => h) (Or.inl ⟨by rfl, ?_⟩) ?_; rotate_left; (intro w hw; clear hw; (try go_split_ands); go_simp; try (with_reducible rfl)); simp only [Act.put, List.setIfInBounds_toArray, List.set_cons_zero, List.set_cons_succ])
          (refine Walk.take (i := 3) (oi := { dst := some 21, op := Op.move (Operand.tmp 20), type := 4, pos := "zsortanyfunc.go:12", after := #[{ on := 2, ground := Ground.data }], guard := none }) (v := ?_) rfl (by kernel_rfl) (by kernel_rfl) (by kernel_rfl) (by kernel_rfl) (fun _ _ _ h => h) (Or.inl ⟨by rfl, ?_⟩) ?_; rotate_left; (intro w hw; clear hw; (try go_split_ands); go_simp; try (with_reducible rfl)); simp only [Act.put, List.setIfInBounds_toArray, List.set_cons_zero, List.set_cons_succ])
          (refine Walk.take (i := 4) (oi := { dst := some 22, op := Op.move (Operand.tmp 3), type := 74, pos := "zsortanyfunc.go:12", after := #[{ on := 3, ground := Ground.guard }], guard := some (3, true) }) (v := undef) rfl (by kernel_rfl) (by kernel_rfl) (by kernel_rfl) (by kernel_rfl) (fun _ _ _ h => h) (Or.inr ⟨by rfl, rfl⟩) ?_; simp only [Act.put, List.setIfInBounds_toArray, List.set_cons_zero, List.set_cons_succ])
          (refine Walk.take (i := 5) (oi := { dst := some 23, op := Op.move (Operand.tmp 0), type := 23, pos := "zsortanyfunc.go:12", after := #[{ on := 3, ground := Ground.guard }], guard := some (3, true) }) (v := undef) rfl (by kernel_rfl) (by kernel_rfl) (by kernel_rfl) (by kernel_rfl) (fun _ _ _ h => h) (Or.inr ⟨by rfl, rfl⟩) ?_; simp only [Act.put, List.setIfInBounds_toArray, List.set_cons_zero, List.set_cons_succ])
          (refine Walk.take (i := 6) (oi := { dst := some 24, op := Op.move (Operand.tmp 9), type := 3, pos := "zsortanyfunc.go:12", after := #[{ on := 3, ground := Ground.guard }], guard := some (3, true) }) (v := undef) rfl (by kernel_rfl) (by kernel_rfl) (by kernel_rfl) (by kernel_rfl) (fun _ _ _ h => h) (Or.inr ⟨by rfl, rfl⟩) ?_; simp only [Act.put, List.setIfInBounds_toArray, List.set_cons_zero, List.set_cons_succ])
          (refine Walk.take (i := 7) (oi := { dst := some 25, op := Op.indexAddr 23 (Operand.tmp 23) (Operand.tmp 24), type := 0, pos := "zsortanyfunc.go:12", after := #[{ on := 5, ground := Ground.data }, { on := 6, ground := Ground.data }, { on := 3, ground := Ground.guard }], guard := some (3, true) }) (v := undef) rfl (by kernel_rfl) (by kernel_rfl) (by kernel_rfl) (by kernel_rfl) (fun _ _ _ h => h) (Or.inr ⟨by rfl, rfl⟩) ?_; simp only [Act.put, List.setIfInBounds_toArray, List.set_cons_zero, List.set_cons_succ])
          (refine Walk.take (i := 8) (oi := { dst := some 26, op := Op.load 5 (Operand.tmp 25), type := 5, pos := "zsortanyfunc.go:12", after := #[{ on := 7, ground := Ground.data }, { on := 3, ground := Ground.guard }], guard := some (3, true) }) (v := undef) rfl (by kernel_rfl) (by kernel_rfl) (by kernel_rfl) (by kernel_rfl) (fun _ _ _ h => h) (Or.inr ⟨by rfl, rfl⟩) ?_; simp only [Act.put, List.setIfInBounds_toArray, List.set_cons_zero, List.set_cons_succ])
          (refine Walk.take (i := 9) (oi := { dst := some 27, op := Op.move (Operand.tmp 0), type := 23, pos := "zsortanyfunc.go:12", after := #[{ on := 3, ground := Ground.guard }], guard := some (3, true) }) (v := undef) rfl (by kernel_rfl) (by kernel_rfl) (by kernel_rfl) (by kernel_rfl) (fun _ _ _ h => h) (Or.inr ⟨by rfl, rfl⟩) ?_; simp only [Act.put, List.setIfInBounds_toArray, List.set_cons_zero, List.set_cons_succ])
          (refine Walk.take (i := 10) (oi := { dst := some 28, op := Op.move (Operand.tmp 9), type := 3, pos := "zsortanyfunc.go:12", after := #[{ on := 3, ground := Ground.guard }], guard := some (3, true) }) (v := undef) rfl (by kernel_rfl) (by kernel_rfl) (by kernel_rfl) (by kernel_rfl) (fun _ _ _ h => h) (Or.inr ⟨by rfl, rfl⟩) ?_; simp only [Act.put, List.setIfInBounds_toArray, List.set_cons_zero, List.set_cons_succ])
          (refine Walk.take (i := 11) (oi := { dst := some 29, op := Op.binOp BinOp.sub 3 (Operand.tmp 28) (Operand.const (Value.int IntKind.i64 1)) 3, type := 3, pos := "zsortanyfunc.go:12", after := #[{ on := 10, ground := Ground.data }, { on := 3, ground := Ground.guard }], guard := some (3, true) }) (v := undef) rfl (by kernel_rfl) (by kernel_rfl) (by kernel_rfl) (by kernel_rfl) (fun _ _ _ h => h) (Or.inr ⟨by rfl, rfl⟩) ?_; simp only [Act.put, List.setIfInBounds_toArray, List.set_cons_zero, List.set_cons_succ])
          (refine Walk.take (i := 12) (oi := { dst := some 30, op := Op.indexAddr 23 (Operand.tmp 27) (Operand.tmp 29), type := 0, pos := "zsortanyfunc.go:12", after := #[{ on := 9, ground := Ground.data }, { on := 11, ground := Ground.data }, { on := 3, ground := Ground.guard }], guard := some (3, true) }) (v := undef) rfl (by kernel_rfl) (by kernel_rfl) (by kernel_rfl) (by kernel_rfl) (fun _ _ _ h => h) (Or.inr ⟨by rfl, rfl⟩) ?_; simp only [Act.put, List.setIfInBounds_toArray, List.set_cons_zero, List.set_cons_succ])
          (refine Walk.take (i := 13) (oi := { dst := some 31, op := Op.load 5 (Operand.tmp 30), type := 5, pos := "zsortanyfunc.go:12", after := #[{ on := 12, ground := Ground.data }, { on := 3, ground := Ground.guard }], guard := some (3, true) }) (v := undef) rfl (by kernel_rfl) (by kernel_rfl) (by kernel_rfl) (by kernel_rfl) (fun _ _ _ h => h) (Or.inr ⟨by rfl, rfl⟩) ?_; simp only [Act.put, List.setIfInBounds_toArray, List.set_cons_zero, List.set_cons_succ])
          (refine Walk.take (i := 14) (oi := { dst := some 32, op := Op.call { callee := Callee.value (Operand.tmp 22), args := #[Operand.tmp 26, Operand.tmp 31], argTypes := #[5, 5] }, type := 3, pos := "zsortanyfunc.go:12", after := #[{ on := 4, ground := Ground.data }, { on := 8, ground := Ground.data }, { on := 13, ground := Ground.data }, { on := 3, ground := Ground.chain }, { on := 3, ground := Ground.guard }], guard := some (3, true) }) (v := undef) rfl (by kernel_rfl) (by kernel_rfl) (by kernel_rfl) (by kernel_rfl) (fun _ _ _ h => h) (Or.inr ⟨by rfl, rfl⟩) ?_; simp only [Act.put, List.setIfInBounds_toArray, List.set_cons_zero, List.set_cons_succ])
          (refine Walk.take (i := 15) (oi := { dst := some 33, op := Op.binOp BinOp.lss 3 (Operand.tmp 32) (Operand.const (Value.int IntKind.i64 0)) 3, type := 4, pos := "zsortanyfunc.go:12", after := #[{ on := 14, ground := Ground.data }, { on := 3, ground := Ground.guard }], guard := some (3, true) }) (v := undef) rfl (by kernel_rfl) (by kernel_rfl) (by kernel_rfl) (by kernel_rfl) (fun _ _ _ h => h) (Or.inr ⟨by rfl, rfl⟩) ?_; simp only [Act.put, List.setIfInBounds_toArray, List.set_cons_zero, List.set_cons_succ])
          (refine Walk.take (i := 16) (oi := { dst := some 34, op := Op.pick (Operand.tmp 21) (Operand.tmp 33) (Operand.const (Value.bool false)), type := 4, pos := "zsortanyfunc.go:12", after := #[{ on := 3, ground := Ground.data }, { on := 15, ground := Ground.data }], guard := none }) (v := ?_) rfl (by kernel_rfl) (by kernel_rfl) (by kernel_rfl) (by kernel_rfl) (fun _ _ _ h => h) (Or.inl ⟨by rfl, ?_⟩) ?_; rotate_left; (intro w hw; clear hw; (try go_split_ands); go_simp; try (with_reducible rfl)); simp only [Act.put, List.setIfInBounds_toArray, List.set_cons_zero, List.set_cons_succ])
          refine Walk.done (by kernel_rfl) ?_ _
          go_wp2_with fail
          go_roundw
          case rel => exact ⟨i + 1, f, by go_num, by omega, .inl (by omega), HN.out.1, HN.out.2.1, HN.out.2.2.1, HN.out.2.2.2.drew⟩
          case measure => simp [intOf]; omega
    · have d1 : decide ((i : Int) < (b : Int)) = false := by simp; omega
      have HN : Hid (SortedOn z g a b ∧ Same f0 g a b) := by
        rcases hib with h | ⟨rfl, rfl, rfl⟩
        · obtain rfl : i = b := by omega
          exact ⟨hs, hk⟩
        · exact ⟨fun x y h1 h2 h3 => by omega, Same.refl _ _ _⟩
      go_wp2_with fail
      go_end0
      exact ⟨rfl, g, hD, HN.out.1, HN.out.2, hB⟩

theorem insertion_at (z : Nat → Nat) (zb D n cap a b : Nat) (x y : Int) (f0 : Nat → Int) (R : List Value) (hx : x = a) (hy : y = b) (hf0 : ∀ i, i < n → 0 ≤ f0 i ∧ f0 i ≤ 255) (hr : ∀ x y, a ≤ x → x < y → y < b → f0 x < f0 y) (hab : a ≤ b) (hbn : b ≤ n) (hn : n ≤ 100000) (hne : zb ≠ D) (w : World)
    (hz : Cells w zb 47 (tab .i64 257 (fun i => (z i : Int)))) (hd : Cells w D 5 (tab .u8 n f0 ++ R)) :
    Calls Try.prog 58 #[dv D n cap, .int .i64 x, .int .i64 y, cmpV zb] w fun e w' => e = .returned (.tuple #[]) ∧ ∃ g, Cells w' D 5 (tab .u8 n g ++ R) ∧ SortedOn z g a b ∧ Same f0 g a b ∧ But (fun k => k = D) w w' := by
  subst hx; subst hy; exact insertion_any z zb D n cap a b f0 R hf0 hr hab hbn hn hne w hz hd

end Go.Proofs.Ytlpeplihbdcklaa

/- Ranges of bytes that change places; rotation. -/
namespace Go.Proofs.Ytlpeplihbdcklaa
set_option linter.unusedVariables false
open Go.ChangeShapes Go.WideShapes Go.ChangeAt Go.RowKit

/-- n from a on and n from b on change places. -/
def swrF (f : Nat → Int) (a b n : Nat) : Nat → Int := fun k => if a ≤ k ∧ k < a + n then f (b + (k - a)) else if b ≤ k ∧ k < b + n then f (a + (k - b)) else f k
theorem swrF_zero (f : Nat → Int) (a b : Nat) : swrF f a b 0 = f := by
  funext k
  unfold swrF
  rw [if_neg (by omega), if_neg (by omega)]
theorem swrF_next (f : Nat → Int) (a b i : Nat) (h : a + (i + 1) ≤ b) : swpI (swrF f a b i) (a + i) (b + i) = swrF f a b (i + 1) := by
  funext k
  unfold swpI swrF
  repeat' split
  all_goals first | omega | rfl | (congr 1; omega)

set_option maxHeartbeats 3200000 in
set_option maxRecDepth 100000 in
theorem swapRange_any (D len cap : Nat) (R : List Value) (a b n : Nat) (f : Nat → Int) (c : Value) (h1 : a + n ≤ b) (h2 : b + n ≤ len) (hn : len ≤ 100000) (w : World) (hd : Cells w D 5 (tab .u8 len f ++ R)) :
    Calls Try.prog 61 #[dv D len cap, .int .i64 a, .int .i64 b, .int .i64 n, c] w fun e w' => e = .returned (.tuple #[]) ∧ Cells w' D 5 (tab .u8 len (swrF f a b n) ++ R) ∧ But (fun k => k = D) w w' := by
  have hu8 := Try.underlying5
  go_enter Try.func61, Try.ntmps61
  go_upto_region 1 with fail
  go_loopw [10] (fun v V => ∃ i : Nat, v = .int .i64 i ∧ i ≤ n ∧ Cells V D 5 (tab .u8 len (swrF f a b i) ++ R) ∧ But (fun k => k = D) w V) (fun v _ => n - (intOf v).toNat)
  case atStart => exact ⟨0, rfl, Nat.zero_le _, by rw [swrF_zero]; exact hd, But.refl _ _⟩
  case round =>
    obtain ⟨i, rfl, hi, ks, hB⟩ := hrel
    by_cases hlt : i < n
    · have d1 : decide ((i : Int) < (n : Int)) = true := by simp; omega
      obtain ⟨A, hA⟩ : ∃ A, a + i = A := ⟨_, rfl⟩
      obtain ⟨B, hBi⟩ : ∃ B, b + i = B := ⟨_, rfl⟩
      have r1 : IntKind.i64.wrap ((a : Int) + (i : Int)) = (A : Int) := by rw [wrap_i64_eq, w64 _ (by omega)]; omega
      have r2 : IntKind.i64.wrap ((b : Int) + (i : Int)) = (B : Int) := by rw [wrap_i64_eq, w64 _ (by omega)]; omega
      have z0 : (0 : Int) ≤ (A : Int) := by omega
      have z1 : (A : Int) < (len : Int) := by omega
      have z2 : (0 : Int) ≤ (B : Int) := by omega
      have z3 : (B : Int) < (len : Int) := by omega
      have z4 : A < len := by omega
      have z5 : B < len := by omega
      have x0 := ks.cellA A z4
      have y0 := ks.cellA B z5
      go_wp2_with fail
      refine wp_region_till (S := fun V => V.cell? ⟨D, A, none⟩ = some (.int .u8 (swrF f a b i A)) ∧ V.cell? ⟨D, B, none⟩ = some (.int .u8 (swrF f a b i B))) (R := fun _ => True) (k := 21) (m := 100) (by kernel_rfl) ⟨x0, y0⟩ trivial ?_
      (refine Walk.take (i := 0) (oi := { dst := some 16, op := Op.move (Operand.tmp 0), type := 23, pos := "zsortanyfunc.go:331", after := #[], guard := none }) (v := ?_) rfl (by kernel_rfl) (by kernel_rfl) (by kernel_rfl) (by kernel_rfl) (fun _ _ _ h => h) (Or.inl ⟨by rfl, ?_⟩) ?_; rotate_left; (intro w hw; clear hw; (try go_split_ands); go_simp; try (with_reducible rfl)); simp only [Act.put, List.setIfInBounds_toArray, List.set_cons_zero, List.set_cons_succ])
      (refine Walk.take (i := 1) (oi := { dst := some 17, op := Op.move (Operand.tmp 1), type := 3, pos := "zsortanyfunc.go:331", after := #[], guard := none }) (v := ?_) rfl (by kernel_rfl) (by kernel_rfl) (by kernel_rfl) (by kernel_rfl) (fun _ _ _ h => h) (Or.inl ⟨by rfl, ?_⟩) ?_; rotate_left; (intro w hw; clear hw; (try go_split_ands); go_simp; try (with_reducible rfl)); simp only [Act.put, List.setIfInBounds_toArray, List.set_cons_zero, List.set_cons_succ])
      (refine Walk.take (i := 2) (oi := { dst := some 18, op := Op.move (Operand.tmp 10), type := 3, pos := "zsortanyfunc.go:331", after := #[], guard := none }) (v := ?_) rfl (by kernel_rfl) (by kernel_rfl) (by kernel_rfl) (by kernel_rfl) (fun _ _ _ h => h) (Or.inl ⟨by rfl, ?_⟩) ?_; rotate_left; (intro w hw; clear hw; (try go_split_ands); go_simp; try (with_reducible rfl)); simp only [Act.put, List.setIfInBounds_toArray, List.set_cons_zero, List.set_cons_succ])
      (refine Walk.take (i := 3) (oi := { dst := some 19, op := Op.binOp BinOp.add 3 (Operand.tmp 17) (Operand.tmp 18) 3, type := 3, pos := "zsortanyfunc.go:331", after := #[{ on := 1, ground := Ground.data }, { on := 2, ground := Ground.data }], guard := none }) (v := ?_) rfl (by kernel_rfl) (by kernel_rfl) (by kernel_rfl) (by kernel_rfl) (fun _ _ _ h => h) (Or.inl ⟨by rfl, ?_⟩) ?_; rotate_left; (intro w hw; clear hw; (try go_split_ands); go_simp; try (with_reducible rfl)); simp only [Act.put, List.setIfInBounds_toArray, List.set_cons_zero, List.set_cons_succ])
      (refine Walk.take (i := 4) (oi := { dst := some 20, op := Op.move (Operand.tmp 0), type := 23, pos := "zsortanyfunc.go:331", after := #[{ on := 21, ground := Ground.gcOnly Departure.lateStores }], guard := none }) (v := ?_) rfl (by kernel_rfl) (by kernel_rfl) (by kernel_rfl) (by kernel_rfl) (fun _ _ _ h => h) (Or.inl ⟨by rfl, ?_⟩) ?_; rotate_left; (intro w hw; clear hw; (try go_split_ands); go_simp; try (with_reducible rfl)); simp only [Act.put, List.setIfInBounds_toArray, List.set_cons_zero, List.set_cons_succ])
      (refine Walk.take (i := 5) (oi := { dst := some 21, op := Op.move (Operand.tmp 2), type := 3, pos := "zsortanyfunc.go:331", after := #[{ on := 21, ground := Ground.gcOnly Departure.lateStores }], guard := none }) (v := ?_) rfl (by kernel_rfl) (by kernel_rfl) (by kernel_rfl) (by kernel_rfl) (fun _ _ _ h => h) (Or.inl ⟨by rfl, ?_⟩) ?_; rotate_left; (intro w hw; clear hw; (try go_split_ands); go_simp; try (with_reducible rfl)); simp only [Act.put, List.setIfInBounds_toArray, List.set_cons_zero, List.set_cons_succ])
      (refine Walk.take (i := 6) (oi := { dst := some 22, op := Op.move (Operand.tmp 10), type := 3, pos := "zsortanyfunc.go:331", after := #[{ on := 21, ground := Ground.gcOnly Departure.lateStores }], guard := none }) (v := ?_) rfl (by kernel_rfl) (by kernel_rfl) (by kernel_rfl) (by kernel_rfl) (fun _ _ _ h => h) (Or.inl ⟨by rfl, ?_⟩) ?_; rotate_left; (intro w hw; clear hw; (try go_split_ands); go_simp; try (with_reducible rfl)); simp only [Act.put, List.setIfInBounds_toArray, List.set_cons_zero, List.set_cons_succ])
      (refine Walk.take (i := 7) (oi := { dst := some 23, op := Op.binOp BinOp.add 3 (Operand.tmp 21) (Operand.tmp 22) 3, type := 3, pos := "zsortanyfunc.go:331", after := #[{ on := 5, ground := Ground.data }, { on := 6, ground := Ground.data }, { on := 21, ground := Ground.gcOnly Departure.lateStores }], guard := none }) (v := ?_) rfl (by kernel_rfl) (by kernel_rfl) (by kernel_rfl) (by kernel_rfl) (fun _ _ _ h => h) (Or.inl ⟨by rfl, ?_⟩) ?_; rotate_left; (intro w hw; clear hw; (try go_split_ands); go_simp; try (with_reducible rfl)); simp only [Act.put, List.setIfInBounds_toArray, List.set_cons_zero, List.set_cons_succ])
      (refine Walk.take (i := 8) (oi := { dst := some 24, op := Op.move (Operand.tmp 0), type := 23, pos := "zsortanyfunc.go:331", after := #[], guard := none }) (v := ?_) rfl (by kernel_rfl) (by kernel_rfl) (by kernel_rfl) (by kernel_rfl) (fun _ _ _ h => h) (Or.inl ⟨by rfl, ?_⟩) ?_; rotate_left; (intro w hw; clear hw; (try go_split_ands); go_simp; try (with_reducible rfl)); simp only [Act.put, List.setIfInBounds_toArray, List.set_cons_zero, List.set_cons_succ])
      (refine Walk.take (i := 9) (oi := { dst := some 25, op := Op.move (Operand.tmp 2), type := 3, pos := "zsortanyfunc.go:331", after := #[], guard := none }) (v := ?_) rfl (by kernel_rfl) (by kernel_rfl) (by kernel_rfl) (by kernel_rfl) (fun _ _ _ h => h) (Or.inl ⟨by rfl, ?_⟩) ?_; rotate_left; (intro w hw; clear hw; (try go_split_ands); go_simp; try (with_reducible rfl)); simp only [Act.put, List.setIfInBounds_toArray, List.set_cons_zero, List.set_cons_succ])
      (refine Walk.take (i := 10) (oi := { dst := some 26, op := Op.move (Operand.tmp 10), type := 3, pos := "zsortanyfunc.go:331", after := #[], guard := none }) (v := ?_) rfl (by kernel_rfl) (by kernel_rfl) (by kernel_rfl) (by kernel_rfl) (fun _ _ _ h => h) (Or.inl ⟨by rfl, ?_⟩) ?_; rotate_left; (intro w hw; clear hw; (try go_split_ands); go_simp; try (with_reducible rfl)); simp only [Act.put, List.setIfInBounds_toArray, List.set_cons_zero, List.set_cons_succ])
      (refine Walk.take (i := 11) (oi := { dst := some 27, op := Op.binOp BinOp.add 3 (Operand.tmp 25) (Operand.tmp 26) 3, type := 3, pos := "zsortanyfunc.go:331", after := #[{ on := 9, ground := Ground.data }, { on := 10, ground := Ground.data }], guard := none }) (v := ?_) rfl (by kernel_rfl) (by kernel_rfl) (by kernel_rfl) (by kernel_rfl) (fun _ _ _ h => h) (Or.inl ⟨by rfl, ?_⟩) ?_; rotate_left; (intro w hw; clear hw; (try go_split_ands); go_simp; try (with_reducible rfl)); simp only [Act.put, List.setIfInBounds_toArray, List.set_cons_zero, List.set_cons_succ])
      (refine Walk.take (i := 12) (oi := { dst := some 28, op := Op.indexAddr 23 (Operand.tmp 24) (Operand.tmp 27), type := 0, pos := "zsortanyfunc.go:331", after := #[{ on := 8, ground := Ground.data }, { on := 11, ground := Ground.data }], guard := none }) (v := ?_) rfl (by kernel_rfl) (by kernel_rfl) (by kernel_rfl) (by kernel_rfl) (fun _ _ _ h => h) (Or.inl ⟨by rfl, ?_⟩) ?_; rotate_left; (intro w hw; clear hw; (try go_split_ands); go_simp; try (with_reducible rfl)); simp only [Act.put, List.setIfInBounds_toArray, List.set_cons_zero, List.set_cons_succ])
      (refine Walk.take (i := 13) (oi := { dst := some 29, op := Op.load 5 (Operand.tmp 28), type := 5, pos := "zsortanyfunc.go:331", after := #[{ on := 12, ground := Ground.data }], guard := none }) (v := ?_) rfl (by kernel_rfl) (by kernel_rfl) (by kernel_rfl) (by kernel_rfl) (fun _ _ _ h => h) (Or.inl ⟨by rfl, ?_⟩) ?_; rotate_left; (intro w hw; have hS1 := hw.1 (by kernel_rfl); clear hw; (try dsimp only at hS1); (try go_split_ands); go_simp; try (with_reducible rfl)); simp only [Act.put, List.setIfInBounds_toArray, List.set_cons_zero, List.set_cons_succ])
      (refine Walk.take (i := 14) (oi := { dst := some 30, op := Op.move (Operand.tmp 0), type := 23, pos := "zsortanyfunc.go:331", after := #[], guard := none }) (v := ?_) rfl (by kernel_rfl) (by kernel_rfl) (by kernel_rfl) (by kernel_rfl) (fun _ _ _ h => h) (Or.inl ⟨by rfl, ?_⟩) ?_; rotate_left; (intro w hw; clear hw; (try go_split_ands); go_simp; try (with_reducible rfl)); simp only [Act.put, List.setIfInBounds_toArray, List.set_cons_zero, List.set_cons_succ])
      (refine Walk.take (i := 15) (oi := { dst := some 31, op := Op.move (Operand.tmp 1), type := 3, pos := "zsortanyfunc.go:331", after := #[], guard := none }) (v := ?_) rfl (by kernel_rfl) (by kernel_rfl) (by kernel_rfl) (by kernel_rfl) (fun _ _ _ h => h) (Or.inl ⟨by rfl, ?_⟩) ?_; rotate_left; (intro w hw; clear hw; (try go_split_ands); go_simp; try (with_reducible rfl)); simp only [Act.put, List.setIfInBounds_toArray, List.set_cons_zero, List.set_cons_succ])
      (refine Walk.take (i := 16) (oi := { dst := some 32, op := Op.move (Operand.tmp 10), type := 3, pos := "zsortanyfunc.go:331", after := #[], guard := none }) (v := ?_) rfl (by kernel_rfl) (by kernel_rfl) (by kernel_rfl) (by kernel_rfl) (fun _ _ _ h => h) (Or.inl ⟨by rfl, ?_⟩) ?_; rotate_left; (intro w hw; clear hw; (try go_split_ands); go_simp; try (with_reducible rfl)); simp only [Act.put, List.setIfInBounds_toArray, List.set_cons_zero, List.set_cons_succ])
      (refine Walk.take (i := 17) (oi := { dst := some 33, op := Op.binOp BinOp.add 3 (Operand.tmp 31) (Operand.tmp 32) 3, type := 3, pos := "zsortanyfunc.go:331", after := #[{ on := 15, ground := Ground.data }, { on := 16, ground := Ground.data }], guard := none }) (v := ?_) rfl (by kernel_rfl) (by kernel_rfl) (by kernel_rfl) (by kernel_rfl) (fun _ _ _ h => h) (Or.inl ⟨by rfl, ?_⟩) ?_; rotate_left; (intro w hw; clear hw; (try go_split_ands); go_simp; try (with_reducible rfl)); simp only [Act.put, List.setIfInBounds_toArray, List.set_cons_zero, List.set_cons_succ])
      (refine Walk.take (i := 18) (oi := { dst := some 34, op := Op.indexAddr 23 (Operand.tmp 30) (Operand.tmp 33), type := 0, pos := "zsortanyfunc.go:331", after := #[{ on := 14, ground := Ground.data }, { on := 17, ground := Ground.data }], guard := none }) (v := ?_) rfl (by kernel_rfl) (by kernel_rfl) (by kernel_rfl) (by kernel_rfl) (fun _ _ _ h => h) (Or.inl ⟨by rfl, ?_⟩) ?_; rotate_left; (intro w hw; clear hw; (try go_split_ands); go_simp; try (with_reducible rfl)); simp only [Act.put, List.setIfInBounds_toArray, List.set_cons_zero, List.set_cons_succ])
      (refine Walk.take (i := 19) (oi := { dst := some 35, op := Op.load 5 (Operand.tmp 34), type := 5, pos := "zsortanyfunc.go:331", after := #[{ on := 18, ground := Ground.data }], guard := none }) (v := ?_) rfl (by kernel_rfl) (by kernel_rfl) (by kernel_rfl) (by kernel_rfl) (fun _ _ _ h => h) (Or.inl ⟨by rfl, ?_⟩) ?_; rotate_left; (intro w hw; have hS1 := hw.1 (by kernel_rfl); clear hw; (try dsimp only at hS1); (try go_split_ands); go_simp; try (with_reducible rfl)); simp only [Act.put, List.setIfInBounds_toArray, List.set_cons_zero, List.set_cons_succ])
      (refine Walk.take (i := 20) (oi := { dst := some 36, op := Op.indexAddr 23 (Operand.tmp 16) (Operand.tmp 19), type := 0, pos := "zsortanyfunc.go:331", after := #[{ on := 0, ground := Ground.data }, { on := 3, ground := Ground.data }, { on := 0, ground := Ground.phase }, { on := 1, ground := Ground.phase }, { on := 2, ground := Ground.phase }, { on := 3, ground := Ground.phase }, { on := 4, ground := Ground.textOnly Departure.lateStores }, { on := 5, ground := Ground.textOnly Departure.lateStores }, { on := 6, ground := Ground.textOnly Departure.lateStores }, { on := 7, ground := Ground.textOnly Departure.lateStores }, { on := 8, ground := Ground.phase }, { on := 9, ground := Ground.phase }, { on := 10, ground := Ground.phase }, { on := 11, ground := Ground.phase }, { on := 12, ground := Ground.phase }, { on := 13, ground := Ground.phase }, { on := 14, ground := Ground.textOnly Departure.lateStores }, { on := 15, ground := Ground.textOnly Departure.lateStores }, { on := 16, ground := Ground.textOnly Departure.lateStores }, { on := 17, ground := Ground.textOnly Departure.lateStores }, { on := 18, ground := Ground.textOnly Departure.lateStoresUnsure }, { on := 19, ground := Ground.phase }], guard := none }) (v := ?_) rfl (by kernel_rfl) (by kernel_rfl) (by kernel_rfl) (by kernel_rfl) (fun _ _ _ h => h) (Or.inl ⟨by rfl, ?_⟩) ?_; rotate_left; (intro w hw; clear hw; (try go_split_ands); go_simp; try (with_reducible rfl)); simp only [Act.put, List.setIfInBounds_toArray, List.set_cons_zero, List.set_cons_succ])
      have f7 := ks.frozenA A
      (refine Walk.go (i := 21) (o := { dst := none, op := Op.store 5 (Operand.tmp 36) (Operand.tmp 29), type := 0, pos := "zsortanyfunc.go:331", after := #[{ on := 20, ground := Ground.data }, { on := 13, ground := Ground.data }, { on := 0, ground := Ground.phase }, { on := 1, ground := Ground.phase }, { on := 2, ground := Ground.phase }, { on := 3, ground := Ground.phase }, { on := 4, ground := Ground.textOnly Departure.lateStores }, { on := 5, ground := Ground.textOnly Departure.lateStores }, { on := 6, ground := Ground.textOnly Departure.lateStores }, { on := 7, ground := Ground.textOnly Departure.lateStores }, { on := 8, ground := Ground.phase }, { on := 9, ground := Ground.phase }, { on := 10, ground := Ground.phase }, { on := 11, ground := Ground.phase }, { on := 12, ground := Ground.phase }, { on := 13, ground := Ground.phase }, { on := 14, ground := Ground.textOnly Departure.lateStores }, { on := 15, ground := Ground.textOnly Departure.lateStores }, { on := 16, ground := Ground.textOnly Departure.lateStores }, { on := 17, ground := Ground.textOnly Departure.lateStores }, { on := 18, ground := Ground.textOnly Departure.lateStoresUnsure }, { on := 19, ground := Ground.phase }], guard := none }) (by kernel_rfl) rfl (fun K hK => ?_); go_simp; (replace ks := ks.setA A (by omega) (swrF f a b i B)); refine hK.out _ _ (⟨fun q => absurd q (by decide), fun _ => trivial⟩) ?_; clear hK K; try simp only [Act.put, List.setIfInBounds_toArray, List.set_cons_zero, List.set_cons_succ])
      (refine Walk.take (i := 22) (oi := { dst := some 37, op := Op.indexAddr 23 (Operand.tmp 20) (Operand.tmp 23), type := 0, pos := "zsortanyfunc.go:331", after := #[{ on := 4, ground := Ground.data }, { on := 7, ground := Ground.data }, { on := 0, ground := Ground.phase }, { on := 1, ground := Ground.phase }, { on := 2, ground := Ground.phase }, { on := 3, ground := Ground.phase }, { on := 4, ground := Ground.phase }, { on := 5, ground := Ground.phase }, { on := 6, ground := Ground.phase }, { on := 7, ground := Ground.phase }, { on := 8, ground := Ground.phase }, { on := 9, ground := Ground.phase }, { on := 10, ground := Ground.phase }, { on := 11, ground := Ground.phase }, { on := 12, ground := Ground.phase }, { on := 13, ground := Ground.phase }, { on := 14, ground := Ground.phase }, { on := 15, ground := Ground.phase }, { on := 16, ground := Ground.phase }, { on := 17, ground := Ground.phase }, { on := 18, ground := Ground.phase }, { on := 19, ground := Ground.phase }, { on := 20, ground := Ground.phase }, { on := 21, ground := Ground.phase }], guard := none }) (v := ?_) rfl (by kernel_rfl) (by kernel_rfl) (by kernel_rfl) (by kernel_rfl) (fun _ _ _ h => h) (Or.inl ⟨by rfl, ?_⟩) ?_; rotate_left; (intro w hw; clear hw; (try go_split_ands); go_simp; try (with_reducible rfl)); simp only [Act.put, List.setIfInBounds_toArray, List.set_cons_zero, List.set_cons_succ])
      have c8 := ks.cellA B (by omega)
      have f8 := ks.frozenA B
      (refine Walk.go (i := 23) (o := { dst := none, op := Op.store 5 (Operand.tmp 37) (Operand.tmp 35), type := 0, pos := "zsortanyfunc.go:331", after := #[{ on := 22, ground := Ground.data }, { on := 19, ground := Ground.data }, { on := 21, ground := Ground.chain }, { on := 0, ground := Ground.phase }, { on := 1, ground := Ground.phase }, { on := 2, ground := Ground.phase }, { on := 3, ground := Ground.phase }, { on := 4, ground := Ground.phase }, { on := 5, ground := Ground.phase }, { on := 6, ground := Ground.phase }, { on := 7, ground := Ground.phase }, { on := 8, ground := Ground.phase }, { on := 9, ground := Ground.phase }, { on := 10, ground := Ground.phase }, { on := 11, ground := Ground.phase }, { on := 12, ground := Ground.phase }, { on := 13, ground := Ground.phase }, { on := 14, ground := Ground.phase }, { on := 15, ground := Ground.phase }, { on := 16, ground := Ground.phase }, { on := 17, ground := Ground.phase }, { on := 18, ground := Ground.phase }, { on := 19, ground := Ground.phase }, { on := 20, ground := Ground.phase }, { on := 21, ground := Ground.phase }], guard := none }) (by kernel_rfl) rfl (fun K hK => ?_); go_simp; (replace ks := ks.setA B (by omega) (swrF f a b i A)); refine hK.out _ _ (⟨fun q => absurd q (by decide), fun _ => trivial⟩) ?_; clear hK K; try simp only [Act.put, List.setIfInBounds_toArray, List.set_cons_zero, List.set_cons_succ])
      refine Walk.done (by kernel_rfl) ?_ _
      go_wp2_with fail
      go_roundw
      case rel =>
        rw [two_upd, ← hA, ← hBi, swrF_next f a b i (by omega)] at ks
        rw [← hA, ← hBi]
        exact ⟨i + 1, by go_num, by omega, ks, ((hB.drew).setCell (p := ⟨D, a + i, none⟩) (fun _ => rfl) _).setCell (p := ⟨D, b + i, none⟩) (fun _ => rfl) _⟩
      case measure => simp [intOf]; omega
    · obtain rfl : i = n := by omega
      go_wp2_with fail
      go_end0
      exact ⟨rfl, ks, hB⟩

theorem swapRange_at (D len cap : Nat) (R : List Value) (a b n : Nat) (x y u : Int) (f : Nat → Int) {c : Value} (hx : x = a) (hy : y = b) (hu : u = n) (h1 : a + n ≤ b) (h2 : b + n ≤ len) (hn : len ≤ 100000) (w : World) (hd : Cells w D 5 (tab .u8 len f ++ R)) :
    Calls Try.prog 61 #[dv D len cap, .int .i64 x, .int .i64 y, .int .i64 u, c] w fun e w' => e = .returned (.tuple #[]) ∧ Cells w' D 5 (tab .u8 len (swrF f a b n) ++ R) ∧ But (fun k => k = D) w w' := by
  subst hx; subst hy; subst hu; exact swapRange_any D len cap R a b n f c h1 h2 hn w hd

theorem rot_more (g : Nat → Int) (m i j : Nat) (hi : i ≤ m) (h : j < i) : rotF (swrF g (m - i) m j) (m - (i - j)) m (m + j) = rotF g (m - i) m (m + j) := by
  funext k
  unfold rotF swrF
  repeat' split
  all_goals first | omega | rfl | (congr 1; omega)
theorem rot_less (g : Nat → Int) (m i j : Nat) (hi : i ≤ m) (h : i < j) : rotF (swrF g (m - i) (m + j - i) i) (m - i) m (m + (j - i)) = rotF g (m - i) m (m + j) := by
  funext k
  unfold rotF swrF
  repeat' split
  all_goals first | omega | rfl | (congr 1; omega)
theorem rot_same (g : Nat → Int) (m i : Nat) (hi : i ≤ m) : swrF g (m - i) m i = rotF g (m - i) m (m + i) := by
  funext k
  unfold rotF swrF
  repeat' split
  all_goals first | omega | rfl | (congr 1; omega)

set_option maxHeartbeats 3200000 in
set_option maxRecDepth 100000 in
theorem rotate_any (D n cap : Nat) (R : List Value) (a m b : Nat) (f : Nat → Int) (c : Value) (h1 : a < m) (h2 : m < b) (h3 : b ≤ n) (hn : n ≤ 100000) (w : World) (hd : Cells w D 5 (tab .u8 n f ++ R)) :
    Calls Try.prog 60 #[dv D n cap, .int .i64 a, .int .i64 m, .int .i64 b, c] w fun e w' => e = .returned (.tuple #[]) ∧ Cells w' D 5 (tab .u8 n (rotF f a m b) ++ R) ∧ But (fun k => k = D) w w' := by
  have r1 : IntKind.i64.wrap ((m : Int) - (a : Int)) = ((m - a : Nat) : Int) := by rw [wrap_i64_eq, w64 _ (by omega)]; omega
  have r2 : IntKind.i64.wrap ((b : Int) - (m : Int)) = ((b - m : Nat) : Int) := by rw [wrap_i64_eq, w64 _ (by omega)]; omega
  go_enter Try.func60, Try.ntmps60
  go_upto_region 2 with fail
  go_loopw [10, 11] (fun v u V => ∃ (i j : Nat) (g : Nat → Int), v = .int .i64 i ∧ u = .int .i64 j ∧ 0 < i ∧ 0 < j ∧ a + i ≤ m ∧ m + j ≤ b ∧ rotF g (m - i) m (m + j) = rotF f a m b ∧ Cells V D 5 (tab .u8 n g ++ R) ∧ But (fun k => k = D) w V) (fun v u _ => (intOf v).toNat + (intOf u).toNat)
  case atStart => exact ⟨m - a, b - m, f, by first | rfl | rw [r1], by first | rfl | rw [r2], by omega, by omega, by omega, by omega, by rw [show m - (m - a) = a by omega, show m + (b - m) = b by omega], hd, But.refl _ _⟩
  case round =>
    clear r1 r2
    obtain ⟨i, j, g, rfl, rfl, i0, j0, hi, hj, hr, ks, hB⟩ := hrel
    have s1 : IntKind.i64.wrap ((m : Int) - (i : Int)) = ((m - i : Nat) : Int) := by rw [wrap_i64_eq, w64 _ (by omega)]; omega
    have s2 : IntKind.i64.wrap ((m : Int) + (j : Int)) = ((m + j : Nat) : Int) := by rw [wrap_i64_eq, w64 _ (by omega)]; omega
    by_cases e : i = j
    · subst e
      have d1 : (!((i : Int) == (i : Int))) = false := by simp
      go_wp2_with (go_at_call 61; refine (swapRange_at D n cap _ (m - i) (m) (i) _ _ _ _ (by omega) (by omega) (by omega) (by omega) (by omega) hn _ ks).mono ?_; rintro e y ⟨rfl, ky, by_⟩)
      go_end0
      rw [rot_same g m i (by omega), hr] at ky
      exact ⟨rfl, ky, hB.trans by_⟩
    · have d1 : ((i : Int) == (j : Int)) = false := by simp; omega
      by_cases q : j < i
      · have d2 : decide ((i : Int) > (j : Int)) = true := by simp; omega
        have s3 : IntKind.i64.wrap ((i : Int) - (j : Int)) = ((i - j : Nat) : Int) := by rw [wrap_i64_eq, w64 _ (by omega)]; omega
        go_wp2_with (go_at_call 61; refine (swapRange_at D n cap _ (m - i) (m) (j) _ _ _ _ (by omega) (by omega) (by omega) (by omega) (by omega) hn _ ks).mono ?_; rintro e y ⟨rfl, ky, by_⟩)
        go_roundw
        case rel => exact ⟨i - j, j, _, by first | rfl | rw [s3], rfl, by omega, j0, by omega, hj, (rot_more g m i j (by omega) q).trans hr, ky, hB.trans by_⟩
        case measure => simp [intOf]; omega
      · have d2 : decide ((i : Int) > (j : Int)) = false := by simp; omega
        have s3 : IntKind.i64.wrap ((j : Int) - (i : Int)) = ((j - i : Nat) : Int) := by rw [wrap_i64_eq, w64 _ (by omega)]; omega
        have s4 : IntKind.i64.wrap (((m + j : Nat) : Int) - (i : Int)) = ((m + j - i : Nat) : Int) := by rw [wrap_i64_eq, w64 _ (by omega)]; omega
        have s5 : IntKind.i64.wrap ((m : Int) + (j : Int) - (i : Int)) = ((m + j - i : Nat) : Int) := by rw [wrap_i64_eq, w64 _ (by omega)]; omega
        go_wp2_with (go_at_call 61; refine (swapRange_at D n cap _ (m - i) (m + j - i) (i) _ _ _ _ (by omega) (by omega) (by omega) (by omega) (by omega) hn _ ks).mono ?_; rintro e y ⟨rfl, ky, by_⟩)
        go_roundw
        case rel => exact ⟨i, j - i, _, rfl, by first | rfl | rw [s3], i0, by omega, hi, by omega, (rot_less g m i j (by omega) (by omega)).trans hr, ky, hB.trans by_⟩
        case measure => simp [intOf]; omega

end Go.Proofs.Ytlpeplihbdcklaa
