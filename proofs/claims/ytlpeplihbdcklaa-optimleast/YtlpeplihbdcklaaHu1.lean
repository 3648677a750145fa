/- What the document's Check of layer 10 answers. -/
import Derived.Test.YtlpeplihbdcklaaHuCode
import Derived.Test.YtlpeplihbdcklaaHuArg
namespace Go.Proofs.Ytlpeplihbdcklaa
set_option linter.unusedVariables false
open Go.ChangeShapes Go.WideShapes Go.ChangeAt Go.RowKit

theorem nodup_of {l : List Int} (h : ∀ i, i < l.length → ∀ k, k < i → l[k]? ≠ l[i]?) : l.Nodup := by
  rw [List.nodup_iff_pairwise_ne] <;> rw [List.pairwise_iff_getElem]
  intro i j hi hj hij e
  exact h j hj i hij (by rw [List.getElem?_eq_getElem hi, List.getElem?_eq_getElem hj, e])

theorem not_nodup {l : List Int} {i k : Nat} (hi : i < l.length) (hk : k < i) (e : l[k]'(by omega) = l[i]) : ¬ l.Nodup := by
  intro h
  have h1 := idx_at h k (by omega)
  have h2 := idx_at h i hi
  rw [e] at h1
  omega

set_option maxHeartbeats 6400000 in
set_option maxRecDepth 100000 in
theorem refCheck_any (c : Nat → Int) (pv : Value) (l : List Int) (hI : ∀ j, j < 16 → I64 (c j)) (w : World) (hv : View w .u8 pv l) (hx : ∀ x ∈ l, 0 ≤ x ∧ x ≤ 255) (hl : l.length ≤ 140737488355328) : Calls Try.prog 50 #[.agg (tbl c pv).toArray] w fun e w' => e = .returned (.bool (checkB c l)) ∧ But Nowhere w w' := by
  have HV : Hid (View w .u8 pv l) := hv
  obtain ⟨ao, cap, rfl⟩ := hv.slice
  clear hv
  have kk := (Keep.start w).made 30 (tbl c (.slice ao l.length cap))
  go_enter Try.func50, Try.ntmps50
  go_wp2_with fail
  revert kk
  generalize w.alloc (.cells (tbl c (.slice ao l.length cap)).toArray 30) = W1
  intro kk
  go_loopw [3, 4, 5, 6] (fun n e f i V => ∃ k : Nat, k ≤ 16 ∧ i = .int .i64 k ∧ n = .int .i64 (cnt c k) ∧ e = .int .i64 (endC c k) ∧ f = .int .i64 (2 ^ k) ∧ OkC c k ∧ Keep w V [(w.heap.size, 30, tbl c (.slice ao l.length cap))]) (fun _ _ _ i _ => 16 - (intOf i).toNat)
  case atStart => exact ⟨0, Nat.zero_le _, rfl, rfl, rfl, rfl, fun i hi => by omega, kk⟩
  case round =>
    clear kk
    obtain ⟨k, hk, rfl, rfl, rfl, rfl, hok, kk⟩ := hrel
    by_cases hlt : k < 16
    · have i0 : (0 : Int) ≤ (k : Int) := by omega
      have i1 : (k : Int) < 16 := by omega
      have c0 := kk.head.cnt k hlt
      have q1 := endC_pos hok k (Nat.le_refl _)
      have q2 := endC_most hok k (Nat.le_refl _)
      have q3 := cnt_pos hok k (Nat.le_refl _)
      have q4 := cnt_most hok k (Nat.le_refl _)
      have q5 := one_le_pow k
      have q6 : (2 : Int) ^ k ≤ 32768 := by
        have := Nat.pow_le_pow_right (n := 2) (by decide) (show k ≤ 15 by omega)
        have e : (2 : Nat) ^ 15 = 32768 := by decide
        rw [e] at this
        exact_mod_cast this
      have hIk := hI k hlt
      have hs1 : endC c (k + 1) = 2 * endC c k + c k := rfl
      have hs2 : cnt c (k + 1) = cnt c k + c k := rfl
      have hs3 : (2 : Int) ^ (k + 1) = 2 * 2 ^ k := by rw [Int.pow_succ]; omega
      have HOK : Hid (0 ≤ c k → c k ≤ 255 → (0 < c k → endC c (k + 1) ≤ 2 ^ (k + 1) - 1) → OkC c (k + 1)) := fun h1 h2 h3 i hi => by
        by_cases e : i = k
        · subst e; exact ⟨h1, h2, h3⟩
        · exact hok i (by omega)
      have HNO : Hid (OkT c l → 0 ≤ c k ∧ c k ≤ 255 ∧ (0 < c k → endC c (k + 1) ≤ 2 ^ (k + 1) - 1)) := fun h => h.ok k hlt
      rw [hs1, hs3] at HOK HNO
      have HS : Hid _ := And.intro hs1 (And.intro hs2 hs3)
      clear hok hs1 hs2 hs3
      revert HS
      revert HNO
      revert HOK
      revert hIk
      revert q6
      revert q5
      revert q4
      revert q3
      revert q2
      revert q1
      revert c0
      generalize c k = x
      generalize endC c k = E
      generalize cnt c k = N
      generalize (2 : Int) ^ k = L
      intro c0 q1 q2 q3 q4 q5 q6 hIk HOK HNO HS
      by_cases a : x < 0
      · have hno : checkB c l = false := checkB_not c l (fun h => by have := (HNO.out h).1; omega)
        have HX : Hid _ := kk.but
        clear kk
        go_wp2_with fail
        go_ret
        first | exact ⟨rfl, HX.out⟩ | exact ⟨by rw [hno]; rfl, HX.out⟩
      · by_cases b : 255 < x
        · have hno : checkB c l = false := checkB_not c l (fun h => by have := (HNO.out h).2.1; omega)
          have HX : Hid _ := kk.but
          clear kk
          go_wp2_with fail
          go_ret
          first | exact ⟨rfl, HX.out⟩ | exact ⟨by rw [hno]; rfl, HX.out⟩
        · by_cases d : 0 < x
          · by_cases f : 2 * L - 1 < 2 * E + x
            · have hno : checkB c l = false := checkB_not c l (fun h => by have := (HNO.out h).2.2 d; omega)
              have HX : Hid _ := kk.but
              clear kk
              go_wp2_with fail
              go_ret
              first | exact ⟨rfl, HX.out⟩ | exact ⟨by rw [hno]; rfl, HX.out⟩
            · have HX : Hid _ := kk
              have HO : Hid _ := HOK.out (by omega) (by omega) (fun _ => by omega)
              clear kk HOK HNO
              go_wp2_with fail
              go_roundw
              case rel => exact ⟨k + 1, by omega, by go_num, by rw [HS.out.2.1], by rw [HS.out.1], by rw [HS.out.2.2], HO.out, HX.out⟩
              case measure => simp [intOf]; omega
          · have HX : Hid _ := kk
            have HO : Hid _ := HOK.out (by omega) (by omega) (fun h => by omega)
            clear kk HOK HNO
            go_wp2_with fail
            go_roundw
            case rel => exact ⟨k + 1, by omega, by go_num, by rw [HS.out.2.1], by rw [HS.out.1], by rw [HS.out.2.2], HO.out, HX.out⟩
            case measure => simp [intOf]; omega
    · obtain rfl : k = 16 := by omega
      have c16 := kk.head.vals
      have q3 := cnt_pos hok 16 (Nat.le_refl _)
      have q4 := cnt_most hok 16 (Nat.le_refl _)
      have HOK : Hid _ := hok
      by_cases a : cnt c 16 = (l.length : Int)
      · by_cases b : 256 < (l.length : Int)
        · have hno : checkB c l = false := checkB_not c l (fun h => by have := h.most; omega)
          rw [a]
          have HX : Hid _ := kk.but
          clear kk
          go_wp2_with fail
          go_ret
          first | exact ⟨rfl, HX.out⟩ | exact ⟨by rw [hno]; rfl, HX.out⟩
        · have HA : Hid (l.Nodup → OkT c l) := fun hn => ⟨hok, a, by omega, hn⟩
          have HK : Hid _ := kk
          rw [a]
          clear kk hok a
          go_wp2_with fail
          clear c16 q3 q4
          go_loopw [7] (fun i V => ∃ k : Nat, k ≤ l.length ∧ i = .int .i64 k ∧ (∀ i, i < k → ∀ j, j < i → l[j]? ≠ l[i]?) ∧ Keep w V [(w.heap.size, 30, tbl c (.slice ao l.length cap))]) (fun i _ => l.length - (intOf i).toNat)
          case atStart => exact ⟨0, Nat.zero_le _, rfl, fun i hi => by omega, HK.out⟩
          case round =>
            obtain ⟨i, hi, rfl, hpre, kk⟩ := hrel
            clear HK
            have HP : Hid _ := hpre
            clear hpre
            by_cases hil : i < l.length
            · have i0 : (0 : Int) ≤ (i : Int) := by omega
              have i1 : (i : Int) < (l.length : Int) := by omega
              go_wp2_with fail
              go_loopw [8] (fun x V => ∃ k : Nat, k ≤ i ∧ x = .int .i64 k ∧ (∀ j, j < k → l[j]? ≠ l[i]?) ∧ Keep w V [(w.heap.size, 30, tbl c (.slice ao l.length cap))]) (fun x _ => i - (intOf x).toNat)
              case atStart => exact ⟨0, Nat.zero_le _, rfl, fun j hj => by omega, kk⟩
              case round =>
                clear kk
                obtain ⟨k, hk, rfl, hne, kk⟩ := hrel
                by_cases hlt : k < i
                · have k0 : (0 : Int) ≤ (k : Int) := by omega
                  have k1 : (k : Int) < (i : Int) := by omega
                  have k2 : (k : Int) < (l.length : Int) := by omega
                  replace kk := kk.drew
                  have hVc := HV.out.but kk.but
                  have t16 := kk.head.vals
                  obtain ⟨-, vb, off, hao, -, e1⟩ := hVc.at k (by omega)
                  obtain ⟨-, vb', off', hao', -, e2⟩ := hVc.at i hil
                  rw [hao] at hao'
                  simp only [Option.some.injEq, Addr.mk.injEq, and_true] at hao'
                  obtain ⟨rfl, rfl⟩ := hao'
                  rw [hao] at t16
                  obtain ⟨x, hxe⟩ : ∃ x, l[k]'(by omega) = x := ⟨_, rfl⟩
                  obtain ⟨y, hye⟩ : ∃ y, l[i] = y := ⟨_, rfl⟩
                  rw [hxe] at e1
                  rw [hye] at e2
                  have HK : Hid _ := kk
                  have HNE : Hid _ := hne
                  have HXY : Hid _ := And.intro hxe hye
                  have HAO : Hid _ := hao
                  clear kk hne hVc hxe hye
                  go_wp2_with fail
                  subst hao
                  by_cases hxy : x = y
                  · have eb : (x == y) = true := by simpa using hxy
                    have hno : checkB c l = false := checkB_not c l (fun h => not_nodup hil hlt (by rw [HXY.out.1, HXY.out.2]; exact hxy) h.once)
                    clear hxy
                    refine wp_region_till (S := fun V => V.cell? ⟨w.heap.size, 16, none⟩ = some (.slice (some ⟨vb, off, none⟩) l.length cap) ∧ V.cell? ⟨vb, off + k, none⟩ = some (.int .u8 x) ∧ V.cell? ⟨vb, off + i, none⟩ = some (.int .u8 y)) (R := fun _ => True) (k := 100) (m := 100) (by kernel_rfl) ⟨t16, e1, e2⟩ trivial ?_
                    (refine Walk.take (i := 0) (oi := { dst := some 71, op := Op.fieldAddr 30 (Operand.tmp 1) 1, type := 0, pos := "ref.go:28", after := #[], guard := none }) (v := ?_) rfl (by kernel_rfl) (by kernel_rfl) (by kernel_rfl) (by kernel_rfl) (fun _ _ _ h => h) (Or.inl ⟨by rfl, ?_⟩) ?_; rotate_left; (intro w hw; clear hw; (try go_split_ands); go_simp; try (with_reducible rfl)); simp only [Act.put, List.setIfInBounds_toArray, List.set_cons_zero, List.set_cons_succ])
                    (refine Walk.take (i := 1) (oi := { dst := some 72, op := Op.load 23 (Operand.tmp 71), type := 23, pos := "ref.go:28", after := #[{ on := 0, ground := Ground.data }], guard := none }) (v := ?_) rfl (by kernel_rfl) (by kernel_rfl) (by kernel_rfl) (by kernel_rfl) (fun _ _ _ h => h) (Or.inl ⟨by rfl, ?_⟩) ?_; rotate_left; (intro w hw; have hS1 := hw.1 (by kernel_rfl); clear hw; (try dsimp only at hS1); (try go_split_ands); go_simp; try (with_reducible rfl)); simp only [Act.put, List.setIfInBounds_toArray, List.set_cons_zero, List.set_cons_succ])
                    (refine Walk.take (i := 2) (oi := { dst := some 73, op := Op.move (Operand.tmp 8), type := 3, pos := "ref.go:28", after := #[], guard := none }) (v := ?_) rfl (by kernel_rfl) (by kernel_rfl) (by kernel_rfl) (by kernel_rfl) (fun _ _ _ h => h) (Or.inl ⟨by rfl, ?_⟩) ?_; rotate_left; (intro w hw; clear hw; (try go_split_ands); go_simp; try (with_reducible rfl)); simp only [Act.put, List.setIfInBounds_toArray, List.set_cons_zero, List.set_cons_succ])
                    (refine Walk.take (i := 3) (oi := { dst := some 74, op := Op.indexAddr 23 (Operand.tmp 72) (Operand.tmp 73), type := 0, pos := "ref.go:28", after := #[{ on := 1, ground := Ground.data }, { on := 2, ground := Ground.data }], guard := none }) (v := ?_) rfl (by kernel_rfl) (by kernel_rfl) (by kernel_rfl) (by kernel_rfl) (fun _ _ _ h => h) (Or.inl ⟨by rfl, ?_⟩) ?_; rotate_left; (intro w hw; clear hw; (try go_split_ands); go_simp; try (with_reducible rfl)); simp only [Act.put, List.setIfInBounds_toArray, List.set_cons_zero, List.set_cons_succ])
                    (refine Walk.take (i := 4) (oi := { dst := some 75, op := Op.load 5 (Operand.tmp 74), type := 5, pos := "ref.go:28", after := #[{ on := 3, ground := Ground.data }], guard := none }) (v := ?_) rfl (by kernel_rfl) (by kernel_rfl) (by kernel_rfl) (by kernel_rfl) (fun _ _ _ h => h) (Or.inl ⟨by rfl, ?_⟩) ?_; rotate_left; (intro w hw; have hS1 := hw.1 (by kernel_rfl); clear hw; (try dsimp only at hS1); (try go_split_ands); go_simp; try (with_reducible rfl)); simp only [Act.put, List.setIfInBounds_toArray, List.set_cons_zero, List.set_cons_succ])
                    (refine Walk.take (i := 5) (oi := { dst := some 76, op := Op.fieldAddr 30 (Operand.tmp 1) 1, type := 0, pos := "ref.go:28", after := #[], guard := none }) (v := ?_) rfl (by kernel_rfl) (by kernel_rfl) (by kernel_rfl) (by kernel_rfl) (fun _ _ _ h => h) (Or.inl ⟨by rfl, ?_⟩) ?_; rotate_left; (intro w hw; clear hw; (try go_split_ands); go_simp; try (with_reducible rfl)); simp only [Act.put, List.setIfInBounds_toArray, List.set_cons_zero, List.set_cons_succ])
                    (refine Walk.take (i := 6) (oi := { dst := some 77, op := Op.load 23 (Operand.tmp 76), type := 23, pos := "ref.go:28", after := #[{ on := 5, ground := Ground.data }], guard := none }) (v := ?_) rfl (by kernel_rfl) (by kernel_rfl) (by kernel_rfl) (by kernel_rfl) (fun _ _ _ h => h) (Or.inl ⟨by rfl, ?_⟩) ?_; rotate_left; (intro w hw; have hS1 := hw.1 (by kernel_rfl); clear hw; (try dsimp only at hS1); (try go_split_ands); go_simp; try (with_reducible rfl)); simp only [Act.put, List.setIfInBounds_toArray, List.set_cons_zero, List.set_cons_succ])
                    (refine Walk.take (i := 7) (oi := { dst := some 78, op := Op.move (Operand.tmp 7), type := 3, pos := "ref.go:28", after := #[], guard := none }) (v := ?_) rfl (by kernel_rfl) (by kernel_rfl) (by kernel_rfl) (by kernel_rfl) (fun _ _ _ h => h) (Or.inl ⟨by rfl, ?_⟩) ?_; rotate_left; (intro w hw; clear hw; (try go_split_ands); go_simp; try (with_reducible rfl)); simp only [Act.put, List.setIfInBounds_toArray, List.set_cons_zero, List.set_cons_succ])
                    (refine Walk.take (i := 8) (oi := { dst := some 79, op := Op.indexAddr 23 (Operand.tmp 77) (Operand.tmp 78), type := 0, pos := "ref.go:28", after := #[{ on := 6, ground := Ground.data }, { on := 7, ground := Ground.data }], guard := none }) (v := ?_) rfl (by kernel_rfl) (by kernel_rfl) (by kernel_rfl) (by kernel_rfl) (fun _ _ _ h => h) (Or.inl ⟨by rfl, ?_⟩) ?_; rotate_left; (intro w hw; clear hw; (try go_split_ands); go_simp; try (with_reducible rfl)); simp only [Act.put, List.setIfInBounds_toArray, List.set_cons_zero, List.set_cons_succ])
                    (refine Walk.take (i := 9) (oi := { dst := some 80, op := Op.load 5 (Operand.tmp 79), type := 5, pos := "ref.go:28", after := #[{ on := 8, ground := Ground.data }], guard := none }) (v := ?_) rfl (by kernel_rfl) (by kernel_rfl) (by kernel_rfl) (by kernel_rfl) (fun _ _ _ h => h) (Or.inl ⟨by rfl, ?_⟩) ?_; rotate_left; (intro w hw; have hS1 := hw.1 (by kernel_rfl); clear hw; (try dsimp only at hS1); (try go_split_ands); go_simp; try (with_reducible rfl)); simp only [Act.put, List.setIfInBounds_toArray, List.set_cons_zero, List.set_cons_succ])
                    (refine Walk.take (i := 10) (oi := { dst := some 81, op := Op.binOp BinOp.eql 5 (Operand.tmp 75) (Operand.tmp 80) 5, type := 4, pos := "ref.go:28", after := #[{ on := 4, ground := Ground.data }, { on := 9, ground := Ground.data }], guard := none }) (v := ?_) rfl (by kernel_rfl) (by kernel_rfl) (by kernel_rfl) (by kernel_rfl) (fun _ _ _ h => h) (Or.inl ⟨by rfl, ?_⟩) ?_; rotate_left; (intro w hw; clear hw; (try go_split_ands); go_simp; try (with_reducible rfl)); simp only [Act.put, List.setIfInBounds_toArray, List.set_cons_zero, List.set_cons_succ])
                    refine Walk.done (by kernel_rfl) ?_ _
                    go_wp2_with fail
                    go_ret
                    first | exact ⟨rfl, HK.out.but⟩ | exact ⟨by rw [hno]; rfl, HK.out.but⟩
                  · have eb : (x == y) = false := by simpa using hxy
                    refine wp_region_till (S := fun V => V.cell? ⟨w.heap.size, 16, none⟩ = some (.slice (some ⟨vb, off, none⟩) l.length cap) ∧ V.cell? ⟨vb, off + k, none⟩ = some (.int .u8 x) ∧ V.cell? ⟨vb, off + i, none⟩ = some (.int .u8 y)) (R := fun _ => True) (k := 100) (m := 100) (by kernel_rfl) ⟨t16, e1, e2⟩ trivial ?_
                    (refine Walk.take (i := 0) (oi := { dst := some 71, op := Op.fieldAddr 30 (Operand.tmp 1) 1, type := 0, pos := "ref.go:28", after := #[], guard := none }) (v := ?_) rfl (by kernel_rfl) (by kernel_rfl) (by kernel_rfl) (by kernel_rfl) (fun _ _ _ h => h) (Or.inl ⟨by rfl, ?_⟩) ?_; rotate_left; (intro w hw; clear hw; (try go_split_ands); go_simp; try (with_reducible rfl)); simp only [Act.put, List.setIfInBounds_toArray, List.set_cons_zero, List.set_cons_succ])
                    (refine Walk.take (i := 1) (oi := { dst := some 72, op := Op.load 23 (Operand.tmp 71), type := 23, pos := "ref.go:28", after := #[{ on := 0, ground := Ground.data }], guard := none }) (v := ?_) rfl (by kernel_rfl) (by kernel_rfl) (by kernel_rfl) (by kernel_rfl) (fun _ _ _ h => h) (Or.inl ⟨by rfl, ?_⟩) ?_; rotate_left; (intro w hw; have hS1 := hw.1 (by kernel_rfl); clear hw; (try dsimp only at hS1); (try go_split_ands); go_simp; try (with_reducible rfl)); simp only [Act.put, List.setIfInBounds_toArray, List.set_cons_zero, List.set_cons_succ])
                    (refine Walk.take (i := 2) (oi := { dst := some 73, op := Op.move (Operand.tmp 8), type := 3, pos := "ref.go:28", after := #[], guard := none }) (v := ?_) rfl (by kernel_rfl) (by kernel_rfl) (by kernel_rfl) (by kernel_rfl) (fun _ _ _ h => h) (Or.inl ⟨by rfl, ?_⟩) ?_; rotate_left; (intro w hw; clear hw; (try go_split_ands); go_simp; try (with_reducible rfl)); simp only [Act.put, List.setIfInBounds_toArray, List.set_cons_zero, List.set_cons_succ])
                    (refine Walk.take (i := 3) (oi := { dst := some 74, op := Op.indexAddr 23 (Operand.tmp 72) (Operand.tmp 73), type := 0, pos := "ref.go:28", after := #[{ on := 1, ground := Ground.data }, { on := 2, ground := Ground.data }], guard := none }) (v := ?_) rfl (by kernel_rfl) (by kernel_rfl) (by kernel_rfl) (by kernel_rfl) (fun _ _ _ h => h) (Or.inl ⟨by rfl, ?_⟩) ?_; rotate_left; (intro w hw; clear hw; (try go_split_ands); go_simp; try (with_reducible rfl)); simp only [Act.put, List.setIfInBounds_toArray, List.set_cons_zero, List.set_cons_succ])
                    (refine Walk.take (i := 4) (oi := { dst := some 75, op := Op.load 5 (Operand.tmp 74), type := 5, pos := "ref.go:28", after := #[{ on := 3, ground := Ground.data }], guard := none }) (v := ?_) rfl (by kernel_rfl) (by kernel_rfl) (by kernel_rfl) (by kernel_rfl) (fun _ _ _ h => h) (Or.inl ⟨by rfl, ?_⟩) ?_; rotate_left; (intro w hw; have hS1 := hw.1 (by kernel_rfl); clear hw; (try dsimp only at hS1); (try go_split_ands); go_simp; try (with_reducible rfl)); simp only [Act.put, List.setIfInBounds_toArray, List.set_cons_zero, List.set_cons_succ])
                    (refine Walk.take (i := 5) (oi := { dst := some 76, op := Op.fieldAddr 30 (Operand.tmp 1) 1, type := 0, pos := "ref.go:28", after := #[], guard := none }) (v := ?_) rfl (by kernel_rfl) (by kernel_rfl) (by kernel_rfl) (by kernel_rfl) (fun _ _ _ h => h) (Or.inl ⟨by rfl, ?_⟩) ?_; rotate_left; (intro w hw; clear hw; (try go_split_ands); go_simp; try (with_reducible rfl)); simp only [Act.put, List.setIfInBounds_toArray, List.set_cons_zero, List.set_cons_succ])
                    (refine Walk.take (i := 6) (oi := { dst := some 77, op := Op.load 23 (Operand.tmp 76), type := 23, pos := "ref.go:28", after := #[{ on := 5, ground := Ground.data }], guard := none }) (v := ?_) rfl (by kernel_rfl) (by kernel_rfl) (by kernel_rfl) (by kernel_rfl) (fun _ _ _ h => h) (Or.inl ⟨by rfl, ?_⟩) ?_; rotate_left; (intro w hw; have hS1 := hw.1 (by kernel_rfl); clear hw; (try dsimp only at hS1); (try go_split_ands); go_simp; try (with_reducible rfl)); simp only [Act.put, List.setIfInBounds_toArray, List.set_cons_zero, List.set_cons_succ])
                    (refine Walk.take (i := 7) (oi := { dst := some 78, op := Op.move (Operand.tmp 7), type := 3, pos := "ref.go:28", after := #[], guard := none }) (v := ?_) rfl (by kernel_rfl) (by kernel_rfl) (by kernel_rfl) (by kernel_rfl) (fun _ _ _ h => h) (Or.inl ⟨by rfl, ?_⟩) ?_; rotate_left; (intro w hw; clear hw; (try go_split_ands); go_simp; try (with_reducible rfl)); simp only [Act.put, List.setIfInBounds_toArray, List.set_cons_zero, List.set_cons_succ])
                    (refine Walk.take (i := 8) (oi := { dst := some 79, op := Op.indexAddr 23 (Operand.tmp 77) (Operand.tmp 78), type := 0, pos := "ref.go:28", after := #[{ on := 6, ground := Ground.data }, { on := 7, ground := Ground.data }], guard := none }) (v := ?_) rfl (by kernel_rfl) (by kernel_rfl) (by kernel_rfl) (by kernel_rfl) (fun _ _ _ h => h) (Or.inl ⟨by rfl, ?_⟩) ?_; rotate_left; (intro w hw; clear hw; (try go_split_ands); go_simp; try (with_reducible rfl)); simp only [Act.put, List.setIfInBounds_toArray, List.set_cons_zero, List.set_cons_succ])
                    (refine Walk.take (i := 9) (oi := { dst := some 80, op := Op.load 5 (Operand.tmp 79), type := 5, pos := "ref.go:28", after := #[{ on := 8, ground := Ground.data }], guard := none }) (v := ?_) rfl (by kernel_rfl) (by kernel_rfl) (by kernel_rfl) (by kernel_rfl) (fun _ _ _ h => h) (Or.inl ⟨by rfl, ?_⟩) ?_; rotate_left; (intro w hw; have hS1 := hw.1 (by kernel_rfl); clear hw; (try dsimp only at hS1); (try go_split_ands); go_simp; try (with_reducible rfl)); simp only [Act.put, List.setIfInBounds_toArray, List.set_cons_zero, List.set_cons_succ])
                    (refine Walk.take (i := 10) (oi := { dst := some 81, op := Op.binOp BinOp.eql 5 (Operand.tmp 75) (Operand.tmp 80) 5, type := 4, pos := "ref.go:28", after := #[{ on := 4, ground := Ground.data }, { on := 9, ground := Ground.data }], guard := none }) (v := ?_) rfl (by kernel_rfl) (by kernel_rfl) (by kernel_rfl) (by kernel_rfl) (fun _ _ _ h => h) (Or.inl ⟨by rfl, ?_⟩) ?_; rotate_left; (intro w hw; clear hw; (try go_split_ands); go_simp; try (with_reducible rfl)); simp only [Act.put, List.setIfInBounds_toArray, List.set_cons_zero, List.set_cons_succ])
                    refine Walk.done (by kernel_rfl) ?_ _
                    go_wp2_with fail
                    go_roundw
                    case rel => exact ⟨k + 1, by omega, by go_num, fun j hj => by
                        by_cases e : j = k
                        · subst e
                          rw [List.getElem?_eq_getElem (by omega), List.getElem?_eq_getElem hil, HXY.out.1, HXY.out.2]
                          intro h
                          exact hxy (Option.some.inj h)
                        · exact HNE.out j (by omega), HK.out⟩
                    case measure => simp [intOf]; omega
                · obtain rfl : k = i := by omega
                  have HK : Hid _ := kk
                  have HNE : Hid _ := hne
                  clear kk hne
                  go_wp2_with fail
                  go_roundw
                  case rel => exact ⟨k + 1, by omega, by go_num, fun a ha j hj => by
                      by_cases e : a = k
                      · subst e; exact HNE.out j hj
                      · exact HP.out a (by omega) j hj, HK.out⟩
                  case measure => simp [intOf]; omega
            · obtain rfl : i = l.length := by omega
              have hyes : checkB c l = true := (checkB_iff c l).2 (HA.out (nodup_of HP.out))
              have HX : Hid _ := kk.but
              clear kk
              go_wp2_with fail
              go_ret
              first | exact ⟨rfl, HX.out⟩ | exact ⟨by rw [hyes]; rfl, HX.out⟩
      · have hno : checkB c l = false := checkB_not c l (fun h => a h.sum)
        have HX : Hid _ := kk.but
        clear kk hok HOK
        generalize cnt c 16 = N at *
        go_wp2_with fail
        go_ret
        first | exact ⟨rfl, HX.out⟩ | exact ⟨by rw [hno]; rfl, HX.out⟩

end Go.Proofs.Ytlpeplihbdcklaa
