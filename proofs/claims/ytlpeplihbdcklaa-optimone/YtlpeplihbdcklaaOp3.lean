/- Sizes of all 257, the document's. -/
import Derived.Test.YtlpeplihbdcklaaOp2
namespace Go.Proofs.Ytlpeplihbdcklaa
set_option linter.unusedVariables false
open Go.ChangeShapes Go.WideShapes Go.ChangeAt Go.RowKit

theorem runF_none {n : Nat} {f : Fo} (h : pairOf n f.w = none) : ∀ m, runF n m f = f
  | 0 => rfl
  | m + 1 => by unfold runF; rw [h]

theorem runF_some {n : Nat} {f : Fo} {A B : Nat} (h : pairOf n f.w = some (A, B)) (m : Nat) : runF n (m + 1) f = runF n m (joinF f A B) := by
  show (match pairOf n f.w with | none => f | some (A, B) => runF n m (joinF f A B)) = _
  rw [h]

/-- Once all are joined more rounds change nothing. -/
theorem run_enough {W : Nat → Int} {n : Nat} : ∀ (k : Nat) (f : Fo) (h : FInv W n f), alive f.w n ≤ k → ∀ m, k ≤ m → runF n m f = runF n k f
  | 0, f, h, hk, m, _ => by
    have hn : pairOf n f.w = none := by
      cases e : pairOf n f.w with
      | none => rfl
      | some x => obtain ⟨A, B⟩ := x; have := alive_two (pairOf_some e).1; omega
    exact runF_none hn m
  | k + 1, f, h, hk, m, hm => by
    cases e : pairOf n f.w with
    | none => rw [runF_none e, runF_none e]
    | some x =>
      obtain ⟨A, B⟩ := x
      obtain ⟨m', rfl⟩ : ∃ m', m = m' + 1 := ⟨m - 1, by omega⟩
      have p := (pairOf_some e).1
      rw [runF_some e, runF_some e]
      exact run_enough k _ (h.join p) (by show alive (joined f.w A B) n ≤ k; rw [alive_join p]; omega) m' (by omega)

/-- What holds between two rounds. -/
structure Rn (W : Nat → Int) (f : Fo) : Prop where
  inv : FInv W 257 f
  run : ∀ m : Nat, alive f.w 257 ≤ m → (runF 257 m f).size = sizesF W 257
  room : ∀ j, (f.size j : Int) + alive f.w 257 ≤ 257

theorem Rn.start {W : Nat → Int} (h : Wt W) : Rn W (startF W) := by
  have h0 := FInv.start h.pos
  have ha := alive_le W 257
  refine ⟨h0, fun m hm => ?_, fun j => ?_⟩
  · unfold sizesF
    by_cases q : m ≤ 257
    · rw [run_enough m _ h0 hm 257 q]
    · rw [run_enough 257 _ h0 ha m (by omega)]
  · show ((0 : Nat) : Int) + alive W 257 ≤ 257
    omega

theorem Rn.done {W : Nat → Int} {f : Fo} (h : Rn W f) (hn : pairOf 257 f.w = none) : f.size = sizesF W 257 := by
  have := h.run (alive f.w 257).toNat (by omega)
  rw [runF_none hn] at this
  exact this

theorem Rn.next {W : Nat → Int} {f : Fo} (h : Rn W f) {A B : Nat} (hp : pairOf 257 f.w = some (A, B)) : Rn W (joinF f A B) ∧ alive (joined f.w A B) 257 = alive f.w 257 - 1 ∧ 2 ≤ alive f.w 257 := by
  have p := (pairOf_some hp).1
  have ha := alive_join p
  have h2 := alive_two p
  refine ⟨⟨h.inv.join p, fun m hm => ?_, fun j => ?_⟩, ha, h2⟩
  · have hm' : alive (joined f.w A B) 257 ≤ m := hm
    rw [← h.run (m + 1) (by omega), runF_some hp]
  · have := h.room j
    show (((if f.tree j = A ∨ f.tree j = B then f.size j + 1 else f.size j : Nat)) : Int) + alive (joined f.w A B) 257 ≤ 257
    rw [ha]
    split <;> omega

/-- No tree is heavier than all. -/
theorem FInv.light {W : Nat → Int} {f : Fo} (h : FInv W 257 f) (hW : ∀ i, i < 257 → 0 ≤ W i ∧ W i ≤ 1048576) (a : Nat) (ha : a < 257) : 0 ≤ f.w a ∧ f.w a ≤ 269484032 := by
  refine ⟨h.pos a ha, ?_⟩
  by_cases q : 0 < f.w a
  · rw [h.weight a ha q]
    have := sm_le (f := fun i => if 0 < W i ∧ f.tree i = a then W i else 0) (g := fun _ => 1048576) (n := 257) (fun i hi => by
      have := hW i hi
      split <;> omega)
    have e : ∀ n, sm (fun _ => 1048576) n = 1048576 * (n : Int) := fun n => by
      induction n with
      | zero => rfl
      | succ n ih => unfold sm; rw [ih]; omega
    rw [e] at this
    omega
  · omega

theorem pair_of_least {w : Nat → Int} (h : leastI w (leastI w (-1) 257) 257 < 0) : pairOf 257 w = none := by unfold pairOf; rw [if_pos h]
theorem pair_some_least {w : Nat → Int} (h : ¬ leastI w (leastI w (-1) 257) 257 < 0) : ∃ A B : Nat, pairOf 257 w = some (A, B) ∧ leastI w (-1) 257 = A ∧ leastI w (A : Int) 257 = B ∧ Pair w 257 A B := by
  have hp : pairOf 257 w = some ((leastI w (-1) 257).toNat, (leastI w (leastI w (-1) 257) 257).toNat) := by unfold pairOf; rw [if_neg h]
  obtain ⟨p, e1, e2⟩ := pairOf_some hp
  exact ⟨_, _, hp, e1, e2, p⟩

theorem meas_is {V : World} {g : Nat} {t : TypeId} {f : Nat → Int} (h : Cells V g t (tab .i64 257 f)) : alive (fun j => intOf ((V.cell? ⟨g, j, none⟩).getD (.int .i64 0))) 257 = alive f 257 :=
  sm_congr (fun j hj => by
    show (if 0 < intOf ((V.cell? ⟨g, j, none⟩).getD (.int .i64 0)) then (1 : Int) else 0) = _
    rw [h.cell j hj]
    rfl)

theorem Keep.front1 {w W : World} {l : List Bk} {x : Bk} (h : Keep w W (x :: l)) : Keep w W [x] :=
  ⟨h.but, fun y hy => h.new y (by simp at hy; simp [hy]), fun y hy => h.holds y (by simp at hy; simp [hy]), by simp⟩

theorem join_tab {w : Nat → Int} {A B : Nat} (h : A ≠ B) : tab .i64 257 (upd (upd w A (w A + w B)) B 0) = tab .i64 257 (joined w A B) := tab_congr _ _ _ _ (fun j hj => by
  unfold upd joined
  by_cases e : j = B
  · subst e; rw [if_pos rfl, if_neg (fun q => h q.symm), if_pos rfl]
  · rw [if_neg e, if_neg e])

theorem tab_start (f g : Nat → Int) : tab .i64 257 (fun j => if j < 0 then f j else g j) = tab .i64 257 g := tab_congr _ _ _ _ (fun j hj => if_neg (by omega))

/-- A value's tree and size behind a join. -/
theorem join_yes {f : Fo} {A B j : Nat} (h : f.tree j = A ∨ f.tree j = B) : (joinF f A B).tree j = A ∧ (joinF f A B).size j = f.size j + 1 := ⟨if_pos h, if_pos h⟩
theorem join_no {f : Fo} {A B j : Nat} (h : ¬ (f.tree j = A ∨ f.tree j = B)) : (joinF f A B).tree j = f.tree j ∧ (joinF f A B).size j = f.size j := ⟨if_neg h, if_neg h⟩

theorem tab_same (kd : IntKind) (n : Nat) (f g : Nat → Int) (k : Nat) (h : f k = g k) : tab kd n (fun j => if j < k then f j else g j) = tab kd n (fun j => if j < k + 1 then f j else g j) := tab_congr _ _ _ _ (fun j hj => by
  by_cases e : j < k
  · rw [if_pos e, if_pos (show j < k + 1 by omega)]
  · by_cases q : j = k
    · subst q; rw [if_neg e, if_pos (show j < j + 1 by omega), h]
    · rw [if_neg e, if_neg (show ¬ j < k + 1 by omega)])

set_option maxHeartbeats 3200000 in
set_option maxRecDepth 100000 in
theorem refAll_any (pv : Value) (l : List Int) (hI : ∀ x ∈ l, I64 x) (hl : l.length ≤ 140737488355328) (w : World) (hv : View w .i64 pv l) : Calls Try.prog 33 #[pv] w fun e w' => ∃ g, e = .returned (.slice (some ⟨g, 0, none⟩) 257 257) ∧ Keep w w' [(g, 3, tab .i64 257 (fun i => (szF (wtF l) i : Int)))] := by
  have HV : Hid (View w .i64 pv l) := hv
  have HI : Hid _ := hI
  clear hv hI
  have hm := make257
  go_enter Try.func33, Try.ntmps33
  go_wp2_with (go_at_call 36; refine (refWeights_any _ l HI.out hl _ HV.out).mono ?_; rintro e x ⟨gw, rfl, kk⟩)
  replace kk := (kk.made 3 (tab .i64 257 (fun _ => 0))).made 3 (tab .i64 257 (fun _ => 0))
  rw [World.size_alloc] at kk
  revert kk
  generalize (x.alloc (.cells (tab .i64 257 (fun _ => 0)).toArray 3)).alloc (.cells (tab .i64 257 (fun _ => 0)).toArray 3) = W1
  obtain ⟨gs, hgs⟩ : ∃ n, x.heap.size = n := ⟨_, rfl⟩
  rw [hgs]
  clear hgs
  obtain ⟨gt, hgt⟩ : ∃ n, gs + 1 = n := ⟨_, rfl⟩
  rw [hgt]
  clear hgt hm
  intro kk
  go_loopw [6] (fun i V => ∃ k : Nat, k ≤ 257 ∧ i = .int .i64 k ∧ Keep w V [(gt, 3, tab .i64 257 (fun j => if j < k then (j : Int) else 0)), (gs, 3, tab .i64 257 (fun _ => 0)), (gw, 3, tab .i64 257 (wtF l))]) (fun i _ => 257 - (intOf i).toNat)
  case atStart => exact ⟨0, Nat.zero_le _, rfl, by rw [wt_start (fun j => (j : Int))]; exact kk⟩
  case round =>
    clear kk
    obtain ⟨k, hk, rfl, kk⟩ := hrel
    by_cases hlt : k < 257
    · have i0 : (0 : Int) ≤ (k : Int) := by omega
      have i1 : (k : Int) < 257 := by omega
      have kX := kk.set k (.int .i64 (k : Int))
      rw [wt_set (fun j => (j : Int))] at kX
      have HX : Hid _ := kX
      have q0 := kk.head.cell k hlt
      have f0 := kk.head.frozen k
      clear kX kk
      go_wp2_with fail
      go_roundw
      case rel => exact ⟨k + 1, by omega, by go_num, HX.out⟩
      case measure => simp [intOf]; omega
    · obtain rfl : k = 257 := by omega
      rw [tab_full] at kk
      go_wp2_with fail
      simp only [show ((257 : Nat) : Int) = 257 from rfl]
      go_loopw [7, 8, 9] (fun _ _ _ V => ∃ f : Fo, Rn (wtF l) f ∧ Keep w V [(gt, 3, tab .i64 257 (fun j => (f.tree j : Int))), (gs, 3, tab .i64 257 (fun j => (f.size j : Int))), (gw, 3, tab .i64 257 f.w)]) (fun _ _ _ V => (alive (fun j => intOf ((V.cell? ⟨gw, j, none⟩).getD (.int .i64 0))) 257).toNat)
      case atStart => exact ⟨startF (wtF l), Rn.start (wtF_wt l), kk⟩
      case round =>
        clear kk
        obtain ⟨f, hR, kk⟩ := hrel
        have HL : Hid (∀ a, a < 257 → 0 ≤ f.w a ∧ f.w a ≤ 269484032) := hR.inv.light (fun i _ => wtF_bd l i)
        have HR : Hid (Rn (wtF l) f) := hR
        have HM : Hid _ := meas_is (kk.get (b := gw) (t := 3) (c := tab .i64 257 f.w) (by simp))
        clear hR
        by_cases hneg : leastI f.w (leastI f.w (-1) 257) 257 < 0
        · have HF : Hid (f.size = szF (wtF l)) := HR.out.done (pair_of_least hneg)
          go_wp2_with (go_at_call 49; refine (refLeast_any f.w _ gw _ (kk.get (b := gw) (t := 3) (c := tab .i64 257 f.w) (by simp))).mono ?_; rintro e y ⟨rfl, dd⟩; replace kk := kk.step dd; clear dd)
          go_ret
          rw [HF.out] at kk
          exact ⟨_, rfl, kk.drop.front1⟩
        · obtain ⟨A, B, hp, e1, e2, pp⟩ := pair_some_least hneg
          have HP : Hid _ := And.intro hp pp
          have hA := pp.a
          have hB := pp.b
          have hAB := pp.ne
          have a0 : (0 : Int) ≤ (A : Int) := by omega
          have b0 : (0 : Int) ≤ (B : Int) := by omega
          have a1 : (A : Int) < 257 := by omega
          have b1 : (B : Int) < 257 := by omega
          clear hneg hp pp
          go_upto_region 10 with (go_at_call 49; refine (refLeast_any f.w _ gw _ (kk.get (b := gw) (t := 3) (c := tab .i64 257 f.w) (by simp))).mono ?_; rintro e y ⟨rfl, dd⟩; replace kk := kk.step dd; clear dd; first | rw [e1] | rw [e2])
          clear e1 e2
          go_wp2_with fail
          replace kk := kk.third
          have cA := kk.head.cell A hA
          have cB := kk.head.cell B hB
          have r1 : IntKind.i64.wrap (f.w A + f.w B) = f.w A + f.w B := by
            have := HL.out A hA
            have := HL.out B hB
            rw [wrap_i64_eq, w64 _ (by omega)]
          focus
            refine wp_region_till (S := fun V => V.cell? ⟨gw, A, none⟩ = some (.int .i64 (f.w A)) ∧ V.cell? ⟨gw, B, none⟩ = some (.int .i64 (f.w B))) (R := fun _ => True) (k := 10) (m := 100) (by kernel_rfl) ⟨cA, cB⟩ trivial ?_
            (refine Walk.take (i := 0) (oi := { dst := some 30, op := Op.move (Operand.tmp 3), type := 22, pos := "ref.go:44", after := #[], guard := none }) (v := ?_) rfl (by kernel_rfl) (by kernel_rfl) (by kernel_rfl) (by kernel_rfl) (fun _ _ _ h => h) (Or.inl ⟨by rfl, ?_⟩) ?_; rotate_left; (intro w hw; clear hw; (try go_split_ands); go_simp; try (with_reducible rfl)); simp only [Act.put, List.setIfInBounds_toArray, List.set_cons_zero, List.set_cons_succ])
            (refine Walk.take (i := 1) (oi := { dst := some 31, op := Op.move (Operand.tmp 7), type := 3, pos := "ref.go:44", after := #[], guard := none }) (v := ?_) rfl (by kernel_rfl) (by kernel_rfl) (by kernel_rfl) (by kernel_rfl) (fun _ _ _ h => h) (Or.inl ⟨by rfl, ?_⟩) ?_; rotate_left; (intro w hw; clear hw; (try go_split_ands); go_simp; try (with_reducible rfl)); simp only [Act.put, List.setIfInBounds_toArray, List.set_cons_zero, List.set_cons_succ])
            (refine Walk.take (i := 2) (oi := { dst := some 32, op := Op.indexAddr 22 (Operand.tmp 30) (Operand.tmp 31), type := 0, pos := "ref.go:44", after := #[{ on := 0, ground := Ground.data }, { on := 1, ground := Ground.data }], guard := none }) (v := ?_) rfl (by kernel_rfl) (by kernel_rfl) (by kernel_rfl) (by kernel_rfl) (fun _ _ _ h => h) (Or.inl ⟨by rfl, ?_⟩) ?_; rotate_left; (intro w hw; clear hw; (try go_split_ands); go_simp; try (with_reducible rfl)); simp only [Act.put, List.setIfInBounds_toArray, List.set_cons_zero, List.set_cons_succ])
            (refine Walk.take (i := 3) (oi := { dst := some 33, op := Op.load 3 (Operand.tmp 32), type := 3, pos := "ref.go:44", after := #[{ on := 2, ground := Ground.data }], guard := none }) (v := ?_) rfl (by kernel_rfl) (by kernel_rfl) (by kernel_rfl) (by kernel_rfl) (fun _ _ _ h => h) (Or.inl ⟨by rfl, ?_⟩) ?_; rotate_left; (intro w hw; have hS1 := hw.1 (by kernel_rfl); clear hw; (try dsimp only at hS1); (try go_split_ands); go_simp; try (with_reducible rfl)); simp only [Act.put, List.setIfInBounds_toArray, List.set_cons_zero, List.set_cons_succ])
            (refine Walk.take (i := 4) (oi := { dst := some 34, op := Op.move (Operand.tmp 3), type := 22, pos := "ref.go:44", after := #[], guard := none }) (v := ?_) rfl (by kernel_rfl) (by kernel_rfl) (by kernel_rfl) (by kernel_rfl) (fun _ _ _ h => h) (Or.inl ⟨by rfl, ?_⟩) ?_; rotate_left; (intro w hw; clear hw; (try go_split_ands); go_simp; try (with_reducible rfl)); simp only [Act.put, List.setIfInBounds_toArray, List.set_cons_zero, List.set_cons_succ])
            (refine Walk.take (i := 5) (oi := { dst := some 35, op := Op.move (Operand.tmp 8), type := 3, pos := "ref.go:44", after := #[], guard := none }) (v := ?_) rfl (by kernel_rfl) (by kernel_rfl) (by kernel_rfl) (by kernel_rfl) (fun _ _ _ h => h) (Or.inl ⟨by rfl, ?_⟩) ?_; rotate_left; (intro w hw; clear hw; (try go_split_ands); go_simp; try (with_reducible rfl)); simp only [Act.put, List.setIfInBounds_toArray, List.set_cons_zero, List.set_cons_succ])
            (refine Walk.take (i := 6) (oi := { dst := some 36, op := Op.indexAddr 22 (Operand.tmp 34) (Operand.tmp 35), type := 0, pos := "ref.go:44", after := #[{ on := 4, ground := Ground.data }, { on := 5, ground := Ground.data }], guard := none }) (v := ?_) rfl (by kernel_rfl) (by kernel_rfl) (by kernel_rfl) (by kernel_rfl) (fun _ _ _ h => h) (Or.inl ⟨by rfl, ?_⟩) ?_; rotate_left; (intro w hw; clear hw; (try go_split_ands); go_simp; try (with_reducible rfl)); simp only [Act.put, List.setIfInBounds_toArray, List.set_cons_zero, List.set_cons_succ])
            (refine Walk.take (i := 7) (oi := { dst := some 37, op := Op.load 3 (Operand.tmp 36), type := 3, pos := "ref.go:44", after := #[{ on := 6, ground := Ground.data }], guard := none }) (v := ?_) rfl (by kernel_rfl) (by kernel_rfl) (by kernel_rfl) (by kernel_rfl) (fun _ _ _ h => h) (Or.inl ⟨by rfl, ?_⟩) ?_; rotate_left; (intro w hw; have hS1 := hw.1 (by kernel_rfl); clear hw; (try dsimp only at hS1); (try go_split_ands); go_simp; try (with_reducible rfl)); simp only [Act.put, List.setIfInBounds_toArray, List.set_cons_zero, List.set_cons_succ])
            (refine Walk.take (i := 8) (oi := { dst := some 38, op := Op.binOp BinOp.add 3 (Operand.tmp 33) (Operand.tmp 37) 3, type := 3, pos := "ref.go:44", after := #[{ on := 3, ground := Ground.data }, { on := 7, ground := Ground.data }], guard := none }) (v := ?_) rfl (by kernel_rfl) (by kernel_rfl) (by kernel_rfl) (by kernel_rfl) (fun _ _ _ h => h) (Or.inl ⟨by rfl, ?_⟩) ?_; rotate_left; (intro w hw; clear hw; (try go_split_ands); go_simp; try (with_reducible rfl)); simp only [Act.put, List.setIfInBounds_toArray, List.set_cons_zero, List.set_cons_succ])
            (refine Walk.take (i := 9) (oi := { dst := some 39, op := Op.indexAddr 22 (Operand.tmp 30) (Operand.tmp 31), type := 0, pos := "ref.go:44", after := #[{ on := 0, ground := Ground.data }, { on := 1, ground := Ground.data }, { on := 0, ground := Ground.phase }, { on := 1, ground := Ground.phase }, { on := 2, ground := Ground.phase }, { on := 3, ground := Ground.phase }, { on := 4, ground := Ground.phase }, { on := 5, ground := Ground.phase }, { on := 6, ground := Ground.phase }, { on := 7, ground := Ground.phase }, { on := 8, ground := Ground.phase }], guard := none }) (v := ?_) rfl (by kernel_rfl) (by kernel_rfl) (by kernel_rfl) (by kernel_rfl) (fun _ _ _ h => h) (Or.inl ⟨by rfl, ?_⟩) ?_; rotate_left; (intro w hw; clear hw; (try go_split_ands); go_simp; try (with_reducible rfl)); simp only [Act.put, List.setIfInBounds_toArray, List.set_cons_zero, List.set_cons_succ])
            have f0 := kk.head.frozen A
            (refine Walk.go (i := 10) (o := { dst := none, op := Op.store 3 (Operand.tmp 39) (Operand.tmp 38), type := 0, pos := "ref.go:44", after := #[{ on := 9, ground := Ground.data }, { on := 8, ground := Ground.data }, { on := 0, ground := Ground.phase }, { on := 1, ground := Ground.phase }, { on := 2, ground := Ground.phase }, { on := 3, ground := Ground.phase }, { on := 4, ground := Ground.phase }, { on := 5, ground := Ground.phase }, { on := 6, ground := Ground.phase }, { on := 7, ground := Ground.phase }, { on := 8, ground := Ground.phase }], guard := none }) (by kernel_rfl) rfl (fun K hK => ?_); go_simp; (replace kk := kk.set A (.int .i64 (f.w A + f.w B)); rw [tab_set] at kk; clear f0 cA cB); refine hK.out _ _ (⟨fun q => absurd q (by decide), fun _ => trivial⟩) ?_; clear hK K; try simp only [Act.put, List.setIfInBounds_toArray, List.set_cons_zero, List.set_cons_succ])
            refine Walk.done (by kernel_rfl) ?_ _
            replace kk := kk.drew
            revert kk
            generalize (y.setCell ⟨gw, A, none⟩ (.int .i64 (f.w A + f.w B))).drew = W2
            intro kk
            have q0 := kk.head.cell B hB
            have f0 := kk.head.frozen B
            replace kk := kk.set B (.int .i64 0)
            rw [tab_set, join_tab hAB] at kk
            have HX : Hid _ := kk
            clear kk r1
            go_wp2_with fail
            have kk := HX.out
            clear HX q0 f0
            revert kk
            generalize W2.setCell ⟨gw, B, none⟩ (.int .i64 0) = W3
            intro kk
            replace kk := kk.third.third
            go_loopw [9] (fun i V => ∃ k : Nat, k ≤ 257 ∧ i = .int .i64 k ∧ Keep w V [(gt, 3, tab .i64 257 (fun j => if j < k then ((joinF f A B).tree j : Int) else (f.tree j : Int))), (gs, 3, tab .i64 257 (fun j => if j < k then ((joinF f A B).size j : Int) else (f.size j : Int))), (gw, 3, tab .i64 257 (joined f.w A B))]) (fun i _ => 257 - (intOf i).toNat)
            case atStart => exact ⟨0, Nat.zero_le _, rfl, by rw [tab_start, tab_start]; exact kk⟩
            case round =>
              clear kk
              obtain ⟨k, hk, rfl, kk⟩ := hrel
              by_cases hlt : k < 257
              · have i0 : (0 : Int) ≤ (k : Int) := by omega
                have i1 : (k : Int) < 257 := by omega
                have c0 := kk.head.cell k hlt
                rw [if_neg (Nat.lt_irrefl k)] at c0
                have HK : Hid _ := kk
                clear kk
                have r1 : wrap64 ((f.size k : Int) + 1) = (f.size k : Int) + 1 := by
                  have := HR.out.room k
                  have := (HR.out.next HP.out.1).2.2
                  exact w64 _ (by omega)
                by_cases hj : f.tree k = A ∨ f.tree k = B
                · have HT : Hid ((tab .i64 257 (fun j => if j < k then ((joinF f A B).tree j : Int) else (f.tree j : Int))).set k (.int .i64 (A : Int)) = tab .i64 257 (fun j => if j < k + 1 then ((joinF f A B).tree j : Int) else (f.tree j : Int))) := by
                    have h := tab_grow .i64 257 (fun j => ((joinF f A B).tree j : Int)) (fun j => (f.tree j : Int)) k
                    rw [(join_yes hj).1] at h
                    exact h
                  have HS : Hid ((tab .i64 257 (fun j => if j < k then ((joinF f A B).size j : Int) else (f.size j : Int))).set k (.int .i64 ((f.size k : Int) + 1)) = tab .i64 257 (fun j => if j < k + 1 then ((joinF f A B).size j : Int) else (f.size j : Int))) := by
                    rw [show (f.size k : Int) + 1 = (((joinF f A B).size k : Nat) : Int) by rw [(join_yes hj).2]; omega]; exact tab_grow .i64 257 (fun j => ((joinF f A B).size j : Int)) (fun j => (f.size j : Int)) k
                  by_cases h1 : f.tree k = A
                  · rw [h1] at c0
                    clear hj h1
                    have kk := HK.out
                    have f0 := kk.head.frozen k
                    replace kk := kk.set k (.int .i64 (A : Int))
                    rw [HT.out] at kk
                    have HX : Hid _ := kk
                    clear kk
                    go_upto_region 19 with fail
                    have kk := HX.out
                    clear HX f0 c0
                    revert kk
                    generalize wr.setCell ⟨gt, k, none⟩ (.int .i64 (A : Int)) = W4
                    intro kk
                    replace kk := kk.swap
                    have f0 := kk.head.frozen k
                    have c0 := kk.head.cell k hlt
                    rw [if_neg (Nat.lt_irrefl k)] at c0
                    replace kk := kk.set k (.int .i64 ((f.size k : Int) + 1))
                    rw [HS.out] at kk
                    have HX : Hid _ := kk.swap
                    clear kk
                    go_wp2_with fail
                    go_roundw
                    case rel => exact ⟨k + 1, by omega, by go_num, HX.out⟩
                    case measure => simp [intOf]; omega
                  · have h2 : f.tree k = B := hj.elim (fun q => absurd q h1) id
                    rw [h2] at c0
                    have d1 : ((B : Int) == (A : Int)) = false := by simp; omega
                    clear hj h1 h2
                    have kk := HK.out
                    have f0 := kk.head.frozen k
                    replace kk := kk.set k (.int .i64 (A : Int))
                    rw [HT.out] at kk
                    have HX : Hid _ := kk
                    clear kk
                    go_upto_region 19 with fail
                    have kk := HX.out
                    clear HX f0 c0
                    revert kk
                    generalize wr.setCell ⟨gt, k, none⟩ (.int .i64 (A : Int)) = W4
                    intro kk
                    replace kk := kk.swap
                    have f0 := kk.head.frozen k
                    have c0 := kk.head.cell k hlt
                    rw [if_neg (Nat.lt_irrefl k)] at c0
                    replace kk := kk.set k (.int .i64 ((f.size k : Int) + 1))
                    rw [HS.out] at kk
                    have HX : Hid _ := kk.swap
                    clear kk
                    go_wp2_with fail
                    go_roundw
                    case rel => exact ⟨k + 1, by omega, by go_num, HX.out⟩
                    case measure => simp [intOf]; omega
                · have HX : Hid (Keep w wr [(gt, 3, tab .i64 257 (fun j => if j < k + 1 then ((joinF f A B).tree j : Int) else (f.tree j : Int))), (gs, 3, tab .i64 257 (fun j => if j < k + 1 then ((joinF f A B).size j : Int) else (f.size j : Int))), (gw, 3, tab .i64 257 (joined f.w A B))]) := by
                    have h1 := join_no hj
                    rw [← tab_same .i64 257 (fun j => ((joinF f A B).tree j : Int)) (fun j => (f.tree j : Int)) k (by rw [h1.1]), ← tab_same .i64 257 (fun j => ((joinF f A B).size j : Int)) (fun j => (f.size j : Int)) k (by rw [h1.2])]
                    exact HK.out
                  have d1 : ((f.tree k : Int) == (A : Int)) = false := by simp; omega
                  have d2 : ((f.tree k : Int) == (B : Int)) = false := by simp; omega
                  clear hj r1
                  generalize f.tree k = t at *
                  go_wp2_with fail
                  go_roundw
                  case rel => exact ⟨k + 1, by omega, by go_num, HX.out⟩
                  case measure => simp [intOf]; omega
              · obtain rfl : k = 257 := by omega
                rw [tab_full, tab_full] at kk
                have HX : Hid _ := kk
                have HM2 : Hid _ := meas_is (kk.get (b := gw) (t := 3) (c := tab .i64 257 (joined f.w A B)) (by simp))
                clear kk
                go_wp2_with fail
                go_roundw
                case rel => exact ⟨joinF f A B, (HR.out.next HP.out.1).1, HX.out⟩
                case measure =>
                  obtain ⟨h1, h2, h3⟩ := HR.out.next HP.out.1
                  rw [HM.out, HM2.out, h2]
                  omega

end Go.Proofs.Ytlpeplihbdcklaa
