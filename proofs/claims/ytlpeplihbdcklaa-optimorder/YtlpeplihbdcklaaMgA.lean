import Derived.Test.YtlpeplihbdcklaaOp3
import Derived.Test.YtlpeplihbdcklaaHuTake
import Derived.Test.YtlpeplihbdcklaaOp4
import Derived.Test.YtlpeplihbdcklaaBld
import Derived.Test.YtlpeplihbdcklaaOp5

/- A heap of trees in memory: its cells; what Len, Less and Swap do. -/
namespace Go.Proofs.Ytlpeplihbdcklaa
set_option linter.unusedVariables false
open Go.ChangeShapes Go.WideShapes Go.ChangeAt Go.RowKit

/-- A tree: its number, its weight, its values as they lie, and which they are. -/
structure Tr where
  n : Nat
  w : Int
  b : Nat
  cap : Nat
  l : List Int

/-- Its values, as they lie. -/
abbrev Tr.v (t : Tr) : Value := .slice (some ⟨t.b, 0, none⟩) t.l.length t.cap

/-- The lighter one; of as light ones the one of the greater number. -/
def befT (a b : Tr) : Bool := if a.w = b.w then decide (b.n < a.n) else decide (a.w < b.w)

def trC (t : Tr) : List Value := [.int .i64 t.n, .int .i64 t.w, t.v]

/-- The cells of m trees. -/
def trs : Nat → (Nat → Tr) → List Value
  | 0, _ => []
  | m + 1, g => trs m g ++ trC (g m)

theorem trs_length : ∀ m g, (trs m g).length = m * 3
  | 0, _ => rfl
  | m + 1, g => by simp [trs, trs_length m g, trC]; omega

theorem trs_at : ∀ (m : Nat) (g : Nat → Tr) (i : Nat), i < m → ∀ j, j < 3 → (trs m g)[i * 3 + j]? = (trC (g i))[j]?
  | 0, _, _, h, _, _ => by omega
  | m + 1, g, i, h, j, hj => by
    unfold trs
    by_cases e : i = m
    · subst e
      rw [List.getElem?_append_right (by rw [trs_length]; omega), trs_length, Nat.add_sub_cancel_left]
    · rw [List.getElem?_append_left (by rw [trs_length]; omega)]
      exact trs_at m g i (by omega) j hj

theorem trs_congr : ∀ (m : Nat) (g h : Nat → Tr), (∀ i, i < m → g i = h i) → trs m g = trs m h
  | 0, _, _, _ => rfl
  | m + 1, g, h, e => by unfold trs; rw [trs_congr m g h (fun i hi => e i (by omega)), e m (by omega)]

/-- v is a list of these numbers, in a block of numbers. -/
def Vals (W : World) (v : Value) (l : List Int) : Prop :=
  ∃ b cap cur, v = .slice (some ⟨b, 0, none⟩) l.length cap ∧ W.heap[b]? = some (.cells cur 3 (0, 0)) ∧ ∀ i (hi : i < l.length), cur[i]? = some (.int .i64 l[i])

/-- A block of trees: m of them, room for cap. -/
structure Hb (W : World) (db cap m : Nat) (g : Nat → Tr) : Prop where
  le : m ≤ cap
  lim : cap ≤ maxLen
  one : ∀ i, i < m → (g i).v.oneCell' = true
  blk : ∃ cur, W.heap[db]? = some (.cells cur 66 (0, 0)) ∧ cur.size = cap * 3 ∧ cur.toList.take (m * 3) = trs m g

theorem Hb.lt {W : World} {db cap m : Nat} {g : Nat → Tr} (h : Hb W db cap m g) : db < W.heap.size := by
  obtain ⟨cur, h1, _⟩ := h.blk
  exact (Array.getElem?_eq_some_iff.1 h1).1

theorem Hb.frozen {W : World} {db cap m : Nat} {g : Nat → Tr} (h : Hb W db cap m g) (j : Nat) : W.frozen? ⟨db, j, none⟩ = false := by
  obtain ⟨cur, h1, _⟩ := h.blk
  simp [World.frozen?, h1]

theorem Hb.at {W : World} {db cap m : Nat} {g : Nat → Tr} (h : Hb W db cap m g) (i : Nat) (hi : i < m) (j : Nat) (hj : j < 3) : W.cell? ⟨db, i * 3 + j, none⟩ = (trC (g i))[j]? := by
  obtain ⟨cur, h1, h2, h3⟩ := h.blk
  rw [cell_of_row W db _ cur _ _ h1, ← trs_at m g i hi j hj, ← h3]
  simp [List.getElem?_take]
  omega

theorem Hb.but {S : Nat → Prop} {W W' : World} {db cap m : Nat} {g : Nat → Tr} (h : Hb W db cap m g) (hb : But S W W') (hs : ¬ S db) : Hb W' db cap m g := by
  obtain ⟨cur, h1, h2⟩ := h.blk
  exact ⟨h.le, h.lim, h.one, cur, (hb.block db h.lt hs).trans h1, h2⟩

/-- A method of a pointer to a list of trees, of what it points to. -/
theorem method_by {name : String} {f : Nat} (hm : ((Try.prog.info? 68).bind (fun i => i.methods.find? (·.name == name))).map (fun m => (m.path.toList, m.func)) = some ([], some (f, false)))
    (hb : Nat) (v : Value) (w : World) (hc : w.cell? ⟨hb, 0, none⟩ = some v) : (method (Try.prog.types.size + 100) 68 (.pointer (some ⟨hb, 0, none⟩)) name).run Try.prog w = .ok (f, v) w := by
  have hu := Try.underlying68
  have hw := Try.underlying62
  have hi : ∃ i, Try.prog.info? 68 = some i := by
    cases h : Try.prog.info? 68 with
    | none => rw [h] at hm; cases hm
    | some i => exact ⟨i, rfl⟩
  obtain ⟨i, hi⟩ := hi
  rw [hi] at hm
  simp only [Option.bind_some, Option.map_eq_some_iff, Prod.mk.injEq] at hm
  obtain ⟨m, h2, h3, h4⟩ := hm
  have h5 : m.path = #[] := Array.toList_inj.1 h3
  have hk : ∀ (x y : String), Builtin.ssaWrapNilChk_ #[68] 68 #[.pointer (some ⟨hb, 0, none⟩), strVal x, strVal y] = pure (.pointer (some ⟨hb, 0, none⟩)) := fun _ _ => rfl
  have ha : ∀ w, (isAgg 62).run Try.prog w = .ok false w := fun w => by simp [isAgg, go_sem]
  unfold method
  simp [typeInfo, hi, h2, h4, h5, go_sem, follow, receiverAt, Place.get, hk, ha, hc]

theorem method_len : ∀ (hb : Nat) (v : Value) (w : World), w.cell? ⟨hb, 0, none⟩ = some v → (method (Try.prog.types.size + 100) 68 (.pointer (some ⟨hb, 0, none⟩)) "Len").run Try.prog w = .ok (39, v) w := method_by (name := "Len") (f := 39) (by kernel_rfl)

theorem method_less : ∀ (hb : Nat) (v : Value) (w : World), w.cell? ⟨hb, 0, none⟩ = some v → (method (Try.prog.types.size + 100) 68 (.pointer (some ⟨hb, 0, none⟩)) "Less").run Try.prog w = .ok (78, v) w := method_by (name := "Less") (f := 78) (by kernel_rfl)
theorem method_swap : ∀ (hb : Nat) (v : Value) (w : World), w.cell? ⟨hb, 0, none⟩ = some v → (method (Try.prog.types.size + 100) 68 (.pointer (some ⟨hb, 0, none⟩)) "Swap").run Try.prog w = .ok (79, v) w := method_by (name := "Swap") (f := 79) (by kernel_rfl)
theorem method_push (hb : Nat) (w : World) : (method (Try.prog.types.size + 100) 68 (.pointer (some ⟨hb, 0, none⟩)) "Push").run Try.prog w = .ok (81, .pointer (some ⟨hb, 0, none⟩)) w := by kernel_rfl
theorem method_pop (hb : Nat) (w : World) : (method (Try.prog.types.size + 100) 68 (.pointer (some ⟨hb, 0, none⟩)) "Pop").run Try.prog w = .ok (80, .pointer (some ⟨hb, 0, none⟩)) w := by kernel_rfl

/-- A list of m trees, as a value. -/
abbrev hv (db m cap : Nat) : Value := .slice (some ⟨db, 0, none⟩) m cap

theorem hp_len (db m cap : Nat) (w : World) : Calls Try.prog 39 #[hv db m cap] w fun e w' => e = .returned (.int .i64 m) ∧ But Nowhere w w' := by
  go_enter Try.func39, Try.ntmps39
  go_wp2_with fail
  go_ret
  exact ⟨rfl, But.refl _ _⟩

theorem Hb.three {W : World} {db cap m : Nat} {g : Nat → Tr} (h : Hb W db cap m g) (i : Nat) (hi : i < m) : W.cell? ⟨db, i * 3, none⟩ = some (.int .i64 (g i).n) ∧ W.cell? ⟨db, i * 3 + 1, none⟩ = some (.int .i64 (g i).w) ∧ W.cell? ⟨db, i * 3 + 2, none⟩ = some (g i).v := ⟨h.at i hi 0 (by omega), h.at i hi 1 (by omega), h.at i hi 2 (by omega)⟩

set_option maxHeartbeats 800000 in
theorem hp_less (db m cap : Nat) (g : Nat → Tr) (i j : Nat) (hi : i < m) (hj : j < m) (hm : m ≤ 100000) (w : World) (h : Hb w db cap m g) : Calls Try.prog 78 #[hv db m cap, .int .i64 i, .int .i64 j] w fun e w' => e = .returned (.bool (befT (g i) (g j))) ∧ But Nowhere w w' := by
  have hu := Try.underlying62
  have ht := Try.underlying66
  have hc3 : Try.prog.cellsOf 66 = 3 := by kernel_rfl
  obtain ⟨a0, a1, -⟩ := h.three i hi
  obtain ⟨b0, b1, -⟩ := h.three j hj
  have i0 : (0 : Int) ≤ (i : Int) := by omega
  have j0 : (0 : Int) ≤ (j : Int) := by omega
  have i1 : (i : Int) < (m : Int) := by omega
  have j1 : (j : Int) < (m : Int) := by omega
  clear h
  go_enter Try.func78, Try.ntmps78
  go_wp2_with fail
  refine wp_region_till (S := fun V => V.cell? ⟨db, i * 3, none⟩ = some (.int .i64 (g i).n) ∧ V.cell? ⟨db, i * 3 + 1, none⟩ = some (.int .i64 (g i).w) ∧ V.cell? ⟨db, j * 3, none⟩ = some (.int .i64 (g j).n) ∧ V.cell? ⟨db, j * 3 + 1, none⟩ = some (.int .i64 (g j).w)) (R := fun _ => True) (k := 100) (m := 100) (by kernel_rfl) ⟨a0, a1, b0, b1⟩ trivial ?_
  (refine Walk.take (i := 0) (oi := { dst := some 7, op := Op.move (Operand.tmp 0), type := 62, pos := "tree.go:21", after := #[], guard := none }) (v := ?_) rfl (by kernel_rfl) (by kernel_rfl) (by kernel_rfl) (by kernel_rfl) (fun _ _ _ h => h) (Or.inl ⟨by rfl, ?_⟩) ?_; rotate_left; (intro w hw; clear hw; (try go_split_ands); go_simp; try (with_reducible rfl)); simp only [Act.put, List.setIfInBounds_toArray, List.set_cons_zero, List.set_cons_succ])
  (refine Walk.take (i := 1) (oi := { dst := some 8, op := Op.move (Operand.tmp 1), type := 3, pos := "tree.go:21", after := #[], guard := none }) (v := ?_) rfl (by kernel_rfl) (by kernel_rfl) (by kernel_rfl) (by kernel_rfl) (fun _ _ _ h => h) (Or.inl ⟨by rfl, ?_⟩) ?_; rotate_left; (intro w hw; clear hw; (try go_split_ands); go_simp; try (with_reducible rfl)); simp only [Act.put, List.setIfInBounds_toArray, List.set_cons_zero, List.set_cons_succ])
  (refine Walk.take (i := 2) (oi := { dst := some 9, op := Op.indexAddr 62 (Operand.tmp 7) (Operand.tmp 8), type := 0, pos := "tree.go:21", after := #[{ on := 0, ground := Ground.data }, { on := 1, ground := Ground.data }], guard := none }) (v := ?_) rfl (by kernel_rfl) (by kernel_rfl) (by kernel_rfl) (by kernel_rfl) (fun _ _ _ h => h) (Or.inl ⟨by rfl, ?_⟩) ?_; rotate_left; (intro w hw; clear hw; (try go_split_ands); go_simp; try (with_reducible rfl)); simp only [Act.put, List.setIfInBounds_toArray, List.set_cons_zero, List.set_cons_succ])
  (refine Walk.take (i := 3) (oi := { dst := some 10, op := Op.fieldAddr 66 (Operand.tmp 9) 1, type := 0, pos := "tree.go:21", after := #[{ on := 2, ground := Ground.data }], guard := none }) (v := ?_) rfl (by kernel_rfl) (by kernel_rfl) (by kernel_rfl) (by kernel_rfl) (fun _ _ _ h => h) (Or.inl ⟨by rfl, ?_⟩) ?_; rotate_left; (intro w hw; clear hw; (try go_split_ands); go_simp; try (with_reducible rfl)); simp only [Act.put, List.setIfInBounds_toArray, List.set_cons_zero, List.set_cons_succ])
  (refine Walk.take (i := 4) (oi := { dst := some 11, op := Op.load 3 (Operand.tmp 10), type := 3, pos := "tree.go:21", after := #[{ on := 3, ground := Ground.data }], guard := none }) (v := ?_) rfl (by kernel_rfl) (by kernel_rfl) (by kernel_rfl) (by kernel_rfl) (fun _ _ _ h => h) (Or.inl ⟨by rfl, ?_⟩) ?_; rotate_left; (intro w hw; have hS1 := hw.1 (by kernel_rfl); clear hw; (try dsimp only at hS1); (try go_split_ands); go_simp; try (with_reducible rfl)); simp only [Act.put, List.setIfInBounds_toArray, List.set_cons_zero, List.set_cons_succ])
  (refine Walk.take (i := 5) (oi := { dst := some 12, op := Op.move (Operand.tmp 0), type := 62, pos := "tree.go:21", after := #[], guard := none }) (v := ?_) rfl (by kernel_rfl) (by kernel_rfl) (by kernel_rfl) (by kernel_rfl) (fun _ _ _ h => h) (Or.inl ⟨by rfl, ?_⟩) ?_; rotate_left; (intro w hw; clear hw; (try go_split_ands); go_simp; try (with_reducible rfl)); simp only [Act.put, List.setIfInBounds_toArray, List.set_cons_zero, List.set_cons_succ])
  (refine Walk.take (i := 6) (oi := { dst := some 13, op := Op.move (Operand.tmp 2), type := 3, pos := "tree.go:21", after := #[], guard := none }) (v := ?_) rfl (by kernel_rfl) (by kernel_rfl) (by kernel_rfl) (by kernel_rfl) (fun _ _ _ h => h) (Or.inl ⟨by rfl, ?_⟩) ?_; rotate_left; (intro w hw; clear hw; (try go_split_ands); go_simp; try (with_reducible rfl)); simp only [Act.put, List.setIfInBounds_toArray, List.set_cons_zero, List.set_cons_succ])
  (refine Walk.take (i := 7) (oi := { dst := some 14, op := Op.indexAddr 62 (Operand.tmp 12) (Operand.tmp 13), type := 0, pos := "tree.go:21", after := #[{ on := 5, ground := Ground.data }, { on := 6, ground := Ground.data }], guard := none }) (v := ?_) rfl (by kernel_rfl) (by kernel_rfl) (by kernel_rfl) (by kernel_rfl) (fun _ _ _ h => h) (Or.inl ⟨by rfl, ?_⟩) ?_; rotate_left; (intro w hw; clear hw; (try go_split_ands); go_simp; try (with_reducible rfl)); simp only [Act.put, List.setIfInBounds_toArray, List.set_cons_zero, List.set_cons_succ])
  (refine Walk.take (i := 8) (oi := { dst := some 15, op := Op.fieldAddr 66 (Operand.tmp 14) 1, type := 0, pos := "tree.go:21", after := #[{ on := 7, ground := Ground.data }], guard := none }) (v := ?_) rfl (by kernel_rfl) (by kernel_rfl) (by kernel_rfl) (by kernel_rfl) (fun _ _ _ h => h) (Or.inl ⟨by rfl, ?_⟩) ?_; rotate_left; (intro w hw; clear hw; (try go_split_ands); go_simp; try (with_reducible rfl)); simp only [Act.put, List.setIfInBounds_toArray, List.set_cons_zero, List.set_cons_succ])
  (refine Walk.take (i := 9) (oi := { dst := some 16, op := Op.load 3 (Operand.tmp 15), type := 3, pos := "tree.go:21", after := #[{ on := 8, ground := Ground.data }], guard := none }) (v := ?_) rfl (by kernel_rfl) (by kernel_rfl) (by kernel_rfl) (by kernel_rfl) (fun _ _ _ h => h) (Or.inl ⟨by rfl, ?_⟩) ?_; rotate_left; (intro w hw; have hS1 := hw.1 (by kernel_rfl); clear hw; (try dsimp only at hS1); (try go_split_ands); go_simp; try (with_reducible rfl)); simp only [Act.put, List.setIfInBounds_toArray, List.set_cons_zero, List.set_cons_succ])
  (refine Walk.take (i := 10) (oi := { dst := some 17, op := Op.binOp BinOp.neq 3 (Operand.tmp 11) (Operand.tmp 16) 3, type := 4, pos := "tree.go:21", after := #[{ on := 4, ground := Ground.data }, { on := 9, ground := Ground.data }], guard := none }) (v := ?_) rfl (by kernel_rfl) (by kernel_rfl) (by kernel_rfl) (by kernel_rfl) (fun _ _ _ h => h) (Or.inl ⟨by rfl, ?_⟩) ?_; rotate_left; (intro w hw; clear hw; (try go_split_ands); go_simp; try (with_reducible rfl)); simp only [Act.put, List.setIfInBounds_toArray, List.set_cons_zero, List.set_cons_succ])
  refine Walk.done (by kernel_rfl) ?_ _
  by_cases e : (g i).w = (g j).w
  · have e1 : (!((g i).w == (g j).w)) = false := by simp [e]
    go_wp2_with fail
    refine wp_region_till (S := fun V => V.cell? ⟨db, i * 3, none⟩ = some (.int .i64 (g i).n) ∧ V.cell? ⟨db, i * 3 + 1, none⟩ = some (.int .i64 (g i).w) ∧ V.cell? ⟨db, j * 3, none⟩ = some (.int .i64 (g j).n) ∧ V.cell? ⟨db, j * 3 + 1, none⟩ = some (.int .i64 (g j).w)) (R := fun _ => True) (k := 100) (m := 100) (by kernel_rfl) ⟨a0, a1, b0, b1⟩ trivial ?_
    (refine Walk.take (i := 0) (oi := { dst := some 29, op := Op.move (Operand.tmp 0), type := 62, pos := "tree.go:24", after := #[], guard := none }) (v := ?_) rfl (by kernel_rfl) (by kernel_rfl) (by kernel_rfl) (by kernel_rfl) (fun _ _ _ h => h) (Or.inl ⟨by rfl, ?_⟩) ?_; rotate_left; (intro w hw; clear hw; (try go_split_ands); go_simp; try (with_reducible rfl)); simp only [Act.put, List.setIfInBounds_toArray, List.set_cons_zero, List.set_cons_succ])
    (refine Walk.take (i := 1) (oi := { dst := some 30, op := Op.move (Operand.tmp 1), type := 3, pos := "tree.go:24", after := #[], guard := none }) (v := ?_) rfl (by kernel_rfl) (by kernel_rfl) (by kernel_rfl) (by kernel_rfl) (fun _ _ _ h => h) (Or.inl ⟨by rfl, ?_⟩) ?_; rotate_left; (intro w hw; clear hw; (try go_split_ands); go_simp; try (with_reducible rfl)); simp only [Act.put, List.setIfInBounds_toArray, List.set_cons_zero, List.set_cons_succ])
    (refine Walk.take (i := 2) (oi := { dst := some 31, op := Op.indexAddr 62 (Operand.tmp 29) (Operand.tmp 30), type := 0, pos := "tree.go:24", after := #[{ on := 0, ground := Ground.data }, { on := 1, ground := Ground.data }], guard := none }) (v := ?_) rfl (by kernel_rfl) (by kernel_rfl) (by kernel_rfl) (by kernel_rfl) (fun _ _ _ h => h) (Or.inl ⟨by rfl, ?_⟩) ?_; rotate_left; (intro w hw; clear hw; (try go_split_ands); go_simp; try (with_reducible rfl)); simp only [Act.put, List.setIfInBounds_toArray, List.set_cons_zero, List.set_cons_succ])
    (refine Walk.take (i := 3) (oi := { dst := some 32, op := Op.fieldAddr 66 (Operand.tmp 31) 0, type := 0, pos := "tree.go:24", after := #[{ on := 2, ground := Ground.data }], guard := none }) (v := ?_) rfl (by kernel_rfl) (by kernel_rfl) (by kernel_rfl) (by kernel_rfl) (fun _ _ _ h => h) (Or.inl ⟨by rfl, ?_⟩) ?_; rotate_left; (intro w hw; clear hw; (try go_split_ands); go_simp; try (with_reducible rfl)); simp only [Act.put, List.setIfInBounds_toArray, List.set_cons_zero, List.set_cons_succ])
    (refine Walk.take (i := 4) (oi := { dst := some 33, op := Op.load 3 (Operand.tmp 32), type := 3, pos := "tree.go:24", after := #[{ on := 3, ground := Ground.data }], guard := none }) (v := ?_) rfl (by kernel_rfl) (by kernel_rfl) (by kernel_rfl) (by kernel_rfl) (fun _ _ _ h => h) (Or.inl ⟨by rfl, ?_⟩) ?_; rotate_left; (intro w hw; have hS1 := hw.1 (by kernel_rfl); clear hw; (try dsimp only at hS1); (try go_split_ands); go_simp; try (with_reducible rfl)); simp only [Act.put, List.setIfInBounds_toArray, List.set_cons_zero, List.set_cons_succ])
    (refine Walk.take (i := 5) (oi := { dst := some 34, op := Op.move (Operand.tmp 0), type := 62, pos := "tree.go:24", after := #[], guard := none }) (v := ?_) rfl (by kernel_rfl) (by kernel_rfl) (by kernel_rfl) (by kernel_rfl) (fun _ _ _ h => h) (Or.inl ⟨by rfl, ?_⟩) ?_; rotate_left; (intro w hw; clear hw; (try go_split_ands); go_simp; try (with_reducible rfl)); simp only [Act.put, List.setIfInBounds_toArray, List.set_cons_zero, List.set_cons_succ])
    (refine Walk.take (i := 6) (oi := { dst := some 35, op := Op.move (Operand.tmp 2), type := 3, pos := "tree.go:24", after := #[], guard := none }) (v := ?_) rfl (by kernel_rfl) (by kernel_rfl) (by kernel_rfl) (by kernel_rfl) (fun _ _ _ h => h) (Or.inl ⟨by rfl, ?_⟩) ?_; rotate_left; (intro w hw; clear hw; (try go_split_ands); go_simp; try (with_reducible rfl)); simp only [Act.put, List.setIfInBounds_toArray, List.set_cons_zero, List.set_cons_succ])
    (refine Walk.take (i := 7) (oi := { dst := some 36, op := Op.indexAddr 62 (Operand.tmp 34) (Operand.tmp 35), type := 0, pos := "tree.go:24", after := #[{ on := 5, ground := Ground.data }, { on := 6, ground := Ground.data }], guard := none }) (v := ?_) rfl (by kernel_rfl) (by kernel_rfl) (by kernel_rfl) (by kernel_rfl) (fun _ _ _ h => h) (Or.inl ⟨by rfl, ?_⟩) ?_; rotate_left; (intro w hw; clear hw; (try go_split_ands); go_simp; try (with_reducible rfl)); simp only [Act.put, List.setIfInBounds_toArray, List.set_cons_zero, List.set_cons_succ])
    (refine Walk.take (i := 8) (oi := { dst := some 37, op := Op.fieldAddr 66 (Operand.tmp 36) 0, type := 0, pos := "tree.go:24", after := #[{ on := 7, ground := Ground.data }], guard := none }) (v := ?_) rfl (by kernel_rfl) (by kernel_rfl) (by kernel_rfl) (by kernel_rfl) (fun _ _ _ h => h) (Or.inl ⟨by rfl, ?_⟩) ?_; rotate_left; (intro w hw; clear hw; (try go_split_ands); go_simp; try (with_reducible rfl)); simp only [Act.put, List.setIfInBounds_toArray, List.set_cons_zero, List.set_cons_succ])
    (refine Walk.take (i := 9) (oi := { dst := some 38, op := Op.load 3 (Operand.tmp 37), type := 3, pos := "tree.go:24", after := #[{ on := 8, ground := Ground.data }], guard := none }) (v := ?_) rfl (by kernel_rfl) (by kernel_rfl) (by kernel_rfl) (by kernel_rfl) (fun _ _ _ h => h) (Or.inl ⟨by rfl, ?_⟩) ?_; rotate_left; (intro w hw; have hS1 := hw.1 (by kernel_rfl); clear hw; (try dsimp only at hS1); (try go_split_ands); go_simp; try (with_reducible rfl)); simp only [Act.put, List.setIfInBounds_toArray, List.set_cons_zero, List.set_cons_succ])
    (refine Walk.take (i := 10) (oi := { dst := some 39, op := Op.binOp BinOp.gtr 3 (Operand.tmp 33) (Operand.tmp 38) 3, type := 4, pos := "tree.go:24", after := #[{ on := 4, ground := Ground.data }, { on := 9, ground := Ground.data }], guard := none }) (v := ?_) rfl (by kernel_rfl) (by kernel_rfl) (by kernel_rfl) (by kernel_rfl) (fun _ _ _ h => h) (Or.inl ⟨by rfl, ?_⟩) ?_; rotate_left; (intro w hw; clear hw; (try go_split_ands); go_simp; try (with_reducible rfl)); simp only [Act.put, List.setIfInBounds_toArray, List.set_cons_zero, List.set_cons_succ])
    (refine Walk.take (i := 11) (oi := { dst := some 6, op := Op.assign (Operand.tmp 39), type := 4, pos := "tree.go:24", after := #[{ on := 10, ground := Ground.data }, { on := 0, ground := Ground.phase }, { on := 1, ground := Ground.phase }, { on := 2, ground := Ground.phase }, { on := 3, ground := Ground.phase }, { on := 4, ground := Ground.phase }, { on := 5, ground := Ground.phase }, { on := 6, ground := Ground.phase }, { on := 7, ground := Ground.phase }, { on := 8, ground := Ground.phase }, { on := 9, ground := Ground.phase }, { on := 10, ground := Ground.phase }], guard := none }) (v := ?_) rfl (by kernel_rfl) (by kernel_rfl) (by kernel_rfl) (by kernel_rfl) (fun _ _ _ h => h) (Or.inl ⟨by rfl, ?_⟩) ?_; rotate_left; (intro w hw; clear hw; (try go_split_ands); go_simp; try (with_reducible rfl)); simp only [Act.put, List.setIfInBounds_toArray, List.set_cons_zero, List.set_cons_succ])
    refine Walk.done (by kernel_rfl) ?_ _
    go_wp2_with fail
    go_ret
    refine ⟨?_, ?_⟩
    · simp [befT, e]
    · exact ((But.refl _ _).drew).drew
  · have e1 : (!((g i).w == (g j).w)) = true := by simp [e]
    go_wp2_with fail
    refine wp_region_till (S := fun V => V.cell? ⟨db, i * 3, none⟩ = some (.int .i64 (g i).n) ∧ V.cell? ⟨db, i * 3 + 1, none⟩ = some (.int .i64 (g i).w) ∧ V.cell? ⟨db, j * 3, none⟩ = some (.int .i64 (g j).n) ∧ V.cell? ⟨db, j * 3 + 1, none⟩ = some (.int .i64 (g j).w)) (R := fun _ => True) (k := 100) (m := 100) (by kernel_rfl) ⟨a0, a1, b0, b1⟩ trivial ?_
    (refine Walk.take (i := 0) (oi := { dst := some 18, op := Op.move (Operand.tmp 0), type := 62, pos := "tree.go:22", after := #[], guard := none }) (v := ?_) rfl (by kernel_rfl) (by kernel_rfl) (by kernel_rfl) (by kernel_rfl) (fun _ _ _ h => h) (Or.inl ⟨by rfl, ?_⟩) ?_; rotate_left; (intro w hw; clear hw; (try go_split_ands); go_simp; try (with_reducible rfl)); simp only [Act.put, List.setIfInBounds_toArray, List.set_cons_zero, List.set_cons_succ])
    (refine Walk.take (i := 1) (oi := { dst := some 19, op := Op.move (Operand.tmp 1), type := 3, pos := "tree.go:22", after := #[], guard := none }) (v := ?_) rfl (by kernel_rfl) (by kernel_rfl) (by kernel_rfl) (by kernel_rfl) (fun _ _ _ h => h) (Or.inl ⟨by rfl, ?_⟩) ?_; rotate_left; (intro w hw; clear hw; (try go_split_ands); go_simp; try (with_reducible rfl)); simp only [Act.put, List.setIfInBounds_toArray, List.set_cons_zero, List.set_cons_succ])
    (refine Walk.take (i := 2) (oi := { dst := some 20, op := Op.indexAddr 62 (Operand.tmp 18) (Operand.tmp 19), type := 0, pos := "tree.go:22", after := #[{ on := 0, ground := Ground.data }, { on := 1, ground := Ground.data }], guard := none }) (v := ?_) rfl (by kernel_rfl) (by kernel_rfl) (by kernel_rfl) (by kernel_rfl) (fun _ _ _ h => h) (Or.inl ⟨by rfl, ?_⟩) ?_; rotate_left; (intro w hw; clear hw; (try go_split_ands); go_simp; try (with_reducible rfl)); simp only [Act.put, List.setIfInBounds_toArray, List.set_cons_zero, List.set_cons_succ])
    (refine Walk.take (i := 3) (oi := { dst := some 21, op := Op.fieldAddr 66 (Operand.tmp 20) 1, type := 0, pos := "tree.go:22", after := #[{ on := 2, ground := Ground.data }], guard := none }) (v := ?_) rfl (by kernel_rfl) (by kernel_rfl) (by kernel_rfl) (by kernel_rfl) (fun _ _ _ h => h) (Or.inl ⟨by rfl, ?_⟩) ?_; rotate_left; (intro w hw; clear hw; (try go_split_ands); go_simp; try (with_reducible rfl)); simp only [Act.put, List.setIfInBounds_toArray, List.set_cons_zero, List.set_cons_succ])
    (refine Walk.take (i := 4) (oi := { dst := some 22, op := Op.load 3 (Operand.tmp 21), type := 3, pos := "tree.go:22", after := #[{ on := 3, ground := Ground.data }], guard := none }) (v := ?_) rfl (by kernel_rfl) (by kernel_rfl) (by kernel_rfl) (by kernel_rfl) (fun _ _ _ h => h) (Or.inl ⟨by rfl, ?_⟩) ?_; rotate_left; (intro w hw; have hS1 := hw.1 (by kernel_rfl); clear hw; (try dsimp only at hS1); (try go_split_ands); go_simp; try (with_reducible rfl)); simp only [Act.put, List.setIfInBounds_toArray, List.set_cons_zero, List.set_cons_succ])
    (refine Walk.take (i := 5) (oi := { dst := some 23, op := Op.move (Operand.tmp 0), type := 62, pos := "tree.go:22", after := #[], guard := none }) (v := ?_) rfl (by kernel_rfl) (by kernel_rfl) (by kernel_rfl) (by kernel_rfl) (fun _ _ _ h => h) (Or.inl ⟨by rfl, ?_⟩) ?_; rotate_left; (intro w hw; clear hw; (try go_split_ands); go_simp; try (with_reducible rfl)); simp only [Act.put, List.setIfInBounds_toArray, List.set_cons_zero, List.set_cons_succ])
    (refine Walk.take (i := 6) (oi := { dst := some 24, op := Op.move (Operand.tmp 2), type := 3, pos := "tree.go:22", after := #[], guard := none }) (v := ?_) rfl (by kernel_rfl) (by kernel_rfl) (by kernel_rfl) (by kernel_rfl) (fun _ _ _ h => h) (Or.inl ⟨by rfl, ?_⟩) ?_; rotate_left; (intro w hw; clear hw; (try go_split_ands); go_simp; try (with_reducible rfl)); simp only [Act.put, List.setIfInBounds_toArray, List.set_cons_zero, List.set_cons_succ])
    (refine Walk.take (i := 7) (oi := { dst := some 25, op := Op.indexAddr 62 (Operand.tmp 23) (Operand.tmp 24), type := 0, pos := "tree.go:22", after := #[{ on := 5, ground := Ground.data }, { on := 6, ground := Ground.data }], guard := none }) (v := ?_) rfl (by kernel_rfl) (by kernel_rfl) (by kernel_rfl) (by kernel_rfl) (fun _ _ _ h => h) (Or.inl ⟨by rfl, ?_⟩) ?_; rotate_left; (intro w hw; clear hw; (try go_split_ands); go_simp; try (with_reducible rfl)); simp only [Act.put, List.setIfInBounds_toArray, List.set_cons_zero, List.set_cons_succ])
    (refine Walk.take (i := 8) (oi := { dst := some 26, op := Op.fieldAddr 66 (Operand.tmp 25) 1, type := 0, pos := "tree.go:22", after := #[{ on := 7, ground := Ground.data }], guard := none }) (v := ?_) rfl (by kernel_rfl) (by kernel_rfl) (by kernel_rfl) (by kernel_rfl) (fun _ _ _ h => h) (Or.inl ⟨by rfl, ?_⟩) ?_; rotate_left; (intro w hw; clear hw; (try go_split_ands); go_simp; try (with_reducible rfl)); simp only [Act.put, List.setIfInBounds_toArray, List.set_cons_zero, List.set_cons_succ])
    (refine Walk.take (i := 9) (oi := { dst := some 27, op := Op.load 3 (Operand.tmp 26), type := 3, pos := "tree.go:22", after := #[{ on := 8, ground := Ground.data }], guard := none }) (v := ?_) rfl (by kernel_rfl) (by kernel_rfl) (by kernel_rfl) (by kernel_rfl) (fun _ _ _ h => h) (Or.inl ⟨by rfl, ?_⟩) ?_; rotate_left; (intro w hw; have hS1 := hw.1 (by kernel_rfl); clear hw; (try dsimp only at hS1); (try go_split_ands); go_simp; try (with_reducible rfl)); simp only [Act.put, List.setIfInBounds_toArray, List.set_cons_zero, List.set_cons_succ])
    (refine Walk.take (i := 10) (oi := { dst := some 28, op := Op.binOp BinOp.lss 3 (Operand.tmp 22) (Operand.tmp 27) 3, type := 4, pos := "tree.go:22", after := #[{ on := 4, ground := Ground.data }, { on := 9, ground := Ground.data }], guard := none }) (v := ?_) rfl (by kernel_rfl) (by kernel_rfl) (by kernel_rfl) (by kernel_rfl) (fun _ _ _ h => h) (Or.inl ⟨by rfl, ?_⟩) ?_; rotate_left; (intro w hw; clear hw; (try go_split_ands); go_simp; try (with_reducible rfl)); simp only [Act.put, List.setIfInBounds_toArray, List.set_cons_zero, List.set_cons_succ])
    (refine Walk.take (i := 11) (oi := { dst := some 6, op := Op.assign (Operand.tmp 28), type := 4, pos := "tree.go:22", after := #[{ on := 10, ground := Ground.data }, { on := 0, ground := Ground.phase }, { on := 1, ground := Ground.phase }, { on := 2, ground := Ground.phase }, { on := 3, ground := Ground.phase }, { on := 4, ground := Ground.phase }, { on := 5, ground := Ground.phase }, { on := 6, ground := Ground.phase }, { on := 7, ground := Ground.phase }, { on := 8, ground := Ground.phase }, { on := 9, ground := Ground.phase }, { on := 10, ground := Ground.phase }], guard := none }) (v := ?_) rfl (by kernel_rfl) (by kernel_rfl) (by kernel_rfl) (by kernel_rfl) (fun _ _ _ h => h) (Or.inl ⟨by rfl, ?_⟩) ?_; rotate_left; (intro w hw; clear hw; (try go_split_ands); go_simp; try (with_reducible rfl)); simp only [Act.put, List.setIfInBounds_toArray, List.set_cons_zero, List.set_cons_succ])
    refine Walk.done (by kernel_rfl) ?_ _
    go_wp2_with fail
    go_ret
    refine ⟨?_, ?_⟩
    · simp [befT, e]
    · exact ((But.refl _ _).drew).drew

theorem trC_one (t : Tr) (h : t.v.oneCell' = true) : ∀ u ∈ trC t, u.oneCell' = true := by
  intro u hu
  simp only [trC, List.mem_cons, List.not_mem_nil, or_false] at hu
  rcases hu with rfl | rfl | rfl
  · rfl
  · rfl
  · exact h

theorem trs_ext : ∀ (m : Nat) (g : Nat → Tr) (xs : List Value), xs.length = m * 3 → (∀ i, i < m → ∀ j, j < 3 → xs[i * 3 + j]? = (trC (g i))[j]?) → xs = trs m g := fun m g xs hl h => by
  apply List.ext_getElem?
  intro q
  by_cases hq : q < m * 3
  · have := h (q / 3) (by omega) (q % 3) (by omega)
    rw [← trs_at m g (q / 3) (by omega) (q % 3) (by omega), show q / 3 * 3 + q % 3 = q by omega] at this
    exact this
  · rw [List.getElem?_eq_none (by omega), List.getElem?_eq_none (by rw [trs_length]; omega)]

/-- g, with t at i. -/
def putT (g : Nat → Tr) (i : Nat) (t : Tr) : Nat → Tr := fun j => if j = i then t else g j
/-- Two change places. -/
def swpT (g : Nat → Tr) (i j : Nat) : Nat → Tr := fun k => if k = j then g i else if k = i then g j else g k

theorem heap_set3 {w : World} {b o : Nat} {cur : Array Value} {t : TypeId} (h : w.heap[b]? = some (.cells cur t (0, 0))) (x y z : Value) : (w.setCells b o [x, y, z]).heap[b]? = some (.cells (((cur.setIfInBounds o x).setIfInBounds (o + 1) y).setIfInBounds (o + 1 + 1) z) t (0, 0)) := by
  simp [World.setCells, World.setCell, Array.getElem?_modify, h]

theorem Hb.there {W : World} {db cap m : Nat} {g : Nat → Tr} (h : Hb W db cap m g) (i : Nat) (hi : i < m) (t : Tr) : W.there db (i * 3) (trC t).toArray.size := by
  intro j hj
  have hj3 : j < 3 := hj
  refine ⟨?_, h.frozen _⟩
  rw [h.at i hi j hj3]
  match j, hj3 with
  | 0, _ => rfl
  | 1, _ => rfl
  | 2, _ => rfl

theorem Hb.range {W : World} {db cap m : Nat} {g : Nat → Tr} (h : Hb W db cap m g) (i : Nat) (hi : i < m) : W.rangeAt db (i * 3) (trC (g i)) := by
  intro j v hv
  have hj : j < 3 := (List.getElem?_eq_some_iff.1 hv).1
  rw [h.at i hi j hj, hv]

theorem Hb.setAt {W : World} {db cap m : Nat} {g : Nat → Tr} (h : Hb W db cap m g) (i : Nat) (hi : i < m) (t : Tr) (ht : t.v.oneCell' = true) : Hb (W.setCells db (i * 3) (trC t)) db cap m (putT g i t) := by
  obtain ⟨cur, h1, h2, h3⟩ := h.blk
  have hle := h.le
  refine ⟨h.le, h.lim, fun k hk => ?_, _, heap_set3 h1 _ _ _, by simp [h2], trs_ext m _ _ (by simp [h2]; omega) (fun k hk j hj => ?_)⟩
  · show (if k = i then t else g k).v.oneCell' = true
    split
    · exact ht
    · exact h.one k hk
  · have hc : cur[k * 3 + j]? = (trC (g k))[j]? := by
      rw [← trs_at m g k hk j hj, ← h3]
      simp [List.getElem?_take]
      omega
    have hs : k * 3 + j < cur.size := by omega
    simp only [Array.toList_setIfInBounds, List.getElem?_take, List.getElem?_set, List.length_set, Array.length_toList]
    rw [if_pos (by omega)]
    unfold putT
    by_cases e : k = i
    · subst e
      rw [if_pos rfl]
      match j, hj with
      | 0, _ => rw [if_neg (by omega), if_neg (by omega), if_pos (by omega)]; simp [trC]; omega
      | 1, _ => rw [if_neg (by omega), if_pos (by omega)]; simp [trC]; omega
      | 2, _ => rw [if_pos (by omega)]; simp [trC]; omega
    · rw [if_neg e, if_neg (by omega), if_neg (by omega), if_neg (by omega), ← hc]
      simp

theorem Hb.drew {W : World} {db cap m : Nat} {g : Nat → Tr} (h : Hb W db cap m g) : Hb W.drew db cap m g := ⟨h.le, h.lim, h.one, h.blk⟩

theorem setCells_drew' {b : Nat} (cs : List Value) : ∀ (w : World) (o : Nat), w.drew.setCells b o cs = (w.setCells b o cs).drew := by
  induction cs with
  | nil => intro w o; rfl
  | cons v r ih => intro w o; exact ih (w.setCell ⟨b, o, none⟩ v) (o + 1)

set_option maxHeartbeats 800000 in
theorem hp_swap (db m cap : Nat) (g : Nat → Tr) (i j : Nat) (hi : i < m) (hj : j < m) (hm : m ≤ 100000) (w : World) (h : Hb w db cap m g) : Calls Try.prog 79 #[hv db m cap, .int .i64 i, .int .i64 j] w fun e w' => e = .returned (.tuple #[]) ∧ Hb w' db cap m (swpT g i j) ∧ But (fun k => k = db) w w' := by
  have hu := Try.underlying62
  have ht := Try.underlying66
  have hc3 : Try.prog.cellsOf 66 = 3 := by kernel_rfl
  have hi3 : ∀ t, (Try.prog.info? 66).map (·.size) = some (trC t).length := fun t => by kernel_rfl
  have hiB : ∀ t, (Try.prog.info? 66).map (·.size) = some (trC t).toArray.size := fun t => by kernel_rfl
  have r1 := h.range i hi
  have r2 := h.range j hj
  have hone := h.one i hi
  have i0 : (0 : Int) ≤ (i : Int) := by omega
  have j0 : (0 : Int) ≤ (j : Int) := by omega
  have i1 : (i : Int) < (m : Int) := by omega
  have j1 : (j : Int) < (m : Int) := by omega
  go_enter Try.func79, Try.ntmps79
  refine wp_region_till (S := fun V => V.rangeAt db (j * 3) (trC (g j)) ∧ V.rangeAt db (i * 3) (trC (g i))) (R := fun _ => True) (k := 13) (m := 100) (by kernel_rfl) ⟨r2, r1⟩ trivial ?_
  (refine Walk.take (i := 0) (oi := { dst := some 6, op := Op.move (Operand.tmp 0), type := 62, pos := "tree.go:27", after := #[], guard := none }) (v := ?_) rfl (by kernel_rfl) (by kernel_rfl) (by kernel_rfl) (by kernel_rfl) (fun _ _ _ h => h) (Or.inl ⟨by rfl, ?_⟩) ?_; rotate_left; (intro w hw; clear hw; (try go_split_ands); go_simp; try (with_reducible rfl)); simp only [Act.put, List.setIfInBounds_toArray, List.set_cons_zero, List.set_cons_succ])
  (refine Walk.take (i := 1) (oi := { dst := some 7, op := Op.move (Operand.tmp 1), type := 3, pos := "tree.go:27", after := #[], guard := none }) (v := ?_) rfl (by kernel_rfl) (by kernel_rfl) (by kernel_rfl) (by kernel_rfl) (fun _ _ _ h => h) (Or.inl ⟨by rfl, ?_⟩) ?_; rotate_left; (intro w hw; clear hw; (try go_split_ands); go_simp; try (with_reducible rfl)); simp only [Act.put, List.setIfInBounds_toArray, List.set_cons_zero, List.set_cons_succ])
  (refine Walk.take (i := 2) (oi := { dst := some 8, op := Op.move (Operand.tmp 0), type := 62, pos := "tree.go:27", after := #[{ on := 13, ground := Ground.gcOnly Departure.lateStores }], guard := none }) (v := ?_) rfl (by kernel_rfl) (by kernel_rfl) (by kernel_rfl) (by kernel_rfl) (fun _ _ _ h => h) (Or.inl ⟨by rfl, ?_⟩) ?_; rotate_left; (intro w hw; clear hw; (try go_split_ands); go_simp; try (with_reducible rfl)); simp only [Act.put, List.setIfInBounds_toArray, List.set_cons_zero, List.set_cons_succ])
  (refine Walk.take (i := 3) (oi := { dst := some 9, op := Op.move (Operand.tmp 2), type := 3, pos := "tree.go:27", after := #[{ on := 13, ground := Ground.gcOnly Departure.lateStores }], guard := none }) (v := ?_) rfl (by kernel_rfl) (by kernel_rfl) (by kernel_rfl) (by kernel_rfl) (fun _ _ _ h => h) (Or.inl ⟨by rfl, ?_⟩) ?_; rotate_left; (intro w hw; clear hw; (try go_split_ands); go_simp; try (with_reducible rfl)); simp only [Act.put, List.setIfInBounds_toArray, List.set_cons_zero, List.set_cons_succ])
  (refine Walk.take (i := 4) (oi := { dst := some 10, op := Op.move (Operand.tmp 0), type := 62, pos := "tree.go:27", after := #[], guard := none }) (v := ?_) rfl (by kernel_rfl) (by kernel_rfl) (by kernel_rfl) (by kernel_rfl) (fun _ _ _ h => h) (Or.inl ⟨by rfl, ?_⟩) ?_; rotate_left; (intro w hw; clear hw; (try go_split_ands); go_simp; try (with_reducible rfl)); simp only [Act.put, List.setIfInBounds_toArray, List.set_cons_zero, List.set_cons_succ])
  (refine Walk.take (i := 5) (oi := { dst := some 11, op := Op.move (Operand.tmp 2), type := 3, pos := "tree.go:27", after := #[], guard := none }) (v := ?_) rfl (by kernel_rfl) (by kernel_rfl) (by kernel_rfl) (by kernel_rfl) (fun _ _ _ h => h) (Or.inl ⟨by rfl, ?_⟩) ?_; rotate_left; (intro w hw; clear hw; (try go_split_ands); go_simp; try (with_reducible rfl)); simp only [Act.put, List.setIfInBounds_toArray, List.set_cons_zero, List.set_cons_succ])
  (refine Walk.take (i := 6) (oi := { dst := some 12, op := Op.indexAddr 62 (Operand.tmp 10) (Operand.tmp 11), type := 0, pos := "tree.go:27", after := #[{ on := 4, ground := Ground.data }, { on := 5, ground := Ground.data }], guard := none }) (v := ?_) rfl (by kernel_rfl) (by kernel_rfl) (by kernel_rfl) (by kernel_rfl) (fun _ _ _ h => h) (Or.inl ⟨by rfl, ?_⟩) ?_; rotate_left; (intro w hw; clear hw; (try go_split_ands); go_simp; try (with_reducible rfl)); simp only [Act.put, List.setIfInBounds_toArray, List.set_cons_zero, List.set_cons_succ])
  (refine Walk.take (i := 7) (oi := { dst := some 13, op := Op.load 66 (Operand.tmp 12), type := 66, pos := "tree.go:27", after := #[{ on := 6, ground := Ground.data }], guard := none }) (v := .agg (trC (g j)).toArray) rfl (by kernel_rfl) (by kernel_rfl) (by kernel_rfl) (by kernel_rfl) (fun _ _ _ h => h) (yieldsIf_load_mid rfl 66 (.tmp 12) rfl (db) (j * 3) rfl (trC (g j)) _ (fun w hw => (hw.1 (by kernel_rfl)).1) ht rfl (hi3 _)) ?_; simp only [Act.put, List.setIfInBounds_toArray, List.set_cons_zero, List.set_cons_succ])
  (refine Walk.take (i := 8) (oi := { dst := some 14, op := Op.move (Operand.tmp 0), type := 62, pos := "tree.go:27", after := #[], guard := none }) (v := ?_) rfl (by kernel_rfl) (by kernel_rfl) (by kernel_rfl) (by kernel_rfl) (fun _ _ _ h => h) (Or.inl ⟨by rfl, ?_⟩) ?_; rotate_left; (intro w hw; clear hw; (try go_split_ands); go_simp; try (with_reducible rfl)); simp only [Act.put, List.setIfInBounds_toArray, List.set_cons_zero, List.set_cons_succ])
  (refine Walk.take (i := 9) (oi := { dst := some 15, op := Op.move (Operand.tmp 1), type := 3, pos := "tree.go:27", after := #[], guard := none }) (v := ?_) rfl (by kernel_rfl) (by kernel_rfl) (by kernel_rfl) (by kernel_rfl) (fun _ _ _ h => h) (Or.inl ⟨by rfl, ?_⟩) ?_; rotate_left; (intro w hw; clear hw; (try go_split_ands); go_simp; try (with_reducible rfl)); simp only [Act.put, List.setIfInBounds_toArray, List.set_cons_zero, List.set_cons_succ])
  (refine Walk.take (i := 10) (oi := { dst := some 16, op := Op.indexAddr 62 (Operand.tmp 14) (Operand.tmp 15), type := 0, pos := "tree.go:27", after := #[{ on := 8, ground := Ground.data }, { on := 9, ground := Ground.data }], guard := none }) (v := ?_) rfl (by kernel_rfl) (by kernel_rfl) (by kernel_rfl) (by kernel_rfl) (fun _ _ _ h => h) (Or.inl ⟨by rfl, ?_⟩) ?_; rotate_left; (intro w hw; clear hw; (try go_split_ands); go_simp; try (with_reducible rfl)); simp only [Act.put, List.setIfInBounds_toArray, List.set_cons_zero, List.set_cons_succ])
  (refine Walk.take (i := 11) (oi := { dst := some 17, op := Op.load 66 (Operand.tmp 16), type := 66, pos := "tree.go:27", after := #[{ on := 10, ground := Ground.data }], guard := none }) (v := .agg (trC (g i)).toArray) rfl (by kernel_rfl) (by kernel_rfl) (by kernel_rfl) (by kernel_rfl) (fun _ _ _ h => h) (yieldsIf_load_mid rfl 66 (.tmp 16) rfl (db) (i * 3) rfl (trC (g i)) _ (fun w hw => (hw.1 (by kernel_rfl)).2) ht rfl (hi3 _)) ?_; simp only [Act.put, List.setIfInBounds_toArray, List.set_cons_zero, List.set_cons_succ])
  (refine Walk.take (i := 12) (oi := { dst := some 18, op := Op.indexAddr 62 (Operand.tmp 6) (Operand.tmp 7), type := 0, pos := "tree.go:27", after := #[{ on := 0, ground := Ground.data }, { on := 1, ground := Ground.data }, { on := 0, ground := Ground.phase }, { on := 1, ground := Ground.phase }, { on := 2, ground := Ground.textOnly Departure.lateStores }, { on := 3, ground := Ground.textOnly Departure.lateStores }, { on := 4, ground := Ground.phase }, { on := 5, ground := Ground.phase }, { on := 6, ground := Ground.phase }, { on := 7, ground := Ground.phase }, { on := 8, ground := Ground.textOnly Departure.lateStores }, { on := 9, ground := Ground.textOnly Departure.lateStores }, { on := 10, ground := Ground.textOnly Departure.lateStoresUnsure }, { on := 11, ground := Ground.phase }], guard := none }) (v := ?_) rfl (by kernel_rfl) (by kernel_rfl) (by kernel_rfl) (by kernel_rfl) (fun _ _ _ h => h) (Or.inl ⟨by rfl, ?_⟩) ?_; rotate_left; (intro w hw; clear hw; (try go_split_ands); go_simp; try (with_reducible rfl)); simp only [Act.put, List.setIfInBounds_toArray, List.set_cons_zero, List.set_cons_succ])
  (refine Walk.go (i := 13) (o := { dst := none, op := Op.store 66 (Operand.tmp 18) (Operand.tmp 13), type := 0, pos := "tree.go:27", after := #[{ on := 12, ground := Ground.data }, { on := 7, ground := Ground.data }, { on := 0, ground := Ground.phase }, { on := 1, ground := Ground.phase }, { on := 2, ground := Ground.textOnly Departure.lateStores }, { on := 3, ground := Ground.textOnly Departure.lateStores }, { on := 4, ground := Ground.phase }, { on := 5, ground := Ground.phase }, { on := 6, ground := Ground.phase }, { on := 7, ground := Ground.phase }, { on := 8, ground := Ground.textOnly Departure.lateStores }, { on := 9, ground := Ground.textOnly Departure.lateStores }, { on := 10, ground := Ground.textOnly Departure.lateStoresUnsure }, { on := 11, ground := Ground.phase }], guard := none }) (by kernel_rfl) rfl (fun K hK => ?_); refine wp_store_mid 66 (.tmp 18) (.tmp 13) rfl db (i * 3) (trC (g j)).toArray rfl rfl ?_ (hiB _) (all_oneCell_toArray (trC_one _ ?_)) ?_; exact h.there i hi _; exact h.one j hj; replace h := h.setAt i hi (g j) (h.one j hj); refine hK.out _ _ (⟨fun q => absurd q (by decide), fun _ => trivial⟩) ?_; clear hK K; try simp only [Act.put])
  (refine Walk.take (i := 14) (oi := { dst := some 19, op := Op.indexAddr 62 (Operand.tmp 8) (Operand.tmp 9), type := 0, pos := "tree.go:27", after := #[{ on := 2, ground := Ground.data }, { on := 3, ground := Ground.data }, { on := 0, ground := Ground.phase }, { on := 1, ground := Ground.phase }, { on := 2, ground := Ground.phase }, { on := 3, ground := Ground.phase }, { on := 4, ground := Ground.phase }, { on := 5, ground := Ground.phase }, { on := 6, ground := Ground.phase }, { on := 7, ground := Ground.phase }, { on := 8, ground := Ground.phase }, { on := 9, ground := Ground.phase }, { on := 10, ground := Ground.phase }, { on := 11, ground := Ground.phase }, { on := 12, ground := Ground.phase }, { on := 13, ground := Ground.phase }], guard := none }) (v := ?_) rfl (by kernel_rfl) (by kernel_rfl) (by kernel_rfl) (by kernel_rfl) (fun _ _ _ h => h) (Or.inl ⟨by rfl, ?_⟩) ?_; rotate_left; (intro w hw; clear hw; (try go_split_ands); go_simp; try (with_reducible rfl)); simp only [Act.put, List.setIfInBounds_toArray, List.set_cons_zero, List.set_cons_succ])
  (refine Walk.go (i := 15) (o := { dst := none, op := Op.store 66 (Operand.tmp 19) (Operand.tmp 17), type := 0, pos := "tree.go:27", after := #[{ on := 14, ground := Ground.data }, { on := 11, ground := Ground.data }, { on := 13, ground := Ground.chain }, { on := 0, ground := Ground.phase }, { on := 1, ground := Ground.phase }, { on := 2, ground := Ground.phase }, { on := 3, ground := Ground.phase }, { on := 4, ground := Ground.phase }, { on := 5, ground := Ground.phase }, { on := 6, ground := Ground.phase }, { on := 7, ground := Ground.phase }, { on := 8, ground := Ground.phase }, { on := 9, ground := Ground.phase }, { on := 10, ground := Ground.phase }, { on := 11, ground := Ground.phase }, { on := 12, ground := Ground.phase }, { on := 13, ground := Ground.phase }], guard := none }) (by kernel_rfl) rfl (fun K hK => ?_); refine wp_store_mid 66 (.tmp 19) (.tmp 17) rfl db (j * 3) (trC (g i)).toArray rfl rfl ?_ (hiB _) (all_oneCell_toArray (trC_one _ ?_)) ?_; exact h.there j hj _; exact hone; replace h := h.setAt j hj (g i) hone; refine hK.out _ _ (⟨fun q => absurd q (by decide), fun _ => trivial⟩) ?_; clear hK K; try simp only [Act.put])
  refine Walk.done (by kernel_rfl) ?_ _
  go_wp2_with fail
  go_end0
  have hd : ∀ (a b : Nat) (x y : List Value), ((w.drew.setCells db a x).setCells db b y) = ((w.setCells db a x).setCells db b y).drew := fun a b x y => by rw [setCells_drew', setCells_drew']
  rw [hd]
  have hb : But (fun k => k = db) w ((w.setCells db (i * 3) (trC (g j))).setCells db (j * 3) (trC (g i))).drew := (But.setCells (S := fun k => k = db) _ (But.setCells (S := fun k => k = db) _ (But.refl _ _) (fun _ => rfl) _) (fun _ => rfl) _).drew
  refine ⟨rfl, ?_, hb⟩
  have e : putT (putT g i (g j)) j (g i) = swpT g i j := by
    funext k
    unfold putT swpT
    rfl
  rw [e] at h
  exact h.drew

end Go.Proofs.Ytlpeplihbdcklaa

/- Heaps of trees: what one is, and how one is made anew, down and up. No program. -/
namespace Go.Proofs.Ytlpeplihbdcklaa
set_option linter.unusedVariables false

/-- The second is not lighter. -/
def leT (a b : Tr) : Prop := befT b a = false

theorem leT_iff (a b : Tr) : leT a b ↔ a.w < b.w ∨ (a.w = b.w ∧ b.n ≤ a.n) := by
  unfold leT befT
  by_cases e : b.w = a.w
  · rw [if_pos e]
    simp only [decide_eq_false_iff_not]
    omega
  · rw [if_neg e]
    simp only [decide_eq_false_iff_not]
    omega
theorem befT_iff (a b : Tr) : befT a b = true ↔ a.w < b.w ∨ (a.w = b.w ∧ b.n < a.n) := by
  unfold befT
  by_cases e : a.w = b.w
  · rw [if_pos e]
    simp only [decide_eq_true_eq]
    omega
  · rw [if_neg e]
    simp only [decide_eq_true_eq]
    omega
theorem leT_trans {a b c : Tr} (h : leT a b) (k : leT b c) : leT a c := by
  rw [leT_iff] at *
  omega
theorem leT_refl (a : Tr) : leT a a := by rw [leT_iff]; omega
theorem leT_of {a b : Tr} (h : befT a b = true) : leT a b := by rw [leT_iff]; rw [befT_iff] at h; omega
theorem leT_not {a b : Tr} (h : befT a b = false) : leT b a := h

/-- All numbers are different. -/
def Inj (g : Nat → Tr) (m : Nat) : Prop := ∀ i j, i < m → j < m → (g i).n = (g j).n → i = j

/-- The first m in another order. -/
structure Mx (m : Nat) (g h : Nat → Tr) : Prop where
  fwd : ∀ i, i < m → ∃ j, j < m ∧ h j = g i
  bwd : ∀ j, j < m → ∃ i, i < m ∧ g i = h j
  out : ∀ i, m ≤ i → h i = g i
  inj : ∀ k, m ≤ k → Inj g k → Inj h k

theorem Mx.refl (m : Nat) (g : Nat → Tr) : Mx m g g := ⟨fun i hi => ⟨i, hi, rfl⟩, fun i hi => ⟨i, hi, rfl⟩, fun _ _ => rfl, fun _ _ h => h⟩
theorem Mx.trans {m : Nat} {f g h : Nat → Tr} (a : Mx m f g) (b : Mx m g h) : Mx m f h := by
  refine ⟨fun i hi => ?_, fun i hi => ?_, fun i hi => (b.out i hi).trans (a.out i hi), fun k hk h => b.inj k hk (a.inj k hk h)⟩
  · obtain ⟨j, hj, e⟩ := a.fwd i hi
    obtain ⟨k, hk, e2⟩ := b.fwd j hj
    exact ⟨k, hk, e2.trans e⟩
  · obtain ⟨j, hj, e⟩ := b.bwd i hi
    obtain ⟨k, hk, e2⟩ := a.bwd j hj
    exact ⟨k, hk, e2.trans e⟩

theorem swpT_l (g : Nat → Tr) (i j : Nat) : swpT g i j i = g j := by
  unfold swpT
  by_cases e : i = j
  · subst e; rw [if_pos rfl]
  · rw [if_neg e, if_pos rfl]
theorem swpT_r (g : Nat → Tr) (i j : Nat) : swpT g i j j = g i := by unfold swpT; rw [if_pos rfl]
theorem swpT_o (g : Nat → Tr) (i j : Nat) {k : Nat} (h1 : k ≠ i) (h2 : k ≠ j) : swpT g i j k = g k := by unfold swpT; rw [if_neg h2, if_neg h1]

theorem Mx.swap {m : Nat} (g : Nat → Tr) {i j : Nat} (hi : i < m) (hj : j < m) : Mx m g (swpT g i j) := by
  refine ⟨fun k hk => ?_, fun k hk => ?_, fun k hk => swpT_o g i j (by omega) (by omega), fun n hn h a b ha hb e => ?_⟩
  · by_cases e1 : k = i
    · exact ⟨j, hj, by rw [swpT_r, e1]⟩
    · by_cases e2 : k = j
      · exact ⟨i, hi, by rw [swpT_l, e2]⟩
      · exact ⟨k, hk, swpT_o g i j e1 e2⟩
  · by_cases e1 : k = i
    · exact ⟨j, hj, by rw [e1, swpT_l]⟩
    · by_cases e2 : k = j
      · exact ⟨i, hi, by rw [e2, swpT_r]⟩
      · exact ⟨k, hk, (swpT_o g i j e1 e2).symm⟩
  · have hin : i < n := by omega
    have hjn : j < n := by omega
    by_cases a1 : a = i
    · subst a1
      rw [swpT_l] at e
      by_cases b1 : b = a
      · exact b1.symm
      · by_cases b2 : b = j
        · subst b2; rw [swpT_r] at e; exact (h _ _ hjn ha e).symm
        · rw [swpT_o g a j b1 b2] at e; exact absurd (h _ _ hjn hb e).symm b2
    · by_cases a2 : a = j
      · subst a2
        rw [swpT_r] at e
        by_cases b2 : b = a
        · exact b2.symm
        · by_cases b1 : b = i
          · subst b1; rw [swpT_l] at e; exact (h _ _ hin ha e).symm
          · rw [swpT_o g i a b1 b2] at e; exact absurd (h _ _ hin hb e).symm b1
      · rw [swpT_o g i j a1 a2] at e
        by_cases b1 : b = i
        · subst b1; rw [swpT_l] at e; exact absurd (h _ _ ha hjn e) a2
        · by_cases b2 : b = j
          · subst b2; rw [swpT_r] at e; exact absurd (h _ _ ha hin e) a1
          · rw [swpT_o g i j b1 b2] at e; exact h _ _ ha hb e

/-- No parent from lo on is heavier than what hangs on it. -/
def Heap (g : Nat → Tr) (m lo : Nat) : Prop := ∀ k, 0 < k → k < m → lo ≤ (k - 1) / 2 → leT (g ((k - 1) / 2)) (g k)
/-- So, but for parent i. -/
structure Dn (g : Nat → Tr) (m lo i : Nat) : Prop where
  at_ : lo ≤ i
  all : ∀ k, 0 < k → k < m → lo ≤ (k - 1) / 2 → (k - 1) / 2 ≠ i → leT (g ((k - 1) / 2)) (g k)
  over : ∀ k, 0 < k → k < m → (k - 1) / 2 = i → 0 < i → lo ≤ (i - 1) / 2 → leT (g ((i - 1) / 2)) (g k)

theorem Dn.start {g : Nat → Tr} {m i : Nat} (h : Heap g m (i + 1)) : Dn g m i i :=
  ⟨Nat.le_refl _, fun k h0 hk h1 h2 => h k h0 hk (by omega), fun k h0 hk e h1 h2 => by omega⟩

theorem Dn.done {g : Nat → Tr} {m lo i : Nat} (h : Dn g m lo i) (hk : ∀ k, 0 < k → k < m → (k - 1) / 2 = i → leT (g i) (g k)) : Heap g m lo := fun k h0 hm h1 => by
  by_cases e : (k - 1) / 2 = i
  · rw [e]; exact hk k h0 hm e
  · exact h.all k h0 hm h1 e

theorem Dn.next {g : Nat → Tr} {m lo i j : Nat} (h : Dn g m lo i) (hj : 0 < j) (hjm : j < m) (hp : (j - 1) / 2 = i) (hl : leT (g j) (g i)) (hs : ∀ k, 0 < k → k < m → (k - 1) / 2 = i → leT (g j) (g k)) : Dn (swpT g i j) m lo j := by
  have hlo := h.at_
  have hij : i < j := by omega
  refine ⟨by omega, fun k h0 hk h1 h2 => ?_, fun k h0 hk e h1 h2 => ?_⟩
  · by_cases e : (k - 1) / 2 = i
    · rw [e, swpT_l]
      by_cases e2 : k = j
      · rw [e2, swpT_r]; exact hl
      · rw [swpT_o g i j (by omega) e2]; exact hs k h0 hk e
    · by_cases e2 : k = i
      · subst e2
        rw [swpT_l, swpT_o g k j (by omega) (by omega)]
        exact h.over j hj hjm hp h0 h1
      · rw [swpT_o g i j e h2, swpT_o g i j e2 (by intro q; subst q; omega)]
        exact h.all k h0 hk h1 e
  · rw [hp, swpT_l, swpT_o g i j (by omega) (by omega)]
    have := h.all k h0 hk (by omega) (by omega)
    rw [e] at this
    exact this

/-- All is in order but for j, which may be lighter than its parent. -/
structure Up (g : Nat → Tr) (m j : Nat) : Prop where
  all : ∀ k, 0 < k → k < m → k ≠ j → leT (g ((k - 1) / 2)) (g k)
  over : ∀ k, 0 < k → k < m → (k - 1) / 2 = j → 0 < j → leT (g ((j - 1) / 2)) (g k)

theorem Up.start {g : Nat → Tr} {m : Nat} (h : Heap g m 0) : Up g (m + 1) m :=
  ⟨fun k h0 hk hn => h k h0 (by omega) (Nat.zero_le _), fun k h0 hk e h1 => by omega⟩

theorem Up.done {g : Nat → Tr} {m j : Nat} (h : Up g m j) (hj : 0 < j → leT (g ((j - 1) / 2)) (g j)) : Heap g m 0 := fun k h0 hk _ => by
  by_cases e : k = j
  · subst e; exact hj h0
  · exact h.all k h0 hk e

theorem Up.next {g : Nat → Tr} {m j i : Nat} (h : Up g m j) (hj : 0 < j) (hjm : j < m) (hi : (j - 1) / 2 = i) (hl : leT (g j) (g i)) : Up (swpT g i j) m i := by
  have hij : i < j := by omega
  refine ⟨fun k h0 hk hn => ?_, fun k h0 hk e h1 => ?_⟩
  · by_cases e : k = j
    · subst e; rw [hi, swpT_l, swpT_r]; exact hl
    · by_cases e2 : (k - 1) / 2 = j
      · rw [e2, swpT_r, swpT_o g i j hn e]
        have := h.over k h0 hk e2 hj
        rw [hi] at this
        exact this
      · by_cases e3 : (k - 1) / 2 = i
        · rw [e3, swpT_l, swpT_o g i j hn e]
          have := h.all k h0 hk e
          rw [e3] at this
          exact leT_trans hl this
        · rw [swpT_o g i j e3 e2, swpT_o g i j hn e]
          exact h.all k h0 hk e
  · by_cases e2 : k = j
    · subst e2
      rw [swpT_r, swpT_o g i k (by omega) (by omega)]
      exact h.all i h1 (by omega) (by omega)
    · rw [swpT_o g i j (by omega) (by omega), swpT_o g i j (by omega) e2]
      have a := h.all i h1 (by omega) (by omega)
      have b := h.all k h0 hk e2
      rw [e] at b
      exact leT_trans a b

/-- The first is the lightest. -/
theorem Heap.first {g : Nat → Tr} {m : Nat} (h : Heap g m 0) : ∀ k, k < m → leT (g 0) (g k) := by
  intro k
  induction k using Nat.strongRecOn with
  | _ k ih =>
    intro hk
    rcases Nat.eq_zero_or_pos k with e | e
    · subst e; exact leT_refl _
    · exact leT_trans (ih ((k - 1) / 2) (by omega) (by omega)) (h k e hk (Nat.zero_le _))

theorem Heap.mono {g : Nat → Tr} {m lo lo' : Nat} (h : Heap g m lo) (hl : lo ≤ lo') : Heap g m lo' := fun k h0 hk h1 => h k h0 hk (by omega)
theorem Heap.less {g : Nat → Tr} {m m' lo : Nat} (h : Heap g m lo) (hl : m' ≤ m) : Heap g m' lo := fun k h0 hk h1 => h k h0 (by omega) h1
theorem Heap.high {g : Nat → Tr} {m lo : Nat} (hl : m ≤ lo * 2 + 1) : Heap g m lo := fun k h0 hk h1 => by omega
theorem Heap.congr {g h : Nat → Tr} {m lo : Nat} (hg : Heap g m lo) (e : ∀ i, i < m → h i = g i) : Heap h m lo := fun k h0 hk h1 => by
  rw [e k hk, e _ (by omega)]
  exact hg k h0 hk h1

end Go.Proofs.Ytlpeplihbdcklaa

/- A heap of trees and the trees of the law: what they have to do with each other. No program. -/
namespace Go.Proofs.Ytlpeplihbdcklaa
set_option linter.unusedVariables false

theorem Mx.up {m n : Nat} {g h : Nat → Tr} (X : Mx m g h) (hl : m ≤ n) : Mx n g h := by
  refine ⟨fun i hi => ?_, fun i hi => ?_, fun i hi => X.out i (by omega), fun k hk => X.inj k (by omega)⟩
  · by_cases q : i < m
    · obtain ⟨j, hj, e⟩ := X.fwd i q
      exact ⟨j, by omega, e⟩
    · exact ⟨i, hi, X.out i (by omega)⟩
  · by_cases q : i < m
    · obtain ⟨j, hj, e⟩ := X.bwd i q
      exact ⟨j, by omega, e⟩
    · exact ⟨i, hi, (X.out i (by omega)).symm⟩

theorem Mx.every {m : Nat} {g h : Nat → Tr} (X : Mx m g h) {P : Tr → Prop} (hp : ∀ i, i < m → P (g i)) : ∀ i, i < m → P (h i) := fun i hi => by
  obtain ⟨j, hj, e⟩ := X.bwd i hi
  rw [← e]; exact hp j hj
theorem Mx.some {m : Nat} {g h : Nat → Tr} (X : Mx m g h) {P : Tr → Prop} (hp : ∃ i, i < m ∧ P (g i)) : ∃ i, i < m ∧ P (h i) := by
  obtain ⟨i, hi, p⟩ := hp
  obtain ⟨j, hj, e⟩ := X.fwd i hi
  exact ⟨j, hj, by rw [e]; exact p⟩

/-- The trees that wait are those of f. -/
structure Grow (W : Nat → Int) (f : Fo) (m : Nat) (g : Nat → Tr) : Prop where
  inj : Inj g m
  num : ∀ i, i < m → (g i).n < 257 ∧ 0 < f.w (g i).n ∧ (g i).w = f.w (g i).n
  all : ∀ a, a < 257 → 0 < f.w a → ∃ i, i < m ∧ (g i).n = a
  mem : ∀ i, i < m → ∀ x : Int, x ∈ (g i).l ↔ ∃ a : Nat, a < 257 ∧ x = a ∧ 0 < W a ∧ f.tree a = (g i).n
  once : ∀ i, i < m → (g i).l.Nodup

theorem Grow.mx {W : Nat → Int} {f : Fo} {m : Nat} {g h : Nat → Tr} (G : Grow W f m g) (X : Mx m g h) : Grow W f m h :=
  ⟨X.inj m (Nat.le_refl _) G.inj, X.every (P := fun t => t.n < 257 ∧ 0 < f.w t.n ∧ t.w = f.w t.n) G.num, fun a ha hw => X.some (P := fun t => t.n = a) (G.all a ha hw),
    X.every (P := fun t => ∀ x : Int, x ∈ t.l ↔ ∃ a : Nat, a < 257 ∧ x = a ∧ 0 < W a ∧ f.tree a = t.n) G.mem, X.every (P := fun t => t.l.Nodup) G.once⟩

/-- The one that is lightest is told. -/
theorem least_is {w : Nat → Int} {but : Int} {a : Nat} (ha : a < 257) (hb : (a : Int) ≠ but) (hw : 0 < w a) (h : ∀ i : Nat, i < 257 → (i : Int) ≠ but → 0 < w i → w a < w i ∨ (w a = w i ∧ i ≤ a)) : leastI w but 257 = a := by
  rcases leastI_spec w but 257 with ⟨e1, e2⟩ | ⟨b, e1, e2, e3, e4, e5⟩
  · exact absurd hw (e2 a ha hb)
  · have h1 := e5 a ha hb hw
    have h2 := h b e2 e3 e4
    have : a = b := by omega
    rw [e1, this]

theorem Grow.first {W : Nat → Int} {f : Fo} {m : Nat} {g : Nat → Tr} (G : Grow W f (m + 1) g) (H : Heap g (m + 1) 0) : leastI f.w (-1) 257 = ((g 0).n : Int) := by
  have h0 := G.num 0 (by omega)
  refine least_is h0.1 (by omega) h0.2.1 (fun i hi hn hw => ?_)
  obtain ⟨j, hj, e⟩ := G.all i hi hw
  have := (leT_iff _ _).1 (H.first j hj)
  have hj' := G.num j hj
  rw [h0.2.2, hj'.2.2, e] at this
  exact this

/-- The second one: g is in order but for its last, the one that was taken. -/
theorem Grow.second {W : Nat → Int} {f : Fo} {m : Nat} {g : Nat → Tr} (G : Grow W f (m + 2) g) (H : Heap g (m + 1) 0) : leastI f.w ((g (m + 1)).n : Int) 257 = ((g 0).n : Int) := by
  have h0 := G.num 0 (by omega)
  refine least_is h0.1 (fun q => ?_) h0.2.1 (fun i hi hn hw => ?_)
  · have := G.inj 0 (m + 1) (by omega) (by omega) (by omega); omega
  · obtain ⟨j, hj, e⟩ := G.all i hi hw
    have hjm : j < m + 1 := by
      apply Classical.byContradiction
      intro q
      obtain rfl : j = m + 1 := by omega
      omega
    have := (leT_iff _ _).1 (H.first j hjm)
    have hj' := G.num j hj
    rw [h0.2.2, hj'.2.2, e] at this
    exact this

/-- Two trees become one: the last two go, one comes. -/
theorem Grow.join {W : Nat → Int} {f : Fo} {r : Nat} {g : Nat → Tr} (G : Grow W f (r + 2) g) {A B : Nat} (hA : (g (r + 1)).n = A) (hB : (g r).n = B) (b cap : Nat) :
    Grow W (joinF f A B) (r + 1) (putT g r ⟨A, f.w A + f.w B, b, cap, (g (r + 1)).l ++ (g r).l⟩) := by
  have a1 := G.num (r + 1) (by omega)
  have b1 := G.num r (by omega)
  rw [hA] at a1
  rw [hB] at b1
  have hne : A ≠ B := fun q => by have := G.inj (r + 1) r (by omega) (by omega) (by omega); omega
  have low : ∀ i, i < r → (g i).n ≠ A ∧ (g i).n ≠ B := fun i hi => ⟨fun q => by have := G.inj i (r + 1) (by omega) (by omega) (by omega); omega, fun q => by have := G.inj i r (by omega) (by omega) (by omega); omega⟩
  have pr : ∀ t : Tr, putT g r t r = t := fun t => by unfold putT; rw [if_pos rfl]
  have pl : ∀ (t : Tr) (i : Nat), i < r → putT g r t i = g i := fun t i hi => by unfold putT; rw [if_neg (by omega)]
  have jA : (joinF f A B).w A = f.w A + f.w B := by show joined f.w A B A = _; unfold joined; rw [if_pos rfl]
  have jB : (joinF f A B).w B = 0 := by show joined f.w A B B = _; unfold joined; rw [if_neg hne.symm, if_pos rfl]
  have jO : ∀ i, i ≠ A → i ≠ B → (joinF f A B).w i = f.w i := fun i h1 h2 => by show joined f.w A B i = _; unfold joined; rw [if_neg h1, if_neg h2]
  have jt : ∀ a, (joinF f A B).tree a = if f.tree a = A ∨ f.tree a = B then A else f.tree a := fun a => rfl
  have cases : ∀ i, i < r + 1 → i < r ∨ i = r := fun i hi => by omega
  refine ⟨fun i j hi hj e => ?_, fun i hi => ?_, fun a ha hw => ?_, fun i hi x => ?_, fun i hi => ?_⟩
  · rcases cases i hi with h1 | rfl
    · rw [pl _ i h1] at e
      rcases cases j hj with h2 | rfl
      · rw [pl _ j h2] at e; exact G.inj i j (by omega) (by omega) e
      · rw [pr] at e; exact absurd e (low i h1).1
    · rw [pr] at e
      rcases cases j hj with h2 | rfl
      · rw [pl _ j h2] at e; exact absurd e.symm (low j h2).1
      · rfl
  · rcases cases i hi with h1 | rfl
    · rw [pl _ i h1, jO _ (low i h1).1 (low i h1).2]; exact G.num i (by omega)
    · rw [pr]
      show A < 257 ∧ 0 < (joinF f A B).w A ∧ f.w A + f.w B = (joinF f A B).w A
      rw [jA]
      exact ⟨a1.1, by omega, rfl⟩
  · by_cases e1 : a = A
    · exact ⟨r, by omega, by rw [pr]; exact e1.symm⟩
    · by_cases e2 : a = B
      · rw [e2, jB] at hw; omega
      · rw [jO a e1 e2] at hw
        obtain ⟨i, hi, e⟩ := G.all a ha hw
        have : i < r := by
          apply Classical.byContradiction
          intro q
          rcases (show i = r ∨ i = r + 1 by omega) with rfl | rfl
          · exact e2 (by rw [← e, hB])
          · exact e1 (by rw [← e, hA])
        exact ⟨i, by omega, by rw [pl _ i this]; exact e⟩
  · rcases cases i hi with h1 | rfl
    · rw [pl _ i h1, G.mem i (by omega) x]
      obtain ⟨l1, l2⟩ := low i h1
      constructor
      · rintro ⟨a, h2, h3, h4, h5⟩
        refine ⟨a, h2, h3, h4, ?_⟩
        rw [jt, if_neg (by rw [h5]; omega), h5]
      · rintro ⟨a, h2, h3, h4, h5⟩
        refine ⟨a, h2, h3, h4, ?_⟩
        rw [jt] at h5
        by_cases q : f.tree a = A ∨ f.tree a = B
        · rw [if_pos q] at h5; exact absurd h5.symm l1
        · rw [if_neg q] at h5; exact h5
    · rw [pr]
      show x ∈ (g (i + 1)).l ++ (g i).l ↔ ∃ a : Nat, a < 257 ∧ x = a ∧ 0 < W a ∧ (joinF f A B).tree a = A
      rw [List.mem_append, G.mem (i + 1) (by omega) x, G.mem i (by omega) x, hA, hB]
      constructor
      · rintro (⟨a, h2, h3, h4, h5⟩ | ⟨a, h2, h3, h4, h5⟩)
        · exact ⟨a, h2, h3, h4, by rw [jt, if_pos (.inl h5)]⟩
        · exact ⟨a, h2, h3, h4, by rw [jt, if_pos (.inr h5)]⟩
      · rintro ⟨a, h2, h3, h4, h5⟩
        rw [jt] at h5
        by_cases q : f.tree a = A ∨ f.tree a = B
        · rcases q with q | q
          · exact .inl ⟨a, h2, h3, h4, q⟩
          · exact .inr ⟨a, h2, h3, h4, q⟩
        · rw [if_neg q] at h5; exact absurd (.inl h5) q
  · rcases cases i hi with h1 | rfl
    · rw [pl _ i h1]; exact G.once i (by omega)
    · rw [pr]
      show ((g (i + 1)).l ++ (g i).l).Nodup
      rw [List.nodup_append]
      refine ⟨G.once _ (by omega), G.once _ (by omega), fun x hx y hy e => ?_⟩
      subst e
      obtain ⟨a, -, h3, -, h5⟩ := (G.mem (i + 1) (by omega) x).1 hx
      obtain ⟨a', -, h3', -, h5'⟩ := (G.mem i (by omega) x).1 hy
      have : a = a' := by omega
      subst this
      rw [hA] at h5
      rw [hB] at h5'
      omega

/-- While there are two trees the law joins the same two. -/
theorem Grow.pair {W : Nat → Int} {f : Fo} {r : Nat} {g h : Nat → Tr} (G : Grow W f (r + 2) g) (H : Heap g (r + 2) 0) (X : Mx (r + 2) g h) (e : h (r + 1) = g 0) (K : Heap h (r + 1) 0) : pairOf 257 f.w = some ((g 0).n, (h 0).n) := by
  have h1 := G.first H
  have h2 := (G.mx X).second K
  rw [e] at h2
  unfold pairOf
  rw [h1, h2, if_neg (by omega)]
  rfl

/-- With one tree alone there is none to be joined. -/
theorem Grow.ends {W : Nat → Int} {f : Fo} {m : Nat} {g : Nat → Tr} (G : Grow W f m g) (hm : m ≤ 1) : pairOf 257 f.w = none := by
  cases e : pairOf 257 f.w with
  | none => rfl
  | some x =>
    obtain ⟨A, B⟩ := x
    have p := (pairOf_some e).1
    obtain ⟨i, hi, e1⟩ := G.all A p.a p.wa
    obtain ⟨j, hj, e2⟩ := G.all B p.b p.wb
    have : i = j := by omega
    subst this
    exact absurd (e1.symm.trans e2) p.ne

theorem Rn.last {W : Nat → Int} (m : Nat) : ∀ (f : Fo), Rn W f → alive f.w 257 ≤ m → ∃ f', Rn W f' ∧ pairOf 257 f'.w = none := by
  induction m with
  | zero =>
    intro f h hm
    cases e : pairOf 257 f.w with
    | none => exact ⟨f, h, e⟩
    | some x => obtain ⟨A, B⟩ := x; have := (h.next e).2.2; omega
  | succ m ih =>
    intro f h hm
    cases e : pairOf 257 f.w with
    | none => exact ⟨f, h, e⟩
    | some x =>
      obtain ⟨A, B⟩ := x
      obtain ⟨h1, h2, h3⟩ := h.next e
      have h4 : alive (joinF f A B).w 257 = alive (joined f.w A B) 257 := rfl
      exact ih _ h1 (by rw [h4]; omega)

/-- No size is above 256. -/
theorem sizes_256 {W : Nat → Int} (h : Wt W) (i : Nat) : szF W i ≤ 256 := by
  obtain ⟨f, R, hn⟩ := Rn.last 257 (startF W) (Rn.start h) (alive_le W 257)
  have e := R.done hn
  have w256 : 0 < W 256 := by rw [h.one]; omega
  obtain ⟨l1, l2⟩ := R.inv.live 256 (by omega) w256
  have h1 : 1 ≤ alive f.w 257 := by
    have := sm_term (f := fun i => if 0 < f.w i then (1 : Int) else 0) (n := 257) (fun i _ => by split <;> omega) l1
    rw [if_pos l2] at this
    exact this
  have h2 := R.room i
  rw [e] at h2
  show sizesF W 257 i ≤ 256
  omega

end Go.Proofs.Ytlpeplihbdcklaa

/- The chapter's example: five times 0, once 1. No program. -/
namespace Go.Proofs.Ytlpeplihbdcklaa
set_option linter.unusedVariables false

abbrev wK : Nat → Int := wtF [5, 1]
def zK (i : Nat) : Nat := if i = 0 then 1 else if i = 1 ∨ i = 256 then 2 else 0
def cK (i : Nat) : Int := if i < 2 then 1 else 0

theorem wK_0 : wK 0 = 5 := by decide
theorem wK_1 : wK 1 = 1 := by decide
theorem wK_256 : wK 256 = 1 := by decide
theorem wK_else (i : Nat) (h0 : i ≠ 0) (h1 : i ≠ 1) (h2 : i ≠ 256) : wK i = 0 := by
  unfold wK wtF
  rw [if_neg h2, List.getD_eq_getElem?_getD, List.getElem?_eq_none (by simp; omega)]
  rfl

def f1K : Fo := joinF (startF wK) 256 1
def f2K : Fo := joinF f1K 256 0

theorem f1K_w (i : Nat) : f1K.w i = if i = 256 then 2 else if i = 1 then 0 else wK i := by
  show joined wK 256 1 i = _
  unfold joined
  by_cases e : i = 256
  · rw [if_pos e, if_pos e, wK_256, wK_1]; rfl
  · rw [if_neg e, if_neg e]
theorem f2K_w (i : Nat) : f2K.w i = if i = 256 then 7 else 0 := by
  show joined f1K.w 256 0 i = _
  unfold joined
  by_cases e : i = 256
  · rw [if_pos e, if_pos e, f1K_w, f1K_w, if_pos rfl, if_neg (by omega), if_neg (by omega), wK_0]; rfl
  · rw [if_neg e, if_neg e]
    by_cases e0 : i = 0
    · rw [if_pos e0]
    · rw [if_neg e0, f1K_w, if_neg e]
      by_cases e1 : i = 1
      · rw [if_pos e1]
      · rw [if_neg e1, wK_else i e0 e1 e]

theorem pair1 : pairOf 257 (startF wK).w = some (256, 1) := by
  have live : ∀ i : Nat, 0 < wK i → i = 0 ∨ i = 1 ∨ i = 256 := fun i h => by
    apply Classical.byContradiction
    intro q
    rw [wK_else i (by omega) (by omega) (by omega)] at h
    omega
  have h1 : leastI wK (-1) 257 = ((256 : Nat) : Int) := least_is (by omega) (by omega) (by rw [wK_256]; omega) (fun i hi hn hw => by
    rw [wK_256]
    rcases live i hw with rfl | rfl | rfl
    · rw [wK_0]; omega
    · rw [wK_1]; omega
    · rw [wK_256]; omega)
  have h2 : leastI wK ((256 : Nat) : Int) 257 = ((1 : Nat) : Int) := least_is (by omega) (by omega) (by rw [wK_1]; omega) (fun i hi hn hw => by
    rw [wK_1]
    rcases live i hw with rfl | rfl | rfl
    · rw [wK_0]; omega
    · rw [wK_1]; omega
    · omega)
  show pairOf 257 wK = _
  unfold pairOf
  rw [h1, h2, if_neg (by omega)]
  rfl

theorem pair2 : pairOf 257 f1K.w = some (256, 0) := by
  have live : ∀ i : Nat, 0 < f1K.w i → i = 0 ∨ i = 256 := fun i h => by
    apply Classical.byContradiction
    intro q
    rw [f1K_w, if_neg (by omega)] at h
    by_cases e : i = 1
    · rw [if_pos e] at h; omega
    · rw [if_neg e, wK_else i (by omega) e (by omega)] at h; omega
  have w256 : f1K.w 256 = 2 := by rw [f1K_w, if_pos rfl]
  have w0 : f1K.w 0 = 5 := by rw [f1K_w, if_neg (by omega), if_neg (by omega), wK_0]
  have h1 : leastI f1K.w (-1) 257 = ((256 : Nat) : Int) := least_is (by omega) (by omega) (by omega) (fun i hi hn hw => by
    rcases live i hw with rfl | rfl <;> omega)
  have h2 : leastI f1K.w ((256 : Nat) : Int) 257 = ((0 : Nat) : Int) := least_is (by omega) (by omega) (by omega) (fun i hi hn hw => by
    rcases live i hw with rfl | rfl <;> omega)
  unfold pairOf
  rw [h1, h2, if_neg (by omega)]
  rfl

theorem pair3 : pairOf 257 f2K.w = none := by
  cases e : pairOf 257 f2K.w with
  | none => rfl
  | some x =>
    obtain ⟨A, B⟩ := x
    have p := (pairOf_some e).1
    have a1 := p.wa
    have b1 := p.wb
    have n1 := p.ne
    rw [f2K_w] at a1 b1
    by_cases qa : A = 256
    · by_cases qb : B = 256
      · omega
      · rw [if_neg qb] at b1; omega
    · rw [if_neg qa] at a1; omega

theorem sizesK : szF wK = zK := by
  have R := ((Rn.start (wtF_wt [5, 1])).next pair1).1
  have R2 := (Rn.next (f := f1K) R pair2).1
  have e := Rn.done (f := f2K) R2 pair3
  show sizesF wK 257 = zK
  rw [← e]
  funext j
  show (if f1K.tree j = 256 ∨ f1K.tree j = 0 then f1K.size j + 1 else f1K.size j) = zK j
  have t : f1K.tree j = if j = 256 ∨ j = 1 then 256 else j := rfl
  have s : f1K.size j = if j = 256 ∨ j = 1 then 1 else 0 := rfl
  rw [t, s]
  unfold zK
  by_cases e1 : j = 256 ∨ j = 1
  · rw [if_pos e1, if_pos e1, if_pos (.inl rfl), if_neg (by omega), if_pos (by omega)]
  · rw [if_neg e1, if_neg e1]
    by_cases e0 : j = 0
    · rw [if_pos (.inr e0), if_pos e0]
    · rw [if_neg (by omega), if_neg e0, if_neg (by omega)]

theorem cntK : ∀ s, s < 18 → cntF zK 257 s = if s = 1 then 1 else if s = 2 then 2 else 0 := by decide +kernel
theorem lenK (s : Nat) (h : s < 18) : lenL zK s = if s = 1 then 1 else if s = 2 then 2 else 0 := by
  unfold lenL
  rw [cutAll_none 243 _ (fun s h1 h2 => by
    unfold cntF
    rw [sm_zero (fun i _ => by
      have : zK i ≤ 2 := by unfold zK; split <;> (try split) <;> omega
      rw [if_neg (by omega)])]
    exact Int.le_refl _)]
  exact cntK s h
theorem anyTo_congrK {f g : Nat → Int} : ∀ k, (∀ j, 1 ≤ j → j ≤ k → f j = g j) → anyTo f k = anyTo g k
  | 0, _ => rfl
  | k + 1, h => by
    unfold anyTo
    rw [h (k + 1) (by omega) (Nat.le_refl _), anyTo_congrK k (fun j h1 h2 => h j h1 (by omega))]
theorem topK : topL zK = 2 := by
  unfold topL
  rw [anyTo_congrK 16 (g := fun s => if s = 1 then 1 else if s = 2 then 2 else 0) (fun j h1 h2 => lenK j (by omega))]
  decide
theorem tabCK (j : Nat) (h : j < 16) : tabC zK j = cK j := by
  unfold tabC cK
  rw [topK, lenK (j + 1) (by omega)]
  by_cases e0 : j = 0
  · subst e0; rfl
  · by_cases e1 : j = 1
    · subst e1; rfl
    · rw [if_neg (by omega), if_neg (by omega), if_neg (by omega), if_neg (by omega)]
theorem tabVK : tabV zK = [0, 1] := by decide +kernel

theorem costK : costF cK [0, 1] wK = 7 := by
  have n0 : codN cK [0, 1] 0 = 1 := by decide +kernel
  have n1 : codN cK [0, 1] 1 = 2 := by decide +kernel
  rw [costF_all (fun v hv hw => by
    by_cases e0 : v = 0
    · subst e0; rw [n0]; decide
    · by_cases e1 : v = 1
      · subst e1; rw [n1]; decide
      · rw [wK_else v e0 e1 (by omega)] at hw; omega)]
  unfold bits
  rw [sm_cut (m := 2) (by omega) (fun s h1 h2 => by rw [wK_else s (by omega) (by omega) (by omega), Int.zero_mul])]
  show 0 + wK 0 * codN cK [0, 1] 0 + wK 1 * codN cK [0, 1] 1 = 7
  rw [n0, n1, wK_0, wK_1]
  rfl

end Go.Proofs.Ytlpeplihbdcklaa

/- What container/heap's down and up do with a heap of trees. -/
namespace Go.Proofs.Ytlpeplihbdcklaa
set_option linter.unusedVariables false
open Go.ChangeShapes Go.WideShapes Go.ChangeAt Go.RowKit

/-- The heap, as an interface value. -/
abbrev hp (hb : Nat) : Value := .iface 68 (.pointer (some ⟨hb, 0, none⟩))

theorem less_at (db m cap : Nat) (g : Nat → Tr) (i j : Nat) (x y : Int) (hx : x = i) (hy : y = j) (hi : i < m) (hj : j < m) (hm : m ≤ 100000) (w : World) (h : Hb w db cap m g) : Calls Try.prog 78 #[hv db m cap, .int .i64 x, .int .i64 y] w fun e w' => e = .returned (.bool (befT (g i) (g j))) ∧ But Nowhere w w' := by
  subst hx; subst hy; exact hp_less db m cap g i j hi hj hm w h

theorem swap_at (db m cap : Nat) (g : Nat → Tr) (i j : Nat) (x y : Int) (hx : x = i) (hy : y = j) (hi : i < m) (hj : j < m) (hm : m ≤ 100000) (w : World) (h : Hb w db cap m g) : Calls Try.prog 79 #[hv db m cap, .int .i64 x, .int .i64 y] w fun e w' => e = .returned (.tuple #[]) ∧ Hb w' db cap m (swpT g i j) ∧ But (fun k => k = db) w w' := by
  subst hx; subst hy; exact hp_swap db m cap g i j hi hj hm w h

set_option maxHeartbeats 3200000 in
theorem down_any (hb db cap len m i0 : Nat) (g : Nat → Tr) (hne : hb ≠ db) (hm : m ≤ len) (hl : len ≤ 100000) (w : World) (hc : w.cell? ⟨hb, 0, none⟩ = some (hv db len cap)) (hh : Hb w db cap len g) (hp0 : Heap g m (i0 + 1)) (hi : i0 ≤ len) :
    Calls Try.prog 52 #[hp hb, .int .i64 i0, .int .i64 m] w fun e w' => (∃ b, e = .returned (.bool b)) ∧ ∃ g', Hb w' db cap len g' ∧ Mx m g g' ∧ Heap g' m i0 ∧ But (fun k => k = db) w w' := by
  go_enter Try.func52, Try.ntmps52
  go_upto_region 2 with fail
  go_loopw [7] (fun v V => ∃ (i : Nat) (h : Nat → Tr), v = .int .i64 i ∧ i ≤ len ∧ Hb V db cap len h ∧ Mx m g h ∧ Dn h m i0 i ∧ But (fun k => k = db) w V) (fun v _ => len - (intOf v).toNat)
  case atStart => exact ⟨i0, g, rfl, hi, hh, Mx.refl _ _, Dn.start hp0, But.refl _ _⟩
  case round =>
    obtain ⟨i, h, rfl, hil, hH, hX, hD, hB⟩ := hrel
    have r1 : IntKind.i64.wrap (2 * (i : Int)) = 2 * (i : Int) := by rw [wrap_i64_eq, w64 _ (by omega)]
    have r2 : IntKind.i64.wrap (2 * (i : Int) + 1) = 2 * (i : Int) + 1 := by rw [wrap_i64_eq, w64 _ (by omega)]
    have r3 : IntKind.i64.wrap (2 * (i : Int) + 1 + 1) = 2 * (i : Int) + 1 + 1 := by rw [wrap_i64_eq, w64 _ (by omega)]
    have n1 : decide (2 * (i : Int) + 1 < 0) = false := by simp; omega
    have cW : wr.cell? ⟨hb, 0, none⟩ = some (hv db len cap) := (World.cell?_of_block (hB.block hb (World.block_lt_of_cell? w _ hc) hne)).trans hc
    have mL : (method 213 68 (.pointer (some ⟨hb, 0, none⟩)) "Less").run Try.prog wr = .ok (78, hv db len cap) wr := method_less hb _ wr cW
    by_cases q : m ≤ 2 * i + 1
    · have d1 : decide (2 * (i : Int) + 1 ≥ (m : Int)) = true := by simp; omega
      go_wp2_with fail
      go_ret
      exact ⟨⟨_, rfl⟩, h, hH, hX, hD.done (fun k h0 hk e => by omega), hB⟩
    · have d1 : decide (2 * (i : Int) + 1 ≥ (m : Int)) = false := by simp; omega
      by_cases q2 : m ≤ 2 * i + 2
      · have d2 : decide (2 * (i : Int) + 1 + 1 < (m : Int)) = false := by simp; omega
        cases b2 : befT (h (2 * i + 1)) (h i) with
        | false =>
          go_wp2_with (go_at_call 78; refine (less_at db len cap h (2 * i + 1) (i) _ _ (by omega) (by omega) (by omega) (by omega) hl _ hH).mono ?_; rintro e y ⟨rfl, dy⟩; rw [b2]; have H1 := hH.but dy (not_nowhere _); have cy := (dy.cell (World.block_lt_of_cell? _ _ cW) (not_nowhere _)).trans cW; have my : (method 213 68 (.pointer (some ⟨hb, 0, none⟩)) "Less").run Try.prog y = .ok (78, hv db len cap) y := method_less hb _ y cy; have sy : (method 213 68 (.pointer (some ⟨hb, 0, none⟩)) "Swap").run Try.prog y = .ok (79, hv db len cap) y := method_swap hb _ y cy)
          go_ret
          refine ⟨⟨_, rfl⟩, h, H1, hX, hD.done (fun k h0 hk e => ?_), hB.step dy (fun _ _ f => f.elim)⟩
          · obtain rfl : k = 2 * i + 1 := by omega
            exact b2
        | true =>
          go_wp2_with (first | (go_at_call 78; refine (less_at db len cap h (2 * i + 1) (i) _ _ (by omega) (by omega) (by omega) (by omega) hl _ hH).mono ?_; rintro e y ⟨rfl, dy⟩; rw [b2]; have H1 := hH.but dy (not_nowhere _); have cy := (dy.cell (World.block_lt_of_cell? _ _ cW) (not_nowhere _)).trans cW; have my : (method 213 68 (.pointer (some ⟨hb, 0, none⟩)) "Less").run Try.prog y = .ok (78, hv db len cap) y := method_less hb _ y cy; have sy : (method 213 68 (.pointer (some ⟨hb, 0, none⟩)) "Swap").run Try.prog y = .ok (79, hv db len cap) y := method_swap hb _ y cy) | (go_at_call 79; refine (swap_at db len cap h (i) (2 * i + 1) _ _ (by omega) (by omega) (by omega) (by omega) hl _ H1).mono ?_; rintro e z ⟨rfl, Hz, dz⟩))
          go_roundw
          case rel => exact ⟨2 * i + 1, swpT h i (2 * i + 1), by go_num, by omega, Hz, hX.trans (Mx.swap h (by omega) (by omega)), hD.next (by omega) (by omega) (by omega) (leT_of b2) (fun k h0 hk e => by obtain rfl : k = 2 * i + 1 := (by omega); exact leT_refl _), (hB.step dy (fun _ _ f => f.elim)).trans dz⟩
          case measure => simp [intOf]; omega
      · have d2 : decide (2 * (i : Int) + 1 + 1 < (m : Int)) = true := by simp; omega
        cases b1 : befT (h (2 * i + 2)) (h (2 * i + 1)) with
        | false =>
          cases b2 : befT (h (2 * i + 1)) (h i) with
          | false =>
            go_upto_region 8 with (go_at_call 78; refine (less_at db len cap h (2 * i + 2) (2 * i + 1) _ _ (by omega) (by omega) (by omega) (by omega) hl _ hH).mono ?_; rintro e x ⟨rfl, dx⟩; rw [b1]; have H0 := hH.but dx (not_nowhere _); have cx := (dx.cell (World.block_lt_of_cell? _ _ cW) (not_nowhere _)).trans cW; have mx : (method 213 68 (.pointer (some ⟨hb, 0, none⟩)) "Less").run Try.prog x = .ok (78, hv db len cap) x := method_less hb _ x cx; have sx : (method 213 68 (.pointer (some ⟨hb, 0, none⟩)) "Swap").run Try.prog x = .ok (79, hv db len cap) x := method_swap hb _ x cx)
            go_wp2_with (go_at_call 78; refine (less_at db len cap h (2 * i + 1) (i) _ _ (by omega) (by omega) (by omega) (by omega) hl _ H0).mono ?_; rintro e y ⟨rfl, dy⟩; rw [b2]; have H1 := H0.but dy (not_nowhere _); have cy := (dy.cell (World.block_lt_of_cell? _ _ cx) (not_nowhere _)).trans cx; have my : (method 213 68 (.pointer (some ⟨hb, 0, none⟩)) "Less").run Try.prog y = .ok (78, hv db len cap) y := method_less hb _ y cy; have sy : (method 213 68 (.pointer (some ⟨hb, 0, none⟩)) "Swap").run Try.prog y = .ok (79, hv db len cap) y := method_swap hb _ y cy)
            go_ret
            refine ⟨⟨_, rfl⟩, h, H1, hX, hD.done (fun k h0 hk e => ?_), (hB.step dx (fun _ _ f => f.elim)).step dy (fun _ _ f => f.elim)⟩
            · rcases (show k = 2 * i + 1 ∨ k = 2 * i + 2 by omega) with rfl | rfl
              · exact b2
              · exact leT_trans b2 b1
          | true =>
            go_upto_region 8 with (go_at_call 78; refine (less_at db len cap h (2 * i + 2) (2 * i + 1) _ _ (by omega) (by omega) (by omega) (by omega) hl _ hH).mono ?_; rintro e x ⟨rfl, dx⟩; rw [b1]; have H0 := hH.but dx (not_nowhere _); have cx := (dx.cell (World.block_lt_of_cell? _ _ cW) (not_nowhere _)).trans cW; have mx : (method 213 68 (.pointer (some ⟨hb, 0, none⟩)) "Less").run Try.prog x = .ok (78, hv db len cap) x := method_less hb _ x cx; have sx : (method 213 68 (.pointer (some ⟨hb, 0, none⟩)) "Swap").run Try.prog x = .ok (79, hv db len cap) x := method_swap hb _ x cx)
            go_wp2_with (first | (go_at_call 78; refine (less_at db len cap h (2 * i + 1) (i) _ _ (by omega) (by omega) (by omega) (by omega) hl _ H0).mono ?_; rintro e y ⟨rfl, dy⟩; rw [b2]; have H1 := H0.but dy (not_nowhere _); have cy := (dy.cell (World.block_lt_of_cell? _ _ cx) (not_nowhere _)).trans cx; have my : (method 213 68 (.pointer (some ⟨hb, 0, none⟩)) "Less").run Try.prog y = .ok (78, hv db len cap) y := method_less hb _ y cy; have sy : (method 213 68 (.pointer (some ⟨hb, 0, none⟩)) "Swap").run Try.prog y = .ok (79, hv db len cap) y := method_swap hb _ y cy) | (go_at_call 79; refine (swap_at db len cap h (i) (2 * i + 1) _ _ (by omega) (by omega) (by omega) (by omega) hl _ H1).mono ?_; rintro e z ⟨rfl, Hz, dz⟩))
            go_roundw
            case rel => exact ⟨2 * i + 1, swpT h i (2 * i + 1), by go_num, by omega, Hz, hX.trans (Mx.swap h (by omega) (by omega)), hD.next (by omega) (by omega) (by omega) (leT_of b2) (fun k h0 hk e => by rcases (show k = 2 * i + 1 ∨ k = 2 * i + 2 by omega) with rfl | rfl; exact leT_refl _; exact b1), ((hB.step dx (fun _ _ f => f.elim)).step dy (fun _ _ f => f.elim)).trans dz⟩
            case measure => simp [intOf]; omega
        | true =>
          cases b2 : befT (h (2 * i + 2)) (h i) with
          | false =>
            go_upto_region 8 with (go_at_call 78; refine (less_at db len cap h (2 * i + 2) (2 * i + 1) _ _ (by omega) (by omega) (by omega) (by omega) hl _ hH).mono ?_; rintro e x ⟨rfl, dx⟩; rw [b1]; have H0 := hH.but dx (not_nowhere _); have cx := (dx.cell (World.block_lt_of_cell? _ _ cW) (not_nowhere _)).trans cW; have mx : (method 213 68 (.pointer (some ⟨hb, 0, none⟩)) "Less").run Try.prog x = .ok (78, hv db len cap) x := method_less hb _ x cx; have sx : (method 213 68 (.pointer (some ⟨hb, 0, none⟩)) "Swap").run Try.prog x = .ok (79, hv db len cap) x := method_swap hb _ x cx)
            go_wp2_with (go_at_call 78; refine (less_at db len cap h (2 * i + 2) (i) _ _ (by omega) (by omega) (by omega) (by omega) hl _ H0).mono ?_; rintro e y ⟨rfl, dy⟩; rw [b2]; have H1 := H0.but dy (not_nowhere _); have cy := (dy.cell (World.block_lt_of_cell? _ _ cx) (not_nowhere _)).trans cx; have my : (method 213 68 (.pointer (some ⟨hb, 0, none⟩)) "Less").run Try.prog y = .ok (78, hv db len cap) y := method_less hb _ y cy; have sy : (method 213 68 (.pointer (some ⟨hb, 0, none⟩)) "Swap").run Try.prog y = .ok (79, hv db len cap) y := method_swap hb _ y cy)
            go_ret
            refine ⟨⟨_, rfl⟩, h, H1, hX, hD.done (fun k h0 hk e => ?_), (hB.step dx (fun _ _ f => f.elim)).step dy (fun _ _ f => f.elim)⟩
            · rcases (show k = 2 * i + 1 ∨ k = 2 * i + 2 by omega) with rfl | rfl
              · exact leT_trans b2 (leT_of b1)
              · exact b2
          | true =>
            go_upto_region 8 with (go_at_call 78; refine (less_at db len cap h (2 * i + 2) (2 * i + 1) _ _ (by omega) (by omega) (by omega) (by omega) hl _ hH).mono ?_; rintro e x ⟨rfl, dx⟩; rw [b1]; have H0 := hH.but dx (not_nowhere _); have cx := (dx.cell (World.block_lt_of_cell? _ _ cW) (not_nowhere _)).trans cW; have mx : (method 213 68 (.pointer (some ⟨hb, 0, none⟩)) "Less").run Try.prog x = .ok (78, hv db len cap) x := method_less hb _ x cx; have sx : (method 213 68 (.pointer (some ⟨hb, 0, none⟩)) "Swap").run Try.prog x = .ok (79, hv db len cap) x := method_swap hb _ x cx)
            go_wp2_with (first | (go_at_call 78; refine (less_at db len cap h (2 * i + 2) (i) _ _ (by omega) (by omega) (by omega) (by omega) hl _ H0).mono ?_; rintro e y ⟨rfl, dy⟩; rw [b2]; have H1 := H0.but dy (not_nowhere _); have cy := (dy.cell (World.block_lt_of_cell? _ _ cx) (not_nowhere _)).trans cx; have my : (method 213 68 (.pointer (some ⟨hb, 0, none⟩)) "Less").run Try.prog y = .ok (78, hv db len cap) y := method_less hb _ y cy; have sy : (method 213 68 (.pointer (some ⟨hb, 0, none⟩)) "Swap").run Try.prog y = .ok (79, hv db len cap) y := method_swap hb _ y cy) | (go_at_call 79; refine (swap_at db len cap h (i) (2 * i + 2) _ _ (by omega) (by omega) (by omega) (by omega) hl _ H1).mono ?_; rintro e z ⟨rfl, Hz, dz⟩))
            go_roundw
            case rel => exact ⟨2 * i + 2, swpT h i (2 * i + 2), by go_num, by omega, Hz, hX.trans (Mx.swap h (by omega) (by omega)), hD.next (by omega) (by omega) (by omega) (leT_of b2) (fun k h0 hk e => by rcases (show k = 2 * i + 1 ∨ k = 2 * i + 2 by omega) with rfl | rfl; exact leT_of b1; exact leT_refl _), ((hB.step dx (fun _ _ f => f.elim)).step dy (fun _ _ f => f.elim)).trans dz⟩
            case measure => simp [intOf]; omega

end Go.Proofs.Ytlpeplihbdcklaa

/- What container/heap's up and Init do with a heap of trees. -/
namespace Go.Proofs.Ytlpeplihbdcklaa
set_option linter.unusedVariables false
open Go.ChangeShapes Go.WideShapes Go.ChangeAt Go.RowKit

theorem half_up (j : Nat) : ((j : Int) - 1).tdiv 2 = (((j - 1) / 2 : Nat) : Int) := by
  rcases Nat.eq_zero_or_pos j with e | e
  · subst e; rfl
  · rw [show (j : Int) - 1 = ((j - 1 : Nat) : Int) by omega]
    rw [Int.tdiv_eq_ediv_of_nonneg (by omega)]
    omega

set_option maxHeartbeats 3200000 in
theorem up_any (hb db cap m : Nat) (g : Nat → Tr) (hne : hb ≠ db) (hl : m + 1 ≤ 100000) (w : World) (hc : w.cell? ⟨hb, 0, none⟩ = some (hv db (m + 1) cap)) (hh : Hb w db cap (m + 1) g) (hp0 : Heap g m 0) :
    Calls Try.prog 54 #[hp hb, .int .i64 m] w fun e w' => e = .returned (.tuple #[]) ∧ ∃ g', Hb w' db cap (m + 1) g' ∧ Mx (m + 1) g g' ∧ Heap g' (m + 1) 0 ∧ But (fun k => k = db) w w' := by
  go_enter Try.func54, Try.ntmps54
  go_upto_region 0 with fail
  go_loopw [1] (fun v V => ∃ (j : Nat) (h : Nat → Tr), v = .int .i64 j ∧ j ≤ m ∧ Hb V db cap (m + 1) h ∧ Mx (m + 1) g h ∧ Up h (m + 1) j ∧ But (fun k => k = db) w V) (fun v _ => (intOf v).toNat)
  case atStart => exact ⟨m, g, rfl, Nat.le_refl _, hh, Mx.refl _ _, Up.start hp0, But.refl _ _⟩
  case round =>
    obtain ⟨j, h, rfl, hjm, hH, hX, hU, hB⟩ := hrel
    have r1 : IntKind.i64.wrap ((j : Int) - 1) = (j : Int) - 1 := by rw [wrap_i64_eq, w64 _ (by omega)]
    have r2 := half_up j
    have r3 : IntKind.i64.wrap (((j - 1) / 2 : Nat) : Int) = (((j - 1) / 2 : Nat) : Int) := by rw [wrap_i64_eq, w64 _ (by omega)]
    obtain ⟨i, hi⟩ : ∃ i, (j - 1) / 2 = i := ⟨_, rfl⟩
    rw [hi] at r2 r3
    have cW : wr.cell? ⟨hb, 0, none⟩ = some (hv db (m + 1) cap) := (World.cell?_of_block (hB.block hb (World.block_lt_of_cell? w _ hc) hne)).trans hc
    have mL : (method 213 68 (.pointer (some ⟨hb, 0, none⟩)) "Less").run Try.prog wr = .ok (78, hv db (m + 1) cap) wr := method_less hb _ wr cW
    by_cases q : i = j
    · have d1 : ((i : Int) == (j : Int)) = true := by simp [q]
      go_wp2_with fail
      go_end0
      exact ⟨rfl, h, hH, hX, hU.done (fun h0 => by omega), hB⟩
    · have d1 : ((i : Int) == (j : Int)) = false := by simp; omega
      cases b2 : befT (h j) (h i) with
      | false =>
        go_wp2_with (go_at_call 78; refine (less_at db (m + 1) cap h (j) (i) _ _ (by omega) (by omega) (by omega) (by omega) hl _ hH).mono ?_; rintro e y ⟨rfl, dy⟩; rw [b2]; have H1 := hH.but dy (not_nowhere _); have cy := (dy.cell (World.block_lt_of_cell? _ _ cW) (not_nowhere _)).trans cW; have my : (method 213 68 (.pointer (some ⟨hb, 0, none⟩)) "Less").run Try.prog y = .ok (78, hv db (m + 1) cap) y := method_less hb _ y cy; have sy : (method 213 68 (.pointer (some ⟨hb, 0, none⟩)) "Swap").run Try.prog y = .ok (79, hv db (m + 1) cap) y := method_swap hb _ y cy)
        go_end0
        exact ⟨rfl, h, H1, hX, hU.done (fun h0 => by rw [hi]; exact b2), hB.step dy (fun _ _ f => f.elim)⟩
      | true =>
        go_wp2_with (first | (go_at_call 78; refine (less_at db (m + 1) cap h (j) (i) _ _ (by omega) (by omega) (by omega) (by omega) hl _ hH).mono ?_; rintro e y ⟨rfl, dy⟩; rw [b2]; have H1 := hH.but dy (not_nowhere _); have cy := (dy.cell (World.block_lt_of_cell? _ _ cW) (not_nowhere _)).trans cW; have my : (method 213 68 (.pointer (some ⟨hb, 0, none⟩)) "Less").run Try.prog y = .ok (78, hv db (m + 1) cap) y := method_less hb _ y cy; have sy : (method 213 68 (.pointer (some ⟨hb, 0, none⟩)) "Swap").run Try.prog y = .ok (79, hv db (m + 1) cap) y := method_swap hb _ y cy) | (go_at_call 79; refine (swap_at db (m + 1) cap h (i) (j) _ _ (by omega) (by omega) (by omega) (by omega) hl _ H1).mono ?_; rintro e z ⟨rfl, Hz, dz⟩))
        go_roundw
        case rel => exact ⟨i, swpT h i j, rfl, by omega, Hz, hX.trans (Mx.swap h (by omega) (by omega)), hU.next (by omega) (by omega) hi (leT_of b2), (hB.step dy (fun _ _ f => f.elim)).trans dz⟩
        case measure => simp [intOf]; omega

set_option maxHeartbeats 3200000 in
theorem init_any (hb db cap m : Nat) (g : Nat → Tr) (hne : hb ≠ db) (hl : m ≤ 100000) (w : World) (hc : w.cell? ⟨hb, 0, none⟩ = some (hv db m cap)) (hh : Hb w db cap m g) :
    Calls Try.prog 51 #[hp hb] w fun e w' => e = .returned (.tuple #[]) ∧ ∃ g', Hb w' db cap m g' ∧ Mx m g g' ∧ Heap g' m 0 ∧ But (fun k => k = db) w w' := by
  have mL : (method 213 68 (.pointer (some ⟨hb, 0, none⟩)) "Len").run Try.prog w = .ok (39, hv db m cap) w := method_len hb _ w hc
  have r1 : ((m : Int)).tdiv 2 = ((m / 2 : Nat) : Int) := by rw [Int.tdiv_eq_ediv_of_nonneg (by omega)]; omega
  have r2 : IntKind.i64.wrap ((m / 2 : Nat) : Int) = ((m / 2 : Nat) : Int) := by rw [wrap_i64_eq, w64 _ (by omega)]
  have r3 : IntKind.i64.wrap (((m / 2 : Nat) : Int) - 1) = ((m / 2 : Nat) : Int) - 1 := by rw [wrap_i64_eq, w64 _ (by omega)]
  obtain ⟨H, hH⟩ : ∃ H, m / 2 = H := ⟨_, rfl⟩
  rw [hH] at r1 r2 r3
  go_enter Try.func51, Try.ntmps51
  go_upto_region 2 with (go_at_call 39; refine (hp_len db m cap _).mono ?_; rintro e y ⟨rfl, dy⟩)
  have cy := (dy.cell (World.block_lt_of_cell? _ _ hc) (not_nowhere _)).trans hc
  have Hy := hh.but dy (not_nowhere _)
  go_loopw [3] (fun v V => ∃ (i : Nat) (h : Nat → Tr), v = .int .i64 ((i : Int) - 1) ∧ i ≤ H ∧ Hb V db cap m h ∧ Mx m g h ∧ Heap h m i ∧ But (fun k => k = db) w V) (fun v _ => (intOf v + 1).toNat)
  case atStart => exact ⟨H, g, rfl, Nat.le_refl _, Hy, Mx.refl _ _, Heap.high (by omega), (But.refl _ _).step dy (fun _ _ f => f.elim)⟩
  case round =>
    obtain ⟨i, h, rfl, hiH, HH, hX, hP, hB⟩ := hrel
    have cW : wr.cell? ⟨hb, 0, none⟩ = some (hv db m cap) := (World.cell?_of_block (hB.block hb (World.block_lt_of_cell? w _ hc) hne)).trans hc
    by_cases q : i = 0
    · subst q
      go_wp2_with fail
      go_end0
      exact ⟨rfl, h, HH, hX, hP, hB⟩
    · obtain ⟨i', rfl⟩ : ∃ i', i = i' + 1 := ⟨i - 1, by omega⟩
      rw [show ((i' + 1 : Nat) : Int) - 1 = (i' : Int) by omega]
      have d1 : decide ((i' : Int) ≥ 0) = true := by simp
      have r4 : IntKind.i64.wrap ((i' : Int) - 1) = (i' : Int) - 1 := by rw [wrap_i64_eq, w64 _ (by omega)]
      go_wp2_with (go_at_call 52; refine (down_any hb db cap m m i' h hne (Nat.le_refl _) hl _ cW HH hP (by omega)).mono ?_; rintro e z ⟨⟨b, rfl⟩, h', Hz, Xz, Pz, dz⟩)
      go_roundw
      case rel => exact ⟨i', h', rfl, by omega, Hz, hX.trans Xz, Pz, hB.trans dz⟩
      case measure => simp [intOf]

end Go.Proofs.Ytlpeplihbdcklaa

/- The heap's own Push and Pop, and container/heap's. -/
namespace Go.Proofs.Ytlpeplihbdcklaa
set_option linter.unusedVariables false
open Go.ChangeShapes Go.WideShapes Go.ChangeAt Go.RowKit

theorem Try.elemT : ElemInfo Try.prog 62 66 (.agg #[.int .i64 0, .int .i64 0, .slice none 0 0]) 3 40 := ⟨Try.underlying62, by kernel_rfl, rfl, by omega⟩

theorem Hb.own {W : World} {db cap m : Nat} {g : Nat → Tr} (h : Hb W db cap m g) : W.ownsRow 0 66 3 (hv db m cap) m (trs m g) := by
  obtain ⟨cur, h1, h2, h3⟩ := h.blk
  exact ⟨trs_length m g, .inr ⟨db, cap, cur, rfl, Nat.zero_le _, h1, h.le, h.lim, h2, h3⟩⟩

theorem Hb.of_own {W : World} {db cap m : Nat} {g : Nat → Tr} (h : W.ownsRow 0 66 3 (hv db m cap) m (trs m g)) (h1 : ∀ i, i < m → (g i).v.oneCell' = true) : Hb W db cap m g := by
  rcases h.2 with ⟨e, -⟩ | ⟨g', cap', cur, e, _, hg, hl, hm, hs, ht⟩
  · cases e
  · cases e
    exact ⟨hl, hm, h1, cur, hg, hs, ht⟩

theorem Hb.less {W : World} {db cap m n : Nat} {g : Nat → Tr} (h : Hb W db cap m g) (hn : n ≤ m) : Hb W db cap n g := by
  obtain ⟨cur, h1, h2, h3⟩ := h.blk
  have hle := h.le
  refine ⟨by omega, h.lim, fun i hi => h.one i (by omega), cur, h1, h2, trs_ext n g _ (by simp [h2]; omega) (fun i hi j hj => ?_)⟩
  rw [← trs_at m g i (by omega) j hj, ← h3]
  simp only [List.getElem?_take]
  rw [if_pos (by omega), if_pos (by omega)]

theorem all_oneC (t : Tr) (h : t.v.oneCell' = true) : (trC t).toArray.all (·.oneCell') = true := all_oneCell_toArray (trC_one t h)

theorem trs_push (m : Nat) (g : Nat → Tr) (t : Tr) : trs m g ++ trC t = trs (m + 1) (putT g m t) := by
  show _ = trs m (putT g m t) ++ trC (putT g m t m)
  rw [trs_congr m (putT g m t) g (fun i hi => if_neg (by omega))]
  unfold putT
  rw [if_pos rfl]

theorem ta_tree (c : Array Value) (w : World) : (Instr.typeAssert (.iface 66 (.agg c)) 20 66 false).run Try.prog w = .ok (.agg c) w := by kernel_rfl

attribute [local go_sem] ta_tree

/-- At an append whose run is known, in a region that draws. -/
theorem wp_append_at {P : Program} {w : World} {o : Oper} {a : Act} {K : Act → World → Prop} {Q : Exit → Act → World → Prop} (s x : Operand) (t : TypeId)
    (ho : o.op = .call { callee := .builtin .append, args := #[s, x], argTypes := #[t, t] }) (v u : Value) (hs : a.eval s = v) (hx : a.eval x = u) (v' : Value) (w' : World)
    (hr : (Builtin.append_ #[t, t] o.type #[v, u]).run P w = .ok v' w') (h : K (a.put o.dst v') w') : o.wp P a w K Q := by
  unfold Oper.wp execOp
  simp only [ho, resolve, invoke, builtin, Sem.run_bind, Sem.run_pure, Result.andThen_ok, List.map_toArray, List.map_cons, List.map_nil, hs, hx, hr]
  exact h

/-- One tree more. -/
theorem Hb.push {V : World} {db cap m : Nat} {g : Nat → Tr} (h : Hb V db cap m g) (t : Tr) (ht : t.v.oneCell' = true) (hm : m ≤ 1000000) (B : Nat) (hB : V.heap.size = B) :
    ∃ db' cap' w2, (Builtin.append_ #[62, 62] 62 #[hv db m cap, .slice (some ⟨B, 0, none⟩) 1 1]).run Try.prog (V.alloc (.cells (trC t).toArray 66)) = .ok (hv db' (m + 1) cap') w2 ∧ Hb w2 db' cap' (m + 1) (putT g m t) ∧ But (fun k => k = db) V w2 ∧ (db' = db ∨ V.heap.size ≤ db') := by
  subst hB
  obtain ⟨i0, hi0, hz0, hz1, hz2⟩ := info_parts Try.elemT.info
  have hbytes : (m + 1) * 40 ≤ 140737488355328 := by omega
  obtain ⟨g', cap', w', hr, k2, k3, k4, k5⟩ := run_append_lies (P := Try.prog) (V.alloc (.cells (trC t).toArray 66)) 62 62 0 66 i0 _ 3 40 Try.elemT.under hi0 hz0 hz1 hz2 Try.elemT.cells Try.elemT.pos (hv db m cap) m (trs m g) (h.own.alloc _) ⟨V.heap.size, 0, none⟩ 1 1 (trC t) rfl
    (World.news_of_block (cs := (trC t).toArray) (t := 66) (fr := (0, 0)) (heap_alloc_new V _)) (trC_one t ht) (by omega) (by unfold maxLen; omega) hbytes (by omega) _ rfl
  rw [trs_push] at k2
  refine ⟨g', cap', w', hr, Hb.of_own k2 (fun i hi => ?_), ((But.refl _ _).alloc _).grown k3 (fun k hk _ => ?_), k4.imp (fun e => ?_) (fun e => by rw [e, World.size_alloc]; omega)⟩
  · unfold putT
    split
    · exact ht
    · exact h.one i (by omega)
  · simp [Value.ownBlock] at hk; exact hk.symm
  · simp [Value.ownBlock] at e; exact e.symm

set_option maxHeartbeats 1600000 in
theorem hp_push (hb db cap m : Nat) (g : Nat → Tr) (t : Tr) (ht : t.v.oneCell' = true) (hne : hb ≠ db) (hl : m ≤ 100000) (w : World) (hc : Cells w hb 62 [hv db m cap]) (hh : Hb w db cap m g) :
    Calls Try.prog 81 #[.pointer (some ⟨hb, 0, none⟩), .iface 66 (.agg (trC t).toArray)] w fun e w' => e = .returned (.tuple #[]) ∧ ∃ db' cap', Cells w' hb 62 [hv db' (m + 1) cap'] ∧ Hb w' db' cap' (m + 1) (putT g m t) ∧ But (fun k => k = hb ∨ k = db) w w' ∧ (db' = db ∨ w.heap.size ≤ db') ∧ hb ≠ db' := by
  have hu := Try.underlying62
  have hT := Try.underlying66
  have hlt := hc.lt
  go_enter Try.func81, Try.ntmps81
  have hcV : Cells w.drew hb 62 [hv db m cap] := hc.but (But.refl _ _).drew (not_nowhere _)
  have hHV : Hb w.drew db cap m g := hh.drew
  have hbV : But Nowhere w w.drew := (But.refl _ _).drew
  have c0 : w.drew.cell? ⟨hb, 0, none⟩ = some (hv db m cap) := hcV.at 0
  refine wp_region_till (S := fun V => V.cell? ⟨hb, 0, none⟩ = some (hv db m cap)) (R := fun _ => True) (k := 9) (m := 100) (by kernel_rfl) c0 trivial ?_
  revert hcV hHV hbV c0
  generalize w.drew = V
  intro hcV hHV hbV c0
  obtain ⟨B, hB⟩ : ∃ B, V.heap.size = B := ⟨_, rfl⟩
  obtain ⟨db', cap', w2, hr, H2, b2, hat⟩ := hHV.push t ht (by omega) B hB
  have cV : (V.alloc (.cells (trC t).toArray 66)).cell? ⟨hb, 0, none⟩ = some (hv db m cap) := ((But.refl Nowhere V).alloc (.cells (trC t).toArray 66)).cell hcV.lt (not_nowhere _) |>.trans c0
  have kc2 := hcV.but b2 hne
  have c2 := kc2.at 0
  have f2 := kc2.frozen 0
  (refine Walk.take (i := 0) (oi := { dst := some 4, op := Op.move (Operand.tmp 0), type := 68, pos := "tree.go:30", after := #[], guard := none }) (v := ?_) rfl (by kernel_rfl) (by kernel_rfl) (by kernel_rfl) (by kernel_rfl) (fun _ _ _ h => h) (Or.inl ⟨by rfl, ?_⟩) ?_; rotate_left; (intro w hw; clear hw; (try go_split_ands); go_simp; try (with_reducible rfl)); simp only [Act.put, List.setIfInBounds_toArray, List.set_cons_zero, List.set_cons_succ])
  (refine Walk.take (i := 1) (oi := { dst := some 5, op := Op.move (Operand.tmp 0), type := 68, pos := "tree.go:30", after := #[], guard := none }) (v := ?_) rfl (by kernel_rfl) (by kernel_rfl) (by kernel_rfl) (by kernel_rfl) (fun _ _ _ h => h) (Or.inl ⟨by rfl, ?_⟩) ?_; rotate_left; (intro w hw; clear hw; (try go_split_ands); go_simp; try (with_reducible rfl)); simp only [Act.put, List.setIfInBounds_toArray, List.set_cons_zero, List.set_cons_succ])
  (refine Walk.take (i := 4) (oi := { dst := some 8, op := Op.move (Operand.tmp 1), type := 20, pos := "tree.go:30", after := #[], guard := none }) (v := ?_) rfl (by kernel_rfl) (by kernel_rfl) (by kernel_rfl) (by kernel_rfl) (fun _ _ _ h => h) (Or.inl ⟨by rfl, ?_⟩) ?_; rotate_left; (intro w hw; clear hw; (try go_split_ands); go_simp; try (with_reducible rfl)); simp only [Act.put, List.setIfInBounds_toArray, List.set_cons_zero, List.set_cons_succ])
  (refine Walk.take (i := 2) (oi := { dst := some 6, op := Op.nilCheck (Operand.tmp 5), type := 0, pos := "tree.go:30", after := #[{ on := 1, ground := Ground.data }], guard := none }) (v := ?_) rfl (by kernel_rfl) (by kernel_rfl) (by kernel_rfl) (by kernel_rfl) (fun _ _ _ h => h) (Or.inl ⟨by rfl, ?_⟩) ?_; rotate_left; (intro w hw; clear hw; (try go_split_ands); go_simp; try (with_reducible rfl)); simp only [Act.put, List.setIfInBounds_toArray, List.set_cons_zero, List.set_cons_succ])
  (refine Walk.take (i := 3) (oi := { dst := some 7, op := Op.load 62 (Operand.tmp 6), type := 62, pos := "tree.go:30", after := #[{ on := 2, ground := Ground.data }], guard := none }) (v := ?_) rfl (by kernel_rfl) (by kernel_rfl) (by kernel_rfl) (by kernel_rfl) (fun _ _ _ h => h) (Or.inl ⟨by rfl, ?_⟩) ?_; rotate_left; (intro w hw; have hS1 := hw.1 (by kernel_rfl); clear hw; (try dsimp only at hS1); (try go_split_ands); go_simp; try (with_reducible rfl)); simp only [Act.put, List.setIfInBounds_toArray, List.set_cons_zero, List.set_cons_succ])
  (refine Walk.take (i := 5) (oi := { dst := some 9, op := Op.typeAssert (Operand.tmp 8) 20 66 false, type := 66, pos := "tree.go:30", after := #[{ on := 4, ground := Ground.data }], guard := none }) (v := ?_) rfl (by kernel_rfl) (by kernel_rfl) (by kernel_rfl) (by kernel_rfl) (fun _ _ _ h => h) (Or.inl ⟨by rfl, ?_⟩) ?_; rotate_left; (intro w hw; clear hw; (try go_split_ands); go_simp; try (with_reducible rfl)); simp only [Act.put, List.setIfInBounds_toArray, List.set_cons_zero, List.set_cons_succ])
  (refine Walk.go (i := 6) (o := { dst := some 10, op := Op.buildSlice 62 1 #[(0, Operand.tmp 9)], type := 62, pos := "tree.go:30", after := #[{ on := 5, ground := Ground.data }], guard := none }) (by kernel_rfl) rfl (fun K hK => ?_); refine wp_build_one Try.elemT (.tmp 9) rfl (.agg (trC t).toArray) rfl (trC t) rfl rfl (by omega) B hB ?_; refine hK.out _ _ (⟨fun _ => cV, fun _ => trivial⟩) ?_; clear hK K; try simp only [Act.put, List.setIfInBounds_toArray, List.set_cons_zero, List.set_cons_succ])
  (refine Walk.go (i := 7) (o := { dst := some 11, op := Op.call { callee := Callee.builtin Builtin.append, args := #[Operand.tmp 7, Operand.tmp 10], argTypes := #[62, 62] }, type := 62, pos := "tree.go:30", after := #[{ on := 3, ground := Ground.data }, { on := 6, ground := Ground.data }], guard := none }) (by kernel_rfl) rfl (fun K hK => ?_); refine wp_append_at (.tmp 7) (.tmp 10) 62 rfl _ _ rfl rfl _ w2 hr ?_; refine hK.out _ _ (⟨fun _ => c2, fun _ => trivial⟩) ?_; clear hK K; try simp only [Act.put, List.setIfInBounds_toArray, List.set_cons_zero, List.set_cons_succ])
  (refine Walk.take (i := 8) (oi := { dst := some 12, op := Op.nilCheck (Operand.tmp 4), type := 0, pos := "tree.go:30", after := #[{ on := 0, ground := Ground.data }, { on := 0, ground := Ground.phase }, { on := 1, ground := Ground.phase }, { on := 2, ground := Ground.phase }, { on := 3, ground := Ground.phase }, { on := 4, ground := Ground.phase }, { on := 5, ground := Ground.phase }, { on := 6, ground := Ground.phase }, { on := 7, ground := Ground.phase }], guard := none }) (v := ?_) rfl (by kernel_rfl) (by kernel_rfl) (by kernel_rfl) (by kernel_rfl) (fun _ _ _ h => h) (Or.inl ⟨by rfl, ?_⟩) ?_; rotate_left; (intro w hw; clear hw; (try go_split_ands); go_simp; try (with_reducible rfl)); simp only [Act.put, List.setIfInBounds_toArray, List.set_cons_zero, List.set_cons_succ])
  (refine Walk.go (i := 9) (o := { dst := none, op := Op.store 62 (Operand.tmp 12) (Operand.tmp 11), type := 0, pos := "tree.go:30", after := #[{ on := 8, ground := Ground.data }, { on := 7, ground := Ground.data }, { on := 7, ground := Ground.chain }, { on := 0, ground := Ground.phase }, { on := 1, ground := Ground.phase }, { on := 2, ground := Ground.phase }, { on := 3, ground := Ground.phase }, { on := 4, ground := Ground.phase }, { on := 5, ground := Ground.phase }, { on := 6, ground := Ground.phase }, { on := 7, ground := Ground.phase }], guard := none }) (by kernel_rfl) rfl (fun K hK => ?_); go_simp; refine hK.out _ _ (⟨fun q => absurd q (by decide), fun _ => trivial⟩) ?_; clear hK K; try simp only [Act.put, List.setIfInBounds_toArray, List.set_cons_zero, List.set_cons_succ])
  refine Walk.done (by kernel_rfl) ?_ _
  go_wp2_with fail
  go_end0
  have hne' : hb ≠ db' := by
    rcases hat with e | e
    · rw [e]; exact hne
    · have := hcV.lt; omega
  have b3 : But (fun k => k = hb) w2 (w2.setCell ⟨hb, 0, none⟩ (hv db' (m + 1) cap')) := But.setCell (S := fun k => k = hb) (But.refl _ _) (fun _ => rfl) _
  refine ⟨rfl, db', cap', kc2.set 0 _, H2.but b3 (fun e => hne' e.symm), ?_, hat.imp id (fun e => Nat.le_trans hbV.size e), hne'⟩
  exact ((hbV.mono (fun _ _ f => f.elim)).trans (b2.mono (fun k _ e => .inr e))).trans (b3.mono (fun k _ e => .inl e))

end Go.Proofs.Ytlpeplihbdcklaa

/- The heap's own Pop. -/
namespace Go.Proofs.Ytlpeplihbdcklaa
set_option linter.unusedVariables false
open Go.ChangeShapes Go.WideShapes Go.ChangeAt Go.RowKit

set_option maxHeartbeats 1600000 in
theorem hp_pop (hb db cap m : Nat) (g : Nat → Tr) (hne : hb ≠ db) (hl : m + 1 ≤ 100000) (w : World) (hc : Cells w hb 62 [hv db (m + 1) cap]) (hh : Hb w db cap (m + 1) g) :
    Calls Try.prog 80 #[.pointer (some ⟨hb, 0, none⟩)] w fun e w' => e = .returned (.iface 66 (.agg (trC (g m)).toArray)) ∧ Cells w' hb 62 [hv db m cap] ∧ Hb w' db cap m g ∧ But (fun k => k = hb) w w' := by
  have hu := Try.underlying62
  have hT := Try.underlying66
  have hc3 : Try.prog.cellsOf 66 = 3 := by kernel_rfl
  have hi3 : ∀ t, (Try.prog.info? 66).map (·.size) = some (trC t).length := fun t => by kernel_rfl
  have hlt := hc.lt
  have hlt2 := hh.lt
  have c0 := hc.at 0
  have f0 := hc.frozen 0
  have r1 : IntKind.i64.wrap ((m : Int) + 1 - 1) = (m : Int) := by rw [wrap_i64_eq, w64 _ (by omega)]; omega
  have r2 : ((m : Int) + 1 - 1) = (m : Int) := by omega
  obtain ⟨a0, a1, a2⟩ := hh.three m (by omega)
  have hcap : ((m : Int)) ≤ (cap : Int) := by have := hh.le; omega
  have e1 : decide ((m : Int) < ((m : Int) + 1)) = true := by simp; omega
  go_enter Try.func80, Try.ntmps80
  go_wp2_with fail
  go_ret
  refine ⟨rfl, ?_, ?_, ?_⟩
  · exact (hc.set 0 (hv db m cap)).but ((But.refl _ _).alloc _) (not_nowhere _)
  · exact ((hh.less (Nat.le_succ m)).but (But.setCell (S := fun k => k = hb) (But.refl _ w) (p := ⟨hb, 0, none⟩) (fun _ => rfl) (hv db m cap)) (fun e => hne e.symm)).but ((But.refl _ _).alloc _) (not_nowhere _)
  · exact (But.setCell (S := fun k => k = hb) (But.refl _ w) (p := ⟨hb, 0, none⟩) (fun _ => rfl) (hv db m cap)).alloc _

theorem heap_swapped {g : Nat → Tr} {m : Nat} (h : Heap g (m + 1) 0) : Heap (swpT g 0 m) m 1 := fun k h0 hk h1 => by
  rw [swpT_o g 0 m (by omega) (by omega), swpT_o g 0 m (by omega) (by omega)]
  exact h k h0 (by omega) (Nat.zero_le _)

set_option maxHeartbeats 3200000 in
theorem heapPop_any (hb db cap m : Nat) (g : Nat → Tr) (hne : hb ≠ db) (hl : m + 1 ≤ 100000) (w : World) (hc : Cells w hb 62 [hv db (m + 1) cap]) (hh : Hb w db cap (m + 1) g) (hp0 : Heap g (m + 1) 0) :
    Calls Try.prog 40 #[hp hb] w fun e w' => e = .returned (.iface 66 (.agg (trC (g 0)).toArray)) ∧ ∃ g', Cells w' hb 62 [hv db m cap] ∧ Hb w' db cap m g' ∧ Heap g' m 0 ∧ g' m = g 0 ∧ Mx (m + 1) g g' ∧ But (fun k => k = hb ∨ k = db) w w' := by
  have hlt := hc.lt
  have c0 : w.cell? ⟨hb, 0, none⟩ = some (hv db (m + 1) cap) := hc.at 0
  have r1 : IntKind.i64.wrap ((m : Int) + 1 - 1) = (m : Int) := by rw [wrap_i64_eq, w64 _ (by omega)]; omega
  have r2 : ((m : Int) + 1 - 1) = (m : Int) := by omega
  have mL : (method 213 68 (.pointer (some ⟨hb, 0, none⟩)) "Len").run Try.prog w = .ok (39, hv db (m + 1) cap) w := method_len hb _ w c0
  have key : ∀ y, But Nowhere w y → (method 213 68 (.pointer (some ⟨hb, 0, none⟩)) "Swap").run Try.prog y = .ok (79, hv db (m + 1) cap) y := fun y b => method_swap hb _ y ((b.cell hlt (not_nowhere _)).trans c0)
  have mP : ∀ y, (method 213 68 (.pointer (some ⟨hb, 0, none⟩)) "Pop").run Try.prog y = .ok (80, .pointer (some ⟨hb, 0, none⟩)) y := fun y => method_pop hb y
  go_enter Try.func40, Try.ntmps40
  go_upto_region 3 with (first
    | (go_at_call 39; refine (hp_len db (m + 1) cap _).mono ?_; rintro e y ⟨rfl, dy⟩; have mS := key y dy; have Hy := hh.but dy (not_nowhere _); have cy := hc.but dy (not_nowhere _))
    | (go_at_call 79; refine (swap_at db (m + 1) cap g 0 m _ _ rfl rfl (by omega) (by omega) hl _ Hy).mono ?_; rintro e z ⟨rfl, Hz, dz⟩))
  have cz := cy.but dz hne
  have hp1 := heap_swapped hp0
  go_upto_region 4 with (go_at_call 52; refine (down_any hb db cap (m + 1) m 0 _ hne (by omega) hl _ (cz.at 0) Hz hp1 (by omega)).mono ?_; rintro e x ⟨⟨b, rfl⟩, g', Hx, Xx, Px, dx⟩)
  have cx := cz.but dx hne
  go_wp2_with (go_at_call 80; refine (hp_pop hb db cap m g' hne hl _ cx Hx).mono ?_; rintro e v ⟨rfl, cv, Hv, dv⟩)
  go_ret
  have e0 : g' m = g 0 := by rw [Xx.out m (Nat.le_refl _), swpT_r]
  have X : Mx (m + 1) g g' := by
    refine (Mx.swap g (i := 0) (j := m) (by omega) (by omega)).trans ⟨fun i hi => ?_, fun i hi => ?_, fun i hi => Xx.out i (by omega), fun k hk => Xx.inj k (by omega)⟩
    · by_cases q : i < m
      · obtain ⟨j, hj, e⟩ := Xx.fwd i q
        exact ⟨j, by omega, e⟩
      · exact ⟨i, hi, Xx.out i (by omega)⟩
    · by_cases q : i < m
      · obtain ⟨j, hj, e⟩ := Xx.bwd i q
        exact ⟨j, by omega, e⟩
      · exact ⟨i, hi, (Xx.out i (by omega)).symm⟩
  refine ⟨by rw [e0]; rfl, g', cv, Hv, Px, e0, X, ?_⟩
  exact ((((dy.mono (fun _ _ f => f.elim)).trans (dz.mono (fun k _ e => .inr e))).trans (dx.mono (fun k _ e => .inr e))).trans (dv.mono (fun k _ e => .inl e)))

set_option maxHeartbeats 3200000 in
theorem heapPush_any (hb db cap m : Nat) (g : Nat → Tr) (t : Tr) (hne : hb ≠ db) (hl : m + 1 ≤ 100000) (w : World) (hc : Cells w hb 62 [hv db m cap]) (hh : Hb w db cap m g) (hp0 : Heap g m 0) :
    Calls Try.prog 42 #[hp hb, .iface 66 (.agg (trC t).toArray)] w fun e w' => e = .returned (.tuple #[]) ∧ ∃ db' cap' g', Cells w' hb 62 [hv db' (m + 1) cap'] ∧ Hb w' db' cap' (m + 1) g' ∧ Heap g' (m + 1) 0 ∧ Mx (m + 1) (putT g m t) g' ∧ But (fun k => k = hb ∨ k = db) w w' ∧ (db' = db ∨ w.heap.size ≤ db') ∧ hb ≠ db' := by
  have r1 : IntKind.i64.wrap ((m : Int) + 1 - 1) = (m : Int) := by rw [wrap_i64_eq, w64 _ (by omega)]; omega
  have r2 : ((m : Int) + 1 - 1) = (m : Int) := by omega
  have mP : ∀ y, (method 213 68 (.pointer (some ⟨hb, 0, none⟩)) "Push").run Try.prog y = .ok (81, .pointer (some ⟨hb, 0, none⟩)) y := fun y => method_push hb y
  go_enter Try.func42, Try.ntmps42
  go_upto_region 1 with (go_at_call 81; refine (hp_push hb db cap m g t rfl hne (by omega) _ hc hh).mono ?_; rintro e y ⟨rfl, db', cap', cy, Hy, dy, hat, hne'⟩)
  have c0 : y.cell? ⟨hb, 0, none⟩ = some (hv db' (m + 1) cap') := cy.at 0
  have mL : (method 213 68 (.pointer (some ⟨hb, 0, none⟩)) "Len").run Try.prog y = .ok (39, hv db' (m + 1) cap') y := method_len hb _ y c0
  have hp1 : Heap (putT g m t) m 0 := hp0.congr (fun i hi => if_neg (by omega))
  go_wp2_with (first
    | (go_at_call 39; refine (hp_len db' (m + 1) cap' _).mono ?_; rintro e x ⟨rfl, dx⟩; have Hx := Hy.but dx (not_nowhere _); have cx := cy.but dx (not_nowhere _))
    | (go_at_call 54; refine (up_any hb db' cap' m _ hne' hl _ (cx.at 0) Hx hp1).mono ?_; rintro e z ⟨rfl, g', Hz, Xz, Pz, dz⟩))
  go_end0
  refine ⟨rfl, db', cap', g', cx.but dz hne', Hz, Pz, Xz, ?_, hat, hne'⟩
  refine (dy.step dx (fun _ _ f => f.elim)).step dz (fun k hk e => ?_)
  rcases hat with q | q
  · exact .inr (e.trans q)
  · omega

end Go.Proofs.Ytlpeplihbdcklaa

/- slices.Grow of nothing, slices.Concat of two lists of numbers. -/
namespace Go.Proofs.Ytlpeplihbdcklaa
set_option linter.unusedVariables false
open Go.ChangeShapes Go.WideShapes Go.ChangeAt Go.RowKit

/-- Noughts behind an empty list. -/
theorem run_append_made {P : Program} (w : World) (t u ty e : TypeId) (i : TypeInfo) (z : Value) (ht : P.underlying t = some (.slice e)) (hu : P.underlying u = some (.int .i64)) (hi : P.info? e = some i) (hz : i.zero = some z) (h1 : i.size = 1) (hzs : z.cells.size = 1)
    (n : Nat) (h0 : 0 < n) (hn : n ≤ 100000000) (hb : i.bytes ≤ 10000) :
    (Builtin.append_ #[t, u] ty #[.slice none 0 0, .int .i64 n]).run P w =
      .ok (.slice (some ⟨w.heap.size, 0, none⟩) n (grownCap w n 0 e)) (w.drew.alloc (.cells (Builtin.zeroCells z.cells n ++ Builtin.zeroCells z.cells (grownCap w n 0 e - n)) e)) := by
  have hbytes : i.bytes * n ≤ 1000000000000 := Nat.le_trans (Nat.mul_le_mul hb hn) (by decide)
  have hn0 : n ≠ 0 := by omega
  have hw : IntKind.i64.wrap (n : Int) = n := by rw [wrap_i64_eq, w64 _ (by omega)]
  have hneg : ¬ ((n : Int) < 0) := by omega
  have h63' : ¬ (9223372036854775807 < (n : Int)) := by omega
  have hl48 : ¬ (281474976710656 < (n : Int) * (i.bytes : Int)) := by
    have : (n : Int) * (i.bytes : Int) = ((i.bytes * n : Nat) : Int) := by rw [Int.natCast_mul, Int.mul_comm]
    omega
  have h48' : ¬ (281474976710656 < Builtin.nextslicecap n 0 * i.bytes) := by rw [nextslicecap_zero h0, Nat.mul_comm]; omega
  simp [Builtin.append_, run_underlying ht, run_underlying hu, sizeOf, typeInfo, zeroValue, hi, hz, hw, hneg, hn0, h63', hl48, h48', h1, asInt, asIntOf, Question.forced, run_firstCells_none, newRow, grownCap]

/-- At an append of so many noughts. -/
theorem wpList_append_two {P : Program} {w : World} {ops : Array Oper} {rest : List Oper} {o : Oper} {a : Act} {Q : Exit → Act → World → Prop} (hgd : o.guard = none) (s x : Operand) (t u : TypeId)
    (ho : o.op = .call { callee := .builtin .append, args := #[s, x], argTypes := #[t, u] }) (v y : Value) (hs : a.eval s = v) (hx : a.eval x = y) (v' : Value) (w' : World)
    (hr : (Builtin.append_ #[t, u] o.type #[v, y]).run P w = .ok v' w') (h : wpList P ops Q rest (a.put o.dst v') w') : wpList P ops Q (o :: rest) a w := by
  refine wpList_plain hgd fun K hK => ?_
  unfold Oper.wp execOp
  simp only [ho, resolve, invoke, builtin, Sem.run_bind, Sem.run_pure, Result.andThen_ok, List.map_toArray, List.map_cons, List.map_nil, hs, hx, hr]
  exact hK _ _ h

/-- A new block is an empty list with room. -/
theorem Lst.room (w : World) (t : TypeId) (cells : Array Value) (cap : Nat) (hs : cells.size = cap) (hc : cap ≤ maxLen) : Lst w (w.drew.alloc (.cells cells t)) t 1 (.slice (some ⟨w.heap.size, 0, none⟩) 0 cap) 0 [] :=
  ⟨⟨rfl, .inr ⟨w.heap.size, cap, cells, rfl, Nat.zero_le _, heap_alloc_new w.drew _, Nat.zero_le _, hc, by omega, by simp⟩⟩, fun x hx => by simp [Value.ownBlock] at hx; omega, (But.refl _ w).drew.alloc _⟩

set_option maxHeartbeats 1600000 in
theorem grow_any (n : Nat) (h0 : 0 < n) (hn : n ≤ 1000000) (w : World) :
    Calls Try.prog 53 #[.slice none 0 0, .int .i64 n] w fun e w' => ∃ v, e = .returned v ∧ Lst w w' 3 1 v 0 [] := by
  have d1 : decide ((n : Int) < 0) = false := by simp
  have d2 : decide ((n : Int) > 0) = true := by simp; omega
  have r1 : IntKind.i64.wrap ((n : Int)) = n := by rw [wrap_i64_eq, w64 _ (by omega)]
  have r2 : (n : Int) - 0 = n := by omega
  have r3 : (0 : Int) - 0 = 0 := by omega
  obtain ⟨i0, hi0, hz0, hz1, hz2⟩ := info_parts Try.elemI.info
  have hr := run_append_made (P := Try.prog) w 22 3 22 3 i0 _ Try.elemI.under Try.underlying3 hi0 hz0 hz1 rfl n h0 (by omega) (by omega)
  have hge := grownCap_ge w n 0 3
  have hle := grownCap_le_maxLen w n 0 3 (by unfold maxLen; omega)
  have hsz : ∀ m, (Builtin.zeroCells (Value.int .i64 0).cells m).size = m := fun m => by rw [size_zeroCells]; simp [Value.cells]
  generalize grownCap w n 0 3 = cap at hr hge hle
  have L := Lst.room w 3 (Builtin.zeroCells (Value.int .i64 0).cells n ++ Builtin.zeroCells (Value.int .i64 0).cells (cap - n)) cap (by rw [Array.size_append, hsz, hsz]; omega) hle
  generalize w.drew.alloc (.cells (Builtin.zeroCells (Value.int .i64 0).cells n ++ Builtin.zeroCells (Value.int .i64 0).cells (cap - n)) 3) = w2 at hr L
  have c0 : (0 : Int) ≤ (cap : Int) := by omega
  go_enter Try.func53, Try.ntmps53
  go_wp2_with (refine wpList_append_two rfl (.tmp 20) (.tmp 21) _ _ rfl _ _ rfl rfl _ _ hr ?_)
  go_ret
  exact ⟨_, rfl, L⟩

theorem grow_at (n : Nat) (x : Int) (hx : x = n) (h0 : 0 < n) (hn : n ≤ 1000000) (w : World) :
    Calls Try.prog 53 #[.slice none 0 0, .int .i64 x] w fun e w' => ∃ v, e = .returned v ∧ Lst w w' 3 1 v 0 [] := by
  subst hx; exact grow_any n h0 hn w

/-- A tree's values, where they lie. -/
def TV (W : World) (t : Tr) : Prop := ∃ cur, W.heap[t.b]? = some (.cells cur 3 (0, 0)) ∧ ∀ i (hi : i < t.l.length), cur[i]? = some (.int .i64 t.l[i])

theorem TV.lt {W : World} {t : Tr} (h : TV W t) : t.b < W.heap.size := by
  obtain ⟨cur, h1, _⟩ := h
  exact (Array.getElem?_eq_some_iff.1 h1).1
theorem TV.cell {W : World} {t : Tr} (h : TV W t) (i : Nat) (hi : i < t.l.length) : W.cell? ⟨t.b, i, none⟩ = some (.int .i64 t.l[i]) := by
  obtain ⟨cur, h1, h2⟩ := h
  rw [cell_of_row W t.b i cur _ _ h1]
  exact h2 i hi
theorem TV.but {S : Nat → Prop} {W W' : World} {t : Tr} (h : TV W t) (hb : But S W W') (hs : ¬ S t.b) : TV W' t := by
  have hlt := h.lt
  obtain ⟨cur, h1, h2⟩ := h
  exact ⟨cur, (hb.block t.b hlt hs).trans h1, h2⟩
theorem TV.news {W : World} {t : Tr} (h : TV W t) : ∀ j u, (ints .i64 t.l)[j]? = some u → W.cell? ((⟨t.b, 0, none⟩ : Addr).add j) = some u := fun j u hu => by
  have hj : j < t.l.length := by have := (List.getElem?_eq_some_iff.1 hu).1; rwa [ints_length] at this
  rw [ints_at _ _ _ hj] at hu
  rw [Addr.add_lit, Nat.zero_add, h.cell j hj, ← hu]
/-- What a new list is. -/
theorem Lst.tv {w w' : World} {l : List Int} {v : Value} (h : Lst w w' 3 1 v l.length (ints .i64 l)) (h0 : 0 < l.length) (n : Nat) (x : Int) : ∃ b cap, v = (Tr.mk n x b cap l).v ∧ w.heap.size ≤ b ∧ TV w' ⟨n, x, b, cap, l⟩ := by
  rcases h.own.2 with ⟨-, e⟩ | ⟨g, cap, cur, rfl, _, hg, hl, hm, hs, ht⟩
  · omega
  · refine ⟨g, cap, rfl, h.new g rfl, cur, hg, fun i hi => ?_⟩
    have hi' : i < l.length := hi
    have := ints_at .i64 l i hi'
    rw [← ht, List.getElem?_take, if_pos (by omega)] at this
    simpa using this

set_option maxHeartbeats 3200000 in
set_option maxRecDepth 100000 in
theorem concat_any (q : Nat) (a b : Tr) (ha : 0 < a.l.length) (hb : 0 < b.l.length) (hl : a.l.length + b.l.length ≤ 1000000) (w : World) (hq : Cells w q 22 [a.v, b.v]) (ta : TV w a) (tb : TV w b) :
    Calls Try.prog 41 #[.slice (some ⟨q, 0, none⟩) 2 2] w fun e w' => ∃ v, e = .returned v ∧ Lst w w' 3 1 v (a.l ++ b.l).length (ints .i64 (a.l ++ b.l)) := by
  have q0 := hq.at 0
  have q1 := hq.at 1
  obtain ⟨T, hT⟩ : ∃ T : Nat → Nat, T 0 = 0 ∧ T 1 = a.l.length ∧ T 2 = a.l.length + b.l.length := ⟨fun k => if k = 0 then 0 else if k = 1 then a.l.length else a.l.length + b.l.length, rfl, rfl, rfl⟩
  go_enter Try.func41, Try.ntmps41
  go_upto_region 3 with fail
  go_loopw [3, 11] (fun s i V => ∃ k : Nat, k ≤ 2 ∧ i = .int .i64 k ∧ s = .int .i64 (T k) ∧ V = w) (fun _ i _ => 2 - (intOf i).toNat)
  case atStart => exact ⟨0, by omega, rfl, by rw [hT.1]; rfl, rfl⟩
  case round =>
    obtain ⟨k, hk, rfl, rfl, rfl⟩ := hrel
    rcases (show k = 0 ∨ k = 1 ∨ k = 2 by omega) with rfl | rfl | rfl
    · rw [hT.1]
      have r1 : IntKind.i64.wrap ((a.l.length : Int)) = a.l.length := by rw [wrap_i64_eq, w64 _ (by omega)]
      go_wp2_with fail
      go_roundw
      case rel => exact ⟨1, by omega, rfl, by rw [hT.2.1], trivial⟩
      case measure => simp [intOf]
    · rw [hT.2.1]
      have r1 : IntKind.i64.wrap ((a.l.length : Int) + (b.l.length : Int)) = (a.l.length : Int) + (b.l.length : Int) := by rw [wrap_i64_eq, w64 _ (by omega)]
      go_wp2_with fail
      go_roundw
      case rel => exact ⟨2, by omega, rfl, by rw [hT.2.2, Int.natCast_add], trivial⟩
      case measure => simp [intOf]
    · rw [hT.2.2]
      go_upto_region 10 with (go_at_call 53; refine (grow_at (a.l.length + b.l.length) _ (by omega) (by omega) hl _).mono ?_; rintro e y ⟨v, rfl, L0⟩)
      go_upto_region 11 with fail
      go_loopw [6, 27] (fun s i V => (i = .int .i64 0 ∧ Lst wr V 3 1 s 0 []) ∨ (i = .int .i64 1 ∧ Lst wr V 3 1 s a.l.length (ints .i64 a.l)) ∨ (i = .int .i64 2 ∧ Lst wr V 3 1 s (a.l ++ b.l).length (ints .i64 (a.l ++ b.l)))) (fun _ i _ => 2 - (intOf i).toNat)
      case atStart => exact .inl ⟨rfl, L0⟩
      case round =>
        clear q0 q1
        rcases hrel with ⟨rfl, L⟩ | ⟨rfl, L⟩ | ⟨rfl, L⟩
        · have hq' := hq.but L.but (not_nowhere _)
          have ta' := ta.but L.but (not_nowhere _)
          have q0 := hq'.at 0
          have q1 := hq'.at 1
          obtain ⟨aa, cc, rfl⟩ := L.slice
          obtain ⟨g, cap, w2, hr, L2⟩ := L.moreC (P := Try.prog) Try.elemI ⟨a.b, 0, none⟩ a.l.length a.cap (ints .i64 a.l) (by rw [ints_length]; omega) ta'.news (ints_one _ _) ha (by omega) (by omega)
          rw [Nat.zero_add] at hr L2
          rw [List.nil_append] at L2
          go_wp2_with (refine wpList_append_run rfl (.tmp 31) (.tmp 32) 22 rfl (.slice aa 0 cc) a.v rfl rfl _ w2 hr ?_)
          go_roundw
          case rel => exact .inr (.inl ⟨rfl, L2⟩)
          case measure => simp [intOf]
        · have hq' := hq.but L.but (not_nowhere _)
          have tb' := tb.but L.but (not_nowhere _)
          have q0 := hq'.at 0
          have q1 := hq'.at 1
          obtain ⟨aa, cc, rfl⟩ := L.slice
          obtain ⟨g, cap, w2, hr, L2⟩ := L.moreC (P := Try.prog) Try.elemI ⟨b.b, 0, none⟩ b.l.length b.cap (ints .i64 b.l) (by rw [ints_length]; omega) tb'.news (ints_one _ _) hb (by omega) (by omega)
          rw [← ints_append, ← List.length_append] at L2
          rw [← List.length_append] at hr
          go_wp2_with (refine wpList_append_run rfl (.tmp 31) (.tmp 32) 22 rfl (.slice aa a.l.length cc) b.v rfl rfl _ w2 hr ?_)
          go_roundw
          case rel => exact .inr (.inr ⟨rfl, by rw [List.length_append] at L2 ⊢; exact L2⟩)
          case measure => simp [intOf]
        · obtain ⟨aa, cc, rfl⟩ := L.slice
          go_wp2_with fail
          go_ret
          exact ⟨_, rfl, L⟩

end Go.Proofs.Ytlpeplihbdcklaa
