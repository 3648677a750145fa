/- What the small calls of package scan answer: here, low, window and spread; and Clip of package num. -/
import Derived.Test.YthfdabcknagjoaaBuf2
import Derived.Test.YthfdabcknagjoaaTill
import Derived.Test.YthfdabcknagjoaaSecNum
namespace Go.Proofs.Ythfdabcknagjoaa
open Go.ChangeShapes Go.WideShapes Go.ChangeAt Go.RowKit

set_option maxHeartbeats 400000 in
theorem numClip_any (a lo hi : Int) (w : World) : Calls Try.prog 74 #[.int .i64 a, .int .i64 lo, .int .i64 hi] w fun e w' => e = .returned (.int .i64 (clipF a lo hi)) ∧ w' = w := by
  unfold clipF
  by_cases h1 : a < lo
  · go_enter Try.func74, Try.ntmps74
    go_wp2
    go_ret
    exact ⟨rfl, rfl⟩
  · by_cases h2 : hi < a
    · go_enter Try.func74, Try.ntmps74
      go_wp2
      go_ret
      exact ⟨rfl, rfl⟩
    · go_enter Try.func74, Try.ntmps74
      go_wp2
      go_ret
      exact ⟨rfl, rfl⟩

set_option maxHeartbeats 3200000 in
set_option maxRecDepth 100000 in
theorem here_raw (a i : Int) (w : World) : Calls Try.prog 41 #[S64 a, .int .i64 i] w fun e w' => e = .returned (S64 (equalF a i)) ∧ But Nowhere w w' := by
  have kA : ((w.alloc (.cells #[.int .i64 a] 29)).alloc (.cells #[.int .i64 0] 29)).cell? ⟨w.heap.size, 0, none⟩ = some (.int .i64 a) := by go_simp
  have kR : ((w.alloc (.cells #[.int .i64 a] 29)).alloc (.cells #[.int .i64 0] 29)).cell? ⟨w.heap.size + 1, 0, none⟩ = some (.int .i64 0) := by go_simp
  have kF : ((w.alloc (.cells #[.int .i64 a] 29)).alloc (.cells #[.int .i64 0] 29)).frozen? ⟨w.heap.size + 1, 0, none⟩ = false := by go_simp
  have g0 : But Nowhere w ((w.alloc (.cells #[.int .i64 a] 29)).alloc (.cells #[.int .i64 0] 29)) := ((But.refl _ _).alloc _).alloc _
  go_enter Try.func41, Try.ntmps41
  go_wp2_with fail
  revert kA kR kF g0
  generalize (w.alloc (.cells #[.int .i64 a] 29)).alloc (.cells #[.int .i64 0] 29) = W
  intro kA kR kF g0
  go_region_held3 (fun w' => Frm W (w.heap.size + 1) w' ∧ w'.cell? ⟨w.heap.size, 0, none⟩ = some (.int .i64 a) ∧ w'.cell? ⟨w.heap.size + 1, 0, none⟩ = some (held w' ⟨w.heap.size + 1, 0, none⟩) ∧ w'.frozen? ⟨w.heap.size + 1, 0, none⟩ = false)
    ((go_split_ands; refine and_of (fun hq => ⟨hq.cell (by simp; try omega) kA, hq.held, hq.thaw⟩) ?_; first | exact Frm.start kR kF | (refine Frm.call ?_ hb; assumption) | (refine Frm.store ?_ _; assumption)))
    (first | (go_at_call 15; refine (of_any _ _).mono ?_; rintro e w' ⟨rfl, hb⟩) | (go_at_call 70; refine (equal_raw _ _ _).mono ?_; rintro e w' ⟨rfl, hb⟩))
  all_goals
    rename_i hh
    obtain ⟨q0, -⟩ := hh
    go_wp2_with fail
    exact bodyPost_ret (results_sec rfl _ _ _ _ rfl q0.got) rfl ⟨rfl, q0.out g0 (by omega)⟩

theorem here_any (a i : Int) (w : World) (ha : I64 a) (hi : I64 i) : Calls Try.prog 41 #[S64 a, .int .i64 i] w fun e w' => e = .returned (S64 (eqM a i)) ∧ But Nowhere w w' := by
  unfold eqM; rw [← equalF_eq a i ha hi]; exact here_raw a i w

set_option maxHeartbeats 3200000 in
set_option maxRecDepth 100000 in
theorem low_any (a : Int) (w : World) : Calls Try.prog 56 #[S64 a] w fun e w' => e = .returned (S64 (bits .and .i64 a 255)) ∧ But Nowhere w w' := by
  have kA : ((w.alloc (.cells #[.int .i64 a] 29)).alloc (.cells #[.int .i64 0] 29)).cell? ⟨w.heap.size, 0, none⟩ = some (.int .i64 a) := by go_simp
  have kR : ((w.alloc (.cells #[.int .i64 a] 29)).alloc (.cells #[.int .i64 0] 29)).cell? ⟨w.heap.size + 1, 0, none⟩ = some (.int .i64 0) := by go_simp
  have kF : ((w.alloc (.cells #[.int .i64 a] 29)).alloc (.cells #[.int .i64 0] 29)).frozen? ⟨w.heap.size + 1, 0, none⟩ = false := by go_simp
  have g0 : But Nowhere w ((w.alloc (.cells #[.int .i64 a] 29)).alloc (.cells #[.int .i64 0] 29)) := ((But.refl _ _).alloc _).alloc _
  go_enter Try.func56, Try.ntmps56
  go_wp2_with fail
  revert kA kR kF g0
  generalize (w.alloc (.cells #[.int .i64 a] 29)).alloc (.cells #[.int .i64 0] 29) = W
  intro kA kR kF g0
  go_region_held3 (fun w' => Frm W (w.heap.size + 1) w' ∧ w'.cell? ⟨w.heap.size, 0, none⟩ = some (.int .i64 a) ∧ w'.cell? ⟨w.heap.size + 1, 0, none⟩ = some (held w' ⟨w.heap.size + 1, 0, none⟩) ∧ w'.frozen? ⟨w.heap.size + 1, 0, none⟩ = false)
    ((go_split_ands; refine and_of (fun hq => ⟨hq.cell (by simp; try omega) kA, hq.held, hq.thaw⟩) ?_; first | exact Frm.start kR kF | (refine Frm.call ?_ hb; assumption) | (refine Frm.store ?_ _; assumption)))
    (first | (go_at_call 15; refine (of_any _ _).mono ?_; rintro e w' ⟨rfl, hb⟩) | (go_at_call 55; refine (and_any _ _ _).mono ?_; rintro e w' ⟨rfl, hb⟩))
  all_goals
    rename_i hh
    obtain ⟨q0, -⟩ := hh
    go_wp2_with fail
    exact bodyPost_ret (results_sec rfl _ _ _ _ rfl q0.got) rfl ⟨rfl, q0.out g0 (by omega)⟩

/-- A variable in a block of its own. -/
def Box (w : World) (b : Nat) (t : TypeId) (v : Value) : Prop := w.heap[b]? = some (.cells #[v] t (0, 0))

theorem Box.lt {w : World} {b : Nat} {t : TypeId} {v : Value} (h : Box w b t v) : b < w.heap.size := (Array.getElem?_eq_some_iff.1 h).1
theorem Box.cell {w : World} {b : Nat} {t : TypeId} {v : Value} (h : Box w b t v) : w.cell? ⟨b, 0, none⟩ = some v := by rw [cell_of_row w b 0 _ _ _ h]; rfl
theorem Box.frozen {w : World} {b : Nat} {t : TypeId} {v : Value} (h : Box w b t v) : w.frozen? ⟨b, 0, none⟩ = false := by
  unfold Box at h
  simp [World.frozen?, h]
theorem Box.but {S : Nat → Prop} {w w' : World} {b : Nat} {t : TypeId} {v : Value} (h : Box w b t v) (hb : But S w w') (hs : ¬ S b) : Box w' b t v := (hb.block b h.lt hs).trans h
theorem Box.set {w : World} {b : Nat} {t : TypeId} {v : Value} (h : Box w b t v) (u : Value) : Box (w.setCell ⟨b, 0, none⟩ u) b t u := heap_setCell_one h
theorem Box.new (w : World) (t : TypeId) (v : Value) : Box (w.alloc (.cells #[v] t)) w.heap.size t v := heap_alloc_new w _
theorem Box.drew {w : World} {b : Nat} {t : TypeId} {v : Value} (h : Box w b t v) : Box w.drew b t v := h
theorem Box.alloc {w : World} {b : Nat} {t : TypeId} {v : Value} (h : Box w b t v) (o : Obj) : Box (w.alloc o) b t v := h.but ((But.refl Nowhere w).alloc o) (not_nowhere _)
theorem Box.far {w : World} {b c : Nat} {t : TypeId} {v : Value} (h : Box w b t v) (hn : b ≠ c) (j : Nat) (u : Value) : Box (w.setCell ⟨c, j, none⟩ u) b t v := h.but (But.setCell (S := fun x => x = c) (But.refl _ w) (p := ⟨c, j, none⟩) (fun _ => rfl) u) hn

set_option maxHeartbeats 3200000 in
set_option maxRecDepth 100000 in
theorem window_some {w : World} {b g : Nat} {r : Option Addr} {l : List Int} (h : Bf w b g r l) (f u : Int) : Calls Try.prog 51 #[.pointer (some ⟨b, 0, none⟩), .int .i64 f, .int .i64 u] w
    fun e w' => e = .returned (.func (.func 75) #[] #[.pointer (some ⟨w.heap.size, 0, none⟩), .pointer (some ⟨w.heap.size + 1 + 1, 0, none⟩), .pointer (some ⟨w.heap.size + 1, 0, none⟩)]) ∧
      Box w' w.heap.size 40 (.pointer (some ⟨b, 0, none⟩)) ∧ Box w' (w.heap.size + 1) 3 (.int .i64 (clipF f 0 l.length)) ∧ Box w' (w.heap.size + 1 + 1) 3 (.int .i64 (clipF u 0 l.length)) ∧ But Nowhere w w' ∧ w'.heap.size = w.heap.size + 1 + 1 + 1 := by
  have b0 : But Nowhere w (((w.alloc (.cells #[.pointer (some ⟨b, 0, none⟩)] 40)).alloc (.cells #[.int .i64 f] 3)).alloc (.cells #[.int .i64 u] 3)) := (((But.refl _ _).alloc _).alloc _).alloc _
  have B := ((Box.new w 40 (.pointer (some ⟨b, 0, none⟩))).alloc (.cells #[.int .i64 f] 3)).alloc (.cells #[.int .i64 u] 3)
  have F := (Box.new (w.alloc (.cells #[.pointer (some ⟨b, 0, none⟩)] 40)) 3 (.int .i64 f)).alloc (.cells #[.int .i64 u] 3)
  have U := Box.new ((w.alloc (.cells #[.pointer (some ⟨b, 0, none⟩)] 40)).alloc (.cells #[.int .i64 f] 3)) 3 (.int .i64 u)
  simp only [World.size_alloc] at F U
  have hz : (((w.alloc (.cells #[.pointer (some ⟨b, 0, none⟩)] 40)).alloc (.cells #[.int .i64 f] 3)).alloc (.cells #[.int .i64 u] 3)).heap.size = w.heap.size + 1 + 1 + 1 := by simp
  go_enter Try.func51, Try.ntmps51
  go_wp2_with fail
  revert b0 B F U hz
  generalize ((w.alloc (.cells #[.pointer (some ⟨b, 0, none⟩)] 40)).alloc (.cells #[.int .i64 f] 3)).alloc (.cells #[.int .i64 u] 3) = W
  intro b0 B F U hz
  have H := (h.but b0 (not_nowhere _) (not_nowhere _)).but (But.refl Nowhere _).drew (not_nowhere _) (not_nowhere _)
  have cB := B.drew.cell
  have cF := F.drew.cell
  have cU := U.drew.cell
  have fF := F.drew.frozen
  have fU := U.drew.frozen
  have e1 : w.heap.size + 1 + 1 ≠ w.heap.size + 1 := by omega
  have e2 : w.heap.size ≠ w.heap.size + 1 := by omega
  have e3 : w.heap.size ≠ w.heap.size + 1 + 1 := by omega
  have F1 := F.drew.set (.int .i64 (clipF f 0 l.length))
  have U1 := U.drew.far e1 0 (.int .i64 (clipF f 0 l.length))
  have B1 := B.drew.far e2 0 (.int .i64 (clipF f 0 l.length))
  have F2 := F1.far (Ne.symm e1) 0 (.int .i64 (clipF u 0 l.length))
  have U2 := U1.set (.int .i64 (clipF u 0 l.length))
  have B2 := B1.far e3 0 (.int .i64 (clipF u 0 l.length))
  have fU1 := U1.frozen
  have cU1 := U1.cell
  have cB1 := B1.cell
  have G : But Nowhere w ((W.drew.setCell ⟨w.heap.size + 1, 0, none⟩ (.int .i64 (clipF f 0 l.length))).setCell ⟨w.heap.size + 1 + 1, 0, none⟩ (.int .i64 (clipF u 0 l.length))) := ((b0.drew).setCell (fun q => by exfalso; simp at q; omega) _).setCell (fun q => by exfalso; simp at q; omega) _
  have HF : Hid (Box ((W.drew.setCell ⟨w.heap.size + 1, 0, none⟩ (.int .i64 (clipF f 0 l.length))).setCell ⟨w.heap.size + 1 + 1, 0, none⟩ (.int .i64 (clipF u 0 l.length))) w.heap.size 40 (.pointer (some ⟨b, 0, none⟩)) ∧ Box ((W.drew.setCell ⟨w.heap.size + 1, 0, none⟩ (.int .i64 (clipF f 0 l.length))).setCell ⟨w.heap.size + 1 + 1, 0, none⟩ (.int .i64 (clipF u 0 l.length))) (w.heap.size + 1) 3 (.int .i64 (clipF f 0 l.length)) ∧ Box ((W.drew.setCell ⟨w.heap.size + 1, 0, none⟩ (.int .i64 (clipF f 0 l.length))).setCell ⟨w.heap.size + 1 + 1, 0, none⟩ (.int .i64 (clipF u 0 l.length))) (w.heap.size + 1 + 1) 3 (.int .i64 (clipF u 0 l.length)) ∧ But Nowhere w ((W.drew.setCell ⟨w.heap.size + 1, 0, none⟩ (.int .i64 (clipF f 0 l.length))).setCell ⟨w.heap.size + 1 + 1, 0, none⟩ (.int .i64 (clipF u 0 l.length))) ∧ ((W.drew.setCell ⟨w.heap.size + 1, 0, none⟩ (.int .i64 (clipF f 0 l.length))).setCell ⟨w.heap.size + 1 + 1, 0, none⟩ (.int .i64 (clipF u 0 l.length))).heap.size = w.heap.size + 1 + 1 + 1) := ⟨B2, F2, U2, G, by simpa [World.setCell] using hz⟩
  clear B2 F2 U2 G B1 F1 U1 B F U b0 hz
  refine wp_region_till (S := fun x => x.cell? ⟨w.heap.size, 0, none⟩ = some (.pointer (some ⟨b, 0, none⟩)) ∧ x.cell? ⟨w.heap.size + 1 + 1, 0, none⟩ = some (.int .i64 u)) (R := fun x => x.cell? ⟨w.heap.size + 1, 0, none⟩ = some (.int .i64 f)) (k := 9) (m := 8) (by kernel_rfl) ⟨cB, cU⟩ cF ?_
  generalize W.drew = D at *
  (refine Walk.take (i := 0) (oi := { dst := some 7, op := Op.load 3 (Operand.tmp 4), type := 3, pos := "scan.go:82", after := #[], guard := none }) (v := ?_) rfl (by kernel_rfl) (by kernel_rfl) (by kernel_rfl) (by kernel_rfl) (fun _ _ _ h => h) (Or.inl ⟨by rfl, ?_⟩) ?_; rotate_left; (intro w hw; have hS2 := hw.2 (by kernel_rfl); clear hw; (try dsimp only at hS2); (try go_split_ands); go_simp; try (with_reducible rfl)); simp only [Act.put, List.setIfInBounds_toArray, List.set_cons_zero, List.set_cons_succ])
  (refine Walk.take (i := 1) (oi := { dst := some 8, op := Op.load 40 (Operand.tmp 3), type := 40, pos := "scan.go:82", after := #[], guard := none }) (v := ?_) rfl (by kernel_rfl) (by kernel_rfl) (by kernel_rfl) (by kernel_rfl) (fun _ _ _ h => h) (Or.inl ⟨by rfl, ?_⟩) ?_; rotate_left; (intro w hw; have hS1 := hw.1 (by kernel_rfl); clear hw; (try dsimp only at hS1); (try go_split_ands); go_simp; try (with_reducible rfl)); simp only [Act.put, List.setIfInBounds_toArray, List.set_cons_zero, List.set_cons_succ])
  (refine Walk.take (i := 4) (oi := { dst := some 11, op := Op.load 3 (Operand.tmp 5), type := 3, pos := "scan.go:82", after := #[], guard := none }) (v := ?_) rfl (by kernel_rfl) (by kernel_rfl) (by kernel_rfl) (by kernel_rfl) (fun _ _ _ h => h) (Or.inl ⟨by rfl, ?_⟩) ?_; rotate_left; (intro w hw; have hS1 := hw.1 (by kernel_rfl); clear hw; (try dsimp only at hS1); (try go_split_ands); go_simp; try (with_reducible rfl)); simp only [Act.put, List.setIfInBounds_toArray, List.set_cons_zero, List.set_cons_succ])
  (refine Walk.take (i := 5) (oi := { dst := some 12, op := Op.load 40 (Operand.tmp 3), type := 40, pos := "scan.go:82", after := #[], guard := none }) (v := ?_) rfl (by kernel_rfl) (by kernel_rfl) (by kernel_rfl) (by kernel_rfl) (fun _ _ _ h => h) (Or.inl ⟨by rfl, ?_⟩) ?_; rotate_left; (intro w hw; have hS1 := hw.1 (by kernel_rfl); clear hw; (try dsimp only at hS1); (try go_split_ands); go_simp; try (with_reducible rfl)); simp only [Act.put, List.setIfInBounds_toArray, List.set_cons_zero, List.set_cons_succ])
  (refine Walk.go (i := 2) (o := { dst := some 9, op := Op.call { callee := Callee.value (Operand.func 60), args := #[Operand.tmp 8], argTypes := #[40] }, type := 3, pos := "scan.go:82", after := #[{ on := 1, ground := Ground.data }], guard := none }) (by kernel_rfl) rfl (fun K hK => ?_); go_simp; ((go_at_call 60; refine (len_some H).mono ?_; rintro e w' ⟨rfl, rfl⟩)); refine hK.out _ _ (⟨fun _ => ⟨cB, cU⟩, fun _ => cF⟩) ?_; clear hK K; try simp only [Act.put, List.setIfInBounds_toArray, List.set_cons_zero, List.set_cons_succ])
  (refine Walk.go (i := 3) (o := { dst := some 10, op := Op.call { callee := Callee.value (Operand.func 74), args := #[Operand.tmp 7, Operand.const (Value.int IntKind.i64 0), Operand.tmp 9], argTypes := #[3, 3, 3] }, type := 3, pos := "scan.go:82", after := #[{ on := 0, ground := Ground.data }, { on := 2, ground := Ground.data }, { on := 2, ground := Ground.chain }], guard := none }) (by kernel_rfl) rfl (fun K hK => ?_); go_simp; ((go_at_call 74; refine (numClip_any _ _ _ _).mono ?_; rintro e w' ⟨rfl, rfl⟩)); refine hK.out _ _ (⟨fun _ => ⟨cB, cU⟩, fun _ => cF⟩) ?_; clear hK K; try simp only [Act.put, List.setIfInBounds_toArray, List.set_cons_zero, List.set_cons_succ])
  (refine Walk.go (i := 6) (o := { dst := some 13, op := Op.call { callee := Callee.value (Operand.func 60), args := #[Operand.tmp 12], argTypes := #[40] }, type := 3, pos := "scan.go:82", after := #[{ on := 5, ground := Ground.data }, { on := 3, ground := Ground.chain }], guard := none }) (by kernel_rfl) rfl (fun K hK => ?_); go_simp; ((go_at_call 60; refine (len_some H).mono ?_; rintro e w' ⟨rfl, rfl⟩)); refine hK.out _ _ (⟨fun _ => ⟨cB, cU⟩, fun _ => cF⟩) ?_; clear hK K; try simp only [Act.put, List.setIfInBounds_toArray, List.set_cons_zero, List.set_cons_succ])
  (refine Walk.go (i := 7) (o := { dst := some 14, op := Op.call { callee := Callee.value (Operand.func 74), args := #[Operand.tmp 11, Operand.const (Value.int IntKind.i64 0), Operand.tmp 13], argTypes := #[3, 3, 3] }, type := 3, pos := "scan.go:82", after := #[{ on := 4, ground := Ground.data }, { on := 6, ground := Ground.data }, { on := 6, ground := Ground.chain }], guard := none }) (by kernel_rfl) rfl (fun K hK => ?_); go_simp; ((go_at_call 74; refine (numClip_any _ _ _ _).mono ?_; rintro e w' ⟨rfl, rfl⟩)); refine hK.out _ _ (⟨fun _ => ⟨cB, cU⟩, fun _ => cF⟩) ?_; clear hK K; try simp only [Act.put, List.setIfInBounds_toArray, List.set_cons_zero, List.set_cons_succ])
  (refine Walk.go (i := 8) (o := { dst := none, op := Op.store 3 (Operand.tmp 4) (Operand.tmp 10), type := 0, pos := "scan.go:82", after := #[{ on := 3, ground := Ground.data }, { on := 7, ground := Ground.chain }, { on := 0, ground := Ground.phase }, { on := 1, ground := Ground.phase }, { on := 2, ground := Ground.phase }, { on := 3, ground := Ground.phase }, { on := 4, ground := Ground.textOnly Departure.inlinedCapture }, { on := 5, ground := Ground.textOnly Departure.lateStores }, { on := 6, ground := Ground.textOnly Departure.lateStoresUnsure }, { on := 7, ground := Ground.textOnly Departure.lateStoresUnsure }], guard := none }) (by kernel_rfl) rfl (fun K hK => ?_); go_simp; (skip); refine hK.out _ _ (⟨fun _ => ⟨cB1, cU1⟩, fun q => absurd q (by decide)⟩) ?_; clear hK K; try simp only [Act.put, List.setIfInBounds_toArray, List.set_cons_zero, List.set_cons_succ])
  (refine Walk.go (i := 9) (o := { dst := none, op := Op.store 3 (Operand.tmp 5) (Operand.tmp 14), type := 0, pos := "scan.go:82", after := #[{ on := 7, ground := Ground.data }, { on := 8, ground := Ground.chain }, { on := 0, ground := Ground.phase }, { on := 1, ground := Ground.phase }, { on := 2, ground := Ground.phase }, { on := 3, ground := Ground.phase }, { on := 4, ground := Ground.phase }, { on := 5, ground := Ground.phase }, { on := 6, ground := Ground.phase }, { on := 7, ground := Ground.phase }, { on := 8, ground := Ground.phase }], guard := none }) (by kernel_rfl) rfl (fun K hK => ?_); go_simp; (skip); refine hK.out _ _ (⟨fun q => absurd q (by decide), fun q => absurd q (by decide)⟩) ?_; clear hK K; try simp only [Act.put, List.setIfInBounds_toArray, List.set_cons_zero, List.set_cons_succ])
  refine Walk.done (by kernel_rfl) ?_ _
  go_wp2_with fail
  go_ret
  exact ⟨rfl, HF.out⟩

set_option maxHeartbeats 1600000 in
set_option maxRecDepth 100000 in
theorem spread_any (a n : Int) (w : World) : Calls Try.prog 53 #[S64 a, .int .i64 n] w
    fun e w' => e = .returned (.func (.func 80) #[] #[.pointer (some ⟨w.heap.size + 1, 0, none⟩), .pointer (some ⟨w.heap.size, 0, none⟩)]) ∧
      Box w' w.heap.size 29 (.int .i64 a) ∧ Box w' (w.heap.size + 1) 3 (.int .i64 (clipF n 0 8)) ∧ But Nowhere w w' ∧ w'.heap.size = w.heap.size + 1 + 1 := by
  have b0 : But Nowhere w ((w.alloc (.cells #[.int .i64 a] 29)).alloc (.cells #[.int .i64 (clipF n 0 8)] 3)) := ((But.refl _ _).alloc _).alloc _
  have A := (Box.new w 29 (.int .i64 a)).alloc (.cells #[.int .i64 (clipF n 0 8)] 3)
  have N := Box.new (w.alloc (.cells #[.int .i64 a] 29)) 3 (.int .i64 (clipF n 0 8))
  simp only [World.size_alloc] at N
  have HF : Hid (Box _ w.heap.size 29 (.int .i64 a) ∧ Box _ (w.heap.size + 1) 3 (.int .i64 (clipF n 0 8)) ∧ But Nowhere w _) := ⟨A, N, b0⟩
  clear A N b0
  go_enter Try.func53, Try.ntmps53
  go_wp2_with (go_at_call 74; refine (numClip_any _ _ _ _).mono ?_; rintro e w' ⟨rfl, rfl⟩)
  go_ret
  obtain ⟨h1, h2, h3⟩ := HF.out
  exact ⟨rfl, h1, h2, h3, by simp⟩

end Go.Proofs.Ythfdabcknagjoaa
