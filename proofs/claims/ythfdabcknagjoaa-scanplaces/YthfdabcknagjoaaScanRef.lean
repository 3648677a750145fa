/- What the document's own answers for layer 5 do: window, Load, Store, Take, Put. -/
import Derived.Test.YthfdabcknagjoaaScanBits
namespace Go.Proofs.Ythfdabcknagjoaa
open Go.ChangeShapes Go.WideShapes Go.ChangeAt Go.RowKit

/-- A record of the document's in a block of its own. -/
def Tb (w : World) (t : Nat) (x y : Value) : Prop := w.heap[t]? = some (.cells #[x, y] 43 (0, 0))

theorem Tb.lt {w : World} {t : Nat} {x y : Value} (h : Tb w t x y) : t < w.heap.size := (Array.getElem?_eq_some_iff.1 h).1
theorem Tb.c0 {w : World} {t : Nat} {x y : Value} (h : Tb w t x y) : w.cell? ⟨t, 0, none⟩ = some x := by rw [cell_of_row w t 0 _ _ _ h]; rfl
theorem Tb.c1 {w : World} {t : Nat} {x y : Value} (h : Tb w t x y) : w.cell? ⟨t, 1, none⟩ = some y := by rw [cell_of_row w t 1 _ _ _ h]; rfl
theorem Tb.fz {w : World} {t : Nat} {x y : Value} (h : Tb w t x y) (j : Nat) : w.frozen? ⟨t, j, none⟩ = false := by
  unfold Tb at h
  simp [World.frozen?, h]
theorem Tb.but {S : Nat → Prop} {w w' : World} {t : Nat} {x y : Value} (h : Tb w t x y) (hb : But S w w') (hs : ¬ S t) : Tb w' t x y := (hb.block t h.lt hs).trans h
theorem Tb.new (w : World) (x y : Value) : Tb (w.alloc (.cells #[x, y] 43)) w.heap.size x y := heap_alloc_new w _
theorem Tb.drew {w : World} {t : Nat} {x y : Value} (h : Tb w t x y) : Tb w.drew t x y := h
theorem Tb.alloc {w : World} {t : Nat} {x y : Value} (h : Tb w t x y) (o : Obj) : Tb (w.alloc o) t x y := h.but ((But.refl Nowhere w).alloc o) (not_nowhere _)
theorem Tb.far {w : World} {t c : Nat} {x y : Value} (h : Tb w t x y) (hn : t ≠ c) (j : Nat) (u : Value) : Tb (w.setCell ⟨c, j, none⟩ u) t x y := h.but (But.setCell (S := fun k => k = c) (But.refl _ w) (p := ⟨c, j, none⟩) (fun _ => rfl) u) hn
theorem Tb.set0 {w : World} {t : Nat} {x y : Value} (h : Tb w t x y) (u : Value) : Tb (w.setCell ⟨t, 0, none⟩ u) t u y := by
  unfold Tb at h ⊢
  simp [World.setCell, Array.getElem?_modify, h]
theorem Tb.set1 {w : World} {t : Nat} {x y : Value} (h : Tb w t x y) (u : Value) : Tb (w.setCell ⟨t, 1, none⟩ u) t x u := by
  unfold Tb at h ⊢
  simp [World.setCell, Array.getElem?_modify, h]

theorem evs_form {w : World} {y : Value} {es : List Ev} (h : Evs w y es) : ∃ yo yn yc, y = .slice yo yn yc := by
  obtain ⟨yo, yc, e⟩ := h.slice
  exact ⟨yo, _, yc, e⟩
theorem nums_form {w : World} {x : Value} {l : List Int} (h : Nums w x l) : ∃ xo xn xc, x = .slice xo xn xc := by
  obtain ⟨xo, xc, e⟩ := (View.of_owns h).slice
  exact ⟨xo, _, xc, e⟩

/-- The record t, and beside it a place r for what is handed back; w0: where the call began, with x0, y0. -/
structure Rd (w0 w : World) (t r : Nat) (x0 y0 x y : Value) (l : List Int) (es : List Ev) : Prop where
  tb : Tb w t x y
  rb : Tb w r (.slice none 0 0) (.slice none 0 0)
  nums : Nums w x l
  evs : Evs w y es
  ax : Anew w0 x0 x
  ay : Anew w0 y0 y
  x0t : ∀ k, x0.ownBlock = some k → k < w0.heap.size
  y0t : ∀ k, y0.ownBlock = some k → k < w0.heap.size
  ox : x.ownBlock ≠ some t ∧ x.ownBlock ≠ some r
  oy : y.ownBlock ≠ some t ∧ y.ownBlock ≠ some r
  but : But Nowhere w0 w
  newt : w0.heap.size ≤ t
  newr : w0.heap.size ≤ r
  tr : t ≠ r

section
variable {w0 w w' : World} {t r : Nat} {x0 y0 x y x' y' : Value} {l m : List Int} {es fs : List Ev}

theorem Rd.step (h : Rd w0 w t r x0 y0 x y l es) (hb : But Nowhere w w') : Rd w0 w' t r x0 y0 x y l es :=
  ⟨h.tb.but hb (not_nowhere _), h.rb.but hb (not_nowhere _), hb.owns h.nums (fun _ _ f => f), hb.owns h.evs (fun _ _ f => f), h.ax, h.ay, h.x0t, h.y0t, h.ox, h.oy, h.but.trans hb, h.newt, h.newr, h.tr⟩

theorem Anew.own {w0 w : World} {v0 v v' : Value} (h : Anew w0 v0 v) (hb : But Nowhere w0 w) (k : Anew w v v') : Anew w0 v0 v' := by
  rcases k with rfl | e
  · exact h
  · exact .inr (fun q hq => Nat.le_trans hb.size (e q hq))

theorem Anew.apart {w : World} {v v' : Value} {k : Nat} (h : Anew w v v') (hk : k < w.heap.size) (hv : v.ownBlock ≠ some k) : v'.ownBlock ≠ some k := by
  rcases h with rfl | e
  · exact hv
  · intro q; have := e k q; omega

/-- The events were laid anew: W is behind the call that told them. -/
theorem Rd.lay (h : Rd w0 w t r x0 y0 x y l es) {W : World} (hb : But Nowhere w W) (hy : Evs W y' fs) (ay : Anew w y y') : Rd w0 (W.setCell ⟨t, 1, none⟩ y') t r x0 y0 x y' l fs := by
  have h1 := h.step hb
  have n1 := ay.apart h.tb.lt h.oy.1
  have n2 := ay.apart h.rb.lt h.oy.2
  have b3 : But (fun q => q = t) W (W.setCell ⟨t, 1, none⟩ y') := But.setCell (S := fun q => q = t) (But.refl _ _) (fun _ => rfl) _
  exact ⟨h1.tb.set1 _, h1.rb.far (Ne.symm h.tr) _ _, b3.owns h1.nums (fun k hk e => h.ox.1 (by rw [hk, e])), b3.owns hy (fun k hk e => n1 (by rw [hk, e])), h.ax, h.ay.own h.but ay, h.x0t, h.y0t, h.ox, ⟨n1, n2⟩, h1.but.step b3 (fun k hk e => by have := h.newt; omega), h.newt, h.newr, h.tr⟩

/-- Both were written anew. -/
theorem Rd.write (h : Rd w0 w t r x0 y0 x y l es) {W : World} (hb : But Nowhere w W) (hx : Nums W x' m) (hy : Evs W y' fs) (ax : Anew w x x') (ay : Anew w y y') : Rd w0 ((W.setCell ⟨t, 0, none⟩ x').setCell ⟨t, 1, none⟩ y') t r x0 y0 x' y' m fs := by
  have h1 := h.step hb
  have n1 := ay.apart h.tb.lt h.oy.1
  have n2 := ay.apart h.rb.lt h.oy.2
  have p1 := ax.apart h.tb.lt h.ox.1
  have p2 := ax.apart h.rb.lt h.ox.2
  have b3 : But (fun q => q = t) W ((W.setCell ⟨t, 0, none⟩ x').setCell ⟨t, 1, none⟩ y') := But.setCell (S := fun q => q = t) (But.setCell (S := fun q => q = t) (But.refl _ _) (fun _ => rfl) _) (fun _ => rfl) _
  exact ⟨(h1.tb.set0 _).set1 _, (h1.rb.far (Ne.symm h.tr) _ _).far (Ne.symm h.tr) _ _, b3.owns hx (fun k hk e => p1 (by rw [hk, e])), b3.owns hy (fun k hk e => n1 (by rw [hk, e])), h.ax.own h.but ax, h.ay.own h.but ay, h.x0t, h.y0t, ⟨p1, p2⟩, ⟨n1, n2⟩, h1.but.step b3 (fun k hk e => by have := h.newt; omega), h.newt, h.newr, h.tr⟩

theorem Rd.start (hx : Nums w x l) (hy : Evs w y es) : Rd w ((w.alloc (.cells #[x, y] 43)).alloc (.cells #[.slice none 0 0, .slice none 0 0] 43)) w.heap.size (w.heap.size + 1) x y x y l es := by
  have b0 : But Nowhere w ((w.alloc (.cells #[x, y] 43)).alloc (.cells #[.slice none 0 0, .slice none 0 0] 43)) := ((But.refl _ _).alloc _).alloc _
  have lx := fun k hk => (World.ownsRow.lt hx k hk).2
  have ly := fun k hk => (World.ownsRow.lt hy k hk).2
  have rb := Tb.new (w.alloc (.cells #[x, y] 43)) (.slice none 0 0) (.slice none 0 0)
  rw [World.size_alloc] at rb
  exact ⟨(Tb.new w x y).alloc _, rb, b0.owns hx (fun _ _ f => f), b0.owns hy (fun _ _ f => f), .inl rfl, .inl rfl, lx, ly, ⟨fun q => by have := lx _ q; omega, fun q => by have := lx _ q; omega⟩, ⟨fun q => by have := ly _ q; omega, fun q => by have := ly _ q; omega⟩, b0, by omega, by omega, by omega⟩

/-- What is handed back. -/
theorem Rd.out (h : Rd w0 w t r x0 y0 x y l es) : (Nums ((w.setCell ⟨r, 0, none⟩ x).setCell ⟨r, 1, none⟩ y) x l ∧ Evs ((w.setCell ⟨r, 0, none⟩ x).setCell ⟨r, 1, none⟩ y) y es ∧ Anew w0 x0 x ∧ Anew w0 y0 y ∧ But Nowhere w0 ((w.setCell ⟨r, 0, none⟩ x).setCell ⟨r, 1, none⟩ y)) ∧ Tb ((w.setCell ⟨r, 0, none⟩ x).setCell ⟨r, 1, none⟩ y) r x y := by
  have b3 : But (fun q => q = r) w ((w.setCell ⟨r, 0, none⟩ x).setCell ⟨r, 1, none⟩ y) := But.setCell (S := fun q => q = r) (But.setCell (S := fun q => q = r) (But.refl _ _) (fun _ => rfl) _) (fun _ => rfl) _
  exact ⟨⟨b3.owns h.nums (fun k hk e => h.ox.2 (by rw [hk, e])), b3.owns h.evs (fun k hk e => h.oy.2 (by rw [hk, e])), h.ax, h.ay, h.but.step b3 (fun k hk e => by have := h.newr; omega)⟩, (h.rb.set0 _).set1 _⟩
end

theorem clip_maxmin (f : Int) (n : Nat) : max 0 (min f n) = clipF f 0 n := by unfold clipF; split <;> (try split) <;> omega

set_option maxHeartbeats 1600000 in
set_option maxRecDepth 100000 in
theorem refWindow_any (xo : Option Addr) (n xc : Nat) (y : Value) (hy : ∃ yo yn yc, y = .slice yo yn yc) (f u : Int) (w : World) : Calls Try.prog 63 #[.agg #[.slice xo n xc, y], .int .i64 f, .int .i64 u] w
    fun e w' => e = .returned (.tuple #[.int .i64 (clipF f 0 n), .int .i64 (clipF u 0 n)]) ∧ But Nowhere w w' := by
  obtain ⟨yo, yn, yc, rfl⟩ := hy
  rw [← clip_maxmin, ← clip_maxmin]
  obtain ⟨A, hA⟩ : ∃ A, max 0 (min f (n : Int)) = A := ⟨_, rfl⟩
  obtain ⟨B, hB⟩ : ∃ B, max 0 (min u (n : Int)) = B := ⟨_, rfl⟩
  rw [hA, hB]
  have b0 := (But.refl Nowhere w).alloc (.cells #[.slice xo n xc, .slice yo yn yc] 43)
  have c0 := (Tb.new w (.slice xo n xc) (.slice yo yn yc)).drew.c0
  have HA : Hid (max 0 (min f (n : Int)) = A) := hA
  have HB : Hid (max 0 (min u (n : Int)) = B) := hB
  clear hA hB
  go_enter Try.func63, Try.ntmps63
  go_wp2_with fail
  have hA := HA.out
  have hB := HB.out
  refine wp_region_till (S := fun x => x.cell? ⟨w.heap.size, 0, none⟩ = some (.slice xo n xc)) (R := fun _ => True) (k := 100) (m := 100) (by kernel_rfl) c0 trivial ?_
  (refine Walk.take (i := 0) (oi := { dst := some 8, op := Op.move (Operand.tmp 1), type := 3, pos := "ref.go:12", after := #[], guard := none }) (v := ?_) rfl (by kernel_rfl) (by kernel_rfl) (by kernel_rfl) (by kernel_rfl) (fun _ _ _ h => h) (Or.inl ⟨by rfl, ?_⟩) ?_; rotate_left; (intro w hw; clear hw; (try go_split_ands); go_simp; try (with_reducible rfl)); simp only [Act.put, List.setIfInBounds_toArray, List.set_cons_zero, List.set_cons_succ])
  (refine Walk.take (i := 1) (oi := { dst := some 9, op := Op.fieldAddr 43 (Operand.tmp 3) 0, type := 0, pos := "ref.go:12", after := #[], guard := none }) (v := ?_) rfl (by kernel_rfl) (by kernel_rfl) (by kernel_rfl) (by kernel_rfl) (fun _ _ _ h => h) (Or.inl ⟨by rfl, ?_⟩) ?_; rotate_left; (intro w hw; clear hw; (try go_split_ands); go_simp; try (with_reducible rfl)); simp only [Act.put, List.setIfInBounds_toArray, List.set_cons_zero, List.set_cons_succ])
  (refine Walk.take (i := 2) (oi := { dst := some 10, op := Op.load 22 (Operand.tmp 9), type := 22, pos := "ref.go:12", after := #[{ on := 1, ground := Ground.data }], guard := none }) (v := ?_) rfl (by kernel_rfl) (by kernel_rfl) (by kernel_rfl) (by kernel_rfl) (fun _ _ _ h => h) (Or.inl ⟨by rfl, ?_⟩) ?_; rotate_left; (intro w hw; have hS1 := hw.1 (by kernel_rfl); clear hw; (try dsimp only at hS1); (try go_split_ands); go_simp; try (with_reducible rfl)); simp only [Act.put, List.setIfInBounds_toArray, List.set_cons_zero, List.set_cons_succ])
  (refine Walk.take (i := 3) (oi := { dst := some 11, op := Op.call { callee := Callee.builtin Builtin.len, args := #[Operand.tmp 10], argTypes := #[22] }, type := 3, pos := "ref.go:12", after := #[{ on := 2, ground := Ground.data }], guard := none }) (v := ?_) rfl (by kernel_rfl) (by kernel_rfl) (by kernel_rfl) (by kernel_rfl) (fun _ _ _ h => h) (Or.inl ⟨by rfl, ?_⟩) ?_; rotate_left; (intro w hw; clear hw; (try go_split_ands); go_simp; try (with_reducible rfl)); simp only [Act.put, List.setIfInBounds_toArray, List.set_cons_zero, List.set_cons_succ])
  (refine Walk.take (i := 4) (oi := { dst := some 12, op := Op.call { callee := Callee.builtin Builtin.min, args := #[Operand.tmp 8, Operand.tmp 11], argTypes := #[3, 3] }, type := 3, pos := "ref.go:12", after := #[{ on := 0, ground := Ground.data }, { on := 3, ground := Ground.data }], guard := none }) (v := .int .i64 (min f n)) rfl (by kernel_rfl) (by kernel_rfl) (by kernel_rfl) (by kernel_rfl) (fun _ _ _ h => h) (Or.inl ⟨by rfl, ?_⟩) ?_)
  · intro w hw
    clear hw; go_simp
    split <;> omega
  simp only [Act.put, List.setIfInBounds_toArray, List.set_cons_zero, List.set_cons_succ]
  (refine Walk.take (i := 5) (oi := { dst := some 13, op := Op.call { callee := Callee.builtin Builtin.max, args := #[Operand.const (Value.int IntKind.i64 0), Operand.tmp 12], argTypes := #[3, 3] }, type := 3, pos := "ref.go:12", after := #[{ on := 4, ground := Ground.data }], guard := none }) (v := .int .i64 A) rfl (by kernel_rfl) (by kernel_rfl) (by kernel_rfl) (by kernel_rfl) (fun _ _ _ h => h) (Or.inl ⟨by rfl, ?_⟩) ?_)
  · intro w hw
    clear hw; go_simp
    rw [← hA]; split <;> omega
  simp only [Act.put, List.setIfInBounds_toArray, List.set_cons_zero, List.set_cons_succ]
  (refine Walk.take (i := 6) (oi := { dst := some 14, op := Op.move (Operand.tmp 2), type := 3, pos := "ref.go:12", after := #[], guard := none }) (v := ?_) rfl (by kernel_rfl) (by kernel_rfl) (by kernel_rfl) (by kernel_rfl) (fun _ _ _ h => h) (Or.inl ⟨by rfl, ?_⟩) ?_; rotate_left; (intro w hw; clear hw; (try go_split_ands); go_simp; try (with_reducible rfl)); simp only [Act.put, List.setIfInBounds_toArray, List.set_cons_zero, List.set_cons_succ])
  (refine Walk.take (i := 7) (oi := { dst := some 15, op := Op.fieldAddr 43 (Operand.tmp 3) 0, type := 0, pos := "ref.go:12", after := #[], guard := none }) (v := ?_) rfl (by kernel_rfl) (by kernel_rfl) (by kernel_rfl) (by kernel_rfl) (fun _ _ _ h => h) (Or.inl ⟨by rfl, ?_⟩) ?_; rotate_left; (intro w hw; clear hw; (try go_split_ands); go_simp; try (with_reducible rfl)); simp only [Act.put, List.setIfInBounds_toArray, List.set_cons_zero, List.set_cons_succ])
  (refine Walk.take (i := 8) (oi := { dst := some 16, op := Op.load 22 (Operand.tmp 15), type := 22, pos := "ref.go:12", after := #[{ on := 7, ground := Ground.data }], guard := none }) (v := ?_) rfl (by kernel_rfl) (by kernel_rfl) (by kernel_rfl) (by kernel_rfl) (fun _ _ _ h => h) (Or.inl ⟨by rfl, ?_⟩) ?_; rotate_left; (intro w hw; have hS1 := hw.1 (by kernel_rfl); clear hw; (try dsimp only at hS1); (try go_split_ands); go_simp; try (with_reducible rfl)); simp only [Act.put, List.setIfInBounds_toArray, List.set_cons_zero, List.set_cons_succ])
  (refine Walk.take (i := 9) (oi := { dst := some 17, op := Op.call { callee := Callee.builtin Builtin.len, args := #[Operand.tmp 16], argTypes := #[22] }, type := 3, pos := "ref.go:12", after := #[{ on := 8, ground := Ground.data }], guard := none }) (v := ?_) rfl (by kernel_rfl) (by kernel_rfl) (by kernel_rfl) (by kernel_rfl) (fun _ _ _ h => h) (Or.inl ⟨by rfl, ?_⟩) ?_; rotate_left; (intro w hw; clear hw; (try go_split_ands); go_simp; try (with_reducible rfl)); simp only [Act.put, List.setIfInBounds_toArray, List.set_cons_zero, List.set_cons_succ])
  (refine Walk.take (i := 10) (oi := { dst := some 18, op := Op.call { callee := Callee.builtin Builtin.min, args := #[Operand.tmp 14, Operand.tmp 17], argTypes := #[3, 3] }, type := 3, pos := "ref.go:12", after := #[{ on := 6, ground := Ground.data }, { on := 9, ground := Ground.data }], guard := none }) (v := .int .i64 (min u n)) rfl (by kernel_rfl) (by kernel_rfl) (by kernel_rfl) (by kernel_rfl) (fun _ _ _ h => h) (Or.inl ⟨by rfl, ?_⟩) ?_)
  · intro w hw
    clear hw; go_simp
    split <;> omega
  simp only [Act.put, List.setIfInBounds_toArray, List.set_cons_zero, List.set_cons_succ]
  (refine Walk.take (i := 11) (oi := { dst := some 19, op := Op.call { callee := Callee.builtin Builtin.max, args := #[Operand.const (Value.int IntKind.i64 0), Operand.tmp 18], argTypes := #[3, 3] }, type := 3, pos := "ref.go:12", after := #[{ on := 10, ground := Ground.data }], guard := none }) (v := .int .i64 B) rfl (by kernel_rfl) (by kernel_rfl) (by kernel_rfl) (by kernel_rfl) (fun _ _ _ h => h) (Or.inl ⟨by rfl, ?_⟩) ?_)
  · intro w hw
    clear hw; go_simp
    rw [← hB]; split <;> omega
  simp only [Act.put, List.setIfInBounds_toArray, List.set_cons_zero, List.set_cons_succ]
  (refine Walk.take (i := 12) (oi := { dst := some 6, op := Op.assign (Operand.tmp 13), type := 3, pos := "ref.go:12", after := #[{ on := 5, ground := Ground.data }, { on := 0, ground := Ground.phase }, { on := 1, ground := Ground.phase }, { on := 2, ground := Ground.phase }, { on := 3, ground := Ground.phase }, { on := 4, ground := Ground.phase }, { on := 5, ground := Ground.phase }, { on := 6, ground := Ground.textOnly Departure.lateStores }, { on := 7, ground := Ground.textOnly Departure.lateStores }, { on := 8, ground := Ground.textOnly Departure.lateStores }, { on := 9, ground := Ground.textOnly Departure.lateStoresUnsure }, { on := 10, ground := Ground.textOnly Departure.lateStoresUnsure }, { on := 11, ground := Ground.textOnly Departure.lateStoresUnsure }], guard := none }) (v := ?_) rfl (by kernel_rfl) (by kernel_rfl) (by kernel_rfl) (by kernel_rfl) (fun _ _ _ h => h) (Or.inl ⟨by rfl, ?_⟩) ?_; rotate_left; (intro w hw; clear hw; (try go_split_ands); go_simp; try (with_reducible rfl)); simp only [Act.put, List.setIfInBounds_toArray, List.set_cons_zero, List.set_cons_succ])
  (refine Walk.take (i := 13) (oi := { dst := some 7, op := Op.assign (Operand.tmp 19), type := 3, pos := "ref.go:12", after := #[{ on := 11, ground := Ground.data }, { on := 12, ground := Ground.chain }, { on := 0, ground := Ground.phase }, { on := 1, ground := Ground.phase }, { on := 2, ground := Ground.phase }, { on := 3, ground := Ground.phase }, { on := 4, ground := Ground.phase }, { on := 5, ground := Ground.phase }, { on := 6, ground := Ground.phase }, { on := 7, ground := Ground.phase }, { on := 8, ground := Ground.phase }, { on := 9, ground := Ground.phase }, { on := 10, ground := Ground.phase }, { on := 11, ground := Ground.phase }, { on := 12, ground := Ground.phase }], guard := none }) (v := ?_) rfl (by kernel_rfl) (by kernel_rfl) (by kernel_rfl) (by kernel_rfl) (fun _ _ _ h => h) (Or.inl ⟨by rfl, ?_⟩) ?_; rotate_left; (intro w hw; clear hw; (try go_split_ands); go_simp; try (with_reducible rfl)); simp only [Act.put, List.setIfInBounds_toArray, List.set_cons_zero, List.set_cons_succ])
  refine Walk.done (by kernel_rfl) ?_ _
  clear hA hB
  go_wp2_with fail
  go_ret2
  exact ⟨rfl, b0.drew⟩

end Go.Proofs.Ythfdabcknagjoaa
