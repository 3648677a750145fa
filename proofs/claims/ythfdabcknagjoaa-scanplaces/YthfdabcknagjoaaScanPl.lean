/- What the helper places of layer 5's statements answers. -/
import Derived.Test.YthfdabcknagjoaaScanEq
namespace Go.Proofs.Ythfdabcknagjoaa
open Go.ChangeShapes Go.WideShapes Go.ChangeAt Go.RowKit

/-- A buffer with its recorder, and apart from it the document's numbers and events. -/
structure Bs (w0 w : World) (o : Nat) (v : Value) (es : List Ev) (b g : Nat) (l : List Int) (x y : Value) (m : List Int) (fs : List Ev) : Prop where
  bo : Bo w0 w o v es b g l
  nums : Nums w x m
  evs : Evs w y fs
  offx : ∀ k, x.ownBlock = some k → ¬ FootB o v b g k
  offy : ∀ k, y.ownBlock = some k → ¬ FootB o v b g k

section
variable {w0 w w' W : World} {o b g : Nat} {v v' x y x' y' : Value} {es es' fs fs' : List Ev} {l l' m m' : List Int}

theorem Bs.step (h : Bs w0 w o v es b g l x y m fs) (hb : But Nowhere w w') : Bs w0 w' o v es b g l x y m fs :=
  ⟨h.bo.step hb, hb.owns h.nums (fun _ _ f => f), hb.owns h.evs (fun _ _ f => f), h.offx, h.offy⟩

theorem Bs.turn (h : Bs w0 w o v es b g l x y m fs) (bo' : Bo w0 w' o v' es' b g l') (hm : Moved w v v') (hb : But (FootB o v b g) w w') : Bs w0 w' o v' es' b g l' x y m fs :=
  ⟨bo', hb.owns h.nums h.offx, hb.owns h.evs h.offy, fun k hk => hm.footB (World.ownsRow.lt h.nums k hk).2 (h.offx k hk), fun k hk => hm.footB (World.ownsRow.lt h.evs k hk).2 (h.offy k hk)⟩

theorem Bs.anew (h : Bs w0 w o v es b g l x y m fs) (hb : But Nowhere w W) (hx : Nums W x' m') (hy : Evs W y' fs') (ax : Anew w x x') (ay : Anew w y y') : Bs w0 W o v es b g l x' y' m' fs' := by
  refine ⟨h.bo.step hb, hx, hy, fun k hk f => ?_, fun k hk f => ?_⟩
  · rcases ax with rfl | e
    · exact h.offx k hk f
    · have := e k hk; have := h.bo.lt f; omega
  · rcases ay with rfl | e
    · exact h.offy k hk f
    · have := e k hk; have := h.bo.lt f; omega

theorem Bs.off (h : Bs w0 w o v es b g l x y m fs) {k : Nat} (hk : w.heap.size ≤ k) : ¬ FootB o v b g k := fun f => by have := h.bo.lt f; omega
end

set_option maxHeartbeats 3200000 in
set_option maxRecDepth 100000 in
theorem places05 {w : World} {v : Value} {l : List Int} (hv : View w .i64 v l) (hI : I64s l) (hl : l.length ≤ 40) (a s f u : Int) (ha : I64 a) (hs : I64 s) : Calls Try.prog 12 #[v, .int .i64 a, .int .i64 s, .int .i64 f, .int .i64 u] w
    fun e w' => e = .returned (.bool true) ∧ But Nowhere w w' := by
  have HV : Hid (View w .i64 v l) := hv
  obtain ⟨ao, cap, rfl⟩ := hv.slice
  clear hv
  have g1 := seenW_length 1 l.length f u
  have g2 := seenW_length 2 l.length f u
  go_enter Try.func12, Try.ntmps12
  go_wp2_with fail
  refine (of05_num HV.out (by omega)).mono ?_
  rintro e wa ⟨o, b, g, x, rfl, hA, xr, hxo⟩
  obtain ⟨xo, xc, rfl⟩ := (View.of_owns xr).slice
  have h : Bs w wa o (.slice none 0 0) [] b g l (.slice xo l.length xc) (.slice none 0 0) l [] := ⟨hA, xr, World.ownsRow_nil _ _ _ _, fun k hk => (hxo k hk).2, fun k hk => by simp [Value.ownBlock] at hk⟩
  clear hA xr hxo
  have tb := Tb.new wa (.slice xo l.length xc) (.slice none 0 0)
  have nt := h.off (Nat.le_refl wa.heap.size)
  replace h := h.step ((But.refl Nowhere _).alloc (.cells #[.slice xo l.length xc, .slice none 0 0] 43))
  go_wp2_with fail
  refine (of_any _ _).mono ?_
  rintro e w2 ⟨rfl, b2⟩
  replace h := h.step b2
  replace tb := tb.but b2 (not_nowhere _)
  clear b2
  generalize wa.heap.size = t at *
  go_wp2_with fail
  refine (h.bo.load rfl hI (by simp; omega) a f u ha).mono ?_
  rintro e w3 ⟨rfl, v3, h3, m3, b3⟩
  have nt3 := m3.footB tb.lt nt
  replace tb := tb.but b3 nt
  replace h := h.turn h3 m3 b3
  clear h3 m3 b3 nt
  rw [List.nil_append] at h
  obtain ⟨r, hr⟩ : ∃ r, acc (ldF a) l (lo l.length f) (wide l.length f u) = r := ⟨_, rfl⟩
  have HR : Hid (acc (ldF a) l (lo l.length f) (wide l.length f u) = r) := hr
  rw [hr]
  clear hr
  have bX := Box.new w3 29 (.int .i64 r)
  have nX := h.off (Nat.le_refl w3.heap.size)
  have b4 := (But.refl Nowhere w3).alloc (.cells #[.int .i64 r] 29)
  replace h := h.step b4
  replace tb := tb.but b4 (not_nowhere _)
  clear b4
  have c0 := tb.c0
  have c1 := tb.c1
  have lr := refLoad_any h.nums h.evs (by simp; omega) a f u
  rw [HR.out, List.nil_append] at lr
  go_wp2_with fail
  refine lr.mono ?_
  rintro e w5 ⟨x5, y5, rfl, hx5, hy5, ax5, ay5, b5⟩
  obtain ⟨xo5, xn5, xc5, rfl⟩ := nums_form hx5
  obtain ⟨yo5, yn5, yc5, rfl⟩ := evs_form hy5
  replace h := h.anew b5 hx5 hy5 ax5 ay5
  replace bX := bX.but b5 (not_nowhere _)
  clear lr hx5 hy5 ax5 ay5 b5 c0 c1 tb nt3
  have tb := Tb.new w5 (.slice xo5 xn5 xc5) (.slice yo5 yn5 yc5)
  have nt := h.off (Nat.le_refl w5.heap.size)
  have b6 := (But.refl Nowhere w5).alloc (.cells #[.slice xo5 xn5 xc5, .slice yo5 yn5 yc5] 43)
  replace h := h.step b6
  replace bX := bX.but b6 (not_nowhere _)
  clear b6
  generalize w3.heap.size = nx at *
  go_wp2_with fail
  refine (of_any _ _).mono ?_
  rintro e w7 ⟨rfl, b7⟩
  replace h := h.step b7
  replace tb := tb.but b7 (not_nowhere _)
  replace bX := bX.but b7 (not_nowhere _)
  clear b7
  generalize w5.heap.size = t2 at *
  go_wp2_with fail
  refine (of_any _ _).mono ?_
  rintro e w8 ⟨rfl, b8⟩
  replace h := h.step b8
  replace tb := tb.but b8 (not_nowhere _)
  replace bX := bX.but b8 (not_nowhere _)
  clear b8
  go_wp2_with fail
  refine (h.bo.store rfl hI (by omega) a s f u ha hs).mono ?_
  rintro e w9 ⟨rfl, v9, h9, m9, b9⟩
  replace tb := tb.but b9 nt
  replace bX := bX.but b9 nX
  replace h := h.turn h9 m9 b9
  clear h9 m9 b9 nt nX
  have kX := bX.cell
  go_wp2_with fail
  refine (tell_none _ _).mono ?_
  rintro e w10 ⟨rfl, b10⟩
  replace h := h.step b10
  replace tb := tb.but b10 (not_nowhere _)
  clear b10 kX bX
  have c0 := tb.c0
  have c1 := tb.c1
  go_wp2_with fail
  refine (refStore_any h.nums h.evs (by omega) a s f u).mono ?_
  rintro e w11 ⟨x11, y11, rfl, hx11, hy11, ax11, ay11, b11⟩
  replace h := h.anew b11 hx11 hy11 ax11 ay11
  clear tb c0 c1 hx11 hy11 ax11 ay11 b11
  go_wp2_with fail
  refine (same05_yes h.bo h.nums h.evs (by simp; omega) (by rw [upd_length]; omega)).mono ?_
  rintro e w12 ⟨rfl, b12⟩
  replace h := h.step b12
  go_wp2_with fail
  go_ret
  exact ⟨rfl, h.bo.but⟩

end Go.Proofs.Ythfdabcknagjoaa
