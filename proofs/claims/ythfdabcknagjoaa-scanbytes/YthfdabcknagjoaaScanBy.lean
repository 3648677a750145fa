/- What the helper bytes of layer 5's statements answers. -/
import Derived.Test.YthfdabcknagjoaaScanPl
import Derived.Test.YthfdabcknagjoaaScanRef5
namespace Go.Proofs.Ythfdabcknagjoaa
open Go.ChangeShapes Go.WideShapes Go.ChangeAt Go.RowKit

set_option maxHeartbeats 3200000 in
set_option maxRecDepth 100000 in
theorem bytes05 {w : World} {v : Value} {l : List Int} (hv : View w .i64 v l) (hI : I64s l) (hl : l.length ≤ 40) (a s n f u : Int) (hs : I64 s) : Calls Try.prog 13 #[v, .int .i64 a, .int .i64 s, .int .i64 n, .int .i64 f, .int .i64 u] w
    fun e w' => e = .returned (.bool true) ∧ But Nowhere w w' := by
  have HV : Hid (View w .i64 v l) := hv
  obtain ⟨ao, cap, rfl⟩ := hv.slice
  clear hv
  have g1 := seenW_length 1 l.length f u
  have g2 := seenW_length 2 l.length f u
  go_enter Try.func13, Try.ntmps13
  go_wp2_with fail
  refine (of05_num HV.out (by omega)).mono ?_
  rintro e wa ⟨o, b, g, x, rfl, hA, xr, hxo⟩
  obtain ⟨xo, xc, rfl⟩ := (View.of_owns xr).slice
  have h : Bs w wa o (.slice none 0 0) [] b g l (.slice xo l.length xc) (.slice none 0 0) l [] := ⟨hA, xr, World.ownsRow_nil _ _ _ _, fun k hk => (hxo k hk).2, fun k hk => by simp [Value.ownBlock] at hk⟩
  clear hA xr hxo
  have tb := Tb.new wa (.slice xo l.length xc) (.slice none 0 0)
  have nt := h.off (Nat.le_refl wa.heap.size)
  replace h := h.step ((But.refl Nowhere _).alloc (.cells #[.slice xo l.length xc, .slice none 0 0] 43))
  go_wp2_with fail
  refine (of_any _ _).mono ?_
  rintro e w2 ⟨rfl, b2⟩
  replace h := h.step b2
  replace tb := tb.but b2 (not_nowhere _)
  clear b2
  generalize wa.heap.size = t at *
  go_wp2_with fail
  refine (h.bo.take rfl (by simp; omega) a n f u).mono ?_
  rintro e w3 ⟨rfl, v3, h3, m3, b3⟩
  have nt3 := m3.footB tb.lt nt
  replace tb := tb.but b3 nt
  replace h := h.turn h3 m3 b3
  clear h3 m3 b3 nt
  rw [List.nil_append] at h
  obtain ⟨r, hr⟩ : ∃ r, acc (takeF a (clipF n 0 8)) l (lo l.length f) (wide l.length f u) = r := ⟨_, rfl⟩
  have HR : Hid (acc (takeF a (clipF n 0 8)) l (lo l.length f) (wide l.length f u) = r) := hr
  rw [hr]
  clear hr
  have bX := Box.new w3 29 (.int .i64 r)
  have nX := h.off (Nat.le_refl w3.heap.size)
  have b4 := (But.refl Nowhere w3).alloc (.cells #[.int .i64 r] 29)
  replace h := h.step b4
  replace tb := tb.but b4 (not_nowhere _)
  clear b4
  have c0 := tb.c0
  have c1 := tb.c1
  have lr := refTake_any h.nums h.evs hI (by simp; omega) a n f u
  rw [HR.out, List.nil_append] at lr
  go_wp2_with fail
  refine lr.mono ?_
  rintro e w5 ⟨x5, y5, rfl, hx5, hy5, ax5, ay5, b5⟩
  obtain ⟨xo5, xn5, xc5, rfl⟩ := nums_form hx5
  obtain ⟨yo5, yn5, yc5, rfl⟩ := evs_form hy5
  replace h := h.anew b5 hx5 hy5 ax5 ay5
  replace bX := bX.but b5 (not_nowhere _)
  clear lr hx5 hy5 ax5 ay5 b5 c0 c1 tb nt3
  have tb := Tb.new w5 (.slice xo5 xn5 xc5) (.slice yo5 yn5 yc5)
  have nt := h.off (Nat.le_refl w5.heap.size)
  have b6 := (But.refl Nowhere w5).alloc (.cells #[.slice xo5 xn5 xc5, .slice yo5 yn5 yc5] 43)
  replace h := h.step b6
  replace bX := bX.but b6 (not_nowhere _)
  clear b6
  generalize w3.heap.size = nx at *
  go_wp2_with fail
  refine (of_any _ _).mono ?_
  rintro e w7 ⟨rfl, b7⟩
  replace h := h.step b7
  replace tb := tb.but b7 (not_nowhere _)
  replace bX := bX.but b7 (not_nowhere _)
  clear b7
  generalize w5.heap.size = t2 at *
  go_wp2_with fail
  refine (of_any _ _).mono ?_
  rintro e w8 ⟨rfl, b8⟩
  replace h := h.step b8
  replace tb := tb.but b8 (not_nowhere _)
  replace bX := bX.but b8 (not_nowhere _)
  clear b8
  go_wp2_with fail
  refine (h.bo.put rfl hI (by omega) a s n f u).mono ?_
  rintro e w9 ⟨rfl, v9, h9, m9, b9⟩
  replace tb := tb.but b9 nt
  replace bX := bX.but b9 nX
  replace h := h.turn h9 m9 b9
  clear h9 m9 b9 nt nX
  have kX := bX.cell
  go_wp2_with fail
  refine (tell_none _ _).mono ?_
  rintro e w10 ⟨rfl, b10⟩
  replace h := h.step b10
  replace tb := tb.but b10 (not_nowhere _)
  clear b10 kX bX
  have c0 := tb.c0
  have c1 := tb.c1
  go_wp2_with fail
  refine (refPut_any h.nums h.evs hI (by omega) a s n f u hs).mono ?_
  rintro e w11 ⟨x11, y11, rfl, hx11, hy11, ax11, ay11, b11⟩
  replace h := h.anew b11 hx11 hy11 ax11 ay11
  clear tb c0 c1 hx11 hy11 ax11 ay11 b11
  go_wp2_with fail
  refine (same05_yes h.bo h.nums h.evs (by simp; omega) (by rw [upd_length]; omega)).mono ?_
  rintro e w12 ⟨rfl, b12⟩
  replace h := h.step b12
  go_wp2_with fail
  go_ret
  exact ⟨rfl, h.bo.but⟩

end Go.Proofs.Ythfdabcknagjoaa
