/- What the document's own Store of layer 5 does. -/
import Derived.Test.YthfdabcknagjoaaScanRef2
namespace Go.Proofs.Ythfdabcknagjoaa
open Go.ChangeShapes Go.WideShapes Go.ChangeAt Go.RowKit

set_option maxHeartbeats 3200000 in
set_option maxRecDepth 100000 in
theorem refStore_any {w : World} {x y : Value} {l : List Int} {es : List Ev} (hx : Nums w x l) (hy : Evs w y es) (hl : es.length + 3 * l.length ≤ 900000) (a s f u : Int) : Calls Try.prog 37 #[.agg #[x, y], .int .i64 a, .int .i64 s, .int .i64 f, .int .i64 u] w
    fun e w' => ∃ x' y', e = .returned (.agg #[x', y']) ∧ Nums w' x' (upd (stF a s) l (lo l.length f) (wide l.length f u)) ∧ Evs w' y' (es ++ seenW 2 l.length f u) ∧ Anew w x x' ∧ Anew w y y' ∧ But Nowhere w w' := by
  obtain ⟨cA0, cA1⟩ := clip_bounds f l.length
  obtain ⟨cB0, cB1⟩ := clip_bounds u l.length
  have h := Rd.start hx hy
  obtain ⟨xo, xc, rfl⟩ := (View.of_owns hx).slice
  obtain ⟨yo, yn, yc, rfl⟩ := evs_form hy
  have HW := refWindow_any xo l.length xc (.slice yo yn yc) ⟨_, _, _, rfl⟩ f u
  unfold lo wide seenW wide
  revert cA0 cA1 cB0 cB1 HW
  generalize clipF f 0 l.length = A
  generalize clipF u 0 l.length = B
  intro cA0 cA1 cB0 cB1 HW
  have hw1 : wrap64 (B - A) = B - A := w64 _ (by omega)
  clear hx hy
  have kA := h.tb.c0
  have kB := h.tb.c1
  go_enter Try.func37, Try.ntmps37
  go_wp2_with fail
  refine (HW _).mono ?_
  rintro e w1 ⟨rfl, b1⟩
  replace h := h.step b1
  clear b1 kA kB HW
  have kB := h.tb.c1
  have fB := h.tb.fz 1
  have hM : (B - A < 0 ∧ max (B - A) 0 = 0) ∨ (0 ≤ B - A ∧ max (B - A) 0 = B - A) := by omega
  rcases hM with ⟨hAB, hM⟩ | ⟨hAB, hM⟩
  all_goals
    have HM : Hid (max (B - A) 0 = _) := hM
    clear hM
    go_wp2_with fail
    refine (refAdd_any _ _ _ _ _ h.evs (by omega)).mono ?_
    rintro e w2 ⟨y2, rfl, hy2, hn2, b2⟩
    have hy3 : Evs w2 y2 (es ++ scanE 2 A B 0) := by rw [scanE_zero, HM.out]; exact hy2
    obtain ⟨yo2, yn2, yc2, rfl⟩ := evs_form hy2
    have kB := b2.keeps (not_nowhere _) kB
    have fB := b2.thaws (not_nowhere _) h.tb.c1 fB
    replace h := h.lay b2 hy3 (.inr hn2)
    clear hy2 hy3 hn2 b2 HM hAB
    go_wp2_with fail
    revert h
    generalize w2.setCell ⟨w.heap.size, 1, none⟩ (.slice yo2 yn2 yc2) = W2
    intro h
    clear kB fB
    go_loopw [13] (fun i W => ∃ (k : Nat) (x y : Value), k ≤ (B - A).toNat ∧ i = .int .i64 (A + k) ∧ Rd w W w.heap.size (w.heap.size + 1) (.slice xo l.length xc) (.slice yo yn yc) x y (upd (stF a s) l A k) (es ++ scanE 2 A B k)) (fun i _ => (B - intOf i).toNat)
    case atStart => exact ⟨0, _, _, Nat.zero_le _, by simp, h⟩
    case round =>
      clear h
      obtain ⟨k, x, y, hk, rfl, h⟩ := hrel
      obtain ⟨xo3, xn3, xc3, rfl⟩ := nums_form h.nums
      obtain ⟨yo3, yn3, yc3, rfl⟩ := evs_form h.evs
      have kA := h.tb.c0
      have kB := h.tb.c1
      have hL := upd_length (stF a s) l A k
      have HL : Hid ((upd (stF a s) l A k).length = l.length) := hL
      clear hL
      by_cases hlt : A + (k : Int) < B
      · have hle : (es ++ scanE 2 A B k).length ≤ 900000 := by rw [List.length_append, scanE_length]; omega
        have hg := refGet_any h.nums h.evs (by omega) (by rw [HL.out]; omega) (A + k)
        rw [seenAt_nat _ A k cA0 (by rw [HL.out]; omega)] at hg
        go_wp2_with fail
        refine hg.mono ?_
        rintro e w3 ⟨y4, rfl, hy4, ay4, b3⟩
        obtain ⟨yo4, yn4, yc4, rfl⟩ := evs_form hy4
        have b34 := (But.refl Nowhere w3).alloc (.cells #[.slice xo3 xn3 xc3, .slice yo4 yn4 yc4] 43)
        have b4 := b3.trans b34
        have uB := Tb.new w3 (.slice xo3 xn3 xc3) (.slice yo4 yn4 yc4)
        have hn4 := (h.step b4).nums
        have he4 := b34.owns hy4 (fun _ _ f => f)
        have HS : Hid (∀ n, Calls Try.prog 67 #[.agg #[.slice xo3 xn3 xc3, .slice yo4 yn4 yc4], .int .i64 (A + k), .int .i64 n] (w3.alloc (.cells #[.slice xo3 xn3 xc3, .slice yo4 yn4 yc4] 43)) fun e W => ∃ x5 y5, e = .returned (.agg #[x5, y5]) ∧
            ((∃ xo5 xn5 xc5, x5 = .slice xo5 xn5 xc5) ∧ ∃ yo5 yn5 yc5, y5 = .slice yo5 yn5 yc5) ∧ (W.cell? ⟨w.heap.size, 0, none⟩ = some (.slice xo3 xn3 xc3) ∧ W.cell? ⟨w.heap.size, 1, none⟩ = some (.slice yo3 yn3 yc3) ∧ W.frozen? ⟨w.heap.size, 0, none⟩ = false ∧ W.frozen? ⟨w.heap.size, 1, none⟩ = false) ∧
            Rd w ((W.setCell ⟨w.heap.size, 0, none⟩ x5).setCell ⟨w.heap.size, 1, none⟩ y5) w.heap.size (w.heap.size + 1) (.slice xo l.length xc) (.slice yo yn yc) x5 y5 (lay (upd (stF a s) l A k) (A + k) n) (es ++ scanE 2 A B (k + 1))) := by
          intro n
          refine (refSet_any hn4 he4 (by simp at hle ⊢; omega) (by rw [HL.out]; omega) (A + k) n).mono ?_
          rintro e W ⟨x5, y5, rfl, hx5, hy5, ax5, ay5, b5⟩
          rw [seenAt_nat _ A k cA0 (by rw [HL.out]; omega)] at hy5
          have h5 := (h.step (b4.trans b5)).tb
          refine ⟨x5, y5, rfl, ⟨nums_form hx5, evs_form hy5⟩, ⟨h5.c0, h5.c1, h5.fz 0, h5.fz 1⟩, ?_⟩
          have es1 : es ++ scanE 2 A B (k + 1) = es ++ scanE 2 A B k ++ [(1, A + (k : Int))] ++ [(1, A + (k : Int))] := by rw [scanE_succ]; simp [List.replicate]
          rw [es1]
          exact h.write (b4.trans b5) hx5 hy5 (Anew.own (.inl rfl) b4 ax5) (ay4.own b4 ay5)
        have u0 := uB.c0
        have u1 := uB.c1
        clear h hy4 ay4 b3 b4 b34 hn4 he4 hg kA kB uB hle
        have fin : ∀ n, stF a s (A + k) (word (upd (stF a s) l A k) (A + k)) = n → upd (stF a s) l A (k + 1) = lay (upd (stF a s) l A k) (A + k) n := by
          intro n hn; rw [upd, hn]
        have FIN : Hid (∀ n, stF a s (A + k) (word (upd (stF a s) l A k) (A + k)) = n → upd (stF a s) l A (k + 1) = lay (upd (stF a s) l A k) (A + k) n) := fin
        clear fin
        by_cases e3 : a = A + (k : Int)
        · subst e3
          have hst := FIN.out s (by unfold stF; rw [if_pos rfl])
          have HST : Hid (upd _ l A (k + 1) = lay _ (A + (k : Int)) _) := hst
          clear hst
          go_wp2_with fail
          refine (HS.out _).mono ?_
          rintro e W5 ⟨x5, y5, rfl, ⟨⟨xo5, xn5, xc5, rfl⟩, yo5, yn5, yc5, rfl⟩, ⟨k0, k1, f0, f1⟩, h5⟩
          rw [← HST.out] at h5
          have HR : Hid (Rd w _ w.heap.size (w.heap.size + 1) (.slice xo l.length xc) (.slice yo yn yc) (.slice xo5 xn5 xc5) (.slice yo5 yn5 yc5) (upd _ l A (k + 1)) (es ++ scanE 2 A B (k + 1))) := h5
          clear h5 HS FIN HST
          go_wp2_with fail
          go_roundw
          case rel => exact ⟨k + 1, _, _, by omega, by go_num, HR.out⟩
          case measure => simp [intOf]; omega
        · have hst := FIN.out (word (upd (stF a s) l A k) (A + k)) (by unfold stF; rw [if_neg e3])
          have HST : Hid (upd _ l A (k + 1) = lay _ (A + (k : Int)) _) := hst
          have e4 : ¬ A + (k : Int) = a := fun q => e3 q.symm
          clear hst
          go_wp2_with fail
          refine (HS.out _).mono ?_
          rintro e W5 ⟨x5, y5, rfl, ⟨⟨xo5, xn5, xc5, rfl⟩, yo5, yn5, yc5, rfl⟩, ⟨k0, k1, f0, f1⟩, h5⟩
          rw [← HST.out] at h5
          have HR : Hid (Rd w _ w.heap.size (w.heap.size + 1) (.slice xo l.length xc) (.slice yo yn yc) (.slice xo5 xn5 xc5) (.slice yo5 yn5 yc5) (upd _ l A (k + 1)) (es ++ scanE 2 A B (k + 1))) := h5
          clear h5 HS FIN HST
          go_wp2_with fail
          go_roundw
          case rel => exact ⟨k + 1, _, _, by omega, by go_num, HR.out⟩
          case measure => simp [intOf]; omega
      · have hkk : k = (B - A).toNat := by omega
        subst hkk
        have r0 := h.rb.c0
        have r1 := h.rb.c1
        have f0 := h.rb.fz 0
        have f1 := h.rb.fz 1
        obtain ⟨⟨o1, o2, o3, o4, o5⟩, o6⟩ := h.out
        have c0 := o6.c0
        have c1 := o6.c1
        have HO : Hid (Nums _ _ (upd (stF a s) l A (B - A).toNat) ∧ Evs _ _ (es ++ scanE 2 A B (B - A).toNat) ∧ _ ∧ _ ∧ _) := ⟨o1, o2, o3, o4, o5⟩
        clear o1 o2 o3 o4 o5 o6 h
        go_wp2_with fail
        refine bodyPost_ret (results_T rfl _ _ (w.heap.size + 1) _ _ rfl c0 c1) rfl ?_
        exact ⟨_, _, rfl, HO.out⟩

end Go.Proofs.Ythfdabcknagjoaa
