/- What the document's own Load and Store of layer 5 do. -/
import Derived.Test.YthfdabcknagjoaaScanRef
namespace Go.Proofs.Ythfdabcknagjoaa
open Go.ChangeShapes Go.WideShapes Go.ChangeAt Go.RowKit

theorem scanE_zero (c : Nat) (A B : Int) : scanE c A B 0 = [(2, max (B - A) 0)] := rfl

set_option maxHeartbeats 3200000 in
set_option maxRecDepth 100000 in
theorem refLoad_any {w : World} {x y : Value} {l : List Int} {es : List Ev} (hx : Nums w x l) (hy : Evs w y es) (hl : es.length + 3 * l.length ≤ 900000) (a f u : Int) : Calls Try.prog 35 #[.agg #[x, y], .int .i64 a, .int .i64 f, .int .i64 u] w
    fun e w' => ∃ x' y', e = .returned (.tuple #[.agg #[x', y'], .int .i64 (acc (ldF a) l (lo l.length f) (wide l.length f u))]) ∧ Nums w' x' l ∧ Evs w' y' (es ++ seenW 1 l.length f u) ∧ Anew w x x' ∧ Anew w y y' ∧ But Nowhere w w' := by
  obtain ⟨cA0, cA1⟩ := clip_bounds f l.length
  obtain ⟨cB0, cB1⟩ := clip_bounds u l.length
  have h := Rd.start hx hy
  obtain ⟨xo, xc, rfl⟩ := (View.of_owns hx).slice
  obtain ⟨yo, yn, yc, rfl⟩ := evs_form hy
  have HW := refWindow_any xo l.length xc (.slice yo yn yc) ⟨_, _, _, rfl⟩ f u
  unfold lo wide seenW wide
  revert cA0 cA1 cB0 cB1 HW
  generalize clipF f 0 l.length = A
  generalize clipF u 0 l.length = B
  intro cA0 cA1 cB0 cB1 HW
  have hw1 : wrap64 (B - A) = B - A := w64 _ (by omega)
  clear hx hy
  have kA := h.tb.c0
  have kB := h.tb.c1
  go_enter Try.func35, Try.ntmps35
  go_wp2_with fail
  refine (HW _).mono ?_
  rintro e w1 ⟨rfl, b1⟩
  replace h := h.step b1
  clear b1 kA kB HW
  have kB := h.tb.c1
  have fB := h.tb.fz 1
  have hM : (B - A < 0 ∧ max (B - A) 0 = 0) ∨ (0 ≤ B - A ∧ max (B - A) 0 = B - A) := by omega
  rcases hM with ⟨hAB, hM⟩ | ⟨hAB, hM⟩
  all_goals
    have HM : Hid (max (B - A) 0 = _) := hM
    clear hM
    go_wp2_with fail
    refine (refAdd_any _ _ _ _ _ h.evs (by omega)).mono ?_
    rintro e w2 ⟨y2, rfl, hy2, hn2, b2⟩
    have hy3 : Evs w2 y2 (es ++ scanE 1 A B 0) := by rw [scanE_zero, HM.out]; exact hy2
    obtain ⟨yo2, yn2, yc2, rfl⟩ := evs_form hy2
    have kB := b2.keeps (not_nowhere _) kB
    have fB := b2.thaws (not_nowhere _) h.tb.c1 fB
    replace h := h.lay b2 hy3 (.inr hn2)
    clear hy2 hy3 hn2 b2 HM hAB
    go_wp2_with fail
    revert h
    generalize w2.setCell ⟨w.heap.size, 1, none⟩ (.slice yo2 yn2 yc2) = W2
    intro h
    clear kB fB
    go_loopw [12, 13] (fun out i W => ∃ (k : Nat) (x y : Value), k ≤ (B - A).toNat ∧ i = .int .i64 (A + k) ∧ out = .int .i64 (acc (ldF a) l A k) ∧ Rd w W w.heap.size (w.heap.size + 1) (.slice xo l.length xc) (.slice yo yn yc) x y l (es ++ scanE 1 A B k)) (fun _ i _ => (B - intOf i).toNat)
    case atStart => exact ⟨0, _, _, Nat.zero_le _, by simp, rfl, h⟩
    case round =>
      clear h
      obtain ⟨k, x, y, hk, rfl, rfl, h⟩ := hrel
      obtain ⟨xo3, xn3, xc3, rfl⟩ := nums_form h.nums
      obtain ⟨yo3, yn3, yc3, rfl⟩ := evs_form h.evs
      have kA := h.tb.c0
      have kB := h.tb.c1
      by_cases hlt : A + (k : Int) < B
      · have hle : (es ++ scanE 1 A B k).length ≤ 1000000 := by rw [List.length_append, scanE_length]; omega
        have hg := refGet_any h.nums h.evs hle (by omega) (A + k)
        rw [seenAt_nat l A k cA0 (by omega), List.append_assoc] at hg
        have es1 : scanE 1 A B (k + 1) = scanE 1 A B k ++ [(1, A + (k : Int))] := scanE_succ 1 A B k
        rw [← es1] at hg
        go_wp2_with fail
        refine hg.mono ?_
        rintro e w3 ⟨y4, rfl, hy4, ay4, b3⟩
        obtain ⟨yo4, yn4, yc4, rfl⟩ := evs_form hy4
        have b4 := b3.alloc (.cells #[.slice xo3 xn3 xc3, .slice yo4 yn4 yc4] 43)
        have h4 := (h.step b4).tb
        have k0 := h4.c0
        have k1 := h4.c1
        have f0 := h4.fz 0
        have f1 := h4.fz 1
        have hn4 := (h.step b4).nums
        have he4 := ((But.refl Nowhere w3).alloc (.cells #[.slice xo3 xn3 xc3, .slice yo4 yn4 yc4] 43)).owns hy4 (fun _ _ f => f)
        replace h := h.write b4 hn4 he4 (.inl rfl) ay4
        have HR : Hid (Rd w _ w.heap.size (w.heap.size + 1) (.slice xo l.length xc) (.slice yo yn yc) (.slice xo3 xn3 xc3) (.slice yo4 yn4 yc4) l (es ++ scanE 1 A B (k + 1))) := h
        clear h hy4 ay4 b3 b4 h4 hn4 he4 hg es1 kA kB
        by_cases e3 : a = A + (k : Int)
        · subst e3
          have hac : acc (ldF (A + (k : Int))) l A (k + 1) = word l (A + k) := by unfold acc ldF; rw [if_pos rfl]
          have HC : Hid (acc (ldF (A + (k : Int))) l A (k + 1) = word l (A + k)) := hac
          clear hac
          go_wp2_with fail
          go_roundw
          case rel => exact ⟨k + 1, _, _, by omega, by go_num, by rw [HC.out], HR.out⟩
          case measure => simp [intOf]; omega
        · have hac : acc (ldF a) l A (k + 1) = acc (ldF a) l A k := by rw [acc]; unfold ldF; rw [if_neg e3]
          have HC : Hid (acc (ldF a) l A (k + 1) = acc (ldF a) l A k) := hac
          have e4 : ¬ A + (k : Int) = a := fun q => e3 q.symm
          clear hac
          go_wp2_with fail
          go_roundw
          case rel => exact ⟨k + 1, _, _, by omega, by go_num, by rw [HC.out], HR.out⟩
          case measure => simp [intOf]; omega
      · have hkk : k = (B - A).toNat := by omega
        subst hkk
        have r0 := h.rb.c0
        have r1 := h.rb.c1
        have f0 := h.rb.fz 0
        have f1 := h.rb.fz 1
        obtain ⟨⟨o1, o2, o3, o4, o5⟩, o6⟩ := h.out
        have c0 := o6.c0
        have c1 := o6.c1
        have HO : Hid (Nums _ _ l ∧ Evs _ _ (es ++ scanE 1 A B (B - A).toNat) ∧ _ ∧ _ ∧ _) := ⟨o1, o2, o3, o4, o5⟩
        clear o1 o2 o3 o4 o5 o6 h
        go_wp2_with fail
        refine bodyPost_ret (results_TI rfl _ _ (w.heap.size + 1) _ _ _ rfl rfl c0 c1) rfl ?_
        exact ⟨_, _, rfl, HO.out⟩

end Go.Proofs.Ythfdabcknagjoaa
