/- For every list l of numbers and every list d of deeds the law BufDoes of layer 4 returns true: whatever is set, and got, what is told, what is held then, and what was seen, are what the chapter says. No condition. -/
import Derived.Test.YtgmpadbeoenfaaaBufBoth
import Derived.Test.YtgmpadbeoenfaaaBufTwo
import Derived.Test.YtgmpadbeoenfaaaFrame
import Derived.Test.YtgmpadbeoenfaaaRows
namespace Go.Proofs.Ytgmpadbeoenfaaa.bufDoes
open Go.ChangeShapes Go.WideShapes Go.ChangeAt Go.RowKit
set_option linter.unusedVariables false

theorem own : ownKnob Try.prog.godebug = none := by kernel_rfl
theorem laidOut : laidOutB Try.prog = true := by kernel_rfl
theorem readable : ∀ t ∈ Try.f3.params.toList, Try.prog.readableRec t = true ∧ t < Try.prog.types.size := by
  rw [Try.params3]
  simp only [List.mem_cons, List.not_mem_nil, or_false, forall_eq_or_imp, forall_eq]
  refine ⟨⟨by kernel_rfl, of_decide_eq_true (by kernel_rfl)⟩, ⟨by kernel_rfl, of_decide_eq_true (by kernel_rfl)⟩⟩

set_option maxHeartbeats 20000000 in
set_option maxRecDepth 100000 in
theorem walk (w : World) (v0 : Value) (l0 : List Int) (s0 : View w .i64 v0 l0) (x0 : ∀ x ∈ l0, I64 x) (n0 : l0.length ≤ 17592186044416) (v1 : Value) (l1 : List Dd) (s1 : Deeds w v1 l1) (x1 : ∀ x ∈ l1, I64 x.2.1 ∧ I64 x.2.2) (n1 : l1.length ≤ 8796093022208) :
    Calls Try.prog 3 #[v0, v1] w fun e w' => e = .returned (.bool true) ∧ But Nowhere w w' := by
  have S0 : Hid (View w .i64 v0 l0) := s0
  obtain ⟨ao, cap, rfl⟩ := s0.slice
  have S1 : Hid (Deeds w v1 l1) := s1
  obtain ⟨ao2, cap2, rfl⟩ := s1.slice
  clear s0 s1
  by_cases hl : l0.length ≤ 40 ∧ l1.length ≤ 60
  · obtain ⟨hl, hl2⟩ := hl
    have hgt : decide (40 < (l0.length : Int)) = false := by simp; omega
    have hgt2 : decide (60 < (l1.length : Int)) = false := by simp; omega
    go_enter Try.func3, Try.ntmps3
    go_wp2_with (go_at_call 8; refine (known_any _).mono ?_; rintro e wk ⟨rfl, bk⟩)
    refine (of_num (S0.out.but bk) hl).mono ?_
    rintro e wa ⟨o, b, g, x, rfl, hA, xr, xo⟩
    obtain ⟨xa, xc, rfl⟩ := (View.of_owns xr).slice
    have ba := (But.refl Nowhere wa).alloc (.cells #[.slice xa l0.length xc, .slice none 0 0] 28)
    have h0 : Bb w (wa.alloc (.cells #[.slice xa l0.length xc, .slice none 0 0] 28)) o (.slice none 0 0) [] b g l0 wa.heap.size (.slice xa l0.length xc) (.slice none 0 0) [] l0 :=
      ⟨(hA.back bk).step ba, by go_simp, by go_simp, by go_simp, by go_simp, ba.owns xr (fun _ _ f => f), World.ownsRow_nil _ _ _ _, fun e => by have := (World.ownsRow.lt xr _ e).2; omega, by simp [Value.ownBlock], by have := hA.but.size; have := bk.size; omega, fun f => by have := hA.lt f; omega, fun k hk => (xo k hk).2, by simp [Value.ownBlock]⟩
    clear xr xo ba hA bk
    go_wp2_with fail
    go_loopw [7] (fun i W => ∃ (k : Nat) (v x y : Value) (es : List Ev) (l : List Int), k ≤ l1.length ∧ i = .int .i64 k ∧ Bb w W o v es b g l wa.heap.size x y es l ∧ l.length = l0.length ∧ es.length ≤ k) (fun i _ => l1.length - (intOf i).toNat)
    case atStart => exact ⟨0, _, _, _, _, _, Nat.zero_le _, rfl, h0, rfl, by simp⟩
    case round =>
      clear h0
      obtain ⟨k, v, x, y, es, l, hk, rfl, h, el, ee⟩ := hrel
      generalize wa.heap.size = t at *
      have EL : Hid (l.length = l0.length) := el
      have el1 : l.length ≤ l0.length := by omega
      have el2 : l0.length ≤ l.length := by omega
      clear el
      by_cases hlt : k < l1.length
      · obtain ⟨sb, off, rfl, -, d0, d1, d2⟩ := (S1.out.but h.bo.but).at k hlt
        obtain ⟨sb', off', e', hsb, -⟩ := S1.out.at k hlt
        cases e'
        obtain ⟨z1, z2⟩ := x1 _ (List.getElem_mem hlt)
        have i0 : (0 : Int) ≤ (k : Int) := by omega
        have i1 : (k : Int) < (l1.length : Int) := by omega
        obtain ⟨q, hq⟩ : ∃ q, l1[k] = q := ⟨_, rfl⟩
        obtain ⟨st, I, n⟩ := q
        rw [hq] at d0 d1 d2 z1 z2
        simp only at d0 d1 d2 z1 z2
        cases st
        · go_wp2_with fail
          · refine (h.bo.get (by omega) (I.tmod ((l0.length : Int) + 1))).mono ?_
            rintro e w4 ⟨rfl, v4, bo4, m4, bt4⟩
            replace h := h.turn bo4 m4 bt4
            have es4 := seenAt_le l (I.tmod ((l0.length : Int) + 1))
            clear bo4 m4 bt4 d0 d1 d2
            obtain ⟨N, hN⟩ : ∃ N, word l (I.tmod ((l0.length : Int) + 1)) = N := ⟨_, rfl⟩
            rw [hN]
            have kX : (w4.alloc (.cells #[.int .i64 N] 35)).cell? ⟨w4.heap.size, 0, none⟩ = some (.int .i64 N) := by go_simp
            have tne : t < w4.heap.size := cell_lt h.c0
            have tne2 : w4.heap.size ≠ t := by omega
            replace h := h.step ((But.refl Nowhere _).alloc (.cells #[.int .i64 N] 35))
            obtain ⟨xa, xc, rfl⟩ := (View.of_owns h.nums).slice
            obtain ⟨ya, yc, rfl⟩ := h.evs.slice
            have c0 := h.c0
            have c1 := h.c1
            have f0 := h.f0
            have f1 := h.f1
            go_wp2_with fail
            refine (refGet_any h.nums h.evs (by omega) (by omega) (I.tmod ((l0.length : Int) + 1))).mono ?_
            rw [hN]
            rintro e w5 ⟨y', rfl, hy5, ay5, b5⟩
            obtain ⟨ya', yc', e'⟩ := hy5.slice
            obtain ⟨m0, hm0⟩ : ∃ m0, (es ++ seenAt l (I.tmod ((l0.length : Int) + 1))).length = m0 := ⟨_, rfl⟩
            have ee6 : (es ++ seenAt l (I.tmod ((l0.length : Int) + 1))).length ≤ k + 1 := by simp; omega
            rw [hm0] at e'
            subst e'
            clear hm0 hN
            have k0 := b5.keeps (p := ⟨t, 0, none⟩) (not_nowhere _) c0
            have k1 := b5.keeps (p := ⟨t, 1, none⟩) (not_nowhere _) c1
            have j0 := b5.thaws (p := ⟨t, 0, none⟩) (not_nowhere _) c0 f0
            have j1 := b5.thaws (p := ⟨t, 1, none⟩) (not_nowhere _) c1 f1
            have tl : t < w5.heap.size := by have := b5.size; simp at this; omega
            have tl2 : w5.heap.size ≠ t := by omega
            have tl3 : ¬ t = w5.heap.size := by omega
            have tl4 : ¬ t = w4.heap.size := by omega
            have tl5 : ¬ w4.heap.size = w5.heap.size := by have := b5.size; simp at this; omega
            replace kX := b5.keeps (p := ⟨w4.heap.size, 0, none⟩) (not_nowhere _) kX
            have h6 := (h.write b5 (b5.owns h.nums (fun _ _ f => f)) hy5 (.inl rfl) ay5).step ((But.refl Nowhere _).alloc (.cells #[.slice xa l.length xc, .slice ya' m0 yc'] 28))
            have kZ := ((But.setCell (S := fun q => q = t) (But.setCell (S := fun q => q = t) (But.refl _ w5) (p := ⟨t, 0, none⟩) (fun _ => rfl) (.slice xa l.length xc)) (p := ⟨t, 1, none⟩) (fun _ => rfl) (.slice ya' m0 yc')).alloc (.cells #[.slice xa l.length xc, .slice ya' m0 yc'] 28)).keeps tne2 kX
            have HF : Hid (Bb w _ o v4 (es ++ seenAt l (I.tmod ((l0.length : Int) + 1))) b g l t _ _ (es ++ seenAt l (I.tmod ((l0.length : Int) + 1))) l) := h6
            clear h6 h c0 c1 f0 f1 hy5 ay5 b5 kX
            go_wp2_with fail
            refine (tell_none _ _).mono ?_
            rintro e w7 ⟨rfl, b7⟩
            have h7 := HF.out.step b7
            have HG : Hid (Bb w w7 o v4 (es ++ seenAt l (I.tmod ((l0.length : Int) + 1))) b g l t _ _ (es ++ seenAt l (I.tmod ((l0.length : Int) + 1))) l) := h7
            clear h7 b7 HF kZ k0 k1 j0 j1
            go_wp2_with fail
            go_roundw
            case rel => exact ⟨k + 1, _, _, _, _, _, by omega, by go_num, HG.out, EL.out, ee6⟩
            case measure => simp [intOf]; omega
          · refine (h.bo.get (by omega) (I)).mono ?_
            rintro e w4 ⟨rfl, v4, bo4, m4, bt4⟩
            replace h := h.turn bo4 m4 bt4
            have es4 := seenAt_le l (I)
            clear bo4 m4 bt4 d0 d1 d2
            obtain ⟨N, hN⟩ : ∃ N, word l (I) = N := ⟨_, rfl⟩
            rw [hN]
            have kX : (w4.alloc (.cells #[.int .i64 N] 35)).cell? ⟨w4.heap.size, 0, none⟩ = some (.int .i64 N) := by go_simp
            have tne : t < w4.heap.size := cell_lt h.c0
            have tne2 : w4.heap.size ≠ t := by omega
            replace h := h.step ((But.refl Nowhere _).alloc (.cells #[.int .i64 N] 35))
            obtain ⟨xa, xc, rfl⟩ := (View.of_owns h.nums).slice
            obtain ⟨ya, yc, rfl⟩ := h.evs.slice
            have c0 := h.c0
            have c1 := h.c1
            have f0 := h.f0
            have f1 := h.f1
            go_wp2_with fail
            refine (refGet_any h.nums h.evs (by omega) (by omega) (I)).mono ?_
            rw [hN]
            rintro e w5 ⟨y', rfl, hy5, ay5, b5⟩
            obtain ⟨ya', yc', e'⟩ := hy5.slice
            obtain ⟨m0, hm0⟩ : ∃ m0, (es ++ seenAt l (I)).length = m0 := ⟨_, rfl⟩
            have ee6 : (es ++ seenAt l (I)).length ≤ k + 1 := by simp; omega
            rw [hm0] at e'
            subst e'
            clear hm0 hN
            have k0 := b5.keeps (p := ⟨t, 0, none⟩) (not_nowhere _) c0
            have k1 := b5.keeps (p := ⟨t, 1, none⟩) (not_nowhere _) c1
            have j0 := b5.thaws (p := ⟨t, 0, none⟩) (not_nowhere _) c0 f0
            have j1 := b5.thaws (p := ⟨t, 1, none⟩) (not_nowhere _) c1 f1
            have tl : t < w5.heap.size := by have := b5.size; simp at this; omega
            have tl2 : w5.heap.size ≠ t := by omega
            have tl3 : ¬ t = w5.heap.size := by omega
            have tl4 : ¬ t = w4.heap.size := by omega
            have tl5 : ¬ w4.heap.size = w5.heap.size := by have := b5.size; simp at this; omega
            replace kX := b5.keeps (p := ⟨w4.heap.size, 0, none⟩) (not_nowhere _) kX
            have h6 := (h.write b5 (b5.owns h.nums (fun _ _ f => f)) hy5 (.inl rfl) ay5).step ((But.refl Nowhere _).alloc (.cells #[.slice xa l.length xc, .slice ya' m0 yc'] 28))
            have kZ := ((But.setCell (S := fun q => q = t) (But.setCell (S := fun q => q = t) (But.refl _ w5) (p := ⟨t, 0, none⟩) (fun _ => rfl) (.slice xa l.length xc)) (p := ⟨t, 1, none⟩) (fun _ => rfl) (.slice ya' m0 yc')).alloc (.cells #[.slice xa l.length xc, .slice ya' m0 yc'] 28)).keeps tne2 kX
            have HF : Hid (Bb w _ o v4 (es ++ seenAt l (I)) b g l t _ _ (es ++ seenAt l (I)) l) := h6
            clear h6 h c0 c1 f0 f1 hy5 ay5 b5 kX
            go_wp2_with fail
            refine (tell_none _ _).mono ?_
            rintro e w7 ⟨rfl, b7⟩
            have h7 := HF.out.step b7
            have HG : Hid (Bb w w7 o v4 (es ++ seenAt l (I)) b g l t _ _ (es ++ seenAt l (I)) l) := h7
            clear h7 b7 HF kZ k0 k1 j0 j1
            go_wp2_with fail
            go_roundw
            case rel => exact ⟨k + 1, _, _, _, _, _, by omega, by go_num, HG.out, EL.out, ee6⟩
            case measure => simp [intOf]; omega
        · go_wp2_with fail
          · refine (of_any _ _).mono ?_
            rintro e w3 ⟨rfl, b3⟩
            replace h := h.step b3
            replace d2 := b3.keeps (not_nowhere _) d2
            clear b3 d0 d1
            go_wp2_with fail
            refine (h.bo.setAt (by omega) (I.tmod ((l0.length : Int) + 1)) n).mono ?_
            rintro e w4 ⟨rfl, v4, bo4, m4, bt4⟩
            have nsb : ¬ FootB o v b g sb := fun f => by have := h.bo.new f; omega
            replace d2 := bt4.keeps nsb d2
            replace h := h.turn bo4 m4 bt4
            have es4 := seenAt_le l (I.tmod ((l0.length : Int) + 1))
            have EL4 : Hid ((lay l (I.tmod ((l0.length : Int) + 1)) n).length = l.length) := lay_length _ _ _
            clear bo4 m4 bt4
            obtain ⟨xa, xc, rfl⟩ := (View.of_owns h.nums).slice
            obtain ⟨ya, yc, rfl⟩ := h.evs.slice
            have c0 := h.c0
            have c1 := h.c1
            have f0 := h.f0
            have f1 := h.f1
            have hd := h.drew
            go_wp2_with fail
            go_region_with ((go_at_call 12; refine (refSet_any hd.nums hd.evs (by omega) (by omega) (I.tmod ((l0.length : Int) + 1)) n).mono ?_; rintro e w5 ⟨x', y', rfl, hx5, hy5, ax5, ay5, b5⟩; obtain ⟨xa', xc', rfl⟩ := (View.of_owns hx5).slice; obtain ⟨ya', yc', e'⟩ := hy5.slice; obtain ⟨m0, hm0⟩ : ∃ m0, (es ++ seenAt l (I.tmod ((l0.length : Int) + 1))).length = m0 := ⟨_, rfl⟩; rw [hm0] at e'; subst e'; clear hm0; have k0 := b5.keeps (p := ⟨t, 0, none⟩) (not_nowhere _) c0; have k1 := b5.keeps (p := ⟨t, 1, none⟩) (not_nowhere _) c1; have j0 := b5.thaws (p := ⟨t, 0, none⟩) (not_nowhere _) c0 f0; have j1 := b5.thaws (p := ⟨t, 1, none⟩) (not_nowhere _) c1 f1))
            all_goals
              have h6 := hd.write b5 hx5 hy5 ax5 ay5
              have ee6 : (es ++ seenAt l (I.tmod ((l0.length : Int) + 1))).length ≤ k + 1 := by simp; omega
              have HF : Hid (Bb w _ o v4 (es ++ seenAt l (I.tmod ((l0.length : Int) + 1))) b g (lay l (I.tmod ((l0.length : Int) + 1)) n) t _ _ (es ++ seenAt l (I.tmod ((l0.length : Int) + 1))) (lay l (I.tmod ((l0.length : Int) + 1)) n)) := h6
              clear h6 hx5 hy5 ax5 ay5 b5 hd h k0 k1 j0 j1 c0 c1 f0 f1 d2
              go_wp2_with fail
              go_roundw
              case rel => exact ⟨k + 1, _, _, _, _, _, by omega, by go_num, HF.out, EL4.out.trans EL.out, ee6⟩
              case measure => simp [intOf]; omega
          · refine (of_any _ _).mono ?_
            rintro e w3 ⟨rfl, b3⟩
            replace h := h.step b3
            replace d2 := b3.keeps (not_nowhere _) d2
            clear b3 d0 d1
            go_wp2_with fail
            refine (h.bo.setAt (by omega) (I) n).mono ?_
            rintro e w4 ⟨rfl, v4, bo4, m4, bt4⟩
            have nsb : ¬ FootB o v b g sb := fun f => by have := h.bo.new f; omega
            replace d2 := bt4.keeps nsb d2
            replace h := h.turn bo4 m4 bt4
            have es4 := seenAt_le l (I)
            have EL4 : Hid ((lay l (I) n).length = l.length) := lay_length _ _ _
            clear bo4 m4 bt4
            obtain ⟨xa, xc, rfl⟩ := (View.of_owns h.nums).slice
            obtain ⟨ya, yc, rfl⟩ := h.evs.slice
            have c0 := h.c0
            have c1 := h.c1
            have f0 := h.f0
            have f1 := h.f1
            have hd := h.drew
            go_wp2_with fail
            go_region_with ((go_at_call 12; refine (refSet_any hd.nums hd.evs (by omega) (by omega) (I) n).mono ?_; rintro e w5 ⟨x', y', rfl, hx5, hy5, ax5, ay5, b5⟩; obtain ⟨xa', xc', rfl⟩ := (View.of_owns hx5).slice; obtain ⟨ya', yc', e'⟩ := hy5.slice; obtain ⟨m0, hm0⟩ : ∃ m0, (es ++ seenAt l (I)).length = m0 := ⟨_, rfl⟩; rw [hm0] at e'; subst e'; clear hm0; have k0 := b5.keeps (p := ⟨t, 0, none⟩) (not_nowhere _) c0; have k1 := b5.keeps (p := ⟨t, 1, none⟩) (not_nowhere _) c1; have j0 := b5.thaws (p := ⟨t, 0, none⟩) (not_nowhere _) c0 f0; have j1 := b5.thaws (p := ⟨t, 1, none⟩) (not_nowhere _) c1 f1))
            all_goals
              have h6 := hd.write b5 hx5 hy5 ax5 ay5
              have ee6 : (es ++ seenAt l (I)).length ≤ k + 1 := by simp; omega
              have HF : Hid (Bb w _ o v4 (es ++ seenAt l (I)) b g (lay l (I) n) t _ _ (es ++ seenAt l (I)) (lay l (I) n)) := h6
              clear h6 hx5 hy5 ax5 ay5 b5 hd h k0 k1 j0 j1 c0 c1 f0 f1 d2
              go_wp2_with fail
              go_roundw
              case rel => exact ⟨k + 1, _, _, _, _, _, by omega, by go_num, HF.out, EL4.out.trans EL.out, ee6⟩
              case measure => simp [intOf]; omega
      · have i1 : ¬ (k : Int) < (l1.length : Int) := by omega
        have hbig : es.length + l.length ≤ 1000000 := by omega
        have sb := sameB_refl es
        go_wp2_with fail
        refine (words_some h.bo.bf).mono ?_
        rintro e w6 ⟨k6, rfl, -, -, b6⟩
        replace h := h.step b6
        clear b6
        obtain ⟨xa, xc, rfl⟩ := (View.of_owns h.nums).slice
        obtain ⟨ya, yc, rfl⟩ := h.evs.slice
        have hd := h.drew
        have hq : ((l.length : Int) != (l.length : Int)) = false := by simp
        have tr := trace_some hd.bo.bf
        rw [ptr_some] at tr
        go_wp2_with fail
        go_region_held3 (fun u => u.cell? ⟨t, 0, none⟩ = some (.slice xa l.length xc) ∧ u.cell? ⟨t, 1, none⟩ = some (.slice ya es.length yc))
          (first | exact ⟨hd.c0, hd.c1⟩ | assumption | exact ⟨b7.keeps (not_nowhere _) hd.c0, b7.keeps (not_nowhere _) hd.c1⟩ | exact ⟨b8.keeps (not_nowhere _) (b7.keeps (not_nowhere _) hd.c0), b8.keeps (not_nowhere _) (b7.keeps (not_nowhere _) hd.c1)⟩)
          (first | (go_at_call 17; refine (len_some hd.bo.bf).mono ?_; rintro e w' ⟨rfl, rfl⟩) | (go_at_call 19; refine tr.mono ?_; rintro e w' ⟨rfl, rfl⟩) | (go_at_call 20; refine (events_some _ _ _ _ hd.bo.rc (by omega)).mono ?_; rintro e w7 ⟨u, rfl, hu, -, b7⟩) | (go_at_call 18; refine (refSame_any _ _ _ _ _ hu (b7.owns hd.evs (fun _ _ f => f)) (by omega)).mono ?_; rw [sb]; rintro e w8 ⟨rfl, b8⟩))
        rename_i hh
        replace h := (hd.step b7).step b8
        clear hh hd hu b7 b8 tr hq
        have c0 := h.c0
        have c1 := h.c1
        have f0 := h.f0
        have f1 := h.f1
        go_wp2_with fail
        refine (refOpen_any h.nums h.evs hbig).mono ?_
        rintro e w9 ⟨y', rfl, hy9, ay9, b9⟩
        obtain ⟨ya', yc', e'⟩ := hy9.slice
        obtain ⟨m0, hm0⟩ : ∃ m0, (es ++ List.replicate l.length ((3 : Int), (0 : Int))).length = m0 := ⟨_, rfl⟩
        rw [hm0] at e'
        subst e'
        replace f0 := b9.thaws (not_nowhere _) c0 f0
        replace f1 := b9.thaws (not_nowhere _) c1 f1
        replace c0 := b9.keeps (not_nowhere _) c0
        replace c1 := b9.keeps (not_nowhere _) c1
        replace h := h.write b9 (b9.owns h.nums (fun _ _ f => f)) hy9 (.inl rfl) ay9
        have hbig2 : (es ++ List.replicate l.length ((3 : Int), (0 : Int))).length ≤ 1000000 := by simp; omega
        have sb2 := sameB_refl (es ++ List.replicate l.length ((3 : Int), (0 : Int)))
        clear hy9 ay9 b9 hm0 sb
        obtain ⟨fs, hfs⟩ : ∃ fs, es ++ List.replicate l.length ((3 : Int), (0 : Int)) = fs := ⟨_, rfl⟩
        rw [hfs] at h hbig2 sb2
        have HF : Hid (es ++ List.replicate l.length ((3 : Int), (0 : Int)) = fs) := hfs
        clear hfs
        have H1 : Hid (Bb w ((w9.setCell ⟨t, 0, none⟩ (.slice xa l.length xc)).setCell ⟨t, 1, none⟩ (.slice ya' m0 yc')) o v es b g l t (.slice xa l.length xc) (.slice ya' m0 yc') fs l) := h
        clear h
        go_wp2_with fail
        replace h := H1.out
        clear H1 c0 c1 f0 f1
        generalize (w9.setCell ⟨t, 0, none⟩ (.slice xa l.length xc)).setCell ⟨t, 1, none⟩ (.slice ya' m0 yc') = W9 at *
        have hd := h.drew
        go_region_held3 (fun u => u.cell? ⟨t, 0, none⟩ = some (.slice xa l.length xc) ∧ u.cell? ⟨t, 1, none⟩ = some (.slice ya' m0 yc'))
          (first | exact ⟨hd.c0, hd.c1⟩ | assumption | exact ⟨h10.c0, h10.c1⟩ | exact ⟨h11.c0, h11.c1⟩ | exact ⟨h12.c0, h12.c1⟩ | exact ⟨h13.c0, h13.c1⟩)
          (first | (go_at_call 23; refine (hd.bo.openB hbig).mono ?_; rintro e w10 ⟨k10, v10, rfl, r10, n10, bo10, m10, bt10⟩; rw [HF.out] at bo10; have h10 := hd.turn bo10 m10 bt10; clear bo10 m10 bt10) | (go_at_call 22; refine (refSameI_yes (r10.view l.length) (View.of_owns h10.nums) (by omega)).mono ?_; rintro e w11 ⟨rfl, b11⟩; have h11 := h10.step b11; clear b11) | (go_at_call 19; have tr := trace_some h11.bo.bf; rw [ptr_some] at tr; refine tr.mono ?_; rintro e w' ⟨rfl, rfl⟩) | (go_at_call 20; refine (events_some _ _ _ _ h11.bo.rc hbig2).mono ?_; rintro e w12 ⟨u, rfl, hu, -, b12⟩; have h12 := h11.step b12; clear b12) | (go_at_call 18; refine (refSame_any _ _ _ _ _ hu h12.evs hbig2).mono ?_; rw [sb2]; rintro e w13 ⟨rfl, b13⟩; have h13 := h12.step b13; clear b13))
        all_goals
          go_wp2_with fail
          go_ret
          exact ⟨rfl, h13.bo.but⟩
  · go_enter Try.func3, Try.ntmps3
    rcases (show decide (40 < (l0.length : Int)) = true ∨ (decide (40 < (l0.length : Int)) = false ∧ decide (60 < (l1.length : Int)) = true) by
      rcases Nat.lt_or_ge 40 l0.length with h | h
      · exact .inl (by simp; omega)
      · exact .inr ⟨by simp; omega, by simp; omega⟩) with h1 | ⟨h1, h2⟩
    all_goals
      clear hl
      go_wp2_with (go_at_call 8; refine (known_any _).mono ?_; rintro e w' ⟨rfl, hb⟩)
      go_ret
      exact ⟨rfl, hb⟩

set_option maxRecDepth 100000 in
theorem lifted (os : Os) (started : os.Started) (H : Type) (enc : TypeId × Value → H) :
    ReturnsInHanded {} Try.checked os 3 .any (Rows.bufDoesSpec.pre6 enc Try.prog Try.f3 Rows.bufDoesRow.domain false) (Rows.bufDoesSpec.post enc Try.prog Try.f3 false true false false) := by
  refine returnsInHanded_of_change_sized (C := Try.checked) own started (by kernel_rfl) Try.func3
    (ChangeSpec.witness6 (enc := enc) (C := Try.checked) false ⟨#[], #[.slice none 0 0, .slice none 0 0], []⟩ 8 (by kernel_rfl) (by kernel_rfl) (by kernel_rfl) (by kernel_rfl)) ?_
  intro W base args ds gs before hval0 hW hcnd hsz0 _
  have hval : ∀ (j : Nat) t v, Try.f3.params[j]? = some t → args[j]? = some v → Value.okWide Try.prog W .any base t v := hval0
  have hsz : (DataW.weightsEach Try.prog (Try.f3.params.toList ++ Rows.bufDoesSpec.plain.varTypes Try.prog) (ds ++ gs)).all (· ≤ reachBytes) = true := hsz0
  have hW' := hW
  obtain ⟨p, q, hA0, hV, rfl, hfz, hnd⟩ := hW
  have hA : DataW.TrodAll enc Try.prog W 0 (fun _ => true) true Try.f3.params.toList args.toList ds p := hA0
  rw [Try.params3] at hA hval hsz
  obtain ⟨v0, vs0, d0, ds0, p0, q0, hargs, rfl, rfl, h0, r0⟩ := trodAll_cons hA
  obtain ⟨v1, vs1, d1, ds1, p1, q1, rfl, rfl, rfl, h1, r1⟩ := trodAll_cons r0
  obtain ⟨rfl, rfl, rfl⟩ := trodAll_nil r1
  obtain rfl : args = #[v0, v1] := by cases args; simp_all
  obtain ⟨rfl, rfl⟩ := trodVars_none hV
  obtain ⟨l0, ⟨s0, x0⟩, e0⟩ := open_ints (hval 0 22 v0 rfl rfl) h0
  have n0 := ints_small hsz (j := 0) rfl rfl e0
  obtain ⟨l1, ⟨s1, x1⟩, e1⟩ := open_deeds (hval 1 23 v1 rfl rfl) h1
  have n1 := deeds_small hsz (j := 1) rfl rfl e1
  clear hA0 hval0
  refine (walk W v0 l0 s0 x0 n0 v1 l1 s1 x1 n1).mono fun e W' ⟨he, hg⟩ => ?_
  subst he
  exact ⟨_, rfl, law_post laidOut readable rfl Try.underlying4 rfl rfl hW' hg.below⟩

theorem over : Rows.bufDoesRow.holds Try.pinned (OpenSpec.ofChange Rows.bufDoesSpec) :=
  OpenClaim.holds_of_wide 3 Try.f3 rfl rfl rfl rfl rfl rfl rfl ⟨rfl, rfl, rfl, rfl, rfl⟩ rfl rfl rfl rfl rfl (by kernel_rfl) Try.func3 (by kernel_rfl)
    (of_decide_eq_true (by kernel_rfl)) (by unfold Func.isWrapper; first | (rw [if_pos (by decide +kernel)]; kernel_rfl) | (rw [if_neg (by decide +kernel)]; exact ⟨rfl, rfl⟩))
    (fun os started H enc _ => lifted os started H enc)

theorem proved : Rows.BufDoesSaid :=
  over
end Go.Proofs.Ytgmpadbeoenfaaa.bufDoes
namespace Go.Proofs.Ytgmpadbeoenfaaa
theorem bufDoes_holds : Rows.BufDoesSaid := bufDoes.proved
#print axioms bufDoes_holds
end Go.Proofs.Ytgmpadbeoenfaaa
