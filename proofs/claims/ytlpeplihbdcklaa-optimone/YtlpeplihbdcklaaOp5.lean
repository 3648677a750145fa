/- The document's way of making codes shorter. -/
import Derived.Test.YtlpeplihbdcklaaOp4
namespace Go.Proofs.Ytlpeplihbdcklaa
set_option linter.unusedVariables false
open Go.ChangeShapes Go.WideShapes Go.ChangeAt Go.RowKit

set_option maxHeartbeats 400000 in
/-- Many elements more, out of another list. -/
theorem Lst.moreC {P : Program} {w w1 : World} {st t : TypeId} {z : Value} {size bytes : Nat} (E : ElemInfo P st t z size bytes) {s : Value} {n : Nat} {xs : List Value} (h : Lst w w1 t size s n xs) (ad : Addr) (m c : Nat) (news : List Value) (hl : news.length = m * size) (hnews : ∀ j u, news[j]? = some u → w1.cell? (ad.add j) = some u) (h1 : ∀ u ∈ news, u.oneCell' = true) (hm : 0 < m) (hn : n + m ≤ 100000000) (hb : bytes ≤ 10000) :
    ∃ g cap w2, (Builtin.append_ #[st, st] st #[s, .slice (some ad) m c]).run P w1 = .ok (.slice (some ⟨g, 0, none⟩) (n + m) cap) w2 ∧ Lst w w2 t size (.slice (some ⟨g, 0, none⟩) (n + m) cap) (n + m) (xs ++ news) := by
  obtain ⟨i0, hi0, hz0, hz1, hz2⟩ := info_parts E.info
  have hbytes : (n + m) * bytes ≤ 140737488355328 := Nat.le_trans (Nat.mul_le_mul (show n + m ≤ 100000000 by omega) hb) (by decide)
  obtain ⟨g, cap, w', hr, k2, k3, k4, k5⟩ := run_append_lies (P := P) w1 st st 0 t i0 z size bytes E.under hi0 hz0 hz1 hz2 E.cells E.pos s n xs h.own ad m c news hl hnews h1 hm (by unfold maxLen; omega) hbytes (by omega) _ rfl
  have hbut : But (fun k => s.ownBlock = some k) w1 w' := (But.refl _ _).grown k3 (fun k hk _ => hk)
  refine ⟨g, cap, w', hr, ⟨k2, fun x hx => ?_, h.but.step hbut (fun k hk f => by have := h.new k f; omega)⟩⟩
  simp [Value.ownBlock] at hx
  subst hx
  rcases k4 with e | e
  · exact h.new _ e
  · rw [e]; exact h.but.size

theorem app_at (k : IntKind) (n : Nat) (f : Nat → Int) (R : List Value) (j : Nat) (hj : j < n) : (tab k n f ++ R)[j]? = some (.int k (f j)) := by
  rw [List.getElem?_append_left (by rw [tab_length]; exact hj), tab_at _ _ _ _ hj]

theorem Cells.cellA {W : World} {g : Nat} {t : TypeId} {k : IntKind} {n : Nat} {f : Nat → Int} {R : List Value} (h : Cells W g t (tab k n f ++ R)) (j : Nat) (hj : j < n) : W.cell? ⟨g, j, none⟩ = some (.int k (f j)) := (h.at j).trans (app_at _ _ _ _ _ hj)

theorem Keep.setA {w W : World} {l : List Bk} {b : Nat} {t : TypeId} {k : IntKind} {n : Nat} {f : Nat → Int} {R : List Value} (h : Keep w W ((b, t, tab k n f ++ R) :: l)) (j : Nat) (hj : j < n) (x : Int) : Keep w (W.setCell ⟨b, j, none⟩ (.int k x)) ((b, t, tab k n (upd f j x) ++ R) :: l) := by
  have := h.set j (.int k x)
  rw [List.set_append_left _ _ (by rw [tab_length]; exact hj), tab_set] at this
  exact this

/-- A list by append is a block that begins with its elements. -/
theorem Lst.keep {w w2 : World} {t : TypeId} {k : IntKind} {g n cap : Nat} {f : Nat → Int} (h : Lst w w2 t 1 (.slice (some ⟨g, 0, none⟩) n cap) n (tab k n f)) : ∃ R, Keep w w2 [(g, t, tab k n f ++ R)] := by
  rcases h.own.2 with ⟨e, -⟩ | ⟨g', cap', cur, e, _, hg, hl, hm, hs, ht⟩
  · cases e
  · cases e
    rw [Nat.mul_one] at ht
    refine ⟨cur.toList.drop n, h.but, fun x hx => ?_, fun x hx => ?_, by simp⟩
    · simp at hx; subst hx; exact h.new g rfl
    · simp at hx; subst hx
      show w2.heap[g]? = some (.cells (tab k n f ++ cur.toList.drop n).toArray t (0, 0))
      rw [← ht, List.take_append_drop]
      exact hg

/-- Counts that fill just what there is, or nothing at all. -/
def Gd (f : Nat → Int) (i : Nat) : Prop := (∃ T, T ≤ 257 ∧ Full f i T) ∨ ∀ s, f s = 0

theorem Gd.bd {f : Nat → Int} {i : Nat} (h : Gd f i) (s : Nat) (hs : s < 260) : 0 ≤ f s ∧ f s ≤ 257 := by
  rcases h with ⟨T, hT, hf⟩ | h
  · have h1 := hf.pos s hs
    have h2 : f s ≤ T := by rw [← hf.total]; exact sm_term hf.pos hs
    omega
  · rw [h s]; omega

theorem cutAt_zero {l : Nat → Int} {i : Nat} (h : ¬ 0 < l i) : ∀ k, cutAt i k l = l
  | 0 => rfl
  | k + 1 => if_neg h

theorem cutAt_pos {l : Nat → Int} {i : Nat} (h : 0 < l i) (k : Nat) : cutAt i (k + 1) l = cutAt i k (cut1 l i) := if_pos h

theorem Gd.less {f : Nat → Int} {i : Nat} (h : Gd f (i + 1)) (h0 : ¬ 0 < f (i + 1)) (hi : i + 1 < 260) : Gd f i := by
  rcases h with ⟨T, hT, hf⟩ | h
  · exact .inl ⟨T, hT, hf.pos, hf.zero, fun s h1 h2 => by
      by_cases e : s = i + 1
      · subst e
        have := hf.pos (i + 1) h2
        omega
      · exact hf.top s (by omega) h2, hf.kraft, hf.total⟩
  · exact .inr h

theorem Gd.cut {f : Nat → Int} {i : Nat} (h : Gd f i) (h1 : 17 ≤ i) (h2 : i < 260) (h3 : 0 < f i) : Gd (cut1 f i) i ∧ cut1 f i i = f i - 2 ∧ (∃ j, 1 ≤ j ∧ j ≤ i - 2 ∧ f j ≠ 0) := by
  rcases h with ⟨T, hT, hf⟩ | h
  · obtain ⟨a, b⟩ := hf.cut h1 h2 hT h3
    exact ⟨.inl ⟨T, hT, a⟩, b, hf.shorter h1 h2 hT⟩
  · rw [h i] at h3; omega

/-- Four stores, one behind the other. -/
theorem four_cut (f : Nat → Int) (i j : Nat) (hi : 2 ≤ i) (hj : anyTo f (i - 2) = j) (hji : j ≤ i - 2) :
    upd (upd (upd (upd f i (f i - 2)) (i - 1) (f (i - 1) + 1)) (j + 1) ((if j + 1 = i - 1 then f (i - 1) + 1 else f (j + 1)) + 2)) j (f j - 1) = cut1 f i := by
  funext s
  unfold cut1 upd
  rw [hj]
  by_cases e1 : s = j
  · subst e1; rw [if_pos rfl, if_neg (show ¬ s = i by omega), if_neg (show ¬ s = i - 1 by omega), if_neg (show ¬ s = s + 1 by omega), if_pos rfl]; omega
  · rw [if_neg e1, if_neg e1]
    by_cases e2 : s = j + 1
    · subst e2
      rw [if_pos rfl, if_neg (show ¬ j + 1 = i by omega), if_pos rfl]
      by_cases e3 : j + 1 = i - 1
      · rw [if_pos e3, if_pos e3, ← e3]; omega
      · rw [if_neg e3, if_neg e3]; omega
    · rw [if_neg e2, if_neg e2]
      by_cases e3 : s = i - 1
      · subst e3; rw [if_pos rfl, if_neg (show ¬ i - 1 = i by omega), if_pos rfl]; omega
      · rw [if_neg e3, if_neg e3]
        by_cases e4 : s = i
        · subst e4; rw [if_pos rfl, if_pos rfl]; omega
        · rw [if_neg e4, if_neg e4]; omega

theorem cutAll_step (f : Nat → Int) (i : Nat) (h : 17 ≤ i) : cutAll (i - 16) f = cutAll (i - 1 - 16) (cutAt i 300 f) := by
  obtain ⟨m, rfl⟩ : ∃ m, i = 17 + m := ⟨i - 17, by omega⟩
  rw [show 17 + m - 16 = m + 1 by omega, show 17 + m - 1 - 16 = m by omega]
  rfl

theorem anyTo_zero (l : Nat → Int) (q : Nat) (hq : 1 ≤ q) (h : l q = 0) : anyTo l q = anyTo l (q - 1) := by
  obtain ⟨k, rfl⟩ : ∃ k, q = k + 1 := ⟨q - 1, by omega⟩
  exact if_pos h
theorem anyTo_not (l : Nat → Int) (q : Nat) (hq : 1 ≤ q) (h : l q ≠ 0) : anyTo l q = q := by
  obtain ⟨k, rfl⟩ : ∃ k, q = k + 1 := ⟨q - 1, by omega⟩
  exact if_neg h

set_option maxHeartbeats 3200000 in
set_option maxRecDepth 100000 in
theorem refShorter_any (f : Nat → Int) (g0 : Nat) (hG : Gd f 259) (w : World) (hc : Cells w g0 3 (tab .i64 260 f)) : Calls Try.prog 35 #[.slice (some ⟨g0, 0, none⟩) 260 260] w fun e w' => ∃ g cap R, e = .returned (.slice (some ⟨g, 0, none⟩) 260 cap) ∧ Keep w w' [(g, 3, tab .i64 260 (cutAll 243 f) ++ R)] := by
  obtain ⟨g, cap, w2, hr, hL⟩ := Lst.moreC Try.elemI (Lst.start w 3 1) ⟨g0, 0, none⟩ 260 260 (tab .i64 260 f) (by rw [tab_length]) (fun j u hj => by
    rw [Addr.add_lit, Nat.zero_add, hc.at]; exact hj) (tab_one _ _ _) (by omega) (by omega) (by omega)
  simp only [Nat.zero_add, List.nil_append] at hr hL
  obtain ⟨R, kk⟩ := hL.keep
  have HG : Hid (Gd f 259) := hG
  clear hL hc hG
  go_enter Try.func35, Try.ntmps35
  go_wp2_with (at_builtin; refine wpList_append_run rfl (.tmp 6) (.tmp 7) 22 rfl _ _ rfl rfl _ w2 hr ?_)
  clear hr
  go_loopw [4, 5] (fun v _ V => ∃ (i : Nat) (h : Nat → Int), 16 ≤ i ∧ i ≤ 259 ∧ v = .int .i64 (i : Int) ∧ Gd h i ∧ cutAll (i - 16) h = cutAll 243 f ∧ Keep w V [(g, 3, tab .i64 260 h ++ R)]) (fun v _ _ => (intOf v).toNat)
  case atStart => exact ⟨259, f, by omega, by omega, rfl, HG.out, rfl, kk⟩
  case round =>
    clear kk
    obtain ⟨i, h, hi1, hi2, rfl, hg, hcut, kk⟩ := hrel
    have i0 : (0 : Int) ≤ (i : Int) := by omega
    have i1 : (i : Int) < 260 := by omega
    by_cases hlt : 17 ≤ i
    · have i3 : (16 : Int) < (i : Int) := by omega
      rw [cutAll_step h i hlt] at hcut
      go_wp2_with fail
      go_loopw [5] (fun _ V => ∃ (k : Nat) (h : Nat → Int), h i ≤ 2 * k ∧ Gd h i ∧ cutAll (i - 1 - 16) (cutAt i k h) = cutAll 243 f ∧ Keep w V [(g, 3, tab .i64 260 h ++ R)]) (fun _ V => (intOf ((V.cell? ⟨g, i, none⟩).getD (.int .i64 0))).toNat)
      case atStart => exact ⟨300, h, by have := hg.bd i (by omega); omega, hg, hcut, kk⟩
      case round =>
        clear kk hg hcut h
        obtain ⟨k, h, hk, hg, hcut, kk⟩ := hrel
        have c0 := kk.head.cellA i (by omega)
        have hM := c0
        by_cases hpos : 0 < h i
        · obtain ⟨k', rfl⟩ : ∃ k', k = k' + 1 := ⟨k - 1, by omega⟩
          rw [cutAt_pos hpos] at hcut
          obtain ⟨hg', he', j0, j1, j2, j3⟩ := hg.cut hlt (by omega) hpos
          obtain ⟨b1, b2⟩ := anyTo_at h (i - 2) j0 j1 j2 j3
          have HC : Hid (cutAll (i - 1 - 16) (cutAt i k' (cut1 h i)) = cutAll 243 f) := hcut
          have HG2 : Hid (Gd (cut1 h i) i) := hg'
          have HE : Hid (cut1 h i i = h i - 2) := he'
          have HA : Hid (1 ≤ anyTo h (i - 2)) := by show 1 ≤ _; omega
          have HBD : Hid (∀ s, s < 260 → 0 ≤ h s ∧ h s ≤ 257) := hg.bd
          have HM : Hid _ := hM
          have r1 : ((i - 2 : Nat) : Int) = (i : Int) - 2 := by omega
          clear hcut hg' he' j1 j2 j3 b1 b2 hg hM
          go_wp2_with fail
          go_loopw [5] (fun v V => ∃ q : Nat, 1 ≤ q ∧ q ≤ i - 2 ∧ v = .int .i64 q ∧ anyTo h (i - 2) = anyTo h q ∧ Keep w V [(g, 3, tab .i64 260 h ++ R)]) (fun v _ => (intOf v).toNat)
          case atStart => exact ⟨i - 2, by omega, by omega, by rw [r1], rfl, kk⟩
          case round =>
            clear kk c0
            obtain ⟨q, q1, q2, rfl, hany, kk⟩ := hrel
            have z0 : (0 : Int) ≤ (q : Int) := by omega
            have z1 : (q : Int) < 260 := by omega
            have c0 := kk.head.cellA q (by omega)
            by_cases hq : h q = 0
            · have HQ : Hid (1 ≤ q - 1 ∧ anyTo h (i - 2) = anyTo h (q - 1)) := by
                have h1 := anyTo_zero h q q1 hq
                have h2 := anyTo_le h (q - 1)
                have h3 := HA.out
                exact ⟨by omega, by omega⟩
              rw [hq] at c0
              have HK : Hid _ := kk
              clear kk hany hq
              go_wp2_with fail
              go_roundw
              case rel => exact ⟨q - 1, HQ.out.1, by omega, by rw [show ((q - 1 : Nat) : Int) = (q : Int) - 1 by omega], HQ.out.2, HK.out⟩
              case measure => simp [intOf]; omega
            · have HJ : Hid (anyTo h (i - 2) = q) := by show _ = _; rw [hany, anyTo_not h q q1 hq]
              have d1 : (h q == 0) = false := by simpa using hq
              have HQ : Hid (h q ≠ 0) := hq
              clear hany hq
              have x0 := kk.head.cellA i (by omega)
              have f0 := kk.head.frozen i
              replace kk := kk.setA i (by omega) (h i - 2)
              have HX : Hid _ := kk
              have HBi := HBD.out i (by omega)
              have HBq := HBD.out q (by omega)
              clear kk
              go_upto_region 11 with fail
              obtain ⟨P, hP⟩ : ∃ P, i - 1 = P := ⟨_, rfl⟩
              have rp : (i : Int) - 1 = (P : Int) := by omega
              have p0 : (0 : Int) ≤ (P : Int) := by omega
              have p1 : (P : Int) < 260 := by omega
              have HP : Hid (i - 1 = P) := hP
              have eP : upd h i (h i - 2) P = h P := if_neg (by omega)
              have HBP := HBD.out P (by omega)
              have kk := HX.out
              clear HX f0 x0
              revert kk
              generalize wr.setCell ⟨g, i, none⟩ (.int .i64 (h i - 2)) = W1
              intro kk
              have x0 := kk.head.cellA P (by omega)
              rw [eP] at x0
              have f0 := kk.head.frozen P
              replace kk := kk.setA P (by omega) (h P + 1)
              have HX : Hid _ := kk
              clear kk eP hP
              go_upto_region 12 with fail
              have hP := HP.out
              obtain ⟨Y, hY⟩ : ∃ Y, (if q + 1 = P then h P + 1 else h (q + 1)) = Y := ⟨_, rfl⟩
              have HY : Hid ((if q + 1 = P then h P + 1 else h (q + 1)) = Y) := hY
              have HBY : 0 ≤ Y ∧ Y ≤ 258 := by
                have := HBD.out (q + 1) (by omega)
                rw [← hY]
                split <;> omega
              have eY : upd (upd h i (h i - 2)) P (h P + 1) (q + 1) = Y := by
                rw [← hY]
                unfold upd
                by_cases e : q + 1 = P
                · rw [if_pos e, if_pos e]
                · rw [if_neg e, if_neg e, if_neg (show ¬ q + 1 = i by omega)]
              have kk := HX.out
              clear HX f0 x0
              revert kk
              generalize W1.setCell ⟨g, P, none⟩ (.int .i64 (h P + 1)) = W2
              intro kk
              have x0 := kk.head.cellA (q + 1) (by omega)
              rw [eY] at x0
              have f0 := kk.head.frozen (q + 1)
              replace kk := kk.setA (q + 1) (by omega) (Y + 2)
              have HX : Hid _ := kk
              clear kk eY hY hP
              go_upto_region 13 with fail
              have hP := HP.out
              have eQ : upd (upd (upd h i (h i - 2)) P (h P + 1)) (q + 1) (Y + 2) q = h q := by
                unfold upd
                rw [if_neg (show ¬ q = q + 1 by omega), if_neg (show ¬ q = P by omega), if_neg (show ¬ q = i by omega)]
              have kk := HX.out
              clear HX f0 x0
              revert kk
              generalize W2.setCell ⟨g, q + 1, none⟩ (.int .i64 (Y + 2)) = W3
              intro kk
              have x0 := kk.head.cellA q (by omega)
              rw [eQ] at x0
              have f0 := kk.head.frozen q
              replace kk := kk.setA q (by omega) (h q - 1)
              have e4 := four_cut h i q (by omega) HJ.out q2
              rw [HP.out, HY.out] at e4
              rw [e4] at kk
              have HX : Hid _ := kk
              have HM2 := kk.head.cellA i (by omega)
              rw [HE.out] at HM2
              have HM3 : Hid _ := HM2
              clear kk eQ e4 HM2 hP
              go_wp2_with fail
              go_roundw
              case rel => exact ⟨k', cut1 h i, by rw [HE.out]; omega, HG2.out, HC.out, HX.out⟩
              case measure =>
                rw [HM.out, HM3.out]
                simp [intOf]
                omega
        · have HS : Hid (cutAll (i - 1 - 16) h = cutAll 243 f) := by show _ = _; rw [← hcut, cutAt_zero hpos]
          have HG3 : Hid (Gd h (i - 1)) := by
            obtain ⟨i', rfl⟩ : ∃ i', i = i' + 1 := ⟨i - 1, by omega⟩
            exact hg.less hpos (by omega)
          have HK : Hid _ := kk
          have r2 : ((i - 1 : Nat) : Int) = (i : Int) - 1 := by omega
          clear kk hcut hg hM
          go_wp2_with fail
          go_roundw
          case rel => exact ⟨i - 1, h, by omega, by omega, by rw [r2], HG3.out, HS.out, HK.out⟩
          case measure => simp [intOf]; omega
    · obtain rfl : i = 16 := by omega
      have HX : Hid (cutAll 0 h = cutAll 243 f) := hcut
      have HK : Hid _ := kk
      clear kk hcut hg
      go_wp2_with fail
      go_ret
      refine ⟨_, _, R, rfl, ?_⟩
      rw [← HX.out]
      exact HK.out

end Go.Proofs.Ytlpeplihbdcklaa
