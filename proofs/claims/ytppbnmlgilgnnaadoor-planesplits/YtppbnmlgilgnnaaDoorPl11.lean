/- Each SAMPLE laid at its place: split. -/
import Derived.Test.YtppbnmlgilgnnaaDoorPl10
import Derived.Test.YtppbnmlgilgnnaaDoorPl6
namespace Go.Proofs.YtppbnmlgilgnnaaDoor
open Go.ChangeShapes Go.WideShapes Go.ChangeAt Go.RowKit Go.Shelf

attribute [local go_sem] Oper.semAt_some wide_fn wide_depth Fence.inRound_fn Fence.inRound_depth

/-- The words of the parts. -/
def partsL (m : Int) (l : List Int) : List Int := if m = 1 then l else (List.range l.length).map (turnA luma1 luma2 luma3 l)

theorem partsL_length (m : Int) (l : List Int) : (partsL m l).length = l.length := by unfold partsL; split <;> simp

theorem of_in (x : Rw) (p q r : Int) : 0 ≤ x.of p q r ∧ x.of p q r ≤ 255 := by
  unfold Rw.of partF clipF
  repeat' split
  all_goals omega

theorem partsL_in (m : Int) (l : List Int) (hx : ∀ x ∈ l, 0 ≤ x ∧ x ≤ 255) : ∀ x ∈ partsL m l, 0 ≤ x ∧ x ≤ 255 := by
  unfold partsL
  split
  · exact hx
  · intro x h
    simp only [List.mem_map] at h
    obtain ⟨j, -, rfl⟩ := h
    exact of_in _ _ _ _

theorem cell_step (M mc bl k : Nat) (F : Nat → Nat → Int) (hb : bl < M) (hk : k < 64) (mc' j : Nat) (hj : j < M * 64) :
    (if mc' * M * 64 + j < (mc * M + bl) * 64 + (k + 1) then F mc' j else 0) = if mc' = mc ∧ j = bl * 64 + k then F mc' j else if mc' * M * 64 + j < (mc * M + bl) * 64 + k then F mc' j else 0 := by
  obtain ⟨A, hA⟩ : ∃ A, mc * M = A := ⟨_, rfl⟩
  obtain ⟨A', hA'⟩ : ∃ A, mc' * M = A := ⟨_, rfl⟩
  rw [hA, hA']
  rcases Nat.lt_trichotomy mc' mc with h | h | h
  · have : (mc' + 1) * M ≤ mc * M := Nat.mul_le_mul_right M h
    rw [Nat.add_mul, hA, hA'] at this
    rw [if_pos (by omega), if_neg (by omega), if_pos (by omega)]
  · subst h
    rw [hA] at hA'
    subst hA'
    by_cases e : j = bl * 64 + k
    · rw [if_pos (by omega), if_pos ⟨rfl, e⟩]
    · rw [if_neg (show ¬ (mc' = mc' ∧ j = bl * 64 + k) from fun q => e q.2)]
      by_cases e2 : j < bl * 64 + k
      · rw [if_pos (by omega), if_pos (by omega)]
      · rw [if_neg (by omega), if_neg (by omega)]
  · have : (mc + 1) * M ≤ mc' * M := Nat.mul_le_mul_right M h
    rw [Nat.add_mul, hA, hA'] at this
    rw [if_neg (by omega), if_neg (by omega), if_neg (by omega)]

/-- One SAMPLE more is laid. -/
theorem grid_step {W : World} {t : TypeId} {N M B mc bl k : Nat} {F : Nat → Nat → Int} (hmc : mc < N) (hb : bl < M) (hk : k < 64) (h : ∀ i, i < N → Cells W (B + i) t (tab .i64 (M * 64) (fun j => if i * M * 64 + j < (mc * M + bl) * 64 + k then F i j else 0))) :
    ∀ i, i < N → Cells (W.setCell ⟨B + mc, bl * 64 + k, none⟩ (.int .i64 (F mc (bl * 64 + k)))) (B + i) t (tab .i64 (M * 64) (fun j => if i * M * 64 + j < (mc * M + bl) * 64 + (k + 1) then F i j else 0)) := by
  intro i hi
  by_cases e : i = mc
  · subst e
    have h1 := (h i hi).set (bl * 64 + k) (.int .i64 (F i (bl * 64 + k)))
    rw [tab_set] at h1
    have e1 : tab .i64 (M * 64) (fun j => if i * M * 64 + j < (i * M + bl) * 64 + (k + 1) then F i j else 0) = tab .i64 (M * 64) (upd (fun j => if i * M * 64 + j < (i * M + bl) * 64 + k then F i j else 0) (bl * 64 + k) (F i (bl * 64 + k))) := by
      refine tab_congr _ _ _ _ (fun j hj => ?_)
      rw [cell_step M i bl k F hb hk i j hj]
      unfold upd
      by_cases q : j = bl * 64 + k
      · rw [if_pos ⟨rfl, q⟩, if_pos q, q]
      · rw [if_neg (fun r => q r.2), if_neg q]
    rw [e1]
    exact h1
  · have h1 := (h i hi).far (c := B + mc) (by omega) (bl * 64 + k) (.int .i64 (F mc (bl * 64 + k)))
    have e1 : tab .i64 (M * 64) (fun j => if i * M * 64 + j < (mc * M + bl) * 64 + (k + 1) then F i j else 0) = tab .i64 (M * 64) (fun j => if i * M * 64 + j < (mc * M + bl) * 64 + k then F i j else 0) := by
      refine tab_congr _ _ _ _ (fun j hj => ?_)
      rw [cell_step M mc bl k F hb hk i j hj, if_neg (fun r => e r.1)]
    rw [e1]
    exact h1

/-- The SAMPLES of an image, by MCUs. -/
def splitF (W H m : Int) (l : List Int) (i j : Nat) : Int := sampleF W H (partsL m l) (spotAt (gridW W H m) (sideW m) (sideH m) (unitL m) i (j / 64)) ((j % 64 : Nat) : Int)

theorem unit_block (m : Int) (i : Nat) (h : i < (unitL m).length) : (unitL m)[i].block = i ∧ (unitL m)[i].parts = partsN m ∧ (unitL m)[i].part < (unitL m)[i].parts := by
  revert h
  unfold unitL partsN
  by_cases h1 : m = 1
  · simp only [h1, if_true]; intro h; have : i = 0 := by simpa using h
    subst this; simp
  · by_cases h2 : m = 2
    · subst h2; simp only [if_true, show ¬ (2 : Int) = 1 by decide, if_false]; intro h
      have : i = 0 ∨ i = 1 ∨ i = 2 := by simp at h; omega
      rcases this with rfl | rfl | rfl <;> simp
    · by_cases h3 : m = 3
      · subst h3; simp only [if_true, show ¬ (3 : Int) = 1 by decide, show ¬ (3 : Int) = 2 by decide, if_false]; intro h
        have : i = 0 ∨ i = 1 ∨ i = 2 ∨ i = 3 := by simp at h; omega
        rcases this with rfl | rfl | rfl | rfl <;> simp
      · simp only [h1, h2, h3, if_false]; intro h
        have : i = 0 ∨ i = 1 ∨ i = 2 ∨ i = 3 ∨ i = 4 ∨ i = 5 := by simp at h; omega
        rcases this with rfl | rfl | rfl | rfl | rfl | rfl <;> simp

theorem spot_form {W H m : Int} (f : Fit W H m) (i b : Nat) (hi : i < (gridW W H m * gridH W H m).toNat) (hb : b < (unitL m).length) : ∃ pa x y wi hi : Int, spotAt (gridW W H m) (sideW m) (sideH m) (unitL m) i b = ⟨i, b, pa, partsN m, x, y, wi, hi⟩ ∧ (Spot.mk i b pa (partsN m) x y wi hi).ok ∧ pa < (partsN m : Int) := by
  obtain ⟨g1, g2, g3, g4, g5, g6⟩ := f.grid
  have s := side_fit f.m
  have a := ceil_in W (sideW m) f.w.1 f.w.2 s.1 s.2.1
  have c := ceil_in H (sideH m) f.h.1 f.h.2 s.2.2.1 s.2.2.2
  obtain ⟨e1, e2, e3⟩ := unit_block m b hb
  have ok := unit_ok m _ (List.getElem_mem hb)
  have e4 : (unitL m).getD b ⟨0, 0, 0, 1, 0, 0, 1, 1⟩ = (unitL m)[b] := by simp [List.getD, List.getElem?_eq_getElem hb]
  refine ⟨(unitL m)[b].part, (unitL m)[b].x + (i : Int) % gridW W H m * sideW m, (unitL m)[b].y + (i : Int) / gridW W H m * sideH m, (unitL m)[b].wide, (unitL m)[b].high, ?_, ?_, ?_⟩
  · unfold spotAt
    simp only [e4, e1, e2]
  · have q0 : 0 ≤ (i : Int) % gridW W H m := Int.emod_nonneg _ (by omega)
    have q1 : (i : Int) % gridW W H m < gridW W H m := Int.emod_lt_of_pos _ (by omega)
    have q2 : 0 ≤ (i : Int) / gridW W H m := Int.ediv_nonneg (by omega) (by omega)
    have q3 : (i : Int) / gridW W H m < gridH W H m := by
      rw [Int.ediv_lt_iff_lt_mul (by omega), Int.mul_comm]; omega
    have m0 : 0 ≤ (i : Int) % gridW W H m * sideW m := Int.mul_nonneg q0 (by omega)
    have m1 : (i : Int) % gridW W H m * sideW m ≤ (gridW W H m - 1) * sideW m := Int.mul_le_mul_of_nonneg_right (by omega) (by omega)
    have m2 : 0 ≤ (i : Int) / gridW W H m * sideH m := Int.mul_nonneg q2 (by omega)
    have m3 : (i : Int) / gridW W H m * sideH m ≤ (gridH W H m - 1) * sideH m := Int.mul_le_mul_of_nonneg_right (by omega) (by omega)
    have a' : (gridW W H m - 1) * sideW m < W := by rw [g1]; exact a.2.2.2.2
    have c' : (gridH W H m - 1) * sideH m < H := by rw [g2]; exact c.2.2.2.2
    have hW := f.w
    have hH := f.h
    have p1 : 1 ≤ (partsN m : Int) ∧ (partsN m : Int) ≤ 3 := by unfold partsN; split <;> simp
    unfold Spot.ok
    dsimp only
    omega
  · rw [← e2]; exact e3

set_option maxHeartbeats 1600000 in
theorem turnedN_parts (m : Int) (hm : 1 ≤ m ∧ m ≤ 4) (v : Value) (l : List Int) (Z : Int) (hl : (l.length : Int) = Z * partsN m) (w : World) (hv : View w .i64 v l) (hx : ∀ x ∈ l, 0 ≤ x ∧ x ≤ 255) (hs : l.length ≤ 4000000) : Calls Tryd.prog 52 #[.func (.func 60) #[] #[], .int .i64 m, v] w fun e w' =>
    (∃ v', e = .returned v' ∧ View w' .i64 v' (partsL m l)) ∧ But Nowhere w w' := by
  by_cases h1 : m = 1
  · subst h1
    obtain ⟨vo, vc, rfl⟩ := hv.slice
    go_enter Tryd.func52, Tryd.ntmps52
    go_wp2_with fail
    go_ret
    exact ⟨⟨_, rfl, by simpa [partsL] using hv⟩, But.refl _ _⟩
  · have h3 : partsN m = 3 := by unfold partsN; rw [if_neg h1]
    rw [h3] at hl
    refine (turnedNLuma_any m h1 v l l.length w hv rfl hx (l.length / 3) (by omega) hs).mono ?_
    rintro e w1 ⟨rfl, hc, hb⟩
    refine ⟨⟨_, rfl, ?_⟩, hb⟩
    have : partsL m l = (List.range l.length).map (turnA luma1 luma2 luma3 l) := by unfold partsL; rw [if_neg h1]
    rw [this]
    exact Tb.view ⟨_, rfl, hc⟩

set_option maxHeartbeats 12800000 in
set_option maxRecDepth 100000 in
theorem splitN_any (Wd Ht m q i0 c : Int) (f : Fit Wd Ht m) (v : Value) (l0 : List Int) (w : World) (hT : Tab w) (hv : View w .i64 v l0) (hlen : (l0.length : Int) = Wd * Ht * partsN m) (hx : ∀ x ∈ l0, 0 ≤ x ∧ x ≤ 255) :
    Calls Tryd.prog 30 #[.agg byPN.toArray, pV Wd Ht m q i0 c, v] w fun e w' => (∃ v' go G, e = .returned v' ∧ Blks w' v' 93 45 (gridW Wd Ht m * gridH Wd Ht m).toNat (unitL m).length go G (splitF Wd Ht m l0) ∧ w.heap.size ≤ go ∧ ∀ i, i < (gridW Wd Ht m * gridH Wd Ht m).toNat → w.heap.size ≤ G i) ∧ But Nowhere w w' := by
  have hm := f.m
  have hW := f.w
  have hH := f.h
  have hS := f.s
  have p1 : 1 ≤ (partsN m : Int) ∧ (partsN m : Int) ≤ 3 := by unfold partsN; split <;> simp
  have hls : (l0.length : Int) ≤ 1048576 * 3 := by rw [hlen]; exact Int.mul_le_mul hS p1.2 (by omega) (by omega)
  have hls2 : l0.length ≤ 4000000 := by omega
  have hPin := partsL_in m l0 hx
  have hPlen := partsL_length m l0
  have HSF := fun i b hi hb => spot_form f i b hi hb
  obtain ⟨vo, vc, rfl⟩ := hv.slice
  refine (callsIn_wide (n := 3)).1 ?_
  refine callsIn_of_wp_quiet Tryd.func30 rfl trivial ?_ rfl
  simp only [Tryd.ntmps30, List.size_toArray, List.length_cons, List.length_nil, Nat.reduceAdd, Nat.reduceSub, Array.replicate_succ, Array.replicate_zero, List.push_toArray, List.append_toArray, List.nil_append, List.cons_append]
  have kk := ((Keep.start w).made 66 byPN).made 23 (pC Wd Ht m q i0 c)
  simp only [World.size_alloc] at kk
  gi_wp2_with fail
  revert kk
  generalize (w.alloc (.cells byPN.toArray 66)).alloc (.cells #[.int .i64 Wd, .int .i64 Ht, .int .i64 m, .int .i64 q, .int .i64 i0, .int .i64 c] 23) = W0
  intro kk
  refine (callsIn_wide.2 (turnedN_parts m hm _ l0 (Wd * Ht) hlen _ (hv.but kk.but) hx hls2)).mono ?_
  rintro e w1 ⟨⟨pv, rfl, hV⟩, b1⟩
  replace kk := kk.step b1
  obtain ⟨po, pc, rfl⟩ := hV.slice
  rw [hPlen] at hV ⊢
  clear b1
  have hgp := (kk.get (b := w.heap.size + 1) (t := 23) (c := pC Wd Ht m q i0 c) (by simp))
  have hlp := hgp.lt
  have c0 := hgp.at 0
  have c1 := hgp.at 1
  have c2 := hgp.at 2
  have c3 := hgp.at 3
  have c4 := hgp.at 4
  have c5 := hgp.at 5
  simp only [List.getElem?_cons_zero, List.getElem?_cons_succ] at c0 c1 c2 c3 c4 c5
  obtain ⟨pb, hpb⟩ : ∃ b, w1.heap.size = b := ⟨_, rfl⟩
  have HV1 : Hid (View w1 .i64 (.slice po l0.length pc) (partsL m l0)) := hV
  have HPB : Hid (w1.heap.size = pb) := hpb
  replace kk := kk.made 68 [.slice po l0.length pc]
  rw [hpb] at kk hlp
  have hpb1 : w.heap.size + 1 < pb := hlp
  gi_wp2_with fail
  clear c0 c1 c2 c3 c4 c5 hgp hlp
  replace hV := hV.but ((But.refl Nowhere w1).alloc (.cells #[.slice po l0.length pc] 68))
  revert kk hV
  generalize w1.alloc (.cells #[.slice po l0.length pc] 68) = w2
  intro kk hV2
  have hw2 := kk.but.size
  have npb := kk.head.lt
  refine (callsIn_wide.2 (vacantN_any Wd Ht m q i0 c f w2)).mono ?_
  rintro e w3 ⟨lv, go, B, rfl, hBl, hgo, hgB, b3⟩
  replace kk := kk.step b3
  replace hV2 := hV2.but b3
  obtain rfl := hBl.val
  have hgp := (kk.get (b := w.heap.size + 1) (t := 23) (c := pC Wd Ht m q i0 c) (by simp))
  have hlp := hgp.lt
  have c0 := hgp.at 0
  have c1 := hgp.at 1
  have c2 := hgp.at 2
  have c3 := hgp.at 3
  have c4 := hgp.at 4
  have c5 := hgp.at 5
  simp only [List.getElem?_cons_zero, List.getElem?_cons_succ] at c0 c1 c2 c3 c4 c5
  obtain ⟨lb, hlb⟩ : ∃ b, w3.heap.size = b := ⟨_, rfl⟩
  obtain ⟨N, hN⟩ : ∃ N, (gridW Wd Ht m * gridH Wd Ht m).toNat = N := ⟨_, rfl⟩
  obtain ⟨M, hM⟩ : ∃ M, (unitL m).length = M := ⟨_, rfl⟩
  obtain ⟨g1, g2, g3, g4, g5, g6⟩ := f.grid
  have hN1 : 1 ≤ N := by
    have : 1 * 1 ≤ gridW Wd Ht m * gridH Wd Ht m := Int.mul_le_mul g3 g5 (by omega) (by omega)
    omega
  rw [hN, hM] at hBl
  have hz3 : B + N ≤ lb := by
    have := (hBl.inn (N - 1) (by omega)).lt
    omega
  rw [hN]
  have HN : Hid ((gridW Wd Ht m * gridH Wd Ht m).toNat = N) := hN
  have HM : Hid ((unitL m).length = M) := hM
  replace kk := kk.made 59 [.slice (some ⟨go, 0, none⟩) N N]
  replace hBl := hBl.step ((But.refl Nowhere w3).alloc (.cells #[.slice (some ⟨go, 0, none⟩) N N] 59))
  replace hV2 := hV2.but ((But.refl Nowhere w3).alloc (.cells #[.slice (some ⟨go, 0, none⟩) N N] 59))
  rw [hlb] at kk hlp
  gi_wp2_with fail
  clear c0 c1 c2 c3 c4 c5 hgp hlp
  revert kk hBl hV2
  generalize w3.alloc (.cells #[.slice (some ⟨go, 0, none⟩) N N] 59) = w4
  intro kk hBl hV2
  refine (callsIn_wide.2 (spots_any Wd Ht m q i0 c hm w4)).mono ?_
  rintro e w5 ⟨ab, db, fb, wb, hb', sv, rfl, b5, ⟨i1, i2, i3, i4, i5, i6⟩, n1, n2, n3, n4, n5, n6⟩
  replace kk := kk.step b5
  have z5 := b5.size
  have hBl5 := hBl.step b5
  replace hV2 := hV2.but b5
  have sd := side_fit hm
  obtain ⟨u0, u6⟩ := unit_pos m
  have hz4 : B + N ≤ w4.heap.size := by
    have := (hBl.inn (N - 1) (by omega)).lt
    omega
  have nlb := kk.new (lb, 59, [.slice (some ⟨go, 0, none⟩) N N]) (by simp)
  simp only at nlb
  have hT5 := hT.but kk.but
  have ITR := spots_iter (gridW Wd Ht m) (gridH Wd Ht m) (sideW m) (sideH m) (unitL m) sv ab db fb wb hb' ⟨g3, g4⟩ ⟨g5, g6⟩ ⟨by omega, sd.2.1⟩ ⟨by omega, sd.2.2.2⟩ ⟨u0, u6⟩ (fun s hs => by have := unit_ok m s hs; omega)
  rw [hN, hM] at ITR
  rw [hM] at u0 u6
  rw [hN, hM] at HSF
  clear hBl hN hM
  gi_wp2_with fail
  refine range_out (T := fun k => B ≤ k ∧ k < B + N) (fun i W => ∀ mc, mc < N → Cells W (B + mc) 45 (tab .i64 (M * 64) (fun j => if mc * M * 64 + j < i * 64 then splitF Wd Ht m l0 mc j else 0))) ITR rfl (enters_of Tryd.func85 (by kernel_rfl) rfl) (fun _ => rfl)
    (fun U hU => ⟨i1.but hU (by omega), i2.but hU (by omega), i3.but hU (by omega), i4.but hU (by omega), i5.but hU (by omega), i6.but hU (fun k hk => by have := n6 k hk; omega)⟩) (fun k hk => by omega) (fun i U U' hj hk mc hmc => (hk _ ⟨by omega, by omega⟩).trans (hj mc hmc)) (fun mc hmc => by simpa using hBl5.inn mc hmc) ?_ ?_
  · intro lo i W KK hlo hlt hi hbW hJ hK
    have hOff : Off (fun k => B ≤ k ∧ k < B + N) (.slice po l0.length pc) := HV1.out.off (fun b hb => by have := HPB.out; omega)
    obtain ⟨mc, hmc⟩ : ∃ mc, i / M = mc := ⟨_, rfl⟩
    obtain ⟨bl, hbl⟩ : ∃ bl, i % M = bl := ⟨_, rfl⟩
    have hmcN : mc < N := by rw [← hmc]; exact Nat.div_lt_of_lt_mul (by rw [Nat.mul_comm]; exact hi)
    have hblM : bl < M := by rw [← hbl]; exact Nat.mod_lt _ u0
    have hib : mc * M + bl = i := by rw [← hmc, ← hbl, Nat.mul_comm]; exact Nat.div_add_mod i M
    obtain ⟨pa, x, y, wi, hh, hsp, hok, hpa⟩ := HSF mc bl hmcN hblM
    have hval : ∀ k : Nat, k < 64 → splitF Wd Ht m l0 mc (bl * 64 + k) = sampleF Wd Ht (partsL m l0) ⟨mc, bl, pa, partsN m, x, y, wi, hh⟩ (k : Int) := by
      intro k hk
      unfold splitF
      rw [show (bl * 64 + k) / 64 = bl by omega, show (bl * 64 + k) % 64 = k by omega, hsp]
    have HVAL : Hid _ := hval
    have hPl : Wd * Ht * (partsN m : Int) ≤ ((partsL m l0).length : Int) := by rw [hPlen, hlen]; exact Int.le_refl _
    dsimp only
    rw [hmc, hbl, hsp]
    have gS0 := Cells.new W 103 (Spot.cells ⟨mc, bl, pa, partsN m, x, y, wi, hh⟩)
    clear hmc hbl hsp hval
    gi_wp2_with fail
    refine hK _ _ ((But.refl _ _).alloc _) ?_
    clear hJ hK hbW
    intro U hU hlU hbU hJ
    have lw := hU.size
    simp only [World.size_alloc] at lw
    have gS1 := gS0.but hU (by omega)
    obtain ⟨sb, hsb⟩ : ∃ b, W.heap.size = b := ⟨_, rfl⟩
    rw [hsb] at gS1 lw ⊢
    have hw5 : w5.heap.size < sb := by have := hbU.size; omega
    obtain ⟨P, hP⟩ : ∃ P : Nat, partsN m = P := ⟨_, rfl⟩
    rw [hP] at gS1 hok hpa hPl HVAL
    clear gS0 hU hlU hsb hP
    gi_wp2_with fail
    gi_loopw [22] (fun n wr => ∃ k : Nat, k ≤ 64 ∧ n = .int .i64 k ∧ But (fun k => B ≤ k ∧ k < B + N) U wr ∧ ∀ mc', mc' < N → Cells wr (B + mc') 45 (tab .i64 (M * 64) (fun j => if mc' * M * 64 + j < (mc * M + bl) * 64 + k then splitF Wd Ht m l0 mc' j else 0))) (fun n _ => (64 - intOf n).toNat)
    case atStart => exact ⟨0, by omega, by simp, But.refl _ _, by rw [hib]; simpa using hJ⟩
    case round =>
      clear hJ
      obtain ⟨k, hk, rfl, hbr, hJ⟩ := hrel
      by_cases hk64 : (k : Int) < 64
      · have hkN : k < 64 := by omega
        have hbT : But (fun k => B ≤ k ∧ k < B + N) w5 wr := hbU.trans hbr
        have gB := (kk.get (b := w.heap.size) (t := 66) (c := byPN) (by simp)).but hbT (by omega)
        have gP := (kk.get (b := w.heap.size + 1) (t := 23) (c := pC Wd Ht m q i0 c) (by simp)).but hbT (by omega)
        have gV := (kk.get (b := pb) (t := 68) (c := [.slice po l0.length pc]) (by simp)).but hbT (by omega)
        have gL := (kk.get (b := lb) (t := 59) (c := [.slice (some ⟨go, 0, none⟩) N N]) (by simp)).but hbT (by omega)
        have gS := gS1.but hbr (by omega)
        have gO : wr.cell? ⟨go, mc, none⟩ = some (.slice (some ⟨B + mc, 0, none⟩) M M) := by rw [(hBl5.out.but hbT (by omega)).at mc]; exact outs_at N M (fun i => B + i) mc hmcN
        have hTU := hT5.butS hbT (by have := hT.lt; omega)
        have hVU := hV2.butS hbT hOff
        have HS : ∀ V, But Nowhere wr V → ((V.cell? ⟨w.heap.size, 0, none⟩ = some (.func (.func 56) #[] #[]) ∧ V.cell? ⟨w.heap.size, 1, none⟩ = some (.func (.func 57) #[] #[]) ∧ V.cell? ⟨w.heap.size, 2, none⟩ = some (.func (.func 58) #[] #[]) ∧ V.cell? ⟨w.heap.size, 3, none⟩ = some (.func (.func 59) #[] #[]) ∧ V.cell? ⟨w.heap.size, 4, none⟩ = some (.func (.func 60) #[] #[]) ∧ V.cell? ⟨w.heap.size, 5, none⟩ = some (.func (.func 61) #[] #[])) ∧ (V.cell? ⟨w.heap.size + 1, 0, none⟩ = some (.int .i64 Wd) ∧ V.cell? ⟨w.heap.size + 1, 1, none⟩ = some (.int .i64 Ht) ∧ V.cell? ⟨w.heap.size + 1, 2, none⟩ = some (.int .i64 m) ∧ V.cell? ⟨w.heap.size + 1, 3, none⟩ = some (.int .i64 q) ∧ V.cell? ⟨w.heap.size + 1, 4, none⟩ = some (.int .i64 i0) ∧ V.cell? ⟨w.heap.size + 1, 5, none⟩ = some (.int .i64 c)) ∧ (V.cell? ⟨sb, 0, none⟩ = some (.int .i64 (mc : Int)) ∧ V.cell? ⟨sb, 1, none⟩ = some (.int .i64 (bl : Int)) ∧ V.cell? ⟨sb, 2, none⟩ = some (.int .i64 pa) ∧ V.cell? ⟨sb, 3, none⟩ = some (.int .i64 (P : Int)) ∧ V.cell? ⟨sb, 4, none⟩ = some (.int .i64 x) ∧ V.cell? ⟨sb, 5, none⟩ = some (.int .i64 y) ∧ V.cell? ⟨sb, 6, none⟩ = some (.int .i64 wi) ∧ V.cell? ⟨sb, 7, none⟩ = some (.int .i64 hh)) ∧ V.cell? ⟨pb, 0, none⟩ = some (.slice po l0.length pc) ∧ V.cell? ⟨lb, 0, none⟩ = some (.slice (some ⟨go, 0, none⟩) N N) ∧ V.cell? ⟨go, mc, none⟩ = some (.slice (some ⟨B + mc, 0, none⟩) M M)) := fun V hb => ⟨⟨hb.keeps (not_nowhere _) (gB.at 0), hb.keeps (not_nowhere _) (gB.at 1), hb.keeps (not_nowhere _) (gB.at 2), hb.keeps (not_nowhere _) (gB.at 3), hb.keeps (not_nowhere _) (gB.at 4), hb.keeps (not_nowhere _) (gB.at 5)⟩, ⟨hb.keeps (not_nowhere _) (gP.at 0), hb.keeps (not_nowhere _) (gP.at 1), hb.keeps (not_nowhere _) (gP.at 2), hb.keeps (not_nowhere _) (gP.at 3), hb.keeps (not_nowhere _) (gP.at 4), hb.keeps (not_nowhere _) (gP.at 5)⟩, ⟨hb.keeps (not_nowhere _) (gS.at 0), hb.keeps (not_nowhere _) (gS.at 1), hb.keeps (not_nowhere _) (gS.at 2), hb.keeps (not_nowhere _) (gS.at 3), hb.keeps (not_nowhere _) (gS.at 4), hb.keeps (not_nowhere _) (gS.at 5), hb.keeps (not_nowhere _) (gS.at 6), hb.keeps (not_nowhere _) (gS.at 7)⟩, hb.keeps (not_nowhere _) (gV.at 0), hb.keeps (not_nowhere _) (gL.at 0), hb.keeps (not_nowhere _) (gO)⟩
        have bu : But Nowhere wr wr.drew := (But.refl _ _).drew
        have t0 : (0 : Int) ≤ (mc : Int) := by omega
        have t1 : (mc : Int) < (N : Int) := by omega
        have t2 : (0 : Int) ≤ (bl : Int) := by omega
        have t3 : (bl : Int) < (M : Int) := by omega
        have t4 : (0 : Int) ≤ (k : Int) := by omega
        clear gB gP gV gL gS gO
        gi_wp2_with fail
        refine round_region_till (S := fun V => (V.cell? ⟨w.heap.size, 0, none⟩ = some (.func (.func 56) #[] #[]) ∧ V.cell? ⟨w.heap.size, 1, none⟩ = some (.func (.func 57) #[] #[]) ∧ V.cell? ⟨w.heap.size, 2, none⟩ = some (.func (.func 58) #[] #[]) ∧ V.cell? ⟨w.heap.size, 3, none⟩ = some (.func (.func 59) #[] #[]) ∧ V.cell? ⟨w.heap.size, 4, none⟩ = some (.func (.func 60) #[] #[]) ∧ V.cell? ⟨w.heap.size, 5, none⟩ = some (.func (.func 61) #[] #[])) ∧ (V.cell? ⟨w.heap.size + 1, 0, none⟩ = some (.int .i64 Wd) ∧ V.cell? ⟨w.heap.size + 1, 1, none⟩ = some (.int .i64 Ht) ∧ V.cell? ⟨w.heap.size + 1, 2, none⟩ = some (.int .i64 m) ∧ V.cell? ⟨w.heap.size + 1, 3, none⟩ = some (.int .i64 q) ∧ V.cell? ⟨w.heap.size + 1, 4, none⟩ = some (.int .i64 i0) ∧ V.cell? ⟨w.heap.size + 1, 5, none⟩ = some (.int .i64 c)) ∧ (V.cell? ⟨sb, 0, none⟩ = some (.int .i64 (mc : Int)) ∧ V.cell? ⟨sb, 1, none⟩ = some (.int .i64 (bl : Int)) ∧ V.cell? ⟨sb, 2, none⟩ = some (.int .i64 pa) ∧ V.cell? ⟨sb, 3, none⟩ = some (.int .i64 (P : Int)) ∧ V.cell? ⟨sb, 4, none⟩ = some (.int .i64 x) ∧ V.cell? ⟨sb, 5, none⟩ = some (.int .i64 y) ∧ V.cell? ⟨sb, 6, none⟩ = some (.int .i64 wi) ∧ V.cell? ⟨sb, 7, none⟩ = some (.int .i64 hh)) ∧ V.cell? ⟨pb, 0, none⟩ = some (.slice po l0.length pc) ∧ V.cell? ⟨lb, 0, none⟩ = some (.slice (some ⟨go, 0, none⟩) N N) ∧ V.cell? ⟨go, mc, none⟩ = some (.slice (some ⟨B + mc, 0, none⟩) M M)) (R := fun _ => True) (k := 16) (m := 100) (by kernel_rfl) (by kernel_rfl) (by rintro ⟨_, _, ⟨q, _⟩⟩; cases q) (HS _ bu) trivial ?_
        (refine Walk.take (i := 0) (oi := { dst := some 25, op := Op.load 59 (Operand.tmp 8), type := 59, pos := "plane.go:118", after := #[], guard := none }) (v := ?_) rfl (by kernel_rfl) (by kernel_rfl) (by kernel_rfl) (by kernel_rfl) (fun _ _ _ h => h) (Or.inl ⟨by rfl, ?_⟩) ?_; rotate_left; (intro w hw; have hS1 := hw.1 (by kernel_rfl); clear hw; (try dsimp only at hS1); (try go_split_ands); go_simp; try (with_reducible rfl)); simp only [Act.put, List.setIfInBounds_toArray, List.set_cons_zero, List.set_cons_succ])
        (refine Walk.take (i := 1) (oi := { dst := some 26, op := Op.fieldAddr 103 (Operand.tmp 9) 0, type := 0, pos := "plane.go:118", after := #[], guard := none }) (v := ?_) rfl (by kernel_rfl) (by kernel_rfl) (by kernel_rfl) (by kernel_rfl) (fun _ _ _ h => h) (Or.inl ⟨by rfl, ?_⟩) ?_; rotate_left; (intro w hw; clear hw; (try go_split_ands); go_simp; try (with_reducible rfl)); simp only [Act.put, List.setIfInBounds_toArray, List.set_cons_zero, List.set_cons_succ])
        (refine Walk.take (i := 2) (oi := { dst := some 27, op := Op.load 3 (Operand.tmp 26), type := 3, pos := "plane.go:118", after := #[{ on := 1, ground := Ground.data }], guard := none }) (v := ?_) rfl (by kernel_rfl) (by kernel_rfl) (by kernel_rfl) (by kernel_rfl) (fun _ _ _ h => h) (Or.inl ⟨by rfl, ?_⟩) ?_; rotate_left; (intro w hw; have hS1 := hw.1 (by kernel_rfl); clear hw; (try dsimp only at hS1); (try go_split_ands); go_simp; try (with_reducible rfl)); simp only [Act.put, List.setIfInBounds_toArray, List.set_cons_zero, List.set_cons_succ])
        (refine Walk.take (i := 3) (oi := { dst := some 28, op := Op.indexAddr 59 (Operand.tmp 25) (Operand.tmp 27), type := 0, pos := "plane.go:118", after := #[{ on := 0, ground := Ground.data }, { on := 2, ground := Ground.data }], guard := none }) (v := ?_) rfl (by kernel_rfl) (by kernel_rfl) (by kernel_rfl) (by kernel_rfl) (fun _ _ _ h => h) (Or.inl ⟨by rfl, ?_⟩) ?_; rotate_left; (intro w hw; clear hw; (try go_split_ands); go_simp; try (with_reducible rfl)); simp only [Act.put, List.setIfInBounds_toArray, List.set_cons_zero, List.set_cons_succ])
        (refine Walk.take (i := 4) (oi := { dst := some 29, op := Op.load 93 (Operand.tmp 28), type := 93, pos := "plane.go:118", after := #[{ on := 3, ground := Ground.data }], guard := none }) (v := ?_) rfl (by kernel_rfl) (by kernel_rfl) (by kernel_rfl) (by kernel_rfl) (fun _ _ _ h => h) (Or.inl ⟨by rfl, ?_⟩) ?_; rotate_left; (intro w hw; have hS1 := hw.1 (by kernel_rfl); clear hw; (try dsimp only at hS1); (try go_split_ands); go_simp; try (with_reducible rfl)); simp only [Act.put, List.setIfInBounds_toArray, List.set_cons_zero, List.set_cons_succ])
        (refine Walk.take (i := 5) (oi := { dst := some 30, op := Op.fieldAddr 103 (Operand.tmp 9) 1, type := 0, pos := "plane.go:118", after := #[], guard := none }) (v := ?_) rfl (by kernel_rfl) (by kernel_rfl) (by kernel_rfl) (by kernel_rfl) (fun _ _ _ h => h) (Or.inl ⟨by rfl, ?_⟩) ?_; rotate_left; (intro w hw; clear hw; (try go_split_ands); go_simp; try (with_reducible rfl)); simp only [Act.put, List.setIfInBounds_toArray, List.set_cons_zero, List.set_cons_succ])
        (refine Walk.take (i := 6) (oi := { dst := some 31, op := Op.load 3 (Operand.tmp 30), type := 3, pos := "plane.go:118", after := #[{ on := 5, ground := Ground.data }], guard := none }) (v := ?_) rfl (by kernel_rfl) (by kernel_rfl) (by kernel_rfl) (by kernel_rfl) (fun _ _ _ h => h) (Or.inl ⟨by rfl, ?_⟩) ?_; rotate_left; (intro w hw; have hS1 := hw.1 (by kernel_rfl); clear hw; (try dsimp only at hS1); (try go_split_ands); go_simp; try (with_reducible rfl)); simp only [Act.put, List.setIfInBounds_toArray, List.set_cons_zero, List.set_cons_succ])
        (refine Walk.take (i := 7) (oi := { dst := some 32, op := Op.move (Operand.tmp 10), type := 3, pos := "plane.go:118", after := #[], guard := none }) (v := ?_) rfl (by kernel_rfl) (by kernel_rfl) (by kernel_rfl) (by kernel_rfl) (fun _ _ _ h => h) (Or.inl ⟨by rfl, ?_⟩) ?_; rotate_left; (intro w hw; clear hw; (try go_split_ands); go_simp; try (with_reducible rfl)); simp only [Act.put, List.setIfInBounds_toArray, List.set_cons_zero, List.set_cons_succ])
        (refine Walk.take (i := 8) (oi := { dst := some 33, op := Op.load 66 (Operand.tmp 3), type := 66, pos := "plane.go:118", after := #[], guard := none }) (v := ?_) rfl (by kernel_rfl) (by kernel_rfl) (by kernel_rfl) (by kernel_rfl) (fun _ _ _ h => h) (Or.inl ⟨by rfl, ?_⟩) ?_; rotate_left; (intro w hw; have hS1 := hw.1 (by kernel_rfl); clear hw; (try dsimp only at hS1); (try go_split_ands); go_simp; try (with_reducible rfl)); simp only [Act.put, List.setIfInBounds_toArray, List.set_cons_zero, List.set_cons_succ])
        (refine Walk.take (i := 9) (oi := { dst := some 34, op := Op.load 23 (Operand.tmp 4), type := 23, pos := "plane.go:118", after := #[], guard := none }) (v := ?_) rfl (by kernel_rfl) (by kernel_rfl) (by kernel_rfl) (by kernel_rfl) (fun _ _ _ h => h) (Or.inl ⟨by rfl, ?_⟩) ?_; rotate_left; (intro w hw; have hS1 := hw.1 (by kernel_rfl); clear hw; (try dsimp only at hS1); (try go_split_ands); go_simp; try (with_reducible rfl)); simp only [Act.put, List.setIfInBounds_toArray, List.set_cons_zero, List.set_cons_succ])
        (refine Walk.take (i := 10) (oi := { dst := some 35, op := Op.load 68 (Operand.tmp 7), type := 68, pos := "plane.go:118", after := #[], guard := none }) (v := ?_) rfl (by kernel_rfl) (by kernel_rfl) (by kernel_rfl) (by kernel_rfl) (fun _ _ _ h => h) (Or.inl ⟨by rfl, ?_⟩) ?_; rotate_left; (intro w hw; have hS1 := hw.1 (by kernel_rfl); clear hw; (try dsimp only at hS1); (try go_split_ands); go_simp; try (with_reducible rfl)); simp only [Act.put, List.setIfInBounds_toArray, List.set_cons_zero, List.set_cons_succ])
        (refine Walk.take (i := 11) (oi := { dst := some 36, op := Op.load 103 (Operand.tmp 9), type := 103, pos := "plane.go:118", after := #[], guard := none }) (v := ?_) rfl (by kernel_rfl) (by kernel_rfl) (by kernel_rfl) (by kernel_rfl) (fun _ _ _ h => h) (Or.inl ⟨by rfl, ?_⟩) ?_; rotate_left; (intro w hw; have hS1 := hw.1 (by kernel_rfl); clear hw; (try dsimp only at hS1); (try go_split_ands); go_simp; try (with_reducible rfl)); simp only [Act.put, List.setIfInBounds_toArray, List.set_cons_zero, List.set_cons_succ])
        (refine Walk.take (i := 12) (oi := { dst := some 37, op := Op.move (Operand.tmp 10), type := 3, pos := "plane.go:118", after := #[], guard := none }) (v := ?_) rfl (by kernel_rfl) (by kernel_rfl) (by kernel_rfl) (by kernel_rfl) (fun _ _ _ h => h) (Or.inl ⟨by rfl, ?_⟩) ?_; rotate_left; (intro w hw; clear hw; (try go_split_ands); go_simp; try (with_reducible rfl)); simp only [Act.put, List.setIfInBounds_toArray, List.set_cons_zero, List.set_cons_succ])
        (refine Walk.take (i := 14) (oi := { dst := some 39, op := Op.indexAddr 93 (Operand.tmp 29) (Operand.tmp 31), type := 0, pos := "plane.go:118", after := #[{ on := 4, ground := Ground.data }, { on := 6, ground := Ground.data }], guard := none }) (v := ?_) rfl (by kernel_rfl) (by kernel_rfl) (by kernel_rfl) (by kernel_rfl) (fun _ _ _ h => h) (Or.inl ⟨by rfl, ?_⟩) ?_; rotate_left; (intro w hw; clear hw; (try go_split_ands); go_simp; try (with_reducible rfl)); simp only [Act.put, List.setIfInBounds_toArray, List.set_cons_zero, List.set_cons_succ])
        (refine Walk.go (i := 13) (o := { dst := some 38, op := Op.call { callee := Callee.value (Operand.func 55), args := #[Operand.tmp 33, Operand.tmp 34, Operand.tmp 35, Operand.tmp 36, Operand.tmp 37], argTypes := #[66, 23, 68, 103, 3] }, type := 3, pos := "plane.go:118", after := #[{ on := 8, ground := Ground.data }, { on := 9, ground := Ground.data }, { on := 10, ground := Ground.data }, { on := 11, ground := Ground.data }, { on := 12, ground := Ground.data }], guard := none }) (by kernel_rfl) rfl (fun K hK => ?_); go_simp; ((go_at_call 55; refine (sampleN_any Wd Ht m q i0 c ⟨mc, bl, pa, P, x, y, wi, hh⟩ k _ (partsL m l0) _ (hTU.but bu) (hVU.but bu) hok hpa (by omega) hW hH hPin hPl).mono ?_; rintro e x1 ⟨rfl, d1⟩; replace bu := bu.trans d1; clear d1)); refine hK.out _ _ (⟨fun _ => HS _ bu, fun _ => trivial⟩) ?_; clear hK K; try simp only [Act.put, List.setIfInBounds_toArray, List.set_cons_zero, List.set_cons_succ])
        (refine Walk.take (i := 15) (oi := { dst := some 40, op := Op.indexAddr 45 (Operand.tmp 39) (Operand.tmp 32), type := 0, pos := "plane.go:118", after := #[{ on := 14, ground := Ground.data }, { on := 7, ground := Ground.data }, { on := 0, ground := Ground.phase }, { on := 1, ground := Ground.phase }, { on := 2, ground := Ground.phase }, { on := 3, ground := Ground.phase }, { on := 4, ground := Ground.phase }, { on := 5, ground := Ground.phase }, { on := 6, ground := Ground.phase }, { on := 7, ground := Ground.phase }, { on := 8, ground := Ground.phase }, { on := 9, ground := Ground.phase }, { on := 10, ground := Ground.phase }, { on := 11, ground := Ground.phase }, { on := 12, ground := Ground.phase }, { on := 13, ground := Ground.phase }], guard := none }) (v := ?_) rfl (by kernel_rfl) (by kernel_rfl) (by kernel_rfl) (by kernel_rfl) (fun _ _ _ h => h) (Or.inl ⟨by rfl, ?_⟩) ?_; rotate_left; (intro w hw; clear hw; (try go_split_ands); go_simp; try (with_reducible rfl)); simp only [Act.put, List.setIfInBounds_toArray, List.set_cons_zero, List.set_cons_succ])
        have hJ2 := fun mc' hmc' => (hJ mc' hmc').but bu (not_nowhere _)
        have c9 := (hJ2 mc hmcN).cell (bl * 64 + k) (by omega)
        have f9 := (hJ2 mc hmcN).frozen (bl * 64 + k)
        (refine Walk.go (i := 16) (o := { dst := none, op := Op.store 3 (Operand.tmp 40) (Operand.tmp 38), type := 0, pos := "plane.go:118", after := #[{ on := 15, ground := Ground.data }, { on := 13, ground := Ground.data }, { on := 13, ground := Ground.chain }, { on := 0, ground := Ground.phase }, { on := 1, ground := Ground.phase }, { on := 2, ground := Ground.phase }, { on := 3, ground := Ground.phase }, { on := 4, ground := Ground.phase }, { on := 5, ground := Ground.phase }, { on := 6, ground := Ground.phase }, { on := 7, ground := Ground.phase }, { on := 8, ground := Ground.phase }, { on := 9, ground := Ground.phase }, { on := 10, ground := Ground.phase }, { on := 11, ground := Ground.phase }, { on := 12, ground := Ground.phase }, { on := 13, ground := Ground.phase }], guard := none }) (by kernel_rfl) rfl (fun K hK => ?_); go_simp; (skip); refine hK.out _ _ (⟨fun q => absurd q (by decide), fun _ => trivial⟩) ?_; clear hK K; try simp only [Act.put, List.setIfInBounds_toArray, List.set_cons_zero, List.set_cons_succ])
        refine Walk.done (by kernel_rfl) ?_ _
        have HJ3 : Hid _ := And.intro (But.setCell (S := fun k => B ≤ k ∧ k < B + N) (p := ⟨B + mc, bl * 64 + k, none⟩) (hbr.trans (bu.mono (fun _ _ f => f.elim))) (fun _ => ⟨by show B ≤ B + mc; omega, by show B + mc < B + N; omega⟩) (.int .i64 (sampleF Wd Ht (partsL m l0) ⟨mc, bl, pa, P, x, y, wi, hh⟩ (k : Int)))) (HVAL.out k hkN ▸ grid_step hmcN hblM hkN hJ2)
        clear hJ2 c9 f9 hJ HS bu hTU hVU
        gi_wp2_with fail
        go_roundw
        case rel => exact ⟨k + 1, by omega, by go_num, HJ3.out.1, HJ3.out.2⟩
        case measure => simp [intOf]; omega
      · obtain rfl : k = 64 := by omega
        have hX : ∀ mc', mc' < N → Cells wr (B + mc') 45 (tab .i64 (M * 64) (fun j => if mc' * M * 64 + j < (i + 1) * 64 then splitF Wd Ht m l0 mc' j else 0)) := by rw [hib] at hJ; intro mc' hmc'; rw [Nat.add_mul]; exact hJ mc' hmc'
        clear hJ
        gi_wp2_with fail
        first | exact hX | exact ⟨hbr, hX⟩
  · intro W' hb hJ hD hlt
    have gL := (kk.get (b := lb) (t := 59) (c := [.slice (some ⟨go, 0, none⟩) N N]) (by simp)).but hb (by omega)
    have c0 := gL.at 0
    simp only [List.getElem?_cons_zero] at c0
    gi_wp2_with fail
    refine ⟨by simp, .inl ⟨_, _, rfl, run_takeDeferred hD, ?_⟩⟩
    have hz5 := kk.but.size
    refine ⟨_, results_tmp rfl _ _ _, ⟨_, go, fun i => B + i, rfl, ?_, ?_, ?_⟩, ?_⟩
    · rw [HN.out, HM.out]
      have hne : ∀ b, b < w5.heap.size → b ≠ w5.heap.size := fun b hb => by omega
      refine Blks.but (S := fun k => k = w5.heap.size) ⟨rfl, hBl5.out.but hb (by omega), fun i hi => ?_⟩ (But.putObj (S := fun k => k = w5.heap.size) (But.refl _ _) (fun _ => rfl) _) (by omega) (fun i hi => by omega)
      have h1 := hJ i hi
      have e1 : tab .i64 (M * 64) (fun j => if i * M * 64 + j < N * M * 64 then splitF Wd Ht m l0 i j else 0) = tab .i64 (M * 64) (splitF Wd Ht m l0 i) := by
        refine tab_congr _ _ _ _ (fun j hj => ?_)
        have : (i + 1) * M ≤ N * M := Nat.mul_le_mul_right M hi
        rw [Nat.add_mul] at this
        rw [if_pos (by omega)]
      rw [e1] at h1
      exact h1
    · omega
    · intro i hi; show w.heap.size ≤ B + i; omega
    · exact But.putObj ((kk.but.mono (T := fun _ => False) (fun _ _ f => f)).step hb (fun k hk f => by omega)) (fun q => by omega) _

end Go.Proofs.YtppbnmlgilgnnaaDoor
