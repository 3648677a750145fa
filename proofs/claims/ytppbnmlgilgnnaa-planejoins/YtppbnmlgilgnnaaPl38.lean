/- Each SAMPLE laid on the pixels that went into it, and the pixels turned back: join of any mode. -/
import Derived.Test.YtppbnmlgilgnnaaPl20
import Derived.Test.YtppbnmlgilgnnaaPl36
import Derived.Test.YtppbnmlgilgnnaaBa
namespace Go.Proofs.Ytppbnmlgilgnnaa
open Go.ChangeShapes Go.WideShapes Go.ChangeAt Go.RowKit Go.Shelf

attribute [local go_sem] Oper.semAt_some wide_fn wide_depth Fence.inRound_fn Fence.inRound_depth

set_option maxHeartbeats 6400000 in
set_option maxRecDepth 100000 in
theorem joinN_all (Wd Ht m q i0 c : Int) (f : Fit Wd Ht m) (v : Value) (F : Nat → Nat → Int) (J : Nat → Int) (Z N M : Nat) (w : World) (hZ : Wd * Ht * partsN m = Z) (hN : (gridW Wd Ht m * gridH Wd Ht m).toNat = N) (hM : (unitL m).length = M)
    (h : BA w v N (fun _ => M) F)
    (hC : ∀ i b k n, i < N → b < M → k < 64 → n < ((spotAt (gridW Wd Ht m) (sideW m) (sideH m) (unitL m) i b).wide * (spotAt (gridW Wd Ht m) (sideW m) (sideH m) (unitL m) i b).high).toNat → pX (spotAt (gridW Wd Ht m) (sideW m) (sideH m) (unitL m) i b) k n < Wd → pY (spotAt (gridW Wd Ht m) (sideW m) (sideH m) (unitL m) i b) k n < Ht → J (pJ Wd (spotAt (gridW Wd Ht m) (sideW m) (sideH m) (unitL m) i b) k n) = clipF (F i (b * 64 + k)) 0 255)
    (hS : ∀ j, j < Z → ∃ i b k n, i < N ∧ b < M ∧ k < 64 ∧ n < ((spotAt (gridW Wd Ht m) (sideW m) (sideH m) (unitL m) i b).wide * (spotAt (gridW Wd Ht m) (sideW m) (sideH m) (unitL m) i b).high).toNat ∧ pX (spotAt (gridW Wd Ht m) (sideW m) (sideH m) (unitL m) i b) k n < Wd ∧ pY (spotAt (gridW Wd Ht m) (sideW m) (sideH m) (unitL m) i b) k n < Ht ∧ pJ Wd (spotAt (gridW Wd Ht m) (sideW m) (sideH m) (unitL m) i b) k n = j)
    (hJx : ∀ j, j < Z → 0 ≤ J j ∧ J j ≤ 255) :
    Calls Try.prog 34 #[.agg byPN.toArray, pV Wd Ht m q i0 c, v] w fun e w' => (∃ v', e = .returned v' ∧ View w' .i64 v' (backL m ((List.range Z).map J))) ∧ But Nowhere w w' := by
  have hm := f.m
  have hW := f.w
  have hH := f.h
  have p1 : 1 ≤ (partsN m : Int) ∧ (partsN m : Int) ≤ 3 := by unfold partsN; split <;> simp
  have hZs : (Z : Int) ≤ 1048576 * 3 := by rw [← hZ]; exact Int.mul_le_mul f.s p1.2 (by omega) (by omega)
  have hZs2 : Z ≤ 4000000 := by omega
  obtain ⟨Sp, hSp⟩ : ∃ Sp, Sp = spotAt (gridW Wd Ht m) (sideW m) (sideH m) (unitL m) := ⟨_, rfl⟩
  have HSF : ∀ i b, i < N → b < M → _ := fun i b hi hb => spot_form f i b (by rw [hN]; exact hi) (by rw [hM]; exact hb)
  rw [← hSp] at hC hS HSF
  obtain ⟨u0, u6⟩ := unit_pos m
  rw [hM] at u0 u6
  obtain ⟨g1, g2, g3, g4, g5, g6⟩ := f.grid
  have hN1 : 1 ≤ N := by
    have : 1 * 1 ≤ gridW Wd Ht m * gridH Wd Ht m := Int.mul_le_mul g3 g5 (by omega) (by omega)
    omega
  have sd := side_fit hm
  obtain ⟨ao, vcap, rfl, h0⟩ := h
  obtain ⟨go0, off0, rfl, hrow⟩ := h0 (by omega)
  clear h0
  have huA := Try.underlying52
  have hmk := fun W => make_any Try.elemInt Z (.int .i64 0) (by intro j hj; have : j = 0 := (by omega); subst this; rfl) (by omega) (by omega) W
  rw [Nat.mul_one, tab_zero] at hmk
  refine (callsIn_wide (n := 7)).1 ?_
  refine callsIn_of_wp_quiet Try.func34 rfl trivial ?_ rfl
  simp only [Try.ntmps34, List.size_toArray, List.length_cons, List.length_nil, Nat.reduceAdd, Nat.reduceSub, Array.replicate_succ, Array.replicate_zero, List.push_toArray, List.append_toArray, List.nil_append, List.cons_append]
  have kk := (((Keep.start w).made 75 byPN).made 23 (pC Wd Ht m q i0 c)).made 77 [.slice (some ⟨go0, off0, none⟩) N vcap]
  simp only [World.size_alloc] at kk
  gi_wp2_with fail
  revert kk
  generalize ((w.alloc (.cells byPN.toArray 75)).alloc (.cells #[.int .i64 Wd, .int .i64 Ht, .int .i64 m, .int .i64 q, .int .i64 i0, .int .i64 c] 23)).alloc (.cells #[.slice (some ⟨go0, off0, none⟩) N vcap] 77) = W0
  intro kk
  refine (callsIn_wide.2 (size_fit _ _ _ _ _ _ f _)).mono ?_
  rintro e w1 ⟨rfl, b1⟩
  rw [hZ]
  replace kk := kk.step b1
  have hz1 := kk.but.size
  have hLB := kk.head.lt
  obtain ⟨PB, hPB⟩ : ∃ b, w.heap.size + 1 = b := ⟨_, rfl⟩
  obtain ⟨LB, hLB'⟩ : ∃ b, PB + 1 = b := ⟨_, rfl⟩
  rw [hPB, hLB'] at kk hLB
  obtain ⟨g, hg⟩ : ∃ b, w1.heap.size = b := ⟨_, rfl⟩
  obtain ⟨pb, hpb⟩ : ∃ b, g + 1 = b := ⟨_, rfl⟩
  replace kk := (kk.made 3 (tab .i64 Z (fun _ => 0))).made 71 [.slice (some ⟨g, 0, none⟩) Z Z]
  simp only [World.size_alloc] at kk
  rw [hg, hpb] at kk
  have hgp := (kk.get (b := PB) (t := 23) (c := pC Wd Ht m q i0 c) (by simp))
  have c0 := hgp.at 0
  have c1 := hgp.at 1
  have c2 := hgp.at 2
  have c3 := hgp.at 3
  have c4 := hgp.at 4
  have c5 := hgp.at 5
  simp only [List.getElem?_cons_zero, List.getElem?_cons_succ] at c0 c1 c2 c3 c4 c5
  clear b1
  gi_wp2_with fail
  clear c0 c1 c2 c3 c4 c5 hgp hmk
  revert kk
  generalize (w1.alloc (.cells (tab .i64 Z (fun _ => 0)).toArray 3)).alloc (.cells #[.slice (some ⟨g, 0, none⟩) Z Z] 71) = w4
  intro kk
  have hz4 := kk.head.lt
  refine (callsIn_wide.2 (spots_any Wd Ht m q i0 c hm w4)).mono ?_
  rintro e w5 ⟨ab, db, fb, wb, hb', sv, rfl, b5, ⟨i1, i2, i3, i4, i5, i6⟩, n1, n2, n3, n4, n5, n6⟩
  replace kk := kk.step b5
  have z5 := b5.size
  have hgl := (kk.get (b := g) (t := 3) (c := tab .i64 Z (fun _ => 0)) (by simp)).lt
  have hpl := kk.head.lt
  have ITR := spots_iter (gridW Wd Ht m) (gridH Wd Ht m) (sideW m) (sideH m) (unitL m) sv ab db fb wb hb' ⟨g3, g4⟩ ⟨g5, g6⟩ ⟨by omega, sd.2.1⟩ ⟨by omega, sd.2.2.2⟩ ⟨by rw [hM]; exact u0, by rw [hM]; exact u6⟩ (fun s hs => by have := unit_ok m s hs; omega)
  rw [hN, hM, ← hSp] at ITR
  clear hSp g1 g2
  gi_wp2_with fail
  refine range_out (T := fun x => x = g) (fun o W => ∃ ff, Cells W g 3 (tab .i64 Z ff) ∧ Dn Sp Wd Ht N M J ff o 0 0) ITR rfl (enters_of Try.func71 (by kernel_rfl) rfl) (fun _ => rfl)
    (fun U hU => ⟨i1.but hU (by omega), i2.but hU (by omega), i3.but hU (by omega), i4.but hU (by omega), i5.but hU (by omega), i6.but hU (fun k hk => by have := n6 k hk; omega)⟩) (by rintro x rfl; exact hgl) (fun i U U' hj hk => by obtain ⟨ff, h1, h2⟩ := hj; exact ⟨ff, (hk _ rfl).trans h1, h2⟩) ⟨fun _ => 0, kk.get (b := g) (t := 3) (c := tab .i64 Z (fun _ => 0)) (by simp), Dn.start⟩ ?_ ?_
  · intro lo o W KK hlo hlt hi hbW hJ hK
    obtain ⟨mc, hmc⟩ : ∃ mc, o / M = mc := ⟨_, rfl⟩
    obtain ⟨bl, hbl⟩ : ∃ bl, o % M = bl := ⟨_, rfl⟩
    have hmcN : mc < N := by rw [← hmc]; exact Nat.div_lt_of_lt_mul (by rw [Nat.mul_comm]; exact hi)
    have hblM : bl < M := by rw [← hbl]; exact Nat.mod_lt _ u0
    have HIB : Hid (mc * M + bl = o) := by show mc * M + bl = o; rw [← hmc, ← hbl, Nat.mul_comm]; exact Nat.div_add_mod o M
    obtain ⟨pa, x, y, wi, hh, hsp, hok, hpa⟩ := HSF mc bl hmcN hblM
    dsimp only
    rw [hmc, hbl, hsp]
    have gS0 := Cells.new W 91 (Spot.cells ⟨mc, bl, pa, partsN m, x, y, wi, hh⟩)
    have HSP : Hid (Sp mc bl = ⟨mc, bl, pa, partsN m, x, y, wi, hh⟩) := hsp
    clear hmc hbl hsp
    gi_wp2_with fail
    refine hK _ _ ((But.refl _ _).alloc _) ?_
    clear hJ hK hbW
    intro U hU hlU hbU hJ
    have lw := hU.size
    simp only [World.size_alloc] at lw
    have gS1 := gS0.but hU (by omega)
    obtain ⟨sb, hsb⟩ : ∃ b, W.heap.size = b := ⟨_, rfl⟩
    rw [hsb] at gS1 lw ⊢
    have hlos : lo < sb := by omega
    have hw5 : w5.heap.size < sb := by omega
    obtain ⟨P, hP⟩ : ∃ P : Nat, partsN m = P := ⟨_, rfl⟩
    rw [hP] at gS1 hok hpa HSP
    have HPP : Hid (partsN m = P) := hP
    clear gS0 hU hsb hP
    obtain ⟨fk, hfk⟩ : ∃ fk, fk = fun j => F mc (bl * 64 + j) := ⟨_, rfl⟩
    obtain ⟨u, hu1, ro, cm, rfl, hu2⟩ := hrow mc hmcN
    obtain ⟨gm, om, rfl, hu3⟩ := hu2 (by omega)
    have hgo0 := World.block_lt_of_cell? w _ hu1
    have hgm0 := World.block_lt_of_cell? w _ (hu3 0 (by omega))
    dsimp only at hgo0 hgm0
    have hgo5 : go0 ≠ g := by omega
    have hG5 : gm ≠ g := by omega
    have e4 : U.cell? ⟨go0, off0 + mc, none⟩ = some (.slice (some ⟨gm, om, none⟩) M cm) := hbU.keeps hgo5 (kk.but.keeps (not_nowhere _) hu1)
    have e5 : U.rangeAt gm (om + bl * 64) (tab .i64 64 fk) := by
      rw [hfk]
      exact range_off (fun j hj => hbU.keeps hG5 (kk.but.keeps (not_nowhere _) (hu3 j hj))) bl hblM
    clear hu1 hu2 hu3
    have hiA : (Try.prog.info? 52).map (·.size) = some (tab .i64 64 fk).length := by rw [tab_length]; kernel_rfl
    have HFK : Hid (fk = fun j => F mc (bl * 64 + j)) := hfk
    have gL := (kk.get (b := LB) (t := 77) (c := [.slice (some ⟨go0, off0, none⟩) N vcap]) (by simp)).but hbU (by omega)
    have t0 : (0 : Int) ≤ (mc : Int) := by omega
    have t1 : (mc : Int) < (N : Int) := by omega
    have t2 : (0 : Int) ≤ (bl : Int) := by omega
    have t3 : (bl : Int) < (M : Int) := by omega
    have y1 := gL.at 0
    have y2 := gS1.at 0
    have y3 := gS1.at 1
    simp only [List.getElem?_cons_zero, List.getElem?_cons_succ] at y1 y2 y3
    clear hfk
    gi_wp2_with fail
    refine round_region_till (S := fun V => V.cell? ⟨LB, 0, none⟩ = some (.slice (some ⟨go0, off0, none⟩) N vcap) ∧ V.cell? ⟨sb, 0, none⟩ = some (.int .i64 (mc : Int)) ∧ V.cell? ⟨sb, 1, none⟩ = some (.int .i64 (bl : Int)) ∧ V.cell? ⟨go0, off0 + mc, none⟩ = some (.slice (some ⟨gm, om, none⟩) M cm) ∧ V.rangeAt gm (om + bl * 64) (tab .i64 64 fk)) (R := fun _ => True) (k := 100) (m := 100) (by kernel_rfl) (by kernel_rfl) (by rintro ⟨_, _, ⟨q, _⟩⟩; cases q) ⟨y1, y2, y3, e4, e5⟩ trivial ?_
    (refine Walk.take (i := 0) (oi := { dst := some 20, op := Op.load 77 (Operand.tmp 5), type := 77, pos := "plane.go:140", after := #[], guard := none }) (v := ?_) rfl (by kernel_rfl) (by kernel_rfl) (by kernel_rfl) (by kernel_rfl) (fun _ _ _ h => h) (Or.inl ⟨by rfl, ?_⟩) ?_; rotate_left; (intro w hw; have hS1 := hw.1 (by kernel_rfl); clear hw; (try dsimp only at hS1); (try go_split_ands); go_simp; try (with_reducible rfl)); simp only [Act.put, List.setIfInBounds_toArray, List.set_cons_zero, List.set_cons_succ])
    (refine Walk.take (i := 1) (oi := { dst := some 21, op := Op.fieldAddr 91 (Operand.tmp 8) 0, type := 0, pos := "plane.go:140", after := #[], guard := none }) (v := ?_) rfl (by kernel_rfl) (by kernel_rfl) (by kernel_rfl) (by kernel_rfl) (fun _ _ _ h => h) (Or.inl ⟨by rfl, ?_⟩) ?_; rotate_left; (intro w hw; clear hw; (try go_split_ands); go_simp; try (with_reducible rfl)); simp only [Act.put, List.setIfInBounds_toArray, List.set_cons_zero, List.set_cons_succ])
    (refine Walk.take (i := 2) (oi := { dst := some 22, op := Op.load 3 (Operand.tmp 21), type := 3, pos := "plane.go:140", after := #[{ on := 1, ground := Ground.data }], guard := none }) (v := ?_) rfl (by kernel_rfl) (by kernel_rfl) (by kernel_rfl) (by kernel_rfl) (fun _ _ _ h => h) (Or.inl ⟨by rfl, ?_⟩) ?_; rotate_left; (intro w hw; have hS1 := hw.1 (by kernel_rfl); clear hw; (try dsimp only at hS1); (try go_split_ands); go_simp; try (with_reducible rfl)); simp only [Act.put, List.setIfInBounds_toArray, List.set_cons_zero, List.set_cons_succ])
    (refine Walk.take (i := 3) (oi := { dst := some 23, op := Op.indexAddr 77 (Operand.tmp 20) (Operand.tmp 22), type := 0, pos := "plane.go:140", after := #[{ on := 0, ground := Ground.data }, { on := 2, ground := Ground.data }], guard := none }) (v := ?_) rfl (by kernel_rfl) (by kernel_rfl) (by kernel_rfl) (by kernel_rfl) (fun _ _ _ h => h) (Or.inl ⟨by rfl, ?_⟩) ?_; rotate_left; (intro w hw; clear hw; (try go_split_ands); go_simp; try (with_reducible rfl)); simp only [Act.put, List.setIfInBounds_toArray, List.set_cons_zero, List.set_cons_succ])
    (refine Walk.take (i := 4) (oi := { dst := some 24, op := Op.load 105 (Operand.tmp 23), type := 105, pos := "plane.go:140", after := #[{ on := 3, ground := Ground.data }], guard := none }) (v := ?_) rfl (by kernel_rfl) (by kernel_rfl) (by kernel_rfl) (by kernel_rfl) (fun _ _ _ h => h) (Or.inl ⟨by rfl, ?_⟩) ?_; rotate_left; (intro w hw; have hS1 := hw.1 (by kernel_rfl); clear hw; (try dsimp only at hS1); (try go_split_ands); go_simp; try (with_reducible rfl)); simp only [Act.put, List.setIfInBounds_toArray, List.set_cons_zero, List.set_cons_succ])
    (refine Walk.take (i := 5) (oi := { dst := some 25, op := Op.fieldAddr 91 (Operand.tmp 8) 1, type := 0, pos := "plane.go:140", after := #[], guard := none }) (v := ?_) rfl (by kernel_rfl) (by kernel_rfl) (by kernel_rfl) (by kernel_rfl) (fun _ _ _ h => h) (Or.inl ⟨by rfl, ?_⟩) ?_; rotate_left; (intro w hw; clear hw; (try go_split_ands); go_simp; try (with_reducible rfl)); simp only [Act.put, List.setIfInBounds_toArray, List.set_cons_zero, List.set_cons_succ])
    (refine Walk.take (i := 6) (oi := { dst := some 26, op := Op.load 3 (Operand.tmp 25), type := 3, pos := "plane.go:140", after := #[{ on := 5, ground := Ground.data }], guard := none }) (v := ?_) rfl (by kernel_rfl) (by kernel_rfl) (by kernel_rfl) (by kernel_rfl) (fun _ _ _ h => h) (Or.inl ⟨by rfl, ?_⟩) ?_; rotate_left; (intro w hw; have hS1 := hw.1 (by kernel_rfl); clear hw; (try dsimp only at hS1); (try go_split_ands); go_simp; try (with_reducible rfl)); simp only [Act.put, List.setIfInBounds_toArray, List.set_cons_zero, List.set_cons_succ])
    (refine Walk.take (i := 7) (oi := { dst := some 27, op := Op.indexAddr 105 (Operand.tmp 24) (Operand.tmp 26), type := 0, pos := "plane.go:140", after := #[{ on := 4, ground := Ground.data }, { on := 6, ground := Ground.data }], guard := none }) (v := ?_) rfl (by kernel_rfl) (by kernel_rfl) (by kernel_rfl) (by kernel_rfl) (fun _ _ _ h => h) (Or.inl ⟨by rfl, ?_⟩) ?_; rotate_left; (intro w hw; clear hw; (try go_split_ands); go_simp; try (with_reducible rfl)); simp only [Act.put, List.setIfInBounds_toArray, List.set_cons_zero, List.set_cons_succ])
    (refine Walk.take (i := 8) (oi := { dst := some 28, op := Op.load 52 (Operand.tmp 27), type := 52, pos := "plane.go:140", after := #[{ on := 7, ground := Ground.data }], guard := none }) (v := .agg (tab .i64 64 fk).toArray) rfl (by kernel_rfl) (by kernel_rfl) (by kernel_rfl) (by kernel_rfl) (fun _ _ _ h => h) (yieldsIf_load_mid rfl 52 (.tmp 27) rfl gm (om + bl * 64) rfl (tab .i64 64 fk) _ (fun w hw => (hw.1 (by kernel_rfl)).2.2.2.2) huA rfl hiA) ?_; simp only [Act.put, List.setIfInBounds_toArray, List.set_cons_zero, List.set_cons_succ])
    (refine Walk.take (i := 9) (oi := { dst := some 29, op := Op.move (Operand.const (Value.int IntKind.i64 0)), type := 3, pos := "plane.go:140", after := #[], guard := none }) (v := ?_) rfl (by kernel_rfl) (by kernel_rfl) (by kernel_rfl) (by kernel_rfl) (fun _ _ _ h => h) (Or.inl ⟨by rfl, ?_⟩) ?_; rotate_left; (intro w hw; clear hw; (try go_split_ands); go_simp; try (with_reducible rfl)); simp only [Act.put, List.setIfInBounds_toArray, List.set_cons_zero, List.set_cons_succ])
    refine Walk.done (by kernel_rfl) ?_ _
    clear y1 y2 y3 e4 e5 gL
    gi_wp2_with fail
    gi_loopw [29] (fun n wr => ∃ k : Nat, k ≤ 64 ∧ n = .int .i64 k ∧ But (fun x => x = g) U wr ∧ ∃ ff, Cells wr g 3 (tab .i64 Z ff) ∧ Dn Sp Wd Ht N M J ff (mc * M + bl) k 0) (fun n _ => (64 - intOf n).toNat)
    case atStart =>
      obtain ⟨ff, h1, h2⟩ := hJ
      exact ⟨0, by omega, by simp, (But.refl _ _).drew, ff, h1.but (But.refl Nowhere U).drew (not_nowhere _), by rw [HIB.out]; exact h2⟩
    case round =>
      clear hJ
      obtain ⟨k, hk, rfl, hbr, hJ⟩ := hrel
      by_cases hk64 : (k : Int) < 64
      · have hkN : k < 64 := by omega
        have hIx := index_tab fk k hkN
        obtain ⟨ff, hff, hdn⟩ := hJ
        obtain ⟨cv, hcv⟩ : ∃ cv, clipF (fk k) 0 255 = cv := ⟨_, rfl⟩
        have HCV : Hid (clipF (fk k) 0 255 = cv) := hcv
        have hbT : But (fun x => x = g) w5 wr := hbU.trans hbr
        have gB := (kk.get (b := w.heap.size) (t := 75) (c := byPN) (by simp)).but hbT (by omega)
        have gS := gS1.but hbr (by omega)
        have y1 := gB.at 3
        simp only [List.getElem?_cons_zero, List.getElem?_cons_succ] at y1
        clear hcv
        gi_wp2_with fail
        refine (callsIn_wide.2 (numClip_any _ _ _ _)).mono ?_
        rintro e w7 ⟨rfl, hw7⟩
        have b7 : But Nowhere wr w7 := by rw [hw7]; exact But.refl _ _
        rw [HCV.out]
        clear hw7 y1 gB hIx
        replace hbT := hbT.step b7 (fun _ _ f => f.elim)
        replace hbr := hbr.step b7 (fun _ _ f => f.elim)
        replace gS := gS.but b7 (not_nowhere _)
        replace hff := hff.but b7 (not_nowhere _)
        clear b7
        have C1 := Cells.new w7 3 [.int .i64 cv]
        have bC : But Nowhere w7 (w7.alloc (.cells #[.int .i64 cv] 3)) := (But.refl _ _).alloc _
        have gS2 := gS.but bC (not_nowhere _)
        obtain ⟨cb, hcb⟩ : ∃ b, w7.heap.size = b := ⟨_, rfl⟩
        rw [hcb] at C1
        have hcb5 : w5.heap.size ≤ cb := by have := hbT.size; omega
        have s0 := gS2.at 0
        have s1 := gS2.at 1
        have s2 := gS2.at 2
        have s3 := gS2.at 3
        have s4 := gS2.at 4
        have s5 := gS2.at 5
        have s6 := gS2.at 6
        have s7 := gS2.at 7
        simp only [List.getElem?_cons_zero, List.getElem?_cons_succ] at s0 s1 s2 s3 s4 s5 s6 s7
        gi_wp2_with fail
        clear s0 s1 s2 s3 s4 s5 s6 s7
        revert C1 bC gS2
        generalize w7.alloc (.cells #[.int .i64 cv] 3) = w8
        intro bC gS2 C1
        refine (callsIn_wide.2 (pixels_any ⟨mc, bl, pa, P, x, y, wi, hh⟩ (k : Int) _ hok (by omega))).mono ?_
        rintro e w9 ⟨xb, yb, rfl, kp⟩
        dsimp only at kp
        have hok' := hok
        obtain ⟨v1, v2, v3, v4, v5, v6, v7, v8, v9, v10, v11, v12⟩ := hok'
        dsimp only at v1 v2 v3 v4 v5 v6 v7 v8 v9 v10 v11 v12
        have m0 : 0 ≤ (k : Int) % 8 * wi := Int.mul_nonneg (by omega) (by omega)
        have m1 : (k : Int) % 8 * wi ≤ 8 * 2 := Int.mul_le_mul (by omega) v6 (by omega) (by omega)
        have m2 : 0 ≤ (k : Int) / 8 * hh := Int.mul_nonneg (by omega) (by omega)
        have m3 : (k : Int) / 8 * hh ≤ 8 * 2 := Int.mul_le_mul (by omega) v8 (by omega) (by omega)
        obtain ⟨X, hX, X0, X1⟩ : ∃ X, x + (k : Int) % 8 * wi = X ∧ 0 ≤ X ∧ X ≤ 70016 := ⟨_, rfl, by omega, by omega⟩
        obtain ⟨Y, hY, Y0, Y1⟩ : ∃ Y, y + (k : Int) / 8 * hh = Y ∧ 0 ≤ Y ∧ Y ≤ 70016 := ⟨_, rfl, by omega, by omega⟩
        have HX : Hid (x + (k : Int) % 8 * wi = X) := hX
        have HY : Hid (y + (k : Int) / 8 * hh = Y) := hY
        rw [hX, hY] at kp
        clear hX hY m0 m1 m2 m3
        have nx := kp.new (xb, 3, [.int .i64 X]) (by simp)
        have ny := kp.new (yb, 3, [.int .i64 Y]) (by simp)
        simp only at nx ny
        have hsb2 := kp.get (b := w8.heap.size) (t := 91) (c := Spot.cells ⟨mc, bl, pa, P, x, y, wi, hh⟩) (by simp)
        have hxb := kp.get (b := xb) (t := 3) (c := [.int .i64 X]) (by simp)
        have hyb := kp.get (b := yb) (t := 3) (c := [.int .i64 Y]) (by simp)
        have b89 := kp.but
        have z8 := bC.size
        have z9 := b89.size
        have b9 : But (fun x => x = g) U w9 := (hbr.step bC (fun _ _ f => f.elim)).step b89 (fun _ _ f => f.elim)
        obtain ⟨r', hr'⟩ := hlU
        have hl0 := (b9.block lo (size_of_heap hr') (by omega)).trans hr'
        have hJn : ∃ ff, Cells w9 g 3 (tab .i64 Z ff) ∧ Dn Sp Wd Ht N M J ff (mc * M + bl) k 0 := ⟨ff, (hff.but bC (not_nowhere _)).but b89 (not_nowhere _), hdn⟩
        have C9 := C1.but b89 (not_nowhere _)
        have gS9 := gS2.but b89 (not_nowhere _)
        clear kp hff hdn C1 gS2 gS bC b89
        gi_wp2_with fail
        refine range_in (T := fun x => x = g) (fun n V => ∃ ff, Cells V g 3 (tab .i64 Z ff) ∧ Dn Sp Wd Ht N M J ff (mc * M + bl) k n) (pixels_iter ⟨mc, bl, pa, P, x, y, wi, hh⟩ X Y w8.heap.size xb yb hok ⟨X0, by omega⟩ ⟨Y0, by omega⟩) hl0 rfl (enters_of Try.func72 (by kernel_rfl) rfl) (fun _ => rfl)
          (fun V hV => ⟨hsb2.but hV (by omega), hxb.but hV (by omega), hyb.but hV (by omega)⟩) (by rintro x rfl; omega) (fun i U U' hj hk => by obtain ⟨ff, h1, h2⟩ := hj; exact ⟨ff, (hk _ rfl).trans h1, h2⟩) hJn ?_ ?_
        · intro lo2 n V K2 hlo2 hlt2 hn hbV hJ1 hK2
          dsimp only at hn
          gi_wp2_with fail
          refine hK2 _ _ (But.refl _ _) ?_
          clear hJ1 hK2 hbV
          intro V2 hV2 hl2 hbV2 hJ2
          obtain ⟨f2, hf2, hd2⟩ := hJ2
          have q0 : 0 ≤ (n : Int) % wi := Int.emod_nonneg _ (by omega)
          have q1 : (n : Int) % wi < wi := Int.emod_lt_of_pos _ (by omega)
          have q2 : 0 ≤ (n : Int) / wi := Int.ediv_nonneg (by omega) (by omega)
          obtain ⟨px, hpx, px0⟩ : ∃ px, X + (n : Int) % wi = px ∧ 0 ≤ px := ⟨_, rfl, by omega⟩
          obtain ⟨py, hpy, py0⟩ : ∃ py, Y + (n : Int) / wi = py ∧ 0 ≤ py := ⟨_, rfl, by omega⟩
          have HPX : Hid (pX (Sp mc bl) k n = px ∧ pY (Sp mc bl) k n = py) := by
            rw [HSP.out]
            refine ⟨?_, ?_⟩
            · show x + (k : Int) % 8 * wi + (n : Int) % wi = px
              rw [HX.out, hpx]
            · show y + (k : Int) / 8 * hh + (n : Int) / wi = py
              rw [HY.out, hpy]
          clear q0 q1 q2
          have hb5 : But (fun x => x = g) w5 V2 := (hbU.trans b9).trans hbV2
          have gP := (kk.get (b := PB) (t := 23) (c := pC Wd Ht m q i0 c) (by simp)).but hb5 (by omega)
          have c0 := gP.at 0
          have c1 := gP.at 1
          simp only [List.getElem?_cons_zero, List.getElem?_cons_succ] at c0 c1
          rw [hpx, hpy]
          by_cases hin : px < Wd ∧ py < Ht
          · obtain ⟨hx1, hy1⟩ := hin
            have hq : (Sp mc bl).wide * (Sp mc bl).high = wi * hh := by rw [HSP.out]
            have hPi : (partsN m : Int) = (P : Int) := by rw [HPP.out]
            obtain ⟨jn, hjn, hjZ⟩ : ∃ jn : Nat, (py * Wd + px) * (P : Int) + pa = (jn : Int) ∧ jn < Z := by
              have a0 : 0 ≤ py * Wd := Int.mul_nonneg py0 (by omega)
              have a1 : py * Wd ≤ (Ht - 1) * Wd := Int.mul_le_mul_of_nonneg_right (by omega) (by omega)
              have a2 : (Ht - 1) * Wd = Wd * Ht - Wd := by rw [Int.sub_mul, Int.one_mul, Int.mul_comm]
              have a3 : 0 ≤ (py * Wd + px) * (P : Int) := Int.mul_nonneg (by omega) (by omega)
              have a4 : (py * Wd + px) * (P : Int) ≤ (Wd * Ht - 1) * (P : Int) := Int.mul_le_mul_of_nonneg_right (by omega) (by omega)
              have a5 : (Wd * Ht - 1) * (P : Int) = Wd * Ht * (P : Int) - (P : Int) := by rw [Int.sub_mul, Int.one_mul]
              have a6 : Wd * Ht * (P : Int) = (Z : Int) := by rw [← hPi]; exact hZ
              exact ⟨((py * Wd + px) * (P : Int) + pa).toNat, by omega, by omega⟩
            have hpj : pJ Wd (Sp mc bl) k n = jn := by
              unfold pJ
              rw [HPX.out.1, HPX.out.2, HSP.out]
              show ((py * Wd + px) * (P : Int) + pa).toNat = jn
              rw [hjn]; rfl
            have hJv : J jn = cv := by
              rw [← hpj, hC mc bl k n hmcN hblM hkN (by rw [hq]; exact hn) (by rw [HPX.out.1]; exact hx1) (by rw [HPX.out.2]; exact hy1), ← HCV.out, HFK.out]
            have hd3 := hd2.put hblM cv (by rw [hpj]; exact hJv)
            rw [hpj] at hd3
            have gV := (kk.get (b := pb) (t := 71) (c := [.slice (some ⟨g, 0, none⟩) Z Z]) (by simp)).but hb5 (by omega)
            have gS := gS9.but hbV2 (by omega)
            have gC := C9.but hbV2 (by omega)
            have HS12 : ∀ V, But Nowhere V2 V → (V.cell? ⟨pb, 0, none⟩ = some (.slice (some ⟨g, 0, none⟩) Z Z) ∧ V.cell? ⟨cb, 0, none⟩ = some (.int .i64 cv) ∧ (V.cell? ⟨PB, 0, none⟩ = some (.int .i64 Wd) ∧ V.cell? ⟨PB, 1, none⟩ = some (.int .i64 Ht) ∧ V.cell? ⟨PB, 2, none⟩ = some (.int .i64 m) ∧ V.cell? ⟨PB, 3, none⟩ = some (.int .i64 q) ∧ V.cell? ⟨PB, 4, none⟩ = some (.int .i64 i0) ∧ V.cell? ⟨PB, 5, none⟩ = some (.int .i64 c)) ∧ (V.cell? ⟨sb, 0, none⟩ = some (.int .i64 (mc : Int)) ∧ V.cell? ⟨sb, 1, none⟩ = some (.int .i64 (bl : Int)) ∧ V.cell? ⟨sb, 2, none⟩ = some (.int .i64 pa) ∧ V.cell? ⟨sb, 3, none⟩ = some (.int .i64 P) ∧ V.cell? ⟨sb, 4, none⟩ = some (.int .i64 x) ∧ V.cell? ⟨sb, 5, none⟩ = some (.int .i64 y) ∧ V.cell? ⟨sb, 6, none⟩ = some (.int .i64 wi) ∧ V.cell? ⟨sb, 7, none⟩ = some (.int .i64 hh))) := fun V b =>
              have zV := gV.but b (not_nowhere _)
              have zC := gC.but b (not_nowhere _)
              have zP := gP.but b (not_nowhere _)
              have zS := gS.but b (not_nowhere _)
              ⟨zV.at 0, zC.at 0, ⟨zP.at 0, zP.at 1, zP.at 2, zP.at 3, zP.at 4, zP.at 5⟩, ⟨zS.at 0, zS.at 1, zS.at 2, zS.at 3, zS.at 4, zS.at 5, zS.at 6, zS.at 7⟩⟩
            have bu2 : But Nowhere V2 V2.drew := (But.refl _ _).drew
            have hj0 : (0 : Int) ≤ (jn : Int) := by omega
            have hj1 : (jn : Int) < (Z : Int) := by omega
            clear gV gC gP gS hJv hpj hq hPi hd2
            gi_wp2_with fail
            refine round_region_till (S := fun V => V.cell? ⟨pb, 0, none⟩ = some (.slice (some ⟨g, 0, none⟩) Z Z) ∧ V.cell? ⟨cb, 0, none⟩ = some (.int .i64 cv) ∧ (V.cell? ⟨PB, 0, none⟩ = some (.int .i64 Wd) ∧ V.cell? ⟨PB, 1, none⟩ = some (.int .i64 Ht) ∧ V.cell? ⟨PB, 2, none⟩ = some (.int .i64 m) ∧ V.cell? ⟨PB, 3, none⟩ = some (.int .i64 q) ∧ V.cell? ⟨PB, 4, none⟩ = some (.int .i64 i0) ∧ V.cell? ⟨PB, 5, none⟩ = some (.int .i64 c)) ∧ (V.cell? ⟨sb, 0, none⟩ = some (.int .i64 (mc : Int)) ∧ V.cell? ⟨sb, 1, none⟩ = some (.int .i64 (bl : Int)) ∧ V.cell? ⟨sb, 2, none⟩ = some (.int .i64 pa) ∧ V.cell? ⟨sb, 3, none⟩ = some (.int .i64 P) ∧ V.cell? ⟨sb, 4, none⟩ = some (.int .i64 x) ∧ V.cell? ⟨sb, 5, none⟩ = some (.int .i64 y) ∧ V.cell? ⟨sb, 6, none⟩ = some (.int .i64 wi) ∧ V.cell? ⟨sb, 7, none⟩ = some (.int .i64 hh))) (R := fun _ => True) (k := 8) (m := 100) (by kernel_rfl) (by kernel_rfl) (by rintro ⟨_, _, ⟨q, _⟩⟩; cases q) (HS12 _ bu2) trivial ?_
            (refine Walk.take (i := 0) (oi := { dst := some 52, op := Op.load 71 (Operand.tmp 7), type := 71, pos := "plane.go:144", after := #[], guard := none }) (v := ?_) rfl (by kernel_rfl) (by kernel_rfl) (by kernel_rfl) (by kernel_rfl) (fun _ _ _ h => h) (Or.inl ⟨by rfl, ?_⟩) ?_; rotate_left; (intro w hw; have hS1 := hw.1 (by kernel_rfl); clear hw; (try dsimp only at hS1); (try go_split_ands); go_simp; try (with_reducible rfl)); simp only [Act.put, List.setIfInBounds_toArray, List.set_cons_zero, List.set_cons_succ])
            (refine Walk.take (i := 1) (oi := { dst := some 53, op := Op.load 91 (Operand.tmp 8), type := 91, pos := "plane.go:144", after := #[], guard := none }) (v := ?_) rfl (by kernel_rfl) (by kernel_rfl) (by kernel_rfl) (by kernel_rfl) (fun _ _ _ h => h) (Or.inl ⟨by rfl, ?_⟩) ?_; rotate_left; (intro w hw; have hS1 := hw.1 (by kernel_rfl); clear hw; (try dsimp only at hS1); (try go_split_ands); go_simp; try (with_reducible rfl)); simp only [Act.put, List.setIfInBounds_toArray, List.set_cons_zero, List.set_cons_succ])
            (refine Walk.take (i := 2) (oi := { dst := some 54, op := Op.load 23 (Operand.tmp 4), type := 23, pos := "plane.go:144", after := #[], guard := none }) (v := ?_) rfl (by kernel_rfl) (by kernel_rfl) (by kernel_rfl) (by kernel_rfl) (fun _ _ _ h => h) (Or.inl ⟨by rfl, ?_⟩) ?_; rotate_left; (intro w hw; have hS1 := hw.1 (by kernel_rfl); clear hw; (try dsimp only at hS1); (try go_split_ands); go_simp; try (with_reducible rfl)); simp only [Act.put, List.setIfInBounds_toArray, List.set_cons_zero, List.set_cons_succ])
            (refine Walk.take (i := 3) (oi := { dst := some 55, op := Op.move (Operand.tmp 12), type := 3, pos := "plane.go:144", after := #[], guard := none }) (v := ?_) rfl (by kernel_rfl) (by kernel_rfl) (by kernel_rfl) (by kernel_rfl) (fun _ _ _ h => h) (Or.inl ⟨by rfl, ?_⟩) ?_; rotate_left; (intro w hw; clear hw; (try go_split_ands); go_simp; try (with_reducible rfl)); simp only [Act.put, List.setIfInBounds_toArray, List.set_cons_zero, List.set_cons_succ])
            (refine Walk.take (i := 4) (oi := { dst := some 56, op := Op.move (Operand.tmp 13), type := 3, pos := "plane.go:144", after := #[], guard := none }) (v := ?_) rfl (by kernel_rfl) (by kernel_rfl) (by kernel_rfl) (by kernel_rfl) (fun _ _ _ h => h) (Or.inl ⟨by rfl, ?_⟩) ?_; rotate_left; (intro w hw; clear hw; (try go_split_ands); go_simp; try (with_reducible rfl)); simp only [Act.put, List.setIfInBounds_toArray, List.set_cons_zero, List.set_cons_succ])
            (refine Walk.take (i := 6) (oi := { dst := some 58, op := Op.load 3 (Operand.tmp 11), type := 3, pos := "plane.go:144", after := #[], guard := none }) (v := ?_) rfl (by kernel_rfl) (by kernel_rfl) (by kernel_rfl) (by kernel_rfl) (fun _ _ _ h => h) (Or.inl ⟨by rfl, ?_⟩) ?_; rotate_left; (intro w hw; have hS1 := hw.1 (by kernel_rfl); clear hw; (try dsimp only at hS1); (try go_split_ands); go_simp; try (with_reducible rfl)); simp only [Act.put, List.setIfInBounds_toArray, List.set_cons_zero, List.set_cons_succ])
            (refine Walk.go (i := 5) (o := { dst := some 57, op := Op.call { callee := Callee.value (Operand.func 47), args := #[Operand.tmp 53, Operand.tmp 54, Operand.tmp 55, Operand.tmp 56], argTypes := #[91, 23, 3, 3] }, type := 3, pos := "plane.go:144", after := #[{ on := 1, ground := Ground.data }, { on := 2, ground := Ground.data }, { on := 3, ground := Ground.data }, { on := 4, ground := Ground.data }], guard := none }) (by kernel_rfl) rfl (fun K hK => ?_); go_simp; ((go_at_call 47; refine (place_any ⟨mc, bl, pa, P, x, y, wi, hh⟩ Wd Ht m q i0 c px py _ hok (by omega) (by omega) (by omega)).mono ?_; rintro e V1 ⟨rfl, d1⟩; replace bu2 := bu2.trans d1; clear d1; dsimp only; rw [hjn])); refine hK.out _ _ (⟨fun _ => HS12 _ bu2, fun _ => trivial⟩) ?_; clear hK K; try simp only [Act.put, List.setIfInBounds_toArray, List.set_cons_zero, List.set_cons_succ])
            (refine Walk.take (i := 7) (oi := { dst := some 59, op := Op.indexAddr 71 (Operand.tmp 52) (Operand.tmp 57), type := 0, pos := "plane.go:144", after := #[{ on := 0, ground := Ground.data }, { on := 5, ground := Ground.data }, { on := 0, ground := Ground.phase }, { on := 1, ground := Ground.phase }, { on := 2, ground := Ground.phase }, { on := 3, ground := Ground.phase }, { on := 4, ground := Ground.phase }, { on := 5, ground := Ground.phase }, { on := 6, ground := Ground.phase }], guard := none }) (v := ?_) rfl (by kernel_rfl) (by kernel_rfl) (by kernel_rfl) (by kernel_rfl) (fun _ _ _ h => h) (Or.inl ⟨by rfl, ?_⟩) ?_; rotate_left; (intro w hw; clear hw; (try go_split_ands); go_simp; try (with_reducible rfl)); simp only [Act.put, List.setIfInBounds_toArray, List.set_cons_zero, List.set_cons_succ])
            have hf3 := hf2.but bu2 (not_nowhere _)
            have c9 := hf3.cell jn hjZ
            have f9 := hf3.frozen jn
            (refine Walk.go (i := 8) (o := { dst := none, op := Op.store 3 (Operand.tmp 59) (Operand.tmp 58), type := 0, pos := "plane.go:144", after := #[{ on := 7, ground := Ground.data }, { on := 6, ground := Ground.data }, { on := 5, ground := Ground.chain }, { on := 0, ground := Ground.phase }, { on := 1, ground := Ground.phase }, { on := 2, ground := Ground.phase }, { on := 3, ground := Ground.phase }, { on := 4, ground := Ground.phase }, { on := 5, ground := Ground.phase }, { on := 6, ground := Ground.phase }], guard := none }) (by kernel_rfl) rfl (fun K hK => ?_); go_simp; (skip); refine hK.out _ _ (⟨fun q => absurd q (by decide), fun _ => trivial⟩) ?_; clear hK K; try simp only [Act.put, List.setIfInBounds_toArray, List.set_cons_zero, List.set_cons_succ])
            refine Walk.done (by kernel_rfl) ?_ _
            have hf4 := hf3.set jn (.int .i64 cv)
            rw [tab_set] at hf4
            have HE : Hid _ := And.intro (But.setCell (S := fun x => x = g) (p := ⟨g, jn, none⟩) (bu2.mono (T := fun x => x = g) (fun _ _ f => f.elim)) (fun _ => rfl) (.int .i64 cv)) (And.intro hf4 hd3)
            clear hf3 hf4 hd3 c9 f9 HS12 bu2
            gi_wp2_with fail
            first | exact ⟨_, HE.out.2.1, HE.out.2.2⟩ | exact ⟨HE.out.1, _, HE.out.2.1, HE.out.2.2⟩
          · have hd3 := hd2.skip hblM (by rw [HPX.out.1, HPX.out.2]; exact hin)
            clear hd2 gP
            by_cases hx1 : px < Wd
            · have hy1 : ¬ py < Ht := fun e => hin ⟨hx1, e⟩
              gi_wp2_with fail
              first | exact ⟨_, hf2, hd3⟩ | exact ⟨But.refl _ _, _, hf2, hd3⟩
            · gi_wp2_with fail
              first | exact ⟨_, hf2, hd3⟩ | exact ⟨But.refl _ _, _, hf2, hd3⟩
        · intro W' hb9 hJ9
          obtain ⟨f3, hf3, hd3⟩ := hJ9
          have hd4 : Dn Sp Wd Ht N M J f3 (mc * M + bl) (k + 1) 0 := Dn.nextK (by rw [HSP.out]; exact hd3) hblM
          have HE : Hid _ := And.intro (b9.trans hb9) (And.intro hf3 hd4)
          clear hf3 hd3 hd4
          gi_wp2_with fail
          go_roundw
          case rel => exact ⟨k + 1, by omega, by go_num, HE.out.1, f3, HE.out.2.1, HE.out.2.2⟩
          case measure => simp [intOf]; try omega
      · obtain rfl : k = 64 := by omega
        have hX : ∃ ff, Cells wr g 3 (tab .i64 Z ff) ∧ Dn Sp Wd Ht N M J ff (o + 1) 0 0 := by
          obtain ⟨ff, h1, h2⟩ := hJ
          rw [HIB.out] at h2
          exact ⟨ff, h1, h2.nextO⟩
        clear hJ
        gi_wp2_with fail
        all_goals first | exact hX | exact ⟨hbr, hX⟩
  · intro W' hb hJ hD hlt
    obtain ⟨ff, hff, hdn⟩ := hJ
    have hall := hdn.all hS
    have hcc := hff
    rw [tab_congr .i64 Z ff J hall] at hcc
    have gB := (kk.get (b := w.heap.size) (t := 75) (c := byPN) (by simp)).but hb (by omega)
    have gP := (kk.get (b := PB) (t := 23) (c := pC Wd Ht m q i0 c) (by simp)).but hb (by omega)
    have gV := (kk.get (b := pb) (t := 71) (c := [.slice (some ⟨g, 0, none⟩) Z Z]) (by simp)).but hb (by omega)
    have c5 := gB.at 5
    have c2 := gP.at 2
    have c0 := gV.at 0
    simp only [List.getElem?_cons_zero, List.getElem?_cons_succ] at c5 c2 c0
    have HBW : Hid (But Nowhere w W') := (kk.but.mono (T := fun _ => False) (fun _ _ f => f)).step hb (fun k hk f => by omega)
    gi_wp2_with fail
    have hcv : View W' .i64 (.slice (some ⟨g, 0, none⟩) Z Z) ((List.range Z).map J) := Tb.view (t := 3) ⟨g, rfl, hcc⟩
    have hz5 := kk.but.size
    clear c0 c2 c5 gB gP gV hcc
    by_cases hm1 : m = 1
    · have HBK : Hid (backL m ((List.range Z).map J) = (List.range Z).map J) := by show backL m ((List.range Z).map J) = (List.range Z).map J; unfold backL; rw [if_pos hm1]
      subst hm1
      refine (callsIn_wide.2 (turnedN_gray _ _ _ _ _)).mono ?_
      rintro e w9 ⟨rfl, rfl⟩
      gi_wp2_with fail
      refine ⟨by simp, .inl ⟨_, _, rfl, run_takeDeferred hD, ?_⟩⟩
      refine ⟨_, results_tmp rfl _ _ _, ⟨_, rfl, ?_⟩, ?_⟩
      · rw [HBK.out]; exact hcv.butS (S := fun k => k = w5.heap.size) (But.putObj (S := fun k => k = w5.heap.size) (But.refl _ _) (fun _ => rfl) _) (fun b off sp n cap e _ => by cases e; omega)
      · exact But.putObj (HBW.out) (fun q => by omega) _
    · have HBK : Hid (backL m ((List.range Z).map J) = (List.range Z).map (turnA back1 back2 back3 ((List.range Z).map J))) := by show backL m ((List.range Z).map J) = _; unfold backL; rw [if_neg hm1, List.length_map, List.length_range]
      have hp3 : partsN m = 3 := by unfold partsN; rw [if_neg hm1]
      rw [hp3] at hZ
      refine (callsIn_wide.2 (turnedNBack_any m hm1 _ ((List.range Z).map J) Z _ hcv (by simp) (fun x hx => by simp only [List.mem_map, List.mem_range] at hx; obtain ⟨j, hj, rfl⟩ := hx; exact hJx j hj) (Wd * Ht).toNat (by omega) hZs2)).mono ?_
      rintro e w9 ⟨rfl, hc9, b9⟩
      have hg9 := hc9.lt
      gi_wp2_with fail
      refine ⟨by simp, .inl ⟨_, _, rfl, run_takeDeferred ((b9.block _ hlt (not_nowhere _)).trans hD), ?_⟩⟩
      refine ⟨_, results_tmp rfl _ _ _, ⟨_, rfl, ?_⟩, ?_⟩
      · rw [HBK.out]; exact Tb.view (t := 3) ⟨_, rfl, hc9.but (S := fun k => k = w5.heap.size) (But.putObj (S := fun k => k = w5.heap.size) (But.refl _ _) (fun _ => rfl) _) (by omega)⟩
      · exact But.putObj (HBW.out.trans b9) (fun q => by omega) _

end Go.Proofs.Ytppbnmlgilgnnaa
