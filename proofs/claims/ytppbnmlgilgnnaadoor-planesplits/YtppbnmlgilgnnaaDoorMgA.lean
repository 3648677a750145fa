import Derived.Test.YtppbnmlgilgnnaaDoorPl6
import Derived.Test.YtppbnmlgilgnnaaDoorPl10
import Derived.Test.YtppbnmlgilgnnaaDoorPl9
import Derived.Test.YtppbnmlgilgnnaaDoorPl11
import Derived.Test.YtppbnmlgilgnnaaDoorPl12

/- A SAMPLE of secrets. -/
namespace Go.Proofs.YtppbnmlgilgnnaaDoor
open Go.ChangeShapes Go.WideShapes Go.ChangeAt Go.RowKit Go.Shelf

attribute [local go_sem] Oper.semAt_some wide_fn wide_depth Fence.inRound_fn Fence.inRound_depth

theorem shr_halved (a n : Int) (h : n = 0 ∨ n = 1 ∨ n = 2) : a / 2 ^ (shN n).toNat = halved a n := by
  rcases h with rfl | rfl | rfl
  · rw [show (shN 0).toNat = 0 by decide]; simp [halved]
  · rw [show (shN 1).toNat = 1 by decide]; simp [halved]
  · rw [show (shN 2).toNat = 2 by decide]; simp [halved]

set_option maxHeartbeats 6400000 in
set_option maxRecDepth 100000 in
theorem sampleS_any (Wd Ht m q i0 c : Int) (s : Spot) (k : Int) (v : Value) (l : List Int) (w : World) (hT : Tab w) (hv : View w .i64 v l) (hs : s.ok) (hpp : s.part < s.parts) (hk : 0 ≤ k ∧ k < 64) (hW : 1 ≤ Wd ∧ Wd ≤ 65535) (hH : 1 ≤ Ht ∧ Ht ≤ 65535) (hx : ∀ x ∈ l, 0 ≤ x ∧ x ≤ 255) (hl : Wd * Ht * s.parts ≤ l.length) :
    Calls Tryd.prog 67 #[.agg byPS.toArray, pV Wd Ht m q i0 c, v, s.val, .int .i64 k] w fun e w' => e = .returned (S64 (sampleF Wd Ht l s k)) ∧ But Nowhere w w' := by
  have hs' := hs
  obtain ⟨s1, s2, s3, s4, s5, s6, s7, s8, s9, s10, s11, s12⟩ := hs'
  have m0 : 0 ≤ k % 8 * s.wide := Int.mul_nonneg (by omega) (by omega)
  have m1 : k % 8 * s.wide ≤ 8 * 2 := Int.mul_le_mul (by omega) s6 (by omega) (by omega)
  have m2 : 0 ≤ k / 8 * s.high := Int.mul_nonneg (by omega) (by omega)
  have m3 : k / 8 * s.high ≤ 8 * 2 := Int.mul_le_mul (by omega) s8 (by omega) (by omega)
  obtain ⟨X, hX, X0, X1⟩ : ∃ X, s.x + k % 8 * s.wide = X ∧ 0 ≤ X ∧ X ≤ 70016 := ⟨_, rfl, by omega, by omega⟩
  obtain ⟨Y, hY, Y0, Y1⟩ : ∃ Y, s.y + k / 8 * s.high = Y ∧ 0 ≤ Y ∧ Y ≤ 70016 := ⟨_, rfl, by omega, by omega⟩
  obtain ⟨C, hC, hC4⟩ : ∃ C, s.wide * s.high = C ∧ (C = 1 ∨ C = 2 ∨ C = 4) := by
    refine ⟨_, rfl, ?_⟩
    have e1 : s.wide = 1 ∨ s.wide = 2 := by omega
    have e2 : s.high = 1 ∨ s.high = 2 := by omega
    rcases e1 with e1 | e1 <;> rcases e2 with e2 | e2 <;> rw [e1, e2] <;> omega
  unfold sampleF
  rw [hX, hY, hC]
  have HX : Hid (s.x + k % 8 * s.wide = X) := hX
  have HY : Hid (s.y + k / 8 * s.high = Y) := hY
  have HC : Hid (s.wide * s.high = C) := hC
  clear m0 m1 m2 m3 hX hY
  have hI := fun n => idxF_in Wd Ht s X Y n hW.1 hH.1 X0 Y0 hs hpp
  have hG := fun n => gat_in hx (idxF Wd Ht s X Y n)
  have hA := accF_in (fun n => gat l (idxF Wd Ht s X Y n)) hG
  have e0 : wrap64 (s.wide * s.high) = C := by rw [hC]; exact w64 _ (by omega)
  have e1 : C.tdiv 2 = C / 2 := Int.tdiv_eq_ediv_of_nonneg (by omega)
  clear hC
  obtain ⟨vo, vc, rfl⟩ := hv.slice
  refine (callsIn_wide (n := 3)).1 ?_
  refine callsIn_of_wp_quiet Tryd.func67 rfl trivial ?_ rfl
  simp only [Tryd.ntmps67, List.size_toArray, List.length_cons, List.length_nil, Nat.reduceAdd, Nat.reduceSub, Array.replicate_succ, Array.replicate_zero, List.push_toArray, List.append_toArray, List.nil_append, List.cons_append]
  have kk := ((((((Keep.start w).made 82 (byPS)).made 23 (pC Wd Ht m q i0 c)).made 36 ([.slice vo l.length vc])).made 103 (s.cells)).made 72 ([.int .i64 0]))
  simp only [World.size_alloc] at kk
  gi_wp2_with fail
  revert kk
  generalize (((((w.alloc (.cells byPS.toArray 82)).alloc (.cells #[.int .i64 Wd, .int .i64 Ht, .int .i64 m, .int .i64 q, .int .i64 i0, .int .i64 c] 23)).alloc (.cells #[.slice vo l.length vc] 36)).alloc (.cells #[.int .i64 s.mcu, .int .i64 s.block, .int .i64 s.part, .int .i64 s.parts, .int .i64 s.x, .int .i64 s.y, .int .i64 s.wide, .int .i64 s.high] 103)).alloc (.cells #[.int .i64 0] 72)) = W0
  intro kk
  refine (callsIn_wide.2 (of_any _ _)).mono ?_
  rintro e w1 ⟨rfl, b1⟩
  replace kk := kk.step b1
  clear b1
  have hSUM : w.heap.size + 1 + 1 + 1 + 1 < w1.heap.size := (kk.get (b := w.heap.size + 1 + 1 + 1 + 1) (t := 72) (c := [.int .i64 0]) (by simp)).lt
  have hSUM3 : w.heap.size + 1 + 1 + 1 < w1.heap.size := (kk.get (b := w.heap.size + 1 + 1 + 1) (t := 103) (c := s.cells) (by simp)).lt
  have hsp := (kk.get (b := w.heap.size + 1 + 1 + 1) (t := 103) (c := s.cells) (by simp))
  have c0 := hsp.at 0
  have c1 := hsp.at 1
  have c2 := hsp.at 2
  have c3 := hsp.at 3
  have c4 := hsp.at 4
  have c5 := hsp.at 5
  have c6 := hsp.at 6
  have c7 := hsp.at 7
  simp only [List.getElem?_cons_zero, List.getElem?_cons_succ] at c0 c1 c2 c3 c4 c5 c6 c7
  replace kk := kk.made 72 [.int .i64 (C / 2)]
  gi_wp2_with fail
  clear c0 c1 c2 c3 c4 c5 c6 c7 hsp
  revert kk
  generalize hsum : w1.heap.size = sumb at *
  generalize w1.alloc (.cells #[.int .i64 (C / 2)] 72) = w2
  intro kk
  have n2 := kk.head.lt
  refine (callsIn_wide.2 (pixels_any s k _ hs hk)).mono ?_
  rintro e w3 ⟨xb, yb, rfl, kp⟩
  rw [HX.out, HY.out] at kp
  replace kk := kk.step kp.but
  have nx := kp.new (xb, 3, [.int .i64 X]) (by simp)
  have ny := kp.new (yb, 3, [.int .i64 Y]) (by simp)
  simp only at nx ny
  have hsb := kp.get (b := w2.heap.size) (t := 103) (c := s.cells) (by simp)
  have hxb := kp.get (b := xb) (t := 3) (c := [.int .i64 X]) (by simp)
  have hyb := kp.get (b := yb) (t := 3) (c := [.int .i64 Y]) (by simp)
  have hV3 := hv.but kk.but
  have hT3 := hT.but kk.but
  clear kp
  gi_wp2_with fail
  refine range_out (T := fun x => x = sumb) (fun i W => Cells W sumb 72 [.int .i64 (C / 2 + accF (fun n => gat l (idxF Wd Ht s X Y n)) i)]) (pixels_iter s X Y w2.heap.size xb yb hs ⟨X0, by omega⟩ ⟨Y0, by omega⟩) rfl (enters_of Tryd.func97 (by kernel_rfl) rfl) (fun _ => rfl)
    (fun U hU => ⟨hsb.but hU (by omega), hxb.but hU (by omega), hyb.but hU (by omega)⟩) (by rintro x rfl; exact kk.head.lt) (fun i U U' hj hk => (hk _ rfl).trans hj) (by simpa [accF] using kk.head) ?_ ?_
  · intro lo i W K hlo hlt hi hbW hJ hK
    rw [HC.out] at hi
    gi_wp2_with fail
    refine hK _ _ (But.refl _ _) ?_
    clear hJ hK hbW
    intro U hU hlU hbU hJ
    have hI' := hI i
    have hG' := hG i
    have hA' := hA i
    have hwU : But (fun x => x = sumb) w U := (kk.but.mono (fun _ _ f => f.elim)).trans hbU
    have hVU := hv.butS hwU (hv.off (fun b hb => by omega))
    obtain ⟨x, hx0⟩ : ∃ x, min (X + (i : Int) % s.wide) (Wd - 1) = x := ⟨_, rfl⟩
    obtain ⟨y, hy0⟩ : ∃ y, min (Y + (i : Int) / s.wide) (Ht - 1) = y := ⟨_, rfl⟩
    obtain ⟨j, hj0⟩ : ∃ j, idxF Wd Ht s X Y i = j := ⟨_, rfl⟩
    have hj1 : (y * Wd + x) * s.parts + s.part = j := by rw [← hj0, ← hx0, ← hy0]; rfl
    rw [hx0, hy0, hj0] at hI'
    rw [hj0] at hG'
    obtain ⟨⟨x0, x1⟩, ⟨y0, y1⟩, j0, j1⟩ := hI'
    have hjl : j.toNat < l.length := by omega
    have hgj : l[j.toNat]'hjl = gat l j := by unfold gat; rw [List.getD_eq_getElem?_getD, List.getElem?_eq_getElem hjl]; rfl
    obtain ⟨-, vb, voff, rfl, hvb, hvc⟩ := hVU.at j.toNat hjl
    rw [hgj] at hvc
    have hac : accF (fun n => gat l (idxF Wd Ht s X Y n)) (i + 1) = accF (fun n => gat l (idxF Wd Ht s X Y n)) i + gat l j := by show _ + gat l (idxF Wd Ht s X Y i) = _; rw [hj0]
    revert hA'
    generalize hacc : accF (fun n => gat l (idxF Wd Ht s X Y n)) i = A at *
    intro hA'
    rw [hac]
    clear hac hacc hgj hj0 hA hG hI
    have hE : w.heap.size + 1 + 1 + 1 < sumb := by omega
    have gB := (kk.get (b := w.heap.size) (t := 82) (c := byPS) (by simp)).but hbU (by omega)
    have gP := (kk.get (b := w.heap.size + 1) (t := 23) (c := pC Wd Ht m q i0 c) (by simp)).but hbU (by omega)
    have gV := (kk.get (b := w.heap.size + 1 + 1) (t := 36) (c := [.slice (some ⟨vb, voff, none⟩) l.length vc]) (by simp)).but hbU (by omega)
    have gS := (kk.get (b := w.heap.size + 1 + 1 + 1) (t := 103) (c := s.cells) (by simp)).but hbU (by omega)
    obtain ⟨p0, p1, p2, p3, p4, p5⟩ : (U.cell? ⟨w.heap.size + 1, 0, none⟩ = some (.int .i64 Wd)) ∧ (U.cell? ⟨w.heap.size + 1, 1, none⟩ = some (.int .i64 Ht)) ∧ (U.cell? ⟨w.heap.size + 1, 2, none⟩ = some (.int .i64 m)) ∧ (U.cell? ⟨w.heap.size + 1, 3, none⟩ = some (.int .i64 q)) ∧ (U.cell? ⟨w.heap.size + 1, 4, none⟩ = some (.int .i64 i0)) ∧ (U.cell? ⟨w.heap.size + 1, 5, none⟩ = some (.int .i64 c)) := ⟨gP.at 0, gP.at 1, gP.at 2, gP.at 3, gP.at 4, gP.at 5⟩
    have HS : ∀ V, But Nowhere U V → ((V.cell? ⟨w.heap.size, 1, none⟩ = some (.func (.func 68) #[] #[]) ∧ V.cell? ⟨sumb, 0, none⟩ = some (.int .i64 (C / 2 + A)) ∧ V.cell? ⟨w.heap.size + 1 + 1, 0, none⟩ = some (.slice (some ⟨vb, voff, none⟩) l.length vc) ∧ V.cell? ⟨vb, voff + j.toNat, none⟩ = some (.int .i64 (gat l j))) ∧
        (V.cell? ⟨w.heap.size + 1, 0, none⟩ = some (.int .i64 Wd) ∧ V.cell? ⟨w.heap.size + 1, 1, none⟩ = some (.int .i64 Ht) ∧ V.cell? ⟨w.heap.size + 1, 2, none⟩ = some (.int .i64 m) ∧ V.cell? ⟨w.heap.size + 1, 3, none⟩ = some (.int .i64 q) ∧ V.cell? ⟨w.heap.size + 1, 4, none⟩ = some (.int .i64 i0) ∧ V.cell? ⟨w.heap.size + 1, 5, none⟩ = some (.int .i64 c)) ∧
        V.cell? ⟨w.heap.size + 1 + 1 + 1, 0, none⟩ = some (.int .i64 s.mcu) ∧ V.cell? ⟨w.heap.size + 1 + 1 + 1, 1, none⟩ = some (.int .i64 s.block) ∧ V.cell? ⟨w.heap.size + 1 + 1 + 1, 2, none⟩ = some (.int .i64 s.part) ∧ V.cell? ⟨w.heap.size + 1 + 1 + 1, 3, none⟩ = some (.int .i64 s.parts) ∧ V.cell? ⟨w.heap.size + 1 + 1 + 1, 4, none⟩ = some (.int .i64 s.x) ∧ V.cell? ⟨w.heap.size + 1 + 1 + 1, 5, none⟩ = some (.int .i64 s.y) ∧ V.cell? ⟨w.heap.size + 1 + 1 + 1, 6, none⟩ = some (.int .i64 s.wide) ∧ V.cell? ⟨w.heap.size + 1 + 1 + 1, 7, none⟩ = some (.int .i64 s.high)) := fun V hb =>
      ⟨⟨hb.keeps (not_nowhere _) (gB.at 1), hb.keeps (not_nowhere _) (hJ.at 0), hb.keeps (not_nowhere _) (gV.at 0), hb.keeps (not_nowhere _) hvc⟩, ⟨hb.keeps (not_nowhere _) p0, hb.keeps (not_nowhere _) p1, hb.keeps (not_nowhere _) p2, hb.keeps (not_nowhere _) p3, hb.keeps (not_nowhere _) p4, hb.keeps (not_nowhere _) p5⟩,
        hb.keeps (not_nowhere _) (gS.at 0), hb.keeps (not_nowhere _) (gS.at 1), hb.keeps (not_nowhere _) (gS.at 2), hb.keeps (not_nowhere _) (gS.at 3), hb.keeps (not_nowhere _) (gS.at 4), hb.keeps (not_nowhere _) (gS.at 5), hb.keeps (not_nowhere _) (gS.at 6), hb.keeps (not_nowhere _) (gS.at 7)⟩
    have w1' : IntKind.i64.wrap (Wd - 1) = Wd - 1 := by rw [wrap_i64_eq]; exact w64 _ (by omega)
    have w2' : IntKind.i64.wrap (Ht - 1) = Ht - 1 := by rw [wrap_i64_eq]; exact w64 _ (by omega)
    have bu : But Nowhere U U.drew := (But.refl _ _).drew
    clear gB gP gV gS p2 p3 p4 p5 hvc
    gi_wp2_with fail
    refine round_region_till (S := fun x => x.cell? ⟨w.heap.size + 1, 0, none⟩ = some (.int .i64 Wd) ∧ x.cell? ⟨w.heap.size + 1, 1, none⟩ = some (.int .i64 Ht)) (R := fun _ => True) (k := 100) (m := 100) (by kernel_rfl) (by kernel_rfl) (by rintro ⟨_, _, ⟨q, _⟩⟩; cases q) ⟨p0, p1⟩ trivial ?_
    (refine Walk.take (i := 0) (oi := { dst := some 30, op := Op.move (Operand.tmp 13), type := 3, pos := "plane.go:129", after := #[], guard := none }) (v := ?_) rfl (by kernel_rfl) (by kernel_rfl) (by kernel_rfl) (by kernel_rfl) (fun _ _ _ h => h) (Or.inl ⟨by rfl, ?_⟩) ?_; rotate_left; (intro w hw; clear hw; (try go_split_ands); go_simp; try (with_reducible rfl)); simp only [Act.put, List.setIfInBounds_toArray, List.set_cons_zero, List.set_cons_succ])
    (refine Walk.take (i := 1) (oi := { dst := some 31, op := Op.fieldAddr 23 (Operand.tmp 6) 0, type := 0, pos := "plane.go:129", after := #[], guard := none }) (v := ?_) rfl (by kernel_rfl) (by kernel_rfl) (by kernel_rfl) (by kernel_rfl) (fun _ _ _ h => h) (Or.inl ⟨by rfl, ?_⟩) ?_; rotate_left; (intro w hw; clear hw; (try go_split_ands); go_simp; try (with_reducible rfl)); simp only [Act.put, List.setIfInBounds_toArray, List.set_cons_zero, List.set_cons_succ])
    (refine Walk.take (i := 2) (oi := { dst := some 32, op := Op.load 3 (Operand.tmp 31), type := 3, pos := "plane.go:129", after := #[{ on := 1, ground := Ground.data }], guard := none }) (v := ?_) rfl (by kernel_rfl) (by kernel_rfl) (by kernel_rfl) (by kernel_rfl) (fun _ _ _ h => h) (Or.inl ⟨by rfl, ?_⟩) ?_; rotate_left; (intro w hw; have hS1 := hw.1 (by kernel_rfl); clear hw; (try dsimp only at hS1); (try go_split_ands); go_simp; try (with_reducible rfl)); simp only [Act.put, List.setIfInBounds_toArray, List.set_cons_zero, List.set_cons_succ])
    (refine Walk.take (i := 3) (oi := { dst := some 33, op := Op.binOp BinOp.sub 3 (Operand.tmp 32) (Operand.const (Value.int IntKind.i64 1)) 3, type := 3, pos := "plane.go:129", after := #[{ on := 2, ground := Ground.data }], guard := none }) (v := ?_) rfl (by kernel_rfl) (by kernel_rfl) (by kernel_rfl) (by kernel_rfl) (fun _ _ _ h => h) (Or.inl ⟨by rfl, ?_⟩) ?_; rotate_left; (intro w hw; clear hw; (try go_split_ands); go_simp; try (with_reducible rfl)); simp only [Act.put, List.setIfInBounds_toArray, List.set_cons_zero, List.set_cons_succ])
    (refine Walk.take (i := 4) (oi := { dst := some 34, op := Op.call { callee := Callee.builtin Builtin.min, args := #[Operand.tmp 30, Operand.tmp 33], argTypes := #[3, 3] }, type := 3, pos := "plane.go:129", after := #[{ on := 0, ground := Ground.data }, { on := 3, ground := Ground.data }], guard := none }) (v := .int .i64 x) rfl (by kernel_rfl) (by kernel_rfl) (by kernel_rfl) (by kernel_rfl) (fun _ _ _ h => h) (Or.inl ⟨by rfl, ?_⟩) ?_)
    · intro w _
      go_simp
      rw [← hx0]
      (try split) <;> omega
    simp only [Act.put, List.setIfInBounds_toArray, List.set_cons_zero, List.set_cons_succ]
    (refine Walk.take (i := 5) (oi := { dst := some 35, op := Op.move (Operand.tmp 14), type := 3, pos := "plane.go:129", after := #[], guard := none }) (v := ?_) rfl (by kernel_rfl) (by kernel_rfl) (by kernel_rfl) (by kernel_rfl) (fun _ _ _ h => h) (Or.inl ⟨by rfl, ?_⟩) ?_; rotate_left; (intro w hw; clear hw; (try go_split_ands); go_simp; try (with_reducible rfl)); simp only [Act.put, List.setIfInBounds_toArray, List.set_cons_zero, List.set_cons_succ])
    (refine Walk.take (i := 6) (oi := { dst := some 36, op := Op.fieldAddr 23 (Operand.tmp 6) 1, type := 0, pos := "plane.go:129", after := #[], guard := none }) (v := ?_) rfl (by kernel_rfl) (by kernel_rfl) (by kernel_rfl) (by kernel_rfl) (fun _ _ _ h => h) (Or.inl ⟨by rfl, ?_⟩) ?_; rotate_left; (intro w hw; clear hw; (try go_split_ands); go_simp; try (with_reducible rfl)); simp only [Act.put, List.setIfInBounds_toArray, List.set_cons_zero, List.set_cons_succ])
    (refine Walk.take (i := 7) (oi := { dst := some 37, op := Op.load 3 (Operand.tmp 36), type := 3, pos := "plane.go:129", after := #[{ on := 6, ground := Ground.data }], guard := none }) (v := ?_) rfl (by kernel_rfl) (by kernel_rfl) (by kernel_rfl) (by kernel_rfl) (fun _ _ _ h => h) (Or.inl ⟨by rfl, ?_⟩) ?_; rotate_left; (intro w hw; have hS1 := hw.1 (by kernel_rfl); clear hw; (try dsimp only at hS1); (try go_split_ands); go_simp; try (with_reducible rfl)); simp only [Act.put, List.setIfInBounds_toArray, List.set_cons_zero, List.set_cons_succ])
    (refine Walk.take (i := 8) (oi := { dst := some 38, op := Op.binOp BinOp.sub 3 (Operand.tmp 37) (Operand.const (Value.int IntKind.i64 1)) 3, type := 3, pos := "plane.go:129", after := #[{ on := 7, ground := Ground.data }], guard := none }) (v := ?_) rfl (by kernel_rfl) (by kernel_rfl) (by kernel_rfl) (by kernel_rfl) (fun _ _ _ h => h) (Or.inl ⟨by rfl, ?_⟩) ?_; rotate_left; (intro w hw; clear hw; (try go_split_ands); go_simp; try (with_reducible rfl)); simp only [Act.put, List.setIfInBounds_toArray, List.set_cons_zero, List.set_cons_succ])
    (refine Walk.take (i := 9) (oi := { dst := some 39, op := Op.call { callee := Callee.builtin Builtin.min, args := #[Operand.tmp 35, Operand.tmp 38], argTypes := #[3, 3] }, type := 3, pos := "plane.go:129", after := #[{ on := 5, ground := Ground.data }, { on := 8, ground := Ground.data }], guard := none }) (v := .int .i64 y) rfl (by kernel_rfl) (by kernel_rfl) (by kernel_rfl) (by kernel_rfl) (fun _ _ _ h => h) (Or.inl ⟨by rfl, ?_⟩) ?_)
    · intro w _
      go_simp
      rw [← hy0]
      (try split) <;> omega
    simp only [Act.put, List.setIfInBounds_toArray, List.set_cons_zero, List.set_cons_succ]
    (refine Walk.take (i := 10) (oi := { dst := some 13, op := Op.assign (Operand.tmp 34), type := 3, pos := "plane.go:129", after := #[{ on := 4, ground := Ground.data }, { on := 0, ground := Ground.phase }, { on := 1, ground := Ground.phase }, { on := 2, ground := Ground.phase }, { on := 3, ground := Ground.phase }, { on := 4, ground := Ground.phase }, { on := 5, ground := Ground.textOnly Departure.lateStores }, { on := 6, ground := Ground.textOnly Departure.lateStores }, { on := 7, ground := Ground.textOnly Departure.lateStores }, { on := 8, ground := Ground.textOnly Departure.lateStores }, { on := 9, ground := Ground.textOnly Departure.lateStoresUnsure }], guard := none }) (v := ?_) rfl (by kernel_rfl) (by kernel_rfl) (by kernel_rfl) (by kernel_rfl) (fun _ _ _ h => h) (Or.inl ⟨by rfl, ?_⟩) ?_; rotate_left; (intro w hw; clear hw; (try go_split_ands); go_simp; try (with_reducible rfl)); simp only [Act.put, List.setIfInBounds_toArray, List.set_cons_zero, List.set_cons_succ])
    (refine Walk.take (i := 11) (oi := { dst := some 14, op := Op.assign (Operand.tmp 39), type := 3, pos := "plane.go:129", after := #[{ on := 9, ground := Ground.data }, { on := 10, ground := Ground.chain }, { on := 0, ground := Ground.phase }, { on := 1, ground := Ground.phase }, { on := 2, ground := Ground.phase }, { on := 3, ground := Ground.phase }, { on := 4, ground := Ground.phase }, { on := 5, ground := Ground.phase }, { on := 6, ground := Ground.phase }, { on := 7, ground := Ground.phase }, { on := 8, ground := Ground.phase }, { on := 9, ground := Ground.phase }, { on := 10, ground := Ground.phase }], guard := none }) (v := ?_) rfl (by kernel_rfl) (by kernel_rfl) (by kernel_rfl) (by kernel_rfl) (fun _ _ _ h => h) (Or.inl ⟨by rfl, ?_⟩) ?_; rotate_left; (intro w hw; clear hw; (try go_split_ands); go_simp; try (with_reducible rfl)); simp only [Act.put, List.setIfInBounds_toArray, List.set_cons_zero, List.set_cons_succ])
    refine Walk.done (by kernel_rfl) ?_ _
    gi_wp2_with fail
    refine round_region_till (S := fun V => ((V.cell? ⟨w.heap.size, 1, none⟩ = some (.func (.func 68) #[] #[]) ∧ V.cell? ⟨sumb, 0, none⟩ = some (.int .i64 (C / 2 + A)) ∧ V.cell? ⟨w.heap.size + 1 + 1, 0, none⟩ = some (.slice (some ⟨vb, voff, none⟩) l.length vc) ∧ V.cell? ⟨vb, voff + j.toNat, none⟩ = some (.int .i64 (gat l j))) ∧
        (V.cell? ⟨w.heap.size + 1, 0, none⟩ = some (.int .i64 Wd) ∧ V.cell? ⟨w.heap.size + 1, 1, none⟩ = some (.int .i64 Ht) ∧ V.cell? ⟨w.heap.size + 1, 2, none⟩ = some (.int .i64 m) ∧ V.cell? ⟨w.heap.size + 1, 3, none⟩ = some (.int .i64 q) ∧ V.cell? ⟨w.heap.size + 1, 4, none⟩ = some (.int .i64 i0) ∧ V.cell? ⟨w.heap.size + 1, 5, none⟩ = some (.int .i64 c)) ∧
        V.cell? ⟨w.heap.size + 1 + 1 + 1, 0, none⟩ = some (.int .i64 s.mcu) ∧ V.cell? ⟨w.heap.size + 1 + 1 + 1, 1, none⟩ = some (.int .i64 s.block) ∧ V.cell? ⟨w.heap.size + 1 + 1 + 1, 2, none⟩ = some (.int .i64 s.part) ∧ V.cell? ⟨w.heap.size + 1 + 1 + 1, 3, none⟩ = some (.int .i64 s.parts) ∧ V.cell? ⟨w.heap.size + 1 + 1 + 1, 4, none⟩ = some (.int .i64 s.x) ∧ V.cell? ⟨w.heap.size + 1 + 1 + 1, 5, none⟩ = some (.int .i64 s.y) ∧ V.cell? ⟨w.heap.size + 1 + 1 + 1, 6, none⟩ = some (.int .i64 s.wide) ∧ V.cell? ⟨w.heap.size + 1 + 1 + 1, 7, none⟩ = some (.int .i64 s.high))) (R := fun _ => True) (k := 12) (m := 100) (by kernel_rfl) (by kernel_rfl) (by rintro ⟨_, _, ⟨q, _⟩⟩; cases q) (HS _ (bu.trans (But.refl _ _).drew)) trivial ?_
    have bu2 := bu.trans (But.refl Nowhere U.drew).drew
    clear bu
    revert bu2
    generalize U.drew.drew = V0
    intro bu2
    have hjL : j < (l.length : Int) := by omega
    (refine Walk.take (i := 0) (oi := { dst := some 40, op := Op.fieldAddr 82 (Operand.tmp 5) 1, type := 0, pos := "plane.go:130", after := #[], guard := none }) (v := ?_) rfl (by kernel_rfl) (by kernel_rfl) (by kernel_rfl) (by kernel_rfl) (fun _ _ _ h => h) (Or.inl ⟨by rfl, ?_⟩) ?_; rotate_left; (intro w hw; clear hw; (try go_split_ands); go_simp; try (with_reducible rfl)); simp only [Act.put, List.setIfInBounds_toArray, List.set_cons_zero, List.set_cons_succ])
    (refine Walk.take (i := 1) (oi := { dst := some 41, op := Op.load 77 (Operand.tmp 40), type := 77, pos := "plane.go:130", after := #[{ on := 0, ground := Ground.data }], guard := none }) (v := ?_) rfl (by kernel_rfl) (by kernel_rfl) (by kernel_rfl) (by kernel_rfl) (fun _ _ _ h => h) (Or.inl ⟨by rfl, ?_⟩) ?_; rotate_left; (intro w hw; have hS1 := hw.1 (by kernel_rfl); clear hw; (try dsimp only at hS1); (try go_split_ands); go_simp; try (with_reducible rfl)); simp only [Act.put, List.setIfInBounds_toArray, List.set_cons_zero, List.set_cons_succ])
    (refine Walk.take (i := 2) (oi := { dst := some 42, op := Op.load 72 (Operand.tmp 12), type := 72, pos := "plane.go:130", after := #[], guard := none }) (v := ?_) rfl (by kernel_rfl) (by kernel_rfl) (by kernel_rfl) (by kernel_rfl) (fun _ _ _ h => h) (Or.inl ⟨by rfl, ?_⟩) ?_; rotate_left; (intro w hw; have hS1 := hw.1 (by kernel_rfl); clear hw; (try dsimp only at hS1); (try go_split_ands); go_simp; try (with_reducible rfl)); simp only [Act.put, List.setIfInBounds_toArray, List.set_cons_zero, List.set_cons_succ])
    (refine Walk.take (i := 3) (oi := { dst := some 43, op := Op.load 36 (Operand.tmp 7), type := 36, pos := "plane.go:130", after := #[], guard := none }) (v := ?_) rfl (by kernel_rfl) (by kernel_rfl) (by kernel_rfl) (by kernel_rfl) (fun _ _ _ h => h) (Or.inl ⟨by rfl, ?_⟩) ?_; rotate_left; (intro w hw; have hS1 := hw.1 (by kernel_rfl); clear hw; (try dsimp only at hS1); (try go_split_ands); go_simp; try (with_reducible rfl)); simp only [Act.put, List.setIfInBounds_toArray, List.set_cons_zero, List.set_cons_succ])
    (refine Walk.take (i := 4) (oi := { dst := some 44, op := Op.load 103 (Operand.tmp 8), type := 103, pos := "plane.go:130", after := #[], guard := none }) (v := ?_) rfl (by kernel_rfl) (by kernel_rfl) (by kernel_rfl) (by kernel_rfl) (fun _ _ _ h => h) (Or.inl ⟨by rfl, ?_⟩) ?_; rotate_left; (intro w hw; have hS1 := hw.1 (by kernel_rfl); clear hw; (try dsimp only at hS1); (try go_split_ands); go_simp; try (with_reducible rfl)); simp only [Act.put, List.setIfInBounds_toArray, List.set_cons_zero, List.set_cons_succ])
    (refine Walk.take (i := 5) (oi := { dst := some 45, op := Op.load 23 (Operand.tmp 6), type := 23, pos := "plane.go:130", after := #[], guard := none }) (v := ?_) rfl (by kernel_rfl) (by kernel_rfl) (by kernel_rfl) (by kernel_rfl) (fun _ _ _ h => h) (Or.inl ⟨by rfl, ?_⟩) ?_; rotate_left; (intro w hw; have hS1 := hw.1 (by kernel_rfl); clear hw; (try dsimp only at hS1); (try go_split_ands); go_simp; try (with_reducible rfl)); simp only [Act.put, List.setIfInBounds_toArray, List.set_cons_zero, List.set_cons_succ])
    (refine Walk.take (i := 6) (oi := { dst := some 46, op := Op.move (Operand.tmp 13), type := 3, pos := "plane.go:130", after := #[], guard := none }) (v := ?_) rfl (by kernel_rfl) (by kernel_rfl) (by kernel_rfl) (by kernel_rfl) (fun _ _ _ h => h) (Or.inl ⟨by rfl, ?_⟩) ?_; rotate_left; (intro w hw; clear hw; (try go_split_ands); go_simp; try (with_reducible rfl)); simp only [Act.put, List.setIfInBounds_toArray, List.set_cons_zero, List.set_cons_succ])
    (refine Walk.take (i := 7) (oi := { dst := some 47, op := Op.move (Operand.tmp 14), type := 3, pos := "plane.go:130", after := #[], guard := none }) (v := ?_) rfl (by kernel_rfl) (by kernel_rfl) (by kernel_rfl) (by kernel_rfl) (fun _ _ _ h => h) (Or.inl ⟨by rfl, ?_⟩) ?_; rotate_left; (intro w hw; clear hw; (try go_split_ands); go_simp; try (with_reducible rfl)); simp only [Act.put, List.setIfInBounds_toArray, List.set_cons_zero, List.set_cons_succ])
    (refine Walk.go (i := 8) (o := { dst := some 48, op := Op.call { callee := Callee.value (Operand.func 77), args := #[Operand.tmp 44, Operand.tmp 45, Operand.tmp 46, Operand.tmp 47], argTypes := #[103, 23, 3, 3] }, type := 3, pos := "plane.go:130", after := #[{ on := 4, ground := Ground.data }, { on := 5, ground := Ground.data }, { on := 6, ground := Ground.data }, { on := 7, ground := Ground.data }], guard := none }) (by kernel_rfl) rfl (fun K hK => ?_); go_simp; ((go_at_call 77; refine (place_any s Wd Ht m q i0 c x y _ hs (by omega) (by omega) (by omega)).mono ?_; rintro e V1 ⟨rfl, d1⟩; rw [hj1]; replace bu2 := bu2.trans d1; clear d1)); refine hK.out _ _ (⟨fun _ => HS _ bu2, fun _ => trivial⟩) ?_; clear hK K; try simp only [Act.put, List.setIfInBounds_toArray, List.set_cons_zero, List.set_cons_succ])
    (refine Walk.take (i := 9) (oi := { dst := some 49, op := Op.indexAddr 36 (Operand.tmp 43) (Operand.tmp 48), type := 0, pos := "plane.go:130", after := #[{ on := 3, ground := Ground.data }, { on := 8, ground := Ground.data }], guard := none }) (v := ?_) rfl (by kernel_rfl) (by kernel_rfl) (by kernel_rfl) (by kernel_rfl) (fun _ _ _ h => h) (Or.inl ⟨by rfl, ?_⟩) ?_; rotate_left; (intro w hw; clear hw; (try go_split_ands); go_simp; try (with_reducible rfl)); simp only [Act.put, List.setIfInBounds_toArray, List.set_cons_zero, List.set_cons_succ])
    (refine Walk.take (i := 10) (oi := { dst := some 50, op := Op.load 72 (Operand.tmp 49), type := 72, pos := "plane.go:130", after := #[{ on := 9, ground := Ground.data }], guard := none }) (v := ?_) rfl (by kernel_rfl) (by kernel_rfl) (by kernel_rfl) (by kernel_rfl) (fun _ _ _ h => h) (Or.inl ⟨by rfl, ?_⟩) ?_; rotate_left; (intro w hw; have hS1 := hw.1 (by kernel_rfl); clear hw; (try dsimp only at hS1); (try go_split_ands); go_simp; try (with_reducible rfl)); simp only [Act.put, List.setIfInBounds_toArray, List.set_cons_zero, List.set_cons_succ])
    (refine Walk.go (i := 11) (o := { dst := some 51, op := Op.call { callee := Callee.value (Operand.tmp 41), args := #[Operand.tmp 42, Operand.tmp 50], argTypes := #[72, 72] }, type := 72, pos := "plane.go:130", after := #[{ on := 1, ground := Ground.data }, { on := 2, ground := Ground.data }, { on := 10, ground := Ground.data }, { on := 8, ground := Ground.chain }], guard := none }) (by kernel_rfl) rfl (fun K hK => ?_); go_simp; (go_at_call 68; refine (add_any _ _ _).mono ?_; rintro e V2 ⟨rfl, d2⟩; rw [w64 (C / 2 + A + gat l j) (by omega)]; replace bu2 := bu2.trans d2; clear d2; have cs := (HS _ bu2).1.2.1; have fs := (hJ.but bu2 (not_nowhere _)).frozen 0); refine hK.out _ _ (⟨fun _ => HS _ bu2, fun _ => trivial⟩) ?_; clear hK K; try simp only [Act.put, List.setIfInBounds_toArray, List.set_cons_zero, List.set_cons_succ])
    (refine Walk.go (i := 12) (o := { dst := none, op := Op.store 72 (Operand.tmp 12) (Operand.tmp 51), type := 0, pos := "plane.go:130", after := #[{ on := 11, ground := Ground.data }, { on := 11, ground := Ground.chain }, { on := 0, ground := Ground.phase }, { on := 1, ground := Ground.phase }, { on := 2, ground := Ground.phase }, { on := 3, ground := Ground.phase }, { on := 4, ground := Ground.phase }, { on := 5, ground := Ground.phase }, { on := 6, ground := Ground.phase }, { on := 7, ground := Ground.phase }, { on := 8, ground := Ground.phase }, { on := 9, ground := Ground.phase }, { on := 10, ground := Ground.phase }, { on := 11, ground := Ground.phase }], guard := none }) (by kernel_rfl) rfl (fun K hK => ?_); go_simp; (skip); refine hK.out _ _ (⟨fun q => absurd q (by decide), fun _ => trivial⟩) ?_; clear hK K; try simp only [Act.put, List.setIfInBounds_toArray, List.set_cons_zero, List.set_cons_succ])
    refine Walk.done (by kernel_rfl) ?_ _
    have hW3 : But (fun x => x = sumb) U (V2.setCell ⟨sumb, 0, none⟩ (.int .i64 (C / 2 + A + gat l j))) := But.setCell (S := fun x => x = sumb) (p := ⟨sumb, 0, none⟩) (bu2.mono (fun _ _ f => f.elim)) (fun _ => rfl) _
    have hC3 : Cells (V2.setCell ⟨sumb, 0, none⟩ (.int .i64 (C / 2 + A + gat l j))) sumb 72 [.int .i64 (C / 2 + (A + gat l j))] := by rw [← Int.add_assoc]; exact (hJ.but bu2 (not_nowhere _)).set 0 _
    have HH : Hid _ := And.intro hW3 hC3
    clear hW3 hC3 cs fs bu2 HS
    gi_wp2_with fail
    exact HH.out
  · intro W' hb hJ hD hlt
    rw [HC.out] at hJ
    have hA' := hA C.toNat
    have hwW : But (fun x => x = sumb) w W' := (kk.but.mono (fun _ _ f => f.elim)).trans hb
    have hTW := hT3.butS hb (by have := hT.lt; omega)
    obtain ⟨A, hAe⟩ : ∃ A, accF (fun n => gat l (idxF Wd Ht s X Y n)) C.toNat = A := ⟨_, rfl⟩
    rw [hAe] at hJ hA'
    have HAe : Hid (accF (fun n => gat l (idxF Wd Ht s X Y n)) C.toNat = A) := hAe
    clear hAe
    have hE : w.heap.size + 1 + 1 + 1 < sumb := by omega
    have gB := (kk.get (b := w.heap.size) (t := 82) (c := byPS) (by simp)).but hb (by omega)
    have HS : ∀ V, But Nowhere W' V → (V.cell? ⟨w.heap.size, 2, none⟩ = some (.func (.func 69) #[] #[]) ∧ V.cell? ⟨sumb, 0, none⟩ = some (.int .i64 (C / 2 + A))) := fun V hb => ⟨hb.keeps (not_nowhere _) (gB.at 2), hb.keeps (not_nowhere _) (hJ.at 0)⟩
    have bu2 : But Nowhere W' W'.drew := (But.refl _ _).drew
    have wc : IntKind.u64.wrap C = C := by rcases hC4 with rfl | rfl | rfl <;> decide
    have htz : tzF C = 0 ∨ tzF C = 1 ∨ tzF C = 2 := by rcases hC4 with rfl | rfl | rfl <;> decide
    clear hI hG hA gB
    gi_wp2_with fail
    refine wide_region_till (S := fun V => V.cell? ⟨w.heap.size, 2, none⟩ = some (.func (.func 69) #[] #[]) ∧ V.cell? ⟨sumb, 0, none⟩ = some (.int .i64 (C / 2 + A))) (R := fun _ => True) (k := 7) (m := 100) (by kernel_rfl) (by kernel_rfl) (by rintro ⟨_, _, ⟨_, q⟩, _⟩) (HS _ bu2) trivial ?_
    (refine Walk.take (i := 0) (oi := { dst := some 52, op := Op.fieldAddr 82 (Operand.tmp 5) 2, type := 0, pos := "plane.go:133", after := #[], guard := none }) (v := ?_) rfl (by kernel_rfl) (by kernel_rfl) (by kernel_rfl) (by kernel_rfl) (fun _ _ _ h => h) (Or.inl ⟨by rfl, ?_⟩) ?_; rotate_left; (intro w hw; clear hw; (try go_split_ands); go_simp; try (with_reducible rfl)); simp only [Act.put, List.setIfInBounds_toArray, List.set_cons_zero, List.set_cons_succ])
    (refine Walk.take (i := 1) (oi := { dst := some 53, op := Op.load 78 (Operand.tmp 52), type := 78, pos := "plane.go:133", after := #[{ on := 0, ground := Ground.data }], guard := none }) (v := ?_) rfl (by kernel_rfl) (by kernel_rfl) (by kernel_rfl) (by kernel_rfl) (fun _ _ _ h => h) (Or.inl ⟨by rfl, ?_⟩) ?_; rotate_left; (intro w hw; have hS1 := hw.1 (by kernel_rfl); clear hw; (try dsimp only at hS1); (try go_split_ands); go_simp; try (with_reducible rfl)); simp only [Act.put, List.setIfInBounds_toArray, List.set_cons_zero, List.set_cons_succ])
    (refine Walk.take (i := 2) (oi := { dst := some 54, op := Op.load 72 (Operand.tmp 12), type := 72, pos := "plane.go:133", after := #[], guard := none }) (v := ?_) rfl (by kernel_rfl) (by kernel_rfl) (by kernel_rfl) (by kernel_rfl) (fun _ _ _ h => h) (Or.inl ⟨by rfl, ?_⟩) ?_; rotate_left; (intro w hw; have hS1 := hw.1 (by kernel_rfl); clear hw; (try dsimp only at hS1); (try go_split_ands); go_simp; try (with_reducible rfl)); simp only [Act.put, List.setIfInBounds_toArray, List.set_cons_zero, List.set_cons_succ])
    (refine Walk.take (i := 3) (oi := { dst := some 55, op := Op.move (Operand.tmp 11), type := 3, pos := "plane.go:133", after := #[], guard := none }) (v := ?_) rfl (by kernel_rfl) (by kernel_rfl) (by kernel_rfl) (by kernel_rfl) (fun _ _ _ h => h) (Or.inl ⟨by rfl, ?_⟩) ?_; rotate_left; (intro w hw; clear hw; (try go_split_ands); go_simp; try (with_reducible rfl)); simp only [Act.put, List.setIfInBounds_toArray, List.set_cons_zero, List.set_cons_succ])
    (refine Walk.take (i := 4) (oi := { dst := some 56, op := Op.convert 3 131 (Operand.tmp 55), type := 131, pos := "plane.go:133", after := #[{ on := 3, ground := Ground.data }], guard := none }) (v := ?_) rfl (by kernel_rfl) (by kernel_rfl) (by kernel_rfl) (by kernel_rfl) (fun _ _ _ h => h) (Or.inl ⟨by rfl, ?_⟩) ?_; rotate_left; (intro w hw; clear hw; (try go_split_ands); go_simp; try (with_reducible rfl)); simp only [Act.put, List.setIfInBounds_toArray, List.set_cons_zero, List.set_cons_succ])
    (refine Walk.go (i := 5) (o := { dst := some 57, op := Op.call { callee := Callee.value (Operand.func 86), args := #[Operand.tmp 56], argTypes := #[131] }, type := 3, pos := "plane.go:133", after := #[{ on := 4, ground := Ground.data }], guard := none }) (by kernel_rfl) rfl (fun K hK => ?_); go_simp; ((go_at_call 86; refine (trailing_any C hC4 _ (hTW.but bu2)).mono ?_; rintro e V1 ⟨rfl, rfl⟩)); refine hK.out _ _ (⟨fun _ => HS _ bu2, fun _ => trivial⟩) ?_; clear hK K; try simp only [Act.put, List.setIfInBounds_toArray, List.set_cons_zero, List.set_cons_succ])
    (refine Walk.go (i := 6) (o := { dst := some 58, op := Op.call { callee := Callee.value (Operand.tmp 53), args := #[Operand.tmp 54, Operand.tmp 57], argTypes := #[72, 3] }, type := 72, pos := "plane.go:133", after := #[{ on := 1, ground := Ground.data }, { on := 2, ground := Ground.data }, { on := 5, ground := Ground.data }, { on := 5, ground := Ground.chain }], guard := none }) (by kernel_rfl) rfl (fun K hK => ?_); go_simp; ((go_at_call 69; refine (shr_any _ _ _).mono ?_; rintro e V2 ⟨rfl, d2⟩; rw [shr_halved _ _ htz]; replace bu2 := bu2.trans d2; clear d2)); refine hK.out _ _ (⟨fun _ => HS _ bu2, fun _ => trivial⟩) ?_; clear hK K; try simp only [Act.put, List.setIfInBounds_toArray, List.set_cons_zero, List.set_cons_succ])
    have hR7 := ((kk.get (b := w.heap.size + 1 + 1 + 1 + 1) (t := 72) (c := [.int .i64 0]) (by simp)).but hb (by omega)).but bu2 (not_nowhere _)
    have c7 := hR7.at 0
    have f7 := hR7.frozen 0
    simp only [List.getElem?_cons_zero] at c7
    (refine Walk.go (i := 7) (o := { dst := none, op := Op.store 72 (Operand.tmp 10) (Operand.tmp 58), type := 0, pos := "plane.go:133", after := #[{ on := 6, ground := Ground.data }, { on := 6, ground := Ground.chain }, { on := 0, ground := Ground.phase }, { on := 1, ground := Ground.phase }, { on := 2, ground := Ground.phase }, { on := 3, ground := Ground.phase }, { on := 4, ground := Ground.phase }, { on := 5, ground := Ground.phase }, { on := 6, ground := Ground.phase }], guard := none }) (by kernel_rfl) rfl (fun K hK => ?_); go_simp; (skip); refine hK.out _ _ (⟨fun q => absurd q (by decide), fun _ => trivial⟩) ?_; clear hK K; try simp only [Act.put, List.setIfInBounds_toArray, List.set_cons_zero, List.set_cons_succ])
    refine Walk.done (by kernel_rfl) ?_ _
    have hR8 := hR7.set 0 (.int .i64 (halved (C / 2 + A) (tzF C)))
    have bu3 : But (fun x => x = w.heap.size + 1 + 1 + 1 + 1) W' (V2.setCell ⟨w.heap.size + 1 + 1 + 1 + 1, 0, none⟩ (.int .i64 (halved (C / 2 + A) (tzF C)))) := (bu2.mono (T := fun x => x = w.heap.size + 1 + 1 + 1 + 1) (fun _ _ f => f.elim)).setCell (p := ⟨w.heap.size + 1 + 1 + 1 + 1, 0, none⟩) (fun _ => rfl) _
    clear HS hJ hTW hR7 c7 f7
    gi_wp2_with fail
    have hz3 := kk.but.size
    have hz4 := (kk.get (b := w.heap.size + 1 + 1 + 1 + 1) (t := 72) (c := [.int .i64 0]) (by simp)).lt
    refine ⟨by simp, .inl ⟨_, _, rfl, run_takeDeferred ((bu3.block _ hlt (by omega)).trans hD), ?_⟩⟩
    have hR9 := hR8.but (S := fun k => k = w3.heap.size) (But.putObj (S := fun k => k = w3.heap.size) (But.refl _ _) (fun _ => rfl) (.deferred none)) (by omega)
    have c9 := hR9.at 0
    simp only [List.set_cons_zero, List.getElem?_cons_zero] at c9
    have hbE := But.putObj (S := Nowhere) (l := w3.heap.size) ((hwW.mono (T := Nowhere) (fun k hk e => by omega)).step bu3 (fun k hk e => by omega)) (fun q => by omega) (.deferred none)
    exact ⟨_, results_sec rfl _ _ _ _ rfl c9, by rw [HAe.out], hbE⟩

end Go.Proofs.YtppbnmlgilgnnaaDoor

/- Words of secrets told by others. -/
namespace Go.Proofs.YtppbnmlgilgnnaaDoor
open Go.ChangeShapes Go.WideShapes Go.ChangeAt Go.RowKit


set_option maxHeartbeats 6400000 in
set_option maxRecDepth 100000 in
theorem turnedSLuma_any (m : Int) (hm : m ≠ 1) (v : Value) (l : List Int) (n : Nat) (w : World) (hv : View w .i64 v l) (hn : l.length = n) (hx : ∀ x ∈ l, 0 ≤ x ∧ x ≤ 255) (N3 : Nat) (h3 : n = 3 * N3) (hl : n ≤ 4000000) : Calls Tryd.prog 65 #[.func (.func 71) #[] #[], .int .i64 m, v] w fun e w' =>
    e = .returned (.slice (some ⟨w.heap.size, 0, none⟩) n n) ∧ Cells w' w.heap.size 72 (tab .i64 n (turnA luma1 luma2 luma3 l)) ∧ But Nowhere w w' := by
  obtain ⟨vo, vc, rfl⟩ := hv.slice
  have hm' := fun W => make_any Tryd.elemSec n (.int .i64 0) (by intro j hj; have : j = 0 := (by omega); subst this; rfl) (by omega) (by omega) W
  rw [Nat.mul_one, tab_zero] at hm'
  have hmb : (m == 1) = false := by simpa using hm
  rw [hn]
  have HN : Hid (l.length = n) := hn
  have H3 : Hid (n = 3 * N3) := h3
  have HX : Hid (∀ x ∈ l, 0 ≤ x ∧ x ≤ 255) := hx
  have HV : Hid (View w .i64 (.slice vo l.length vc) l) := hv
  have H0 : Hid (Cells (w.alloc (.cells (tab .i64 n (fun _ => 0)).toArray 72)) w.heap.size 72 (tab .i64 n (fun _ => 0)) ∧ But Nowhere w (w.alloc (.cells (tab .i64 n (fun _ => 0)).toArray 72))) := ⟨Cells.new _ _ _, (But.refl _ _).alloc _⟩
  clear hn h3 hx hv
  go_enter Tryd.func65, Tryd.ntmps65
  go_wp2_with fail
  clear hm'
  go_loopw [8] (fun i W => ∃ k : Nat, k ≤ n ∧ k % 3 = 0 ∧ i = .int .i64 (k : Int) ∧ Cells W w.heap.size 72 (tab .i64 n (fun j => if j < k then turnA luma1 luma2 luma3 l j else 0)) ∧ But Nowhere w W) (fun i _ => n - (intOf i).toNat)
  case atStart => exact ⟨0, by omega, rfl, rfl, by simpa using H0.out.1, H0.out.2⟩
  case round =>
    clear H0
    obtain ⟨k, hk, hk3, rfl, hc, hb⟩ := hrel
    by_cases hlt : k < n
    · have h3 := H3.out
      have hn := HN.out
      have x0 := HX.out _ (List.getElem_mem (show k < l.length by omega))
      have x1 := HX.out _ (List.getElem_mem (show k + 1 < l.length by omega))
      have x2 := HX.out _ (List.getElem_mem (show k + 2 < l.length by omega))
      rw [gn_at] at x0 x1 x2
      obtain ⟨-, vb, off, rfl, hvb, d0⟩ := (HV.out.but hb).at k (by omega)
      obtain ⟨-, vb', off', e', -, d1⟩ := (HV.out.but hb).at (k + 1) (by omega)
      cases e'
      obtain ⟨-, vb', off', e', -, d2⟩ := (HV.out.but hb).at (k + 2) (by omega)
      cases e'
      rw [gn_at] at d0 d1 d2
      have q0 : (0 : Int) ≤ (k : Int) := by omega
      have q1 : (k : Int) < (n : Int) := by omega
      have q2 : (0 : Int) ≤ (k : Int) + 1 := by omega
      have q3 : (k : Int) + 1 < (n : Int) := by omega
      have q4 : (0 : Int) ≤ (k : Int) + 2 := by omega
      have q5 : (k : Int) + 2 < (n : Int) := by omega
      have t1 : ((k : Int) + 1).toNat = k + 1 := by omega
      have t2 : ((k : Int) + 2).toNat = k + 2 := by omega
      have r1 : IntKind.i64.wrap ((k : Int) + 1) = (k : Int) + 1 := by rw [wrap_i64_eq]; exact w64 _ (by omega)
      have r2 : IntKind.i64.wrap ((k : Int) + 2) = (k : Int) + 2 := by rw [wrap_i64_eq]; exact w64 _ (by omega)
      have HS : ∀ V, But Nowhere wr V → (V.cell? ⟨vb, off + k, none⟩ = some (.int .i64 (gn l k)) ∧ V.cell? ⟨vb, off + (k + 1), none⟩ = some (.int .i64 (gn l (k + 1))) ∧ V.cell? ⟨vb, off + (k + 2), none⟩ = some (.int .i64 (gn l (k + 2)))) := fun V hb => ⟨hb.keeps (not_nowhere _) d0, hb.keeps (not_nowhere _) d1, hb.keeps (not_nowhere _) d2⟩
      have bu : But Nowhere wr wr.drew := (But.refl _ _).drew
      have hk5 : k + 2 < n := by omega
      clear h3 d0 d1 d2
      clear hn
      go_wp2_with fail
      refine wp_region_till (S := fun V => V.cell? ⟨vb, off + k, none⟩ = some (.int .i64 (gn l k)) ∧ V.cell? ⟨vb, off + (k + 1), none⟩ = some (.int .i64 (gn l (k + 1))) ∧ V.cell? ⟨vb, off + (k + 2), none⟩ = some (.int .i64 (gn l (k + 2)))) (R := fun _ => True) (k := 29) (m := 100) (by kernel_rfl) (HS _ bu) trivial ?_
      (refine Walk.take (i := 0) (oi := { dst := some 22, op := Op.move (Operand.tmp 7), type := 36, pos := "plane.go:159", after := #[], guard := none }) (v := ?_) rfl (by kernel_rfl) (by kernel_rfl) (by kernel_rfl) (by kernel_rfl) (fun _ _ _ h => h) (Or.inl ⟨by rfl, ?_⟩) ?_; rotate_left; (intro w hw; clear hw; (try go_split_ands); go_simp; try (with_reducible rfl)); simp only [Act.put, List.setIfInBounds_toArray, List.set_cons_zero, List.set_cons_succ])
      (refine Walk.take (i := 1) (oi := { dst := some 23, op := Op.move (Operand.tmp 8), type := 3, pos := "plane.go:159", after := #[], guard := none }) (v := ?_) rfl (by kernel_rfl) (by kernel_rfl) (by kernel_rfl) (by kernel_rfl) (fun _ _ _ h => h) (Or.inl ⟨by rfl, ?_⟩) ?_; rotate_left; (intro w hw; clear hw; (try go_split_ands); go_simp; try (with_reducible rfl)); simp only [Act.put, List.setIfInBounds_toArray, List.set_cons_zero, List.set_cons_succ])
      (refine Walk.take (i := 2) (oi := { dst := some 24, op := Op.move (Operand.tmp 7), type := 36, pos := "plane.go:159", after := #[{ on := 29, ground := Ground.gcOnly Departure.lateStores }], guard := none }) (v := ?_) rfl (by kernel_rfl) (by kernel_rfl) (by kernel_rfl) (by kernel_rfl) (fun _ _ _ h => h) (Or.inl ⟨by rfl, ?_⟩) ?_; rotate_left; (intro w hw; clear hw; (try go_split_ands); go_simp; try (with_reducible rfl)); simp only [Act.put, List.setIfInBounds_toArray, List.set_cons_zero, List.set_cons_succ])
      (refine Walk.take (i := 3) (oi := { dst := some 25, op := Op.move (Operand.tmp 8), type := 3, pos := "plane.go:159", after := #[{ on := 29, ground := Ground.gcOnly Departure.lateStores }], guard := none }) (v := ?_) rfl (by kernel_rfl) (by kernel_rfl) (by kernel_rfl) (by kernel_rfl) (fun _ _ _ h => h) (Or.inl ⟨by rfl, ?_⟩) ?_; rotate_left; (intro w hw; clear hw; (try go_split_ands); go_simp; try (with_reducible rfl)); simp only [Act.put, List.setIfInBounds_toArray, List.set_cons_zero, List.set_cons_succ])
      (refine Walk.take (i := 4) (oi := { dst := some 26, op := Op.binOp BinOp.add 3 (Operand.tmp 25) (Operand.const (Value.int IntKind.i64 1)) 3, type := 3, pos := "plane.go:159", after := #[{ on := 3, ground := Ground.data }, { on := 29, ground := Ground.gcOnly Departure.lateStores }], guard := none }) (v := ?_) rfl (by kernel_rfl) (by kernel_rfl) (by kernel_rfl) (by kernel_rfl) (fun _ _ _ h => h) (Or.inl ⟨by rfl, ?_⟩) ?_; rotate_left; (intro w hw; clear hw; (try go_split_ands); go_simp; try (with_reducible rfl)); simp only [Act.put, List.setIfInBounds_toArray, List.set_cons_zero, List.set_cons_succ])
      (refine Walk.take (i := 5) (oi := { dst := some 27, op := Op.move (Operand.tmp 7), type := 36, pos := "plane.go:159", after := #[{ on := 31, ground := Ground.gcOnly Departure.lateStores }], guard := none }) (v := ?_) rfl (by kernel_rfl) (by kernel_rfl) (by kernel_rfl) (by kernel_rfl) (fun _ _ _ h => h) (Or.inl ⟨by rfl, ?_⟩) ?_; rotate_left; (intro w hw; clear hw; (try go_split_ands); go_simp; try (with_reducible rfl)); simp only [Act.put, List.setIfInBounds_toArray, List.set_cons_zero, List.set_cons_succ])
      (refine Walk.take (i := 6) (oi := { dst := some 28, op := Op.move (Operand.tmp 8), type := 3, pos := "plane.go:159", after := #[{ on := 31, ground := Ground.gcOnly Departure.lateStores }], guard := none }) (v := ?_) rfl (by kernel_rfl) (by kernel_rfl) (by kernel_rfl) (by kernel_rfl) (fun _ _ _ h => h) (Or.inl ⟨by rfl, ?_⟩) ?_; rotate_left; (intro w hw; clear hw; (try go_split_ands); go_simp; try (with_reducible rfl)); simp only [Act.put, List.setIfInBounds_toArray, List.set_cons_zero, List.set_cons_succ])
      (refine Walk.take (i := 7) (oi := { dst := some 29, op := Op.binOp BinOp.add 3 (Operand.tmp 28) (Operand.const (Value.int IntKind.i64 2)) 3, type := 3, pos := "plane.go:159", after := #[{ on := 6, ground := Ground.data }, { on := 31, ground := Ground.gcOnly Departure.lateStores }], guard := none }) (v := ?_) rfl (by kernel_rfl) (by kernel_rfl) (by kernel_rfl) (by kernel_rfl) (fun _ _ _ h => h) (Or.inl ⟨by rfl, ?_⟩) ?_; rotate_left; (intro w hw; clear hw; (try go_split_ands); go_simp; try (with_reducible rfl)); simp only [Act.put, List.setIfInBounds_toArray, List.set_cons_zero, List.set_cons_succ])
      (refine Walk.take (i := 8) (oi := { dst := some 30, op := Op.move (Operand.tmp 0), type := 80, pos := "plane.go:159", after := #[], guard := none }) (v := ?_) rfl (by kernel_rfl) (by kernel_rfl) (by kernel_rfl) (by kernel_rfl) (fun _ _ _ h => h) (Or.inl ⟨by rfl, ?_⟩) ?_; rotate_left; (intro w hw; clear hw; (try go_split_ands); go_simp; try (with_reducible rfl)); simp only [Act.put, List.setIfInBounds_toArray, List.set_cons_zero, List.set_cons_succ])
      (refine Walk.take (i := 9) (oi := { dst := some 31, op := Op.move (Operand.tmp 2), type := 36, pos := "plane.go:159", after := #[], guard := none }) (v := ?_) rfl (by kernel_rfl) (by kernel_rfl) (by kernel_rfl) (by kernel_rfl) (fun _ _ _ h => h) (Or.inl ⟨by rfl, ?_⟩) ?_; rotate_left; (intro w hw; clear hw; (try go_split_ands); go_simp; try (with_reducible rfl)); simp only [Act.put, List.setIfInBounds_toArray, List.set_cons_zero, List.set_cons_succ])
      (refine Walk.take (i := 10) (oi := { dst := some 32, op := Op.move (Operand.tmp 8), type := 3, pos := "plane.go:159", after := #[], guard := none }) (v := ?_) rfl (by kernel_rfl) (by kernel_rfl) (by kernel_rfl) (by kernel_rfl) (fun _ _ _ h => h) (Or.inl ⟨by rfl, ?_⟩) ?_; rotate_left; (intro w hw; clear hw; (try go_split_ands); go_simp; try (with_reducible rfl)); simp only [Act.put, List.setIfInBounds_toArray, List.set_cons_zero, List.set_cons_succ])
      (refine Walk.take (i := 11) (oi := { dst := some 33, op := Op.indexAddr 36 (Operand.tmp 31) (Operand.tmp 32), type := 0, pos := "plane.go:159", after := #[{ on := 9, ground := Ground.data }, { on := 10, ground := Ground.data }], guard := none }) (v := ?_) rfl (by kernel_rfl) (by kernel_rfl) (by kernel_rfl) (by kernel_rfl) (fun _ _ _ h => h) (Or.inl ⟨by rfl, ?_⟩) ?_; rotate_left; (intro w hw; clear hw; (try go_split_ands); go_simp; try (with_reducible rfl)); simp only [Act.put, List.setIfInBounds_toArray, List.set_cons_zero, List.set_cons_succ])
      (refine Walk.take (i := 12) (oi := { dst := some 34, op := Op.load 72 (Operand.tmp 33), type := 72, pos := "plane.go:159", after := #[{ on := 11, ground := Ground.data }], guard := none }) (v := ?_) rfl (by kernel_rfl) (by kernel_rfl) (by kernel_rfl) (by kernel_rfl) (fun _ _ _ h => h) (Or.inl ⟨by rfl, ?_⟩) ?_; rotate_left; (intro w hw; have hS1 := hw.1 (by kernel_rfl); clear hw; (try dsimp only at hS1); (try go_split_ands); go_simp; try (with_reducible rfl)); simp only [Act.put, List.setIfInBounds_toArray, List.set_cons_zero, List.set_cons_succ])
      (refine Walk.take (i := 13) (oi := { dst := some 35, op := Op.move (Operand.tmp 2), type := 36, pos := "plane.go:159", after := #[], guard := none }) (v := ?_) rfl (by kernel_rfl) (by kernel_rfl) (by kernel_rfl) (by kernel_rfl) (fun _ _ _ h => h) (Or.inl ⟨by rfl, ?_⟩) ?_; rotate_left; (intro w hw; clear hw; (try go_split_ands); go_simp; try (with_reducible rfl)); simp only [Act.put, List.setIfInBounds_toArray, List.set_cons_zero, List.set_cons_succ])
      (refine Walk.take (i := 14) (oi := { dst := some 36, op := Op.move (Operand.tmp 8), type := 3, pos := "plane.go:159", after := #[], guard := none }) (v := ?_) rfl (by kernel_rfl) (by kernel_rfl) (by kernel_rfl) (by kernel_rfl) (fun _ _ _ h => h) (Or.inl ⟨by rfl, ?_⟩) ?_; rotate_left; (intro w hw; clear hw; (try go_split_ands); go_simp; try (with_reducible rfl)); simp only [Act.put, List.setIfInBounds_toArray, List.set_cons_zero, List.set_cons_succ])
      (refine Walk.take (i := 15) (oi := { dst := some 37, op := Op.binOp BinOp.add 3 (Operand.tmp 36) (Operand.const (Value.int IntKind.i64 1)) 3, type := 3, pos := "plane.go:159", after := #[{ on := 14, ground := Ground.data }], guard := none }) (v := ?_) rfl (by kernel_rfl) (by kernel_rfl) (by kernel_rfl) (by kernel_rfl) (fun _ _ _ h => h) (Or.inl ⟨by rfl, ?_⟩) ?_; rotate_left; (intro w hw; clear hw; (try go_split_ands); go_simp; try (with_reducible rfl)); simp only [Act.put, List.setIfInBounds_toArray, List.set_cons_zero, List.set_cons_succ])
      (refine Walk.take (i := 16) (oi := { dst := some 38, op := Op.indexAddr 36 (Operand.tmp 35) (Operand.tmp 37), type := 0, pos := "plane.go:159", after := #[{ on := 13, ground := Ground.data }, { on := 15, ground := Ground.data }], guard := none }) (v := ?_) rfl (by kernel_rfl) (by kernel_rfl) (by kernel_rfl) (by kernel_rfl) (fun _ _ _ h => h) (Or.inl ⟨by rfl, ?_⟩) ?_; rotate_left; (intro w hw; clear hw; (try go_split_ands); go_simp; try (with_reducible rfl)); simp only [Act.put, List.setIfInBounds_toArray, List.set_cons_zero, List.set_cons_succ])
      (refine Walk.take (i := 17) (oi := { dst := some 39, op := Op.load 72 (Operand.tmp 38), type := 72, pos := "plane.go:159", after := #[{ on := 16, ground := Ground.data }], guard := none }) (v := ?_) rfl (by kernel_rfl) (by kernel_rfl) (by kernel_rfl) (by kernel_rfl) (fun _ _ _ h => h) (Or.inl ⟨by rfl, ?_⟩) ?_; rotate_left; (intro w hw; have hS1 := hw.1 (by kernel_rfl); clear hw; (try dsimp only at hS1); (try go_split_ands); go_simp; try (with_reducible rfl)); simp only [Act.put, List.setIfInBounds_toArray, List.set_cons_zero, List.set_cons_succ])
      (refine Walk.take (i := 18) (oi := { dst := some 40, op := Op.move (Operand.tmp 2), type := 36, pos := "plane.go:159", after := #[], guard := none }) (v := ?_) rfl (by kernel_rfl) (by kernel_rfl) (by kernel_rfl) (by kernel_rfl) (fun _ _ _ h => h) (Or.inl ⟨by rfl, ?_⟩) ?_; rotate_left; (intro w hw; clear hw; (try go_split_ands); go_simp; try (with_reducible rfl)); simp only [Act.put, List.setIfInBounds_toArray, List.set_cons_zero, List.set_cons_succ])
      (refine Walk.take (i := 19) (oi := { dst := some 41, op := Op.move (Operand.tmp 8), type := 3, pos := "plane.go:159", after := #[], guard := none }) (v := ?_) rfl (by kernel_rfl) (by kernel_rfl) (by kernel_rfl) (by kernel_rfl) (fun _ _ _ h => h) (Or.inl ⟨by rfl, ?_⟩) ?_; rotate_left; (intro w hw; clear hw; (try go_split_ands); go_simp; try (with_reducible rfl)); simp only [Act.put, List.setIfInBounds_toArray, List.set_cons_zero, List.set_cons_succ])
      (refine Walk.take (i := 20) (oi := { dst := some 42, op := Op.binOp BinOp.add 3 (Operand.tmp 41) (Operand.const (Value.int IntKind.i64 2)) 3, type := 3, pos := "plane.go:159", after := #[{ on := 19, ground := Ground.data }], guard := none }) (v := ?_) rfl (by kernel_rfl) (by kernel_rfl) (by kernel_rfl) (by kernel_rfl) (fun _ _ _ h => h) (Or.inl ⟨by rfl, ?_⟩) ?_; rotate_left; (intro w hw; clear hw; (try go_split_ands); go_simp; try (with_reducible rfl)); simp only [Act.put, List.setIfInBounds_toArray, List.set_cons_zero, List.set_cons_succ])
      (refine Walk.take (i := 21) (oi := { dst := some 43, op := Op.indexAddr 36 (Operand.tmp 40) (Operand.tmp 42), type := 0, pos := "plane.go:159", after := #[{ on := 18, ground := Ground.data }, { on := 20, ground := Ground.data }], guard := none }) (v := ?_) rfl (by kernel_rfl) (by kernel_rfl) (by kernel_rfl) (by kernel_rfl) (fun _ _ _ h => h) (Or.inl ⟨by rfl, ?_⟩) ?_; rotate_left; (intro w hw; clear hw; (try go_split_ands); go_simp; try (with_reducible rfl)); simp only [Act.put, List.setIfInBounds_toArray, List.set_cons_zero, List.set_cons_succ])
      (refine Walk.take (i := 22) (oi := { dst := some 44, op := Op.load 72 (Operand.tmp 43), type := 72, pos := "plane.go:159", after := #[{ on := 21, ground := Ground.data }], guard := none }) (v := ?_) rfl (by kernel_rfl) (by kernel_rfl) (by kernel_rfl) (by kernel_rfl) (fun _ _ _ h => h) (Or.inl ⟨by rfl, ?_⟩) ?_; rotate_left; (intro w hw; have hS1 := hw.1 (by kernel_rfl); clear hw; (try dsimp only at hS1); (try go_split_ands); go_simp; try (with_reducible rfl)); simp only [Act.put, List.setIfInBounds_toArray, List.set_cons_zero, List.set_cons_succ])
      (refine Walk.go (i := 23) (o := { dst := some 45, op := Op.call { callee := Callee.value (Operand.tmp 30), args := #[Operand.tmp 34, Operand.tmp 39, Operand.tmp 44], argTypes := #[72, 72, 72] }, type := 142, pos := "plane.go:159", after := #[{ on := 8, ground := Ground.data }, { on := 12, ground := Ground.data }, { on := 17, ground := Ground.data }, { on := 22, ground := Ground.data }], guard := none }) (by kernel_rfl) rfl (fun K hK => ?_); go_simp; ((go_at_call 71; refine (colorHidden_any _ _ _ (by omega) (by omega) (by omega) _).mono ?_; rintro e x1 ⟨rfl, d1⟩; rw [← turnA0 luma1 luma2 luma3 l k hk3, ← turnA1 luma1 luma2 luma3 l k hk3, ← turnA2 luma1 luma2 luma3 l k hk3]; replace bu := bu.trans d1; clear d1)); refine hK.out _ _ (⟨fun _ => HS _ bu, fun _ => trivial⟩) ?_; clear hK K; try simp only [Act.put, List.setIfInBounds_toArray, List.set_cons_zero, List.set_cons_succ])
      (refine Walk.take (i := 24) (oi := { dst := some 21, op := Op.move (Operand.tmp 45), type := 142, pos := "plane.go:159", after := #[{ on := 23, ground := Ground.data }], guard := none }) (v := ?_) rfl (by kernel_rfl) (by kernel_rfl) (by kernel_rfl) (by kernel_rfl) (fun _ _ _ h => h) (Or.inl ⟨by rfl, ?_⟩) ?_; rotate_left; (intro w hw; clear hw; (try go_split_ands); go_simp; try (with_reducible rfl)); simp only [Act.put, List.setIfInBounds_toArray, List.set_cons_zero, List.set_cons_succ])
      (refine Walk.take (i := 25) (oi := { dst := some 46, op := Op.extract (Operand.tmp 21) 0, type := 72, pos := "plane.go:159", after := #[{ on := 24, ground := Ground.data }], guard := none }) (v := ?_) rfl (by kernel_rfl) (by kernel_rfl) (by kernel_rfl) (by kernel_rfl) (fun _ _ _ h => h) (Or.inl ⟨by rfl, ?_⟩) ?_; rotate_left; (intro w hw; clear hw; (try go_split_ands); go_simp; try (with_reducible rfl)); simp only [Act.put, List.setIfInBounds_toArray, List.set_cons_zero, List.set_cons_succ])
      (refine Walk.take (i := 26) (oi := { dst := some 47, op := Op.extract (Operand.tmp 21) 1, type := 72, pos := "plane.go:159", after := #[{ on := 24, ground := Ground.data }, { on := 29, ground := Ground.gcOnly Departure.lateStores }], guard := none }) (v := ?_) rfl (by kernel_rfl) (by kernel_rfl) (by kernel_rfl) (by kernel_rfl) (fun _ _ _ h => h) (Or.inl ⟨by rfl, ?_⟩) ?_; rotate_left; (intro w hw; clear hw; (try go_split_ands); go_simp; try (with_reducible rfl)); simp only [Act.put, List.setIfInBounds_toArray, List.set_cons_zero, List.set_cons_succ])
      (refine Walk.take (i := 27) (oi := { dst := some 48, op := Op.extract (Operand.tmp 21) 2, type := 72, pos := "plane.go:159", after := #[{ on := 24, ground := Ground.data }, { on := 31, ground := Ground.gcOnly Departure.lateStores }], guard := none }) (v := ?_) rfl (by kernel_rfl) (by kernel_rfl) (by kernel_rfl) (by kernel_rfl) (fun _ _ _ h => h) (Or.inl ⟨by rfl, ?_⟩) ?_; rotate_left; (intro w hw; clear hw; (try go_split_ands); go_simp; try (with_reducible rfl)); simp only [Act.put, List.setIfInBounds_toArray, List.set_cons_zero, List.set_cons_succ])
      (refine Walk.take (i := 28) (oi := { dst := some 49, op := Op.indexAddr 36 (Operand.tmp 22) (Operand.tmp 23), type := 0, pos := "plane.go:159", after := #[{ on := 0, ground := Ground.data }, { on := 1, ground := Ground.data }, { on := 0, ground := Ground.phase }, { on := 1, ground := Ground.phase }, { on := 2, ground := Ground.textOnly Departure.lateStores }, { on := 3, ground := Ground.textOnly Departure.lateStores }, { on := 4, ground := Ground.textOnly Departure.lateStores }, { on := 5, ground := Ground.textOnly Departure.lateStores }, { on := 6, ground := Ground.textOnly Departure.lateStores }, { on := 7, ground := Ground.textOnly Departure.lateStores }, { on := 8, ground := Ground.phase }, { on := 9, ground := Ground.phase }, { on := 10, ground := Ground.phase }, { on := 11, ground := Ground.phase }, { on := 12, ground := Ground.phase }, { on := 13, ground := Ground.phase }, { on := 14, ground := Ground.phase }, { on := 15, ground := Ground.phase }, { on := 16, ground := Ground.phase }, { on := 17, ground := Ground.phase }, { on := 18, ground := Ground.phase }, { on := 19, ground := Ground.phase }, { on := 20, ground := Ground.phase }, { on := 21, ground := Ground.phase }, { on := 22, ground := Ground.phase }, { on := 23, ground := Ground.phase }, { on := 24, ground := Ground.phase }, { on := 25, ground := Ground.phase }, { on := 26, ground := Ground.textOnly Departure.lateStores }, { on := 27, ground := Ground.textOnly Departure.lateStores }], guard := none }) (v := ?_) rfl (by kernel_rfl) (by kernel_rfl) (by kernel_rfl) (by kernel_rfl) (fun _ _ _ h => h) (Or.inl ⟨by rfl, ?_⟩) ?_; rotate_left; (intro w hw; clear hw; (try go_split_ands); go_simp; try (with_reducible rfl)); simp only [Act.put, List.setIfInBounds_toArray, List.set_cons_zero, List.set_cons_succ])
      have h0 := hc.but bu (not_nowhere _)
      have bw := hb.trans bu
      have c0 := h0.cell (k) (by omega)
      have f0 := h0.frozen (k)
      (refine Walk.go (i := 29) (o := { dst := none, op := Op.store 72 (Operand.tmp 49) (Operand.tmp 46), type := 0, pos := "plane.go:159", after := #[{ on := 28, ground := Ground.data }, { on := 25, ground := Ground.data }, { on := 23, ground := Ground.chain }, { on := 0, ground := Ground.phase }, { on := 1, ground := Ground.phase }, { on := 2, ground := Ground.textOnly Departure.lateStores }, { on := 3, ground := Ground.textOnly Departure.lateStores }, { on := 4, ground := Ground.textOnly Departure.lateStores }, { on := 5, ground := Ground.textOnly Departure.lateStores }, { on := 6, ground := Ground.textOnly Departure.lateStores }, { on := 7, ground := Ground.textOnly Departure.lateStores }, { on := 8, ground := Ground.phase }, { on := 9, ground := Ground.phase }, { on := 10, ground := Ground.phase }, { on := 11, ground := Ground.phase }, { on := 12, ground := Ground.phase }, { on := 13, ground := Ground.phase }, { on := 14, ground := Ground.phase }, { on := 15, ground := Ground.phase }, { on := 16, ground := Ground.phase }, { on := 17, ground := Ground.phase }, { on := 18, ground := Ground.phase }, { on := 19, ground := Ground.phase }, { on := 20, ground := Ground.phase }, { on := 21, ground := Ground.phase }, { on := 22, ground := Ground.phase }, { on := 23, ground := Ground.phase }, { on := 24, ground := Ground.phase }, { on := 25, ground := Ground.phase }, { on := 26, ground := Ground.textOnly Departure.lateStores }, { on := 27, ground := Ground.textOnly Departure.lateStores }], guard := none }) (by kernel_rfl) rfl (fun K hK => ?_); go_simp; (replace h0 := h0.set (k) (.int .i64 (turnA luma1 luma2 luma3 l (k))); rw [tab_grow .i64 n (turnA luma1 luma2 luma3 l) (fun _ => 0) (k)] at h0; clear c0 f0; replace bw := But.setCell (S := Nowhere) (p := ⟨w.heap.size, k, none⟩) bw (fun q => by exfalso; simp at q) (.int .i64 (turnA luma1 luma2 luma3 l (k)))); refine hK.out _ _ (⟨fun q => absurd q (by decide), fun _ => trivial⟩) ?_; clear hK K; try simp only [Act.put, List.setIfInBounds_toArray, List.set_cons_zero, List.set_cons_succ])
      (refine Walk.take (i := 30) (oi := { dst := some 50, op := Op.indexAddr 36 (Operand.tmp 24) (Operand.tmp 26), type := 0, pos := "plane.go:159", after := #[{ on := 2, ground := Ground.data }, { on := 4, ground := Ground.data }, { on := 0, ground := Ground.phase }, { on := 1, ground := Ground.phase }, { on := 2, ground := Ground.phase }, { on := 3, ground := Ground.phase }, { on := 4, ground := Ground.phase }, { on := 5, ground := Ground.textOnly Departure.lateStores }, { on := 6, ground := Ground.textOnly Departure.lateStores }, { on := 7, ground := Ground.textOnly Departure.lateStores }, { on := 8, ground := Ground.phase }, { on := 9, ground := Ground.phase }, { on := 10, ground := Ground.phase }, { on := 11, ground := Ground.phase }, { on := 12, ground := Ground.phase }, { on := 13, ground := Ground.phase }, { on := 14, ground := Ground.phase }, { on := 15, ground := Ground.phase }, { on := 16, ground := Ground.phase }, { on := 17, ground := Ground.phase }, { on := 18, ground := Ground.phase }, { on := 19, ground := Ground.phase }, { on := 20, ground := Ground.phase }, { on := 21, ground := Ground.phase }, { on := 22, ground := Ground.phase }, { on := 23, ground := Ground.phase }, { on := 24, ground := Ground.phase }, { on := 25, ground := Ground.phase }, { on := 26, ground := Ground.phase }, { on := 27, ground := Ground.textOnly Departure.lateStores }, { on := 28, ground := Ground.phase }, { on := 29, ground := Ground.phase }], guard := none }) (v := ?_) rfl (by kernel_rfl) (by kernel_rfl) (by kernel_rfl) (by kernel_rfl) (fun _ _ _ h => h) (Or.inl ⟨by rfl, ?_⟩) ?_; rotate_left; (intro w hw; clear hw; (try go_split_ands); go_simp; try (with_reducible rfl)); simp only [Act.put, List.setIfInBounds_toArray, List.set_cons_zero, List.set_cons_succ])
      have c0 := h0.cell (k + 1) (by omega)
      have f0 := h0.frozen (k + 1)
      (refine Walk.go (i := 31) (o := { dst := none, op := Op.store 72 (Operand.tmp 50) (Operand.tmp 47), type := 0, pos := "plane.go:159", after := #[{ on := 30, ground := Ground.data }, { on := 26, ground := Ground.data }, { on := 29, ground := Ground.chain }, { on := 0, ground := Ground.phase }, { on := 1, ground := Ground.phase }, { on := 2, ground := Ground.phase }, { on := 3, ground := Ground.phase }, { on := 4, ground := Ground.phase }, { on := 5, ground := Ground.textOnly Departure.lateStores }, { on := 6, ground := Ground.textOnly Departure.lateStores }, { on := 7, ground := Ground.textOnly Departure.lateStores }, { on := 8, ground := Ground.phase }, { on := 9, ground := Ground.phase }, { on := 10, ground := Ground.phase }, { on := 11, ground := Ground.phase }, { on := 12, ground := Ground.phase }, { on := 13, ground := Ground.phase }, { on := 14, ground := Ground.phase }, { on := 15, ground := Ground.phase }, { on := 16, ground := Ground.phase }, { on := 17, ground := Ground.phase }, { on := 18, ground := Ground.phase }, { on := 19, ground := Ground.phase }, { on := 20, ground := Ground.phase }, { on := 21, ground := Ground.phase }, { on := 22, ground := Ground.phase }, { on := 23, ground := Ground.phase }, { on := 24, ground := Ground.phase }, { on := 25, ground := Ground.phase }, { on := 26, ground := Ground.phase }, { on := 27, ground := Ground.textOnly Departure.lateStores }, { on := 28, ground := Ground.phase }, { on := 29, ground := Ground.phase }], guard := none }) (by kernel_rfl) rfl (fun K hK => ?_); go_simp; (replace h0 := h0.set (k + 1) (.int .i64 (turnA luma1 luma2 luma3 l (k + 1))); rw [tab_grow .i64 n (turnA luma1 luma2 luma3 l) (fun _ => 0) (k + 1)] at h0; clear c0 f0; replace bw := But.setCell (S := Nowhere) (p := ⟨w.heap.size, k + 1, none⟩) bw (fun q => by exfalso; simp at q) (.int .i64 (turnA luma1 luma2 luma3 l (k + 1)))); refine hK.out _ _ (⟨fun q => absurd q (by decide), fun _ => trivial⟩) ?_; clear hK K; try simp only [Act.put, List.setIfInBounds_toArray, List.set_cons_zero, List.set_cons_succ])
      (refine Walk.take (i := 32) (oi := { dst := some 51, op := Op.indexAddr 36 (Operand.tmp 27) (Operand.tmp 29), type := 0, pos := "plane.go:159", after := #[{ on := 5, ground := Ground.data }, { on := 7, ground := Ground.data }, { on := 0, ground := Ground.phase }, { on := 1, ground := Ground.phase }, { on := 2, ground := Ground.phase }, { on := 3, ground := Ground.phase }, { on := 4, ground := Ground.phase }, { on := 5, ground := Ground.phase }, { on := 6, ground := Ground.phase }, { on := 7, ground := Ground.phase }, { on := 8, ground := Ground.phase }, { on := 9, ground := Ground.phase }, { on := 10, ground := Ground.phase }, { on := 11, ground := Ground.phase }, { on := 12, ground := Ground.phase }, { on := 13, ground := Ground.phase }, { on := 14, ground := Ground.phase }, { on := 15, ground := Ground.phase }, { on := 16, ground := Ground.phase }, { on := 17, ground := Ground.phase }, { on := 18, ground := Ground.phase }, { on := 19, ground := Ground.phase }, { on := 20, ground := Ground.phase }, { on := 21, ground := Ground.phase }, { on := 22, ground := Ground.phase }, { on := 23, ground := Ground.phase }, { on := 24, ground := Ground.phase }, { on := 25, ground := Ground.phase }, { on := 26, ground := Ground.phase }, { on := 27, ground := Ground.phase }, { on := 28, ground := Ground.phase }, { on := 29, ground := Ground.phase }, { on := 30, ground := Ground.phase }, { on := 31, ground := Ground.phase }], guard := none }) (v := ?_) rfl (by kernel_rfl) (by kernel_rfl) (by kernel_rfl) (by kernel_rfl) (fun _ _ _ h => h) (Or.inl ⟨by rfl, ?_⟩) ?_; rotate_left; (intro w hw; clear hw; (try go_split_ands); go_simp; try (with_reducible rfl)); simp only [Act.put, List.setIfInBounds_toArray, List.set_cons_zero, List.set_cons_succ])
      have c0 := h0.cell (k + 1 + 1) (by omega)
      have f0 := h0.frozen (k + 1 + 1)
      (refine Walk.go (i := 33) (o := { dst := none, op := Op.store 72 (Operand.tmp 51) (Operand.tmp 48), type := 0, pos := "plane.go:159", after := #[{ on := 32, ground := Ground.data }, { on := 27, ground := Ground.data }, { on := 31, ground := Ground.chain }, { on := 0, ground := Ground.phase }, { on := 1, ground := Ground.phase }, { on := 2, ground := Ground.phase }, { on := 3, ground := Ground.phase }, { on := 4, ground := Ground.phase }, { on := 5, ground := Ground.phase }, { on := 6, ground := Ground.phase }, { on := 7, ground := Ground.phase }, { on := 8, ground := Ground.phase }, { on := 9, ground := Ground.phase }, { on := 10, ground := Ground.phase }, { on := 11, ground := Ground.phase }, { on := 12, ground := Ground.phase }, { on := 13, ground := Ground.phase }, { on := 14, ground := Ground.phase }, { on := 15, ground := Ground.phase }, { on := 16, ground := Ground.phase }, { on := 17, ground := Ground.phase }, { on := 18, ground := Ground.phase }, { on := 19, ground := Ground.phase }, { on := 20, ground := Ground.phase }, { on := 21, ground := Ground.phase }, { on := 22, ground := Ground.phase }, { on := 23, ground := Ground.phase }, { on := 24, ground := Ground.phase }, { on := 25, ground := Ground.phase }, { on := 26, ground := Ground.phase }, { on := 27, ground := Ground.phase }, { on := 28, ground := Ground.phase }, { on := 29, ground := Ground.phase }, { on := 30, ground := Ground.phase }, { on := 31, ground := Ground.phase }], guard := none }) (by kernel_rfl) rfl (fun K hK => ?_); go_simp; (replace h0 := h0.set (k + 1 + 1) (.int .i64 (turnA luma1 luma2 luma3 l (k + 1 + 1))); rw [tab_grow .i64 n (turnA luma1 luma2 luma3 l) (fun _ => 0) (k + 1 + 1)] at h0; clear c0 f0; replace bw := But.setCell (S := Nowhere) (p := ⟨w.heap.size, k + 1 + 1, none⟩) bw (fun q => by exfalso; simp at q) (.int .i64 (turnA luma1 luma2 luma3 l (k + 1 + 1)))); refine hK.out _ _ (⟨fun q => absurd q (by decide), fun _ => trivial⟩) ?_; clear hK K; try simp only [Act.put, List.setIfInBounds_toArray, List.set_cons_zero, List.set_cons_succ])
      refine Walk.done (by kernel_rfl) ?_ _
      have HF : Hid _ := And.intro h0 bw
      clear h0 bw HS bu hc
      go_wp2_with fail
      go_roundw
      case rel => exact ⟨k + 3, by omega, by omega, by go_num, HF.out.1, HF.out.2⟩
      case measure => simp [intOf]; omega
    · obtain rfl : k = n := by omega
      go_wp2_with fail
      go_ret
      rw [tab_full] at hc
      exact ⟨rfl, hc, hb⟩

theorem Tryd.elemRowS : ElemInfo Tryd.prog 34 70 (.slice none 0 0) 1 24 := ⟨Tryd.underlying34, by kernel_rfl, rfl, by omega⟩

theorem Tryd.elem64S : ElemInfo Tryd.prog 70 73 (.agg (List.replicate 64 (Value.int .i64 0)).toArray) 64 512 := ⟨Tryd.underlying70, by kernel_rfl, rfl, by omega⟩

set_option maxHeartbeats 6400000 in
set_option maxRecDepth 100000 in
theorem vacantS_any (W H m q i c : Int) (f : Fit W H m) (w : World) : Calls Tryd.prog 66 #[pV W H m q i c] w fun e w' => ∃ v go B,
    e = .returned v ∧ Blks w' v 70 73 (gridW W H m * gridH W H m).toNat (unitL m).length go (fun i => B + i) (fun _ _ => 0) ∧ w.heap.size ≤ go ∧ go < B ∧ But Nowhere w w' := by
  obtain ⟨-, -, g1, g2, g3, g4⟩ := f.grid
  obtain ⟨a, ha⟩ : ∃ a, gridW W H m = a := ⟨_, rfl⟩
  obtain ⟨b, hb⟩ : ∃ b, gridH W H m = b := ⟨_, rfl⟩
  rw [ha] at g1 g2 ⊢
  rw [hb] at g3 g4 ⊢
  obtain ⟨u0, u6⟩ := unit_pos m
  obtain ⟨M, hM⟩ : ∃ M, (unitL m).length = M := ⟨_, rfl⟩
  obtain ⟨C, hC, C0, C1⟩ : ∃ C, a * b = C ∧ 0 ≤ C ∧ C ≤ 8192 * 8192 := ⟨_, rfl, Int.mul_nonneg (by omega) (by omega), Int.mul_le_mul g2 g4 (by omega) (by omega)⟩
  obtain ⟨N, rfl⟩ : ∃ N : Nat, C = N := ⟨C.toNat, by omega⟩
  rw [hC, Int.toNat_natCast, hM]
  rw [hM] at u0 u6
  have e0 : wrap64 (a * b) = (N : Int) := by rw [hC]; exact w64 _ (by omega)
  have hmO := fun W => make_any Tryd.elemRowS N (.slice none 0 0) (by intro j hj; have : j = 0 := (by omega); subst this; rfl) (by omega) (by omega) W
  have hmI := fun W => make_any Tryd.elem64S M (.int .i64 0) zcell64 (by omega) (by omega) W
  rw [Nat.mul_one] at hmO
  rw [tab_zero] at hmI
  have kk := (Keep.start w).made 23 (pC W H m q i c)
  go_enter Tryd.func66, Tryd.ntmps66
  go_wp2_with fail
  refine (grid_any _ _ _ _ _ _ _).mono ?_
  rintro e w1 ⟨rfl, b1⟩
  rw [ha, hb]
  replace kk := kk.step b1
  clear b1
  have c2 := kk.head.at 2
  simp only [List.getElem?_cons_zero, List.getElem?_cons_succ] at c2
  go_wp2_with fail
  refine (unit_any m f.m _).mono ?_
  rintro e w2 ⟨v, rfl, L2⟩
  rw [hM] at L2
  obtain ⟨vo, vc, rfl⟩ := L2.slice
  have b2 := kk.but.trans L2.but
  clear kk c2 L2
  have n2 := b2.size
  have H0 : Hid (Cells (w2.alloc (.cells (List.replicate N (.slice none 0 0)).toArray 70)) w2.heap.size 70 (List.replicate N (.slice none 0 0)) ∧ But Nowhere w (w2.alloc (.cells (List.replicate N (.slice none 0 0)).toArray 70))) := ⟨Cells.new _ _ _, b2.alloc _⟩
  go_wp2_with fail
  clear hmO e0
  go_loopw [23] (fun i W => ∃ (k : Nat), k ≤ N ∧ i = .int .i64 k ∧ Cells W w2.heap.size 70 ((List.range N).map fun i => if i < k then .slice (some ⟨w2.heap.size + 1 + i, 0, none⟩) M M else .slice none 0 0) ∧ (∀ i, i < k → Cells W (w2.heap.size + 1 + i) 73 (tab .i64 (M * 64) (fun _ => 0))) ∧ But Nowhere w W ∧ W.heap.size = w2.heap.size + 1 + k) (fun i _ => N - (intOf i).toNat)
  case atStart => exact ⟨0, Nat.zero_le _, rfl, by have := H0.out.1; simpa [List.map_const'] using this, fun i hi => by omega, H0.out.2, by simp⟩
  case round =>
    clear H0
    obtain ⟨k, hk, rfl, ho, hi, hb', hz⟩ := hrel
    by_cases hlt : k < N
    · have i0 : (0 : Int) ≤ (k : Int) := by omega
      have i1 : (k : Int) < (N : Int) := by omega
      have c0 : wr.cell? ⟨w2.heap.size, k, none⟩ = some (.slice none 0 0) := by rw [ho.at k]; simp [hlt]
      have f0 := ho.frozen k
      have hlz := ho.lt
      obtain ⟨W2, hW2⟩ : ∃ W2, (wr.setCell ⟨w2.heap.size, k, none⟩ (.slice (some ⟨wr.heap.size, 0, none⟩) M M)).alloc (.cells (tab .i64 (M * 64) (fun _ => 0)).toArray 73) = W2 := ⟨_, rfl⟩
      have H3 : Hid (Cells W2 w2.heap.size 70 ((List.range N).map fun i => if i < k + 1 then .slice (some ⟨w2.heap.size + 1 + i, 0, none⟩) M M else .slice none 0 0) ∧
          (∀ i, i < k + 1 → Cells W2 (w2.heap.size + 1 + i) 73 (tab .i64 (M * 64) (fun _ => 0))) ∧ But Nowhere w W2 ∧ W2.heap.size = w2.heap.size + 1 + (k + 1)) := by
        rw [← hW2]
        refine ⟨?_, fun i hi' => ?_, (hb'.setCell (fun q => by exfalso; simp at q; omega) _).alloc _, by simp [World.setCell, hz]; omega⟩
        · have h3 := (ho.set k (.slice (some ⟨wr.heap.size, 0, none⟩) M M)).alloc (.cells (tab .i64 (M * 64) (fun _ => 0)).toArray 73)
          have e : ((List.range N).map fun i => if i < k then Value.slice (some ⟨w2.heap.size + 1 + i, 0, none⟩) M M else .slice none 0 0).set k (.slice (some ⟨wr.heap.size, 0, none⟩) M M) = (List.range N).map fun i => if i < k + 1 then .slice (some ⟨w2.heap.size + 1 + i, 0, none⟩) M M else .slice none 0 0 := by
            apply List.ext_getElem?
            intro i
            by_cases hiN : i < N
            · rw [List.getElem?_set]
              by_cases e1 : k = i
              · subst e1; simp [hiN, hz]
              · rw [if_neg e1]
                simp only [List.getElem?_map, List.getElem?_range hiN, Option.map_some, Option.some.injEq]
                by_cases e2 : i < k
                · rw [if_pos e2, if_pos (by omega)]
                · rw [if_neg e2, if_neg (by omega)]
            · rw [List.getElem?_eq_none (by simp; omega), List.getElem?_eq_none (by simp; omega)]
          rw [e] at h3
          exact h3
        · by_cases e1 : i = k
          · rw [e1, ← hz]
            have h4 := Cells.new (wr.setCell ⟨w2.heap.size, k, none⟩ (.slice (some ⟨wr.heap.size, 0, none⟩) M M)) 73 (tab .i64 (M * 64) (fun _ => 0))
            simpa [World.setCell] using h4
          · exact ((hi i (by omega)).far (by omega) k _).alloc _
      have HW2 : Hid _ := hW2
      clear ho hi hW2 hz
      go_wp2_with fail
      go_roundw
      case rel => rw [HW2.out]; exact ⟨k + 1, by omega, by go_num, H3.out.1, H3.out.2.1, H3.out.2.2.1, H3.out.2.2.2⟩
      case measure => simp [intOf]; omega
    · obtain rfl : k = N := by omega
      go_wp2_with fail
      go_ret
      refine ⟨_, w2.heap.size, w2.heap.size + 1, rfl, ⟨rfl, ?_, hi⟩, by omega, by omega, hb'⟩
      have e : ((List.range k).map fun i => if i < k then Value.slice (some ⟨w2.heap.size + 1 + i, 0, none⟩) M M else .slice none 0 0) = (List.range k).map fun i => .slice (some ⟨w2.heap.size + 1 + i, 0, none⟩) M M := by
        apply List.map_congr_left
        intro i hi'
        rw [if_pos (by simpa using hi')]
      rw [e] at ho
      exact ho


end Go.Proofs.YtppbnmlgilgnnaaDoor

/- Each SAMPLE of secrets laid at its place: split. -/
namespace Go.Proofs.YtppbnmlgilgnnaaDoor
open Go.ChangeShapes Go.WideShapes Go.ChangeAt Go.RowKit Go.Shelf

attribute [local go_sem] Oper.semAt_some wide_fn wide_depth Fence.inRound_fn Fence.inRound_depth

set_option maxHeartbeats 1600000 in
theorem turnedS_parts (m : Int) (hm : 1 ≤ m ∧ m ≤ 4) (v : Value) (l : List Int) (Z : Int) (hl : (l.length : Int) = Z * partsN m) (w : World) (hv : View w .i64 v l) (hx : ∀ x ∈ l, 0 ≤ x ∧ x ≤ 255) (hs : l.length ≤ 4000000) : Calls Tryd.prog 65 #[.func (.func 71) #[] #[], .int .i64 m, v] w fun e w' =>
    (∃ v', e = .returned v' ∧ View w' .i64 v' (partsL m l)) ∧ But Nowhere w w' := by
  by_cases h1 : m = 1
  · subst h1
    obtain ⟨vo, vc, rfl⟩ := hv.slice
    go_enter Tryd.func65, Tryd.ntmps65
    go_wp2_with fail
    go_ret
    exact ⟨⟨_, rfl, by simpa [partsL] using hv⟩, But.refl _ _⟩
  · have h3 : partsN m = 3 := by unfold partsN; rw [if_neg h1]
    rw [h3] at hl
    refine (turnedSLuma_any m h1 v l l.length w hv rfl hx (l.length / 3) (by omega) hs).mono ?_
    rintro e w1 ⟨rfl, hc, hb⟩
    refine ⟨⟨_, rfl, ?_⟩, hb⟩
    have : partsL m l = (List.range l.length).map (turnA luma1 luma2 luma3 l) := by unfold partsL; rw [if_neg h1]
    rw [this]
    exact Tb.view ⟨_, rfl, hc⟩

set_option maxHeartbeats 12800000 in
set_option maxRecDepth 100000 in
theorem splitS_any (Wd Ht m q i0 c : Int) (f : Fit Wd Ht m) (v : Value) (l0 : List Int) (w : World) (hT : Tab w) (hv : View w .i64 v l0) (hlen : (l0.length : Int) = Wd * Ht * partsN m) (hx : ∀ x ∈ l0, 0 ≤ x ∧ x ≤ 255) :
    Calls Tryd.prog 34 #[.agg byPS.toArray, pV Wd Ht m q i0 c, v] w fun e w' => (∃ v' go G, e = .returned v' ∧ Blks w' v' 70 73 (gridW Wd Ht m * gridH Wd Ht m).toNat (unitL m).length go G (splitF Wd Ht m l0) ∧ w.heap.size ≤ go ∧ ∀ i, i < (gridW Wd Ht m * gridH Wd Ht m).toNat → w.heap.size ≤ G i) ∧ But Nowhere w w' := by
  have hm := f.m
  have hW := f.w
  have hH := f.h
  have hS := f.s
  have p1 : 1 ≤ (partsN m : Int) ∧ (partsN m : Int) ≤ 3 := by unfold partsN; split <;> simp
  have hls : (l0.length : Int) ≤ 1048576 * 3 := by rw [hlen]; exact Int.mul_le_mul hS p1.2 (by omega) (by omega)
  have hls2 : l0.length ≤ 4000000 := by omega
  have hPin := partsL_in m l0 hx
  have hPlen := partsL_length m l0
  have HSF := fun i b hi hb => spot_form f i b hi hb
  obtain ⟨vo, vc, rfl⟩ := hv.slice
  refine (callsIn_wide (n := 3)).1 ?_
  refine callsIn_of_wp_quiet Tryd.func34 rfl trivial ?_ rfl
  simp only [Tryd.ntmps34, List.size_toArray, List.length_cons, List.length_nil, Nat.reduceAdd, Nat.reduceSub, Array.replicate_succ, Array.replicate_zero, List.push_toArray, List.append_toArray, List.nil_append, List.cons_append]
  have kk := ((Keep.start w).made 82 byPS).made 23 (pC Wd Ht m q i0 c)
  simp only [World.size_alloc] at kk
  gi_wp2_with fail
  revert kk
  generalize (w.alloc (.cells byPS.toArray 82)).alloc (.cells #[.int .i64 Wd, .int .i64 Ht, .int .i64 m, .int .i64 q, .int .i64 i0, .int .i64 c] 23) = W0
  intro kk
  refine (callsIn_wide.2 (turnedS_parts m hm _ l0 (Wd * Ht) hlen _ (hv.but kk.but) hx hls2)).mono ?_
  rintro e w1 ⟨⟨pv, rfl, hV⟩, b1⟩
  replace kk := kk.step b1
  obtain ⟨po, pc, rfl⟩ := hV.slice
  rw [hPlen] at hV ⊢
  clear b1
  have hgp := (kk.get (b := w.heap.size + 1) (t := 23) (c := pC Wd Ht m q i0 c) (by simp))
  have hlp := hgp.lt
  have c0 := hgp.at 0
  have c1 := hgp.at 1
  have c2 := hgp.at 2
  have c3 := hgp.at 3
  have c4 := hgp.at 4
  have c5 := hgp.at 5
  simp only [List.getElem?_cons_zero, List.getElem?_cons_succ] at c0 c1 c2 c3 c4 c5
  obtain ⟨pb, hpb⟩ : ∃ b, w1.heap.size = b := ⟨_, rfl⟩
  have HV1 : Hid (View w1 .i64 (.slice po l0.length pc) (partsL m l0)) := hV
  have HPB : Hid (w1.heap.size = pb) := hpb
  replace kk := kk.made 36 [.slice po l0.length pc]
  rw [hpb] at kk hlp
  have hpb1 : w.heap.size + 1 < pb := hlp
  gi_wp2_with fail
  clear c0 c1 c2 c3 c4 c5 hgp hlp
  replace hV := hV.but ((But.refl Nowhere w1).alloc (.cells #[.slice po l0.length pc] 36))
  revert kk hV
  generalize w1.alloc (.cells #[.slice po l0.length pc] 36) = w2
  intro kk hV2
  have hw2 := kk.but.size
  have npb := kk.head.lt
  refine (callsIn_wide.2 (vacantS_any Wd Ht m q i0 c f w2)).mono ?_
  rintro e w3 ⟨lv, go, B, rfl, hBl, hgo, hgB, b3⟩
  replace kk := kk.step b3
  replace hV2 := hV2.but b3
  obtain rfl := hBl.val
  have hgp := (kk.get (b := w.heap.size + 1) (t := 23) (c := pC Wd Ht m q i0 c) (by simp))
  have hlp := hgp.lt
  have c0 := hgp.at 0
  have c1 := hgp.at 1
  have c2 := hgp.at 2
  have c3 := hgp.at 3
  have c4 := hgp.at 4
  have c5 := hgp.at 5
  simp only [List.getElem?_cons_zero, List.getElem?_cons_succ] at c0 c1 c2 c3 c4 c5
  obtain ⟨lb, hlb⟩ : ∃ b, w3.heap.size = b := ⟨_, rfl⟩
  obtain ⟨N, hN⟩ : ∃ N, (gridW Wd Ht m * gridH Wd Ht m).toNat = N := ⟨_, rfl⟩
  obtain ⟨M, hM⟩ : ∃ M, (unitL m).length = M := ⟨_, rfl⟩
  obtain ⟨g1, g2, g3, g4, g5, g6⟩ := f.grid
  have hN1 : 1 ≤ N := by
    have : 1 * 1 ≤ gridW Wd Ht m * gridH Wd Ht m := Int.mul_le_mul g3 g5 (by omega) (by omega)
    omega
  rw [hN, hM] at hBl
  have hz3 : B + N ≤ lb := by
    have := (hBl.inn (N - 1) (by omega)).lt
    omega
  rw [hN]
  have HN : Hid ((gridW Wd Ht m * gridH Wd Ht m).toNat = N) := hN
  have HM : Hid ((unitL m).length = M) := hM
  replace kk := kk.made 34 [.slice (some ⟨go, 0, none⟩) N N]
  replace hBl := hBl.step ((But.refl Nowhere w3).alloc (.cells #[.slice (some ⟨go, 0, none⟩) N N] 34))
  replace hV2 := hV2.but ((But.refl Nowhere w3).alloc (.cells #[.slice (some ⟨go, 0, none⟩) N N] 34))
  rw [hlb] at kk hlp
  gi_wp2_with fail
  clear c0 c1 c2 c3 c4 c5 hgp hlp
  revert kk hBl hV2
  generalize w3.alloc (.cells #[.slice (some ⟨go, 0, none⟩) N N] 34) = w4
  intro kk hBl hV2
  refine (callsIn_wide.2 (spots_any Wd Ht m q i0 c hm w4)).mono ?_
  rintro e w5 ⟨ab, db, fb, wb, hb', sv, rfl, b5, ⟨i1, i2, i3, i4, i5, i6⟩, n1, n2, n3, n4, n5, n6⟩
  replace kk := kk.step b5
  have z5 := b5.size
  have hBl5 := hBl.step b5
  replace hV2 := hV2.but b5
  have sd := side_fit hm
  obtain ⟨u0, u6⟩ := unit_pos m
  have hz4 : B + N ≤ w4.heap.size := by
    have := (hBl.inn (N - 1) (by omega)).lt
    omega
  have nlb := kk.new (lb, 34, [.slice (some ⟨go, 0, none⟩) N N]) (by simp)
  simp only at nlb
  have hT5 := hT.but kk.but
  have ITR := spots_iter (gridW Wd Ht m) (gridH Wd Ht m) (sideW m) (sideH m) (unitL m) sv ab db fb wb hb' ⟨g3, g4⟩ ⟨g5, g6⟩ ⟨by omega, sd.2.1⟩ ⟨by omega, sd.2.2.2⟩ ⟨u0, u6⟩ (fun s hs => by have := unit_ok m s hs; omega)
  rw [hN, hM] at ITR
  rw [hM] at u0 u6
  rw [hN, hM] at HSF
  clear hBl hN hM
  gi_wp2_with fail
  refine range_out (T := fun k => B ≤ k ∧ k < B + N) (fun i W => ∀ mc, mc < N → Cells W (B + mc) 73 (tab .i64 (M * 64) (fun j => if mc * M * 64 + j < i * 64 then splitF Wd Ht m l0 mc j else 0))) ITR rfl (enters_of Tryd.func85 (by kernel_rfl) rfl) (fun _ => rfl)
    (fun U hU => ⟨i1.but hU (by omega), i2.but hU (by omega), i3.but hU (by omega), i4.but hU (by omega), i5.but hU (by omega), i6.but hU (fun k hk => by have := n6 k hk; omega)⟩) (fun k hk => by omega) (fun i U U' hj hk mc hmc => (hk _ ⟨by omega, by omega⟩).trans (hj mc hmc)) (fun mc hmc => by simpa using hBl5.inn mc hmc) ?_ ?_
  · intro lo i W KK hlo hlt hi hbW hJ hK
    have hOff : Off (fun k => B ≤ k ∧ k < B + N) (.slice po l0.length pc) := HV1.out.off (fun b hb => by have := HPB.out; omega)
    obtain ⟨mc, hmc⟩ : ∃ mc, i / M = mc := ⟨_, rfl⟩
    obtain ⟨bl, hbl⟩ : ∃ bl, i % M = bl := ⟨_, rfl⟩
    have hmcN : mc < N := by rw [← hmc]; exact Nat.div_lt_of_lt_mul (by rw [Nat.mul_comm]; exact hi)
    have hblM : bl < M := by rw [← hbl]; exact Nat.mod_lt _ u0
    have hib : mc * M + bl = i := by rw [← hmc, ← hbl, Nat.mul_comm]; exact Nat.div_add_mod i M
    obtain ⟨pa, x, y, wi, hh, hsp, hok, hpa⟩ := HSF mc bl hmcN hblM
    have hval : ∀ k : Nat, k < 64 → splitF Wd Ht m l0 mc (bl * 64 + k) = sampleF Wd Ht (partsL m l0) ⟨mc, bl, pa, partsN m, x, y, wi, hh⟩ (k : Int) := by
      intro k hk
      unfold splitF
      rw [show (bl * 64 + k) / 64 = bl by omega, show (bl * 64 + k) % 64 = k by omega, hsp]
    have HVAL : Hid _ := hval
    have hPl : Wd * Ht * (partsN m : Int) ≤ ((partsL m l0).length : Int) := by rw [hPlen, hlen]; exact Int.le_refl _
    dsimp only
    rw [hmc, hbl, hsp]
    have gS0 := Cells.new W 103 (Spot.cells ⟨mc, bl, pa, partsN m, x, y, wi, hh⟩)
    clear hmc hbl hsp hval
    gi_wp2_with fail
    refine hK _ _ ((But.refl _ _).alloc _) ?_
    clear hJ hK hbW
    intro U hU hlU hbU hJ
    have lw := hU.size
    simp only [World.size_alloc] at lw
    have gS1 := gS0.but hU (by omega)
    obtain ⟨sb, hsb⟩ : ∃ b, W.heap.size = b := ⟨_, rfl⟩
    rw [hsb] at gS1 lw ⊢
    have hw5 : w5.heap.size < sb := by have := hbU.size; omega
    obtain ⟨P, hP⟩ : ∃ P : Nat, partsN m = P := ⟨_, rfl⟩
    rw [hP] at gS1 hok hpa hPl HVAL
    clear gS0 hU hlU hsb hP
    gi_wp2_with fail
    gi_loopw [22] (fun n wr => ∃ k : Nat, k ≤ 64 ∧ n = .int .i64 k ∧ But (fun k => B ≤ k ∧ k < B + N) U wr ∧ ∀ mc', mc' < N → Cells wr (B + mc') 73 (tab .i64 (M * 64) (fun j => if mc' * M * 64 + j < (mc * M + bl) * 64 + k then splitF Wd Ht m l0 mc' j else 0))) (fun n _ => (64 - intOf n).toNat)
    case atStart => exact ⟨0, by omega, by simp, But.refl _ _, by rw [hib]; simpa using hJ⟩
    case round =>
      clear hJ
      obtain ⟨k, hk, rfl, hbr, hJ⟩ := hrel
      by_cases hk64 : (k : Int) < 64
      · have hkN : k < 64 := by omega
        have hbT : But (fun k => B ≤ k ∧ k < B + N) w5 wr := hbU.trans hbr
        have gB := (kk.get (b := w.heap.size) (t := 82) (c := byPS) (by simp)).but hbT (by omega)
        have gP := (kk.get (b := w.heap.size + 1) (t := 23) (c := pC Wd Ht m q i0 c) (by simp)).but hbT (by omega)
        have gV := (kk.get (b := pb) (t := 36) (c := [.slice po l0.length pc]) (by simp)).but hbT (by omega)
        have gL := (kk.get (b := lb) (t := 34) (c := [.slice (some ⟨go, 0, none⟩) N N]) (by simp)).but hbT (by omega)
        have gS := gS1.but hbr (by omega)
        have gO : wr.cell? ⟨go, mc, none⟩ = some (.slice (some ⟨B + mc, 0, none⟩) M M) := by rw [(hBl5.out.but hbT (by omega)).at mc]; exact outs_at N M (fun i => B + i) mc hmcN
        have hTU := hT5.butS hbT (by have := hT.lt; omega)
        have hVU := hV2.butS hbT hOff
        have HS : ∀ V, But Nowhere wr V → ((V.cell? ⟨w.heap.size, 0, none⟩ = some (.func (.func 36) #[] #[]) ∧ V.cell? ⟨w.heap.size, 1, none⟩ = some (.func (.func 68) #[] #[]) ∧ V.cell? ⟨w.heap.size, 2, none⟩ = some (.func (.func 69) #[] #[]) ∧ V.cell? ⟨w.heap.size, 3, none⟩ = some (.func (.func 70) #[] #[]) ∧ V.cell? ⟨w.heap.size, 4, none⟩ = some (.func (.func 71) #[] #[]) ∧ V.cell? ⟨w.heap.size, 5, none⟩ = some (.func (.func 72) #[] #[])) ∧ (V.cell? ⟨w.heap.size + 1, 0, none⟩ = some (.int .i64 Wd) ∧ V.cell? ⟨w.heap.size + 1, 1, none⟩ = some (.int .i64 Ht) ∧ V.cell? ⟨w.heap.size + 1, 2, none⟩ = some (.int .i64 m) ∧ V.cell? ⟨w.heap.size + 1, 3, none⟩ = some (.int .i64 q) ∧ V.cell? ⟨w.heap.size + 1, 4, none⟩ = some (.int .i64 i0) ∧ V.cell? ⟨w.heap.size + 1, 5, none⟩ = some (.int .i64 c)) ∧ (V.cell? ⟨sb, 0, none⟩ = some (.int .i64 (mc : Int)) ∧ V.cell? ⟨sb, 1, none⟩ = some (.int .i64 (bl : Int)) ∧ V.cell? ⟨sb, 2, none⟩ = some (.int .i64 pa) ∧ V.cell? ⟨sb, 3, none⟩ = some (.int .i64 (P : Int)) ∧ V.cell? ⟨sb, 4, none⟩ = some (.int .i64 x) ∧ V.cell? ⟨sb, 5, none⟩ = some (.int .i64 y) ∧ V.cell? ⟨sb, 6, none⟩ = some (.int .i64 wi) ∧ V.cell? ⟨sb, 7, none⟩ = some (.int .i64 hh)) ∧ V.cell? ⟨pb, 0, none⟩ = some (.slice po l0.length pc) ∧ V.cell? ⟨lb, 0, none⟩ = some (.slice (some ⟨go, 0, none⟩) N N) ∧ V.cell? ⟨go, mc, none⟩ = some (.slice (some ⟨B + mc, 0, none⟩) M M)) := fun V hb => ⟨⟨hb.keeps (not_nowhere _) (gB.at 0), hb.keeps (not_nowhere _) (gB.at 1), hb.keeps (not_nowhere _) (gB.at 2), hb.keeps (not_nowhere _) (gB.at 3), hb.keeps (not_nowhere _) (gB.at 4), hb.keeps (not_nowhere _) (gB.at 5)⟩, ⟨hb.keeps (not_nowhere _) (gP.at 0), hb.keeps (not_nowhere _) (gP.at 1), hb.keeps (not_nowhere _) (gP.at 2), hb.keeps (not_nowhere _) (gP.at 3), hb.keeps (not_nowhere _) (gP.at 4), hb.keeps (not_nowhere _) (gP.at 5)⟩, ⟨hb.keeps (not_nowhere _) (gS.at 0), hb.keeps (not_nowhere _) (gS.at 1), hb.keeps (not_nowhere _) (gS.at 2), hb.keeps (not_nowhere _) (gS.at 3), hb.keeps (not_nowhere _) (gS.at 4), hb.keeps (not_nowhere _) (gS.at 5), hb.keeps (not_nowhere _) (gS.at 6), hb.keeps (not_nowhere _) (gS.at 7)⟩, hb.keeps (not_nowhere _) (gV.at 0), hb.keeps (not_nowhere _) (gL.at 0), hb.keeps (not_nowhere _) (gO)⟩
        have bu : But Nowhere wr wr.drew := (But.refl _ _).drew
        have t0 : (0 : Int) ≤ (mc : Int) := by omega
        have t1 : (mc : Int) < (N : Int) := by omega
        have t2 : (0 : Int) ≤ (bl : Int) := by omega
        have t3 : (bl : Int) < (M : Int) := by omega
        have t4 : (0 : Int) ≤ (k : Int) := by omega
        clear gB gP gV gL gS gO
        gi_wp2_with fail
        refine round_region_till (S := fun V => (V.cell? ⟨w.heap.size, 0, none⟩ = some (.func (.func 36) #[] #[]) ∧ V.cell? ⟨w.heap.size, 1, none⟩ = some (.func (.func 68) #[] #[]) ∧ V.cell? ⟨w.heap.size, 2, none⟩ = some (.func (.func 69) #[] #[]) ∧ V.cell? ⟨w.heap.size, 3, none⟩ = some (.func (.func 70) #[] #[]) ∧ V.cell? ⟨w.heap.size, 4, none⟩ = some (.func (.func 71) #[] #[]) ∧ V.cell? ⟨w.heap.size, 5, none⟩ = some (.func (.func 72) #[] #[])) ∧ (V.cell? ⟨w.heap.size + 1, 0, none⟩ = some (.int .i64 Wd) ∧ V.cell? ⟨w.heap.size + 1, 1, none⟩ = some (.int .i64 Ht) ∧ V.cell? ⟨w.heap.size + 1, 2, none⟩ = some (.int .i64 m) ∧ V.cell? ⟨w.heap.size + 1, 3, none⟩ = some (.int .i64 q) ∧ V.cell? ⟨w.heap.size + 1, 4, none⟩ = some (.int .i64 i0) ∧ V.cell? ⟨w.heap.size + 1, 5, none⟩ = some (.int .i64 c)) ∧ (V.cell? ⟨sb, 0, none⟩ = some (.int .i64 (mc : Int)) ∧ V.cell? ⟨sb, 1, none⟩ = some (.int .i64 (bl : Int)) ∧ V.cell? ⟨sb, 2, none⟩ = some (.int .i64 pa) ∧ V.cell? ⟨sb, 3, none⟩ = some (.int .i64 (P : Int)) ∧ V.cell? ⟨sb, 4, none⟩ = some (.int .i64 x) ∧ V.cell? ⟨sb, 5, none⟩ = some (.int .i64 y) ∧ V.cell? ⟨sb, 6, none⟩ = some (.int .i64 wi) ∧ V.cell? ⟨sb, 7, none⟩ = some (.int .i64 hh)) ∧ V.cell? ⟨pb, 0, none⟩ = some (.slice po l0.length pc) ∧ V.cell? ⟨lb, 0, none⟩ = some (.slice (some ⟨go, 0, none⟩) N N) ∧ V.cell? ⟨go, mc, none⟩ = some (.slice (some ⟨B + mc, 0, none⟩) M M)) (R := fun _ => True) (k := 16) (m := 100) (by kernel_rfl) (by kernel_rfl) (by rintro ⟨_, _, ⟨q, _⟩⟩; cases q) (HS _ bu) trivial ?_
        (refine Walk.take (i := 0) (oi := { dst := some 25, op := Op.load 34 (Operand.tmp 8), type := 34, pos := "plane.go:118", after := #[], guard := none }) (v := ?_) rfl (by kernel_rfl) (by kernel_rfl) (by kernel_rfl) (by kernel_rfl) (fun _ _ _ h => h) (Or.inl ⟨by rfl, ?_⟩) ?_; rotate_left; (intro w hw; have hS1 := hw.1 (by kernel_rfl); clear hw; (try dsimp only at hS1); (try go_split_ands); go_simp; try (with_reducible rfl)); simp only [Act.put, List.setIfInBounds_toArray, List.set_cons_zero, List.set_cons_succ])
        (refine Walk.take (i := 1) (oi := { dst := some 26, op := Op.fieldAddr 103 (Operand.tmp 9) 0, type := 0, pos := "plane.go:118", after := #[], guard := none }) (v := ?_) rfl (by kernel_rfl) (by kernel_rfl) (by kernel_rfl) (by kernel_rfl) (fun _ _ _ h => h) (Or.inl ⟨by rfl, ?_⟩) ?_; rotate_left; (intro w hw; clear hw; (try go_split_ands); go_simp; try (with_reducible rfl)); simp only [Act.put, List.setIfInBounds_toArray, List.set_cons_zero, List.set_cons_succ])
        (refine Walk.take (i := 2) (oi := { dst := some 27, op := Op.load 3 (Operand.tmp 26), type := 3, pos := "plane.go:118", after := #[{ on := 1, ground := Ground.data }], guard := none }) (v := ?_) rfl (by kernel_rfl) (by kernel_rfl) (by kernel_rfl) (by kernel_rfl) (fun _ _ _ h => h) (Or.inl ⟨by rfl, ?_⟩) ?_; rotate_left; (intro w hw; have hS1 := hw.1 (by kernel_rfl); clear hw; (try dsimp only at hS1); (try go_split_ands); go_simp; try (with_reducible rfl)); simp only [Act.put, List.setIfInBounds_toArray, List.set_cons_zero, List.set_cons_succ])
        (refine Walk.take (i := 3) (oi := { dst := some 28, op := Op.indexAddr 34 (Operand.tmp 25) (Operand.tmp 27), type := 0, pos := "plane.go:118", after := #[{ on := 0, ground := Ground.data }, { on := 2, ground := Ground.data }], guard := none }) (v := ?_) rfl (by kernel_rfl) (by kernel_rfl) (by kernel_rfl) (by kernel_rfl) (fun _ _ _ h => h) (Or.inl ⟨by rfl, ?_⟩) ?_; rotate_left; (intro w hw; clear hw; (try go_split_ands); go_simp; try (with_reducible rfl)); simp only [Act.put, List.setIfInBounds_toArray, List.set_cons_zero, List.set_cons_succ])
        (refine Walk.take (i := 4) (oi := { dst := some 29, op := Op.load 70 (Operand.tmp 28), type := 70, pos := "plane.go:118", after := #[{ on := 3, ground := Ground.data }], guard := none }) (v := ?_) rfl (by kernel_rfl) (by kernel_rfl) (by kernel_rfl) (by kernel_rfl) (fun _ _ _ h => h) (Or.inl ⟨by rfl, ?_⟩) ?_; rotate_left; (intro w hw; have hS1 := hw.1 (by kernel_rfl); clear hw; (try dsimp only at hS1); (try go_split_ands); go_simp; try (with_reducible rfl)); simp only [Act.put, List.setIfInBounds_toArray, List.set_cons_zero, List.set_cons_succ])
        (refine Walk.take (i := 5) (oi := { dst := some 30, op := Op.fieldAddr 103 (Operand.tmp 9) 1, type := 0, pos := "plane.go:118", after := #[], guard := none }) (v := ?_) rfl (by kernel_rfl) (by kernel_rfl) (by kernel_rfl) (by kernel_rfl) (fun _ _ _ h => h) (Or.inl ⟨by rfl, ?_⟩) ?_; rotate_left; (intro w hw; clear hw; (try go_split_ands); go_simp; try (with_reducible rfl)); simp only [Act.put, List.setIfInBounds_toArray, List.set_cons_zero, List.set_cons_succ])
        (refine Walk.take (i := 6) (oi := { dst := some 31, op := Op.load 3 (Operand.tmp 30), type := 3, pos := "plane.go:118", after := #[{ on := 5, ground := Ground.data }], guard := none }) (v := ?_) rfl (by kernel_rfl) (by kernel_rfl) (by kernel_rfl) (by kernel_rfl) (fun _ _ _ h => h) (Or.inl ⟨by rfl, ?_⟩) ?_; rotate_left; (intro w hw; have hS1 := hw.1 (by kernel_rfl); clear hw; (try dsimp only at hS1); (try go_split_ands); go_simp; try (with_reducible rfl)); simp only [Act.put, List.setIfInBounds_toArray, List.set_cons_zero, List.set_cons_succ])
        (refine Walk.take (i := 7) (oi := { dst := some 32, op := Op.move (Operand.tmp 10), type := 3, pos := "plane.go:118", after := #[], guard := none }) (v := ?_) rfl (by kernel_rfl) (by kernel_rfl) (by kernel_rfl) (by kernel_rfl) (fun _ _ _ h => h) (Or.inl ⟨by rfl, ?_⟩) ?_; rotate_left; (intro w hw; clear hw; (try go_split_ands); go_simp; try (with_reducible rfl)); simp only [Act.put, List.setIfInBounds_toArray, List.set_cons_zero, List.set_cons_succ])
        (refine Walk.take (i := 8) (oi := { dst := some 33, op := Op.load 82 (Operand.tmp 3), type := 82, pos := "plane.go:118", after := #[], guard := none }) (v := ?_) rfl (by kernel_rfl) (by kernel_rfl) (by kernel_rfl) (by kernel_rfl) (fun _ _ _ h => h) (Or.inl ⟨by rfl, ?_⟩) ?_; rotate_left; (intro w hw; have hS1 := hw.1 (by kernel_rfl); clear hw; (try dsimp only at hS1); (try go_split_ands); go_simp; try (with_reducible rfl)); simp only [Act.put, List.setIfInBounds_toArray, List.set_cons_zero, List.set_cons_succ])
        (refine Walk.take (i := 9) (oi := { dst := some 34, op := Op.load 23 (Operand.tmp 4), type := 23, pos := "plane.go:118", after := #[], guard := none }) (v := ?_) rfl (by kernel_rfl) (by kernel_rfl) (by kernel_rfl) (by kernel_rfl) (fun _ _ _ h => h) (Or.inl ⟨by rfl, ?_⟩) ?_; rotate_left; (intro w hw; have hS1 := hw.1 (by kernel_rfl); clear hw; (try dsimp only at hS1); (try go_split_ands); go_simp; try (with_reducible rfl)); simp only [Act.put, List.setIfInBounds_toArray, List.set_cons_zero, List.set_cons_succ])
        (refine Walk.take (i := 10) (oi := { dst := some 35, op := Op.load 36 (Operand.tmp 7), type := 36, pos := "plane.go:118", after := #[], guard := none }) (v := ?_) rfl (by kernel_rfl) (by kernel_rfl) (by kernel_rfl) (by kernel_rfl) (fun _ _ _ h => h) (Or.inl ⟨by rfl, ?_⟩) ?_; rotate_left; (intro w hw; have hS1 := hw.1 (by kernel_rfl); clear hw; (try dsimp only at hS1); (try go_split_ands); go_simp; try (with_reducible rfl)); simp only [Act.put, List.setIfInBounds_toArray, List.set_cons_zero, List.set_cons_succ])
        (refine Walk.take (i := 11) (oi := { dst := some 36, op := Op.load 103 (Operand.tmp 9), type := 103, pos := "plane.go:118", after := #[], guard := none }) (v := ?_) rfl (by kernel_rfl) (by kernel_rfl) (by kernel_rfl) (by kernel_rfl) (fun _ _ _ h => h) (Or.inl ⟨by rfl, ?_⟩) ?_; rotate_left; (intro w hw; have hS1 := hw.1 (by kernel_rfl); clear hw; (try dsimp only at hS1); (try go_split_ands); go_simp; try (with_reducible rfl)); simp only [Act.put, List.setIfInBounds_toArray, List.set_cons_zero, List.set_cons_succ])
        (refine Walk.take (i := 12) (oi := { dst := some 37, op := Op.move (Operand.tmp 10), type := 3, pos := "plane.go:118", after := #[], guard := none }) (v := ?_) rfl (by kernel_rfl) (by kernel_rfl) (by kernel_rfl) (by kernel_rfl) (fun _ _ _ h => h) (Or.inl ⟨by rfl, ?_⟩) ?_; rotate_left; (intro w hw; clear hw; (try go_split_ands); go_simp; try (with_reducible rfl)); simp only [Act.put, List.setIfInBounds_toArray, List.set_cons_zero, List.set_cons_succ])
        (refine Walk.take (i := 14) (oi := { dst := some 39, op := Op.indexAddr 70 (Operand.tmp 29) (Operand.tmp 31), type := 0, pos := "plane.go:118", after := #[{ on := 4, ground := Ground.data }, { on := 6, ground := Ground.data }], guard := none }) (v := ?_) rfl (by kernel_rfl) (by kernel_rfl) (by kernel_rfl) (by kernel_rfl) (fun _ _ _ h => h) (Or.inl ⟨by rfl, ?_⟩) ?_; rotate_left; (intro w hw; clear hw; (try go_split_ands); go_simp; try (with_reducible rfl)); simp only [Act.put, List.setIfInBounds_toArray, List.set_cons_zero, List.set_cons_succ])
        (refine Walk.go (i := 13) (o := { dst := some 38, op := Op.call { callee := Callee.value (Operand.func 67), args := #[Operand.tmp 33, Operand.tmp 34, Operand.tmp 35, Operand.tmp 36, Operand.tmp 37], argTypes := #[82, 23, 36, 103, 3] }, type := 72, pos := "plane.go:118", after := #[{ on := 8, ground := Ground.data }, { on := 9, ground := Ground.data }, { on := 10, ground := Ground.data }, { on := 11, ground := Ground.data }, { on := 12, ground := Ground.data }], guard := none }) (by kernel_rfl) rfl (fun K hK => ?_); go_simp; ((go_at_call 67; refine (sampleS_any Wd Ht m q i0 c ⟨mc, bl, pa, P, x, y, wi, hh⟩ k _ (partsL m l0) _ (hTU.but bu) (hVU.but bu) hok hpa (by omega) hW hH hPin hPl).mono ?_; rintro e x1 ⟨rfl, d1⟩; replace bu := bu.trans d1; clear d1)); refine hK.out _ _ (⟨fun _ => HS _ bu, fun _ => trivial⟩) ?_; clear hK K; try simp only [Act.put, List.setIfInBounds_toArray, List.set_cons_zero, List.set_cons_succ])
        (refine Walk.take (i := 15) (oi := { dst := some 40, op := Op.indexAddr 73 (Operand.tmp 39) (Operand.tmp 32), type := 0, pos := "plane.go:118", after := #[{ on := 14, ground := Ground.data }, { on := 7, ground := Ground.data }, { on := 0, ground := Ground.phase }, { on := 1, ground := Ground.phase }, { on := 2, ground := Ground.phase }, { on := 3, ground := Ground.phase }, { on := 4, ground := Ground.phase }, { on := 5, ground := Ground.phase }, { on := 6, ground := Ground.phase }, { on := 7, ground := Ground.phase }, { on := 8, ground := Ground.phase }, { on := 9, ground := Ground.phase }, { on := 10, ground := Ground.phase }, { on := 11, ground := Ground.phase }, { on := 12, ground := Ground.phase }, { on := 13, ground := Ground.phase }], guard := none }) (v := ?_) rfl (by kernel_rfl) (by kernel_rfl) (by kernel_rfl) (by kernel_rfl) (fun _ _ _ h => h) (Or.inl ⟨by rfl, ?_⟩) ?_; rotate_left; (intro w hw; clear hw; (try go_split_ands); go_simp; try (with_reducible rfl)); simp only [Act.put, List.setIfInBounds_toArray, List.set_cons_zero, List.set_cons_succ])
        have hJ2 := fun mc' hmc' => (hJ mc' hmc').but bu (not_nowhere _)
        have c9 := (hJ2 mc hmcN).cell (bl * 64 + k) (by omega)
        have f9 := (hJ2 mc hmcN).frozen (bl * 64 + k)
        (refine Walk.go (i := 16) (o := { dst := none, op := Op.store 72 (Operand.tmp 40) (Operand.tmp 38), type := 0, pos := "plane.go:118", after := #[{ on := 15, ground := Ground.data }, { on := 13, ground := Ground.data }, { on := 13, ground := Ground.chain }, { on := 0, ground := Ground.phase }, { on := 1, ground := Ground.phase }, { on := 2, ground := Ground.phase }, { on := 3, ground := Ground.phase }, { on := 4, ground := Ground.phase }, { on := 5, ground := Ground.phase }, { on := 6, ground := Ground.phase }, { on := 7, ground := Ground.phase }, { on := 8, ground := Ground.phase }, { on := 9, ground := Ground.phase }, { on := 10, ground := Ground.phase }, { on := 11, ground := Ground.phase }, { on := 12, ground := Ground.phase }, { on := 13, ground := Ground.phase }], guard := none }) (by kernel_rfl) rfl (fun K hK => ?_); go_simp; (skip); refine hK.out _ _ (⟨fun q => absurd q (by decide), fun _ => trivial⟩) ?_; clear hK K; try simp only [Act.put, List.setIfInBounds_toArray, List.set_cons_zero, List.set_cons_succ])
        refine Walk.done (by kernel_rfl) ?_ _
        have HJ3 : Hid _ := And.intro (But.setCell (S := fun k => B ≤ k ∧ k < B + N) (p := ⟨B + mc, bl * 64 + k, none⟩) (hbr.trans (bu.mono (fun _ _ f => f.elim))) (fun _ => ⟨by show B ≤ B + mc; omega, by show B + mc < B + N; omega⟩) (.int .i64 (sampleF Wd Ht (partsL m l0) ⟨mc, bl, pa, P, x, y, wi, hh⟩ (k : Int)))) (HVAL.out k hkN ▸ grid_step hmcN hblM hkN hJ2)
        clear hJ2 c9 f9 hJ HS bu hTU hVU
        gi_wp2_with fail
        go_roundw
        case rel => exact ⟨k + 1, by omega, by go_num, HJ3.out.1, HJ3.out.2⟩
        case measure => simp [intOf]; omega
      · obtain rfl : k = 64 := by omega
        have hX : ∀ mc', mc' < N → Cells wr (B + mc') 73 (tab .i64 (M * 64) (fun j => if mc' * M * 64 + j < (i + 1) * 64 then splitF Wd Ht m l0 mc' j else 0)) := by rw [hib] at hJ; intro mc' hmc'; rw [Nat.add_mul]; exact hJ mc' hmc'
        clear hJ
        gi_wp2_with fail
        first | exact hX | exact ⟨hbr, hX⟩
  · intro W' hb hJ hD hlt
    have gL := (kk.get (b := lb) (t := 34) (c := [.slice (some ⟨go, 0, none⟩) N N]) (by simp)).but hb (by omega)
    have c0 := gL.at 0
    simp only [List.getElem?_cons_zero] at c0
    gi_wp2_with fail
    refine ⟨by simp, .inl ⟨_, _, rfl, run_takeDeferred hD, ?_⟩⟩
    have hz5 := kk.but.size
    refine ⟨_, results_tmp rfl _ _ _, ⟨_, go, fun i => B + i, rfl, ?_, ?_, ?_⟩, ?_⟩
    · rw [HN.out, HM.out]
      have hne : ∀ b, b < w5.heap.size → b ≠ w5.heap.size := fun b hb => by omega
      refine Blks.but (S := fun k => k = w5.heap.size) ⟨rfl, hBl5.out.but hb (by omega), fun i hi => ?_⟩ (But.putObj (S := fun k => k = w5.heap.size) (But.refl _ _) (fun _ => rfl) _) (by omega) (fun i hi => by omega)
      have h1 := hJ i hi
      have e1 : tab .i64 (M * 64) (fun j => if i * M * 64 + j < N * M * 64 then splitF Wd Ht m l0 i j else 0) = tab .i64 (M * 64) (splitF Wd Ht m l0 i) := by
        refine tab_congr _ _ _ _ (fun j hj => ?_)
        have : (i + 1) * M ≤ N * M := Nat.mul_le_mul_right M hi
        rw [Nat.add_mul] at this
        rw [if_pos (by omega)]
      rw [e1] at h1
      exact h1
    · omega
    · intro i hi; show w.heap.size ≤ B + i; omega
    · exact But.putObj ((kk.but.mono (T := fun _ => False) (fun _ _ f => f)).step hb (fun k hk f => by omega)) (fun q => by omega) _

end Go.Proofs.YtppbnmlgilgnnaaDoor

/- SplitSec of what fits; the law's Words and secrets. -/
namespace Go.Proofs.YtppbnmlgilgnnaaDoor
open Go.ChangeShapes Go.WideShapes Go.ChangeAt Go.RowKit

set_option maxHeartbeats 3200000 in
set_option maxRecDepth 100000 in
theorem splitSec_fit (Wd Ht m q i0 c : Int) (f : Fit Wd Ht m) (v : Value) (l : List Int) (w : World) (hT : Tab w) (hv : View w .i64 v l) (hlen : (l.length : Int) = Wd * Ht * partsN m) (hx : ∀ x ∈ l, 0 ≤ x ∧ x ≤ 255) :
    Calls Tryd.prog 16 #[pV Wd Ht m q i0 c, v] w fun e w' => (∃ v' go G, e = .returned v' ∧ Blks w' v' 70 73 (gridW Wd Ht m * gridH Wd Ht m).toNat (unitL m).length go G (splitF Wd Ht m l)) ∧ But Nowhere w w' := by
  have HLEN : Hid ((l.length : Int) = Wd * Ht * partsN m) := hlen
  clear hlen
  obtain ⟨vo, vc, rfl⟩ := hv.slice
  have kk := (Keep.start w).made 23 (pC Wd Ht m q i0 c)
  go_enter Tryd.func16, Tryd.ntmps16
  go_wp2_with fail
  refine (counts_fit _ _ _ _ _ _ _ f _).mono ?_
  rintro e w1 ⟨rfl, b1⟩
  have hd : decide ((l.length : Int) = Wd * Ht * partsN m) = true := by simpa using HLEN.out
  rw [hd]
  replace kk := (kk.step b1).drew
  clear b1 hd
  have HS : ∀ V, Keep w V [(w.heap.size, 23, pC Wd Ht m q i0 c)] → (V.cell? ⟨w.heap.size, 0, none⟩ = some (.int .i64 Wd) ∧ V.cell? ⟨w.heap.size, 1, none⟩ = some (.int .i64 Ht) ∧ V.cell? ⟨w.heap.size, 2, none⟩ = some (.int .i64 m) ∧ V.cell? ⟨w.heap.size, 3, none⟩ = some (.int .i64 q) ∧ V.cell? ⟨w.heap.size, 4, none⟩ = some (.int .i64 i0) ∧ V.cell? ⟨w.heap.size, 5, none⟩ = some (.int .i64 c)) := fun V kk => have gP := kk.head; ⟨gP.at 0, gP.at 1, gP.at 2, gP.at 3, gP.at 4, gP.at 5⟩
  go_wp2_with fail
  refine wp_region_till (S := fun V => V.cell? ⟨w.heap.size, 0, none⟩ = some (.int .i64 Wd) ∧ V.cell? ⟨w.heap.size, 1, none⟩ = some (.int .i64 Ht) ∧ V.cell? ⟨w.heap.size, 2, none⟩ = some (.int .i64 m) ∧ V.cell? ⟨w.heap.size, 3, none⟩ = some (.int .i64 q) ∧ V.cell? ⟨w.heap.size, 4, none⟩ = some (.int .i64 i0) ∧ V.cell? ⟨w.heap.size, 5, none⟩ = some (.int .i64 c)) (R := fun _ => True) (k := 100) (m := 100) (by kernel_rfl) (HS _ kk) trivial ?_
  (refine Walk.take (i := 1) (oi := { dst := some 11, op := Op.load 23 (Operand.tmp 2), type := 23, pos := "plane.go:101", after := #[], guard := none }) (v := ?_) rfl (by kernel_rfl) (by kernel_rfl) (by kernel_rfl) (by kernel_rfl) (fun _ _ _ h => h) (Or.inl ⟨by rfl, ?_⟩) ?_; rotate_left; (intro w hw; have hS1 := hw.1 (by kernel_rfl); clear hw; (try dsimp only at hS1); (try go_split_ands); go_simp; try (with_reducible rfl)); simp only [Act.put, List.setIfInBounds_toArray, List.set_cons_zero, List.set_cons_succ])
  (refine Walk.take (i := 2) (oi := { dst := some 12, op := Op.move (Operand.tmp 1), type := 36, pos := "plane.go:101", after := #[], guard := none }) (v := ?_) rfl (by kernel_rfl) (by kernel_rfl) (by kernel_rfl) (by kernel_rfl) (fun _ _ _ h => h) (Or.inl ⟨by rfl, ?_⟩) ?_; rotate_left; (intro w hw; clear hw; (try go_split_ands); go_simp; try (with_reducible rfl)); simp only [Act.put, List.setIfInBounds_toArray, List.set_cons_zero, List.set_cons_succ])
  (refine Walk.go (i := 0) (o := { dst := some 10, op := Op.call { callee := Callee.value (Operand.func 35), args := #[], argTypes := #[] }, type := 82, pos := "plane.go:101", after := #[], guard := none }) (by kernel_rfl) rfl (fun K hK => ?_); go_simp; ((go_at_call 35; refine (planeSecret_any _).mono ?_; rintro e x0 ⟨rfl, d⟩; replace kk := kk.step d; clear d)); refine hK.out _ _ (⟨fun _ => HS _ kk, fun _ => trivial⟩) ?_; clear hK K; try simp only [Act.put, List.setIfInBounds_toArray, List.set_cons_zero, List.set_cons_succ])
  (refine Walk.go (i := 3) (o := { dst := some 13, op := Op.call { callee := Callee.value (Operand.func 34), args := #[Operand.tmp 10, Operand.tmp 11, Operand.tmp 12], argTypes := #[82, 23, 36] }, type := 34, pos := "plane.go:101", after := #[{ on := 0, ground := Ground.data }, { on := 1, ground := Ground.data }, { on := 2, ground := Ground.data }, { on := 0, ground := Ground.chain }], guard := none }) (by kernel_rfl) rfl (fun K hK => ?_); go_simp; ((go_at_call 34; refine (splitS_any Wd Ht m q i0 c f _ l _ (hT.but kk.but) (hv.but kk.but) HLEN.out hx).mono ?_; rintro e x2 ⟨⟨v2, go2, G2, rfl, hB2, hn2, hm2⟩, d⟩; have n3 := kk.but.size; replace kk := kk.step d; clear d)); refine hK.out _ _ (⟨fun _ => HS _ kk, fun _ => trivial⟩) ?_; clear hK K; try simp only [Act.put, List.setIfInBounds_toArray, List.set_cons_zero, List.set_cons_succ])
  (refine Walk.take (i := 4) (oi := { dst := some 4, op := Op.assign (Operand.tmp 13), type := 34, pos := "plane.go:101", after := #[{ on := 3, ground := Ground.data }, { on := 3, ground := Ground.chain }, { on := 0, ground := Ground.phase }, { on := 1, ground := Ground.phase }, { on := 2, ground := Ground.phase }, { on := 3, ground := Ground.phase }], guard := none }) (v := ?_) rfl (by kernel_rfl) (by kernel_rfl) (by kernel_rfl) (by kernel_rfl) (fun _ _ _ h => h) (Or.inl ⟨by rfl, ?_⟩) ?_; rotate_left; (intro w hw; clear hw; (try go_split_ands); go_simp; try (with_reducible rfl)); simp only [Act.put, List.setIfInBounds_toArray, List.set_cons_zero, List.set_cons_succ])
  refine Walk.done (by kernel_rfl) ?_ _
  have hvv := hB2.val
  have HF : Hid _ := And.intro hB2 kk.but
  clear hB2 kk HS
  subst hvv
  go_wp2_with fail
  go_ret
  exact ⟨⟨_, _, _, rfl, HF.out.1⟩, HF.out.2⟩

set_option maxHeartbeats 1600000 in
set_option maxRecDepth 100000 in
theorem words_any (v : Value) (l : List Int) (w : World) (hv : View w .u8 v l) (hx : ∀ x ∈ l, 0 ≤ x ∧ x ≤ 255) (hl : l.length ≤ 4000000) : Calls Tryd.prog 17 #[v] w fun e w' => (∃ v', e = .returned v' ∧ View w' .i64 v' l) ∧ But Nowhere w w' := by
  obtain ⟨vo, vc, rfl⟩ := hv.slice
  go_enter Tryd.func17, Tryd.ntmps17
  go_wp2_with fail
  go_loopw [3, 4] (fun o i V => ∃ k : Nat, k ≤ l.length ∧ i = .int .i64 k ∧ Lst w V 72 1 o k (ints .i64 (l.take k))) (fun _ i _ => l.length - (intOf i).toNat)
  case atStart => exact ⟨0, Nat.zero_le _, rfl, by simpa [ints] using Lst.start w 72 1⟩
  case round =>
    obtain ⟨k, hk, rfl, LL⟩ := hrel
    obtain ⟨po, pc, rfl⟩ := LL.slice
    by_cases hlt : k < l.length
    · have i0 : (0 : Int) ≤ (k : Int) := by omega
      have i1 : (k : Int) < (l.length : Int) := by omega
      obtain ⟨-, vb, voff, rfl, -, hvc⟩ := (hv.but LL.but).at k hlt
      obtain ⟨x, hxe⟩ : ∃ x, l[k] = x := ⟨_, rfl⟩
      rw [hxe] at hvc
      have hx0 : 0 ≤ x ∧ x ≤ 255 := by rw [← hxe]; exact hx _ (List.getElem_mem hlt)
      have ew : IntKind.i64.wrap x = x := by rw [wrap_i64_eq]; exact w64 _ (by omega)
      have htk : ints .i64 (l.take (k + 1)) = ints .i64 (l.take k) ++ [.int .i64 x] := by rw [List.take_succ_eq_append_getElem hlt, ints_append, hxe]; rfl
      clear hxe
      go_wp2_with fail
      refine (of_any _ _).mono ?_
      rintro e w2 ⟨rfl, b2⟩
      obtain ⟨g, cap, W4, hrun, L4, b4, hg4⟩ := Lst.push Tryd.elemSec (LL.step b2) [.int .i64 x] rfl (by simp [Value.oneCell']) (by omega) (by omega) _ rfl
      have HF : Hid _ := L4
      clear L4 b4 hg4 LL b2
      go_wp2_with (at_builtin; refine wpList_append_run rfl _ _ _ rfl _ _ (by rfl) (by rfl) _ _ hrun ?_)
      go_roundw
      case rel => exact ⟨k + 1, by omega, by go_num, by rw [htk]; exact HF.out⟩
      case measure => simp [intOf]; omega
    · have hkl : k = l.length := by omega
      go_wp2_with fail
      go_ret
      refine ⟨⟨_, rfl, ?_⟩, LL.but⟩
      have h9 := LL.own
      rw [hkl, List.take_length] at h9
      rw [hkl]
      exact View.of_owns h9

set_option maxHeartbeats 3200000 in
set_option maxRecDepth 100000 in
theorem secrets_yes (v v' : Value) (N M go go' : Nat) (G G' : Nat → Nat) (F F' : Nat → Nat → Int) (w : World) (h : Blks w v 70 73 N M go G F) (h' : Blks w v' 44 46 N M go' G' F') (he : ∀ i j, i < N → j < M * 64 → F' i j = F i j) (hN : N ≤ 100000000) (hM : M ≤ 1000000) : Calls Tryd.prog 15 #[v, v'] w fun e w' => e = .returned (.bool true) ∧ But Nowhere w w' := by
  obtain rfl := h.val
  obtain rfl := h'.val
  go_enter Tryd.func15, Tryd.ntmps15
  go_wp2_with fail
  go_loopw [5] (fun i V => ∃ k : Nat, k ≤ N ∧ i = .int .i64 k ∧ But Nowhere w V) (fun i _ => N - (intOf i).toNat)
  case atStart => exact ⟨0, Nat.zero_le _, rfl, But.refl _ _⟩
  case round =>
    obtain ⟨i, hk, rfl, hb⟩ := hrel
    by_cases hlt : i < N
    · have i0 : (0 : Int) ≤ (i : Int) := by omega
      have i1 : (i : Int) < (N : Int) := by omega
      have y1 := (h.step hb).at i hlt
      have y2 := (h'.step hb).at i hlt
      have HB1 : Hid (But Nowhere w wr.drew) := hb.drew
      go_wp2_with fail
      refine wp_region_till (S := fun V => V.cell? ⟨go, i, none⟩ = some (.slice (some ⟨G i, 0, none⟩) M M) ∧ V.cell? ⟨go', i, none⟩ = some (.slice (some ⟨G' i, 0, none⟩) M M)) (R := fun _ => True) (k := 100) (m := 100) (by kernel_rfl) ⟨y1, y2⟩ trivial ?_
      (refine Walk.take (i := 0) (oi := { dst := some 19, op := Op.move (Operand.tmp 0), type := 34, pos := "law.go:119", after := #[], guard := none }) (v := ?_) rfl (by kernel_rfl) (by kernel_rfl) (by kernel_rfl) (by kernel_rfl) (fun _ _ _ h => h) (Or.inl ⟨by rfl, ?_⟩) ?_; rotate_left; (intro w hw; clear hw; (try go_split_ands); go_simp; try (with_reducible rfl)); simp only [Act.put, List.setIfInBounds_toArray, List.set_cons_zero, List.set_cons_succ])
      (refine Walk.take (i := 1) (oi := { dst := some 20, op := Op.move (Operand.tmp 5), type := 3, pos := "law.go:119", after := #[], guard := none }) (v := ?_) rfl (by kernel_rfl) (by kernel_rfl) (by kernel_rfl) (by kernel_rfl) (fun _ _ _ h => h) (Or.inl ⟨by rfl, ?_⟩) ?_; rotate_left; (intro w hw; clear hw; (try go_split_ands); go_simp; try (with_reducible rfl)); simp only [Act.put, List.setIfInBounds_toArray, List.set_cons_zero, List.set_cons_succ])
      (refine Walk.take (i := 2) (oi := { dst := some 21, op := Op.indexAddr 34 (Operand.tmp 19) (Operand.tmp 20), type := 0, pos := "law.go:119", after := #[{ on := 0, ground := Ground.data }, { on := 1, ground := Ground.data }], guard := none }) (v := ?_) rfl (by kernel_rfl) (by kernel_rfl) (by kernel_rfl) (by kernel_rfl) (fun _ _ _ h => h) (Or.inl ⟨by rfl, ?_⟩) ?_; rotate_left; (intro w hw; clear hw; (try go_split_ands); go_simp; try (with_reducible rfl)); simp only [Act.put, List.setIfInBounds_toArray, List.set_cons_zero, List.set_cons_succ])
      (refine Walk.take (i := 3) (oi := { dst := some 22, op := Op.load 70 (Operand.tmp 21), type := 70, pos := "law.go:119", after := #[{ on := 2, ground := Ground.data }], guard := none }) (v := ?_) rfl (by kernel_rfl) (by kernel_rfl) (by kernel_rfl) (by kernel_rfl) (fun _ _ _ h => h) (Or.inl ⟨by rfl, ?_⟩) ?_; rotate_left; (intro w hw; have hS1 := hw.1 (by kernel_rfl); clear hw; (try dsimp only at hS1); (try go_split_ands); go_simp; try (with_reducible rfl)); simp only [Act.put, List.setIfInBounds_toArray, List.set_cons_zero, List.set_cons_succ])
      (refine Walk.take (i := 4) (oi := { dst := some 23, op := Op.call { callee := Callee.builtin Builtin.len, args := #[Operand.tmp 22], argTypes := #[70] }, type := 3, pos := "law.go:119", after := #[{ on := 3, ground := Ground.data }], guard := none }) (v := ?_) rfl (by kernel_rfl) (by kernel_rfl) (by kernel_rfl) (by kernel_rfl) (fun _ _ _ h => h) (Or.inl ⟨by rfl, ?_⟩) ?_; rotate_left; (intro w hw; clear hw; (try go_split_ands); go_simp; try (with_reducible rfl)); simp only [Act.put, List.setIfInBounds_toArray, List.set_cons_zero, List.set_cons_succ])
      (refine Walk.take (i := 5) (oi := { dst := some 24, op := Op.move (Operand.tmp 1), type := 30, pos := "law.go:119", after := #[], guard := none }) (v := ?_) rfl (by kernel_rfl) (by kernel_rfl) (by kernel_rfl) (by kernel_rfl) (fun _ _ _ h => h) (Or.inl ⟨by rfl, ?_⟩) ?_; rotate_left; (intro w hw; clear hw; (try go_split_ands); go_simp; try (with_reducible rfl)); simp only [Act.put, List.setIfInBounds_toArray, List.set_cons_zero, List.set_cons_succ])
      (refine Walk.take (i := 6) (oi := { dst := some 25, op := Op.move (Operand.tmp 5), type := 3, pos := "law.go:119", after := #[], guard := none }) (v := ?_) rfl (by kernel_rfl) (by kernel_rfl) (by kernel_rfl) (by kernel_rfl) (fun _ _ _ h => h) (Or.inl ⟨by rfl, ?_⟩) ?_; rotate_left; (intro w hw; clear hw; (try go_split_ands); go_simp; try (with_reducible rfl)); simp only [Act.put, List.setIfInBounds_toArray, List.set_cons_zero, List.set_cons_succ])
      (refine Walk.take (i := 7) (oi := { dst := some 26, op := Op.indexAddr 30 (Operand.tmp 24) (Operand.tmp 25), type := 0, pos := "law.go:119", after := #[{ on := 5, ground := Ground.data }, { on := 6, ground := Ground.data }], guard := none }) (v := ?_) rfl (by kernel_rfl) (by kernel_rfl) (by kernel_rfl) (by kernel_rfl) (fun _ _ _ h => h) (Or.inl ⟨by rfl, ?_⟩) ?_; rotate_left; (intro w hw; clear hw; (try go_split_ands); go_simp; try (with_reducible rfl)); simp only [Act.put, List.setIfInBounds_toArray, List.set_cons_zero, List.set_cons_succ])
      (refine Walk.take (i := 8) (oi := { dst := some 27, op := Op.load 44 (Operand.tmp 26), type := 44, pos := "law.go:119", after := #[{ on := 7, ground := Ground.data }], guard := none }) (v := ?_) rfl (by kernel_rfl) (by kernel_rfl) (by kernel_rfl) (by kernel_rfl) (fun _ _ _ h => h) (Or.inl ⟨by rfl, ?_⟩) ?_; rotate_left; (intro w hw; have hS1 := hw.1 (by kernel_rfl); clear hw; (try dsimp only at hS1); (try go_split_ands); go_simp; try (with_reducible rfl)); simp only [Act.put, List.setIfInBounds_toArray, List.set_cons_zero, List.set_cons_succ])
      (refine Walk.take (i := 9) (oi := { dst := some 28, op := Op.call { callee := Callee.builtin Builtin.len, args := #[Operand.tmp 27], argTypes := #[44] }, type := 3, pos := "law.go:119", after := #[{ on := 8, ground := Ground.data }], guard := none }) (v := ?_) rfl (by kernel_rfl) (by kernel_rfl) (by kernel_rfl) (by kernel_rfl) (fun _ _ _ h => h) (Or.inl ⟨by rfl, ?_⟩) ?_; rotate_left; (intro w hw; clear hw; (try go_split_ands); go_simp; try (with_reducible rfl)); simp only [Act.put, List.setIfInBounds_toArray, List.set_cons_zero, List.set_cons_succ])
      (refine Walk.take (i := 10) (oi := { dst := some 29, op := Op.binOp BinOp.neq 3 (Operand.tmp 23) (Operand.tmp 28) 3, type := 4, pos := "law.go:119", after := #[{ on := 4, ground := Ground.data }, { on := 9, ground := Ground.data }], guard := none }) (v := ?_) rfl (by kernel_rfl) (by kernel_rfl) (by kernel_rfl) (by kernel_rfl) (fun _ _ _ h => h) (Or.inl ⟨by rfl, ?_⟩) ?_; rotate_left; (intro w hw; clear hw; (try go_split_ands); go_simp; try (with_reducible rfl)); simp only [Act.put, List.setIfInBounds_toArray, List.set_cons_zero, List.set_cons_succ])
      refine Walk.done (by kernel_rfl) ?_ _
      clear y1 y2 hb
      go_wp2_with fail
      go_loopw [6] (fun n V => ∃ b : Nat, b ≤ M ∧ n = .int .i64 b ∧ But Nowhere w V) (fun n _ => M - (intOf n).toNat)
      case atStart => exact ⟨0, Nat.zero_le _, rfl, HB1.out⟩
      case round =>
        obtain ⟨b, hbM, rfl, hb2⟩ := hrel
        have y3 := (h.step hb2).at i hlt
        by_cases hlb : b < M
        · have j0 : (0 : Int) ≤ (b : Int) := by omega
          have j1 : (b : Int) < (M : Int) := by omega
          go_wp2_with fail
          go_loopw [7] (fun n V => ∃ j : Nat, j ≤ 64 ∧ n = .int .i64 j ∧ But Nowhere w V) (fun n _ => 64 - (intOf n).toNat)
          case atStart => exact ⟨0, Nat.zero_le _, rfl, hb2⟩
          case round =>
            obtain ⟨j, hj, rfl, hb3⟩ := hrel
            by_cases hlj : j < 64
            · have l0 : (0 : Int) ≤ (j : Int) := by omega
              have l1 : (j : Int) < 64 := by omega
              have hbj : b * 64 + j < M * 64 := by
                have : (b + 1) * 64 ≤ M * 64 := Nat.mul_le_mul_right 64 hlb
                omega
              obtain ⟨fv, hfv⟩ : ∃ fv, F i (b * 64 + j) = fv := ⟨_, rfl⟩
              have hfv' : F' i (b * 64 + j) = fv := by rw [he i _ hlt hbj]; exact hfv
              have HS : ∀ V, But Nowhere w V → (V.cell? ⟨go, i, none⟩ = some (.slice (some ⟨G i, 0, none⟩) M M) ∧ V.cell? ⟨go', i, none⟩ = some (.slice (some ⟨G' i, 0, none⟩) M M) ∧ V.cell? ⟨G i, b * 64 + j, none⟩ = some (.int .i64 fv) ∧ V.cell? ⟨G' i, b * 64 + j, none⟩ = some (.int .i64 fv)) := fun V hb => ⟨(h.step hb).at i hlt, (h'.step hb).at i hlt, by rw [((h.step hb).inn i hlt).cell _ hbj, hfv], by rw [((h'.step hb).inn i hlt).cell _ hbj, hfv']⟩
              have bu : But Nowhere w wr.drew := hb3.drew
              clear hfv hfv' hb3
              go_wp2_with fail
              refine wp_region_till (S := fun V => V.cell? ⟨go, i, none⟩ = some (.slice (some ⟨G i, 0, none⟩) M M) ∧ V.cell? ⟨go', i, none⟩ = some (.slice (some ⟨G' i, 0, none⟩) M M) ∧ V.cell? ⟨G i, b * 64 + j, none⟩ = some (.int .i64 fv) ∧ V.cell? ⟨G' i, b * 64 + j, none⟩ = some (.int .i64 fv)) (R := fun _ => True) (k := 100) (m := 100) (by kernel_rfl) (HS _ bu) trivial ?_
              (refine Walk.take (i := 0) (oi := { dst := some 43, op := Op.move (Operand.tmp 0), type := 34, pos := "law.go:124", after := #[], guard := none }) (v := ?_) rfl (by kernel_rfl) (by kernel_rfl) (by kernel_rfl) (by kernel_rfl) (fun _ _ _ h => h) (Or.inl ⟨by rfl, ?_⟩) ?_; rotate_left; (intro w hw; clear hw; (try go_split_ands); go_simp; try (with_reducible rfl)); simp only [Act.put, List.setIfInBounds_toArray, List.set_cons_zero, List.set_cons_succ])
              (refine Walk.take (i := 1) (oi := { dst := some 44, op := Op.move (Operand.tmp 5), type := 3, pos := "law.go:124", after := #[], guard := none }) (v := ?_) rfl (by kernel_rfl) (by kernel_rfl) (by kernel_rfl) (by kernel_rfl) (fun _ _ _ h => h) (Or.inl ⟨by rfl, ?_⟩) ?_; rotate_left; (intro w hw; clear hw; (try go_split_ands); go_simp; try (with_reducible rfl)); simp only [Act.put, List.setIfInBounds_toArray, List.set_cons_zero, List.set_cons_succ])
              (refine Walk.take (i := 2) (oi := { dst := some 45, op := Op.indexAddr 34 (Operand.tmp 43) (Operand.tmp 44), type := 0, pos := "law.go:124", after := #[{ on := 0, ground := Ground.data }, { on := 1, ground := Ground.data }], guard := none }) (v := ?_) rfl (by kernel_rfl) (by kernel_rfl) (by kernel_rfl) (by kernel_rfl) (fun _ _ _ h => h) (Or.inl ⟨by rfl, ?_⟩) ?_; rotate_left; (intro w hw; clear hw; (try go_split_ands); go_simp; try (with_reducible rfl)); simp only [Act.put, List.setIfInBounds_toArray, List.set_cons_zero, List.set_cons_succ])
              (refine Walk.take (i := 3) (oi := { dst := some 46, op := Op.load 70 (Operand.tmp 45), type := 70, pos := "law.go:124", after := #[{ on := 2, ground := Ground.data }], guard := none }) (v := ?_) rfl (by kernel_rfl) (by kernel_rfl) (by kernel_rfl) (by kernel_rfl) (fun _ _ _ h => h) (Or.inl ⟨by rfl, ?_⟩) ?_; rotate_left; (intro w hw; have hS1 := hw.1 (by kernel_rfl); clear hw; (try dsimp only at hS1); (try go_split_ands); go_simp; try (with_reducible rfl)); simp only [Act.put, List.setIfInBounds_toArray, List.set_cons_zero, List.set_cons_succ])
              (refine Walk.take (i := 4) (oi := { dst := some 47, op := Op.move (Operand.tmp 6), type := 3, pos := "law.go:124", after := #[], guard := none }) (v := ?_) rfl (by kernel_rfl) (by kernel_rfl) (by kernel_rfl) (by kernel_rfl) (fun _ _ _ h => h) (Or.inl ⟨by rfl, ?_⟩) ?_; rotate_left; (intro w hw; clear hw; (try go_split_ands); go_simp; try (with_reducible rfl)); simp only [Act.put, List.setIfInBounds_toArray, List.set_cons_zero, List.set_cons_succ])
              (refine Walk.take (i := 5) (oi := { dst := some 48, op := Op.move (Operand.tmp 7), type := 3, pos := "law.go:124", after := #[], guard := none }) (v := ?_) rfl (by kernel_rfl) (by kernel_rfl) (by kernel_rfl) (by kernel_rfl) (fun _ _ _ h => h) (Or.inl ⟨by rfl, ?_⟩) ?_; rotate_left; (intro w hw; clear hw; (try go_split_ands); go_simp; try (with_reducible rfl)); simp only [Act.put, List.setIfInBounds_toArray, List.set_cons_zero, List.set_cons_succ])
              (refine Walk.take (i := 6) (oi := { dst := some 49, op := Op.indexAddr 70 (Operand.tmp 46) (Operand.tmp 47), type := 0, pos := "law.go:124", after := #[{ on := 3, ground := Ground.data }, { on := 4, ground := Ground.data }], guard := none }) (v := ?_) rfl (by kernel_rfl) (by kernel_rfl) (by kernel_rfl) (by kernel_rfl) (fun _ _ _ h => h) (Or.inl ⟨by rfl, ?_⟩) ?_; rotate_left; (intro w hw; clear hw; (try go_split_ands); go_simp; try (with_reducible rfl)); simp only [Act.put, List.setIfInBounds_toArray, List.set_cons_zero, List.set_cons_succ])
              (refine Walk.take (i := 7) (oi := { dst := some 50, op := Op.indexAddr 73 (Operand.tmp 49) (Operand.tmp 48), type := 0, pos := "law.go:124", after := #[{ on := 6, ground := Ground.data }, { on := 5, ground := Ground.data }], guard := none }) (v := ?_) rfl (by kernel_rfl) (by kernel_rfl) (by kernel_rfl) (by kernel_rfl) (fun _ _ _ h => h) (Or.inl ⟨by rfl, ?_⟩) ?_; rotate_left; (intro w hw; clear hw; (try go_split_ands); go_simp; try (with_reducible rfl)); simp only [Act.put, List.setIfInBounds_toArray, List.set_cons_zero, List.set_cons_succ])
              (refine Walk.take (i := 8) (oi := { dst := some 51, op := Op.load 72 (Operand.tmp 50), type := 72, pos := "law.go:124", after := #[{ on := 7, ground := Ground.data }], guard := none }) (v := ?_) rfl (by kernel_rfl) (by kernel_rfl) (by kernel_rfl) (by kernel_rfl) (fun _ _ _ h => h) (Or.inl ⟨by rfl, ?_⟩) ?_; rotate_left; (intro w hw; have hS1 := hw.1 (by kernel_rfl); clear hw; (try dsimp only at hS1); (try go_split_ands); go_simp; try (with_reducible rfl)); simp only [Act.put, List.setIfInBounds_toArray, List.set_cons_zero, List.set_cons_succ])
              (refine Walk.take (i := 10) (oi := { dst := some 53, op := Op.move (Operand.tmp 1), type := 30, pos := "law.go:124", after := #[], guard := none }) (v := ?_) rfl (by kernel_rfl) (by kernel_rfl) (by kernel_rfl) (by kernel_rfl) (fun _ _ _ h => h) (Or.inl ⟨by rfl, ?_⟩) ?_; rotate_left; (intro w hw; clear hw; (try go_split_ands); go_simp; try (with_reducible rfl)); simp only [Act.put, List.setIfInBounds_toArray, List.set_cons_zero, List.set_cons_succ])
              (refine Walk.take (i := 11) (oi := { dst := some 54, op := Op.move (Operand.tmp 5), type := 3, pos := "law.go:124", after := #[], guard := none }) (v := ?_) rfl (by kernel_rfl) (by kernel_rfl) (by kernel_rfl) (by kernel_rfl) (fun _ _ _ h => h) (Or.inl ⟨by rfl, ?_⟩) ?_; rotate_left; (intro w hw; clear hw; (try go_split_ands); go_simp; try (with_reducible rfl)); simp only [Act.put, List.setIfInBounds_toArray, List.set_cons_zero, List.set_cons_succ])
              (refine Walk.take (i := 12) (oi := { dst := some 55, op := Op.indexAddr 30 (Operand.tmp 53) (Operand.tmp 54), type := 0, pos := "law.go:124", after := #[{ on := 10, ground := Ground.data }, { on := 11, ground := Ground.data }], guard := none }) (v := ?_) rfl (by kernel_rfl) (by kernel_rfl) (by kernel_rfl) (by kernel_rfl) (fun _ _ _ h => h) (Or.inl ⟨by rfl, ?_⟩) ?_; rotate_left; (intro w hw; clear hw; (try go_split_ands); go_simp; try (with_reducible rfl)); simp only [Act.put, List.setIfInBounds_toArray, List.set_cons_zero, List.set_cons_succ])
              (refine Walk.take (i := 13) (oi := { dst := some 56, op := Op.load 44 (Operand.tmp 55), type := 44, pos := "law.go:124", after := #[{ on := 12, ground := Ground.data }], guard := none }) (v := ?_) rfl (by kernel_rfl) (by kernel_rfl) (by kernel_rfl) (by kernel_rfl) (fun _ _ _ h => h) (Or.inl ⟨by rfl, ?_⟩) ?_; rotate_left; (intro w hw; have hS1 := hw.1 (by kernel_rfl); clear hw; (try dsimp only at hS1); (try go_split_ands); go_simp; try (with_reducible rfl)); simp only [Act.put, List.setIfInBounds_toArray, List.set_cons_zero, List.set_cons_succ])
              (refine Walk.take (i := 14) (oi := { dst := some 57, op := Op.move (Operand.tmp 6), type := 3, pos := "law.go:124", after := #[], guard := none }) (v := ?_) rfl (by kernel_rfl) (by kernel_rfl) (by kernel_rfl) (by kernel_rfl) (fun _ _ _ h => h) (Or.inl ⟨by rfl, ?_⟩) ?_; rotate_left; (intro w hw; clear hw; (try go_split_ands); go_simp; try (with_reducible rfl)); simp only [Act.put, List.setIfInBounds_toArray, List.set_cons_zero, List.set_cons_succ])
              (refine Walk.take (i := 15) (oi := { dst := some 58, op := Op.move (Operand.tmp 7), type := 3, pos := "law.go:124", after := #[], guard := none }) (v := ?_) rfl (by kernel_rfl) (by kernel_rfl) (by kernel_rfl) (by kernel_rfl) (fun _ _ _ h => h) (Or.inl ⟨by rfl, ?_⟩) ?_; rotate_left; (intro w hw; clear hw; (try go_split_ands); go_simp; try (with_reducible rfl)); simp only [Act.put, List.setIfInBounds_toArray, List.set_cons_zero, List.set_cons_succ])
              (refine Walk.take (i := 16) (oi := { dst := some 59, op := Op.indexAddr 44 (Operand.tmp 56) (Operand.tmp 57), type := 0, pos := "law.go:124", after := #[{ on := 13, ground := Ground.data }, { on := 14, ground := Ground.data }], guard := none }) (v := ?_) rfl (by kernel_rfl) (by kernel_rfl) (by kernel_rfl) (by kernel_rfl) (fun _ _ _ h => h) (Or.inl ⟨by rfl, ?_⟩) ?_; rotate_left; (intro w hw; clear hw; (try go_split_ands); go_simp; try (with_reducible rfl)); simp only [Act.put, List.setIfInBounds_toArray, List.set_cons_zero, List.set_cons_succ])
              (refine Walk.take (i := 17) (oi := { dst := some 60, op := Op.indexAddr 46 (Operand.tmp 59) (Operand.tmp 58), type := 0, pos := "law.go:124", after := #[{ on := 16, ground := Ground.data }, { on := 15, ground := Ground.data }], guard := none }) (v := ?_) rfl (by kernel_rfl) (by kernel_rfl) (by kernel_rfl) (by kernel_rfl) (fun _ _ _ h => h) (Or.inl ⟨by rfl, ?_⟩) ?_; rotate_left; (intro w hw; clear hw; (try go_split_ands); go_simp; try (with_reducible rfl)); simp only [Act.put, List.setIfInBounds_toArray, List.set_cons_zero, List.set_cons_succ])
              (refine Walk.take (i := 18) (oi := { dst := some 61, op := Op.load 3 (Operand.tmp 60), type := 3, pos := "law.go:124", after := #[{ on := 17, ground := Ground.data }], guard := none }) (v := ?_) rfl (by kernel_rfl) (by kernel_rfl) (by kernel_rfl) (by kernel_rfl) (fun _ _ _ h => h) (Or.inl ⟨by rfl, ?_⟩) ?_; rotate_left; (intro w hw; have hS1 := hw.1 (by kernel_rfl); clear hw; (try dsimp only at hS1); (try go_split_ands); go_simp; try (with_reducible rfl)); simp only [Act.put, List.setIfInBounds_toArray, List.set_cons_zero, List.set_cons_succ])
              (refine Walk.go (i := 9) (o := { dst := some 52, op := Op.call { callee := Callee.value (Operand.func 33), args := #[Operand.tmp 51, Operand.const (Value.pointer none)], argTypes := #[72, 107] }, type := 3, pos := "law.go:124", after := #[{ on := 8, ground := Ground.data }], guard := none }) (by kernel_rfl) rfl (fun K hK => ?_); go_simp; ((go_at_call 33; refine (tell_none _ _).mono ?_; rintro e x1 ⟨rfl, d⟩; replace bu := bu.trans d; clear d)); refine hK.out _ _ (⟨fun _ => HS _ bu, fun _ => trivial⟩) ?_; clear hK K; try simp only [Act.put, List.setIfInBounds_toArray, List.set_cons_zero, List.set_cons_succ])
              (refine Walk.take (i := 19) (oi := { dst := some 62, op := Op.binOp BinOp.neq 3 (Operand.tmp 52) (Operand.tmp 61) 3, type := 4, pos := "law.go:124", after := #[{ on := 9, ground := Ground.data }, { on := 18, ground := Ground.data }], guard := none }) (v := ?_) rfl (by kernel_rfl) (by kernel_rfl) (by kernel_rfl) (by kernel_rfl) (fun _ _ _ h => h) (Or.inl ⟨by rfl, ?_⟩) ?_; rotate_left; (intro w hw; clear hw; (try go_split_ands); go_simp; try (with_reducible rfl)); simp only [Act.put, List.setIfInBounds_toArray, List.set_cons_zero, List.set_cons_succ])
              refine Walk.done (by kernel_rfl) ?_ _
              clear HS
              go_wp2_with fail
              go_roundw
              case rel => exact ⟨j + 1, by omega, by go_num, bu⟩
              case measure => simp [intOf]; omega
            · go_wp2_with fail
              go_roundw
              case rel => exact ⟨b + 1, by omega, by go_num, hb3⟩
              case measure => simp [intOf]; omega
        · go_wp2_with fail
          go_roundw
          case rel => exact ⟨i + 1, by omega, by go_num, hb2⟩
          case measure => simp [intOf]; omega
    · go_wp2_with fail
      go_ret
      exact ⟨rfl, hb⟩

end Go.Proofs.YtppbnmlgilgnnaaDoor
