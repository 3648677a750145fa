/- Split: an image's blocks. -/
import Derived.Test.YtppbnmlgilgnnaaDoorPl8
import Derived.Test.YtppbnmlgilgnnaaDoorPl11
namespace Go.Proofs.YtppbnmlgilgnnaaDoor
open Go.ChangeShapes Go.WideShapes Go.ChangeAt Go.RowKit

theorem gn_all (l : List Int) : (List.range l.length).map (gn l) = l := by
  apply List.ext_getElem?
  intro i
  by_cases hi : i < l.length
  · rw [List.getElem?_map, List.getElem?_range hi, Option.map_some, List.getElem?_eq_getElem hi, gn_at l i hi]
  · rw [List.getElem?_eq_none (by simp; omega), List.getElem?_eq_none (by omega)]

/-- An image, as a value. -/
abbrev imV (W H : Int) (r : Bool) (p : Value) : Value := .agg #[.int .i64 W, .int .i64 H, .bool r, p]
abbrev imC (W H : Int) (r : Bool) (p : Value) : List Value := [.int .i64 W, .int .i64 H, .bool r, p]

set_option maxHeartbeats 6400000 in
set_option maxRecDepth 100000 in
theorem planeSplit_fit (Wd Ht m q i0 c : Int) (f : Fit Wd Ht m) (v : Value) (l : List Int) (w : World) (hT : Tab w) (hv : View w .u8 v l) (hlen : (l.length : Int) = Wd * Ht * partsN m) (hx : ∀ x ∈ l, 0 ≤ x ∧ x ≤ 255) (r : Bool) (hr : r = (m != 1)) :
    Calls Tryd.prog 14 #[pV Wd Ht m q i0 c, imV Wd Ht r v] w fun e w' => (∃ v' go G, e = .returned v' ∧ Blks w' v' 44 46 (gridW Wd Ht m * gridH Wd Ht m).toNat (unitL m).length go G (splitF Wd Ht m l) ∧ w.heap.size ≤ go ∧ ∀ i, i < (gridW Wd Ht m * gridH Wd Ht m).toNat → w.heap.size ≤ G i) ∧ But Nowhere w w' := by
  have hls : (l.length : Int) ≤ 1048576 * 3 := by
    have p1 : 1 ≤ (partsN m : Int) ∧ (partsN m : Int) ≤ 3 := by unfold partsN; split <;> simp
    rw [hlen]; exact Int.mul_le_mul f.s p1.2 (by omega) (by omega)
  have hls2 : l.length ≤ 4000000 := by omega
  obtain ⟨-, -, g3, g4, g5, g6⟩ := f.grid
  have hNs : (gridW Wd Ht m * gridH Wd Ht m).toNat ≤ 2000000 := by
    have sd := side_fit f.m
    have a := ceil_in Wd (sideW m) f.w.1 f.w.2 sd.1 sd.2.1
    have b := ceil_in Ht (sideH m) f.h.1 f.h.2 sd.2.2.1 sd.2.2.2
    obtain ⟨e1, e2, -, -, -, -⟩ := f.grid
    rw [← e1] at a
    rw [← e2] at b
    have a1 : (gridW Wd Ht m - 1) * 8 ≤ (gridW Wd Ht m - 1) * sideW m := Int.mul_le_mul_of_nonneg_left sd.1 (by omega)
    have b1 : (gridH Wd Ht m - 1) * 8 ≤ (gridH Wd Ht m - 1) * sideH m := Int.mul_le_mul_of_nonneg_left sd.2.2.1 (by omega)
    have c1 : gridW Wd Ht m * gridH Wd Ht m ≤ Wd * Ht := Int.mul_le_mul (by omega) (by omega) (by omega) (by omega)
    have := f.s
    omega
  have HLEN : Hid ((l.length : Int) = Wd * Ht * partsN m) := hlen
  clear hlen hls
  have hMs : (unitL m).length ≤ 100 := by have := unit_pos m; omega
  obtain ⟨vo, vc, rfl⟩ := hv.slice
  subst hr
  have kk := ((Keep.start w).made 23 (pC Wd Ht m q i0 c)).made 26 (imC Wd Ht (m != 1) (.slice vo l.length vc))
  simp only [World.size_alloc] at kk
  go_enter Tryd.func14, Tryd.ntmps14
  go_wp2_with fail
  refine (counts_fit _ _ _ _ _ _ _ f _).mono ?_
  rintro e w1 ⟨rfl, b1⟩
  have hd : decide ((l.length : Int) = Wd * Ht * partsN m) = true := by simpa using HLEN.out
  rw [hd]
  replace kk := (kk.step b1).drew
  clear b1 hd
  have HS : ∀ V, Keep w V [(w.heap.size + 1, 26, imC Wd Ht (m != 1) (.slice vo l.length vc)), (w.heap.size, 23, pC Wd Ht m q i0 c)] → (V.cell? ⟨w.heap.size, 0, none⟩ = some (.int .i64 Wd) ∧ V.cell? ⟨w.heap.size, 1, none⟩ = some (.int .i64 Ht) ∧ V.cell? ⟨w.heap.size, 2, none⟩ = some (.int .i64 m) ∧ V.cell? ⟨w.heap.size, 3, none⟩ = some (.int .i64 q) ∧ V.cell? ⟨w.heap.size, 4, none⟩ = some (.int .i64 i0) ∧ V.cell? ⟨w.heap.size, 5, none⟩ = some (.int .i64 c) ∧ V.cell? ⟨w.heap.size + 1, 3, none⟩ = some (.slice vo l.length vc)) := fun V kk =>
    have gP := (kk.get (b := w.heap.size) (t := 23) (c := pC Wd Ht m q i0 c) (by simp))
    have gI := kk.head
    ⟨gP.at 0, gP.at 1, gP.at 2, gP.at 3, gP.at 4, gP.at 5, gI.at 3⟩
  go_wp2_with fail
  refine wp_region_till (S := fun V => V.cell? ⟨w.heap.size, 0, none⟩ = some (.int .i64 Wd) ∧ V.cell? ⟨w.heap.size, 1, none⟩ = some (.int .i64 Ht) ∧ V.cell? ⟨w.heap.size, 2, none⟩ = some (.int .i64 m) ∧ V.cell? ⟨w.heap.size, 3, none⟩ = some (.int .i64 q) ∧ V.cell? ⟨w.heap.size, 4, none⟩ = some (.int .i64 i0) ∧ V.cell? ⟨w.heap.size, 5, none⟩ = some (.int .i64 c) ∧ V.cell? ⟨w.heap.size + 1, 3, none⟩ = some (.slice vo l.length vc)) (R := fun _ => True) (k := 100) (m := 100) (by kernel_rfl) (HS _ kk) trivial ?_
  (refine Walk.take (i := 1) (oi := { dst := some 34, op := Op.load 23 (Operand.tmp 2), type := 23, pos := "plane.go:84", after := #[], guard := none }) (v := ?_) rfl (by kernel_rfl) (by kernel_rfl) (by kernel_rfl) (by kernel_rfl) (fun _ _ _ h => h) (Or.inl ⟨by rfl, ?_⟩) ?_; rotate_left; (intro w hw; have hS1 := hw.1 (by kernel_rfl); clear hw; (try dsimp only at hS1); (try go_split_ands); go_simp; try (with_reducible rfl)); simp only [Act.put, List.setIfInBounds_toArray, List.set_cons_zero, List.set_cons_succ])
  (refine Walk.take (i := 2) (oi := { dst := some 35, op := Op.fieldAddr 26 (Operand.tmp 3) 3, type := 0, pos := "plane.go:84", after := #[], guard := none }) (v := ?_) rfl (by kernel_rfl) (by kernel_rfl) (by kernel_rfl) (by kernel_rfl) (fun _ _ _ h => h) (Or.inl ⟨by rfl, ?_⟩) ?_; rotate_left; (intro w hw; clear hw; (try go_split_ands); go_simp; try (with_reducible rfl)); simp only [Act.put, List.setIfInBounds_toArray, List.set_cons_zero, List.set_cons_succ])
  (refine Walk.take (i := 3) (oi := { dst := some 36, op := Op.load 24 (Operand.tmp 35), type := 24, pos := "plane.go:84", after := #[{ on := 2, ground := Ground.data }], guard := none }) (v := ?_) rfl (by kernel_rfl) (by kernel_rfl) (by kernel_rfl) (by kernel_rfl) (fun _ _ _ h => h) (Or.inl ⟨by rfl, ?_⟩) ?_; rotate_left; (intro w hw; have hS1 := hw.1 (by kernel_rfl); clear hw; (try dsimp only at hS1); (try go_split_ands); go_simp; try (with_reducible rfl)); simp only [Act.put, List.setIfInBounds_toArray, List.set_cons_zero, List.set_cons_succ])
  (refine Walk.go (i := 0) (o := { dst := some 33, op := Op.call { callee := Callee.value (Operand.func 31), args := #[], argTypes := #[] }, type := 66, pos := "plane.go:84", after := #[], guard := none }) (by kernel_rfl) rfl (fun K hK => ?_); go_simp; ((go_at_call 31; refine (planePlain_any _).mono ?_; rintro e x0 ⟨rfl, d⟩; replace kk := kk.step d; clear d)); refine hK.out _ _ (⟨fun _ => HS _ kk, fun _ => trivial⟩) ?_; clear hK K; try simp only [Act.put, List.setIfInBounds_toArray, List.set_cons_zero, List.set_cons_succ])
  (refine Walk.go (i := 4) (o := { dst := some 37, op := Op.call { callee := Callee.value (Operand.func 32), args := #[Operand.tmp 36], argTypes := #[24] }, type := 68, pos := "plane.go:84", after := #[{ on := 3, ground := Ground.data }, { on := 0, ground := Ground.chain }], guard := none }) (by kernel_rfl) rfl (fun K hK => ?_); go_simp; ((go_at_call 32; refine (numbersOf_any _ l _ (hv.but kk.but) hx hls2).mono ?_; rintro e x1 ⟨rfl, hc1, d⟩; replace kk := kk.step d; clear d)); refine hK.out _ _ (⟨fun _ => HS _ kk, fun _ => trivial⟩) ?_; clear hK K; try simp only [Act.put, List.setIfInBounds_toArray, List.set_cons_zero, List.set_cons_succ])
  (refine Walk.go (i := 5) (o := { dst := some 38, op := Op.call { callee := Callee.value (Operand.func 30), args := #[Operand.tmp 33, Operand.tmp 34, Operand.tmp 37], argTypes := #[66, 23, 68] }, type := 59, pos := "plane.go:84", after := #[{ on := 0, ground := Ground.data }, { on := 1, ground := Ground.data }, { on := 4, ground := Ground.data }, { on := 4, ground := Ground.chain }], guard := none }) (by kernel_rfl) rfl (fun K hK => ?_); go_simp; ((go_at_call 30; refine (splitN_any Wd Ht m q i0 c f _ ((List.range l.length).map (gn l)) _ (hT.but kk.but) (Tb.view ⟨_, rfl, hc1⟩) (by rw [List.length_map, List.length_range]; exact HLEN.out) (by rw [gn_all]; exact hx)).mono ?_; rintro e x2 ⟨⟨v2, go2, G2, rfl, hB2, -, -⟩, d⟩; replace kk := kk.step d; clear d)); refine hK.out _ _ (⟨fun _ => HS _ kk, fun _ => trivial⟩) ?_; clear hK K; try simp only [Act.put, List.setIfInBounds_toArray, List.set_cons_zero, List.set_cons_succ])
  (refine Walk.go (i := 6) (o := { dst := some 39, op := Op.call { callee := Callee.value (Operand.func 29), args := #[Operand.tmp 38], argTypes := #[59] }, type := 30, pos := "plane.go:84", after := #[{ on := 5, ground := Ground.data }, { on := 5, ground := Ground.chain }], guard := none }) (by kernel_rfl) rfl (fun K hK => ?_); go_simp; ((go_at_call 29; refine (blocksOf_any _ _ _ go2 G2 _ _ hB2 hNs hMs).mono ?_; rintro e x3 ⟨⟨v3, G3, rfl, hB3, hn3⟩, d⟩; have n3 := kk.but.size; replace kk := kk.step d; clear d)); refine hK.out _ _ (⟨fun _ => HS _ kk, fun _ => trivial⟩) ?_; clear hK K; try simp only [Act.put, List.setIfInBounds_toArray, List.set_cons_zero, List.set_cons_succ])
  (refine Walk.take (i := 7) (oi := { dst := some 4, op := Op.assign (Operand.tmp 39), type := 30, pos := "plane.go:84", after := #[{ on := 6, ground := Ground.data }, { on := 6, ground := Ground.chain }, { on := 0, ground := Ground.phase }, { on := 1, ground := Ground.phase }, { on := 2, ground := Ground.phase }, { on := 3, ground := Ground.phase }, { on := 4, ground := Ground.phase }, { on := 5, ground := Ground.phase }, { on := 6, ground := Ground.phase }], guard := none }) (v := ?_) rfl (by kernel_rfl) (by kernel_rfl) (by kernel_rfl) (by kernel_rfl) (fun _ _ _ h => h) (Or.inl ⟨by rfl, ?_⟩) ?_; rotate_left; (intro w hw; clear hw; (try go_split_ands); go_simp; try (with_reducible rfl)); simp only [Act.put, List.setIfInBounds_toArray, List.set_cons_zero, List.set_cons_succ])
  refine Walk.done (by kernel_rfl) ?_ _
  rw [gn_all] at hB3
  have hvv := hB3.val
  have HF : Hid _ := And.intro hB3 (And.intro hn3 (And.intro n3 kk.but))
  clear hB3 hn3 n3 kk HS hB2 hc1
  subst hvv
  go_wp2_with fail
  go_ret
  exact ⟨⟨_, _, _, rfl, HF.out.1, HF.out.2.2.1, fun i hi => by have := HF.out.2.1 i hi; have := HF.out.2.2.1; omega⟩, HF.out.2.2.2⟩

end Go.Proofs.YtppbnmlgilgnnaaDoor
