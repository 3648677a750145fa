/- Join of gray blocks. -/
import Derived.Test.YtppbnmlgilgnnaaDoorPl18
import Derived.Test.YtppbnmlgilgnnaaDoorPl20
namespace Go.Proofs.YtppbnmlgilgnnaaDoor
open Go.ChangeShapes Go.WideShapes Go.ChangeAt Go.RowKit

theorem spot_gray (A : Int) (i : Nat) : spotAt A (sideW 1) (sideH 1) (unitL 1) i 0 = ⟨i, 0, 0, 1, (i : Int) % A * 8, (i : Int) / A * 8, 1, 1⟩ := by simp [spotAt, unitL, sideW, sideH]

theorem gray_X (A : Int) (i k : Nat) : pX (spotAt A (sideW 1) (sideH 1) (unitL 1) i 0) k 0 = (i : Int) % A * 8 + (k : Int) % 8 := by rw [spot_gray]; simp [pX]
theorem gray_Y (A : Int) (i k : Nat) : pY (spotAt A (sideW 1) (sideH 1) (unitL 1) i 0) k 0 = (i : Int) / A * 8 + (k : Int) / 8 := by rw [spot_gray]; simp [pY]
theorem gray_J (Wd A : Int) (i k : Nat) : pJ Wd (spotAt A (sideW 1) (sideH 1) (unitL 1) i 0) k 0 = (((i : Int) / A * 8 + (k : Int) / 8) * Wd + ((i : Int) % A * 8 + (k : Int) % 8)).toNat := by
  unfold pJ
  rw [gray_X, gray_Y, spot_gray]
  simp
theorem gray_many (A : Int) (i : Nat) : ((spotAt A (sideW 1) (sideH 1) (unitL 1) i 0).wide * (spotAt A (sideW 1) (sideH 1) (unitL 1) i 0).high).toNat = 1 := by rw [spot_gray]; rfl

/-- A gray image's words lie where its pixels are. -/
theorem gray_C {W H : Int} (l : List Int) (hx : ∀ x ∈ l, 0 ≤ x ∧ x ≤ 255) (i b k n : Nat) (hb : b < 1)
    (hn : n < ((spotAt (gridW W H 1) (sideW 1) (sideH 1) (unitL 1) i b).wide * (spotAt (gridW W H 1) (sideW 1) (sideH 1) (unitL 1) i b).high).toNat) (hk : k < 64) (h1 : pX (spotAt (gridW W H 1) (sideW 1) (sideH 1) (unitL 1) i b) k n < W) (h2 : pY (spotAt (gridW W H 1) (sideW 1) (sideH 1) (unitL 1) i b) k n < H) :
    gn l (pJ W (spotAt (gridW W H 1) (sideW 1) (sideH 1) (unitL 1) i b) k n) = clipF (splitF W H 1 l i (b * 64 + k)) 0 255 := by
  obtain rfl : b = 0 := by omega
  rw [gray_many] at hn
  obtain rfl : n = 0 := by omega
  have e : splitF W H 1 l i (0 * 64 + k) = gn l (pJ W (spotAt (gridW W H 1) (sideW 1) (sideH 1) (unitL 1) i 0) k 0) := by
    rw [gray_J]
    rw [gray_X] at h1
    rw [gray_Y] at h2
    unfold splitF
    rw [show (0 * 64 + k) / 64 = 0 by omega, show (0 * 64 + k) % 64 = k by omega, spot_gray]
    have e1 : partsL 1 l = l := by unfold partsL; rw [if_pos rfl]
    rw [e1]
    unfold sampleF
    have e2 : accF (fun n => gat l (idxF W H ⟨i, 0, 0, 1, (i : Int) % gridW W H 1 * 8, (i : Int) / gridW W H 1 * 8, 1, 1⟩ ((i : Int) % gridW W H 1 * 8 + (k : Int) % 8 * 1) ((i : Int) / gridW W H 1 * 8 + (k : Int) / 8 * 1) n)) ((1 : Int) * 1).toNat = gat l (idxF W H ⟨i, 0, 0, 1, (i : Int) % gridW W H 1 * 8, (i : Int) / gridW W H 1 * 8, 1, 1⟩ ((i : Int) % gridW W H 1 * 8 + (k : Int) % 8 * 1) ((i : Int) / gridW W H 1 * 8 + (k : Int) / 8 * 1) 0) := by
      show (0 : Int) + _ = _
      rw [Int.zero_add]
    dsimp only
    rw [e2]
    have e3 : ∀ z : Int, halved ((1 : Int) * 1 / 2 + z) (tzF ((1 : Int) * 1)) = z := fun z => by simp [halved, tzF]
    rw [e3]
    unfold gat idxF gn
    dsimp only
    have e4 : min ((i : Int) / gridW W H 1 * 8 + (k : Int) / 8 * 1 + ((0 : Nat) : Int) / 1) (H - 1) = (i : Int) / gridW W H 1 * 8 + (k : Int) / 8 := by rw [Int.mul_one]; simp only [Int.natCast_zero, Int.zero_ediv, Int.add_zero]; omega
    have e5 : min ((i : Int) % gridW W H 1 * 8 + (k : Int) % 8 * 1 + ((0 : Nat) : Int) % 1) (W - 1) = (i : Int) % gridW W H 1 * 8 + (k : Int) % 8 := by rw [Int.mul_one]; simp only [Int.natCast_zero, Int.zero_emod, Int.add_zero]; omega
    rw [e4, e5, Int.mul_one, Int.add_zero]
  rw [e, clipF_in]
  unfold gn
  rw [List.getD_eq_getElem?_getD]
  cases e9 : l[pJ W (spotAt (gridW W H 1) (sideW 1) (sideH 1) (unitL 1) i 0) k 0]? with
  | none => simp
  | some x => exact hx x (List.mem_of_getElem? e9)

theorem gray_S {W H : Int} (f : Fit W H 1) (Z N : Nat) (hZ : W * H * partsN 1 = Z) (hN : (gridW W H 1 * gridH W H 1).toNat = N) (j : Nat) (hj : j < Z) :
    ∃ i b k n, i < N ∧ b < 1 ∧ k < 64 ∧ n < ((spotAt (gridW W H 1) (sideW 1) (sideH 1) (unitL 1) i b).wide * (spotAt (gridW W H 1) (sideW 1) (sideH 1) (unitL 1) i b).high).toNat ∧ pX (spotAt (gridW W H 1) (sideW 1) (sideH 1) (unitL 1) i b) k n < W ∧ pY (spotAt (gridW W H 1) (sideW 1) (sideH 1) (unitL 1) i b) k n < H ∧ pJ W (spotAt (gridW W H 1) (sideW 1) (sideH 1) (unitL 1) i b) k n = j := by
  obtain ⟨g1, g2, g3, g4, g5, g6⟩ := f.grid
  have a := ceil_in W (sideW 1) f.w.1 f.w.2 (by decide) (by decide)
  have b := ceil_in H (sideH 1) f.h.1 f.h.2 (by decide) (by decide)
  rw [← g1] at a
  rw [← g2] at b
  obtain ⟨-, -, -, a1, -⟩ := a
  obtain ⟨-, -, -, b1, -⟩ := b
  rw [show sideW 1 = 8 from rfl] at a1
  rw [show sideH 1 = 8 from rfl] at b1
  obtain ⟨A, hA⟩ : ∃ A : Nat, gridW W H 1 = A := ⟨(gridW W H 1).toNat, by omega⟩
  obtain ⟨B, hB⟩ : ∃ B : Nat, gridH W H 1 = B := ⟨(gridH W H 1).toNat, by omega⟩
  have hw := f.w
  have hh := f.h
  obtain ⟨w, rfl⟩ : ∃ w : Nat, W = w := ⟨W.toNat, by omega⟩
  obtain ⟨h, rfl⟩ : ∃ h : Nat, H = h := ⟨H.toNat, by omega⟩
  rw [hA] at a1
  rw [hB] at b1
  rw [hA, hB] at hN
  have hN2 : A * B = N := by rw [← Int.natCast_mul] at hN; exact hN
  have hZ2 : w * h = Z := by
    have e : partsN 1 = 1 := rfl
    rw [e] at hZ
    have : ((w * h : Nat) : Int) = (w : Int) * (h : Int) := by simp
    omega
  obtain ⟨y, hy⟩ : ∃ y, j / w = y := ⟨_, rfl⟩
  obtain ⟨x, hx⟩ : ∃ x, j % w = x := ⟨_, rfl⟩
  have hwp : 0 < w := by omega
  have hxw : x < w := by rw [← hx]; exact Nat.mod_lt _ hwp
  have hyh : y < h := by rw [← hy]; exact Nat.div_lt_of_lt_mul (by rw [hZ2]; exact hj)
  have hjx : y * w + x = j := by rw [← hy, ← hx, Nat.mul_comm]; exact Nat.div_add_mod j w
  have hA0 : 0 < A := by omega
  have xA : x / 8 < A := by omega
  have yB : y / 8 < B := by omega
  have d1 : (y / 8 * A + x / 8) / A = y / 8 := by rw [Nat.add_comm, Nat.add_mul_div_right _ _ hA0, Nat.div_eq_of_lt xA]; omega
  have d2 : (y / 8 * A + x / 8) % A = x / 8 := by rw [Nat.add_comm, Nat.add_mul_mod_self_right, Nat.mod_eq_of_lt xA]
  have iN : y / 8 * A + x / 8 < N := by
    have : (y / 8 + 1) * A ≤ B * A := Nat.mul_le_mul_right A yB
    rw [Nat.add_mul, Nat.mul_comm B A, hN2] at this
    omega
  have k1 : (y % 8 * 8 + x % 8) / 8 = y % 8 := by omega
  have k2 : (y % 8 * 8 + x % 8) % 8 = x % 8 := by omega
  have e1 : ((y / 8 * A + x / 8 : Nat) : Int) / (A : Int) = ((y / 8 : Nat) : Int) := by rw [← Int.natCast_ediv, d1]
  have e2 : ((y / 8 * A + x / 8 : Nat) : Int) % (A : Int) = ((x / 8 : Nat) : Int) := by rw [← Int.natCast_emod, d2]
  have e3 : ((y % 8 * 8 + x % 8 : Nat) : Int) / 8 = ((y % 8 : Nat) : Int) := by omega
  have e4 : ((y % 8 * 8 + x % 8 : Nat) : Int) % 8 = ((x % 8 : Nat) : Int) := by omega
  have e5 : ((x / 8 : Nat) : Int) * 8 + ((x % 8 : Nat) : Int) = (x : Int) := by omega
  have e6 : ((y / 8 : Nat) : Int) * 8 + ((y % 8 : Nat) : Int) = (y : Int) := by omega
  refine ⟨y / 8 * A + x / 8, 0, y % 8 * 8 + x % 8, 0, iN, by omega, by omega, by rw [gray_many]; omega, ?_, ?_, ?_⟩
  · rw [gray_X, hA, e2, e4, e5]; omega
  · rw [gray_Y, hA, e1, e3, e6]; omega
  · rw [gray_J, hA, e1, e2, e3, e4, e5, e6, ← hjx, ← Int.natCast_mul, ← Int.natCast_add]; rfl

set_option maxHeartbeats 6400000 in
set_option maxRecDepth 100000 in
theorem planeJoin_gray (W H q i0 c : Int) (f : Fit W H 1) (v : Value) (go0 : Nat) (G : Nat → Nat) (F : Nat → Nat → Int) (J : Nat → Int) (Z N : Nat) (w : World) (hZ : W * H * partsN 1 = Z) (hN : (gridW W H 1 * gridH W H 1).toNat = N)
    (h : Blks w v 44 46 N 1 go0 G F)
    (hC : ∀ i b k n, i < N → b < 1 → k < 64 → n < ((spotAt (gridW W H 1) (sideW 1) (sideH 1) (unitL 1) i b).wide * (spotAt (gridW W H 1) (sideW 1) (sideH 1) (unitL 1) i b).high).toNat → pX (spotAt (gridW W H 1) (sideW 1) (sideH 1) (unitL 1) i b) k n < W → pY (spotAt (gridW W H 1) (sideW 1) (sideH 1) (unitL 1) i b) k n < H → J (pJ W (spotAt (gridW W H 1) (sideW 1) (sideH 1) (unitL 1) i b) k n) = clipF (F i (b * 64 + k)) 0 255)
    (hJx : ∀ j, j < Z → 0 ≤ J j ∧ J j ≤ 255) :
    Calls Tryd.prog 20 #[pV W H 1 q i0 c, v] w fun e w' => (∃ pv, e = .returned (imV W H false pv) ∧ View w' .u8 pv ((List.range Z).map J)) ∧ But Nowhere w w' := by
  have hu := Tryd.underlying26
  obtain ⟨-, -, g3, g4, g5, g6⟩ := f.grid
  have hN2 : N ≤ 2000000 := by
    have sd := side_fit f.m
    have a := ceil_in W (sideW 1) f.w.1 f.w.2 sd.1 sd.2.1
    have b := ceil_in H (sideH 1) f.h.1 f.h.2 sd.2.2.1 sd.2.2.2
    obtain ⟨e1, e2, -, -, -, -⟩ := f.grid
    rw [← e1] at a
    rw [← e2] at b
    have a1 : (gridW W H 1 - 1) * 8 ≤ (gridW W H 1 - 1) * sideW 1 := Int.mul_le_mul_of_nonneg_left sd.1 (by omega)
    have b1 : (gridH W H 1 - 1) * 8 ≤ (gridH W H 1 - 1) * sideH 1 := Int.mul_le_mul_of_nonneg_left sd.2.2.1 (by omega)
    have c1 : gridW W H 1 * gridH W H 1 ≤ W * H := Int.mul_le_mul (by omega) (by omega) (by omega) (by omega)
    have := f.s
    omega
  have hZ4 : Z ≤ 4000000 := by
    have e : partsN 1 = 1 := rfl
    rw [e] at hZ
    have := f.s
    omega
  have HZ : Hid (W * H * partsN 1 = Z) := hZ
  have HN : Hid ((gridW W H 1 * gridH W H 1).toNat = N) := hN
  have HC : Hid _ := hC
  have HSS : Hid _ := gray_S f Z N hZ hN
  have HX : Hid (∀ x ∈ (List.range Z).map J, 0 ≤ x ∧ x ≤ 255) := fun x hx => by
    simp only [List.mem_map] at hx
    obtain ⟨j, hj, rfl⟩ := hx
    exact hJx j (by simpa using hj)
  have HWH := isWhole_yes W H 1 q i0 c f v go0 G F
  have hul : (unitL 1).length = 1 := rfl
  rw [hN, hul] at HWH
  obtain rfl := h.val
  have kk := ((Keep.start w).made 23 (pC W H 1 q i0 c)).made 26 (imC 0 0 false (.slice none 0 0))
  simp only [World.size_alloc] at kk
  have HWI := HWH _ (h.step kk.but)
  clear hC hZ hN hul g3 g4 g5 g6 HWH
  go_enter Tryd.func20, Tryd.ntmps20
  go_wp2_with fail
  refine HWI.mono ?_
  rintro e w1 ⟨rfl, b1⟩
  replace kk := (kk.step b1).drew
  clear b1 HWI
  have HS : ∀ V l, Keep w V ((w.heap.size + 1, 26, l) :: [(w.heap.size, 23, pC W H 1 q i0 c)]) → (V.cell? ⟨w.heap.size, 0, none⟩ = some (.int .i64 W) ∧ V.cell? ⟨w.heap.size, 1, none⟩ = some (.int .i64 H) ∧ V.cell? ⟨w.heap.size, 2, none⟩ = some (.int .i64 1) ∧ V.cell? ⟨w.heap.size, 3, none⟩ = some (.int .i64 q) ∧ V.cell? ⟨w.heap.size, 4, none⟩ = some (.int .i64 i0) ∧ V.cell? ⟨w.heap.size, 5, none⟩ = some (.int .i64 c)) := fun V l kk => have gP := (kk.get (b := w.heap.size) (t := 23) (c := pC W H 1 q i0 c) (by simp)); ⟨gP.at 0, gP.at 1, gP.at 2, gP.at 3, gP.at 4, gP.at 5⟩
  go_wp2_with fail
  refine wp_region_till (S := fun V => V.cell? ⟨w.heap.size, 0, none⟩ = some (.int .i64 W) ∧ V.cell? ⟨w.heap.size, 1, none⟩ = some (.int .i64 H) ∧ V.cell? ⟨w.heap.size, 2, none⟩ = some (.int .i64 1) ∧ V.cell? ⟨w.heap.size, 3, none⟩ = some (.int .i64 q) ∧ V.cell? ⟨w.heap.size, 4, none⟩ = some (.int .i64 i0) ∧ V.cell? ⟨w.heap.size, 5, none⟩ = some (.int .i64 c)) (R := fun _ => True) (k := 100) (m := 100) (by kernel_rfl) (HS _ _ kk) trivial ?_
  (refine Walk.take (i := 1) (oi := { dst := some 12, op := Op.load 23 (Operand.tmp 2), type := 23, pos := "plane.go:92", after := #[], guard := none }) (v := ?_) rfl (by kernel_rfl) (by kernel_rfl) (by kernel_rfl) (by kernel_rfl) (fun _ _ _ h => h) (Or.inl ⟨by rfl, ?_⟩) ?_; rotate_left; (intro w hw; have hS1 := hw.1 (by kernel_rfl); clear hw; (try dsimp only at hS1); (try go_split_ands); go_simp; try (with_reducible rfl)); simp only [Act.put, List.setIfInBounds_toArray, List.set_cons_zero, List.set_cons_succ])
  (refine Walk.take (i := 2) (oi := { dst := some 13, op := Op.move (Operand.tmp 1), type := 30, pos := "plane.go:92", after := #[], guard := none }) (v := ?_) rfl (by kernel_rfl) (by kernel_rfl) (by kernel_rfl) (by kernel_rfl) (fun _ _ _ h => h) (Or.inl ⟨by rfl, ?_⟩) ?_; rotate_left; (intro w hw; clear hw; (try go_split_ands); go_simp; try (with_reducible rfl)); simp only [Act.put, List.setIfInBounds_toArray, List.set_cons_zero, List.set_cons_succ])
  (refine Walk.go (i := 0) (o := { dst := some 11, op := Op.call { callee := Callee.value (Operand.func 31), args := #[], argTypes := #[] }, type := 66, pos := "plane.go:92", after := #[], guard := none }) (by kernel_rfl) rfl (fun K hK => ?_); go_simp; ((go_at_call 31; refine (planePlain_any _).mono ?_; rintro e x0 ⟨rfl, d⟩; replace kk := kk.step d; clear d)); refine hK.out _ _ (⟨fun _ => HS _ _ kk, fun _ => trivial⟩) ?_; clear hK K; try simp only [Act.put, List.setIfInBounds_toArray, List.set_cons_zero, List.set_cons_succ])
  (refine Walk.go (i := 3) (o := { dst := some 14, op := Op.call { callee := Callee.value (Operand.func 41), args := #[Operand.tmp 13], argTypes := #[30] }, type := 59, pos := "plane.go:92", after := #[{ on := 2, ground := Ground.data }, { on := 0, ground := Ground.chain }], guard := none }) (by kernel_rfl) rfl (fun K hK => ?_); go_simp; ((go_at_call 41; refine (wordsOf_any _ N 1 go0 G F _ (h.step kk.but) hN2 (by omega)).mono ?_; rintro e x1 ⟨⟨v1, G1, rfl, hB1, -⟩, d⟩; obtain rfl := hB1.val; replace kk := kk.step d; clear d)); refine hK.out _ _ (⟨fun _ => HS _ _ kk, fun _ => trivial⟩) ?_; clear hK K; try simp only [Act.put, List.setIfInBounds_toArray, List.set_cons_zero, List.set_cons_succ])
  (refine Walk.go (i := 4) (o := { dst := some 15, op := Op.call { callee := Callee.value (Operand.func 40), args := #[Operand.tmp 11, Operand.tmp 12, Operand.tmp 14], argTypes := #[66, 23, 59] }, type := 68, pos := "plane.go:92", after := #[{ on := 0, ground := Ground.data }, { on := 1, ground := Ground.data }, { on := 3, ground := Ground.data }, { on := 3, ground := Ground.chain }], guard := none }) (by kernel_rfl) rfl (fun K hK => ?_); go_simp; ((go_at_call 40; refine (joinN_any W H 1 q i0 c f _ _ G1 F J Z N 1 _ HZ.out HN.out rfl hB1 HC.out HSS.out rfl).mono ?_; rintro e x2 ⟨⟨g2, rfl, hc2⟩, d⟩; replace kk := kk.step d; clear d hB1)); refine hK.out _ _ (⟨fun _ => HS _ _ kk, fun _ => trivial⟩) ?_; clear hK K; try simp only [Act.put, List.setIfInBounds_toArray, List.set_cons_zero, List.set_cons_succ])
  (refine Walk.take (i := 5) (oi := { dst := some 5, op := Op.assign (Operand.tmp 15), type := 68, pos := "plane.go:92", after := #[{ on := 4, ground := Ground.data }, { on := 4, ground := Ground.chain }, { on := 0, ground := Ground.phase }, { on := 1, ground := Ground.phase }, { on := 2, ground := Ground.phase }, { on := 3, ground := Ground.phase }, { on := 4, ground := Ground.phase }], guard := none }) (v := ?_) rfl (by kernel_rfl) (by kernel_rfl) (by kernel_rfl) (by kernel_rfl) (fun _ _ _ h => h) (Or.inl ⟨by rfl, ?_⟩) ?_; rotate_left; (intro w hw; clear hw; (try go_split_ands); go_simp; try (with_reducible rfl)); simp only [Act.put, List.setIfInBounds_toArray, List.set_cons_zero, List.set_cons_succ])
  refine Walk.done (by kernel_rfl) ?_ _
  have hc3 := hc2.but ((But.refl Nowhere x2).drew) (not_nowhere _)
  replace kk := kk.drew
  clear hc2
  go_wp2_with fail
  refine wp_region_till (S := fun V => V.cell? ⟨w.heap.size, 0, none⟩ = some (.int .i64 W) ∧ V.cell? ⟨w.heap.size, 1, none⟩ = some (.int .i64 H) ∧ V.cell? ⟨w.heap.size, 2, none⟩ = some (.int .i64 1) ∧ V.cell? ⟨w.heap.size, 3, none⟩ = some (.int .i64 q) ∧ V.cell? ⟨w.heap.size, 4, none⟩ = some (.int .i64 i0) ∧ V.cell? ⟨w.heap.size, 5, none⟩ = some (.int .i64 c)) (R := fun _ => True) (k := 10) (m := 100) (by kernel_rfl) (HS _ _ kk) trivial ?_
  (refine Walk.take (i := 0) (oi := { dst := some 16, op := Op.fieldAddr 23 (Operand.tmp 2) 0, type := 0, pos := "plane.go:93", after := #[], guard := none }) (v := ?_) rfl (by kernel_rfl) (by kernel_rfl) (by kernel_rfl) (by kernel_rfl) (fun _ _ _ h => h) (Or.inl ⟨by rfl, ?_⟩) ?_; rotate_left; (intro w hw; clear hw; (try go_split_ands); go_simp; try (with_reducible rfl)); simp only [Act.put, List.setIfInBounds_toArray, List.set_cons_zero, List.set_cons_succ])
  (refine Walk.take (i := 1) (oi := { dst := some 17, op := Op.load 3 (Operand.tmp 16), type := 3, pos := "plane.go:93", after := #[{ on := 0, ground := Ground.data }], guard := none }) (v := ?_) rfl (by kernel_rfl) (by kernel_rfl) (by kernel_rfl) (by kernel_rfl) (fun _ _ _ h => h) (Or.inl ⟨by rfl, ?_⟩) ?_; rotate_left; (intro w hw; have hS1 := hw.1 (by kernel_rfl); clear hw; (try dsimp only at hS1); (try go_split_ands); go_simp; try (with_reducible rfl)); simp only [Act.put, List.setIfInBounds_toArray, List.set_cons_zero, List.set_cons_succ])
  (refine Walk.take (i := 2) (oi := { dst := some 18, op := Op.fieldAddr 23 (Operand.tmp 2) 1, type := 0, pos := "plane.go:93", after := #[], guard := none }) (v := ?_) rfl (by kernel_rfl) (by kernel_rfl) (by kernel_rfl) (by kernel_rfl) (fun _ _ _ h => h) (Or.inl ⟨by rfl, ?_⟩) ?_; rotate_left; (intro w hw; clear hw; (try go_split_ands); go_simp; try (with_reducible rfl)); simp only [Act.put, List.setIfInBounds_toArray, List.set_cons_zero, List.set_cons_succ])
  (refine Walk.take (i := 3) (oi := { dst := some 19, op := Op.load 3 (Operand.tmp 18), type := 3, pos := "plane.go:93", after := #[{ on := 2, ground := Ground.data }], guard := none }) (v := ?_) rfl (by kernel_rfl) (by kernel_rfl) (by kernel_rfl) (by kernel_rfl) (fun _ _ _ h => h) (Or.inl ⟨by rfl, ?_⟩) ?_; rotate_left; (intro w hw; have hS1 := hw.1 (by kernel_rfl); clear hw; (try dsimp only at hS1); (try go_split_ands); go_simp; try (with_reducible rfl)); simp only [Act.put, List.setIfInBounds_toArray, List.set_cons_zero, List.set_cons_succ])
  (refine Walk.take (i := 4) (oi := { dst := some 20, op := Op.fieldAddr 23 (Operand.tmp 2) 2, type := 0, pos := "plane.go:93", after := #[], guard := none }) (v := ?_) rfl (by kernel_rfl) (by kernel_rfl) (by kernel_rfl) (by kernel_rfl) (fun _ _ _ h => h) (Or.inl ⟨by rfl, ?_⟩) ?_; rotate_left; (intro w hw; clear hw; (try go_split_ands); go_simp; try (with_reducible rfl)); simp only [Act.put, List.setIfInBounds_toArray, List.set_cons_zero, List.set_cons_succ])
  (refine Walk.take (i := 5) (oi := { dst := some 21, op := Op.load 3 (Operand.tmp 20), type := 3, pos := "plane.go:93", after := #[{ on := 4, ground := Ground.data }], guard := none }) (v := ?_) rfl (by kernel_rfl) (by kernel_rfl) (by kernel_rfl) (by kernel_rfl) (fun _ _ _ h => h) (Or.inl ⟨by rfl, ?_⟩) ?_; rotate_left; (intro w hw; have hS1 := hw.1 (by kernel_rfl); clear hw; (try dsimp only at hS1); (try go_split_ands); go_simp; try (with_reducible rfl)); simp only [Act.put, List.setIfInBounds_toArray, List.set_cons_zero, List.set_cons_succ])
  (refine Walk.take (i := 6) (oi := { dst := some 22, op := Op.binOp BinOp.neq 3 (Operand.tmp 21) (Operand.const (Value.int IntKind.i64 1)) 3, type := 4, pos := "plane.go:93", after := #[{ on := 5, ground := Ground.data }], guard := none }) (v := ?_) rfl (by kernel_rfl) (by kernel_rfl) (by kernel_rfl) (by kernel_rfl) (fun _ _ _ h => h) (Or.inl ⟨by rfl, ?_⟩) ?_; rotate_left; (intro w hw; clear hw; (try go_split_ands); go_simp; try (with_reducible rfl)); simp only [Act.put, List.setIfInBounds_toArray, List.set_cons_zero, List.set_cons_succ])
  (refine Walk.take (i := 7) (oi := { dst := some 23, op := Op.move (Operand.tmp 5), type := 68, pos := "plane.go:93", after := #[], guard := none }) (v := ?_) rfl (by kernel_rfl) (by kernel_rfl) (by kernel_rfl) (by kernel_rfl) (fun _ _ _ h => h) (Or.inl ⟨by rfl, ?_⟩) ?_; rotate_left; (intro w hw; clear hw; (try go_split_ands); go_simp; try (with_reducible rfl)); simp only [Act.put, List.setIfInBounds_toArray, List.set_cons_zero, List.set_cons_succ])
  (refine Walk.go (i := 8) (o := { dst := some 24, op := Op.call { callee := Callee.value (Operand.func 42), args := #[Operand.tmp 23], argTypes := #[68] }, type := 24, pos := "plane.go:93", after := #[{ on := 7, ground := Ground.data }], guard := none }) (by kernel_rfl) rfl (fun K hK => ?_); go_simp; ((go_at_call 42; refine (bytesOf_any _ ((List.range Z).map J) _ (Tb.view ⟨g2, rfl, hc3⟩) HX.out (by rw [List.length_map, List.length_range]; exact hZ4)).mono ?_; rintro e x3 ⟨rfl, hc4, d⟩; have hlt9 := kk.head.lt; replace kk := kk.step d; clear d; rw [List.length_map, List.length_range] at hc4; rw [List.length_map, List.length_range])); refine hK.out _ _ (⟨fun _ => HS _ _ kk, fun _ => trivial⟩) ?_; clear hK K; try simp only [Act.put, List.setIfInBounds_toArray, List.set_cons_zero, List.set_cons_succ])
  (refine Walk.take (i := 9) (oi := { dst := some 25, op := Op.build 26 #[(0, Operand.tmp 17), (1, Operand.tmp 19), (2, Operand.tmp 22), (3, Operand.tmp 24)], type := 26, pos := "plane.go:93", after := #[{ on := 1, ground := Ground.data }, { on := 3, ground := Ground.data }, { on := 6, ground := Ground.data }, { on := 8, ground := Ground.data }], guard := none }) (v := ?_) rfl (by kernel_rfl) (by kernel_rfl) (by kernel_rfl) (by kernel_rfl) (fun _ _ _ h => h) (Or.inl ⟨by rfl, ?_⟩) ?_; rotate_left; (intro w hw; clear hw; (try go_split_ands); go_simp; try (with_reducible rfl)); simp only [Act.put, List.setIfInBounds_toArray, List.set_cons_zero, List.set_cons_succ])
  have d0 := kk.head.at 0
  have d1 := kk.head.at 1
  have d2 := kk.head.at 2
  have d3 := kk.head.at 3
  have f0 := kk.head.frozen 0
  have f1 := kk.head.frozen 1
  have f2 := kk.head.frozen 2
  have f3 := kk.head.frozen 3
  simp only [List.getElem?_cons_zero, List.getElem?_cons_succ] at d0 d1 d2 d3
  revert hc4 hlt9
  generalize hgb : x2.drew.heap.size = gb
  intro hc4 hlt9
  obtain rfl : x2.heap.size = gb := hgb
  (refine Walk.go (i := 10) (o := { dst := none, op := Op.store 26 (Operand.tmp 4) (Operand.tmp 25), type := 0, pos := "plane.go:93", after := #[{ on := 9, ground := Ground.data }, { on := 8, ground := Ground.chain }, { on := 0, ground := Ground.phase }, { on := 1, ground := Ground.phase }, { on := 2, ground := Ground.phase }, { on := 3, ground := Ground.phase }, { on := 4, ground := Ground.phase }, { on := 5, ground := Ground.phase }, { on := 6, ground := Ground.phase }, { on := 7, ground := Ground.phase }, { on := 8, ground := Ground.phase }, { on := 9, ground := Ground.phase }], guard := none }) (by kernel_rfl) rfl (fun K hK => ?_); go_simp; (skip); refine hK.out _ _ (⟨fun q => absurd q (by decide), fun _ => trivial⟩) ?_; clear hK K; try simp only [Act.put, List.setIfInBounds_toArray, List.set_cons_zero, List.set_cons_succ])
  refine Walk.done (by kernel_rfl) ?_ _
  have hne : w.heap.size + 1 ≠ x2.heap.size := by omega
  have hc5 := (((hc4.far (c := w.heap.size + 1) (by omega) 0 (.int .i64 W)).far (c := w.heap.size + 1) (by omega) 1 (.int .i64 H)).far (c := w.heap.size + 1) (by omega) 2 (.bool false)).far (c := w.heap.size + 1) (by omega) 3 (.slice (some ⟨x2.heap.size, 0, none⟩) Z Z)
  have hv := Tb.view ⟨x2.heap.size, rfl, hc5⟩
  have hL : (List.range Z).map (fun j => gn ((List.range Z).map J) j) = (List.range Z).map J := by
    have := gn_all ((List.range Z).map J)
    rw [List.length_map, List.length_range] at this
    exact this
  rw [hL] at hv
  replace kk := (((kk.set 0 (.int .i64 W)).set 1 (.int .i64 H)).set 2 (.bool false)).set 3 (.slice (some ⟨x2.heap.size, 0, none⟩) Z Z)
  simp only [List.set_cons_zero, List.set_cons_succ] at kk
  clear hc4 hc5 d0 d1 d2 d3 f0 f1 f2 f3
  go_wp2_with fail
  exact bodyPost_ret (results_cells rfl kk.head hu rfl (by kernel_rfl) _ rfl) rfl ⟨⟨_, rfl, hv⟩, kk.but⟩

end Go.Proofs.YtppbnmlgilgnnaaDoor
