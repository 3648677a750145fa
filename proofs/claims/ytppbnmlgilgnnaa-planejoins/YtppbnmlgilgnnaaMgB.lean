import Derived.Test.YtppbnmlgilgnnaaMgD
import Derived.Test.YtppbnmlgilgnnaaPl12
import Derived.Test.YtppbnmlgilgnnaaMgC

/- The document's at: a pixel's part. -/
namespace Go.Proofs.Ytppbnmlgilgnnaa
open Go.ChangeShapes Go.WideShapes Go.ChangeAt Go.RowKit

/-- The numbers that at goes through. -/
theorem at_nums {W H m : Int} (f : Fit W H m) {p A B C D : Nat} (P : PartAt m p A B C D) (x y : Int) (hx : 0 ≤ x ∧ x < W) (hy : 0 ≤ y ∧ y < H) : ∃ q t e q' t' e' : Int,
    (x / sideW m = q ∧ 0 ≤ q ∧ q < gridW W H m ∧ 0 ≤ t ∧ t < A ∧ 0 ≤ e ∧ e < 8 ∧ x % sideW m * (A : Int) / ((A * C : Nat) : Int) = t * 8 + e ∧ 0 ≤ x % sideW m ∧ x % sideW m < 32) ∧
    (y / sideH m = q' ∧ 0 ≤ q' ∧ q' < gridH W H m ∧ 0 ≤ t' ∧ t' < B ∧ 0 ≤ e' ∧ e' < 8 ∧ y % sideH m * (B : Int) / ((B * D : Nat) : Int) = t' * 8 + e' ∧ 0 ≤ y % sideH m ∧ y % sideH m < 32) := by
  obtain ⟨g1, g2, g3, g4, g5, g6⟩ := f.grid
  have s := side_fit f.m
  have ca := ceil_in W (sideW m) f.w.1 f.w.2 s.1 s.2.1
  have cb := ceil_in H (sideH m) f.h.1 f.h.2 s.2.2.1 s.2.2.2
  rw [← g1] at ca
  rw [← g2] at cb
  obtain ⟨-, -, -, ca4, -⟩ := ca
  obtain ⟨-, -, -, cb4, -⟩ := cb
  obtain ⟨q, t, e, z, hq, ht, he, hz, ex, eq⟩ := axis_out A C P.a P.c x hx.1
  obtain ⟨q', t', e', z', hq', ht', he', hz', ey, eq'⟩ := axis_out B D P.b P.d y hy.1
  obtain ⟨x1, x2, -⟩ := axis_in A C P.a P.c q t e z hq ht he hz
  obtain ⟨y1, y2, -⟩ := axis_in B D P.b P.d q' t' e' z' hq' ht' he' hz'
  rw [← ex, ← P.sw] at x1 x2
  rw [← ey, ← P.sh] at y1 y2
  refine ⟨q, t, e, q', t', e', ⟨x1, hq, ?_, ht.1, ht.2, he.1, he.2, x2, Int.emod_nonneg _ (by omega), ?_⟩, ⟨y1, hq', ?_, ht'.1, ht'.2, he'.1, he'.2, y2, Int.emod_nonneg _ (by omega), ?_⟩⟩
  · rw [← x1]; exact Int.ediv_lt_of_lt_mul (by omega) (by omega)
  · have := Int.emod_lt_of_pos x (show 0 < sideW m by omega); omega
  · rw [← y1]; exact Int.ediv_lt_of_lt_mul (by omega) (by omega)
  · have := Int.emod_lt_of_pos y (show 0 < sideH m by omega); omega

theorem Cells.of_eqL {W : World} {b : Nat} {t : TypeId} {l l' : List Value} (h : Cells W b t l) (e : l = l') : Cells W b t l' := e ▸ h

set_option maxHeartbeats 6400000 in
set_option maxRecDepth 100000 in
theorem refAt_any (W H m qu i0 c : Int) (f : Fit W H m) (v : Value) (F : Nat → Nat → Int) (N M : Nat) (w : World) (hN : (gridW W H m * gridH W H m).toNat = N) (hM : (unitL m).length = M) (h : BA w v N (fun _ => M) F) (p : Nat) (hp : p < partsN m) (x y : Int) (hx : 0 ≤ x ∧ x < W) (hy : 0 ≤ y ∧ y < H) :
    Calls Try.prog 26 #[pV W H m qu i0 c, v, .int .i64 (p : Int), .int .i64 x, .int .i64 y] w fun e w' => e = .returned (.int .i64 (atF W H m F p x y)) ∧ But Nowhere w w' := by
  have hW := f.w
  have hH := f.h
  have sd := side_fit f.m
  have hu := Try.underlying53
  obtain ⟨-, -, g3, g4, g5, g6⟩ := f.grid
  have HPA : Hid (∀ p, p < partsN m → ∃ A B C D, PartAt m p A B C D) := part_at m f.m
  obtain ⟨A, B, C, D, P⟩ := part_at m f.m p hp
  obtain ⟨a1, a2, a3, a4⟩ := P.sA
  obtain ⟨q, t, e, q', t', e', ⟨x1, x2, x3, x4, x5, x6, x7, x8, x9, x10⟩, ⟨y1, y2, y3, y4, y5, y6, y7, y8, y9, y10⟩⟩ := at_nums f P x y hx hy
  have hA := P.a
  have hB := P.b
  have hC := P.c
  have hD := P.d
  have eU : atU m p x = t * 8 + e := by unfold atU; rw [a1, a3]; exact x8
  have eV : atV m p y = t' * 8 + e' := by unfold atV; rw [a2, a4]; exact y8
  have hcul := P.ul
  have hcle := P.le
  rw [hM] at hcul
  have hul := (unit_pos m).2
  rw [hM] at hul
  -- the MCU
  have m0 : 0 ≤ q' * gridW W H m := Int.mul_nonneg y2 (by omega)
  have m1 : q' * gridW W H m + gridW W H m ≤ gridW W H m * gridH W H m := by
    have : (q' + 1) * gridW W H m ≤ gridH W H m * gridW W H m := Int.mul_le_mul_of_nonneg_right (by omega) (by omega)
    rw [Int.add_mul, Int.one_mul, Int.mul_comm (gridH W H m)] at this
    exact this
  have m2 : gridW W H m * gridH W H m ≤ 8192 * 8192 := Int.mul_le_mul g4 g6 (by omega) (by omega)
  obtain ⟨I, hI⟩ : ∃ I : Nat, q' * gridW W H m + q = (I : Int) := ⟨(q' * gridW W H m + q).toNat, by omega⟩
  have hIN : I < N := by omega
  have eI : atI W H m x y = I := by unfold atI; rw [x1, y1, hI]; exact Int.toNat_natCast _
  -- the block
  have n0 : 0 ≤ t' * (A : Int) := Int.mul_nonneg y4 (by omega)
  have n1 : t' * (A : Int) + A ≤ (A : Int) * B := by
    have : (t' + 1) * (A : Int) ≤ (B : Int) * A := Int.mul_le_mul_of_nonneg_right (by omega) (by omega)
    rw [Int.add_mul, Int.one_mul, Int.mul_comm (B : Int)] at this
    exact this
  have n2 : (A : Int) * B = (cntP m (p + 1) : Int) - (cntP m p : Int) := by rw [← Int.ofNat_sub hcle, ← P.n]; simp
  obtain ⟨Bk, hBk⟩ : ∃ Bk : Nat, (cntP m p : Int) + t' * (A : Int) + t = (Bk : Int) := ⟨((cntP m p : Int) + t' * (A : Int) + t).toNat, by omega⟩
  have hBM : Bk < M := by omega
  have eB : atB m p x y = Bk := by
    unfold atB
    rw [eU, eV, a1, show (t' * 8 + e') / 8 = t' by omega, show (t * 8 + e) / 8 = t by omega, hBk]
    exact Int.toNat_natCast _
  obtain ⟨k, hk⟩ : ∃ k : Nat, e' * 8 + e = (k : Int) := ⟨(e' * 8 + e).toNat, by omega⟩
  have hk64 : k < 64 := by omega
  have eK : atK m p x y = k := by
    unfold atK
    rw [eU, eV, show (t' * 8 + e') % 8 * 8 + (t * 8 + e) % 8 = (k : Int) by omega]
    exact Int.toNat_natCast _
  obtain ⟨z, hz⟩ : ∃ z, F I (Bk * 64 + k) = z := ⟨_, rfl⟩
  have HRES : Hid (atF W H m F p x y = clipF z 0 255) := by show atF W H m F p x y = clipF z 0 255; unfold atF; rw [eI, eB, eK, hz]
  -- the row
  obtain ⟨ao, vcap, rfl, h0⟩ := h
  obtain ⟨go, off, rfl, hrow⟩ := h0 (by omega)
  obtain ⟨u, hu1, ro, cm, rfl, hu2⟩ := hrow I hIN
  obtain ⟨gm, om, rfl, hu3⟩ := hu2 (show 0 < M by omega)
  have HR1 : Hid _ := hu1
  obtain ⟨fb, hfb⟩ : ∃ fb, fb = fun j => F I (Bk * 64 + j) := ⟨_, rfl⟩
  have HR2 : Hid (∀ V, But Nowhere w V → V.rangeAt gm (om + Bk * 64) (tab .i64 64 fb)) := fun V hb => by
    rw [hfb]
    exact range_off (fun j hj => hb.keeps (not_nowhere _) (hu3 j hj)) Bk hBM
  have hfz : fb k = z := by rw [hfb]; exact hz
  clear h0 hrow hu1 hu2 hu3
  -- numbers as they are met
  obtain ⟨GA, hGA⟩ : ∃ g, gridW W H m = g := ⟨_, rfl⟩
  obtain ⟨GB, hGB⟩ : ∃ g, gridH W H m = g := ⟨_, rfl⟩
  obtain ⟨sw, hsw⟩ : ∃ g, sideW m = g := ⟨_, rfl⟩
  obtain ⟨sh, hsh⟩ : ∃ g, sideH m = g := ⟨_, rfl⟩
  have HG : Hid (gridW W H m = GA ∧ gridH W H m = GB) := ⟨hGA, hGB⟩
  have HSD : Hid (sideW m = sw ∧ sideH m = sh) := ⟨hsw, hsh⟩
  rw [hGA] at hI m0 m1 m2 g3 g4
  rw [hGB] at m1 m2 g5 g6
  rw [hsw] at x1 x8 x9 x10 sd
  rw [hsh] at y1 y8 y9 y10 sd
  have s1 : x.tdiv sw = q := by rw [Int.tdiv_eq_ediv_of_nonneg hx.1]; exact x1
  have s2 : y.tdiv sh = q' := by rw [Int.tdiv_eq_ediv_of_nonneg hy.1]; exact y1
  obtain ⟨xr, hxr⟩ : ∃ g, x % sw = g := ⟨_, rfl⟩
  obtain ⟨yr, hyr⟩ : ∃ g, y % sh = g := ⟨_, rfl⟩
  have s3 : x.tmod sw = xr := by rw [Int.tmod_eq_emod_of_nonneg hx.1]; exact hxr
  have s4 : y.tmod sh = yr := by rw [Int.tmod_eq_emod_of_nonneg hy.1]; exact hyr
  rw [hxr] at x8 x9 x10
  rw [hyr] at y8 y9 y10
  obtain ⟨QG, hQG⟩ : ∃ g, q' * GA = g := ⟨_, rfl⟩
  rw [hQG] at m0 m1 hI
  have r1 : IntKind.i64.wrap (q' * GA) = QG := by rw [wrap_i64_eq, hQG]; exact w64 _ (by omega)
  have r2 : IntKind.i64.wrap (QG + q) = (I : Int) := by rw [wrap_i64_eq, hI]; exact w64 _ (by omega)
  have r1' : IntKind.i64.wrap q' = q' := by rw [wrap_i64_eq]; exact w64 _ (by omega)
  have r2' : IntKind.i64.wrap q = q := by rw [wrap_i64_eq]; exact w64 _ (by omega)
  obtain ⟨S0, hS0⟩ : ∃ g : Int, ((A * C : Nat) : Int) = g := ⟨_, rfl⟩
  obtain ⟨S1, hS1⟩ : ∃ g : Int, ((B * D : Nat) : Int) = g := ⟨_, rfl⟩
  have hS0p : 1 ≤ S0 := by rw [← hS0]; rcases hA with rfl | rfl <;> rcases hC with rfl | rfl <;> decide
  have hS1p : 1 ≤ S1 := by rw [← hS1]; rcases hB with rfl | rfl <;> rcases hD with rfl | rfl <;> decide
  rw [hS0] at x8
  rw [hS1] at y8
  obtain ⟨XA, hXA⟩ : ∃ g : Int, xr * (A : Int) = g := ⟨_, rfl⟩
  obtain ⟨YB, hYB⟩ : ∃ g : Int, yr * (B : Int) = g := ⟨_, rfl⟩
  have b1 : 0 ≤ XA ∧ XA ≤ 64 := by rw [← hXA]; rcases hA with rfl | rfl <;> (simp; omega)
  have b2 : 0 ≤ YB ∧ YB ≤ 64 := by rw [← hYB]; rcases hB with rfl | rfl <;> (simp; omega)
  rw [hXA] at x8
  rw [hYB] at y8
  have r3 : IntKind.i64.wrap (xr * (A : Int)) = XA := by rw [wrap_i64_eq, hXA]; exact w64 _ (by omega)
  have r4 : IntKind.i64.wrap (yr * (B : Int)) = YB := by rw [wrap_i64_eq, hYB]; exact w64 _ (by omega)
  have r5 : XA.tdiv S0 = t * 8 + e := by rw [Int.tdiv_eq_ediv_of_nonneg b1.1]; exact x8
  have r6 : YB.tdiv S1 = t' * 8 + e' := by rw [Int.tdiv_eq_ediv_of_nonneg b2.1]; exact y8
  obtain ⟨U, hU⟩ : ∃ g : Int, t * 8 + e = g := ⟨_, rfl⟩
  obtain ⟨Vv, hV⟩ : ∃ g : Int, t' * 8 + e' = g := ⟨_, rfl⟩
  rw [hU] at r5
  rw [hV] at r6
  have c1 : 0 ≤ U ∧ U < 16 := by omega
  have c2 : 0 ≤ Vv ∧ Vv < 16 := by omega
  have r7 : Vv.tdiv 8 = t' := by rw [Int.tdiv_eq_ediv_of_nonneg c2.1]; omega
  have r8 : U.tdiv 8 = t := by rw [Int.tdiv_eq_ediv_of_nonneg c1.1]; omega
  have r9 : Vv.tmod 8 = e' := by rw [Int.tmod_eq_emod_of_nonneg c2.1]; omega
  have r10 : U.tmod 8 = e := by rw [Int.tmod_eq_emod_of_nonneg c1.1]; omega
  obtain ⟨TA, hTA⟩ : ∃ g : Int, t' * (A : Int) = g := ⟨_, rfl⟩
  rw [hTA] at hBk n0 n1
  have r11 : wrap64 (t' * (A : Int)) = TA := by rw [hTA]; exact w64 _ (by omega)
  obtain ⟨E, hE⟩ : ∃ E : Nat, cntP m p = E := ⟨_, rfl⟩
  have HE : Hid (cntP m p = E) := hE
  rw [hE] at hBk hcle
  obtain ⟨ET, hET⟩ : ∃ g : Int, (E : Int) + TA = g := ⟨_, rfl⟩
  rw [hET] at hBk
  have r12 : wrap64 ((E : Int) + TA) = ET := by rw [hET]; exact w64 _ (by omega)
  have r13 : wrap64 (ET + t) = (Bk : Int) := by rw [hBk]; exact w64 _ (by omega)
  have r14 : wrap64 (e' * 8) = e' * 8 := w64 _ (by omega)
  have r15 : wrap64 (e' * 8 + e) = (k : Int) := by rw [hk]; exact w64 _ (by omega)
  have q1 : IntKind.i64.wrap U = U := by rw [wrap_i64_eq]; exact w64 _ (by omega)
  have q2 : IntKind.i64.wrap Vv = Vv := by rw [wrap_i64_eq]; exact w64 _ (by omega)
  have q3 : IntKind.i64.wrap t = t := by rw [wrap_i64_eq]; exact w64 _ (by omega)
  have q4 : IntKind.i64.wrap t' = t' := by rw [wrap_i64_eq]; exact w64 _ (by omega)
  have HA4 : Hid (x.tdiv sw = q ∧ y.tdiv sh = q' ∧ IntKind.i64.wrap (q' * GA) = QG ∧ IntKind.i64.wrap (QG + q) = (I : Int) ∧ IntKind.i64.wrap q' = q' ∧ IntKind.i64.wrap q = q) := ⟨s1, s2, r1, r2, r1', r2'⟩
  have HA10 : Hid (x.tmod sw = xr ∧ IntKind.i64.wrap (xr * (A : Int)) = XA ∧ XA.tdiv S0 = U ∧ IntKind.i64.wrap U = U) := ⟨s3, r3, r5, q1⟩
  have HA11 : Hid (y.tmod sh = yr ∧ IntKind.i64.wrap (yr * (B : Int)) = YB ∧ YB.tdiv S1 = Vv ∧ IntKind.i64.wrap Vv = Vv) := ⟨s4, r4, r6, q2⟩
  have HA12 : Hid (Vv.tdiv 8 = t' ∧ IntKind.i64.wrap t' = t' ∧ wrap64 (t' * (A : Int)) = TA ∧ wrap64 ((E : Int) + TA) = ET ∧ U.tdiv 8 = t ∧ IntKind.i64.wrap t = t ∧ wrap64 (ET + t) = (Bk : Int)) := ⟨r7, q4, r11, r12, r8, q3, r13⟩
  have HA13 : Hid (Vv.tmod 8 = e' ∧ wrap64 (e' * 8) = e' * 8 ∧ U.tmod 8 = e ∧ wrap64 (e' * 8 + e) = (k : Int)) := ⟨r9, r14, r10, r15⟩
  have HCA : Hid ((nums (sidesC m))[p * 2]? = some (.int .i64 (A : Int)) ∧ (nums (sidesC m))[p * 2 + 1]? = some (.int .i64 (B : Int)) ∧ (nums (sidesC m))[0]? = some (.int .i64 S0) ∧ (nums (sidesC m))[1]? = some (.int .i64 S1)) := ⟨P.ca, P.cb, by rw [← hS0]; exact P.c0, by rw [← hS1]; exact P.c1⟩
  have hswp : ¬ sw = 0 := by omega
  have hshp : ¬ sh = 0 := by omega
  have hS0n : ¬ S0 = 0 := by omega
  have hS1n : ¬ S1 = 0 := by omega
  have HSI : Hid (∀ w, Calls Try.prog 23 #[.int .i64 m] w fun e w' => e = .returned (.slice (some ⟨w.heap.size, 0, none⟩) (partsN m) (partsN m)) ∧ Keep w w' [(w.heap.size, 49, nums (sidesC m))] ∧ w'.heap.size = w.heap.size + 1) := refSides_some m f.m
  obtain ⟨PN, hPN, hPN3⟩ : ∃ N, partsN m = N ∧ N ≤ 3 := ⟨_, rfl, by unfold partsN; split <;> omega⟩
  rw [hPN] at HPA HSI hp
  have HMU : Hid ((unitL m).length = M) := hM
  have hI0 : (0 : Int) ≤ (I : Int) := by omega
  have hI1 : (I : Int) < (N : Int) := by omega
  have hB0 : (0 : Int) ≤ (Bk : Int) := by omega
  have hB1 : (Bk : Int) < (M : Int) := by omega
  have hk0 : (0 : Int) ≤ (k : Int) := by omega
  have hk1 : (k : Int) < 64 := by omega
  have hp0 : (0 : Int) ≤ (p : Int) := by omega
  have hp1 : (p : Int) < (PN : Int) := by omega
  have hp2 : (0 : Int) < (PN : Int) := by omega
  have hp3 : 0 < PN := by omega
  have zl : (Value.int .i64 0 :: Value.int .i64 0 :: Value.int .i64 0 :: Value.int .i64 0 :: Value.int .i64 0 :: Value.int .i64 0 :: Value.int .i64 0 :: Value.int .i64 0 :: Value.int .i64 0 :: Value.int .i64 0 :: Value.int .i64 0 :: Value.int .i64 0 :: Value.int .i64 0 :: Value.int .i64 0 :: Value.int .i64 0 :: Value.int .i64 0 :: Value.int .i64 0 :: Value.int .i64 0 :: Value.int .i64 0 :: Value.int .i64 0 :: Value.int .i64 0 :: Value.int .i64 0 :: Value.int .i64 0 :: Value.int .i64 0 :: Value.int .i64 0 :: Value.int .i64 0 :: Value.int .i64 0 :: Value.int .i64 0 :: Value.int .i64 0 :: Value.int .i64 0 :: Value.int .i64 0 :: Value.int .i64 0 :: Value.int .i64 0 :: Value.int .i64 0 :: Value.int .i64 0 :: Value.int .i64 0 :: Value.int .i64 0 :: Value.int .i64 0 :: Value.int .i64 0 :: Value.int .i64 0 :: Value.int .i64 0 :: Value.int .i64 0 :: Value.int .i64 0 :: Value.int .i64 0 :: Value.int .i64 0 :: Value.int .i64 0 :: Value.int .i64 0 :: Value.int .i64 0 :: Value.int .i64 0 :: Value.int .i64 0 :: Value.int .i64 0 :: Value.int .i64 0 :: Value.int .i64 0 :: Value.int .i64 0 :: Value.int .i64 0 :: Value.int .i64 0 :: Value.int .i64 0 :: Value.int .i64 0 :: Value.int .i64 0 :: Value.int .i64 0 :: Value.int .i64 0 :: Value.int .i64 0 :: Value.int .i64 0 :: Value.int .i64 0 :: []) = tab .i64 64 (fun _ => 0) := zeros64
  have kk := (Keep.start w).made 23 (pC W H m qu i0 c)
  clear s1 s2 s3 s4 r1 r2 r1' r2' r3 r4 r5 r6 r7 r8 r9 r10 r11 r12 r13 r14 r15 q1 q2 q3 q4 x1 x2 x3 x4 x5 x6 x7 x8 x9 x10 y1 y2 y3 y4 y5 y6 y7 y8 y9 y10 hxr hyr hQG hS0 hS1 hXA hYB b1 b2 hU hV c1 c2 hTA hE hET hI hBk hk hGA hGB hsw hsh m0 m1 m2 n0 n1 n2 eU eV eI eB eK hfb hz hPN hM hN sd hW hH a1 a2 a3 a4 g3 g4 g5 g6 hA hB hC hD hS0p hS1p P hcle hcul hx hy
  go_enter Try.func26, Try.ntmps26
  have c2 := kk.head.at 2
  simp only [List.getElem?_cons_zero, List.getElem?_cons_succ] at c2
  go_wp2_with fail
  refine (HSI.out _).mono ?_
  rintro ee w1 ⟨rfl, k1, -⟩
  have gS := k1.head
  replace kk := kk.step k1.but
  clear k1 c2
  obtain ⟨SB, hSB⟩ : ∃ b, (w.alloc (.cells #[.int .i64 W, .int .i64 H, .int .i64 m, .int .i64 qu, .int .i64 i0, .int .i64 c] 23)).heap.size = b := ⟨_, rfl⟩
  simp only [World.size_alloc] at hSB gS ⊢
  rw [hSB] at gS ⊢
  have HSB : Hid (w.heap.size + 1 = SB) := hSB
  clear hSB
  have d0 := kk.head.at 0
  have d1 := kk.head.at 1
  have d2 := kk.head.at 2
  have d3 := kk.head.at 3
  have d4 := kk.head.at 4
  have d5 := kk.head.at 5
  simp only [List.getElem?_cons_zero, List.getElem?_cons_succ] at d0 d1 d2 d3 d4 d5
  go_wp2_with fail
  clear d0 d1 d2 d3 d4 d5
  refine (refGrid_any _ _ _ _ _ _ _).mono ?_
  rintro ee w2 ⟨rfl, b2⟩
  rw [HG.out.1, HG.out.2]
  replace kk := kk.step b2
  replace gS := gS.but b2 (not_nowhere _)
  clear b2
  have d2 := kk.head.at 2
  simp only [List.getElem?_cons_zero, List.getElem?_cons_succ] at d2
  go_wp2_with fail
  clear d2
  refine (refSide_any _ _).mono ?_
  rintro ee w3 ⟨rfl, b3⟩
  rw [HSD.out.1, HSD.out.2]
  replace kk := kk.step b3
  replace gS := gS.but b3 (not_nowhere _)
  clear b3
  obtain ⟨s1, s2, r1, r2, r1', r2'⟩ := HA4.out
  have hcell := kk.but.keeps (not_nowhere _) HR1.out
  replace hcell := (But.refl Nowhere w3).drew.keeps (not_nowhere _) hcell
  go_wp2_with fail
  refine wp_region_till (S := fun V => V.cell? ⟨go, off + I, none⟩ = some (.slice (some ⟨gm, om, none⟩) M cm)) (R := fun _ => True) (k := 100) (m := 100) (by kernel_rfl) (hcell) trivial ?_
  (refine Walk.take (i := 0) (oi := { dst := some 36, op := Op.move (Operand.tmp 1), type := 29, pos := "ref.go:146", after := #[], guard := none }) (v := ?_) rfl (by kernel_rfl) (by kernel_rfl) (by kernel_rfl) (by kernel_rfl) (fun _ _ _ h => h) (Or.inl ⟨by rfl, ?_⟩) ?_; rotate_left; (intro w hw; clear hw; (try go_split_ands); go_simp; try (with_reducible rfl)); simp only [Act.put, List.setIfInBounds_toArray, List.set_cons_zero, List.set_cons_succ])
  (refine Walk.take (i := 1) (oi := { dst := some 37, op := Op.move (Operand.tmp 4), type := 3, pos := "ref.go:146", after := #[], guard := none }) (v := ?_) rfl (by kernel_rfl) (by kernel_rfl) (by kernel_rfl) (by kernel_rfl) (fun _ _ _ h => h) (Or.inl ⟨by rfl, ?_⟩) ?_; rotate_left; (intro w hw; clear hw; (try go_split_ands); go_simp; try (with_reducible rfl)); simp only [Act.put, List.setIfInBounds_toArray, List.set_cons_zero, List.set_cons_succ])
  (refine Walk.take (i := 2) (oi := { dst := some 38, op := Op.move (Operand.tmp 15), type := 3, pos := "ref.go:146", after := #[], guard := none }) (v := ?_) rfl (by kernel_rfl) (by kernel_rfl) (by kernel_rfl) (by kernel_rfl) (fun _ _ _ h => h) (Or.inl ⟨by rfl, ?_⟩) ?_; rotate_left; (intro w hw; clear hw; (try go_split_ands); go_simp; try (with_reducible rfl)); simp only [Act.put, List.setIfInBounds_toArray, List.set_cons_zero, List.set_cons_succ])
  (refine Walk.take (i := 3) (oi := { dst := some 39, op := Op.binOp BinOp.quo 3 (Operand.tmp 37) (Operand.tmp 38) 3, type := 3, pos := "ref.go:146", after := #[{ on := 1, ground := Ground.data }, { on := 2, ground := Ground.data }], guard := none }) (v := ?_) rfl (by kernel_rfl) (by kernel_rfl) (by kernel_rfl) (by kernel_rfl) (fun _ _ _ h => h) (Or.inl ⟨by rfl, ?_⟩) ?_; rotate_left; (intro w hw; clear hw; (try go_split_ands); go_simp; try (with_reducible rfl)); simp only [Act.put, List.setIfInBounds_toArray, List.set_cons_zero, List.set_cons_succ])
  (refine Walk.take (i := 4) (oi := { dst := some 40, op := Op.move (Operand.tmp 12), type := 3, pos := "ref.go:146", after := #[], guard := none }) (v := ?_) rfl (by kernel_rfl) (by kernel_rfl) (by kernel_rfl) (by kernel_rfl) (fun _ _ _ h => h) (Or.inl ⟨by rfl, ?_⟩) ?_; rotate_left; (intro w hw; clear hw; (try go_split_ands); go_simp; try (with_reducible rfl)); simp only [Act.put, List.setIfInBounds_toArray, List.set_cons_zero, List.set_cons_succ])
  (refine Walk.take (i := 5) (oi := { dst := some 41, op := Op.binOp BinOp.mul 3 (Operand.tmp 39) (Operand.tmp 40) 3, type := 3, pos := "ref.go:146", after := #[{ on := 3, ground := Ground.data }, { on := 4, ground := Ground.data }], guard := none }) (v := ?_) rfl (by kernel_rfl) (by kernel_rfl) (by kernel_rfl) (by kernel_rfl) (fun _ _ _ h => h) (Or.inl ⟨by rfl, ?_⟩) ?_; rotate_left; (intro w hw; clear hw; (try go_split_ands); go_simp; try (with_reducible rfl)); simp only [Act.put, List.setIfInBounds_toArray, List.set_cons_zero, List.set_cons_succ])
  (refine Walk.take (i := 6) (oi := { dst := some 42, op := Op.move (Operand.tmp 3), type := 3, pos := "ref.go:146", after := #[], guard := none }) (v := ?_) rfl (by kernel_rfl) (by kernel_rfl) (by kernel_rfl) (by kernel_rfl) (fun _ _ _ h => h) (Or.inl ⟨by rfl, ?_⟩) ?_; rotate_left; (intro w hw; clear hw; (try go_split_ands); go_simp; try (with_reducible rfl)); simp only [Act.put, List.setIfInBounds_toArray, List.set_cons_zero, List.set_cons_succ])
  (refine Walk.take (i := 7) (oi := { dst := some 43, op := Op.move (Operand.tmp 14), type := 3, pos := "ref.go:146", after := #[], guard := none }) (v := ?_) rfl (by kernel_rfl) (by kernel_rfl) (by kernel_rfl) (by kernel_rfl) (fun _ _ _ h => h) (Or.inl ⟨by rfl, ?_⟩) ?_; rotate_left; (intro w hw; clear hw; (try go_split_ands); go_simp; try (with_reducible rfl)); simp only [Act.put, List.setIfInBounds_toArray, List.set_cons_zero, List.set_cons_succ])
  (refine Walk.take (i := 8) (oi := { dst := some 44, op := Op.binOp BinOp.quo 3 (Operand.tmp 42) (Operand.tmp 43) 3, type := 3, pos := "ref.go:146", after := #[{ on := 6, ground := Ground.data }, { on := 7, ground := Ground.data }], guard := none }) (v := ?_) rfl (by kernel_rfl) (by kernel_rfl) (by kernel_rfl) (by kernel_rfl) (fun _ _ _ h => h) (Or.inl ⟨by rfl, ?_⟩) ?_; rotate_left; (intro w hw; clear hw; (try go_split_ands); go_simp; try (with_reducible rfl)); simp only [Act.put, List.setIfInBounds_toArray, List.set_cons_zero, List.set_cons_succ])
  (refine Walk.take (i := 9) (oi := { dst := some 45, op := Op.binOp BinOp.add 3 (Operand.tmp 41) (Operand.tmp 44) 3, type := 3, pos := "ref.go:146", after := #[{ on := 5, ground := Ground.data }, { on := 8, ground := Ground.data }], guard := none }) (v := ?_) rfl (by kernel_rfl) (by kernel_rfl) (by kernel_rfl) (by kernel_rfl) (fun _ _ _ h => h) (Or.inl ⟨by rfl, ?_⟩) ?_; rotate_left; (intro w hw; clear hw; (try go_split_ands); go_simp; try (with_reducible rfl)); simp only [Act.put, List.setIfInBounds_toArray, List.set_cons_zero, List.set_cons_succ])
  (refine Walk.take (i := 10) (oi := { dst := some 46, op := Op.indexAddr 29 (Operand.tmp 36) (Operand.tmp 45), type := 0, pos := "ref.go:146", after := #[{ on := 0, ground := Ground.data }, { on := 9, ground := Ground.data }], guard := none }) (v := ?_) rfl (by kernel_rfl) (by kernel_rfl) (by kernel_rfl) (by kernel_rfl) (fun _ _ _ h => h) (Or.inl ⟨by rfl, ?_⟩) ?_; rotate_left; (intro w hw; clear hw; (try go_split_ands); go_simp; try (with_reducible rfl)); simp only [Act.put, List.setIfInBounds_toArray, List.set_cons_zero, List.set_cons_succ])
  (refine Walk.take (i := 11) (oi := { dst := some 47, op := Op.load 51 (Operand.tmp 46), type := 51, pos := "ref.go:146", after := #[{ on := 10, ground := Ground.data }], guard := none }) (v := ?_) rfl (by kernel_rfl) (by kernel_rfl) (by kernel_rfl) (by kernel_rfl) (fun _ _ _ h => h) (Or.inl ⟨by rfl, ?_⟩) ?_; rotate_left; (intro w hw; have hS1 := hw.1 (by kernel_rfl); clear hw; (try dsimp only at hS1); (try go_split_ands); go_simp; try (with_reducible rfl)); simp only [Act.put, List.setIfInBounds_toArray, List.set_cons_zero, List.set_cons_succ])
  (refine Walk.take (i := 12) (oi := { dst := some 16, op := Op.assign (Operand.tmp 47), type := 51, pos := "ref.go:146", after := #[{ on := 11, ground := Ground.data }, { on := 0, ground := Ground.phase }, { on := 1, ground := Ground.phase }, { on := 2, ground := Ground.phase }, { on := 3, ground := Ground.phase }, { on := 4, ground := Ground.phase }, { on := 5, ground := Ground.phase }, { on := 6, ground := Ground.phase }, { on := 7, ground := Ground.phase }, { on := 8, ground := Ground.phase }, { on := 9, ground := Ground.phase }, { on := 10, ground := Ground.phase }, { on := 11, ground := Ground.phase }], guard := none }) (v := ?_) rfl (by kernel_rfl) (by kernel_rfl) (by kernel_rfl) (by kernel_rfl) (fun _ _ _ h => h) (Or.inl ⟨by rfl, ?_⟩) ?_; rotate_left; (intro w hw; clear hw; (try go_split_ands); go_simp; try (with_reducible rfl)); simp only [Act.put, List.setIfInBounds_toArray, List.set_cons_zero, List.set_cons_succ])
  refine Walk.done (by kernel_rfl) ?_ _
  go_wp2_with fail
  clear s1 s2 r1 r2 r1' r2' hcell
  replace kk := kk.drew
  replace gS := gS.but (But.refl Nowhere _).drew (not_nowhere _)
  revert kk gS
  generalize w3.drew = w4
  intro kk gS
  go_loopw [17, 18] (fun n i V => ∃ j : Nat, j ≤ p ∧ i = .int .i64 j ∧ n = .int .i64 (cntP m j : Int) ∧ But Nowhere w4 V) (fun _ i _ => p - (intOf i).toNat)
  case atStart => exact ⟨0, Nat.zero_le _, rfl, rfl, But.refl _ _⟩
  case round =>
    obtain ⟨j, hj, rfl, rfl, hb⟩ := hrel
    by_cases hlt : j < p
    · obtain ⟨A', B', C', D', P'⟩ := HPA.out j (by omega)
      have i0' : (0 : Int) ≤ (j : Int) := by omega
      have i1 : (j : Int) < (p : Int) := by omega
      have i2 : (j : Int) < (PN : Int) := by omega
      have hBV := gS.but hb (not_nowhere _)
      have kA := (hBV.at (j * 2)).trans P'.ca
      have kB := (hBV.at (j * 2 + 1)).trans P'.cb
      have hcul := P'.ul
      rw [HMU.out] at hcul
      obtain ⟨Q, hQ⟩ : ∃ Q : Nat, cntP m (j + 1) - cntP m j = Q := ⟨_, rfl⟩
      have hQ2 : cntP m j + Q = cntP m (j + 1) := by have := P'.le; omega
      have e1 : IntKind.i64.wrap ((A' : Int) * (B' : Int)) = (Q : Int) := by
        rw [wrap_i64_eq]
        have e := P'.n
        rw [hQ] at e
        have e2 : (A' : Int) * (B' : Int) = (Q : Int) := by rw [← e]; simp
        rw [e2]; exact w64 _ (by omega)
      have e2 : IntKind.i64.wrap ((cntP m j : Int) + (Q : Int)) = (cntP m (j + 1) : Int) := by
        rw [wrap_i64_eq, show (cntP m j : Int) + (Q : Int) = (cntP m (j + 1) : Int) by omega]; exact w64 _ (by omega)
      replace kA := (But.refl Nowhere wr).drew.keeps (not_nowhere _) kA
      replace kB := (But.refl Nowhere wr).drew.keeps (not_nowhere _) kB
      clear P' hcul hQ hQ2 hBV
      go_wp2_with fail
      refine wp_region_till (S := fun V => V.cell? ⟨SB, j * 2, none⟩ = some (.int .i64 (A' : Int)) ∧ V.cell? ⟨SB, j * 2 + 1, none⟩ = some (.int .i64 (B' : Int))) (R := fun _ => True) (k := 100) (m := 100) (by kernel_rfl) (⟨kA, kB⟩) trivial ?_
      (refine Walk.take (i := 0) (oi := { dst := some 53, op := Op.move (Operand.tmp 17), type := 3, pos := "ref.go:149", after := #[], guard := none }) (v := ?_) rfl (by kernel_rfl) (by kernel_rfl) (by kernel_rfl) (by kernel_rfl) (fun _ _ _ h => h) (Or.inl ⟨by rfl, ?_⟩) ?_; rotate_left; (intro w hw; clear hw; (try go_split_ands); go_simp; try (with_reducible rfl)); simp only [Act.put, List.setIfInBounds_toArray, List.set_cons_zero, List.set_cons_succ])
      (refine Walk.take (i := 1) (oi := { dst := some 54, op := Op.move (Operand.tmp 11), type := 47, pos := "ref.go:149", after := #[], guard := none }) (v := ?_) rfl (by kernel_rfl) (by kernel_rfl) (by kernel_rfl) (by kernel_rfl) (fun _ _ _ h => h) (Or.inl ⟨by rfl, ?_⟩) ?_; rotate_left; (intro w hw; clear hw; (try go_split_ands); go_simp; try (with_reducible rfl)); simp only [Act.put, List.setIfInBounds_toArray, List.set_cons_zero, List.set_cons_succ])
      (refine Walk.take (i := 2) (oi := { dst := some 55, op := Op.move (Operand.tmp 18), type := 3, pos := "ref.go:149", after := #[], guard := none }) (v := ?_) rfl (by kernel_rfl) (by kernel_rfl) (by kernel_rfl) (by kernel_rfl) (fun _ _ _ h => h) (Or.inl ⟨by rfl, ?_⟩) ?_; rotate_left; (intro w hw; clear hw; (try go_split_ands); go_simp; try (with_reducible rfl)); simp only [Act.put, List.setIfInBounds_toArray, List.set_cons_zero, List.set_cons_succ])
      (refine Walk.take (i := 3) (oi := { dst := some 56, op := Op.indexAddr 47 (Operand.tmp 54) (Operand.tmp 55), type := 0, pos := "ref.go:149", after := #[{ on := 1, ground := Ground.data }, { on := 2, ground := Ground.data }], guard := none }) (v := ?_) rfl (by kernel_rfl) (by kernel_rfl) (by kernel_rfl) (by kernel_rfl) (fun _ _ _ h => h) (Or.inl ⟨by rfl, ?_⟩) ?_; rotate_left; (intro w hw; clear hw; (try go_split_ands); go_simp; try (with_reducible rfl)); simp only [Act.put, List.setIfInBounds_toArray, List.set_cons_zero, List.set_cons_succ])
      (refine Walk.take (i := 4) (oi := { dst := some 57, op := Op.indexAddr 49 (Operand.tmp 56) (Operand.const (Value.int IntKind.i64 0)), type := 0, pos := "ref.go:149", after := #[{ on := 3, ground := Ground.data }], guard := none }) (v := ?_) rfl (by kernel_rfl) (by kernel_rfl) (by kernel_rfl) (by kernel_rfl) (fun _ _ _ h => h) (Or.inl ⟨by rfl, ?_⟩) ?_; rotate_left; (intro w hw; clear hw; (try go_split_ands); go_simp; try (with_reducible rfl)); simp only [Act.put, List.setIfInBounds_toArray, List.set_cons_zero, List.set_cons_succ])
      (refine Walk.take (i := 5) (oi := { dst := some 58, op := Op.load 3 (Operand.tmp 57), type := 3, pos := "ref.go:149", after := #[{ on := 4, ground := Ground.data }], guard := none }) (v := ?_) rfl (by kernel_rfl) (by kernel_rfl) (by kernel_rfl) (by kernel_rfl) (fun _ _ _ h => h) (Or.inl ⟨by rfl, ?_⟩) ?_; rotate_left; (intro w hw; have hS1 := hw.1 (by kernel_rfl); clear hw; (try dsimp only at hS1); (try go_split_ands); go_simp; try (with_reducible rfl)); simp only [Act.put, List.setIfInBounds_toArray, List.set_cons_zero, List.set_cons_succ])
      (refine Walk.take (i := 6) (oi := { dst := some 59, op := Op.move (Operand.tmp 11), type := 47, pos := "ref.go:149", after := #[], guard := none }) (v := ?_) rfl (by kernel_rfl) (by kernel_rfl) (by kernel_rfl) (by kernel_rfl) (fun _ _ _ h => h) (Or.inl ⟨by rfl, ?_⟩) ?_; rotate_left; (intro w hw; clear hw; (try go_split_ands); go_simp; try (with_reducible rfl)); simp only [Act.put, List.setIfInBounds_toArray, List.set_cons_zero, List.set_cons_succ])
      (refine Walk.take (i := 7) (oi := { dst := some 60, op := Op.move (Operand.tmp 18), type := 3, pos := "ref.go:149", after := #[], guard := none }) (v := ?_) rfl (by kernel_rfl) (by kernel_rfl) (by kernel_rfl) (by kernel_rfl) (fun _ _ _ h => h) (Or.inl ⟨by rfl, ?_⟩) ?_; rotate_left; (intro w hw; clear hw; (try go_split_ands); go_simp; try (with_reducible rfl)); simp only [Act.put, List.setIfInBounds_toArray, List.set_cons_zero, List.set_cons_succ])
      (refine Walk.take (i := 8) (oi := { dst := some 61, op := Op.indexAddr 47 (Operand.tmp 59) (Operand.tmp 60), type := 0, pos := "ref.go:149", after := #[{ on := 6, ground := Ground.data }, { on := 7, ground := Ground.data }], guard := none }) (v := ?_) rfl (by kernel_rfl) (by kernel_rfl) (by kernel_rfl) (by kernel_rfl) (fun _ _ _ h => h) (Or.inl ⟨by rfl, ?_⟩) ?_; rotate_left; (intro w hw; clear hw; (try go_split_ands); go_simp; try (with_reducible rfl)); simp only [Act.put, List.setIfInBounds_toArray, List.set_cons_zero, List.set_cons_succ])
      (refine Walk.take (i := 9) (oi := { dst := some 62, op := Op.indexAddr 49 (Operand.tmp 61) (Operand.const (Value.int IntKind.i64 1)), type := 0, pos := "ref.go:149", after := #[{ on := 8, ground := Ground.data }], guard := none }) (v := ?_) rfl (by kernel_rfl) (by kernel_rfl) (by kernel_rfl) (by kernel_rfl) (fun _ _ _ h => h) (Or.inl ⟨by rfl, ?_⟩) ?_; rotate_left; (intro w hw; clear hw; (try go_split_ands); go_simp; try (with_reducible rfl)); simp only [Act.put, List.setIfInBounds_toArray, List.set_cons_zero, List.set_cons_succ])
      (refine Walk.take (i := 10) (oi := { dst := some 63, op := Op.load 3 (Operand.tmp 62), type := 3, pos := "ref.go:149", after := #[{ on := 9, ground := Ground.data }], guard := none }) (v := ?_) rfl (by kernel_rfl) (by kernel_rfl) (by kernel_rfl) (by kernel_rfl) (fun _ _ _ h => h) (Or.inl ⟨by rfl, ?_⟩) ?_; rotate_left; (intro w hw; have hS1 := hw.1 (by kernel_rfl); clear hw; (try dsimp only at hS1); (try go_split_ands); go_simp; try (with_reducible rfl)); simp only [Act.put, List.setIfInBounds_toArray, List.set_cons_zero, List.set_cons_succ])
      (refine Walk.take (i := 11) (oi := { dst := some 64, op := Op.binOp BinOp.mul 3 (Operand.tmp 58) (Operand.tmp 63) 3, type := 3, pos := "ref.go:149", after := #[{ on := 5, ground := Ground.data }, { on := 10, ground := Ground.data }], guard := none }) (v := ?_) rfl (by kernel_rfl) (by kernel_rfl) (by kernel_rfl) (by kernel_rfl) (fun _ _ _ h => h) (Or.inl ⟨by rfl, ?_⟩) ?_; rotate_left; (intro w hw; clear hw; (try go_split_ands); go_simp; try (with_reducible rfl)); simp only [Act.put, List.setIfInBounds_toArray, List.set_cons_zero, List.set_cons_succ])
      (refine Walk.take (i := 12) (oi := { dst := some 65, op := Op.binOp BinOp.add 3 (Operand.tmp 53) (Operand.tmp 64) 3, type := 3, pos := "ref.go:149", after := #[{ on := 0, ground := Ground.data }, { on := 11, ground := Ground.data }], guard := none }) (v := ?_) rfl (by kernel_rfl) (by kernel_rfl) (by kernel_rfl) (by kernel_rfl) (fun _ _ _ h => h) (Or.inl ⟨by rfl, ?_⟩) ?_; rotate_left; (intro w hw; clear hw; (try go_split_ands); go_simp; try (with_reducible rfl)); simp only [Act.put, List.setIfInBounds_toArray, List.set_cons_zero, List.set_cons_succ])
      (refine Walk.take (i := 13) (oi := { dst := some 17, op := Op.assign (Operand.tmp 65), type := 3, pos := "ref.go:149", after := #[{ on := 12, ground := Ground.data }, { on := 0, ground := Ground.phase }, { on := 1, ground := Ground.phase }, { on := 2, ground := Ground.phase }, { on := 3, ground := Ground.phase }, { on := 4, ground := Ground.phase }, { on := 5, ground := Ground.phase }, { on := 6, ground := Ground.phase }, { on := 7, ground := Ground.phase }, { on := 8, ground := Ground.phase }, { on := 9, ground := Ground.phase }, { on := 10, ground := Ground.phase }, { on := 11, ground := Ground.phase }, { on := 12, ground := Ground.phase }], guard := none }) (v := ?_) rfl (by kernel_rfl) (by kernel_rfl) (by kernel_rfl) (by kernel_rfl) (fun _ _ _ h => h) (Or.inl ⟨by rfl, ?_⟩) ?_; rotate_left; (intro w hw; clear hw; (try go_split_ands); go_simp; try (with_reducible rfl)); simp only [Act.put, List.setIfInBounds_toArray, List.set_cons_zero, List.set_cons_succ])
      refine Walk.done (by kernel_rfl) ?_ _
      go_wp2_with fail
      go_roundw
      case rel => exact ⟨j + 1, by omega, by go_num, by first | rfl | rw [e2], hb.drew⟩
      case measure => simp [intOf]; omega
    · obtain rfl : j = p := by omega
      rw [HE.out]
      replace kk := kk.step hb
      replace gS := gS.but hb (not_nowhere _)
      obtain ⟨ca, cb, c0, c1⟩ := HCA.out
      have kA := (gS.at (j * 2)).trans ca
      have k0 := (gS.at 0).trans c0
      obtain ⟨s3, r3, r5, q1⟩ := HA10.out
      replace kA := (But.refl Nowhere wr).drew.keeps (not_nowhere _) kA
      replace k0 := (But.refl Nowhere wr).drew.keeps (not_nowhere _) k0
      clear hb
      go_wp2_with fail
      refine wp_region_till (S := fun V => V.cell? ⟨SB, j * 2, none⟩ = some (.int .i64 (A : Int)) ∧ V.cell? ⟨SB, 0, none⟩ = some (.int .i64 S0)) (R := fun _ => True) (k := 100) (m := 100) (by kernel_rfl) (⟨kA, k0⟩) trivial ?_
      (refine Walk.take (i := 0) (oi := { dst := some 66, op := Op.move (Operand.tmp 3), type := 3, pos := "ref.go:151", after := #[], guard := none }) (v := ?_) rfl (by kernel_rfl) (by kernel_rfl) (by kernel_rfl) (by kernel_rfl) (fun _ _ _ h => h) (Or.inl ⟨by rfl, ?_⟩) ?_; rotate_left; (intro w hw; clear hw; (try go_split_ands); go_simp; try (with_reducible rfl)); simp only [Act.put, List.setIfInBounds_toArray, List.set_cons_zero, List.set_cons_succ])
      (refine Walk.take (i := 1) (oi := { dst := some 67, op := Op.move (Operand.tmp 14), type := 3, pos := "ref.go:151", after := #[], guard := none }) (v := ?_) rfl (by kernel_rfl) (by kernel_rfl) (by kernel_rfl) (by kernel_rfl) (fun _ _ _ h => h) (Or.inl ⟨by rfl, ?_⟩) ?_; rotate_left; (intro w hw; clear hw; (try go_split_ands); go_simp; try (with_reducible rfl)); simp only [Act.put, List.setIfInBounds_toArray, List.set_cons_zero, List.set_cons_succ])
      (refine Walk.take (i := 2) (oi := { dst := some 68, op := Op.binOp BinOp.rem 3 (Operand.tmp 66) (Operand.tmp 67) 3, type := 3, pos := "ref.go:151", after := #[{ on := 0, ground := Ground.data }, { on := 1, ground := Ground.data }], guard := none }) (v := ?_) rfl (by kernel_rfl) (by kernel_rfl) (by kernel_rfl) (by kernel_rfl) (fun _ _ _ h => h) (Or.inl ⟨by rfl, ?_⟩) ?_; rotate_left; (intro w hw; clear hw; (try go_split_ands); go_simp; try (with_reducible rfl)); simp only [Act.put, List.setIfInBounds_toArray, List.set_cons_zero, List.set_cons_succ])
      (refine Walk.take (i := 3) (oi := { dst := some 69, op := Op.move (Operand.tmp 11), type := 47, pos := "ref.go:151", after := #[], guard := none }) (v := ?_) rfl (by kernel_rfl) (by kernel_rfl) (by kernel_rfl) (by kernel_rfl) (fun _ _ _ h => h) (Or.inl ⟨by rfl, ?_⟩) ?_; rotate_left; (intro w hw; clear hw; (try go_split_ands); go_simp; try (with_reducible rfl)); simp only [Act.put, List.setIfInBounds_toArray, List.set_cons_zero, List.set_cons_succ])
      (refine Walk.take (i := 4) (oi := { dst := some 70, op := Op.move (Operand.tmp 2), type := 3, pos := "ref.go:151", after := #[], guard := none }) (v := ?_) rfl (by kernel_rfl) (by kernel_rfl) (by kernel_rfl) (by kernel_rfl) (fun _ _ _ h => h) (Or.inl ⟨by rfl, ?_⟩) ?_; rotate_left; (intro w hw; clear hw; (try go_split_ands); go_simp; try (with_reducible rfl)); simp only [Act.put, List.setIfInBounds_toArray, List.set_cons_zero, List.set_cons_succ])
      (refine Walk.take (i := 5) (oi := { dst := some 71, op := Op.indexAddr 47 (Operand.tmp 69) (Operand.tmp 70), type := 0, pos := "ref.go:151", after := #[{ on := 3, ground := Ground.data }, { on := 4, ground := Ground.data }], guard := none }) (v := ?_) rfl (by kernel_rfl) (by kernel_rfl) (by kernel_rfl) (by kernel_rfl) (fun _ _ _ h => h) (Or.inl ⟨by rfl, ?_⟩) ?_; rotate_left; (intro w hw; clear hw; (try go_split_ands); go_simp; try (with_reducible rfl)); simp only [Act.put, List.setIfInBounds_toArray, List.set_cons_zero, List.set_cons_succ])
      (refine Walk.take (i := 6) (oi := { dst := some 72, op := Op.indexAddr 49 (Operand.tmp 71) (Operand.const (Value.int IntKind.i64 0)), type := 0, pos := "ref.go:151", after := #[{ on := 5, ground := Ground.data }], guard := none }) (v := ?_) rfl (by kernel_rfl) (by kernel_rfl) (by kernel_rfl) (by kernel_rfl) (fun _ _ _ h => h) (Or.inl ⟨by rfl, ?_⟩) ?_; rotate_left; (intro w hw; clear hw; (try go_split_ands); go_simp; try (with_reducible rfl)); simp only [Act.put, List.setIfInBounds_toArray, List.set_cons_zero, List.set_cons_succ])
      (refine Walk.take (i := 7) (oi := { dst := some 73, op := Op.load 3 (Operand.tmp 72), type := 3, pos := "ref.go:151", after := #[{ on := 6, ground := Ground.data }], guard := none }) (v := ?_) rfl (by kernel_rfl) (by kernel_rfl) (by kernel_rfl) (by kernel_rfl) (fun _ _ _ h => h) (Or.inl ⟨by rfl, ?_⟩) ?_; rotate_left; (intro w hw; have hS1 := hw.1 (by kernel_rfl); clear hw; (try dsimp only at hS1); (try go_split_ands); go_simp; try (with_reducible rfl)); simp only [Act.put, List.setIfInBounds_toArray, List.set_cons_zero, List.set_cons_succ])
      (refine Walk.take (i := 8) (oi := { dst := some 74, op := Op.binOp BinOp.mul 3 (Operand.tmp 68) (Operand.tmp 73) 3, type := 3, pos := "ref.go:151", after := #[{ on := 2, ground := Ground.data }, { on := 7, ground := Ground.data }], guard := none }) (v := ?_) rfl (by kernel_rfl) (by kernel_rfl) (by kernel_rfl) (by kernel_rfl) (fun _ _ _ h => h) (Or.inl ⟨by rfl, ?_⟩) ?_; rotate_left; (intro w hw; clear hw; (try go_split_ands); go_simp; try (with_reducible rfl)); simp only [Act.put, List.setIfInBounds_toArray, List.set_cons_zero, List.set_cons_succ])
      (refine Walk.take (i := 9) (oi := { dst := some 75, op := Op.move (Operand.tmp 11), type := 47, pos := "ref.go:151", after := #[], guard := none }) (v := ?_) rfl (by kernel_rfl) (by kernel_rfl) (by kernel_rfl) (by kernel_rfl) (fun _ _ _ h => h) (Or.inl ⟨by rfl, ?_⟩) ?_; rotate_left; (intro w hw; clear hw; (try go_split_ands); go_simp; try (with_reducible rfl)); simp only [Act.put, List.setIfInBounds_toArray, List.set_cons_zero, List.set_cons_succ])
      (refine Walk.take (i := 10) (oi := { dst := some 76, op := Op.indexAddr 47 (Operand.tmp 75) (Operand.const (Value.int IntKind.i64 0)), type := 0, pos := "ref.go:151", after := #[{ on := 9, ground := Ground.data }], guard := none }) (v := ?_) rfl (by kernel_rfl) (by kernel_rfl) (by kernel_rfl) (by kernel_rfl) (fun _ _ _ h => h) (Or.inl ⟨by rfl, ?_⟩) ?_; rotate_left; (intro w hw; clear hw; (try go_split_ands); go_simp; try (with_reducible rfl)); simp only [Act.put, List.setIfInBounds_toArray, List.set_cons_zero, List.set_cons_succ])
      (refine Walk.take (i := 11) (oi := { dst := some 77, op := Op.indexAddr 49 (Operand.tmp 76) (Operand.const (Value.int IntKind.i64 0)), type := 0, pos := "ref.go:151", after := #[{ on := 10, ground := Ground.data }], guard := none }) (v := ?_) rfl (by kernel_rfl) (by kernel_rfl) (by kernel_rfl) (by kernel_rfl) (fun _ _ _ h => h) (Or.inl ⟨by rfl, ?_⟩) ?_; rotate_left; (intro w hw; clear hw; (try go_split_ands); go_simp; try (with_reducible rfl)); simp only [Act.put, List.setIfInBounds_toArray, List.set_cons_zero, List.set_cons_succ])
      (refine Walk.take (i := 12) (oi := { dst := some 78, op := Op.load 3 (Operand.tmp 77), type := 3, pos := "ref.go:151", after := #[{ on := 11, ground := Ground.data }], guard := none }) (v := ?_) rfl (by kernel_rfl) (by kernel_rfl) (by kernel_rfl) (by kernel_rfl) (fun _ _ _ h => h) (Or.inl ⟨by rfl, ?_⟩) ?_; rotate_left; (intro w hw; have hS1 := hw.1 (by kernel_rfl); clear hw; (try dsimp only at hS1); (try go_split_ands); go_simp; try (with_reducible rfl)); simp only [Act.put, List.setIfInBounds_toArray, List.set_cons_zero, List.set_cons_succ])
      (refine Walk.take (i := 13) (oi := { dst := some 79, op := Op.binOp BinOp.quo 3 (Operand.tmp 74) (Operand.tmp 78) 3, type := 3, pos := "ref.go:151", after := #[{ on := 8, ground := Ground.data }, { on := 12, ground := Ground.data }], guard := none }) (v := ?_) rfl (by kernel_rfl) (by kernel_rfl) (by kernel_rfl) (by kernel_rfl) (fun _ _ _ h => h) (Or.inl ⟨by rfl, ?_⟩) ?_; rotate_left; (intro w hw; clear hw; (try go_split_ands); go_simp; try (with_reducible rfl)); simp only [Act.put, List.setIfInBounds_toArray, List.set_cons_zero, List.set_cons_succ])
      (refine Walk.take (i := 14) (oi := { dst := some 19, op := Op.assign (Operand.tmp 79), type := 3, pos := "ref.go:151", after := #[{ on := 13, ground := Ground.data }, { on := 0, ground := Ground.phase }, { on := 1, ground := Ground.phase }, { on := 2, ground := Ground.phase }, { on := 3, ground := Ground.phase }, { on := 4, ground := Ground.phase }, { on := 5, ground := Ground.phase }, { on := 6, ground := Ground.phase }, { on := 7, ground := Ground.phase }, { on := 8, ground := Ground.phase }, { on := 9, ground := Ground.phase }, { on := 10, ground := Ground.phase }, { on := 11, ground := Ground.phase }, { on := 12, ground := Ground.phase }, { on := 13, ground := Ground.phase }], guard := none }) (v := ?_) rfl (by kernel_rfl) (by kernel_rfl) (by kernel_rfl) (by kernel_rfl) (fun _ _ _ h => h) (Or.inl ⟨by rfl, ?_⟩) ?_; rotate_left; (intro w hw; clear hw; (try go_split_ands); go_simp; try (with_reducible rfl)); simp only [Act.put, List.setIfInBounds_toArray, List.set_cons_zero, List.set_cons_succ])
      refine Walk.done (by kernel_rfl) ?_ _
      go_wp2_with fail
      clear s3 r3 r5 q1 kA k0
      replace kk := kk.drew
      replace gS := gS.but (But.refl Nowhere _).drew (not_nowhere _)
      revert kk gS
      generalize wr.drew = w5
      intro kk gS
      have kB := (But.refl Nowhere w5).drew.keeps (not_nowhere _) ((gS.at (j * 2 + 1)).trans cb)
      have k1 := (But.refl Nowhere w5).drew.keeps (not_nowhere _) ((gS.at 1).trans c1)
      obtain ⟨s4, r4, r6, q2⟩ := HA11.out
      refine wp_region_till (S := fun V => V.cell? ⟨SB, j * 2 + 1, none⟩ = some (.int .i64 (B : Int)) ∧ V.cell? ⟨SB, 1, none⟩ = some (.int .i64 S1)) (R := fun _ => True) (k := 100) (m := 100) (by kernel_rfl) (⟨kB, k1⟩) trivial ?_
      (refine Walk.take (i := 0) (oi := { dst := some 80, op := Op.move (Operand.tmp 4), type := 3, pos := "ref.go:152", after := #[], guard := none }) (v := ?_) rfl (by kernel_rfl) (by kernel_rfl) (by kernel_rfl) (by kernel_rfl) (fun _ _ _ h => h) (Or.inl ⟨by rfl, ?_⟩) ?_; rotate_left; (intro w hw; clear hw; (try go_split_ands); go_simp; try (with_reducible rfl)); simp only [Act.put, List.setIfInBounds_toArray, List.set_cons_zero, List.set_cons_succ])
      (refine Walk.take (i := 1) (oi := { dst := some 81, op := Op.move (Operand.tmp 15), type := 3, pos := "ref.go:152", after := #[], guard := none }) (v := ?_) rfl (by kernel_rfl) (by kernel_rfl) (by kernel_rfl) (by kernel_rfl) (fun _ _ _ h => h) (Or.inl ⟨by rfl, ?_⟩) ?_; rotate_left; (intro w hw; clear hw; (try go_split_ands); go_simp; try (with_reducible rfl)); simp only [Act.put, List.setIfInBounds_toArray, List.set_cons_zero, List.set_cons_succ])
      (refine Walk.take (i := 2) (oi := { dst := some 82, op := Op.binOp BinOp.rem 3 (Operand.tmp 80) (Operand.tmp 81) 3, type := 3, pos := "ref.go:152", after := #[{ on := 0, ground := Ground.data }, { on := 1, ground := Ground.data }], guard := none }) (v := ?_) rfl (by kernel_rfl) (by kernel_rfl) (by kernel_rfl) (by kernel_rfl) (fun _ _ _ h => h) (Or.inl ⟨by rfl, ?_⟩) ?_; rotate_left; (intro w hw; clear hw; (try go_split_ands); go_simp; try (with_reducible rfl)); simp only [Act.put, List.setIfInBounds_toArray, List.set_cons_zero, List.set_cons_succ])
      (refine Walk.take (i := 3) (oi := { dst := some 83, op := Op.move (Operand.tmp 11), type := 47, pos := "ref.go:152", after := #[], guard := none }) (v := ?_) rfl (by kernel_rfl) (by kernel_rfl) (by kernel_rfl) (by kernel_rfl) (fun _ _ _ h => h) (Or.inl ⟨by rfl, ?_⟩) ?_; rotate_left; (intro w hw; clear hw; (try go_split_ands); go_simp; try (with_reducible rfl)); simp only [Act.put, List.setIfInBounds_toArray, List.set_cons_zero, List.set_cons_succ])
      (refine Walk.take (i := 4) (oi := { dst := some 84, op := Op.move (Operand.tmp 2), type := 3, pos := "ref.go:152", after := #[], guard := none }) (v := ?_) rfl (by kernel_rfl) (by kernel_rfl) (by kernel_rfl) (by kernel_rfl) (fun _ _ _ h => h) (Or.inl ⟨by rfl, ?_⟩) ?_; rotate_left; (intro w hw; clear hw; (try go_split_ands); go_simp; try (with_reducible rfl)); simp only [Act.put, List.setIfInBounds_toArray, List.set_cons_zero, List.set_cons_succ])
      (refine Walk.take (i := 5) (oi := { dst := some 85, op := Op.indexAddr 47 (Operand.tmp 83) (Operand.tmp 84), type := 0, pos := "ref.go:152", after := #[{ on := 3, ground := Ground.data }, { on := 4, ground := Ground.data }], guard := none }) (v := ?_) rfl (by kernel_rfl) (by kernel_rfl) (by kernel_rfl) (by kernel_rfl) (fun _ _ _ h => h) (Or.inl ⟨by rfl, ?_⟩) ?_; rotate_left; (intro w hw; clear hw; (try go_split_ands); go_simp; try (with_reducible rfl)); simp only [Act.put, List.setIfInBounds_toArray, List.set_cons_zero, List.set_cons_succ])
      (refine Walk.take (i := 6) (oi := { dst := some 86, op := Op.indexAddr 49 (Operand.tmp 85) (Operand.const (Value.int IntKind.i64 1)), type := 0, pos := "ref.go:152", after := #[{ on := 5, ground := Ground.data }], guard := none }) (v := ?_) rfl (by kernel_rfl) (by kernel_rfl) (by kernel_rfl) (by kernel_rfl) (fun _ _ _ h => h) (Or.inl ⟨by rfl, ?_⟩) ?_; rotate_left; (intro w hw; clear hw; (try go_split_ands); go_simp; try (with_reducible rfl)); simp only [Act.put, List.setIfInBounds_toArray, List.set_cons_zero, List.set_cons_succ])
      (refine Walk.take (i := 7) (oi := { dst := some 87, op := Op.load 3 (Operand.tmp 86), type := 3, pos := "ref.go:152", after := #[{ on := 6, ground := Ground.data }], guard := none }) (v := ?_) rfl (by kernel_rfl) (by kernel_rfl) (by kernel_rfl) (by kernel_rfl) (fun _ _ _ h => h) (Or.inl ⟨by rfl, ?_⟩) ?_; rotate_left; (intro w hw; have hS1 := hw.1 (by kernel_rfl); clear hw; (try dsimp only at hS1); (try go_split_ands); go_simp; try (with_reducible rfl)); simp only [Act.put, List.setIfInBounds_toArray, List.set_cons_zero, List.set_cons_succ])
      (refine Walk.take (i := 8) (oi := { dst := some 88, op := Op.binOp BinOp.mul 3 (Operand.tmp 82) (Operand.tmp 87) 3, type := 3, pos := "ref.go:152", after := #[{ on := 2, ground := Ground.data }, { on := 7, ground := Ground.data }], guard := none }) (v := ?_) rfl (by kernel_rfl) (by kernel_rfl) (by kernel_rfl) (by kernel_rfl) (fun _ _ _ h => h) (Or.inl ⟨by rfl, ?_⟩) ?_; rotate_left; (intro w hw; clear hw; (try go_split_ands); go_simp; try (with_reducible rfl)); simp only [Act.put, List.setIfInBounds_toArray, List.set_cons_zero, List.set_cons_succ])
      (refine Walk.take (i := 9) (oi := { dst := some 89, op := Op.move (Operand.tmp 11), type := 47, pos := "ref.go:152", after := #[], guard := none }) (v := ?_) rfl (by kernel_rfl) (by kernel_rfl) (by kernel_rfl) (by kernel_rfl) (fun _ _ _ h => h) (Or.inl ⟨by rfl, ?_⟩) ?_; rotate_left; (intro w hw; clear hw; (try go_split_ands); go_simp; try (with_reducible rfl)); simp only [Act.put, List.setIfInBounds_toArray, List.set_cons_zero, List.set_cons_succ])
      (refine Walk.take (i := 10) (oi := { dst := some 90, op := Op.indexAddr 47 (Operand.tmp 89) (Operand.const (Value.int IntKind.i64 0)), type := 0, pos := "ref.go:152", after := #[{ on := 9, ground := Ground.data }], guard := none }) (v := ?_) rfl (by kernel_rfl) (by kernel_rfl) (by kernel_rfl) (by kernel_rfl) (fun _ _ _ h => h) (Or.inl ⟨by rfl, ?_⟩) ?_; rotate_left; (intro w hw; clear hw; (try go_split_ands); go_simp; try (with_reducible rfl)); simp only [Act.put, List.setIfInBounds_toArray, List.set_cons_zero, List.set_cons_succ])
      (refine Walk.take (i := 11) (oi := { dst := some 91, op := Op.indexAddr 49 (Operand.tmp 90) (Operand.const (Value.int IntKind.i64 1)), type := 0, pos := "ref.go:152", after := #[{ on := 10, ground := Ground.data }], guard := none }) (v := ?_) rfl (by kernel_rfl) (by kernel_rfl) (by kernel_rfl) (by kernel_rfl) (fun _ _ _ h => h) (Or.inl ⟨by rfl, ?_⟩) ?_; rotate_left; (intro w hw; clear hw; (try go_split_ands); go_simp; try (with_reducible rfl)); simp only [Act.put, List.setIfInBounds_toArray, List.set_cons_zero, List.set_cons_succ])
      (refine Walk.take (i := 12) (oi := { dst := some 92, op := Op.load 3 (Operand.tmp 91), type := 3, pos := "ref.go:152", after := #[{ on := 11, ground := Ground.data }], guard := none }) (v := ?_) rfl (by kernel_rfl) (by kernel_rfl) (by kernel_rfl) (by kernel_rfl) (fun _ _ _ h => h) (Or.inl ⟨by rfl, ?_⟩) ?_; rotate_left; (intro w hw; have hS1 := hw.1 (by kernel_rfl); clear hw; (try dsimp only at hS1); (try go_split_ands); go_simp; try (with_reducible rfl)); simp only [Act.put, List.setIfInBounds_toArray, List.set_cons_zero, List.set_cons_succ])
      (refine Walk.take (i := 13) (oi := { dst := some 93, op := Op.binOp BinOp.quo 3 (Operand.tmp 88) (Operand.tmp 92) 3, type := 3, pos := "ref.go:152", after := #[{ on := 8, ground := Ground.data }, { on := 12, ground := Ground.data }], guard := none }) (v := ?_) rfl (by kernel_rfl) (by kernel_rfl) (by kernel_rfl) (by kernel_rfl) (fun _ _ _ h => h) (Or.inl ⟨by rfl, ?_⟩) ?_; rotate_left; (intro w hw; clear hw; (try go_split_ands); go_simp; try (with_reducible rfl)); simp only [Act.put, List.setIfInBounds_toArray, List.set_cons_zero, List.set_cons_succ])
      (refine Walk.take (i := 14) (oi := { dst := some 20, op := Op.assign (Operand.tmp 93), type := 3, pos := "ref.go:152", after := #[{ on := 13, ground := Ground.data }, { on := 0, ground := Ground.phase }, { on := 1, ground := Ground.phase }, { on := 2, ground := Ground.phase }, { on := 3, ground := Ground.phase }, { on := 4, ground := Ground.phase }, { on := 5, ground := Ground.phase }, { on := 6, ground := Ground.phase }, { on := 7, ground := Ground.phase }, { on := 8, ground := Ground.phase }, { on := 9, ground := Ground.phase }, { on := 10, ground := Ground.phase }, { on := 11, ground := Ground.phase }, { on := 12, ground := Ground.phase }, { on := 13, ground := Ground.phase }], guard := none }) (v := ?_) rfl (by kernel_rfl) (by kernel_rfl) (by kernel_rfl) (by kernel_rfl) (fun _ _ _ h => h) (Or.inl ⟨by rfl, ?_⟩) ?_; rotate_left; (intro w hw; clear hw; (try go_split_ands); go_simp; try (with_reducible rfl)); simp only [Act.put, List.setIfInBounds_toArray, List.set_cons_zero, List.set_cons_succ])
      refine Walk.done (by kernel_rfl) ?_ _
      clear s4 r4 r6 q2 kB k1
      replace kk := kk.drew
      replace gS := gS.but (But.refl Nowhere _).drew (not_nowhere _)
      revert kk gS
      generalize w5.drew = w6
      intro kk gS
      have kA := (gS.at (j * 2)).trans ca
      obtain ⟨r7, q4, r11, r12, r8, q3, r13⟩ := HA12.out
      have hr := HR2.out _ kk.but
      have hiA : (Try.prog.info? 53).map (·.size) = some (tab .i64 64 fb).length := by rw [tab_length]; kernel_rfl
      have hiB : (Try.prog.info? 53).map (·.size) = some (tab .i64 64 fb).toArray.size := by rw [List.size_toArray, tab_length]; kernel_rfl
      have C1 := (Cells.new w6 53 (Value.int .i64 0 :: Value.int .i64 0 :: Value.int .i64 0 :: Value.int .i64 0 :: Value.int .i64 0 :: Value.int .i64 0 :: Value.int .i64 0 :: Value.int .i64 0 :: Value.int .i64 0 :: Value.int .i64 0 :: Value.int .i64 0 :: Value.int .i64 0 :: Value.int .i64 0 :: Value.int .i64 0 :: Value.int .i64 0 :: Value.int .i64 0 :: Value.int .i64 0 :: Value.int .i64 0 :: Value.int .i64 0 :: Value.int .i64 0 :: Value.int .i64 0 :: Value.int .i64 0 :: Value.int .i64 0 :: Value.int .i64 0 :: Value.int .i64 0 :: Value.int .i64 0 :: Value.int .i64 0 :: Value.int .i64 0 :: Value.int .i64 0 :: Value.int .i64 0 :: Value.int .i64 0 :: Value.int .i64 0 :: Value.int .i64 0 :: Value.int .i64 0 :: Value.int .i64 0 :: Value.int .i64 0 :: Value.int .i64 0 :: Value.int .i64 0 :: Value.int .i64 0 :: Value.int .i64 0 :: Value.int .i64 0 :: Value.int .i64 0 :: Value.int .i64 0 :: Value.int .i64 0 :: Value.int .i64 0 :: Value.int .i64 0 :: Value.int .i64 0 :: Value.int .i64 0 :: Value.int .i64 0 :: Value.int .i64 0 :: Value.int .i64 0 :: Value.int .i64 0 :: Value.int .i64 0 :: Value.int .i64 0 :: Value.int .i64 0 :: Value.int .i64 0 :: Value.int .i64 0 :: Value.int .i64 0 :: Value.int .i64 0 :: Value.int .i64 0 :: Value.int .i64 0 :: Value.int .i64 0 :: Value.int .i64 0 :: Value.int .i64 0 :: [])).of_eqL zl
      have HTH : Hid _ := C1.there 0 (tab .i64 64 fb).toArray.size (by rw [List.size_toArray, tab_length, tab_length]; omega)
      have C2 := C1.layAll fb
      have B2 : But Nowhere w6 ((w6.alloc (.cells (Value.int .i64 0 :: Value.int .i64 0 :: Value.int .i64 0 :: Value.int .i64 0 :: Value.int .i64 0 :: Value.int .i64 0 :: Value.int .i64 0 :: Value.int .i64 0 :: Value.int .i64 0 :: Value.int .i64 0 :: Value.int .i64 0 :: Value.int .i64 0 :: Value.int .i64 0 :: Value.int .i64 0 :: Value.int .i64 0 :: Value.int .i64 0 :: Value.int .i64 0 :: Value.int .i64 0 :: Value.int .i64 0 :: Value.int .i64 0 :: Value.int .i64 0 :: Value.int .i64 0 :: Value.int .i64 0 :: Value.int .i64 0 :: Value.int .i64 0 :: Value.int .i64 0 :: Value.int .i64 0 :: Value.int .i64 0 :: Value.int .i64 0 :: Value.int .i64 0 :: Value.int .i64 0 :: Value.int .i64 0 :: Value.int .i64 0 :: Value.int .i64 0 :: Value.int .i64 0 :: Value.int .i64 0 :: Value.int .i64 0 :: Value.int .i64 0 :: Value.int .i64 0 :: Value.int .i64 0 :: Value.int .i64 0 :: Value.int .i64 0 :: Value.int .i64 0 :: Value.int .i64 0 :: Value.int .i64 0 :: Value.int .i64 0 :: Value.int .i64 0 :: Value.int .i64 0 :: Value.int .i64 0 :: Value.int .i64 0 :: Value.int .i64 0 :: Value.int .i64 0 :: Value.int .i64 0 :: Value.int .i64 0 :: Value.int .i64 0 :: Value.int .i64 0 :: Value.int .i64 0 :: Value.int .i64 0 :: Value.int .i64 0 :: Value.int .i64 0 :: Value.int .i64 0 :: Value.int .i64 0 :: Value.int .i64 0 :: Value.int .i64 0 :: []).toArray 53)).setCells w6.heap.size 0 (tab .i64 64 fb)) := But.setCells _ ((But.refl _ _).alloc _) (fun q => by omega) 0
      have HC : Hid _ := And.intro (C2.cell k hk64) B2
      clear C1 C2 B2 zl gS
      obtain ⟨r9, r14, r10, r15⟩ := HA13.out
      go_wp2_with (first | (refine wpList_load_mid rfl 53 (.tmp 108) rfl gm (om + Bk * 64) rfl (tab .i64 64 fb) _ ?_ hu rfl hiA ?_; exact hr) | (refine wpList_store_mid rfl 53 (.tmp 21) (.tmp 109) rfl w6.heap.size 0 (tab .i64 64 fb).toArray rfl rfl ?_ hiB (tab_all _ _ _) ?_; exact HTH.out; (have hc9 := HC.out.1; have b9 := HC.out.2; clear HC HTH; revert hc9 b9; generalize (w6.alloc (.cells (Value.int .i64 0 :: Value.int .i64 0 :: Value.int .i64 0 :: Value.int .i64 0 :: Value.int .i64 0 :: Value.int .i64 0 :: Value.int .i64 0 :: Value.int .i64 0 :: Value.int .i64 0 :: Value.int .i64 0 :: Value.int .i64 0 :: Value.int .i64 0 :: Value.int .i64 0 :: Value.int .i64 0 :: Value.int .i64 0 :: Value.int .i64 0 :: Value.int .i64 0 :: Value.int .i64 0 :: Value.int .i64 0 :: Value.int .i64 0 :: Value.int .i64 0 :: Value.int .i64 0 :: Value.int .i64 0 :: Value.int .i64 0 :: Value.int .i64 0 :: Value.int .i64 0 :: Value.int .i64 0 :: Value.int .i64 0 :: Value.int .i64 0 :: Value.int .i64 0 :: Value.int .i64 0 :: Value.int .i64 0 :: Value.int .i64 0 :: Value.int .i64 0 :: Value.int .i64 0 :: Value.int .i64 0 :: Value.int .i64 0 :: Value.int .i64 0 :: Value.int .i64 0 :: Value.int .i64 0 :: Value.int .i64 0 :: Value.int .i64 0 :: Value.int .i64 0 :: Value.int .i64 0 :: Value.int .i64 0 :: Value.int .i64 0 :: Value.int .i64 0 :: Value.int .i64 0 :: Value.int .i64 0 :: Value.int .i64 0 :: Value.int .i64 0 :: Value.int .i64 0 :: Value.int .i64 0 :: Value.int .i64 0 :: Value.int .i64 0 :: Value.int .i64 0 :: Value.int .i64 0 :: Value.int .i64 0 :: Value.int .i64 0 :: Value.int .i64 0 :: Value.int .i64 0 :: Value.int .i64 0 :: Value.int .i64 0 :: Value.int .i64 0 :: []).toArray 53)).setCells w6.heap.size 0 (tab .i64 64 fb) = w7; intro hc9 b9; rw [hfz] at hc9)))
      refine (refClip_any _ _ _ _).mono ?_
      rintro ee w8 ⟨rfl, rfl⟩
      have HB : Hid _ := kk.but.trans b9
      clear kk b9 hc9 kA r7 q4 r11 r12 r8 q3 r13 r9 r14 r10 r15 hr
      go_wp2_with fail
      go_ret
      exact ⟨by rw [HRES.out]; rfl, HB.out⟩

end Go.Proofs.Ytppbnmlgilgnnaa

/- An image that goes on beyond its ends as its last pixels: its SAMPLES are the same. -/
namespace Go.Proofs.Ytppbnmlgilgnnaa
open Go.ChangeShapes Go.WideShapes Go.ChangeAt Go.RowKit

/-- The pixel within, of pixel r of an image that is W' wide. -/
def edgeAt (W H W' : Nat) (r : Nat) : Nat := min (r / W') (H - 1) * W + min (r % W') (W - 1)

/-- The words of the greater image. -/
def edgeF (W H W' P : Nat) (l : List Int) (j : Nat) : Int := gn l (edgeAt W H W' (j / P) * P + j % P)

theorem edgeAt_lt (W H W' r : Nat) (h1 : 1 ≤ W) (h2 : 1 ≤ H) : edgeAt W H W' r < W * H := by
  unfold edgeAt
  have a : min (r / W') (H - 1) * W ≤ (H - 1) * W := Nat.mul_le_mul_right W (by omega)
  have b : (H - 1) * W + W = W * H := by
    rw [Nat.mul_comm W H, ← Nat.succ_mul]
    congr 1
    omega
  omega

theorem parts_same (m : Int) (l l' : List Int) (q q' part : Nat) (hp : part < partsN m) (h : (q + 1) * partsN m ≤ l.length) (h' : (q' + 1) * partsN m ≤ l'.length)
    (hs : ∀ c, c < partsN m → gn l' (q' * partsN m + c) = gn l (q * partsN m + c)) : gat (partsL m l') ((q' * partsN m + part : Nat) : Int) = gat (partsL m l) ((q * partsN m + part : Nat) : Int) := by
  unfold gat
  rw [Int.toNat_natCast, Int.toNat_natCast]
  by_cases h1 : m = 1
  · have e : ∀ l, partsL m l = l := fun l => by unfold partsL; rw [if_pos h1]
    rw [e, e]
    exact hs part hp
  · have e : ∀ l, partsL m l = (List.range l.length).map (turnA luma1 luma2 luma3 l) := fun l => by unfold partsL; rw [if_neg h1]
    have h3 : partsN m = 3 := by unfold partsN; rw [if_neg h1]
    rw [h3] at hp h h' hs ⊢
    rw [e, e, List.getD_eq_getElem?_getD, List.getElem?_map, List.getElem?_range (by omega), Option.map_some, Option.getD_some, List.getD_eq_getElem?_getD, List.getElem?_map, List.getElem?_range (by omega), Option.map_some, Option.getD_some]
    unfold turnA
    have z0 : (q * 3 + part) / 3 * 3 = q * 3 := by omega
    have z1 : (q * 3 + part) % 3 = part := by omega
    have y0 : (q' * 3 + part) / 3 * 3 = q' * 3 := by omega
    have y1 : (q' * 3 + part) % 3 = part := by omega
    rw [z0, z1, y0, y1]
    have a0 := hs 0 (by omega)
    have a1 := hs 1 (by omega)
    have a2 := hs 2 (by omega)
    rw [Nat.add_zero, Nat.add_zero] at a0
    rw [a0, a1, a2]

theorem edgeF_in (W H W' P : Nat) (l : List Int) (h : ∀ x ∈ l, 0 ≤ x ∧ x ≤ 255) (j : Nat) : 0 ≤ edgeF W H W' P l j ∧ edgeF W H W' P l j ≤ 255 := by
  unfold edgeF gn
  rw [List.getD_eq_getElem?_getD]
  cases e : l[edgeAt W H W' (j / P) * P + j % P]? with
  | none => simp
  | some x => exact h x (List.mem_of_getElem? e)

/-- Both sides of the greater image are whole MCUs, and its grid is the same. -/
theorem grid_edge {W H m : Int} (f : Fit W H m) (hW : W ≤ 40) (hH : H ≤ 24) :
    Fit (gridW W H m * sideW m) (gridH W H m * sideH m) m ∧ gridW (gridW W H m * sideW m) (gridH W H m * sideH m) m = gridW W H m ∧ gridH (gridW W H m * sideW m) (gridH W H m * sideH m) m = gridH W H m ∧
      W ≤ gridW W H m * sideW m ∧ gridW W H m * sideW m ≤ 56 ∧ H ≤ gridH W H m * sideH m ∧ gridH W H m * sideH m ≤ 40 := by
  have sd := side_fit f.m
  have a := ceil_in W (sideW m) f.w.1 f.w.2 sd.1 sd.2.1
  have b := ceil_in H (sideH m) f.h.1 f.h.2 sd.2.2.1 sd.2.2.2
  obtain ⟨e1, e2, g1, g2, g3, g4⟩ := f.grid
  rw [← e1] at a
  rw [← e2] at b
  obtain ⟨-, -, -, a1, a2⟩ := a
  obtain ⟨-, -, -, b1, b2⟩ := b
  have hw := f.w
  have hh := f.h
  obtain ⟨A, hA⟩ : ∃ A, gridW W H m = A := ⟨_, rfl⟩
  obtain ⟨B, hB⟩ : ∃ B, gridH W H m = B := ⟨_, rfl⟩
  obtain ⟨X, hX⟩ : ∃ X, sideW m = X := ⟨_, rfl⟩
  obtain ⟨Y, hY⟩ : ∃ Y, sideH m = Y := ⟨_, rfl⟩
  rw [hA, hX] at a1 a2
  rw [hB, hY] at b1 b2
  rw [hA] at g1 g2
  rw [hB] at g3 g4
  rw [hX, hY] at sd
  rw [hA, hB, hX, hY]
  rw [Int.sub_mul, Int.one_mul] at a2 b2
  obtain ⟨U, hU⟩ : ∃ U, A * X = U := ⟨_, rfl⟩
  obtain ⟨V, hV⟩ : ∃ V, B * Y = V := ⟨_, rfl⟩
  rw [hU] at a1 a2
  rw [hV] at b1 b2
  have hUV : U * V ≤ 56 * 40 := Int.mul_le_mul (by omega) (by omega) (by omega) (by omega)
  have f' : Fit U V m := ⟨f.m, by omega, by omega, by omega⟩
  rw [hU, hV]
  refine ⟨f', ?_, ?_, by omega, by omega, by omega, by omega⟩
  · rw [f'.grid.1, hX, (ceil_in U X (by omega) (by omega) (by omega) (by omega)).1, ← hU, show A * X + X - 1 = (X - 1) + A * X by omega, Int.add_mul_ediv_right _ _ (by omega), Int.ediv_eq_zero_of_lt (by omega) (by omega)]
    omega
  · rw [f'.grid.2.1, hY, (ceil_in V Y (by omega) (by omega) (by omega) (by omega)).1, ← hV, show B * Y + Y - 1 = (Y - 1) + B * Y by omega, Int.add_mul_ediv_right _ _ (by omega), Int.ediv_eq_zero_of_lt (by omega) (by omega)]
    omega

theorem sample_same (W H W' H' : Int) (pl pl' : List Int) (s : Spot) (k : Int) (h : ∀ n, gat pl' (idxF W' H' s (s.x + k % 8 * s.wide) (s.y + k / 8 * s.high) n) = gat pl (idxF W H s (s.x + k % 8 * s.wide) (s.y + k / 8 * s.high) n)) : sampleF W' H' pl' s k = sampleF W H pl s k := by
  unfold sampleF
  rw [funext h]

theorem split_edge {W H W' H' m : Int} (f : Fit W H m) (f' : Fit W' H' m) (e1 : gridW W' H' m = gridW W H m) (e2 : gridH W' H' m = gridH W H m) (hW : W ≤ W') (hH : H ≤ H') (l l' : List Int) (hl : (l.length : Int) = W * H * partsN m) (hl' : (l'.length : Int) = W' * H' * partsN m)
    (hf : ∀ j, j < l'.length → gn l' j = edgeF W.toNat H.toNat W'.toNat (partsN m) l j) (i j : Nat) (hi : i < (gridW W H m * gridH W H m).toNat) (hj : j < (unitL m).length * 64) :
    splitF W' H' m l' i j = splitF W H m l i j := by
  obtain ⟨pa, x, y, wi, hh, hsp, hok, hpa⟩ := spot_form f i (j / 64) hi (by omega)
  unfold splitF
  rw [e1, hsp]
  refine sample_same _ _ _ _ _ _ _ _ (fun n => ?_)
  have hok' := hok
  obtain ⟨s1, s2, s3, s4, s5, s6, s7, s8, s9, s10, s11, s12⟩ := hok'
  dsimp only at s1 s2 s3 s4 s5 s6 s7 s8 s9 s10 s11 s12 ⊢
  obtain ⟨k, hk⟩ : ∃ k : Nat, j % 64 = k := ⟨_, rfl⟩
  rw [hk]
  have m0 : 0 ≤ (k : Int) % 8 * wi := Int.mul_nonneg (by omega) (by omega)
  have m2 : 0 ≤ (k : Int) / 8 * hh := Int.mul_nonneg (by omega) (by omega)
  have h1 := f.w
  have h2 := f.h
  have h3 := f'.w
  have h4 := f'.h
  unfold idxF
  dsimp only
  obtain ⟨X, hX⟩ : ∃ X, x + (k : Int) % 8 * wi + (n : Int) % wi = X := ⟨_, rfl⟩
  obtain ⟨Y, hY⟩ : ∃ Y, y + (k : Int) / 8 * hh + (n : Int) / wi = Y := ⟨_, rfl⟩
  have X0 : 0 ≤ X := by have : 0 ≤ (n : Int) % wi := Int.emod_nonneg _ (by omega); omega
  have Y0 : 0 ≤ Y := by have : 0 ≤ (n : Int) / wi := Int.ediv_nonneg (by omega) (by omega); omega
  rw [hX, hY]
  obtain ⟨Xn, rfl⟩ : ∃ Xn : Nat, X = Xn := ⟨X.toNat, by omega⟩
  obtain ⟨Yn, rfl⟩ : ∃ Yn : Nat, Y = Yn := ⟨Y.toNat, by omega⟩
  obtain ⟨Wn, rfl⟩ : ∃ Wn : Nat, W = Wn := ⟨W.toNat, by omega⟩
  obtain ⟨Hn, rfl⟩ : ∃ Hn : Nat, H = Hn := ⟨H.toNat, by omega⟩
  obtain ⟨Un, rfl⟩ : ∃ Un : Nat, W' = Un := ⟨W'.toNat, by omega⟩
  obtain ⟨Vn, rfl⟩ : ∃ Vn : Nat, H' = Vn := ⟨H'.toNat, by omega⟩
  obtain ⟨pn, rfl⟩ : ∃ pn : Nat, pa = pn := ⟨pa.toNat, by omega⟩
  simp only [Int.toNat_natCast] at hf
  have c1 : min (Yn : Int) ((Vn : Int) - 1) = ((min Yn (Vn - 1) : Nat) : Int) := by omega
  have c2 : min (Xn : Int) ((Un : Int) - 1) = ((min Xn (Un - 1) : Nat) : Int) := by omega
  have c3 : min (Yn : Int) ((Hn : Int) - 1) = ((min Yn (Hn - 1) : Nat) : Int) := by omega
  have c4 : min (Xn : Int) ((Wn : Int) - 1) = ((min Xn (Wn - 1) : Nat) : Int) := by omega
  rw [c1, c2, c3, c4]
  have d1 : (((min Yn (Vn - 1) : Nat) : Int) * (Un : Int) + ((min Xn (Un - 1) : Nat) : Int)) * ((partsN m : Nat) : Int) + (pn : Int) = (((min Yn (Vn - 1) * Un + min Xn (Un - 1)) * partsN m + pn : Nat) : Int) := by simp
  have d2 : (((min Yn (Hn - 1) : Nat) : Int) * (Wn : Int) + ((min Xn (Wn - 1) : Nat) : Int)) * ((partsN m : Nat) : Int) + (pn : Int) = (((min Yn (Hn - 1) * Wn + min Xn (Wn - 1)) * partsN m + pn : Nat) : Int) := by simp
  rw [d1, d2]
  have hUp : 0 < Un := by omega
  have q1 : (min Yn (Vn - 1) * Un + min Xn (Un - 1)) / Un = min Yn (Vn - 1) := by
    rw [Nat.add_comm, Nat.add_mul_div_right _ _ hUp, Nat.div_eq_of_lt (by omega)]; omega
  have q2 : (min Yn (Vn - 1) * Un + min Xn (Un - 1)) % Un = min Xn (Un - 1) := by
    rw [Nat.add_comm, Nat.add_mul_mod_self_right, Nat.mod_eq_of_lt (by omega)]
  have q3 : edgeAt Wn Hn Un (min Yn (Vn - 1) * Un + min Xn (Un - 1)) = min Yn (Hn - 1) * Wn + min Xn (Wn - 1) := by
    unfold edgeAt
    have t1 : min (min Yn (Vn - 1)) (Hn - 1) = min Yn (Hn - 1) := by omega
    have t2 : min (min Xn (Un - 1)) (Wn - 1) = min Xn (Wn - 1) := by omega
    rw [q1, q2, t1, t2]
  have in1 : min Yn (Vn - 1) * Un + min Xn (Un - 1) + 1 ≤ Un * Vn := by
    have := edgeAt_lt Un Vn Un (min Yn (Vn - 1) * Un + min Xn (Un - 1)) (by omega) (by omega)
    unfold edgeAt at this
    have t1 : min (min Yn (Vn - 1)) (Vn - 1) = min Yn (Vn - 1) := by omega
    have t2 : min (min Xn (Un - 1)) (Un - 1) = min Xn (Un - 1) := by omega
    rw [q1, q2, t1, t2] at this
    omega
  have in2 : min Yn (Hn - 1) * Wn + min Xn (Wn - 1) + 1 ≤ Wn * Hn := by
    rw [← q3]
    exact edgeAt_lt _ _ _ _ (by omega) (by omega)
  have L1 : l.length = Wn * Hn * partsN m := by
    have : ((Wn * Hn * partsN m : Nat) : Int) = (Wn : Int) * (Hn : Int) * ((partsN m : Nat) : Int) := by simp
    omega
  have L2 : l'.length = Un * Vn * partsN m := by
    have : ((Un * Vn * partsN m : Nat) : Int) = (Un : Int) * (Vn : Int) * ((partsN m : Nat) : Int) := by simp
    omega
  have hP : 0 < partsN m := by unfold partsN; split <;> omega
  revert q3 in1 in2
  generalize min Yn (Vn - 1) * Un + min Xn (Un - 1) = q'
  generalize min Yn (Hn - 1) * Wn + min Xn (Wn - 1) = q
  intro q3 in1 in2
  have in3 : (q' + 1) * partsN m ≤ l'.length := by rw [L2]; exact Nat.mul_le_mul_right _ in1
  refine parts_same m l l' q q' pn (by omega) (by rw [L1]; exact Nat.mul_le_mul_right _ in2) in3 (fun c hc => ?_)
  rw [Nat.add_mul] at in3
  rw [hf _ (by omega)]
  unfold edgeF
  rw [Nat.add_comm (q' * partsN m) c, Nat.add_mul_div_right _ _ hP, Nat.div_eq_of_lt hc, Nat.zero_add, q3, Nat.add_mul_mod_self_right, Nat.mod_eq_of_lt hc]

set_option maxHeartbeats 400000 in
/-- Many elements more, out of another list. -/
theorem Lst.more {P : Program} {w w1 : World} {st t : TypeId} {z : Value} {size bytes : Nat} (E : ElemInfo P st t z size bytes) {s : Value} {n : Nat} {xs : List Value} (h : Lst w w1 t size s n xs) (ad : Addr) (m c : Nat) (news : List Value) (hl : news.length = m * size) (hnews : ∀ j u, news[j]? = some u → w1.cell? (ad.add j) = some u) (h1 : ∀ u ∈ news, u.oneCell' = true) (hm : 0 < m) (hn : n + m ≤ 100000000) (hb : bytes ≤ 10000) :
    ∃ g cap w2, (Builtin.append_ #[st, st] st #[s, .slice (some ad) m c]).run P w1 = .ok (.slice (some ⟨g, 0, none⟩) (n + m) cap) w2 ∧ Lst w w2 t size (.slice (some ⟨g, 0, none⟩) (n + m) cap) (n + m) (xs ++ news) ∧
      But (fun k => s.ownBlock = some k) w1 w2 ∧ (s.ownBlock = some g ∨ w1.heap.size ≤ g) := by
  obtain ⟨i0, hi0, hz0, hz1, hz2⟩ := info_parts E.info
  have hbytes : (n + m) * bytes ≤ 140737488355328 := Nat.le_trans (Nat.mul_le_mul hn hb) (by decide)
  obtain ⟨g, cap, w', hr, k2, k3, k4, k5⟩ := run_append_lies (P := P) w1 st st 0 t i0 z size bytes E.under hi0 hz0 hz1 hz2 E.cells E.pos s n xs h.own ad m c news hl hnews h1 hm (by unfold maxLen; omega) hbytes (by omega) _ rfl
  have hbut : But (fun k => s.ownBlock = some k) w1 w' := (But.refl _ _).grown k3 (fun k hk _ => hk)
  have hg : s.ownBlock = some g ∨ w1.heap.size ≤ g := k4.imp id (fun e => by omega)
  refine ⟨g, cap, w', hr, ⟨k2, fun x hx => ?_, h.but.step hbut (fun k hk f => by have := h.new k f; omega)⟩, hbut, hg⟩
  simp [Value.ownBlock] at hx
  subst hx
  rcases hg with e | e
  · exact h.new _ e
  · exact Nat.le_trans h.but.size e

/-- At an append whose run is known, in a region that draws. -/
theorem wp_append_run {P : Program} {w : World} {o : Oper} {a : Act} {K : Act → World → Prop} {Q : Exit → Act → World → Prop} (s x : Operand) (t : TypeId)
    (ho : o.op = .call { callee := .builtin .append, args := #[s, x], argTypes := #[t, t] }) (v u : Value) (hs : a.eval s = v) (hx : a.eval x = u) (v' : Value) (w' : World)
    (hr : (Builtin.append_ #[t, t] o.type #[v, u]).run P w = .ok v' w') (h : K (a.put o.dst v') w') : o.wp P a w K Q := by
  unfold Oper.wp execOp
  simp only [ho, resolve, invoke, builtin, Sem.run_bind, Sem.run_pure, Result.andThen_ok, List.map_toArray, List.map_cons, List.map_nil, hs, hx, hr]
  exact h

set_option maxRecDepth 100000 in
/-- Some bytes of a list. -/
theorem slice_mid8 (g n c l p : Nat) (hp : 0 < p) (h : l + p ≤ c) (w : World) : (Instr.slice 30 (.slice (some ⟨g, 0, none⟩) n c) (some (.int .i64 (l : Int))) (some (.int .i64 ((l + p : Nat) : Int))) none).run Try.prog w = .ok (.slice (some ⟨g, l, none⟩) p (c - l)) w := by
  have hi : (Try.prog.info? (Try.prog.elem 30)).map (·.size) = some 1 := by kernel_rfl
  rw [run_slice_lh w _ _ _ _ (by kernel_rfl) .i64 .i64 (l : Int) ((l + p : Nat) : Int) (by omega) (by omega) (by omega)]
  cases hq : Try.prog.info? (Try.prog.elem 30) with
  | none => simp [hq] at hi
  | some i =>
    have hs : i.size = 1 := by simpa [hq] using hi
    have h1 : ¬ c = l := by omega
    simp [sizeOf, typeInfo, hq, hs, sliced, h1, Addr.add]
    omega

theorem edge_news (Wn Hn Un P : Nat) (li : List Int) (V : World) (gi k : Nat) (hP : 0 < P) (hc : ∀ j u, (ints .u8 li)[j]? = some u → V.cell? ⟨gi, j, none⟩ = some u) (hin : (edgeAt Wn Hn Un k + 1) * P ≤ li.length) :
    ∀ j u, ((List.range P).map (fun c => Value.int .u8 (edgeF Wn Hn Un P li (k * P + c))))[j]? = some u → V.cell? ⟨gi, edgeAt Wn Hn Un k * P + j, none⟩ = some u := by
  intro j u hj
  have hjP : j < P := by have := (List.getElem?_eq_some_iff.1 hj).1; simpa using this
  rw [List.getElem?_map, List.getElem?_range hjP, Option.map_some] at hj
  rw [Nat.add_mul, Nat.one_mul] at hin
  refine hc _ _ ?_
  rw [ints_at _ _ _ (by omega), ← hj, gn_at]
  unfold edgeF
  rw [Nat.add_comm (k * P) j, Nat.add_mul_div_right _ _ hP, Nat.div_eq_of_lt hjP, Nat.zero_add, Nat.add_mul_mod_self_right, Nat.mod_eq_of_lt hjP]

theorem edge_grow (e : Nat → Int) (k P : Nat) : ints .u8 ((List.range ((k + 1) * P)).map e) = ints .u8 ((List.range (k * P)).map e) ++ (List.range P).map (fun c => Value.int .u8 (e (k * P + c))) := by
  rw [Nat.add_mul, Nat.one_mul, List.range_add, List.map_append, ints_append]
  congr 1
  simp [ints]

set_option maxHeartbeats 800000 in
theorem edge_round {w w9 V : World} {NB gi c k P Wn Hn Un : Nat} {U U' : Int} {rb : Bool} {pv : Value} {li : List Int} (hP : 0 < P) (LL : Lst w V 5 1 pv (k * P) (ints .u8 ((List.range (k * P)).map (edgeF Wn Hn Un P li)))) (HM : Cells V NB 34 (imC U U' rb pv)) (hbN : But (fun x => x = NB) w9 V) (hnew : ∀ x, pv.ownBlock = some x → w9.heap.size ≤ x)
    (hNB : NB < w9.heap.size) (hwN : w.heap.size ≤ NB) (hc : ∀ j u, (ints .u8 li)[j]? = some u → V.cell? ⟨gi, j, none⟩ = some u) (hin : (edgeAt Wn Hn Un k + 1) * P ≤ li.length) (hk : (k + 1) * P ≤ 10000000) :
    ∃ g cap W4, (Builtin.append_ #[30, 30] 30 #[pv, .slice (some ⟨gi, edgeAt Wn Hn Un k * P, none⟩) P c]).run Try.prog V = .ok (.slice (some ⟨g, 0, none⟩) (k * P + P) cap) W4 ∧ W4.cell? ⟨NB, 3, none⟩ = some pv ∧ W4.frozen? ⟨NB, 3, none⟩ = false ∧
      Lst w (W4.setCell ⟨NB, 3, none⟩ (.slice (some ⟨g, 0, none⟩) (k * P + P) cap)) 5 1 (.slice (some ⟨g, 0, none⟩) (k * P + P) cap) ((k + 1) * P) (ints .u8 ((List.range ((k + 1) * P)).map (edgeF Wn Hn Un P li))) ∧
      Cells (W4.setCell ⟨NB, 3, none⟩ (.slice (some ⟨g, 0, none⟩) (k * P + P) cap)) NB 34 (imC U U' rb (.slice (some ⟨g, 0, none⟩) (k * P + P) cap)) ∧ But (fun x => x = NB) w9 (W4.setCell ⟨NB, 3, none⟩ (.slice (some ⟨g, 0, none⟩) (k * P + P) cap)) ∧
      (∀ x, (Value.slice (some ⟨g, 0, none⟩) (k * P + P) cap).ownBlock = some x → w9.heap.size ≤ x) ∧ ∀ (p : Addr) (u : Value), p.block < w9.heap.size → V.cell? p = some u → W4.cell? p = some u := by
  have hk' : k * P + P ≤ 10000000 := by rw [Nat.add_mul, Nat.one_mul] at hk; exact hk
  obtain ⟨g, cap, W4, hrun, L4, b4, hg4⟩ := Lst.more Try.elemByte LL ⟨gi, edgeAt Wn Hn Un k * P, none⟩ P c ((List.range P).map (fun c => Value.int .u8 (edgeF Wn Hn Un P li (k * P + c)))) (by simp) (fun j u hj => by rw [Addr.add_mid]; exact edge_news Wn Hn Un P li V gi k hP hc hin j u hj)
    (fun u hu => by simp only [List.mem_map] at hu; obtain ⟨a, _, rfl⟩ := hu; rfl) hP (by omega) (by omega)
  have hM4 := HM.but b4 (fun e => by have := hnew _ e; omega)
  have hgn : w9.heap.size ≤ g := by
    rcases hg4 with e | e
    · exact hnew g e
    · have := hbN.size; omega
  have hgM : g ≠ NB := by omega
  have c3 := hM4.at 3
  simp only [List.getElem?_cons_zero, List.getElem?_cons_succ] at c3
  refine ⟨g, cap, W4, hrun, c3, hM4.frozen 3, ?_, hM4.set 3 _, ?_, fun x hx => ?_, fun p u hp h => b4.keeps (fun e => by have := hnew _ e; omega) h⟩
  · have := L4.stepS (S := fun x => x = NB) (But.setCell (S := fun x => x = NB) (p := ⟨NB, 3, none⟩) (But.refl _ _) (fun _ => rfl) (.slice (some ⟨g, 0, none⟩) (k * P + P) cap)) (fun x hx' e => by simp [Value.ownBlock] at hx'; subst hx'; exact hgM e) (fun x e => by omega)
    rw [edge_grow]
    rw [show (k + 1) * P = k * P + P by rw [Nat.add_mul, Nat.one_mul]]
    exact this
  · exact (hbN.step b4 (fun x hx e => by have := hnew x e; omega)).setCell (p := ⟨NB, 3, none⟩) (fun _ => rfl) _
  · simp [Value.ownBlock] at hx
    omega

end Go.Proofs.Ytppbnmlgilgnnaa

/- The document's Join. -/
namespace Go.Proofs.Ytppbnmlgilgnnaa
open Go.ChangeShapes Go.WideShapes Go.ChangeAt Go.RowKit

/-- Between two pixels: what is laid so far. -/
structure JS (w w9 V : World) (NB : Nat) (U U' : Int) (rb : Bool) (n : Nat) (l : List Int) (pv : Value) : Prop where
  lst : Lst w V 5 1 pv n (ints .u8 l)
  img : Cells V NB 34 (imC U U' rb pv)
  but : But (fun x => x = NB) w9 V
  new : ∀ x, pv.ownBlock = some x → w9.heap.size ≤ x
  nb : NB < w9.heap.size
  wn : w.heap.size ≤ NB

theorem JS.step {w w9 V V' : World} {NB : Nat} {U U' : Int} {rb : Bool} {n : Nat} {l : List Int} {pv : Value} (h : JS w w9 V NB U U' rb n l pv) (hb : But Nowhere V V') : JS w w9 V' NB U U' rb n l pv :=
  ⟨h.lst.step hb, h.img.but hb (not_nowhere _), h.but.step hb (fun _ _ f => f.elim), h.new, h.nb, h.wn⟩

set_option maxHeartbeats 800000 in
theorem JS.push {w w9 V : World} {NB n P : Nat} {U U' : Int} {rb : Bool} {pv : Value} {l : List Int} (h : JS w w9 V NB U U' rb n l pv) (news : List Int) (hnl : news.length = P) (hP : 0 < P) (hn : n + P ≤ 10000000) (B : Nat) (hB : V.heap.size = B) :
    ∃ g cap W4, (Builtin.append_ #[30, 30] 30 #[pv, .slice (some ⟨B, 0, none⟩) P P]).run Try.prog (V.alloc (.cells (ints .u8 news).toArray 5)) = .ok (.slice (some ⟨g, 0, none⟩) (n + P) cap) W4 ∧ W4.cell? ⟨NB, 3, none⟩ = some pv ∧ W4.frozen? ⟨NB, 3, none⟩ = false ∧
      JS w w9 (W4.setCell ⟨NB, 3, none⟩ (.slice (some ⟨g, 0, none⟩) (n + P) cap)) NB U U' rb (n + P) (l ++ news) (.slice (some ⟨g, 0, none⟩) (n + P) cap) ∧ ∀ (p : Addr) (u : Value), p.block < w9.heap.size → V.cell? p = some u → W4.cell? p = some u := by
  subst hB
  have bA : But Nowhere V (V.alloc (.cells (ints .u8 news).toArray 5)) := (But.refl _ _).alloc _
  have hz : ((V.alloc (.cells (ints .u8 news).toArray 5))).heap.size = V.heap.size + 1 := World.size_alloc _ _
  have hA := h.step bA
  have hil : (ints .u8 news).length = P := by simp [ints, hnl]
  obtain ⟨g, cap, W4, hrun, L4, b4, hg4⟩ := Lst.more Try.elemByte hA.lst ⟨V.heap.size, 0, none⟩ P P (ints .u8 news) (by rw [hil]; omega)
    (fun j u hj => by
      have := (Cells.new V 5 (ints .u8 news)).at j
      rw [hj] at this
      rw [Addr.add_lit, Nat.zero_add]
      exact this)
    (fun u hu => by simp only [ints, List.mem_map] at hu; obtain ⟨a, _, rfl⟩ := hu; rfl) hP (by omega) (by omega)
  have hM4 := hA.img.but b4 (fun e => by have := h.new _ e; have := h.nb; omega)
  have hsz := h.but.size
  have hgn : w9.heap.size ≤ g := by
    rcases hg4 with e | e
    · exact h.new g e
    · omega
  have hnb := h.nb
  have hwn := h.wn
  have hgM : g ≠ NB := by omega
  have c3 := hM4.at 3
  simp only [List.getElem?_cons_zero, List.getElem?_cons_succ] at c3
  refine ⟨g, cap, W4, hrun, c3, hM4.frozen 3, ⟨?_, hM4.set 3 _, ?_, fun x hx => ?_, hnb, hwn⟩, fun p u hp hpu => b4.keeps (fun e => by have := h.new _ e; omega) (bA.keeps (not_nowhere _) hpu)⟩
  · have := L4.stepS (S := fun x => x = NB) (But.setCell (S := fun x => x = NB) (p := ⟨NB, 3, none⟩) (But.refl _ _) (fun _ => rfl) (.slice (some ⟨g, 0, none⟩) (n + P) cap)) (fun x hx' e => by simp [Value.ownBlock] at hx'; subst hx'; exact hgM e) (fun x e => by omega)
    rw [ints_append]
    exact this
  · exact (hA.but.step b4 (fun x hx e => by have := h.new x e; omega)).setCell (p := ⟨NB, 3, none⟩) (fun _ => rfl) _
  · simp [Value.ownBlock] at hx
    omega

theorem gn_map (f : Nat → Int) (Z j : Nat) (h : j < Z) : gn ((List.range Z).map f) j = f j := by
  unfold gn; rw [List.getD_eq_getElem?_getD]; simp [h]

theorem take_map (f : Nat → Int) (Z k : Nat) (h : k ≤ Z) : ((List.range Z).map f).take k = (List.range k).map f := by
  rw [← List.map_take, List.take_range, Nat.min_eq_left h]

theorem range_more (f : Nat → Int) (k P : Nat) : (List.range (k + P)).map f = (List.range k).map f ++ (List.range P).map (fun r => f (k + r)) := by
  rw [List.range_add, List.map_append, List.map_map]; rfl

/-- The words so far. -/
def laidL (W H m : Int) (F : Nat → Nat → Int) (Z k : Nat) : List Int := (joinL W H m F Z).take k

theorem atJ_at {W H m : Int} (hW : 1 ≤ W) (F : Nat → Nat → Int) (x y : Int) (n r : Nat) (hx : 0 ≤ x ∧ x < W) (hn : y * W + x = (n : Int)) (hr : r < partsN m) : atJ W H m F (n * partsN m + r) = atF W H m F r x y := by
  have hp : 0 < partsN m := by omega
  unfold atJ
  rw [show (n * partsN m + r) % partsN m = r by rw [Nat.add_comm, Nat.add_mul_mod_self_right, Nat.mod_eq_of_lt hr], show (n * partsN m + r) / partsN m = n by rw [Nat.add_comm, Nat.add_mul_div_right _ _ hp, Nat.div_eq_of_lt hr, Nat.zero_add], ← hn]
  rw [show (y * W + x) % W = x by rw [Int.add_comm, Int.add_mul_emod_self_right, Int.emod_eq_of_lt hx.1 hx.2], show (y * W + x) / W = y by rw [Int.add_comm, Int.add_mul_ediv_right _ _ (by omega), Int.ediv_eq_zero_of_lt hx.1 hx.2, Int.zero_add]]

theorem laid_gray {W H m : Int} (h1 : m = 1) (hW : 1 ≤ W) (F : Nat → Nat → Int) (Z : Nat) (x y : Int) (n : Nat) (hx : 0 ≤ x ∧ x < W) (hn : y * W + x = (n : Int)) (hZ : n * partsN m + 1 ≤ Z) : laidL W H m F Z (n * partsN m + 1) = laidL W H m F Z (n * partsN m) ++ [atF W H m F 0 x y] := by
  unfold laidL joinL backL
  rw [if_pos h1, take_map _ _ _ hZ, take_map _ _ _ (by omega), range_more]
  have := atJ_at (H := H) (m := m) hW F x y n 0 hx hn (by unfold partsN; split <;> omega)
  simp only [List.range_one, List.map_cons, List.map_nil, this]

theorem laid_three {W H m : Int} (h1 : m ≠ 1) (hW : 1 ≤ W) (F : Nat → Nat → Int) (Z : Nat) (x y : Int) (n : Nat) (hx : 0 ≤ x ∧ x < W) (hn : y * W + x = (n : Int)) (hZ : n * partsN m + 3 ≤ Z) : laidL W H m F Z (n * partsN m + 3) = laidL W H m F Z (n * partsN m) ++ [back1.of (atF W H m F 0 x y) (atF W H m F 1 x y) (atF W H m F 2 x y), back2.of (atF W H m F 0 x y) (atF W H m F 1 x y) (atF W H m F 2 x y), back3.of (atF W H m F 0 x y) (atF W H m F 1 x y) (atF W H m F 2 x y)] := by
  have h3 : partsN m = 3 := by unfold partsN; rw [if_neg h1]
  unfold laidL joinL backL
  rw [if_neg h1, List.length_map, List.length_range, take_map _ _ _ hZ, take_map _ _ _ (by omega), range_more]
  have j0 := atJ_at (H := H) (m := m) hW F x y n 0 hx hn (by omega)
  have j1 := atJ_at (H := H) (m := m) hW F x y n 1 hx hn (by omega)
  have j2 := atJ_at (H := H) (m := m) hW F x y n 2 hx hn (by omega)
  rw [Nat.add_zero] at j0
  have k3 : (n * partsN m) % 3 = 0 := by rw [h3]; omega
  have e : (List.range 3).map (fun r => turnA back1 back2 back3 ((List.range Z).map (atJ W H m F)) (n * partsN m + r)) = [turnA back1 back2 back3 ((List.range Z).map (atJ W H m F)) (n * partsN m), turnA back1 back2 back3 ((List.range Z).map (atJ W H m F)) (n * partsN m + 1), turnA back1 back2 back3 ((List.range Z).map (atJ W H m F)) (n * partsN m + 2)] := rfl
  rw [e, turnA0 _ _ _ _ _ k3, turnA1 _ _ _ _ _ k3, turnA2 _ _ _ _ _ k3, gn_map _ _ _ (by omega), gn_map _ _ _ (by omega), gn_map _ _ _ (by omega), j0, j1, j2]

end Go.Proofs.Ytppbnmlgilgnnaa

/- The document's Join, of what is whole and of what is not. -/
namespace Go.Proofs.Ytppbnmlgilgnnaa
open Go.ChangeShapes Go.WideShapes Go.ChangeAt Go.RowKit

set_option maxHeartbeats 6400000 in
set_option maxRecDepth 100000 in
theorem refJoin_yes (W H m qu i0 c : Int) (f : Fit W H m) (v : Value) (F : Nat → Nat → Int) (Z N M : Nat) (w : World) (hZ : W * H * partsN m = Z) (hN : (gridW W H m * gridH W H m).toNat = N) (hM : (unitL m).length = M) (h : BA w v N (fun _ => M) F) :
    Calls Try.prog 11 #[pV W H m qu i0 c, v] w fun e w' => (∃ pv, e = .returned (imV W H (m != 1) pv) ∧ View w' .u8 pv (joinL W H m F Z)) ∧ But Nowhere w w' := by
  have hu := Try.underlying34
  have hW := f.w
  have hH := f.h
  obtain ⟨Wn, hWn⟩ : ∃ n : Nat, W = (n : Int) := ⟨W.toNat, by omega⟩
  obtain ⟨Hn, hHn⟩ : ∃ n : Nat, H = (n : Int) := ⟨H.toNat, by omega⟩
  have hp1 : 1 ≤ partsN m ∧ partsN m ≤ 3 := by unfold partsN; split <;> omega
  have hZn : Wn * Hn * partsN m = Z := by rw [hWn, hHn] at hZ; exact_mod_cast hZ
  have hZ4 : Z ≤ 4000000 := by
    have : W * H * (partsN m : Int) ≤ 1048576 * 3 := Int.mul_le_mul f.s (by omega) (by omega) (by omega)
    omega
  have hWH : Wn * Hn ≤ 1048576 := by
    have h1 := f.s
    rw [hWn, hHn] at h1
    have h2 : ((Wn * Hn : Nat) : Int) = (Wn : Int) * (Hn : Int) := Int.natCast_mul _ _
    omega
  have HWn : Hid (W = (Wn : Int) ∧ H = (Hn : Int)) := ⟨hWn, hHn⟩
  have HAT : Hid (∀ V (p : Nat), p < partsN m → ∀ x y : Int, (0 ≤ x ∧ x < W) → (0 ≤ y ∧ y < H) → But Nowhere w V → Calls Try.prog 26 #[pV W H m qu i0 c, v, .int .i64 (p : Int), .int .i64 x, .int .i64 y] V fun e w' => e = .returned (.int .i64 (atF W H m F p x y)) ∧ But Nowhere V w') := fun V p hp x y hx hy hb => refAt_any W H m qu i0 c f v F N M V hN hM (h.but hb) p hp x y hx hy
  have HAI : Hid (∀ p x y, 0 ≤ atF W H m F p x y ∧ atF W H m F p x y ≤ 255) := fun p x y => clip255 _
  have HWH : ∀ V, But Nowhere w V → Calls Try.prog 25 #[pV W H m qu i0 c, v] V fun e w' => e = .returned (.bool true) ∧ But Nowhere V w' := fun V hb => by
    refine (refWhole_fit W H m qu i0 c f v N (fun _ => M) F V (h.but hb)).mono ?_
    rintro e w' ⟨⟨r, rfl, hr⟩, b⟩
    rcases hr with ⟨rfl, -⟩ | ⟨-, hno⟩
    · exact ⟨rfl, b⟩
    · exact absurd ⟨hN.symm, fun _ _ => hM.symm⟩ hno
  have HG1 : Hid (m = 1 → ∀ x y : Int, ∀ n : Nat, (0 ≤ x ∧ x < W) → y * W + x = (n : Int) → n * partsN m + 1 ≤ Z → laidL W H m F Z (n * partsN m + 1) = laidL W H m F Z (n * partsN m) ++ [atF W H m F 0 x y]) := fun h1 x y n hx hn hz => laid_gray h1 hW.1 F Z x y n hx hn hz
  have HG3 : Hid (m ≠ 1 → ∀ x y : Int, ∀ n : Nat, (0 ≤ x ∧ x < W) → y * W + x = (n : Int) → n * partsN m + 3 ≤ Z → laidL W H m F Z (n * partsN m + 3) = laidL W H m F Z (n * partsN m) ++ [back1.of (atF W H m F 0 x y) (atF W H m F 1 x y) (atF W H m F 2 x y), back2.of (atF W H m F 0 x y) (atF W H m F 1 x y) (atF W H m F 2 x y), back3.of (atF W H m F 0 x y) (atF W H m F 1 x y) (atF W H m F 2 x y)]) := fun h1 x y n hx hn hz => laid_three h1 hW.1 F Z x y n hx hn hz
  have HL0 : Hid (laidL W H m F Z 0 = []) := by show laidL W H m F Z 0 = []; unfold laidL; exact List.take_zero
  have HJLl : Hid ((joinL W H m F Z).length = Z) := joinL_length W H m F Z
  have HLZ : Hid (laidL W H m F Z Z = joinL W H m F Z) := by show laidL W H m F Z Z = joinL W H m F Z; unfold laidL; exact List.take_of_length_le (by rw [joinL_length]; omega)
  obtain ⟨rb, hrb⟩ : ∃ rb, (m != 1) = rb := ⟨_, rfl⟩
  rw [hrb]
  obtain ⟨ao, vcap, rfl, -⟩ := h
  have kk := (((Keep.start w).made 23 (pC W H m qu i0 c)).made 34 (imC 0 0 false (.slice none 0 0)))
  simp only [World.size_alloc] at kk
  have HWI := HWH _ kk.but
  obtain ⟨LD, hLD⟩ : ∃ L, laidL W H m F Z = L := ⟨_, rfl⟩
  obtain ⟨JL, hJL⟩ : ∃ L, joinL W H m F Z = L := ⟨_, rfl⟩
  obtain ⟨AF, hAF⟩ : ∃ L, atF W H m F = L := ⟨_, rfl⟩
  rw [hLD] at HG1 HG3 HL0 HLZ
  rw [hJL] at HLZ HJLl ⊢
  rw [hAF] at HG1 HG3 HAT HAI
  obtain ⟨P, hP⟩ : ∃ P, partsN m = P := ⟨_, rfl⟩
  rw [hP] at HG1 HG3 HAT hp1 hZn
  have hPr : (rb = false ∧ P = 1 ∧ m = 1) ∨ (rb = true ∧ P = 3 ∧ m ≠ 1) := by
    rw [← hrb, ← hP]
    by_cases h1 : m = 1
    · left; simp [h1, partsN]
    · right; simp [h1, partsN]
  clear hN hM HWH hLD hJL hAF hP f hZ hWn hHn
  go_enter Try.func11, Try.ntmps11
  go_wp2_with fail
  refine HWI.mono ?_
  rintro e w1 ⟨rfl, b1⟩
  replace kk := kk.step b1
  clear b1 HWI
  have gP := kk.get (b := w.heap.size) (t := 23) (c := pC W H m qu i0 c) (by simp)
  have c0 := gP.at 0
  have c1 := gP.at 1
  have c2 := gP.at 2
  simp only [List.getElem?_cons_zero, List.getElem?_cons_succ] at c0 c1 c2
  have hNBw := (kk.get (b := w.heap.size + 1) (t := 34) (c := imC 0 0 false (.slice none 0 0)) (by simp)).lt
  replace kk := kk.made 34 (imC W H rb (.slice none 0 0))
  obtain ⟨NB, hNB⟩ : ∃ b, w1.heap.size = b := ⟨_, rfl⟩
  rw [hNB] at kk hNBw
  clear gP
  go_wp2_with fail
  clear c0 c1 c2 hNB
  revert kk
  generalize w1.alloc (.cells #[.int .i64 W, .int .i64 H, .bool rb, .slice none 0 0] 34) = w9
  intro kk
  have z9 := kk.but.size
  have hNB9 := kk.head.lt
  have hRB9 := (kk.get (b := w.heap.size + 1) (t := 34) (c := imC 0 0 false (.slice none 0 0)) (by simp)).lt
  have hPB9 : w.heap.size < w9.heap.size := by omega
  have HB9 : Hid (∀ V, But (fun x => x = NB) w9 V → But Nowhere w V) := fun V hb => kk.but.step hb (fun k hk e => by omega)
  have HPk : ∀ V, But (fun x => x = NB) w9 V → Cells V w.heap.size 23 (pC W H m qu i0 c) := fun V hb => (kk.get (b := w.heap.size) (t := 23) (c := pC W H m qu i0 c) (by simp)).but hb (by omega)
  have HRk : Hid (∀ V, But (fun x => x = NB) w9 V → Cells V (w.heap.size + 1) 34 (imC 0 0 false (.slice none 0 0))) := fun V hb => (kk.get (b := w.heap.size + 1) (t := 34) (c := imC 0 0 false (.slice none 0 0)) (by simp)).but hb (by omega)
  have JS0 : JS w w9 w9 NB W H rb 0 (LD 0) (.slice none 0 0) := ⟨by rw [HL0.out]; exact ⟨World.ownsRow_nil _ _ _ _, by simp [Value.ownBlock], kk.but⟩, kk.head, But.refl _ _, by simp [Value.ownBlock], hNB9, by omega⟩
  have HHn : Hid (H = (Hn : Int)) := HWn.out.2
  clear kk z9 hRB9
  go_loopw [6] (fun j V => ∃ y : Nat, y ≤ Hn ∧ j = .int .i64 y ∧ ∃ pv, JS w w9 V NB W H rb (y * Wn * P) (LD (y * Wn * P)) pv) (fun j _ => Hn - (intOf j).toNat)
  case atStart => exact ⟨0, Nat.zero_le _, rfl, _, by rw [Nat.zero_mul, Nat.zero_mul]; exact JS0⟩
  case round =>
    clear JS0
    obtain ⟨y, hyl, rfl, pv, JV⟩ := hrel
    have gP := HPk _ JV.but
    have c1 := gP.at 1
    simp only [List.getElem?_cons_zero, List.getElem?_cons_succ] at c1
    clear gP
    by_cases hlt : y < Hn
    · have hy : 0 ≤ (y : Int) ∧ (y : Int) < H := by have := HHn.out; omega
      have hy1 := hy.2
      have hyW : (y + 1) * Wn ≤ Hn * Wn := Nat.mul_le_mul_right Wn hlt
      rw [Nat.add_mul, Nat.one_mul, Nat.mul_comm Hn Wn] at hyW
      go_wp2_with fail
      clear c1
      go_loopw [7] (fun j V => ∃ x : Nat, x ≤ Wn ∧ j = .int .i64 x ∧ ∃ pv, JS w w9 V NB W H rb ((y * Wn + x) * P) (LD ((y * Wn + x) * P)) pv) (fun j _ => Wn - (intOf j).toNat)
      case atStart => exact ⟨0, Nat.zero_le _, rfl, pv, JV⟩
      case round =>
        clear JV
        obtain ⟨x, hxl, rfl, pv, JV⟩ := hrel
        have gP := HPk _ JV.but
        have c0 := gP.at 0
        simp only [List.getElem?_cons_zero] at c0
        by_cases hltx : x < Wn
        · have hx : 0 ≤ (x : Int) ∧ (x : Int) < W := by have := HWn.out.1; omega
          have hx1 := hx.2
          obtain ⟨q, hq⟩ : ∃ q, y * Wn + x = q := ⟨_, rfl⟩
          have HQ : Hid (y * Wn + x = q) := hq
          have HQI : Hid ((y : Int) * W + (x : Int) = (q : Int)) := by
            show (y : Int) * W + (x : Int) = (q : Int)
            rw [HWn.out.1, ← hq, Int.natCast_add, Int.natCast_mul]
          have hqZ : (q + 1) * P ≤ Z := by
            rw [← hZn]; exact Nat.mul_le_mul_right P (by omega)
          rw [Nat.add_mul, Nat.one_mul] at hqZ
          have d2 := JV.img.at 2
          simp only [List.getElem?_cons_zero, List.getElem?_cons_succ] at d2
          rw [hq] at JV
          clear gP hq
          obtain ⟨n, hn⟩ : ∃ n, q * P = n := ⟨_, rfl⟩
          have HNn : Hid (q * P = n) := hn
          rw [hn] at JV hqZ
          clear hn
          obtain ⟨po, pc, rfl⟩ := JV.lst.slice
          have HS : ∀ V, JS w w9 V NB W H rb n (LD n) (.slice po n pc) → ((V.cell? ⟨w.heap.size, 0, none⟩ = some (.int .i64 W) ∧ V.cell? ⟨w.heap.size, 1, none⟩ = some (.int .i64 H) ∧ V.cell? ⟨w.heap.size, 2, none⟩ = some (.int .i64 m) ∧ V.cell? ⟨w.heap.size, 3, none⟩ = some (.int .i64 qu) ∧ V.cell? ⟨w.heap.size, 4, none⟩ = some (.int .i64 i0) ∧ V.cell? ⟨w.heap.size, 5, none⟩ = some (.int .i64 c)) ∧ V.cell? ⟨NB, 3, none⟩ = some (.slice po n pc)) := fun V JV => have gP := HPk _ JV.but; have gI := JV.img; ⟨⟨gP.at 0, gP.at 1, gP.at 2, gP.at 3, gP.at 4, gP.at 5⟩, gI.at 3⟩
          have hai := HAI.out
          rcases hPr with ⟨rfl, rfl, hm1⟩ | ⟨rfl, rfl, hm1⟩
          · have hl := HG1.out hm1 (x : Int) (y : Int) q hx HQI.out (by rw [HNn.out]; exact hqZ)
            rw [HNn.out] at hl
            have hav := hai 0 (x : Int) (y : Int)
            obtain ⟨av, hav'⟩ : ∃ a, AF 0 (x : Int) (y : Int) = a := ⟨_, rfl⟩
            rw [hav'] at hav hl
            have ew : IntKind.u8.wrap av = av := by rw [IntKind.wrap_u8]; omega
            have HLD : Hid (LD (n + 1) = LD n ++ [av]) := hl
            replace HAT : Hid (∀ V, But Nowhere w V → Calls Try.prog 26 #[pV W H m qu i0 c, .slice ao N vcap, .int .i64 ((0 : Nat) : Int), .int .i64 (x : Int), .int .i64 (y : Int)] V fun e w' => e = .returned (.int .i64 av) ∧ But Nowhere V w') := fun V hb => by rw [← hav']; exact HAT.out V 0 (by omega) x y hx hy hb
            clear hl hav' hai hm1 hrb
            replace JV := JV.step (But.refl Nowhere _).drew
            go_wp2_with fail
            refine wp_region_till (S := fun V => (V.cell? ⟨w.heap.size, 0, none⟩ = some (.int .i64 W) ∧ V.cell? ⟨w.heap.size, 1, none⟩ = some (.int .i64 H) ∧ V.cell? ⟨w.heap.size, 2, none⟩ = some (.int .i64 m) ∧ V.cell? ⟨w.heap.size, 3, none⟩ = some (.int .i64 qu) ∧ V.cell? ⟨w.heap.size, 4, none⟩ = some (.int .i64 i0) ∧ V.cell? ⟨w.heap.size, 5, none⟩ = some (.int .i64 c)) ∧ V.cell? ⟨NB, 3, none⟩ = some (.slice po n pc)) (R := fun _ => True) (k := 11) (m := 100) (by kernel_rfl) (HS _ JV) trivial ?_
            (refine Walk.take (i := 0) (oi := { dst := some 39, op := Op.fieldAddr 34 (Operand.tmp 5) 3, type := 0, pos := "ref.go:166", after := #[], guard := none }) (v := ?_) rfl (by kernel_rfl) (by kernel_rfl) (by kernel_rfl) (by kernel_rfl) (fun _ _ _ h => h) (Or.inl ⟨by rfl, ?_⟩) ?_; rotate_left; (intro w hw; clear hw; (try go_split_ands); go_simp; try (with_reducible rfl)); simp only [Act.put, List.setIfInBounds_toArray, List.set_cons_zero, List.set_cons_succ])
            (refine Walk.take (i := 1) (oi := { dst := some 40, op := Op.load 30 (Operand.tmp 39), type := 30, pos := "ref.go:166", after := #[{ on := 0, ground := Ground.data }], guard := none }) (v := ?_) rfl (by kernel_rfl) (by kernel_rfl) (by kernel_rfl) (by kernel_rfl) (fun _ _ _ h => h) (Or.inl ⟨by rfl, ?_⟩) ?_; rotate_left; (intro w hw; have hS1 := hw.1 (by kernel_rfl); clear hw; (try dsimp only at hS1); (try go_split_ands); go_simp; try (with_reducible rfl)); simp only [Act.put, List.setIfInBounds_toArray, List.set_cons_zero, List.set_cons_succ])
            (refine Walk.take (i := 2) (oi := { dst := some 41, op := Op.load 23 (Operand.tmp 2), type := 23, pos := "ref.go:166", after := #[], guard := none }) (v := ?_) rfl (by kernel_rfl) (by kernel_rfl) (by kernel_rfl) (by kernel_rfl) (fun _ _ _ h => h) (Or.inl ⟨by rfl, ?_⟩) ?_; rotate_left; (intro w hw; have hS1 := hw.1 (by kernel_rfl); clear hw; (try dsimp only at hS1); (try go_split_ands); go_simp; try (with_reducible rfl)); simp only [Act.put, List.setIfInBounds_toArray, List.set_cons_zero, List.set_cons_succ])
            (refine Walk.take (i := 3) (oi := { dst := some 42, op := Op.move (Operand.tmp 1), type := 29, pos := "ref.go:166", after := #[], guard := none }) (v := ?_) rfl (by kernel_rfl) (by kernel_rfl) (by kernel_rfl) (by kernel_rfl) (fun _ _ _ h => h) (Or.inl ⟨by rfl, ?_⟩) ?_; rotate_left; (intro w hw; clear hw; (try go_split_ands); go_simp; try (with_reducible rfl)); simp only [Act.put, List.setIfInBounds_toArray, List.set_cons_zero, List.set_cons_succ])
            (refine Walk.take (i := 4) (oi := { dst := some 43, op := Op.move (Operand.tmp 7), type := 3, pos := "ref.go:166", after := #[], guard := none }) (v := ?_) rfl (by kernel_rfl) (by kernel_rfl) (by kernel_rfl) (by kernel_rfl) (fun _ _ _ h => h) (Or.inl ⟨by rfl, ?_⟩) ?_; rotate_left; (intro w hw; clear hw; (try go_split_ands); go_simp; try (with_reducible rfl)); simp only [Act.put, List.setIfInBounds_toArray, List.set_cons_zero, List.set_cons_succ])
            (refine Walk.take (i := 5) (oi := { dst := some 44, op := Op.move (Operand.tmp 6), type := 3, pos := "ref.go:166", after := #[], guard := none }) (v := ?_) rfl (by kernel_rfl) (by kernel_rfl) (by kernel_rfl) (by kernel_rfl) (fun _ _ _ h => h) (Or.inl ⟨by rfl, ?_⟩) ?_; rotate_left; (intro w hw; clear hw; (try go_split_ands); go_simp; try (with_reducible rfl)); simp only [Act.put, List.setIfInBounds_toArray, List.set_cons_zero, List.set_cons_succ])
            (refine Walk.go (i := 6) (o := { dst := some 45, op := Op.call { callee := Callee.value (Operand.func 26), args := #[Operand.tmp 41, Operand.tmp 42, Operand.const (Value.int IntKind.i64 0), Operand.tmp 43, Operand.tmp 44], argTypes := #[23, 29, 3, 3, 3] }, type := 3, pos := "ref.go:166", after := #[{ on := 2, ground := Ground.data }, { on := 3, ground := Ground.data }, { on := 4, ground := Ground.data }, { on := 5, ground := Ground.data }], guard := none }) (by kernel_rfl) rfl (fun K hK => ?_); go_simp; ((go_at_call 26; refine (HAT.out _ (HB9.out _ JV.but)).mono ?_; rintro ee x6 ⟨rfl, d⟩; replace JV := JV.step d; clear d)); refine hK.out _ _ (⟨fun _ => HS _ JV, fun _ => trivial⟩) ?_; clear hK K; try simp only [Act.put, List.setIfInBounds_toArray, List.set_cons_zero, List.set_cons_succ])
            (refine Walk.take (i := 7) (oi := { dst := some 46, op := Op.convert 3 5 (Operand.tmp 45), type := 5, pos := "ref.go:166", after := #[{ on := 6, ground := Ground.data }], guard := none }) (v := ?_) rfl (by kernel_rfl) (by kernel_rfl) (by kernel_rfl) (by kernel_rfl) (fun _ _ _ h => h) (Or.inl ⟨by rfl, ?_⟩) ?_; rotate_left; (intro w hw; clear hw; (try go_split_ands); go_simp; try (with_reducible rfl)); simp only [Act.put, List.setIfInBounds_toArray, List.set_cons_zero, List.set_cons_succ])
            obtain ⟨g4, cap4, W4, hrun, c4, f4, JV4, hkeep⟩ := JV.push (P := 1) [av] rfl (by omega) (by omega) _ rfl
            (refine Walk.go (i := 8) (o := { dst := some 47, op := Op.buildSlice 30 1 #[(0, Operand.tmp 46)], type := 30, pos := "ref.go:166", after := #[{ on := 7, ground := Ground.data }], guard := none }) (by kernel_rfl) rfl (fun K hK => ?_); refine wp_build_one Try.elemByte (.tmp 46) rfl (.int .u8 av) rfl [.int .u8 av] rfl rfl (by omega) _ rfl ?_; refine hK.out _ _ ⟨fun _ => HS _ (JV.step ((But.refl _ _).alloc _)), fun _ => trivial⟩ ?_; clear hK K; simp only [Act.put, List.setIfInBounds_toArray, List.set_cons_zero, List.set_cons_succ])
            (refine Walk.go (i := 9) (o := { dst := some 48, op := Op.call { callee := Callee.builtin Builtin.append, args := #[Operand.tmp 40, Operand.tmp 47], argTypes := #[30, 30] }, type := 30, pos := "ref.go:166", after := #[{ on := 1, ground := Ground.data }, { on := 8, ground := Ground.data }, { on := 6, ground := Ground.chain }], guard := none }) (by kernel_rfl) rfl (fun K hK => ?_); refine wp_append_run (.tmp 40) (.tmp 47) 30 rfl _ _ rfl rfl _ W4 hrun ?_; refine hK.out _ _ ⟨fun _ => ⟨⟨hkeep ⟨w.heap.size, 0, none⟩ _ hPB9 (HS _ JV).1.1, hkeep ⟨w.heap.size, 1, none⟩ _ hPB9 (HS _ JV).1.2.1, hkeep ⟨w.heap.size, 2, none⟩ _ hPB9 (HS _ JV).1.2.2.1, hkeep ⟨w.heap.size, 3, none⟩ _ hPB9 (HS _ JV).1.2.2.2.1, hkeep ⟨w.heap.size, 4, none⟩ _ hPB9 (HS _ JV).1.2.2.2.2.1, hkeep ⟨w.heap.size, 5, none⟩ _ hPB9 (HS _ JV).1.2.2.2.2.2⟩, c4⟩, fun _ => trivial⟩ ?_; clear hK K; simp only [Act.put, List.setIfInBounds_toArray, List.set_cons_zero, List.set_cons_succ])
            (refine Walk.take (i := 10) (oi := { dst := some 49, op := Op.fieldAddr 34 (Operand.tmp 5) 3, type := 0, pos := "ref.go:166", after := #[{ on := 0, ground := Ground.phase }, { on := 1, ground := Ground.phase }, { on := 2, ground := Ground.phase }, { on := 3, ground := Ground.phase }, { on := 4, ground := Ground.phase }, { on := 5, ground := Ground.phase }, { on := 6, ground := Ground.phase }, { on := 7, ground := Ground.phase }, { on := 8, ground := Ground.phase }, { on := 9, ground := Ground.phase }], guard := none }) (v := ?_) rfl (by kernel_rfl) (by kernel_rfl) (by kernel_rfl) (by kernel_rfl) (fun _ _ _ h => h) (Or.inl ⟨by rfl, ?_⟩) ?_; rotate_left; (intro w hw; clear hw; (try go_split_ands); go_simp; try (with_reducible rfl)); simp only [Act.put, List.setIfInBounds_toArray, List.set_cons_zero, List.set_cons_succ])
            (refine Walk.go (i := 11) (o := { dst := none, op := Op.store 30 (Operand.tmp 49) (Operand.tmp 48), type := 0, pos := "ref.go:166", after := #[{ on := 10, ground := Ground.data }, { on := 9, ground := Ground.data }, { on := 9, ground := Ground.chain }, { on := 0, ground := Ground.phase }, { on := 1, ground := Ground.phase }, { on := 2, ground := Ground.phase }, { on := 3, ground := Ground.phase }, { on := 4, ground := Ground.phase }, { on := 5, ground := Ground.phase }, { on := 6, ground := Ground.phase }, { on := 7, ground := Ground.phase }, { on := 8, ground := Ground.phase }, { on := 9, ground := Ground.phase }], guard := none }) (by kernel_rfl) rfl (fun K hK => ?_); go_simp; (skip); refine hK.out _ _ (⟨fun q => absurd q (by decide), fun _ => trivial⟩) ?_; clear hK K; try simp only [Act.put, List.setIfInBounds_toArray, List.set_cons_zero, List.set_cons_succ])
            refine Walk.done (by kernel_rfl) ?_ _
            have HE : Hid _ := JV4
            clear JV4 JV HS hkeep hrun c4 f4
            go_wp2_with fail
            go_roundw
            case rel => exact ⟨x + 1, by omega, by go_num, _, by rw [show (y * Wn + (x + 1)) * 1 = n + 1 by have := HQ.out; have := HNn.out; omega, HLD.out]; exact HE.out⟩
            case measure => simp [intOf]; omega
          · have hl := HG3.out hm1 (x : Int) (y : Int) q hx HQI.out (by rw [HNn.out]; exact hqZ)
            rw [HNn.out] at hl
            obtain ⟨a0, ha0⟩ : ∃ a, AF 0 (x : Int) (y : Int) = a := ⟨_, rfl⟩
            obtain ⟨a1, ha1⟩ : ∃ a, AF 1 (x : Int) (y : Int) = a := ⟨_, rfl⟩
            obtain ⟨a2, ha2⟩ : ∃ a, AF 2 (x : Int) (y : Int) = a := ⟨_, rfl⟩
            rw [ha0, ha1, ha2] at hl
            obtain ⟨b1, hb1⟩ : ∃ b, back1.of a0 a1 a2 = b := ⟨_, rfl⟩
            obtain ⟨b2, hb2⟩ : ∃ b, back2.of a0 a1 a2 = b := ⟨_, rfl⟩
            obtain ⟨b3, hb3⟩ : ∃ b, back3.of a0 a1 a2 = b := ⟨_, rfl⟩
            have v1 := of_in back1 a0 a1 a2
            have v2 := of_in back2 a0 a1 a2
            have v3 := of_in back3 a0 a1 a2
            rw [hb1] at v1
            rw [hb2] at v2
            rw [hb3] at v3
            rw [hb1, hb2, hb3] at hl
            have HBK : Hid (back1.of a0 a1 a2 = b1 ∧ back2.of a0 a1 a2 = b2 ∧ back3.of a0 a1 a2 = b3) := ⟨hb1, hb2, hb3⟩
            have ew1 : IntKind.u8.wrap b1 = b1 := by rw [IntKind.wrap_u8]; omega
            have ew2 : IntKind.u8.wrap b2 = b2 := by rw [IntKind.wrap_u8]; omega
            have ew3 : IntKind.u8.wrap b3 = b3 := by rw [IntKind.wrap_u8]; omega
            have HLD : Hid (LD (n + 3) = LD n ++ [b1, b2, b3]) := hl
            replace HAT : Hid (∀ V, But Nowhere w V → (Calls Try.prog 26 #[pV W H m qu i0 c, .slice ao N vcap, .int .i64 ((0 : Nat) : Int), .int .i64 (x : Int), .int .i64 (y : Int)] V (fun e w' => e = .returned (.int .i64 a0) ∧ But Nowhere V w') ∧ Calls Try.prog 26 #[pV W H m qu i0 c, .slice ao N vcap, .int .i64 ((1 : Nat) : Int), .int .i64 (x : Int), .int .i64 (y : Int)] V (fun e w' => e = .returned (.int .i64 a1) ∧ But Nowhere V w') ∧ Calls Try.prog 26 #[pV W H m qu i0 c, .slice ao N vcap, .int .i64 ((2 : Nat) : Int), .int .i64 (x : Int), .int .i64 (y : Int)] V (fun e w' => e = .returned (.int .i64 a2) ∧ But Nowhere V w'))) := fun V hb => by rw [← ha0, ← ha1, ← ha2]; exact ⟨HAT.out V 0 (by omega) x y hx hy hb, HAT.out V 1 (by omega) x y hx hy hb, HAT.out V 2 (by omega) x y hx hy hb⟩
            clear hl ha0 ha1 ha2 hb1 hb2 hb3 hai hm1 hrb v1 v2 v3
            replace JV := JV.step (But.refl Nowhere _).drew
            go_wp2_with fail
            refine wp_region_till (S := fun V => (V.cell? ⟨w.heap.size, 0, none⟩ = some (.int .i64 W) ∧ V.cell? ⟨w.heap.size, 1, none⟩ = some (.int .i64 H) ∧ V.cell? ⟨w.heap.size, 2, none⟩ = some (.int .i64 m) ∧ V.cell? ⟨w.heap.size, 3, none⟩ = some (.int .i64 qu) ∧ V.cell? ⟨w.heap.size, 4, none⟩ = some (.int .i64 i0) ∧ V.cell? ⟨w.heap.size, 5, none⟩ = some (.int .i64 c)) ∧ V.cell? ⟨NB, 3, none⟩ = some (.slice po n pc)) (R := fun _ => True) (k := 100) (m := 100) (by kernel_rfl) (HS _ JV) trivial ?_
            (refine Walk.take (i := 0) (oi := { dst := some 51, op := Op.load 23 (Operand.tmp 2), type := 23, pos := "ref.go:169", after := #[], guard := none }) (v := ?_) rfl (by kernel_rfl) (by kernel_rfl) (by kernel_rfl) (by kernel_rfl) (fun _ _ _ h => h) (Or.inl ⟨by rfl, ?_⟩) ?_; rotate_left; (intro w hw; have hS1 := hw.1 (by kernel_rfl); clear hw; (try dsimp only at hS1); (try go_split_ands); go_simp; try (with_reducible rfl)); simp only [Act.put, List.setIfInBounds_toArray, List.set_cons_zero, List.set_cons_succ])
            (refine Walk.take (i := 1) (oi := { dst := some 52, op := Op.move (Operand.tmp 1), type := 29, pos := "ref.go:169", after := #[], guard := none }) (v := ?_) rfl (by kernel_rfl) (by kernel_rfl) (by kernel_rfl) (by kernel_rfl) (fun _ _ _ h => h) (Or.inl ⟨by rfl, ?_⟩) ?_; rotate_left; (intro w hw; clear hw; (try go_split_ands); go_simp; try (with_reducible rfl)); simp only [Act.put, List.setIfInBounds_toArray, List.set_cons_zero, List.set_cons_succ])
            (refine Walk.take (i := 2) (oi := { dst := some 53, op := Op.move (Operand.tmp 7), type := 3, pos := "ref.go:169", after := #[], guard := none }) (v := ?_) rfl (by kernel_rfl) (by kernel_rfl) (by kernel_rfl) (by kernel_rfl) (fun _ _ _ h => h) (Or.inl ⟨by rfl, ?_⟩) ?_; rotate_left; (intro w hw; clear hw; (try go_split_ands); go_simp; try (with_reducible rfl)); simp only [Act.put, List.setIfInBounds_toArray, List.set_cons_zero, List.set_cons_succ])
            (refine Walk.take (i := 3) (oi := { dst := some 54, op := Op.move (Operand.tmp 6), type := 3, pos := "ref.go:169", after := #[], guard := none }) (v := ?_) rfl (by kernel_rfl) (by kernel_rfl) (by kernel_rfl) (by kernel_rfl) (fun _ _ _ h => h) (Or.inl ⟨by rfl, ?_⟩) ?_; rotate_left; (intro w hw; clear hw; (try go_split_ands); go_simp; try (with_reducible rfl)); simp only [Act.put, List.setIfInBounds_toArray, List.set_cons_zero, List.set_cons_succ])
            (refine Walk.take (i := 5) (oi := { dst := some 56, op := Op.load 23 (Operand.tmp 2), type := 23, pos := "ref.go:169", after := #[], guard := none }) (v := ?_) rfl (by kernel_rfl) (by kernel_rfl) (by kernel_rfl) (by kernel_rfl) (fun _ _ _ h => h) (Or.inl ⟨by rfl, ?_⟩) ?_; rotate_left; (intro w hw; have hS1 := hw.1 (by kernel_rfl); clear hw; (try dsimp only at hS1); (try go_split_ands); go_simp; try (with_reducible rfl)); simp only [Act.put, List.setIfInBounds_toArray, List.set_cons_zero, List.set_cons_succ])
            (refine Walk.take (i := 6) (oi := { dst := some 57, op := Op.move (Operand.tmp 1), type := 29, pos := "ref.go:169", after := #[], guard := none }) (v := ?_) rfl (by kernel_rfl) (by kernel_rfl) (by kernel_rfl) (by kernel_rfl) (fun _ _ _ h => h) (Or.inl ⟨by rfl, ?_⟩) ?_; rotate_left; (intro w hw; clear hw; (try go_split_ands); go_simp; try (with_reducible rfl)); simp only [Act.put, List.setIfInBounds_toArray, List.set_cons_zero, List.set_cons_succ])
            (refine Walk.take (i := 7) (oi := { dst := some 58, op := Op.move (Operand.tmp 7), type := 3, pos := "ref.go:169", after := #[], guard := none }) (v := ?_) rfl (by kernel_rfl) (by kernel_rfl) (by kernel_rfl) (by kernel_rfl) (fun _ _ _ h => h) (Or.inl ⟨by rfl, ?_⟩) ?_; rotate_left; (intro w hw; clear hw; (try go_split_ands); go_simp; try (with_reducible rfl)); simp only [Act.put, List.setIfInBounds_toArray, List.set_cons_zero, List.set_cons_succ])
            (refine Walk.take (i := 8) (oi := { dst := some 59, op := Op.move (Operand.tmp 6), type := 3, pos := "ref.go:169", after := #[], guard := none }) (v := ?_) rfl (by kernel_rfl) (by kernel_rfl) (by kernel_rfl) (by kernel_rfl) (fun _ _ _ h => h) (Or.inl ⟨by rfl, ?_⟩) ?_; rotate_left; (intro w hw; clear hw; (try go_split_ands); go_simp; try (with_reducible rfl)); simp only [Act.put, List.setIfInBounds_toArray, List.set_cons_zero, List.set_cons_succ])
            (refine Walk.take (i := 10) (oi := { dst := some 61, op := Op.load 23 (Operand.tmp 2), type := 23, pos := "ref.go:169", after := #[], guard := none }) (v := ?_) rfl (by kernel_rfl) (by kernel_rfl) (by kernel_rfl) (by kernel_rfl) (fun _ _ _ h => h) (Or.inl ⟨by rfl, ?_⟩) ?_; rotate_left; (intro w hw; have hS1 := hw.1 (by kernel_rfl); clear hw; (try dsimp only at hS1); (try go_split_ands); go_simp; try (with_reducible rfl)); simp only [Act.put, List.setIfInBounds_toArray, List.set_cons_zero, List.set_cons_succ])
            (refine Walk.take (i := 11) (oi := { dst := some 62, op := Op.move (Operand.tmp 1), type := 29, pos := "ref.go:169", after := #[], guard := none }) (v := ?_) rfl (by kernel_rfl) (by kernel_rfl) (by kernel_rfl) (by kernel_rfl) (fun _ _ _ h => h) (Or.inl ⟨by rfl, ?_⟩) ?_; rotate_left; (intro w hw; clear hw; (try go_split_ands); go_simp; try (with_reducible rfl)); simp only [Act.put, List.setIfInBounds_toArray, List.set_cons_zero, List.set_cons_succ])
            (refine Walk.take (i := 12) (oi := { dst := some 63, op := Op.move (Operand.tmp 7), type := 3, pos := "ref.go:169", after := #[], guard := none }) (v := ?_) rfl (by kernel_rfl) (by kernel_rfl) (by kernel_rfl) (by kernel_rfl) (fun _ _ _ h => h) (Or.inl ⟨by rfl, ?_⟩) ?_; rotate_left; (intro w hw; clear hw; (try go_split_ands); go_simp; try (with_reducible rfl)); simp only [Act.put, List.setIfInBounds_toArray, List.set_cons_zero, List.set_cons_succ])
            (refine Walk.take (i := 13) (oi := { dst := some 64, op := Op.move (Operand.tmp 6), type := 3, pos := "ref.go:169", after := #[], guard := none }) (v := ?_) rfl (by kernel_rfl) (by kernel_rfl) (by kernel_rfl) (by kernel_rfl) (fun _ _ _ h => h) (Or.inl ⟨by rfl, ?_⟩) ?_; rotate_left; (intro w hw; clear hw; (try go_split_ands); go_simp; try (with_reducible rfl)); simp only [Act.put, List.setIfInBounds_toArray, List.set_cons_zero, List.set_cons_succ])
            (refine Walk.go (i := 4) (o := { dst := some 55, op := Op.call { callee := Callee.value (Operand.func 26), args := #[Operand.tmp 51, Operand.tmp 52, Operand.const (Value.int IntKind.i64 0), Operand.tmp 53, Operand.tmp 54], argTypes := #[23, 29, 3, 3, 3] }, type := 3, pos := "ref.go:169", after := #[{ on := 0, ground := Ground.data }, { on := 1, ground := Ground.data }, { on := 2, ground := Ground.data }, { on := 3, ground := Ground.data }], guard := none }) (by kernel_rfl) rfl (fun K hK => ?_); go_simp; ((go_at_call 26; refine ((HAT.out _ (HB9.out _ JV.but)).1).mono ?_; rintro ee x4 ⟨rfl, d⟩; replace JV := JV.step d; clear d)); refine hK.out _ _ (⟨fun _ => HS _ JV, fun _ => trivial⟩) ?_; clear hK K; try simp only [Act.put, List.setIfInBounds_toArray, List.set_cons_zero, List.set_cons_succ])
            (refine Walk.go (i := 9) (o := { dst := some 60, op := Op.call { callee := Callee.value (Operand.func 26), args := #[Operand.tmp 56, Operand.tmp 57, Operand.const (Value.int IntKind.i64 1), Operand.tmp 58, Operand.tmp 59], argTypes := #[23, 29, 3, 3, 3] }, type := 3, pos := "ref.go:169", after := #[{ on := 5, ground := Ground.data }, { on := 6, ground := Ground.data }, { on := 7, ground := Ground.data }, { on := 8, ground := Ground.data }, { on := 4, ground := Ground.chain }], guard := none }) (by kernel_rfl) rfl (fun K hK => ?_); go_simp; ((go_at_call 26; refine ((HAT.out _ (HB9.out _ JV.but)).2.1).mono ?_; rintro ee x9 ⟨rfl, d⟩; replace JV := JV.step d; clear d)); refine hK.out _ _ (⟨fun _ => HS _ JV, fun _ => trivial⟩) ?_; clear hK K; try simp only [Act.put, List.setIfInBounds_toArray, List.set_cons_zero, List.set_cons_succ])
            (refine Walk.go (i := 14) (o := { dst := some 65, op := Op.call { callee := Callee.value (Operand.func 26), args := #[Operand.tmp 61, Operand.tmp 62, Operand.const (Value.int IntKind.i64 2), Operand.tmp 63, Operand.tmp 64], argTypes := #[23, 29, 3, 3, 3] }, type := 3, pos := "ref.go:169", after := #[{ on := 10, ground := Ground.data }, { on := 11, ground := Ground.data }, { on := 12, ground := Ground.data }, { on := 13, ground := Ground.data }, { on := 9, ground := Ground.chain }], guard := none }) (by kernel_rfl) rfl (fun K hK => ?_); go_simp; ((go_at_call 26; refine ((HAT.out _ (HB9.out _ JV.but)).2.2).mono ?_; rintro ee x14 ⟨rfl, d⟩; replace JV := JV.step d; clear d)); refine hK.out _ _ (⟨fun _ => HS _ JV, fun _ => trivial⟩) ?_; clear hK K; try simp only [Act.put, List.setIfInBounds_toArray, List.set_cons_zero, List.set_cons_succ])
            (refine Walk.go (i := 15) (o := { dst := some 66, op := Op.call { callee := Callee.value (Operand.func 27), args := #[Operand.tmp 55, Operand.tmp 60, Operand.tmp 65], argTypes := #[3, 3, 3] }, type := 56, pos := "ref.go:169", after := #[{ on := 4, ground := Ground.data }, { on := 9, ground := Ground.data }, { on := 14, ground := Ground.data }, { on := 14, ground := Ground.chain }], guard := none }) (by kernel_rfl) rfl (fun K hK => ?_); go_simp; ((go_at_call 27; refine (refBack_any _ _ _ _).mono ?_; rintro ee x15 ⟨rfl, d⟩; replace JV := JV.step d; clear d)); refine hK.out _ _ (⟨fun _ => HS _ JV, fun _ => trivial⟩) ?_; clear hK K; try simp only [Act.put, List.setIfInBounds_toArray, List.set_cons_zero, List.set_cons_succ])
            (refine Walk.take (i := 16) (oi := { dst := some 50, op := Op.move (Operand.tmp 66), type := 56, pos := "ref.go:169", after := #[{ on := 15, ground := Ground.data }], guard := none }) (v := ?_) rfl (by kernel_rfl) (by kernel_rfl) (by kernel_rfl) (by kernel_rfl) (fun _ _ _ h => h) (Or.inl ⟨by rfl, ?_⟩) ?_; rotate_left; (intro w hw; clear hw; (try go_split_ands); go_simp; try (with_reducible rfl)); simp only [Act.put, List.setIfInBounds_toArray, List.set_cons_zero, List.set_cons_succ])
            (refine Walk.take (i := 17) (oi := { dst := some 67, op := Op.extract (Operand.tmp 50) 0, type := 3, pos := "ref.go:169", after := #[{ on := 16, ground := Ground.data }], guard := none }) (v := ?_) rfl (by kernel_rfl) (by kernel_rfl) (by kernel_rfl) (by kernel_rfl) (fun _ _ _ h => h) (Or.inl ⟨by rfl, ?_⟩) ?_; rotate_left; (intro w hw; clear hw; (try go_split_ands); go_simp; try (with_reducible rfl)); simp only [Act.put, List.setIfInBounds_toArray, List.set_cons_zero, List.set_cons_succ])
            (refine Walk.take (i := 18) (oi := { dst := some 68, op := Op.extract (Operand.tmp 50) 1, type := 3, pos := "ref.go:169", after := #[{ on := 16, ground := Ground.data }, { on := 20, ground := Ground.gcOnly Departure.lateStores }], guard := none }) (v := ?_) rfl (by kernel_rfl) (by kernel_rfl) (by kernel_rfl) (by kernel_rfl) (fun _ _ _ h => h) (Or.inl ⟨by rfl, ?_⟩) ?_; rotate_left; (intro w hw; clear hw; (try go_split_ands); go_simp; try (with_reducible rfl)); simp only [Act.put, List.setIfInBounds_toArray, List.set_cons_zero, List.set_cons_succ])
            (refine Walk.take (i := 19) (oi := { dst := some 69, op := Op.extract (Operand.tmp 50) 2, type := 3, pos := "ref.go:169", after := #[{ on := 16, ground := Ground.data }, { on := 21, ground := Ground.gcOnly Departure.lateStores }], guard := none }) (v := ?_) rfl (by kernel_rfl) (by kernel_rfl) (by kernel_rfl) (by kernel_rfl) (fun _ _ _ h => h) (Or.inl ⟨by rfl, ?_⟩) ?_; rotate_left; (intro w hw; clear hw; (try go_split_ands); go_simp; try (with_reducible rfl)); simp only [Act.put, List.setIfInBounds_toArray, List.set_cons_zero, List.set_cons_succ])
            (refine Walk.take (i := 20) (oi := { dst := some 8, op := Op.assign (Operand.tmp 67), type := 3, pos := "ref.go:169", after := #[{ on := 17, ground := Ground.data }, { on := 15, ground := Ground.chain }, { on := 0, ground := Ground.phase }, { on := 1, ground := Ground.phase }, { on := 2, ground := Ground.phase }, { on := 3, ground := Ground.phase }, { on := 4, ground := Ground.phase }, { on := 5, ground := Ground.phase }, { on := 6, ground := Ground.phase }, { on := 7, ground := Ground.phase }, { on := 8, ground := Ground.phase }, { on := 9, ground := Ground.phase }, { on := 10, ground := Ground.phase }, { on := 11, ground := Ground.phase }, { on := 12, ground := Ground.phase }, { on := 13, ground := Ground.phase }, { on := 14, ground := Ground.phase }, { on := 15, ground := Ground.phase }, { on := 16, ground := Ground.phase }, { on := 17, ground := Ground.phase }, { on := 18, ground := Ground.textOnly Departure.lateStores }, { on := 19, ground := Ground.textOnly Departure.lateStores }], guard := none }) (v := ?_) rfl (by kernel_rfl) (by kernel_rfl) (by kernel_rfl) (by kernel_rfl) (fun _ _ _ h => h) (Or.inl ⟨by rfl, ?_⟩) ?_; rotate_left; (intro w hw; clear hw; (try go_split_ands); go_simp; try (with_reducible rfl)); simp only [Act.put, List.setIfInBounds_toArray, List.set_cons_zero, List.set_cons_succ])
            (refine Walk.take (i := 21) (oi := { dst := some 9, op := Op.assign (Operand.tmp 68), type := 3, pos := "ref.go:169", after := #[{ on := 18, ground := Ground.data }, { on := 20, ground := Ground.chain }, { on := 0, ground := Ground.phase }, { on := 1, ground := Ground.phase }, { on := 2, ground := Ground.phase }, { on := 3, ground := Ground.phase }, { on := 4, ground := Ground.phase }, { on := 5, ground := Ground.phase }, { on := 6, ground := Ground.phase }, { on := 7, ground := Ground.phase }, { on := 8, ground := Ground.phase }, { on := 9, ground := Ground.phase }, { on := 10, ground := Ground.phase }, { on := 11, ground := Ground.phase }, { on := 12, ground := Ground.phase }, { on := 13, ground := Ground.phase }, { on := 14, ground := Ground.phase }, { on := 15, ground := Ground.phase }, { on := 16, ground := Ground.phase }, { on := 17, ground := Ground.phase }, { on := 18, ground := Ground.phase }, { on := 19, ground := Ground.textOnly Departure.lateStores }, { on := 20, ground := Ground.phase }], guard := none }) (v := ?_) rfl (by kernel_rfl) (by kernel_rfl) (by kernel_rfl) (by kernel_rfl) (fun _ _ _ h => h) (Or.inl ⟨by rfl, ?_⟩) ?_; rotate_left; (intro w hw; clear hw; (try go_split_ands); go_simp; try (with_reducible rfl)); simp only [Act.put, List.setIfInBounds_toArray, List.set_cons_zero, List.set_cons_succ])
            (refine Walk.take (i := 22) (oi := { dst := some 10, op := Op.assign (Operand.tmp 69), type := 3, pos := "ref.go:169", after := #[{ on := 19, ground := Ground.data }, { on := 21, ground := Ground.chain }, { on := 0, ground := Ground.phase }, { on := 1, ground := Ground.phase }, { on := 2, ground := Ground.phase }, { on := 3, ground := Ground.phase }, { on := 4, ground := Ground.phase }, { on := 5, ground := Ground.phase }, { on := 6, ground := Ground.phase }, { on := 7, ground := Ground.phase }, { on := 8, ground := Ground.phase }, { on := 9, ground := Ground.phase }, { on := 10, ground := Ground.phase }, { on := 11, ground := Ground.phase }, { on := 12, ground := Ground.phase }, { on := 13, ground := Ground.phase }, { on := 14, ground := Ground.phase }, { on := 15, ground := Ground.phase }, { on := 16, ground := Ground.phase }, { on := 17, ground := Ground.phase }, { on := 18, ground := Ground.phase }, { on := 19, ground := Ground.phase }, { on := 20, ground := Ground.phase }, { on := 21, ground := Ground.phase }], guard := none }) (v := ?_) rfl (by kernel_rfl) (by kernel_rfl) (by kernel_rfl) (by kernel_rfl) (fun _ _ _ h => h) (Or.inl ⟨by rfl, ?_⟩) ?_; rotate_left; (intro w hw; clear hw; (try go_split_ands); go_simp; try (with_reducible rfl)); simp only [Act.put, List.setIfInBounds_toArray, List.set_cons_zero, List.set_cons_succ])
            refine Walk.done (by kernel_rfl) ?_ _
            rw [HBK.out.1, HBK.out.2.1, HBK.out.2.2]
            obtain ⟨g4, cap4, W4, hrun, c4, f4, JV4, hkeep⟩ := JV.push (P := 3) [b1, b2, b3] rfl (by omega) (by omega) _ rfl
            simp only [ints, List.map_cons, List.map_nil] at hrun
            have HRUN : Hid _ := hrun
            clear hrun
            have e3 := JV.img.at 3
            simp only [List.getElem?_cons_zero, List.getElem?_cons_succ] at e3
            have HE : Hid _ := JV4
            clear JV4 JV HS hkeep
            go_wp2_with (refine wpList_append_run rfl (.tmp 71) (.tmp 78) 30 rfl (.slice po n pc) (.slice (some ⟨x15.heap.size, 0, none⟩) 3 3) rfl rfl (.slice (some ⟨g4, 0, none⟩) (n + 3) cap4) W4 HRUN.out ?_)
            go_roundw
            case rel => exact ⟨x + 1, by omega, by go_num, _, by rw [show (y * Wn + (x + 1)) * 3 = n + 3 by have := HQ.out; have := HNn.out; omega, HLD.out]; exact HE.out⟩
            case measure => simp [intOf]; omega
        · obtain rfl : x = Wn := by omega
          have hx1 : ¬ (x : Int) < W := by have := HWn.out.1; omega
          clear gP
          go_wp2_with fail
          clear c0
          go_roundw
          case rel => exact ⟨y + 1, by omega, by go_num, pv, by rw [show (y + 1) * x * P = (y * x + x) * P by rw [Nat.add_mul y 1 x, Nat.one_mul]]; exact JV⟩
          case measure => simp [intOf]; omega
    · obtain rfl : y = Hn := by omega
      have hy1 : ¬ (y : Int) < H := by have := HHn.out; omega
      have hyZ : y * Wn * P = Z := by rw [← hZn, Nat.mul_comm y Wn]
      rw [hyZ] at JV
      obtain ⟨po, pc, rfl⟩ := JV.lst.slice
      have hown := JV.lst.own
      rw [HLZ.out] at hown
      have hV : View wr .u8 (.slice po Z pc) JL := View.of_owns (by rw [HJLl.out]; exact hown)
      have gR := HRk.out _ JV.but
      have gI := JV.img
      have d0 := gI.at 0
      have d1 := gI.at 1
      have d2 := gI.at 2
      have d3 := gI.at 3
      have e0 := gR.at 0
      have e1 := gR.at 1
      have e2 := gR.at 2
      have e3 := gR.at 3
      have f0 := gR.frozen 0
      have f1 := gR.frozen 1
      have f2 := gR.frozen 2
      have f3 := gR.frozen 3
      simp only [List.getElem?_cons_zero, List.getElem?_cons_succ] at d0 d1 d2 d3 e0 e1 e2 e3
      have g9 := (((gR.set 0 (.int .i64 W)).set 1 (.int .i64 H)).set 2 (.bool rb)).set 3 (.slice po Z pc)
      simp only [List.set_cons_zero, List.set_cons_succ] at g9
      have bS : But (fun x => x = w.heap.size + 1) wr ((((wr.setCell ⟨w.heap.size + 1, 0, none⟩ (.int .i64 W)).setCell ⟨w.heap.size + 1, 1, none⟩ (.int .i64 H)).setCell ⟨w.heap.size + 1, 2, none⟩ (.bool rb)).setCell ⟨w.heap.size + 1, 3, none⟩ (.slice po Z pc)) :=
        ((((But.refl (fun x => x = w.heap.size + 1) wr).setCell (S := fun x => x = w.heap.size + 1) (p := ⟨w.heap.size + 1, 0, none⟩) (fun _ => rfl) _).setCell (S := fun x => x = w.heap.size + 1) (p := ⟨w.heap.size + 1, 1, none⟩) (fun _ => rfl) _).setCell (S := fun x => x = w.heap.size + 1) (p := ⟨w.heap.size + 1, 2, none⟩) (fun _ => rfl) _).setCell (S := fun x => x = w.heap.size + 1) (p := ⟨w.heap.size + 1, 3, none⟩) (fun _ => rfl) _
      have hV9 := hV.butS bS (fun b off sp n cap e _ => by cases e; have := JV.new b rfl; omega)
      have b9 := (HB9.out _ JV.but).step bS (fun k hk e => by omega)
      have HF : Hid _ := And.intro g9 (And.intro hV9 b9)
      clear g9 bS hV9 b9 hV gR gI JV hown
      go_wp2_with fail
      exact bodyPost_ret (results_cells rfl HF.out.1 hu rfl (by kernel_rfl) _ rfl) rfl ⟨⟨_, rfl, HF.out.2.1⟩, HF.out.2.2⟩

set_option maxHeartbeats 1600000 in
set_option maxRecDepth 100000 in
theorem refJoin_no (W H m q i c : Int) (vo : Option Addr) (n vc : Nat) (w : World) (HW : ∀ V, But Nowhere w V → Calls Try.prog 25 #[pV W H m q i c, .slice vo n vc] V fun e w' => e = .returned (.bool false) ∧ But Nowhere V w') : Calls Try.prog 11 #[pV W H m q i c, .slice vo n vc] w fun e w' => e = .returned (imV 0 0 false (.slice none 0 0)) ∧ But Nowhere w w' := by
  have hu := Try.underlying34
  have kk := ((Keep.start w).made 23 (pC W H m q i c)).made 34 (imC 0 0 false (.slice none 0 0))
  simp only [World.size_alloc] at kk
  have HWI := HW _ kk.but
  clear HW
  go_enter Try.func11, Try.ntmps11
  go_wp2_with fail
  refine HWI.mono ?_
  rintro e w1 ⟨rfl, b1⟩
  replace kk := kk.step b1
  clear b1 HWI
  have d0 := kk.head.at 0
  have d1 := kk.head.at 1
  have d2 := kk.head.at 2
  have d3 := kk.head.at 3
  have f0 := kk.head.frozen 0
  have f1 := kk.head.frozen 1
  have f2 := kk.head.frozen 2
  have f3 := kk.head.frozen 3
  simp only [List.getElem?_cons_zero, List.getElem?_cons_succ] at d0 d1 d2 d3
  replace kk := (((kk.set 0 (.int .i64 0)).set 1 (.int .i64 0)).set 2 (.bool false)).set 3 (.slice none 0 0)
  simp only [List.set_cons_zero, List.set_cons_succ] at kk
  go_wp2_with fail
  exact bodyPost_ret (results_cells rfl kk.head hu rfl (by kernel_rfl) _ rfl) rfl ⟨rfl, kk.but⟩

/-- Join, the program's and the document's, of any public numbers and any blocks. -/
theorem join_both (W H m q i c : Int) (v : Value) (n : Nat) (L : Nat → Nat) (F : Nat → Nat → Int) : ∃ (A B : Int) (r : Bool) (l : List Int),
    (∀ V, BA V v n L F → Calls Try.prog 16 #[pV W H m q i c, v] V fun e w' => (∃ pv, e = .returned (imV A B r pv) ∧ View w' .u8 pv l) ∧ But Nowhere V w') ∧
    (∀ V, BA V v n L F → Calls Try.prog 11 #[pV W H m q i c, v] V fun e w' => (∃ pv, e = .returned (imV A B r pv) ∧ View w' .u8 pv l) ∧ But Nowhere V w') := by
  have empty : (∀ V, BA V v n L F → Calls Try.prog 33 #[pV W H m q i c, v] V fun e w' => e = .returned (.bool false) ∧ But Nowhere V w') → (∀ V, BA V v n L F → Calls Try.prog 25 #[pV W H m q i c, v] V fun e w' => e = .returned (.bool false) ∧ But Nowhere V w') → ∃ (A B : Int) (r : Bool) (l : List Int),
      (∀ V, BA V v n L F → Calls Try.prog 16 #[pV W H m q i c, v] V fun e w' => (∃ pv, e = .returned (imV A B r pv) ∧ View w' .u8 pv l) ∧ But Nowhere V w') ∧
      (∀ V, BA V v n L F → Calls Try.prog 11 #[pV W H m q i c, v] V fun e w' => (∃ pv, e = .returned (imV A B r pv) ∧ View w' .u8 pv l) ∧ But Nowhere V w') := fun h1 h2 => by
    refine ⟨0, 0, false, [], fun V hV => ?_, fun V hV => ?_⟩
    · have hw := fun V' (hb : But Nowhere V V') => h1 V' (hV.but hb)
      obtain ⟨ao, vcap, rfl, -⟩ := hV
      refine (planeJoin_no W H m q i c ao n vcap V hw).mono ?_
      rintro e w' ⟨rfl, b⟩
      exact ⟨⟨_, rfl, View.nil _ _⟩, b⟩
    · have hw := fun V' (hb : But Nowhere V V') => h2 V' (hV.but hb)
      obtain ⟨ao, vcap, rfl, -⟩ := hV
      refine (refJoin_no W H m q i c ao n vcap V hw).mono ?_
      rintro e w' ⟨rfl, b⟩
      exact ⟨⟨_, rfl, View.nil _ _⟩, b⟩
  by_cases f : Fit W H m
  · by_cases hw : n = (gridW W H m * gridH W H m).toNat ∧ ∀ i, i < n → L i = (unitL m).length
    · obtain ⟨hn, hL⟩ := hw
      obtain ⟨Z, hZ⟩ : ∃ Z : Nat, W * H * (partsN m : Int) = Z := ⟨(W * H * (partsN m : Int)).toNat, by have := f.w; have := f.h; have : 0 ≤ W * H * (partsN m : Int) := Int.mul_nonneg (Int.mul_nonneg (by omega) (by omega)) (by omega); omega⟩
      refine ⟨W, H, m != 1, joinL W H m F Z, fun V hV => ?_, fun V hV => ?_⟩
      · exact planeJoin_yes W H m q i c f v F Z n (unitL m).length V hZ hn.symm rfl (hV.congr hL (fun _ _ _ _ => rfl))
      · exact refJoin_yes W H m q i c f v F Z n (unitL m).length V hZ hn.symm rfl (hV.congr hL (fun _ _ _ _ => rfl))
    · refine empty (fun V hV => ?_) (fun V hV => ?_)
      · by_cases hn : n = (gridW W H m * gridH W H m).toNat
        · refine (isWholeB W H m q i c f v L F V (by rw [← hn]; exact hV)).mono ?_
          rintro e w' ⟨⟨r, rfl, hr⟩, b⟩
          rcases hr with ⟨-, h1⟩ | ⟨rfl, -⟩
          · exact absurd ⟨hn, fun i hi => h1 i (by rw [← hn]; exact hi)⟩ hw
          · exact ⟨rfl, b⟩
        · obtain ⟨ao, vcap, rfl, -⟩ := hV
          exact isWhole_not W H m q i c f ao n vcap hn V
      · refine (refWhole_fit W H m q i c f v n L F V hV).mono ?_
        rintro e w' ⟨⟨r, rfl, hr⟩, b⟩
        rcases hr with ⟨-, h1⟩ | ⟨rfl, -⟩
        · exact absurd h1 hw
        · exact ⟨rfl, b⟩
  · refine empty (fun V hV => ?_) (fun V hV => ?_)
    · obtain ⟨ao, vcap, rfl, -⟩ := hV
      exact isWhole_none W H m q i c f ao n vcap V
    · obtain ⟨ao, vcap, rfl, -⟩ := hV
      exact refWhole_none W H m q i c f ao n vcap V

end Go.Proofs.Ytppbnmlgilgnnaa

/- Join of any blocks for public numbers that fit: the program's, the document's, and of secrets. -/
namespace Go.Proofs.Ytppbnmlgilgnnaa
open Go.ChangeShapes Go.WideShapes Go.ChangeAt Go.RowKit

theorem grid_tiny {W H m : Int} (f : Fit W H m) (hW : W ≤ 40) (hH : H ≤ 24) : (gridW W H m * gridH W H m).toNat ≤ 1000 := by
  obtain ⟨e1, e2, g3, -, g5, -⟩ := f.grid
  have fm := f.m
  have s : sideW m = 8 ∨ sideW m = 16 := by unfold sideW; (repeat' split) <;> omega
  have t : sideH m = 8 ∨ sideH m = 16 := by unfold sideH; (repeat' split) <;> omega
  have a : gridW W H m ≤ 6 := by rw [e1]; unfold ceilF; rcases s with s | s <;> rw [s] <;> split <;> omega
  have b : gridH W H m ≤ 4 := by rw [e2]; unfold ceilF; rcases t with t | t <;> rw [t] <;> split <;> omega
  have : gridW W H m * gridH W H m ≤ 6 * 4 := Int.mul_le_mul a b (by omega) (by omega)
  omega

theorem join_three (W H m q i c : Int) (f : Fit W H m) (v : Value) (n : Nat) (L : Nat → Nat) (F : Nat → Nat → Int) (hF : ∀ i j, I64 (F i j)) : ∃ (A B : Int) (r : Bool) (l : List Int), ((∀ x ∈ l, 0 ≤ x ∧ x ≤ 255) ∧ l.length ≤ 4000000) ∧
    (∀ V, BA V v n L F → Calls Try.prog 16 #[pV W H m q i c, v] V fun e w' => (∃ pv, e = .returned (imV A B r pv) ∧ View w' .u8 pv l) ∧ But Nowhere V w') ∧
    (∀ V, BA V v n L F → Calls Try.prog 11 #[pV W H m q i c, v] V fun e w' => (∃ pv, e = .returned (imV A B r pv) ∧ View w' .u8 pv l) ∧ But Nowhere V w') ∧
    (∀ V v2, BA V v2 n L F → Calls Try.prog 12 #[pV W H m q i c, v2] V fun e w' => (∃ v', e = .returned v' ∧ View w' .i64 v' l) ∧ But Nowhere V w') := by
  by_cases hw : n = (gridW W H m * gridH W H m).toNat ∧ ∀ i, i < n → L i = (unitL m).length
  · obtain ⟨hn, hL⟩ := hw
    obtain ⟨Z, hZ⟩ : ∃ Z : Nat, W * H * (partsN m : Int) = Z := ⟨(W * H * (partsN m : Int)).toNat, by have := f.w; have := f.h; have : 0 ≤ W * H * (partsN m : Int) := Int.mul_nonneg (Int.mul_nonneg (by omega) (by omega)) (by omega); omega⟩
    have hZ3 : Z ≤ 4000000 := by
      have h1 := f.s
      have h2 : partsN m ≤ 3 := by unfold partsN; split <;> omega
      have : W * H * (partsN m : Int) ≤ 1048576 * 3 := Int.mul_le_mul h1 (by omega) (by omega) (by omega)
      omega
    refine ⟨W, H, m != 1, joinL W H m F Z, ⟨joinL_in W H m F Z, by rw [joinL_length]; exact hZ3⟩, fun V hV => ?_, fun V hV => ?_, fun V v2 hV => ?_⟩
    · exact planeJoin_yes W H m q i c f v F Z n (unitL m).length V hZ hn.symm rfl (hV.congr hL (fun _ _ _ _ => rfl))
    · exact refJoin_yes W H m q i c f v F Z n (unitL m).length V hZ hn.symm rfl (hV.congr hL (fun _ _ _ _ => rfl))
    · exact joinSec_yes W H m q i c f v2 F Z n (unitL m).length V hZ hn.symm rfl (hV.congr hL (fun _ _ _ _ => rfl)) (fun i j _ _ => hF i j)
  · have h1 : ∀ V, BA V v n L F → Calls Try.prog 33 #[pV W H m q i c, v] V fun e w' => e = .returned (.bool false) ∧ But Nowhere V w' := fun V hV => by
      by_cases hn : n = (gridW W H m * gridH W H m).toNat
      · refine (isWholeB W H m q i c f v L F V (by rw [← hn]; exact hV)).mono ?_
        rintro e w' ⟨⟨r, rfl, hr⟩, b⟩
        rcases hr with ⟨-, h1⟩ | ⟨rfl, -⟩
        · exact absurd ⟨hn, fun i hi => h1 i (by rw [← hn]; exact hi)⟩ hw
        · exact ⟨rfl, b⟩
      · obtain ⟨ao, vcap, rfl, -⟩ := hV
        exact isWhole_not W H m q i c f ao n vcap hn V
    have h2 : ∀ V, BA V v n L F → Calls Try.prog 25 #[pV W H m q i c, v] V fun e w' => e = .returned (.bool false) ∧ But Nowhere V w' := fun V hV => by
      refine (refWhole_fit W H m q i c f v n L F V hV).mono ?_
      rintro e w' ⟨⟨r, rfl, hr⟩, b⟩
      rcases hr with ⟨-, h1⟩ | ⟨rfl, -⟩
      · exact absurd h1 hw
      · exact ⟨rfl, b⟩
    have h3 : ∀ V v2, BA V v2 n L F → Calls Try.prog 28 #[pV W H m q i c, v2] V fun e w' => e = .returned (.bool false) ∧ But Nowhere V w' := fun V v2 hV => by
      by_cases hn : n = (gridW W H m * gridH W H m).toNat
      · refine (isWholeS W H m q i c f v2 L F V (by rw [← hn]; exact hV)).mono ?_
        rintro e w' ⟨⟨r, rfl, hr⟩, b⟩
        rcases hr with ⟨-, h1⟩ | ⟨rfl, -⟩
        · exact absurd ⟨hn, fun i hi => h1 i (by rw [← hn]; exact hi)⟩ hw
        · exact ⟨rfl, b⟩
      · obtain ⟨ao, vcap, rfl, -⟩ := hV
        exact isWhole_notS W H m q i c f ao n vcap hn V
    refine ⟨0, 0, false, [], ⟨by simp, by simp⟩, fun V hV => ?_, fun V hV => ?_, fun V v2 hV => ?_⟩
    · have hw' := fun V' (hb : But Nowhere V V') => h1 V' (hV.but hb)
      obtain ⟨ao, vcap, rfl, -⟩ := hV
      refine (planeJoin_no W H m q i c ao n vcap V hw').mono ?_
      rintro e w' ⟨rfl, b⟩
      exact ⟨⟨_, rfl, View.nil _ _⟩, b⟩
    · have hw' := fun V' (hb : But Nowhere V V') => h2 V' (hV.but hb)
      obtain ⟨ao, vcap, rfl, -⟩ := hV
      refine (refJoin_no W H m q i c ao n vcap V hw').mono ?_
      rintro e w' ⟨rfl, b⟩
      exact ⟨⟨_, rfl, View.nil _ _⟩, b⟩
    · have hw' := fun V' (hb : But Nowhere V V') => h3 V' v2 (hV.but hb)
      obtain ⟨ao, vcap, rfl, -⟩ := hV
      refine (joinSec_no W H m q i c ao n vcap V hw').mono ?_
      rintro e w' ⟨rfl, b⟩
      exact ⟨⟨_, rfl, View.nil _ _⟩, b⟩

end Go.Proofs.Ytppbnmlgilgnnaa
