/- What a SAMPLE is of its pixels: sample. -/
import Derived.Test.YtppbnmlgilgnnaaDoorPl5
import Derived.Test.YtppbnmlgilgnnaaDoorPlTab
import Derived.Test.YtppbnmlgilgnnaaDoorColMath
namespace Go.Proofs.YtppbnmlgilgnnaaDoor
open Go.ChangeShapes Go.WideShapes Go.ChangeAt Go.RowKit Go.Shelf

attribute [local go_sem] Oper.semAt_some wide_fn wide_depth Fence.inRound_fn Fence.inRound_depth

/-- What stands behind a function that holds a range over a function and never panics. -/
def bodyPostN (F : Fence) (n : Nat) (P : Program) (fn : Func) (R : Ending → World → Prop) : Exit → Act → World → Prop
  | .normal, a, w | .ret, a, w => LeavesInM F n P fn a.tmps R a.defers .returning w
  | _, _, _ => False

theorem callsIn_of_wp_quiet {F : Fence} {n : Nat} {P : Program} {f : FuncId} {fn : Func} {c : Code} {args : Array Value} {w : World} {R : Ending → World → Prop}
    (hf : P.funcs[f]? = some fn) (hb : fn.body = some c) (hF : F.fn f)
    (h : c.wpIn F n P (bodyPostN F n P fn R) { tmps := args ++ Array.replicate (fn.ntmps - args.size) undef, defers := [] } w) (hro : F.round = none := by rfl) : CallsIn F n P f args w R :=
  callsIn_of_wp_marks hf hb hF (wpIn_mono h (fun e a w hq => by cases e <;> first | exact hq | exact hq.elim)) hro

/-- How numbers are reckoned with, and secrets. -/
abbrev byPN : List Value := [.func (.func 56) #[] #[], .func (.func 57) #[] #[], .func (.func 58) #[] #[], .func (.func 59) #[] #[], .func (.func 60) #[] #[], .func (.func 61) #[] #[]]

abbrev byPS : List Value := [.func (.func 36) #[] #[], .func (.func 68) #[] #[], .func (.func 69) #[] #[], .func (.func 70) #[] #[], .func (.func 71) #[] #[], .func (.func 72) #[] #[]]

set_option maxHeartbeats 400000 in
theorem planePlain_any (w : World) : Calls Tryd.prog 31 #[] w fun e w' => e = .returned (.agg byPN.toArray) ∧ But Nowhere w w' := by
  have hu := Tryd.underlying66
  go_enter Tryd.func31, Tryd.ntmps31
  go_wp2
  exact bodyPost_ret (results_cells rfl (Cells.new w 66 byPN) hu rfl (by kernel_rfl) _ rfl) rfl ⟨rfl, (But.refl _ _).alloc _⟩

set_option maxHeartbeats 400000 in
theorem planeSecret_any (w : World) : Calls Tryd.prog 35 #[] w fun e w' => e = .returned (.agg byPS.toArray) ∧ But Nowhere w w' := by
  have hu := Tryd.underlying82
  go_enter Tryd.func35, Tryd.ntmps35
  go_wp2
  exact bodyPost_ret (results_cells rfl (Cells.new w 82 byPS) hu rfl (by kernel_rfl) _ rfl) rfl ⟨rfl, (But.refl _ _).alloc _⟩

set_option maxHeartbeats 400000 in
theorem itself_any (n : Int) (w : World) : Calls Tryd.prog 56 #[.int .i64 n] w fun e w' => e = .returned (.int .i64 n) ∧ w' = w := by
  go_enter Tryd.func56, Tryd.ntmps56
  go_wp2
  go_ret
  exact ⟨rfl, rfl⟩

set_option maxHeartbeats 400000 in
theorem added_any (a b : Int) (h : -1000000 ≤ a + b ∧ a + b ≤ 1000000) (w : World) : Calls Tryd.prog 57 #[.int .i64 a, .int .i64 b] w fun e w' => e = .returned (.int .i64 (a + b)) ∧ w' = w := by
  have e1 : wrap64 (a + b) = a + b := w64 _ (by omega)
  go_enter Tryd.func57, Tryd.ntmps57
  go_wp2
  go_ret
  exact ⟨rfl, rfl⟩

/-- So many times halved. -/
def halved (a n : Int) : Int := if n = 0 then a else if n = 1 then a / 2 else a / 4

set_option maxHeartbeats 400000 in
theorem shifted_any (a n : Int) (hn : n = 0 ∨ n = 1 ∨ n = 2) (w : World) : Calls Tryd.prog 58 #[.int .i64 a, .int .i64 n] w fun e w' => e = .returned (.int .i64 (halved a n)) ∧ w' = w := by
  rcases hn with rfl | rfl | rfl <;>
  · go_enter Tryd.func58, Tryd.ntmps58
    go_wp2
    go_ret
    exact ⟨rfl, rfl⟩

theorem View.at {w : World} {k : IntKind} {ao : Option Addr} {n cap : Nat} {l : List Int} (h : View w k (.slice ao n cap) l) (i : Nat) (hi : i < l.length) :
    n = l.length ∧ ∃ b off, ao = some ⟨b, off, none⟩ ∧ b < w.heap.size ∧ w.cell? ⟨b, off + i, none⟩ = some (.int k l[i]) := by
  obtain ⟨ao', cap', e, h⟩ := h
  cases e
  obtain ⟨b, off, e, hlt, hc⟩ := h (fun e => by subst e; simp at hi)
  exact ⟨rfl, b, off, e, hlt, hc i hi⟩

theorem View.slice {w : World} {k : IntKind} {v : Value} {l : List Int} (h : View w k v l) : ∃ ao cap, v = .slice ao l.length cap := by
  obtain ⟨ao, cap, e, -⟩ := h
  exact ⟨ao, cap, e⟩

/-- The word at a place. -/
def gat (l : List Int) (j : Int) : Int := l.getD j.toNat 0

/-- The sum of the first n. -/
def accF (f : Nat → Int) : Nat → Int
  | 0 => 0
  | n + 1 => accF f n + f n

/-- Where the word stands of a SAMPLE's n-th pixel. -/
def idxF (Wd Ht : Int) (s : Spot) (X Y : Int) (n : Nat) : Int := (min (Y + (n : Int) / s.wide) (Ht - 1) * Wd + min (X + (n : Int) % s.wide) (Wd - 1)) * s.parts + s.part

/-- A SAMPLE. -/
def sampleF (Wd Ht : Int) (l : List Int) (s : Spot) (k : Int) : Int :=
  halved (s.wide * s.high / 2 + accF (fun n => gat l (idxF Wd Ht s (s.x + k % 8 * s.wide) (s.y + k / 8 * s.high) n)) (s.wide * s.high).toNat) (tzF (s.wide * s.high))

theorem gat_in {l : List Int} (h : ∀ x ∈ l, 0 ≤ x ∧ x ≤ 255) (j : Int) : 0 ≤ gat l j ∧ gat l j ≤ 255 := by
  unfold gat
  rw [List.getD_eq_getElem?_getD]
  cases e : l[j.toNat]? with
  | none => simp
  | some x => exact h x (List.mem_of_getElem? e)

theorem accF_in (f : Nat → Int) (h : ∀ n, 0 ≤ f n ∧ f n ≤ 255) (n : Nat) : 0 ≤ accF f n ∧ accF f n ≤ 255 * n := by
  induction n with
  | zero => simp [accF]
  | succ n ih => have := h n; simp only [accF]; omega

theorem idxF_in (Wd Ht : Int) (s : Spot) (X Y : Int) (n : Nat) (hW : 1 ≤ Wd) (hH : 1 ≤ Ht) (hX : 0 ≤ X) (hY : 0 ≤ Y) (hs : s.ok) (hp : s.part < s.parts) :
    (0 ≤ min (X + (n : Int) % s.wide) (Wd - 1) ∧ min (X + (n : Int) % s.wide) (Wd - 1) ≤ Wd - 1) ∧ (0 ≤ min (Y + (n : Int) / s.wide) (Ht - 1) ∧ min (Y + (n : Int) / s.wide) (Ht - 1) ≤ Ht - 1) ∧ 0 ≤ idxF Wd Ht s X Y n ∧ idxF Wd Ht s X Y n < Wd * Ht * s.parts := by
  obtain ⟨s1, s2, s3, s4, s5, s6, s7, s8, s9, s10, s11, s12⟩ := hs
  have q0 : 0 ≤ (n : Int) % s.wide := Int.emod_nonneg _ (by omega)
  have q2 : 0 ≤ (n : Int) / s.wide := Int.ediv_nonneg (by omega) (by omega)
  have hx : 0 ≤ min (X + (n : Int) % s.wide) (Wd - 1) ∧ min (X + (n : Int) % s.wide) (Wd - 1) ≤ Wd - 1 := by omega
  have hy : 0 ≤ min (Y + (n : Int) / s.wide) (Ht - 1) ∧ min (Y + (n : Int) / s.wide) (Ht - 1) ≤ Ht - 1 := by omega
  refine ⟨hx, hy, ?_⟩
  unfold idxF
  revert hx hy
  generalize min (X + (n : Int) % s.wide) (Wd - 1) = x
  generalize min (Y + (n : Int) / s.wide) (Ht - 1) = y
  intro hx hy
  have a0 : 0 ≤ y * Wd := Int.mul_nonneg hy.1 (by omega)
  have a1 : y * Wd ≤ (Ht - 1) * Wd := Int.mul_le_mul_of_nonneg_right hy.2 (by omega)
  have a2 : (Ht - 1) * Wd = Wd * Ht - Wd := by rw [Int.sub_mul, Int.one_mul, Int.mul_comm]
  have b0 : 0 ≤ (y * Wd + x) * s.parts := Int.mul_nonneg (by omega) (by omega)
  have b1 : (y * Wd + x) * s.parts ≤ (Wd * Ht - 1) * s.parts := Int.mul_le_mul_of_nonneg_right (by omega) (by omega)
  have b2 : (Wd * Ht - 1) * s.parts = Wd * Ht * s.parts - s.parts := by rw [Int.sub_mul, Int.one_mul]
  omega

set_option maxHeartbeats 6400000 in
set_option maxRecDepth 100000 in
theorem sampleN_any (Wd Ht m q i0 c : Int) (s : Spot) (k : Int) (v : Value) (l : List Int) (w : World) (hT : Tab w) (hv : View w .i64 v l) (hs : s.ok) (hpp : s.part < s.parts) (hk : 0 ≤ k ∧ k < 64) (hW : 1 ≤ Wd ∧ Wd ≤ 65535) (hH : 1 ≤ Ht ∧ Ht ≤ 65535) (hx : ∀ x ∈ l, 0 ≤ x ∧ x ≤ 255) (hl : Wd * Ht * s.parts ≤ l.length) :
    Calls Tryd.prog 55 #[.agg byPN.toArray, pV Wd Ht m q i0 c, v, s.val, .int .i64 k] w fun e w' => e = .returned (.int .i64 (sampleF Wd Ht l s k)) ∧ But Nowhere w w' := by
  have hs' := hs
  obtain ⟨s1, s2, s3, s4, s5, s6, s7, s8, s9, s10, s11, s12⟩ := hs'
  have m0 : 0 ≤ k % 8 * s.wide := Int.mul_nonneg (by omega) (by omega)
  have m1 : k % 8 * s.wide ≤ 8 * 2 := Int.mul_le_mul (by omega) s6 (by omega) (by omega)
  have m2 : 0 ≤ k / 8 * s.high := Int.mul_nonneg (by omega) (by omega)
  have m3 : k / 8 * s.high ≤ 8 * 2 := Int.mul_le_mul (by omega) s8 (by omega) (by omega)
  obtain ⟨X, hX, X0, X1⟩ : ∃ X, s.x + k % 8 * s.wide = X ∧ 0 ≤ X ∧ X ≤ 70016 := ⟨_, rfl, by omega, by omega⟩
  obtain ⟨Y, hY, Y0, Y1⟩ : ∃ Y, s.y + k / 8 * s.high = Y ∧ 0 ≤ Y ∧ Y ≤ 70016 := ⟨_, rfl, by omega, by omega⟩
  obtain ⟨C, hC, hC4⟩ : ∃ C, s.wide * s.high = C ∧ (C = 1 ∨ C = 2 ∨ C = 4) := by
    refine ⟨_, rfl, ?_⟩
    have e1 : s.wide = 1 ∨ s.wide = 2 := by omega
    have e2 : s.high = 1 ∨ s.high = 2 := by omega
    rcases e1 with e1 | e1 <;> rcases e2 with e2 | e2 <;> rw [e1, e2] <;> omega
  unfold sampleF
  rw [hX, hY, hC]
  have HX : Hid (s.x + k % 8 * s.wide = X) := hX
  have HY : Hid (s.y + k / 8 * s.high = Y) := hY
  have HC : Hid (s.wide * s.high = C) := hC
  clear m0 m1 m2 m3 hX hY
  have hI := fun n => idxF_in Wd Ht s X Y n hW.1 hH.1 X0 Y0 hs hpp
  have hG := fun n => gat_in hx (idxF Wd Ht s X Y n)
  have hA := accF_in (fun n => gat l (idxF Wd Ht s X Y n)) hG
  have e0 : wrap64 (s.wide * s.high) = C := by rw [hC]; exact w64 _ (by omega)
  have e1 : C.tdiv 2 = C / 2 := Int.tdiv_eq_ediv_of_nonneg (by omega)
  clear hC
  obtain ⟨vo, vc, rfl⟩ := hv.slice
  refine (callsIn_wide (n := 3)).1 ?_
  refine callsIn_of_wp_quiet Tryd.func55 rfl trivial ?_ rfl
  simp only [Tryd.ntmps55, List.size_toArray, List.length_cons, List.length_nil, Nat.reduceAdd, Nat.reduceSub, Array.replicate_succ, Array.replicate_zero, List.push_toArray, List.append_toArray, List.nil_append, List.cons_append]
  have kk := (((((Keep.start w).made 66 (byPN)).made 23 (pC Wd Ht m q i0 c)).made 68 ([.slice vo l.length vc])).made 103 (s.cells))
  simp only [World.size_alloc] at kk
  gi_wp2_with fail
  revert kk
  generalize ((((w.alloc (.cells byPN.toArray 66)).alloc (.cells #[.int .i64 Wd, .int .i64 Ht, .int .i64 m, .int .i64 q, .int .i64 i0, .int .i64 c] 23)).alloc (.cells #[.slice vo l.length vc] 68)).alloc (.cells #[.int .i64 s.mcu, .int .i64 s.block, .int .i64 s.part, .int .i64 s.parts, .int .i64 s.x, .int .i64 s.y, .int .i64 s.wide, .int .i64 s.high] 103)) = W0
  intro kk
  refine (callsIn_wide.2 (itself_any _ _)).mono ?_
  rintro e w1 ⟨rfl, rfl⟩
  have hSUM : w.heap.size + 1 + 1 + 1 < w1.heap.size := (kk.get (b := w.heap.size + 1 + 1 + 1) (t := 103) (c := s.cells) (by simp)).lt
  have hsp := (kk.get (b := w.heap.size + 1 + 1 + 1) (t := 103) (c := s.cells) (by simp))
  have c0 := hsp.at 0
  have c1 := hsp.at 1
  have c2 := hsp.at 2
  have c3 := hsp.at 3
  have c4 := hsp.at 4
  have c5 := hsp.at 5
  have c6 := hsp.at 6
  have c7 := hsp.at 7
  simp only [List.getElem?_cons_zero, List.getElem?_cons_succ] at c0 c1 c2 c3 c4 c5 c6 c7
  replace kk := kk.made 3 [.int .i64 (C / 2)]
  gi_wp2_with fail
  clear c0 c1 c2 c3 c4 c5 c6 c7 hsp
  revert kk
  generalize hsum : w1.heap.size = sumb at *
  generalize w1.alloc (.cells #[.int .i64 (C / 2)] 3) = w2
  intro kk
  have n2 := kk.head.lt
  refine (callsIn_wide.2 (pixels_any s k _ hs hk)).mono ?_
  rintro e w3 ⟨xb, yb, rfl, kp⟩
  rw [HX.out, HY.out] at kp
  replace kk := kk.step kp.but
  have nx := kp.new (xb, 3, [.int .i64 X]) (by simp)
  have ny := kp.new (yb, 3, [.int .i64 Y]) (by simp)
  simp only at nx ny
  have hsb := kp.get (b := w2.heap.size) (t := 103) (c := s.cells) (by simp)
  have hxb := kp.get (b := xb) (t := 3) (c := [.int .i64 X]) (by simp)
  have hyb := kp.get (b := yb) (t := 3) (c := [.int .i64 Y]) (by simp)
  have hV3 := hv.but kk.but
  have hT3 := hT.but kk.but
  clear kp
  gi_wp2_with fail
  refine range_out (T := fun x => x = sumb) (fun i W => Cells W sumb 3 [.int .i64 (C / 2 + accF (fun n => gat l (idxF Wd Ht s X Y n)) i)]) (pixels_iter s X Y w2.heap.size xb yb hs ⟨X0, by omega⟩ ⟨Y0, by omega⟩) rfl (enters_of Tryd.func97 (by kernel_rfl) rfl) (fun _ => rfl)
    (fun U hU => ⟨hsb.but hU (by omega), hxb.but hU (by omega), hyb.but hU (by omega)⟩) (by rintro x rfl; exact kk.head.lt) (fun i U U' hj hk => (hk _ rfl).trans hj) (by simpa [accF] using kk.head) ?_ ?_
  · intro lo i W K hlo hlt hi hbW hJ hK
    rw [HC.out] at hi
    gi_wp2_with fail
    refine hK _ _ (But.refl _ _) ?_
    clear hJ hK hbW
    intro U hU hlU hbU hJ
    have hI' := hI i
    have hG' := hG i
    have hA' := hA i
    have hwU : But (fun x => x = sumb) w U := (kk.but.mono (fun _ _ f => f.elim)).trans hbU
    have hVU := hv.butS hwU (hv.off (fun b hb => by omega))
    obtain ⟨x, hx0⟩ : ∃ x, min (X + (i : Int) % s.wide) (Wd - 1) = x := ⟨_, rfl⟩
    obtain ⟨y, hy0⟩ : ∃ y, min (Y + (i : Int) / s.wide) (Ht - 1) = y := ⟨_, rfl⟩
    obtain ⟨j, hj0⟩ : ∃ j, idxF Wd Ht s X Y i = j := ⟨_, rfl⟩
    have hj1 : (y * Wd + x) * s.parts + s.part = j := by rw [← hj0, ← hx0, ← hy0]; rfl
    rw [hx0, hy0, hj0] at hI'
    rw [hj0] at hG'
    obtain ⟨⟨x0, x1⟩, ⟨y0, y1⟩, j0, j1⟩ := hI'
    have hjl : j.toNat < l.length := by omega
    have hgj : l[j.toNat]'hjl = gat l j := by unfold gat; rw [List.getD_eq_getElem?_getD, List.getElem?_eq_getElem hjl]; rfl
    obtain ⟨-, vb, voff, rfl, hvb, hvc⟩ := hVU.at j.toNat hjl
    rw [hgj] at hvc
    have hac : accF (fun n => gat l (idxF Wd Ht s X Y n)) (i + 1) = accF (fun n => gat l (idxF Wd Ht s X Y n)) i + gat l j := by show _ + gat l (idxF Wd Ht s X Y i) = _; rw [hj0]
    revert hA'
    generalize hacc : accF (fun n => gat l (idxF Wd Ht s X Y n)) i = A at *
    intro hA'
    rw [hac]
    clear hac hacc hgj hj0 hA hG hI
    have hE : w.heap.size + 1 + 1 + 1 < sumb := by omega
    have gB := (kk.get (b := w.heap.size) (t := 66) (c := byPN) (by simp)).but hbU (by omega)
    have gP := (kk.get (b := w.heap.size + 1) (t := 23) (c := pC Wd Ht m q i0 c) (by simp)).but hbU (by omega)
    have gV := (kk.get (b := w.heap.size + 1 + 1) (t := 68) (c := [.slice (some ⟨vb, voff, none⟩) l.length vc]) (by simp)).but hbU (by omega)
    have gS := (kk.get (b := w.heap.size + 1 + 1 + 1) (t := 103) (c := s.cells) (by simp)).but hbU (by omega)
    obtain ⟨p0, p1, p2, p3, p4, p5⟩ : (U.cell? ⟨w.heap.size + 1, 0, none⟩ = some (.int .i64 Wd)) ∧ (U.cell? ⟨w.heap.size + 1, 1, none⟩ = some (.int .i64 Ht)) ∧ (U.cell? ⟨w.heap.size + 1, 2, none⟩ = some (.int .i64 m)) ∧ (U.cell? ⟨w.heap.size + 1, 3, none⟩ = some (.int .i64 q)) ∧ (U.cell? ⟨w.heap.size + 1, 4, none⟩ = some (.int .i64 i0)) ∧ (U.cell? ⟨w.heap.size + 1, 5, none⟩ = some (.int .i64 c)) := ⟨gP.at 0, gP.at 1, gP.at 2, gP.at 3, gP.at 4, gP.at 5⟩
    have HS : ∀ V, But Nowhere U V → ((V.cell? ⟨w.heap.size, 1, none⟩ = some (.func (.func 57) #[] #[]) ∧ V.cell? ⟨sumb, 0, none⟩ = some (.int .i64 (C / 2 + A)) ∧ V.cell? ⟨w.heap.size + 1 + 1, 0, none⟩ = some (.slice (some ⟨vb, voff, none⟩) l.length vc) ∧ V.cell? ⟨vb, voff + j.toNat, none⟩ = some (.int .i64 (gat l j))) ∧
        (V.cell? ⟨w.heap.size + 1, 0, none⟩ = some (.int .i64 Wd) ∧ V.cell? ⟨w.heap.size + 1, 1, none⟩ = some (.int .i64 Ht) ∧ V.cell? ⟨w.heap.size + 1, 2, none⟩ = some (.int .i64 m) ∧ V.cell? ⟨w.heap.size + 1, 3, none⟩ = some (.int .i64 q) ∧ V.cell? ⟨w.heap.size + 1, 4, none⟩ = some (.int .i64 i0) ∧ V.cell? ⟨w.heap.size + 1, 5, none⟩ = some (.int .i64 c)) ∧
        V.cell? ⟨w.heap.size + 1 + 1 + 1, 0, none⟩ = some (.int .i64 s.mcu) ∧ V.cell? ⟨w.heap.size + 1 + 1 + 1, 1, none⟩ = some (.int .i64 s.block) ∧ V.cell? ⟨w.heap.size + 1 + 1 + 1, 2, none⟩ = some (.int .i64 s.part) ∧ V.cell? ⟨w.heap.size + 1 + 1 + 1, 3, none⟩ = some (.int .i64 s.parts) ∧ V.cell? ⟨w.heap.size + 1 + 1 + 1, 4, none⟩ = some (.int .i64 s.x) ∧ V.cell? ⟨w.heap.size + 1 + 1 + 1, 5, none⟩ = some (.int .i64 s.y) ∧ V.cell? ⟨w.heap.size + 1 + 1 + 1, 6, none⟩ = some (.int .i64 s.wide) ∧ V.cell? ⟨w.heap.size + 1 + 1 + 1, 7, none⟩ = some (.int .i64 s.high)) := fun V hb =>
      ⟨⟨hb.keeps (not_nowhere _) (gB.at 1), hb.keeps (not_nowhere _) (hJ.at 0), hb.keeps (not_nowhere _) (gV.at 0), hb.keeps (not_nowhere _) hvc⟩, ⟨hb.keeps (not_nowhere _) p0, hb.keeps (not_nowhere _) p1, hb.keeps (not_nowhere _) p2, hb.keeps (not_nowhere _) p3, hb.keeps (not_nowhere _) p4, hb.keeps (not_nowhere _) p5⟩,
        hb.keeps (not_nowhere _) (gS.at 0), hb.keeps (not_nowhere _) (gS.at 1), hb.keeps (not_nowhere _) (gS.at 2), hb.keeps (not_nowhere _) (gS.at 3), hb.keeps (not_nowhere _) (gS.at 4), hb.keeps (not_nowhere _) (gS.at 5), hb.keeps (not_nowhere _) (gS.at 6), hb.keeps (not_nowhere _) (gS.at 7)⟩
    have w1' : IntKind.i64.wrap (Wd - 1) = Wd - 1 := by rw [wrap_i64_eq]; exact w64 _ (by omega)
    have w2' : IntKind.i64.wrap (Ht - 1) = Ht - 1 := by rw [wrap_i64_eq]; exact w64 _ (by omega)
    have bu : But Nowhere U U.drew := (But.refl _ _).drew
    clear gB gP gV gS p2 p3 p4 p5 hvc
    gi_wp2_with fail
    refine round_region_till (S := fun x => x.cell? ⟨w.heap.size + 1, 0, none⟩ = some (.int .i64 Wd) ∧ x.cell? ⟨w.heap.size + 1, 1, none⟩ = some (.int .i64 Ht)) (R := fun _ => True) (k := 100) (m := 100) (by kernel_rfl) (by kernel_rfl) (by rintro ⟨_, _, ⟨q, _⟩⟩; cases q) ⟨p0, p1⟩ trivial ?_
    (refine Walk.take (i := 0) (oi := { dst := some 30, op := Op.move (Operand.tmp 13), type := 3, pos := "plane.go:129", after := #[], guard := none }) (v := ?_) rfl (by kernel_rfl) (by kernel_rfl) (by kernel_rfl) (by kernel_rfl) (fun _ _ _ h => h) (Or.inl ⟨by rfl, ?_⟩) ?_; rotate_left; (intro w hw; clear hw; (try go_split_ands); go_simp; try (with_reducible rfl)); simp only [Act.put, List.setIfInBounds_toArray, List.set_cons_zero, List.set_cons_succ])
    (refine Walk.take (i := 1) (oi := { dst := some 31, op := Op.fieldAddr 23 (Operand.tmp 6) 0, type := 0, pos := "plane.go:129", after := #[], guard := none }) (v := ?_) rfl (by kernel_rfl) (by kernel_rfl) (by kernel_rfl) (by kernel_rfl) (fun _ _ _ h => h) (Or.inl ⟨by rfl, ?_⟩) ?_; rotate_left; (intro w hw; clear hw; (try go_split_ands); go_simp; try (with_reducible rfl)); simp only [Act.put, List.setIfInBounds_toArray, List.set_cons_zero, List.set_cons_succ])
    (refine Walk.take (i := 2) (oi := { dst := some 32, op := Op.load 3 (Operand.tmp 31), type := 3, pos := "plane.go:129", after := #[{ on := 1, ground := Ground.data }], guard := none }) (v := ?_) rfl (by kernel_rfl) (by kernel_rfl) (by kernel_rfl) (by kernel_rfl) (fun _ _ _ h => h) (Or.inl ⟨by rfl, ?_⟩) ?_; rotate_left; (intro w hw; have hS1 := hw.1 (by kernel_rfl); clear hw; (try dsimp only at hS1); (try go_split_ands); go_simp; try (with_reducible rfl)); simp only [Act.put, List.setIfInBounds_toArray, List.set_cons_zero, List.set_cons_succ])
    (refine Walk.take (i := 3) (oi := { dst := some 33, op := Op.binOp BinOp.sub 3 (Operand.tmp 32) (Operand.const (Value.int IntKind.i64 1)) 3, type := 3, pos := "plane.go:129", after := #[{ on := 2, ground := Ground.data }], guard := none }) (v := ?_) rfl (by kernel_rfl) (by kernel_rfl) (by kernel_rfl) (by kernel_rfl) (fun _ _ _ h => h) (Or.inl ⟨by rfl, ?_⟩) ?_; rotate_left; (intro w hw; clear hw; (try go_split_ands); go_simp; try (with_reducible rfl)); simp only [Act.put, List.setIfInBounds_toArray, List.set_cons_zero, List.set_cons_succ])
    (refine Walk.take (i := 4) (oi := { dst := some 34, op := Op.call { callee := Callee.builtin Builtin.min, args := #[Operand.tmp 30, Operand.tmp 33], argTypes := #[3, 3] }, type := 3, pos := "plane.go:129", after := #[{ on := 0, ground := Ground.data }, { on := 3, ground := Ground.data }], guard := none }) (v := .int .i64 x) rfl (by kernel_rfl) (by kernel_rfl) (by kernel_rfl) (by kernel_rfl) (fun _ _ _ h => h) (Or.inl ⟨by rfl, ?_⟩) ?_)
    · intro w _
      go_simp
      rw [← hx0]
      (try split) <;> omega
    simp only [Act.put, List.setIfInBounds_toArray, List.set_cons_zero, List.set_cons_succ]
    (refine Walk.take (i := 5) (oi := { dst := some 35, op := Op.move (Operand.tmp 14), type := 3, pos := "plane.go:129", after := #[], guard := none }) (v := ?_) rfl (by kernel_rfl) (by kernel_rfl) (by kernel_rfl) (by kernel_rfl) (fun _ _ _ h => h) (Or.inl ⟨by rfl, ?_⟩) ?_; rotate_left; (intro w hw; clear hw; (try go_split_ands); go_simp; try (with_reducible rfl)); simp only [Act.put, List.setIfInBounds_toArray, List.set_cons_zero, List.set_cons_succ])
    (refine Walk.take (i := 6) (oi := { dst := some 36, op := Op.fieldAddr 23 (Operand.tmp 6) 1, type := 0, pos := "plane.go:129", after := #[], guard := none }) (v := ?_) rfl (by kernel_rfl) (by kernel_rfl) (by kernel_rfl) (by kernel_rfl) (fun _ _ _ h => h) (Or.inl ⟨by rfl, ?_⟩) ?_; rotate_left; (intro w hw; clear hw; (try go_split_ands); go_simp; try (with_reducible rfl)); simp only [Act.put, List.setIfInBounds_toArray, List.set_cons_zero, List.set_cons_succ])
    (refine Walk.take (i := 7) (oi := { dst := some 37, op := Op.load 3 (Operand.tmp 36), type := 3, pos := "plane.go:129", after := #[{ on := 6, ground := Ground.data }], guard := none }) (v := ?_) rfl (by kernel_rfl) (by kernel_rfl) (by kernel_rfl) (by kernel_rfl) (fun _ _ _ h => h) (Or.inl ⟨by rfl, ?_⟩) ?_; rotate_left; (intro w hw; have hS1 := hw.1 (by kernel_rfl); clear hw; (try dsimp only at hS1); (try go_split_ands); go_simp; try (with_reducible rfl)); simp only [Act.put, List.setIfInBounds_toArray, List.set_cons_zero, List.set_cons_succ])
    (refine Walk.take (i := 8) (oi := { dst := some 38, op := Op.binOp BinOp.sub 3 (Operand.tmp 37) (Operand.const (Value.int IntKind.i64 1)) 3, type := 3, pos := "plane.go:129", after := #[{ on := 7, ground := Ground.data }], guard := none }) (v := ?_) rfl (by kernel_rfl) (by kernel_rfl) (by kernel_rfl) (by kernel_rfl) (fun _ _ _ h => h) (Or.inl ⟨by rfl, ?_⟩) ?_; rotate_left; (intro w hw; clear hw; (try go_split_ands); go_simp; try (with_reducible rfl)); simp only [Act.put, List.setIfInBounds_toArray, List.set_cons_zero, List.set_cons_succ])
    (refine Walk.take (i := 9) (oi := { dst := some 39, op := Op.call { callee := Callee.builtin Builtin.min, args := #[Operand.tmp 35, Operand.tmp 38], argTypes := #[3, 3] }, type := 3, pos := "plane.go:129", after := #[{ on := 5, ground := Ground.data }, { on := 8, ground := Ground.data }], guard := none }) (v := .int .i64 y) rfl (by kernel_rfl) (by kernel_rfl) (by kernel_rfl) (by kernel_rfl) (fun _ _ _ h => h) (Or.inl ⟨by rfl, ?_⟩) ?_)
    · intro w _
      go_simp
      rw [← hy0]
      (try split) <;> omega
    simp only [Act.put, List.setIfInBounds_toArray, List.set_cons_zero, List.set_cons_succ]
    (refine Walk.take (i := 10) (oi := { dst := some 13, op := Op.assign (Operand.tmp 34), type := 3, pos := "plane.go:129", after := #[{ on := 4, ground := Ground.data }, { on := 0, ground := Ground.phase }, { on := 1, ground := Ground.phase }, { on := 2, ground := Ground.phase }, { on := 3, ground := Ground.phase }, { on := 4, ground := Ground.phase }, { on := 5, ground := Ground.textOnly Departure.lateStores }, { on := 6, ground := Ground.textOnly Departure.lateStores }, { on := 7, ground := Ground.textOnly Departure.lateStores }, { on := 8, ground := Ground.textOnly Departure.lateStores }, { on := 9, ground := Ground.textOnly Departure.lateStoresUnsure }], guard := none }) (v := ?_) rfl (by kernel_rfl) (by kernel_rfl) (by kernel_rfl) (by kernel_rfl) (fun _ _ _ h => h) (Or.inl ⟨by rfl, ?_⟩) ?_; rotate_left; (intro w hw; clear hw; (try go_split_ands); go_simp; try (with_reducible rfl)); simp only [Act.put, List.setIfInBounds_toArray, List.set_cons_zero, List.set_cons_succ])
    (refine Walk.take (i := 11) (oi := { dst := some 14, op := Op.assign (Operand.tmp 39), type := 3, pos := "plane.go:129", after := #[{ on := 9, ground := Ground.data }, { on := 10, ground := Ground.chain }, { on := 0, ground := Ground.phase }, { on := 1, ground := Ground.phase }, { on := 2, ground := Ground.phase }, { on := 3, ground := Ground.phase }, { on := 4, ground := Ground.phase }, { on := 5, ground := Ground.phase }, { on := 6, ground := Ground.phase }, { on := 7, ground := Ground.phase }, { on := 8, ground := Ground.phase }, { on := 9, ground := Ground.phase }, { on := 10, ground := Ground.phase }], guard := none }) (v := ?_) rfl (by kernel_rfl) (by kernel_rfl) (by kernel_rfl) (by kernel_rfl) (fun _ _ _ h => h) (Or.inl ⟨by rfl, ?_⟩) ?_; rotate_left; (intro w hw; clear hw; (try go_split_ands); go_simp; try (with_reducible rfl)); simp only [Act.put, List.setIfInBounds_toArray, List.set_cons_zero, List.set_cons_succ])
    refine Walk.done (by kernel_rfl) ?_ _
    gi_wp2_with fail
    refine round_region_till (S := fun V => ((V.cell? ⟨w.heap.size, 1, none⟩ = some (.func (.func 57) #[] #[]) ∧ V.cell? ⟨sumb, 0, none⟩ = some (.int .i64 (C / 2 + A)) ∧ V.cell? ⟨w.heap.size + 1 + 1, 0, none⟩ = some (.slice (some ⟨vb, voff, none⟩) l.length vc) ∧ V.cell? ⟨vb, voff + j.toNat, none⟩ = some (.int .i64 (gat l j))) ∧
        (V.cell? ⟨w.heap.size + 1, 0, none⟩ = some (.int .i64 Wd) ∧ V.cell? ⟨w.heap.size + 1, 1, none⟩ = some (.int .i64 Ht) ∧ V.cell? ⟨w.heap.size + 1, 2, none⟩ = some (.int .i64 m) ∧ V.cell? ⟨w.heap.size + 1, 3, none⟩ = some (.int .i64 q) ∧ V.cell? ⟨w.heap.size + 1, 4, none⟩ = some (.int .i64 i0) ∧ V.cell? ⟨w.heap.size + 1, 5, none⟩ = some (.int .i64 c)) ∧
        V.cell? ⟨w.heap.size + 1 + 1 + 1, 0, none⟩ = some (.int .i64 s.mcu) ∧ V.cell? ⟨w.heap.size + 1 + 1 + 1, 1, none⟩ = some (.int .i64 s.block) ∧ V.cell? ⟨w.heap.size + 1 + 1 + 1, 2, none⟩ = some (.int .i64 s.part) ∧ V.cell? ⟨w.heap.size + 1 + 1 + 1, 3, none⟩ = some (.int .i64 s.parts) ∧ V.cell? ⟨w.heap.size + 1 + 1 + 1, 4, none⟩ = some (.int .i64 s.x) ∧ V.cell? ⟨w.heap.size + 1 + 1 + 1, 5, none⟩ = some (.int .i64 s.y) ∧ V.cell? ⟨w.heap.size + 1 + 1 + 1, 6, none⟩ = some (.int .i64 s.wide) ∧ V.cell? ⟨w.heap.size + 1 + 1 + 1, 7, none⟩ = some (.int .i64 s.high))) (R := fun _ => True) (k := 12) (m := 100) (by kernel_rfl) (by kernel_rfl) (by rintro ⟨_, _, ⟨q, _⟩⟩; cases q) (HS _ (bu.trans (But.refl _ _).drew)) trivial ?_
    have bu2 := bu.trans (But.refl Nowhere U.drew).drew
    clear bu
    revert bu2
    generalize U.drew.drew = V0
    intro bu2
    have hjL : j < (l.length : Int) := by omega
    (refine Walk.take (i := 0) (oi := { dst := some 40, op := Op.fieldAddr 66 (Operand.tmp 5) 1, type := 0, pos := "plane.go:130", after := #[], guard := none }) (v := ?_) rfl (by kernel_rfl) (by kernel_rfl) (by kernel_rfl) (by kernel_rfl) (fun _ _ _ h => h) (Or.inl ⟨by rfl, ?_⟩) ?_; rotate_left; (intro w hw; clear hw; (try go_split_ands); go_simp; try (with_reducible rfl)); simp only [Act.put, List.setIfInBounds_toArray, List.set_cons_zero, List.set_cons_succ])
    (refine Walk.take (i := 1) (oi := { dst := some 41, op := Op.load 62 (Operand.tmp 40), type := 62, pos := "plane.go:130", after := #[{ on := 0, ground := Ground.data }], guard := none }) (v := ?_) rfl (by kernel_rfl) (by kernel_rfl) (by kernel_rfl) (by kernel_rfl) (fun _ _ _ h => h) (Or.inl ⟨by rfl, ?_⟩) ?_; rotate_left; (intro w hw; have hS1 := hw.1 (by kernel_rfl); clear hw; (try dsimp only at hS1); (try go_split_ands); go_simp; try (with_reducible rfl)); simp only [Act.put, List.setIfInBounds_toArray, List.set_cons_zero, List.set_cons_succ])
    (refine Walk.take (i := 2) (oi := { dst := some 42, op := Op.load 3 (Operand.tmp 12), type := 3, pos := "plane.go:130", after := #[], guard := none }) (v := ?_) rfl (by kernel_rfl) (by kernel_rfl) (by kernel_rfl) (by kernel_rfl) (fun _ _ _ h => h) (Or.inl ⟨by rfl, ?_⟩) ?_; rotate_left; (intro w hw; have hS1 := hw.1 (by kernel_rfl); clear hw; (try dsimp only at hS1); (try go_split_ands); go_simp; try (with_reducible rfl)); simp only [Act.put, List.setIfInBounds_toArray, List.set_cons_zero, List.set_cons_succ])
    (refine Walk.take (i := 3) (oi := { dst := some 43, op := Op.load 68 (Operand.tmp 7), type := 68, pos := "plane.go:130", after := #[], guard := none }) (v := ?_) rfl (by kernel_rfl) (by kernel_rfl) (by kernel_rfl) (by kernel_rfl) (fun _ _ _ h => h) (Or.inl ⟨by rfl, ?_⟩) ?_; rotate_left; (intro w hw; have hS1 := hw.1 (by kernel_rfl); clear hw; (try dsimp only at hS1); (try go_split_ands); go_simp; try (with_reducible rfl)); simp only [Act.put, List.setIfInBounds_toArray, List.set_cons_zero, List.set_cons_succ])
    (refine Walk.take (i := 4) (oi := { dst := some 44, op := Op.load 103 (Operand.tmp 8), type := 103, pos := "plane.go:130", after := #[], guard := none }) (v := ?_) rfl (by kernel_rfl) (by kernel_rfl) (by kernel_rfl) (by kernel_rfl) (fun _ _ _ h => h) (Or.inl ⟨by rfl, ?_⟩) ?_; rotate_left; (intro w hw; have hS1 := hw.1 (by kernel_rfl); clear hw; (try dsimp only at hS1); (try go_split_ands); go_simp; try (with_reducible rfl)); simp only [Act.put, List.setIfInBounds_toArray, List.set_cons_zero, List.set_cons_succ])
    (refine Walk.take (i := 5) (oi := { dst := some 45, op := Op.load 23 (Operand.tmp 6), type := 23, pos := "plane.go:130", after := #[], guard := none }) (v := ?_) rfl (by kernel_rfl) (by kernel_rfl) (by kernel_rfl) (by kernel_rfl) (fun _ _ _ h => h) (Or.inl ⟨by rfl, ?_⟩) ?_; rotate_left; (intro w hw; have hS1 := hw.1 (by kernel_rfl); clear hw; (try dsimp only at hS1); (try go_split_ands); go_simp; try (with_reducible rfl)); simp only [Act.put, List.setIfInBounds_toArray, List.set_cons_zero, List.set_cons_succ])
    (refine Walk.take (i := 6) (oi := { dst := some 46, op := Op.move (Operand.tmp 13), type := 3, pos := "plane.go:130", after := #[], guard := none }) (v := ?_) rfl (by kernel_rfl) (by kernel_rfl) (by kernel_rfl) (by kernel_rfl) (fun _ _ _ h => h) (Or.inl ⟨by rfl, ?_⟩) ?_; rotate_left; (intro w hw; clear hw; (try go_split_ands); go_simp; try (with_reducible rfl)); simp only [Act.put, List.setIfInBounds_toArray, List.set_cons_zero, List.set_cons_succ])
    (refine Walk.take (i := 7) (oi := { dst := some 47, op := Op.move (Operand.tmp 14), type := 3, pos := "plane.go:130", after := #[], guard := none }) (v := ?_) rfl (by kernel_rfl) (by kernel_rfl) (by kernel_rfl) (by kernel_rfl) (fun _ _ _ h => h) (Or.inl ⟨by rfl, ?_⟩) ?_; rotate_left; (intro w hw; clear hw; (try go_split_ands); go_simp; try (with_reducible rfl)); simp only [Act.put, List.setIfInBounds_toArray, List.set_cons_zero, List.set_cons_succ])
    (refine Walk.go (i := 8) (o := { dst := some 48, op := Op.call { callee := Callee.value (Operand.func 77), args := #[Operand.tmp 44, Operand.tmp 45, Operand.tmp 46, Operand.tmp 47], argTypes := #[103, 23, 3, 3] }, type := 3, pos := "plane.go:130", after := #[{ on := 4, ground := Ground.data }, { on := 5, ground := Ground.data }, { on := 6, ground := Ground.data }, { on := 7, ground := Ground.data }], guard := none }) (by kernel_rfl) rfl (fun K hK => ?_); go_simp; ((go_at_call 77; refine (place_any s Wd Ht m q i0 c x y _ hs (by omega) (by omega) (by omega)).mono ?_; rintro e V1 ⟨rfl, d1⟩; rw [hj1]; replace bu2 := bu2.trans d1; clear d1)); refine hK.out _ _ (⟨fun _ => HS _ bu2, fun _ => trivial⟩) ?_; clear hK K; try simp only [Act.put, List.setIfInBounds_toArray, List.set_cons_zero, List.set_cons_succ])
    (refine Walk.take (i := 9) (oi := { dst := some 49, op := Op.indexAddr 68 (Operand.tmp 43) (Operand.tmp 48), type := 0, pos := "plane.go:130", after := #[{ on := 3, ground := Ground.data }, { on := 8, ground := Ground.data }], guard := none }) (v := ?_) rfl (by kernel_rfl) (by kernel_rfl) (by kernel_rfl) (by kernel_rfl) (fun _ _ _ h => h) (Or.inl ⟨by rfl, ?_⟩) ?_; rotate_left; (intro w hw; clear hw; (try go_split_ands); go_simp; try (with_reducible rfl)); simp only [Act.put, List.setIfInBounds_toArray, List.set_cons_zero, List.set_cons_succ])
    (refine Walk.take (i := 10) (oi := { dst := some 50, op := Op.load 3 (Operand.tmp 49), type := 3, pos := "plane.go:130", after := #[{ on := 9, ground := Ground.data }], guard := none }) (v := ?_) rfl (by kernel_rfl) (by kernel_rfl) (by kernel_rfl) (by kernel_rfl) (fun _ _ _ h => h) (Or.inl ⟨by rfl, ?_⟩) ?_; rotate_left; (intro w hw; have hS1 := hw.1 (by kernel_rfl); clear hw; (try dsimp only at hS1); (try go_split_ands); go_simp; try (with_reducible rfl)); simp only [Act.put, List.setIfInBounds_toArray, List.set_cons_zero, List.set_cons_succ])
    (refine Walk.go (i := 11) (o := { dst := some 51, op := Op.call { callee := Callee.value (Operand.tmp 41), args := #[Operand.tmp 42, Operand.tmp 50], argTypes := #[3, 3] }, type := 3, pos := "plane.go:130", after := #[{ on := 1, ground := Ground.data }, { on := 2, ground := Ground.data }, { on := 10, ground := Ground.data }, { on := 8, ground := Ground.chain }], guard := none }) (by kernel_rfl) rfl (fun K hK => ?_); go_simp; (go_at_call 57; refine (added_any _ _ (by omega) _).mono ?_; rintro e V2 ⟨rfl, rfl⟩; have cs := (HS _ bu2).1.2.1; have fs := (hJ.but bu2 (not_nowhere _)).frozen 0); refine hK.out _ _ (⟨fun _ => HS _ bu2, fun _ => trivial⟩) ?_; clear hK K; try simp only [Act.put, List.setIfInBounds_toArray, List.set_cons_zero, List.set_cons_succ])
    (refine Walk.go (i := 12) (o := { dst := none, op := Op.store 3 (Operand.tmp 12) (Operand.tmp 51), type := 0, pos := "plane.go:130", after := #[{ on := 11, ground := Ground.data }, { on := 11, ground := Ground.chain }, { on := 0, ground := Ground.phase }, { on := 1, ground := Ground.phase }, { on := 2, ground := Ground.phase }, { on := 3, ground := Ground.phase }, { on := 4, ground := Ground.phase }, { on := 5, ground := Ground.phase }, { on := 6, ground := Ground.phase }, { on := 7, ground := Ground.phase }, { on := 8, ground := Ground.phase }, { on := 9, ground := Ground.phase }, { on := 10, ground := Ground.phase }, { on := 11, ground := Ground.phase }], guard := none }) (by kernel_rfl) rfl (fun K hK => ?_); go_simp; (skip); refine hK.out _ _ (⟨fun q => absurd q (by decide), fun _ => trivial⟩) ?_; clear hK K; try simp only [Act.put, List.setIfInBounds_toArray, List.set_cons_zero, List.set_cons_succ])
    refine Walk.done (by kernel_rfl) ?_ _
    have hW3 : But (fun x => x = sumb) U (V2.setCell ⟨sumb, 0, none⟩ (.int .i64 (C / 2 + A + gat l j))) := But.setCell (S := fun x => x = sumb) (p := ⟨sumb, 0, none⟩) (bu2.mono (fun _ _ f => f.elim)) (fun _ => rfl) _
    have hC3 : Cells (V2.setCell ⟨sumb, 0, none⟩ (.int .i64 (C / 2 + A + gat l j))) sumb 3 [.int .i64 (C / 2 + (A + gat l j))] := by rw [← Int.add_assoc]; exact (hJ.but bu2 (not_nowhere _)).set 0 _
    have HH : Hid _ := And.intro hW3 hC3
    clear hW3 hC3 cs fs bu2 HS
    gi_wp2_with fail
    exact HH.out
  · intro W' hb hJ hD hlt
    rw [HC.out] at hJ
    have hA' := hA C.toNat
    have hwW : But (fun x => x = sumb) w W' := (kk.but.mono (fun _ _ f => f.elim)).trans hb
    have hTW := hT3.butS hb (by have := hT.lt; omega)
    obtain ⟨A, hAe⟩ : ∃ A, accF (fun n => gat l (idxF Wd Ht s X Y n)) C.toNat = A := ⟨_, rfl⟩
    rw [hAe] at hJ hA'
    have HAe : Hid (accF (fun n => gat l (idxF Wd Ht s X Y n)) C.toNat = A) := hAe
    clear hAe
    have hE : w.heap.size + 1 + 1 + 1 < sumb := by omega
    have gB := (kk.get (b := w.heap.size) (t := 66) (c := byPN) (by simp)).but hb (by omega)
    have HS : ∀ V, But Nowhere W' V → (V.cell? ⟨w.heap.size, 2, none⟩ = some (.func (.func 58) #[] #[]) ∧ V.cell? ⟨sumb, 0, none⟩ = some (.int .i64 (C / 2 + A))) := fun V hb => ⟨hb.keeps (not_nowhere _) (gB.at 2), hb.keeps (not_nowhere _) (hJ.at 0)⟩
    have bu2 : But Nowhere W' W'.drew := (But.refl _ _).drew
    have wc : IntKind.u64.wrap C = C := by rcases hC4 with rfl | rfl | rfl <;> decide
    have htz : tzF C = 0 ∨ tzF C = 1 ∨ tzF C = 2 := by rcases hC4 with rfl | rfl | rfl <;> decide
    clear hI hG hA gB
    gi_wp2_with fail
    refine wide_region_till (S := fun V => V.cell? ⟨w.heap.size, 2, none⟩ = some (.func (.func 58) #[] #[]) ∧ V.cell? ⟨sumb, 0, none⟩ = some (.int .i64 (C / 2 + A))) (R := fun _ => True) (k := 100) (m := 100) (by kernel_rfl) (by kernel_rfl) (by rintro ⟨_, _, ⟨_, q⟩, _⟩) (HS _ bu2) trivial ?_
    (refine Walk.take (i := 0) (oi := { dst := some 52, op := Op.fieldAddr 66 (Operand.tmp 5) 2, type := 0, pos := "plane.go:133", after := #[], guard := none }) (v := ?_) rfl (by kernel_rfl) (by kernel_rfl) (by kernel_rfl) (by kernel_rfl) (fun _ _ _ h => h) (Or.inl ⟨by rfl, ?_⟩) ?_; rotate_left; (intro w hw; clear hw; (try go_split_ands); go_simp; try (with_reducible rfl)); simp only [Act.put, List.setIfInBounds_toArray, List.set_cons_zero, List.set_cons_succ])
    (refine Walk.take (i := 1) (oi := { dst := some 53, op := Op.load 62 (Operand.tmp 52), type := 62, pos := "plane.go:133", after := #[{ on := 0, ground := Ground.data }], guard := none }) (v := ?_) rfl (by kernel_rfl) (by kernel_rfl) (by kernel_rfl) (by kernel_rfl) (fun _ _ _ h => h) (Or.inl ⟨by rfl, ?_⟩) ?_; rotate_left; (intro w hw; have hS1 := hw.1 (by kernel_rfl); clear hw; (try dsimp only at hS1); (try go_split_ands); go_simp; try (with_reducible rfl)); simp only [Act.put, List.setIfInBounds_toArray, List.set_cons_zero, List.set_cons_succ])
    (refine Walk.take (i := 2) (oi := { dst := some 54, op := Op.load 3 (Operand.tmp 12), type := 3, pos := "plane.go:133", after := #[], guard := none }) (v := ?_) rfl (by kernel_rfl) (by kernel_rfl) (by kernel_rfl) (by kernel_rfl) (fun _ _ _ h => h) (Or.inl ⟨by rfl, ?_⟩) ?_; rotate_left; (intro w hw; have hS1 := hw.1 (by kernel_rfl); clear hw; (try dsimp only at hS1); (try go_split_ands); go_simp; try (with_reducible rfl)); simp only [Act.put, List.setIfInBounds_toArray, List.set_cons_zero, List.set_cons_succ])
    (refine Walk.take (i := 3) (oi := { dst := some 55, op := Op.move (Operand.tmp 11), type := 3, pos := "plane.go:133", after := #[], guard := none }) (v := ?_) rfl (by kernel_rfl) (by kernel_rfl) (by kernel_rfl) (by kernel_rfl) (fun _ _ _ h => h) (Or.inl ⟨by rfl, ?_⟩) ?_; rotate_left; (intro w hw; clear hw; (try go_split_ands); go_simp; try (with_reducible rfl)); simp only [Act.put, List.setIfInBounds_toArray, List.set_cons_zero, List.set_cons_succ])
    (refine Walk.take (i := 4) (oi := { dst := some 56, op := Op.convert 3 131 (Operand.tmp 55), type := 131, pos := "plane.go:133", after := #[{ on := 3, ground := Ground.data }], guard := none }) (v := ?_) rfl (by kernel_rfl) (by kernel_rfl) (by kernel_rfl) (by kernel_rfl) (fun _ _ _ h => h) (Or.inl ⟨by rfl, ?_⟩) ?_; rotate_left; (intro w hw; clear hw; (try go_split_ands); go_simp; try (with_reducible rfl)); simp only [Act.put, List.setIfInBounds_toArray, List.set_cons_zero, List.set_cons_succ])
    (refine Walk.go (i := 5) (o := { dst := some 57, op := Op.call { callee := Callee.value (Operand.func 86), args := #[Operand.tmp 56], argTypes := #[131] }, type := 3, pos := "plane.go:133", after := #[{ on := 4, ground := Ground.data }], guard := none }) (by kernel_rfl) rfl (fun K hK => ?_); go_simp; ((go_at_call 86; refine (trailing_any C hC4 _ (hTW.but bu2)).mono ?_; rintro e V1 ⟨rfl, rfl⟩)); refine hK.out _ _ (⟨fun _ => HS _ bu2, fun _ => trivial⟩) ?_; clear hK K; try simp only [Act.put, List.setIfInBounds_toArray, List.set_cons_zero, List.set_cons_succ])
    (refine Walk.go (i := 6) (o := { dst := some 58, op := Op.call { callee := Callee.value (Operand.tmp 53), args := #[Operand.tmp 54, Operand.tmp 57], argTypes := #[3, 3] }, type := 3, pos := "plane.go:133", after := #[{ on := 1, ground := Ground.data }, { on := 2, ground := Ground.data }, { on := 5, ground := Ground.data }, { on := 5, ground := Ground.chain }], guard := none }) (by kernel_rfl) rfl (fun K hK => ?_); go_simp; ((go_at_call 58; refine (shifted_any _ _ htz _).mono ?_; rintro e V2 ⟨rfl, rfl⟩)); refine hK.out _ _ (⟨fun _ => HS _ bu2, fun _ => trivial⟩) ?_; clear hK K; try simp only [Act.put, List.setIfInBounds_toArray, List.set_cons_zero, List.set_cons_succ])
    (refine Walk.take (i := 7) (oi := { dst := some 10, op := Op.assign (Operand.tmp 58), type := 3, pos := "plane.go:133", after := #[{ on := 6, ground := Ground.data }, { on := 6, ground := Ground.chain }, { on := 0, ground := Ground.phase }, { on := 1, ground := Ground.phase }, { on := 2, ground := Ground.phase }, { on := 3, ground := Ground.phase }, { on := 4, ground := Ground.phase }, { on := 5, ground := Ground.phase }, { on := 6, ground := Ground.phase }], guard := none }) (v := ?_) rfl (by kernel_rfl) (by kernel_rfl) (by kernel_rfl) (by kernel_rfl) (fun _ _ _ h => h) (Or.inl ⟨by rfl, ?_⟩) ?_; rotate_left; (intro w hw; clear hw; (try go_split_ands); go_simp; try (with_reducible rfl)); simp only [Act.put, List.setIfInBounds_toArray, List.set_cons_zero, List.set_cons_succ])
    refine Walk.done (by kernel_rfl) ?_ _
    clear HS hJ hTW
    gi_wp2_with fail
    refine ⟨by simp, .inl ⟨_, _, rfl, run_takeDeferred ((bu2.block _ hlt (not_nowhere _)).trans hD), ?_⟩⟩
    have hz3 := kk.but.size
    have hbE := But.putObj (S := Nowhere) (l := w3.heap.size) ((hwW.mono (T := Nowhere) (fun k hk e => by omega)).trans bu2) (fun q => by omega) (.deferred none)
    exact ⟨_, results_tmp rfl _ _ _, by rw [HAe.out]; rfl, hbE⟩

end Go.Proofs.YtppbnmlgilgnnaaDoor
