/- Without the document's answer: an image that goes on beyond its ends as its last pixels has the same blocks. -/
import Derived.Test.YtppbnmlgilgnnaaDoorPlRef1
import Derived.Test.YtppbnmlgilgnnaaDoorPl13
import Derived.Test.YtppbnmlgilgnnaaDoorPl16
import Derived.Test.YtppbnmlgilgnnaaDoorPl17
import Derived.Test.YtppbnmlgilgnnaaDoorFrame
import Derived.Test.YtppbnmlgilgnnaaDoorRows
import Derived.Test.YtppbnmlgilgnnaaDoorDoorTab
import Derived.Test.YtppbnmlgilgnnaaDoorCards
import Derived.Test.YtppbnmlgilgnnaaDoorTie
namespace Go.Proofs.YtppbnmlgilgnnaaDoor.planeEdges
open Go.ChangeShapes Go.WideShapes Go.ChangeAt Go.RowKit
set_option linter.unusedVariables false

theorem own : ownKnob Tryd.prog.godebug = none := by kernel_rfl
theorem laidOut : laidOutB Tryd.prog = true := by kernel_rfl
theorem readable : ∀ t ∈ Tryd.f7.params.toList, Tryd.prog.readableRec t = true ∧ t < Tryd.prog.types.size := by
  rw [Tryd.params7]
  simp only [List.mem_cons, List.not_mem_nil, or_false, forall_eq_or_imp, forall_eq]
  refine ⟨⟨by kernel_rfl, of_decide_eq_true (by kernel_rfl)⟩, ⟨by kernel_rfl, of_decide_eq_true (by kernel_rfl)⟩, ⟨by kernel_rfl, of_decide_eq_true (by kernel_rfl)⟩, ⟨by kernel_rfl, of_decide_eq_true (by kernel_rfl)⟩⟩

set_option maxHeartbeats 20000000 in
set_option maxRecDepth 100000 in
theorem walk (w : World) (hT : Tab w) (a0 : Int) (w0 : (Lit.int .u8 a0).wf = true) (a1 : Int) (w1 : (Lit.int .u8 a1).wf = true) (a2 : Int) (w2 : (Lit.int .u8 a2).wf = true) (v3 : Value) (l3 : List Int) (s3 : View w .u8 v3 l3) (x3 : ∀ x ∈ l3, 0 ≤ x ∧ x ≤ 255) (n3 : l3.length ≤ 140737488355328) :
    Calls Tryd.prog 7 #[.int .u8 a0, .int .u8 a1, .int .u8 a2, v3] w fun e w' => e = .returned (.bool true) ∧ But Nowhere w w' := by
  have a0r : 0 ≤ a0 ∧ a0 ≤ 255 := u8_in w0
  have a1r : 0 ≤ a1 ∧ a1 ≤ 255 := u8_in w1
  have a2r : 0 ≤ a2 ∧ a2 ≤ 255 := u8_in w2
  obtain ⟨W, hW⟩ : ∃ W, 1 + a0 % 40 = W := ⟨_, rfl⟩
  obtain ⟨H, hH⟩ : ∃ H, 1 + a1 % 24 = H := ⟨_, rfl⟩
  obtain ⟨m, hm⟩ : ∃ m, 1 + a2 % 4 = m := ⟨_, rfl⟩
  have f : Fit W H m := ⟨by omega, by omega, by omega, by
    have : W * H ≤ 40 * 24 := Int.mul_le_mul (by omega) (by omega) (by omega) (by omega)
    omega⟩
  have HW : Hid (1 + a0 % 40 = W ∧ 1 + a1 % 24 = H ∧ 1 + a2 % 4 = m) := ⟨hW, hH, hm⟩
  have hWs : 1 ≤ W ∧ W ≤ 40 ∧ 1 ≤ H ∧ H ≤ 24 := by omega
  clear hW hH hm
  obtain ⟨f', gE1, gE2, uW1, uW2, uH1, uH2⟩ := grid_edge f hWs.2.1 hWs.2.2.2
  obtain ⟨-, -, g3, g4, g5, g6⟩ := f.grid
  obtain ⟨N, hN⟩ : ∃ N, (gridW W H m * gridH W H m).toNat = N := ⟨_, rfl⟩
  obtain ⟨U, hU⟩ : ∃ U, gridW W H m * sideW m = U := ⟨_, rfl⟩
  obtain ⟨U', hU'⟩ : ∃ U, gridH W H m * sideH m = U := ⟨_, rfl⟩
  rw [hU, hU'] at f' gE1 gE2
  rw [hU] at uW1 uW2
  rw [hU'] at uH1 uH2
  have hN2 : N ≤ 100000000 := by
    have : gridW W H m * gridH W H m ≤ 8192 * 8192 := Int.mul_le_mul g4 g6 (by omega) (by omega)
    omega
  obtain ⟨a, ha⟩ : ∃ a, gridW W H m = a := ⟨_, rfl⟩
  obtain ⟨b, hb⟩ : ∃ b, gridH W H m = b := ⟨_, rfl⟩
  obtain ⟨x, hx⟩ : ∃ a, sideW m = a := ⟨_, rfl⟩
  obtain ⟨y, hy⟩ : ∃ b, sideH m = b := ⟨_, rfl⟩
  have HG : Hid (gridW W H m = a ∧ gridH W H m = b ∧ sideW m = x ∧ sideH m = y) := ⟨ha, hb, hx, hy⟩
  have HGE : Hid (gridW U U' m = gridW W H m ∧ gridH U U' m = gridH W H m ∧ (gridW W H m * gridH W H m).toNat = N) := ⟨gE1, gE2, hN⟩
  rw [ha, hx] at hU
  rw [hb, hy] at hU'
  have eU : wrap64 (a * x) = U := by rw [hU]; exact w64 _ (by omega)
  have eU' : wrap64 (b * y) = U' := by rw [hU']; exact w64 _ (by omega)
  clear ha hb hx hy hU hU' gE1 gE2 hN g3 g4 g5 g6
  obtain ⟨vo, vc, rfl⟩ := s3.slice
  obtain ⟨rb, hrb⟩ : ∃ rb, (m != 1) = rb := ⟨_, rfl⟩
  have HRB : Hid ((m != 1) = rb) := hrb
  obtain ⟨P, hP⟩ : ∃ P, partsN m = P := ⟨_, rfl⟩
  have hPr : (rb = false ∧ P = 1) ∨ (rb = true ∧ P = 3) := by
    rw [← hrb, ← hP]
    by_cases h1 : m = 1
    · left; simp [h1, partsN]
    · right; simp [h1, partsN]
  have HP : Hid (partsN m = P) := hP
  have IMG := fun V (hv : View V .u8 (.slice vo l3.length vc) l3) => image_any W H m f _ l3 V hv x3 n3
  rw [hrb] at IMG
  clear hrb hP
  go_enter Tryd.func7, Tryd.ntmps7
  go_wp2_with fail
  refine (public_any _ _ _ a0r a1r a2r _).mono ?_
  rintro e w1 ⟨rfl, b1⟩
  rw [HW.out.1, HW.out.2.1, HW.out.2.2]
  have kk := ((Keep.start w).step b1).made 23 (pC W H m 50 1 0)
  clear HW a0r a1r a2r
  obtain ⟨PB, hPB⟩ : ∃ b, w1.heap.size = b := ⟨_, rfl⟩
  rw [hPB] at kk
  go_wp2_with fail
  revert kk
  generalize w1.alloc (.cells #[.int .i64 W, .int .i64 H, .int .i64 m, .int .i64 50, .int .i64 1, .int .i64 0] 23) = w2
  intro kk
  refine (IMG w2 (s3.but kk.but)).mono ?_
  rintro e w3' ⟨⟨li, pv, rfl, hil, hix, Li⟩, b3⟩
  have hi1 : 0 < li.length := by
    have p1 : 1 ≤ (partsN m : Int) := by unfold partsN; split <;> simp
    have q1 : 1 * 1 ≤ W * H := Int.mul_le_mul hWs.1 hWs.2.2.1 (by omega) (by omega)
    have q2 : 1 * 1 ≤ W * H * (partsN m : Int) := Int.mul_le_mul (by omega) p1 (by omega) (by omega)
    omega
  obtain ⟨gi, pc, rfl, zg1, zg2, hpc, zg3, -⟩ := Li.at hi1
  have hVI := View.of_owns Li.own
  obtain ⟨n, hn⟩ : ∃ n, li.length = n := ⟨_, rfl⟩
  have HIL : Hid ((li.length : Int) = W * H * partsN m) := hil
  have HLN : Hid (li.length = n) := hn
  rw [hn] at hVI hpc ⊢
  clear hi1
  replace kk := (kk.step b3).made 26 (imC W H rb (.slice (some ⟨gi, 0, none⟩) n pc))
  have hVM := hVI.but ((But.refl Nowhere w3').alloc (.cells #[.int .i64 W, .int .i64 H, .bool rb, .slice (some ⟨gi, 0, none⟩) n pc] 26))
  have zg4 : ∀ j u, (ints .u8 li)[j]? = some u → (w3'.alloc (.cells #[.int .i64 W, .int .i64 H, .bool rb, .slice (some ⟨gi, 0, none⟩) n pc] 26)).cell? ⟨gi, j, none⟩ = some u := fun j u h => ((But.refl Nowhere w3').alloc _).keeps (not_nowhere _) (zg3 j u h)
  obtain ⟨MB, hMB⟩ : ∃ b, w3'.heap.size = b := ⟨_, rfl⟩
  rw [hMB] at kk zg1
  clear Li b3 hil hn b1 IMG hPB hVI zg3
  have gP := kk.get (b := PB) (t := 23) (c := pC W H m 50 1 0) (by simp)
  have c0 := gP.at 0
  have c1 := gP.at 1
  have c2 := gP.at 2
  have c3 := gP.at 3
  have c4 := gP.at 4
  have c5 := gP.at 5
  simp only [List.getElem?_cons_zero, List.getElem?_cons_succ] at c0 c1 c2 c3 c4 c5
  go_wp2_with fail
  clear c0 c1 c2 c3 c4 c5 gP
  revert kk hVM zg4
  generalize w3'.alloc (.cells #[.int .i64 W, .int .i64 H, .bool rb, .slice (some ⟨gi, 0, none⟩) n pc] 26) = w4
  intro hVM zg4 kk
  refine (grid_any _ _ _ _ _ _ _).mono ?_
  rintro e w5 ⟨rfl, b5⟩
  rw [HG.out.1, HG.out.2.1]
  replace kk := kk.step b5
  replace hVM := hVM.but b5
  replace zg4 := fun j u h => b5.keeps (not_nowhere _) (zg4 j u h)
  have c2 := (kk.get (b := PB) (t := 23) (c := pC W H m 50 1 0) (by simp)).at 2
  simp only [List.getElem?_cons_zero, List.getElem?_cons_succ] at c2
  clear b5
  go_wp2_with fail
  refine (side_any _ _).mono ?_
  rintro e w6 ⟨rfl, b6⟩
  rw [HG.out.2.2.1, HG.out.2.2.2]
  replace kk := kk.step b6
  replace hVM := hVM.but b6
  replace zg4 := fun j u h => b6.keeps (not_nowhere _) (zg4 j u h)
  clear b6 c2
  have gP := kk.get (b := PB) (t := 23) (c := pC W H m 50 1 0) (by simp)
  have c0 := gP.at 0
  have c1 := gP.at 1
  have c2 := gP.at 2
  have c3 := gP.at 3
  have c4 := gP.at 4
  have c5 := gP.at 5
  simp only [List.getElem?_cons_zero, List.getElem?_cons_succ] at c0 c1 c2 c3 c4 c5
  obtain ⟨QB, hQB⟩ : ∃ b, w6.heap.size = b := ⟨_, rfl⟩
  have hMQ : MB < QB := by have := (kk.get (b := MB) (t := 26) (c := imC W H rb (.slice (some ⟨gi, 0, none⟩) n pc)) (by simp)).lt; omega
  have hPQ : PB < QB := by have := gP.lt; omega
  replace kk := kk.made 23 (pC U U' m 50 1 0)
  have d2 := (kk.get (b := MB) (t := 26) (c := imC W H rb (.slice (some ⟨gi, 0, none⟩) n pc)) (by simp)).at 2
  replace kk := kk.made 26 (imC U U' rb (.slice none 0 0))
  have d3 := (kk.get (b := MB) (t := 26) (c := imC W H rb (.slice (some ⟨gi, 0, none⟩) n pc)) (by simp)).at 2
  simp only [List.getElem?_cons_zero, List.getElem?_cons_succ] at d2 d3
  have bQ : But Nowhere w6 ((w6.alloc (.cells #[.int .i64 U, .int .i64 U', .int .i64 m, .int .i64 50, .int .i64 1, .int .i64 0] 23)).alloc (.cells #[.int .i64 U, .int .i64 U', .bool rb, .slice none 0 0] 26)) := ((But.refl _ _).alloc _).alloc _
  replace hVM := hVM.but bQ
  replace zg4 := fun j u h => bQ.keeps (not_nowhere _) (zg4 j u h)
  simp only [World.size_alloc] at kk
  rw [hQB] at kk
  obtain ⟨NB, hNB⟩ : ∃ b, QB + 1 = b := ⟨_, rfl⟩
  rw [hNB] at kk
  have hQN : QB < NB := by omega
  obtain ⟨Wn, rfl⟩ : ∃ Wn : Nat, W = Wn := ⟨W.toNat, by omega⟩
  obtain ⟨Hn, rfl⟩ : ∃ Hn : Nat, H = Hn := ⟨H.toNat, by omega⟩
  obtain ⟨Un, rfl⟩ : ∃ Un : Nat, U = Un := ⟨U.toNat, by omega⟩
  obtain ⟨Vn, rfl⟩ : ∃ Vn : Nat, U' = Vn := ⟨U'.toNat, by omega⟩
  have hZ0 : Un * Vn ≤ 56 * 40 := Nat.mul_le_mul (by omega) (by omega)
  obtain ⟨Z, hZ⟩ : ∃ Z : Nat, Un * Vn = Z := ⟨_, rfl⟩
  rw [hZ] at hZ0
  have eZ : wrap64 ((Un : Int) * (Vn : Int)) = (Z : Int) := by rw [← Int.natCast_mul, hZ]; exact w64 _ (by omega)
  have HZ : Hid (Un * Vn = Z) := hZ
  have HEZ : Hid (wrap64 ((Un : Int) * (Vn : Int)) = (Z : Int)) := eZ
  clear eZ
  clear hZ bQ
  rcases hPr with ⟨rfl, rfl⟩ | ⟨rfl, rfl⟩
  · skip
    have HLI : Hid (li.length = Wn * Hn * 1) := by
      show li.length = Wn * Hn * 1
      have h1 := HIL.out
      rw [HP.out] at h1
      have h2 : ((Wn * Hn * 1 : Nat) : Int) = (Wn : Int) * (Hn : Int) * ((1 : Nat) : Int) := by simp
      rw [← h2] at h1
      exact Int.ofNat.inj h1
    go_upto_region 12 with fail
    clear c0 c1 c2 c3 c4 c5 d2 d3 eU eU'
    revert kk hVM zg4
    generalize ((w6.alloc (.cells #[.int .i64 ↑Un, .int .i64 ↑Vn, .int .i64 m, .int .i64 50, .int .i64 1, .int .i64 0] 23)).alloc (.cells #[.int .i64 ↑Un, .int .i64 ↑Vn, .bool false, .slice none 0 0] 26)) = w9
    intro hVM zg4 kk
    go_wp2_with fail
    go_loopw [18] (fun i V => ∃ (k : Nat) (pv : Value), k ≤ Z ∧ i = .int .i64 k ∧ Lst w V 5 1 pv (k * 1) (ints .u8 ((List.range (k * 1)).map (edgeF Wn Hn Un 1 li))) ∧ Cells V NB 26 (imC Un Vn false pv) ∧ But (fun x => x = NB) w9 V ∧ ∀ x, pv.ownBlock = some x → w9.heap.size ≤ x) (fun i _ => Z - (intOf i).toNat)
    case atStart => exact ⟨0, .slice none 0 0, Nat.zero_le _, rfl, ⟨by simpa [ints] using World.ownsRow_nil _ _ _ _, by simp [Value.ownBlock], kk.but⟩, kk.head, But.refl _ _, by simp [Value.ownBlock]⟩
    case round =>
      obtain ⟨k, pv, hk, rfl, LL, HM, hbN, hnew⟩ := hrel
      obtain ⟨po, pcc, hpv⟩ := LL.slice
      rw [Nat.mul_one k] at hpv
      subst hpv
      have nMB : MB ≠ NB := by omega
      have nPB : PB ≠ NB := by omega
      have nQB : QB ≠ NB := by omega
      have gQ := (kk.get (b := QB) (t := 23) (c := pC Un Vn m 50 1 0) (by simp)).but hbN nQB
      have gP := (kk.get (b := PB) (t := 23) (c := pC Wn Hn m 50 1 0) (by simp)).but hbN nPB
      have gM := (kk.get (b := MB) (t := 26) (c := imC Wn Hn false (.slice (some ⟨gi, 0, none⟩) n pc)) (by simp)).but hbN nMB
      have c0 := gQ.at 0
      have c1 := gQ.at 1
      simp only [List.getElem?_cons_zero, List.getElem?_cons_succ] at c0 c1
      by_cases hlt : k < Z
      · have i1 : (k : Int) < (Z : Int) := Int.ofNat_lt.2 hlt
        obtain ⟨A, hA⟩ : ∃ A, edgeAt Wn Hn Un k = A := ⟨_, rfl⟩
        have hAl := edgeAt_lt Wn Hn Un k (by omega) (by omega)
        have hAs : Wn * Hn ≤ 40 * 24 := Nat.mul_le_mul (by omega) (by omega)
        obtain ⟨LO, hLO⟩ : ∃ LO, edgeAt Wn Hn Un k * 1 = LO := ⟨_, rfl⟩
        have hin : (edgeAt Wn Hn Un k + 1) * 1 ≤ li.length := by rw [HLI.out]; exact Nat.mul_le_mul_right _ hAl
        obtain ⟨g, cap, W4, hrun, c3, f3, E1, E2, E3, E4, E5⟩ := edge_round (c := pc - LO) (by omega) (LL.step ((But.refl Nowhere wr).drew.drew)) (HM.but ((But.refl Nowhere wr).drew.drew) (not_nowhere _)) hbN.drew.drew hnew kk.head.lt (kk.new (NB, 26, imC Un Vn false (.slice none 0 0)) (by simp)) (fun j u h => hbN.drew.drew.keeps (by show gi ≠ NB; omega) (zg4 j u h)) hin (by omega)
        have cM4 : W4.cell? ⟨MB, 3, none⟩ = some (.slice (some ⟨gi, 0, none⟩) n pc) := E5 ⟨MB, 3, none⟩ _ (by have := kk.head.lt; show MB < _; omega) (gM.at 3)
        rw [Nat.mul_one k] at hrun E1 E2 E3 E4
        have HF : Hid _ := And.intro E1 (And.intro E2 (And.intro E3 E4))
        rw [hLO] at hrun
        rw [HLN.out] at hin
        rw [hA] at hLO hAl hin
        have hsl := fun wx => slice_mid8 gi n pc LO 1 (by omega) (by omega) wx
        obtain ⟨HI, hHI⟩ : ∃ HI, LO + 1 = HI := ⟨_, rfl⟩
        rw [hHI] at hsl
        obtain ⟨kq, hkq⟩ : ∃ kq, k / Un = kq := ⟨_, rfl⟩
        obtain ⟨kr, hkr⟩ : ∃ kr, k % Un = kr := ⟨_, rfl⟩
        obtain ⟨y0, hy0⟩ : ∃ y0, min kq (Hn - 1) = y0 := ⟨_, rfl⟩
        obtain ⟨x0, hx0⟩ : ∃ x0, min kr (Wn - 1) = x0 := ⟨_, rfl⟩
        obtain ⟨T1, hT1⟩ : ∃ T1, y0 * Wn = T1 := ⟨_, rfl⟩
        have hA2 : T1 + x0 = A := by
          rw [← hA, ← hT1, ← hy0, ← hx0, ← hkq, ← hkr]; rfl
        have hqk : kq ≤ k := by rw [← hkq]; exact Nat.div_le_self _ _
        have R1 : Hid ((k : Int).tdiv (Un : Int) = (kq : Int)) := by show (k : Int).tdiv (Un : Int) = (kq : Int); rw [Int.tdiv_eq_ediv_of_nonneg (by omega), ← hkq]; simp
        have R2 : Hid ((k : Int).tmod (Un : Int) = (kr : Int)) := by show (k : Int).tmod (Un : Int) = (kr : Int); rw [Int.tmod_eq_emod_of_nonneg (by omega), ← hkr]; simp
        have R3 : Hid (IntKind.i64.wrap (kq : Int) = (kq : Int)) := by show IntKind.i64.wrap (kq : Int) = (kq : Int); rw [wrap_i64_eq]; exact w64 _ (by omega)
        have R4 : Hid (wrap64 ((Hn : Int) - 1) = (Hn : Int) - 1) := w64 _ (by omega)
        have R5 : Hid (wrap64 ((Wn : Int) - 1) = (Wn : Int) - 1) := w64 _ (by omega)
        have R6 : Hid (wrap64 ((y0 : Int) * (Wn : Int)) = (T1 : Int)) := by show wrap64 ((y0 : Int) * (Wn : Int)) = (T1 : Int); rw [← Int.natCast_mul, hT1]; exact w64 _ (by omega)
        have R7 : Hid (wrap64 ((T1 : Int) + (x0 : Int)) = (A : Int)) := by show wrap64 ((T1 : Int) + (x0 : Int)) = (A : Int); rw [← Int.natCast_add, hA2]; exact w64 _ (by omega)
        have RL : Hid (wrap64 ((A : Int) * 1) = (LO : Int)) := by show wrap64 ((A : Int) * 1) = (LO : Int); rw [show (A : Int) * 1 = (LO : Int) by omega]; exact w64 _ (by omega)
        have RI : Hid (wrap64 ((LO : Int) + 1) = (HI : Int)) := by show wrap64 ((LO : Int) + 1) = (HI : Int); rw [show (LO : Int) + 1 = (HI : Int) by omega]; exact w64 _ (by omega)
        have rY : (if (Hn : Int) - 1 < (kq : Int) then (Hn : Int) - 1 else (kq : Int)) = (y0 : Int) := by split <;> omega
        have rX : (if (Wn : Int) - 1 < (kr : Int) then (Wn : Int) - 1 else (kr : Int)) = (x0 : Int) := by split <;> omega
        have r8 : ¬ (Un : Int) < 1 := by omega
        have r9 : ¬ Un = 0 := by omega
        have hk1 : k + 1 ≤ Z := hlt
        have r1 := R1.out
        have r2 := R2.out
        have r3 := R3.out
        have r4 := R4.out
        have r5 := R5.out
        have r6 := R6.out
        have r7 := R7.out
        have rL := RL.out
        have rI := RI.out
        clear R1 R2 R3 R4 R5 R6 R7 RL RI
        have rL9 : wrap64 (A : Int) = (LO : Int) := by simpa using rL
        have cP0 := gP.at 0
        have cP1 := gP.at 1
        have cN3 := HM.at 3
        have cM3 := gM.at 3
        simp only [List.getElem?_cons_zero, List.getElem?_cons_succ] at cP0 cP1 cN3 cM3
        have eZ := HEZ.out
        clear E1 E2 E3 E4 E5 LL HM gP gQ gM hbN hnew
        go_wp2_with fail
        clear eZ
        refine wp_region_till (S := fun V => V.cell? ⟨PB, 0, none⟩ = some (.int .i64 Wn) ∧ V.cell? ⟨PB, 1, none⟩ = some (.int .i64 Hn) ∧ V.cell? ⟨QB, 0, none⟩ = some (.int .i64 Un) ∧ V.cell? ⟨QB, 1, none⟩ = some (.int .i64 Vn)) (R := fun _ => True) (k := 100) (m := 100) (by kernel_rfl) ⟨cP0, cP1, c0, c1⟩ trivial ?_
        (refine Walk.take (i := 0) (oi := { dst := some 65, op := Op.move (Operand.tmp 18), type := 3, pos := "more.go:43", after := #[], guard := none }) (v := ?_) rfl (by kernel_rfl) (by kernel_rfl) (by kernel_rfl) (by kernel_rfl) (fun _ _ _ h => h) (Or.inl ⟨by rfl, ?_⟩) ?_; rotate_left; (intro w hw; clear hw; (try go_split_ands); go_simp; try (with_reducible rfl)); simp only [Act.put, List.setIfInBounds_toArray, List.set_cons_zero, List.set_cons_succ])
        (refine Walk.take (i := 1) (oi := { dst := some 66, op := Op.fieldAddr 23 (Operand.tmp 15) 0, type := 0, pos := "more.go:43", after := #[], guard := none }) (v := ?_) rfl (by kernel_rfl) (by kernel_rfl) (by kernel_rfl) (by kernel_rfl) (fun _ _ _ h => h) (Or.inl ⟨by rfl, ?_⟩) ?_; rotate_left; (intro w hw; clear hw; (try go_split_ands); go_simp; try (with_reducible rfl)); simp only [Act.put, List.setIfInBounds_toArray, List.set_cons_zero, List.set_cons_succ])
        (refine Walk.take (i := 2) (oi := { dst := some 67, op := Op.load 3 (Operand.tmp 66), type := 3, pos := "more.go:43", after := #[{ on := 1, ground := Ground.data }], guard := none }) (v := ?_) rfl (by kernel_rfl) (by kernel_rfl) (by kernel_rfl) (by kernel_rfl) (fun _ _ _ h => h) (Or.inl ⟨by rfl, ?_⟩) ?_; rotate_left; (intro w hw; have hS1 := hw.1 (by kernel_rfl); clear hw; (try dsimp only at hS1); (try go_split_ands); go_simp; try (with_reducible rfl)); simp only [Act.put, List.setIfInBounds_toArray, List.set_cons_zero, List.set_cons_succ])
        (refine Walk.take (i := 3) (oi := { dst := some 68, op := Op.call { callee := Callee.builtin Builtin.max, args := #[Operand.tmp 67, Operand.const (Value.int IntKind.i64 1)], argTypes := #[3, 3] }, type := 3, pos := "more.go:43", after := #[{ on := 2, ground := Ground.data }], guard := none }) (v := .int .i64 (Un : Int)) rfl (by kernel_rfl) (by kernel_rfl) (by kernel_rfl) (by kernel_rfl) (fun _ _ _ h => h) (Or.inl ⟨by rfl, ?_⟩) ?_; (focus (intro w hw; clear hw; (try go_split_ands); go_simp; (try (intro h9; first | exact absurd h9 r8 | exact absurd h9 (Int.not_lt.2 r8))))); simp only [Act.put, List.setIfInBounds_toArray, List.set_cons_zero, List.set_cons_succ])
        (refine Walk.take (i := 4) (oi := { dst := some 69, op := Op.binOp BinOp.quo 3 (Operand.tmp 65) (Operand.tmp 68) 3, type := 3, pos := "more.go:43", after := #[{ on := 0, ground := Ground.data }, { on := 3, ground := Ground.data }], guard := none }) (v := .int .i64 (kq : Int)) rfl (by kernel_rfl) (by kernel_rfl) (by kernel_rfl) (by kernel_rfl) (fun _ _ _ h => h) (Or.inl ⟨by rfl, ?_⟩) ?_; (focus (intro w hw; clear hw; (try go_split_ands); go_simp; (try first | (rw [if_neg r9, r3]; done) | (rw [if_neg r9]; done) | (rw [wrap_i64_eq]; first | exact r4 | exact r5 | exact r6 | exact r7 | exact rL | exact rL9 | exact rI)))); simp only [Act.put, List.setIfInBounds_toArray, List.set_cons_zero, List.set_cons_succ])
        (refine Walk.take (i := 5) (oi := { dst := some 70, op := Op.fieldAddr 23 (Operand.tmp 9) 1, type := 0, pos := "more.go:43", after := #[], guard := none }) (v := ?_) rfl (by kernel_rfl) (by kernel_rfl) (by kernel_rfl) (by kernel_rfl) (fun _ _ _ h => h) (Or.inl ⟨by rfl, ?_⟩) ?_; rotate_left; (intro w hw; clear hw; (try go_split_ands); go_simp; try (with_reducible rfl)); simp only [Act.put, List.setIfInBounds_toArray, List.set_cons_zero, List.set_cons_succ])
        (refine Walk.take (i := 6) (oi := { dst := some 71, op := Op.load 3 (Operand.tmp 70), type := 3, pos := "more.go:43", after := #[{ on := 5, ground := Ground.data }], guard := none }) (v := ?_) rfl (by kernel_rfl) (by kernel_rfl) (by kernel_rfl) (by kernel_rfl) (fun _ _ _ h => h) (Or.inl ⟨by rfl, ?_⟩) ?_; rotate_left; (intro w hw; have hS1 := hw.1 (by kernel_rfl); clear hw; (try dsimp only at hS1); (try go_split_ands); go_simp; try (with_reducible rfl)); simp only [Act.put, List.setIfInBounds_toArray, List.set_cons_zero, List.set_cons_succ])
        (refine Walk.take (i := 7) (oi := { dst := some 72, op := Op.binOp BinOp.sub 3 (Operand.tmp 71) (Operand.const (Value.int IntKind.i64 1)) 3, type := 3, pos := "more.go:43", after := #[{ on := 6, ground := Ground.data }], guard := none }) (v := .int .i64 ((Hn : Int) - 1)) rfl (by kernel_rfl) (by kernel_rfl) (by kernel_rfl) (by kernel_rfl) (fun _ _ _ h => h) (Or.inl ⟨by rfl, ?_⟩) ?_; (focus (intro w hw; clear hw; (try go_split_ands); go_simp; (try first | (rw [if_neg r9, r3]; done) | (rw [if_neg r9]; done) | (rw [wrap_i64_eq]; first | exact r4 | exact r5 | exact r6 | exact r7 | exact rL | exact rL9 | exact rI)))); simp only [Act.put, List.setIfInBounds_toArray, List.set_cons_zero, List.set_cons_succ])
        (refine Walk.take (i := 8) (oi := { dst := some 73, op := Op.call { callee := Callee.builtin Builtin.min, args := #[Operand.tmp 69, Operand.tmp 72], argTypes := #[3, 3] }, type := 3, pos := "more.go:43", after := #[{ on := 4, ground := Ground.data }, { on := 7, ground := Ground.data }], guard := none }) (v := .int .i64 (y0 : Int)) rfl (by kernel_rfl) (by kernel_rfl) (by kernel_rfl) (by kernel_rfl) (fun _ _ _ h => h) (Or.inl ⟨by rfl, ?_⟩) ?_; (focus (intro w hw; clear hw; (try go_split_ands); go_simp; (try first | (rw [if_neg r9, r3]; done) | (rw [if_neg r9]; done) | (rw [wrap_i64_eq]; first | exact r4 | exact r5 | exact r6 | exact r7 | exact rL | exact rL9 | exact rI)))); simp only [Act.put, List.setIfInBounds_toArray, List.set_cons_zero, List.set_cons_succ])
        (refine Walk.take (i := 9) (oi := { dst := some 74, op := Op.fieldAddr 23 (Operand.tmp 9) 0, type := 0, pos := "more.go:43", after := #[], guard := none }) (v := ?_) rfl (by kernel_rfl) (by kernel_rfl) (by kernel_rfl) (by kernel_rfl) (fun _ _ _ h => h) (Or.inl ⟨by rfl, ?_⟩) ?_; rotate_left; (intro w hw; clear hw; (try go_split_ands); go_simp; try (with_reducible rfl)); simp only [Act.put, List.setIfInBounds_toArray, List.set_cons_zero, List.set_cons_succ])
        (refine Walk.take (i := 10) (oi := { dst := some 75, op := Op.load 3 (Operand.tmp 74), type := 3, pos := "more.go:43", after := #[{ on := 9, ground := Ground.data }], guard := none }) (v := ?_) rfl (by kernel_rfl) (by kernel_rfl) (by kernel_rfl) (by kernel_rfl) (fun _ _ _ h => h) (Or.inl ⟨by rfl, ?_⟩) ?_; rotate_left; (intro w hw; have hS1 := hw.1 (by kernel_rfl); clear hw; (try dsimp only at hS1); (try go_split_ands); go_simp; try (with_reducible rfl)); simp only [Act.put, List.setIfInBounds_toArray, List.set_cons_zero, List.set_cons_succ])
        (refine Walk.take (i := 11) (oi := { dst := some 76, op := Op.binOp BinOp.mul 3 (Operand.tmp 73) (Operand.tmp 75) 3, type := 3, pos := "more.go:43", after := #[{ on := 8, ground := Ground.data }, { on := 10, ground := Ground.data }], guard := none }) (v := .int .i64 (T1 : Int)) rfl (by kernel_rfl) (by kernel_rfl) (by kernel_rfl) (by kernel_rfl) (fun _ _ _ h => h) (Or.inl ⟨by rfl, ?_⟩) ?_; (focus (intro w hw; clear hw; (try go_split_ands); go_simp; (try first | (rw [if_neg r9, r3]; done) | (rw [if_neg r9]; done) | (rw [wrap_i64_eq]; first | exact r4 | exact r5 | exact r6 | exact r7 | exact rL | exact rL9 | exact rI)))); simp only [Act.put, List.setIfInBounds_toArray, List.set_cons_zero, List.set_cons_succ])
        (refine Walk.take (i := 12) (oi := { dst := some 77, op := Op.move (Operand.tmp 18), type := 3, pos := "more.go:43", after := #[], guard := none }) (v := ?_) rfl (by kernel_rfl) (by kernel_rfl) (by kernel_rfl) (by kernel_rfl) (fun _ _ _ h => h) (Or.inl ⟨by rfl, ?_⟩) ?_; rotate_left; (intro w hw; clear hw; (try go_split_ands); go_simp; try (with_reducible rfl)); simp only [Act.put, List.setIfInBounds_toArray, List.set_cons_zero, List.set_cons_succ])
        (refine Walk.take (i := 13) (oi := { dst := some 78, op := Op.fieldAddr 23 (Operand.tmp 15) 0, type := 0, pos := "more.go:43", after := #[], guard := none }) (v := ?_) rfl (by kernel_rfl) (by kernel_rfl) (by kernel_rfl) (by kernel_rfl) (fun _ _ _ h => h) (Or.inl ⟨by rfl, ?_⟩) ?_; rotate_left; (intro w hw; clear hw; (try go_split_ands); go_simp; try (with_reducible rfl)); simp only [Act.put, List.setIfInBounds_toArray, List.set_cons_zero, List.set_cons_succ])
        (refine Walk.take (i := 14) (oi := { dst := some 79, op := Op.load 3 (Operand.tmp 78), type := 3, pos := "more.go:43", after := #[{ on := 13, ground := Ground.data }], guard := none }) (v := ?_) rfl (by kernel_rfl) (by kernel_rfl) (by kernel_rfl) (by kernel_rfl) (fun _ _ _ h => h) (Or.inl ⟨by rfl, ?_⟩) ?_; rotate_left; (intro w hw; have hS1 := hw.1 (by kernel_rfl); clear hw; (try dsimp only at hS1); (try go_split_ands); go_simp; try (with_reducible rfl)); simp only [Act.put, List.setIfInBounds_toArray, List.set_cons_zero, List.set_cons_succ])
        (refine Walk.take (i := 15) (oi := { dst := some 80, op := Op.call { callee := Callee.builtin Builtin.max, args := #[Operand.tmp 79, Operand.const (Value.int IntKind.i64 1)], argTypes := #[3, 3] }, type := 3, pos := "more.go:43", after := #[{ on := 14, ground := Ground.data }], guard := none }) (v := .int .i64 (Un : Int)) rfl (by kernel_rfl) (by kernel_rfl) (by kernel_rfl) (by kernel_rfl) (fun _ _ _ h => h) (Or.inl ⟨by rfl, ?_⟩) ?_; (focus (intro w hw; clear hw; (try go_split_ands); go_simp; (try (intro h9; first | exact absurd h9 r8 | exact absurd h9 (Int.not_lt.2 r8))))); simp only [Act.put, List.setIfInBounds_toArray, List.set_cons_zero, List.set_cons_succ])
        (refine Walk.take (i := 16) (oi := { dst := some 81, op := Op.binOp BinOp.rem 3 (Operand.tmp 77) (Operand.tmp 80) 3, type := 3, pos := "more.go:43", after := #[{ on := 12, ground := Ground.data }, { on := 15, ground := Ground.data }], guard := none }) (v := .int .i64 (kr : Int)) rfl (by kernel_rfl) (by kernel_rfl) (by kernel_rfl) (by kernel_rfl) (fun _ _ _ h => h) (Or.inl ⟨by rfl, ?_⟩) ?_; (focus (intro w hw; clear hw; (try go_split_ands); go_simp; (try first | (rw [if_neg r9, r3]; done) | (rw [if_neg r9]; done) | (rw [wrap_i64_eq]; first | exact r4 | exact r5 | exact r6 | exact r7 | exact rL | exact rL9 | exact rI)))); simp only [Act.put, List.setIfInBounds_toArray, List.set_cons_zero, List.set_cons_succ])
        (refine Walk.take (i := 17) (oi := { dst := some 82, op := Op.fieldAddr 23 (Operand.tmp 9) 0, type := 0, pos := "more.go:43", after := #[], guard := none }) (v := ?_) rfl (by kernel_rfl) (by kernel_rfl) (by kernel_rfl) (by kernel_rfl) (fun _ _ _ h => h) (Or.inl ⟨by rfl, ?_⟩) ?_; rotate_left; (intro w hw; clear hw; (try go_split_ands); go_simp; try (with_reducible rfl)); simp only [Act.put, List.setIfInBounds_toArray, List.set_cons_zero, List.set_cons_succ])
        (refine Walk.take (i := 18) (oi := { dst := some 83, op := Op.load 3 (Operand.tmp 82), type := 3, pos := "more.go:43", after := #[{ on := 17, ground := Ground.data }], guard := none }) (v := ?_) rfl (by kernel_rfl) (by kernel_rfl) (by kernel_rfl) (by kernel_rfl) (fun _ _ _ h => h) (Or.inl ⟨by rfl, ?_⟩) ?_; rotate_left; (intro w hw; have hS1 := hw.1 (by kernel_rfl); clear hw; (try dsimp only at hS1); (try go_split_ands); go_simp; try (with_reducible rfl)); simp only [Act.put, List.setIfInBounds_toArray, List.set_cons_zero, List.set_cons_succ])
        (refine Walk.take (i := 19) (oi := { dst := some 84, op := Op.binOp BinOp.sub 3 (Operand.tmp 83) (Operand.const (Value.int IntKind.i64 1)) 3, type := 3, pos := "more.go:43", after := #[{ on := 18, ground := Ground.data }], guard := none }) (v := .int .i64 ((Wn : Int) - 1)) rfl (by kernel_rfl) (by kernel_rfl) (by kernel_rfl) (by kernel_rfl) (fun _ _ _ h => h) (Or.inl ⟨by rfl, ?_⟩) ?_; (focus (intro w hw; clear hw; (try go_split_ands); go_simp; (try first | (rw [if_neg r9, r3]; done) | (rw [if_neg r9]; done) | (rw [wrap_i64_eq]; first | exact r4 | exact r5 | exact r6 | exact r7 | exact rL | exact rL9 | exact rI)))); simp only [Act.put, List.setIfInBounds_toArray, List.set_cons_zero, List.set_cons_succ])
        (refine Walk.take (i := 20) (oi := { dst := some 85, op := Op.call { callee := Callee.builtin Builtin.min, args := #[Operand.tmp 81, Operand.tmp 84], argTypes := #[3, 3] }, type := 3, pos := "more.go:43", after := #[{ on := 16, ground := Ground.data }, { on := 19, ground := Ground.data }], guard := none }) (v := .int .i64 (x0 : Int)) rfl (by kernel_rfl) (by kernel_rfl) (by kernel_rfl) (by kernel_rfl) (fun _ _ _ h => h) (Or.inl ⟨by rfl, ?_⟩) ?_; (focus (intro w hw; clear hw; (try go_split_ands); go_simp; (try first | (rw [if_neg r9, r3]; done) | (rw [if_neg r9]; done) | (rw [wrap_i64_eq]; first | exact r4 | exact r5 | exact r6 | exact r7 | exact rL | exact rL9 | exact rI)))); simp only [Act.put, List.setIfInBounds_toArray, List.set_cons_zero, List.set_cons_succ])
        (refine Walk.take (i := 21) (oi := { dst := some 86, op := Op.binOp BinOp.add 3 (Operand.tmp 76) (Operand.tmp 85) 3, type := 3, pos := "more.go:43", after := #[{ on := 11, ground := Ground.data }, { on := 20, ground := Ground.data }], guard := none }) (v := .int .i64 (A : Int)) rfl (by kernel_rfl) (by kernel_rfl) (by kernel_rfl) (by kernel_rfl) (fun _ _ _ h => h) (Or.inl ⟨by rfl, ?_⟩) ?_; (focus (intro w hw; clear hw; (try go_split_ands); go_simp; (try first | (rw [if_neg r9, r3]; done) | (rw [if_neg r9]; done) | (rw [wrap_i64_eq]; first | exact r4 | exact r5 | exact r6 | exact r7 | exact rL | exact rL9 | exact rI)))); simp only [Act.put, List.setIfInBounds_toArray, List.set_cons_zero, List.set_cons_succ])
        (refine Walk.take (i := 22) (oi := { dst := some 19, op := Op.assign (Operand.tmp 86), type := 3, pos := "more.go:43", after := #[{ on := 21, ground := Ground.data }, { on := 0, ground := Ground.phase }, { on := 1, ground := Ground.phase }, { on := 2, ground := Ground.phase }, { on := 3, ground := Ground.phase }, { on := 4, ground := Ground.phase }, { on := 5, ground := Ground.phase }, { on := 6, ground := Ground.phase }, { on := 7, ground := Ground.phase }, { on := 8, ground := Ground.phase }, { on := 9, ground := Ground.phase }, { on := 10, ground := Ground.phase }, { on := 11, ground := Ground.phase }, { on := 12, ground := Ground.phase }, { on := 13, ground := Ground.phase }, { on := 14, ground := Ground.phase }, { on := 15, ground := Ground.phase }, { on := 16, ground := Ground.phase }, { on := 17, ground := Ground.phase }, { on := 18, ground := Ground.phase }, { on := 19, ground := Ground.phase }, { on := 20, ground := Ground.phase }, { on := 21, ground := Ground.phase }], guard := none }) (v := ?_) rfl (by kernel_rfl) (by kernel_rfl) (by kernel_rfl) (by kernel_rfl) (fun _ _ _ h => h) (Or.inl ⟨by rfl, ?_⟩) ?_; rotate_left; (intro w hw; clear hw; (try go_split_ands); go_simp; try (with_reducible rfl)); simp only [Act.put, List.setIfInBounds_toArray, List.set_cons_zero, List.set_cons_succ])
        refine Walk.done (by kernel_rfl) ?_ _
        go_wp2_with fail
        refine wp_region_till (S := fun V => V.cell? ⟨NB, 3, none⟩ = some (.slice po (k) pcc) ∧ V.cell? ⟨MB, 3, none⟩ = some (.slice (some ⟨gi, 0, none⟩) n pc)) (R := fun _ => True) (k := 15) (m := 100) (by kernel_rfl) ⟨cN3, cM3⟩ trivial ?_
        (refine Walk.take (i := 0) (oi := { dst := some 87, op := Op.fieldAddr 26 (Operand.tmp 16) 3, type := 0, pos := "more.go:44", after := #[], guard := none }) (v := ?_) rfl (by kernel_rfl) (by kernel_rfl) (by kernel_rfl) (by kernel_rfl) (fun _ _ _ h => h) (Or.inl ⟨by rfl, ?_⟩) ?_; rotate_left; (intro w hw; clear hw; (try go_split_ands); go_simp; try (with_reducible rfl)); simp only [Act.put, List.setIfInBounds_toArray, List.set_cons_zero, List.set_cons_succ])
        (refine Walk.take (i := 1) (oi := { dst := some 88, op := Op.load 24 (Operand.tmp 87), type := 24, pos := "more.go:44", after := #[{ on := 0, ground := Ground.data }], guard := none }) (v := ?_) rfl (by kernel_rfl) (by kernel_rfl) (by kernel_rfl) (by kernel_rfl) (fun _ _ _ h => h) (Or.inl ⟨by rfl, ?_⟩) ?_; rotate_left; (intro w hw; have hS1 := hw.1 (by kernel_rfl); clear hw; (try dsimp only at hS1); (try go_split_ands); go_simp; try (with_reducible rfl)); simp only [Act.put, List.setIfInBounds_toArray, List.set_cons_zero, List.set_cons_succ])
        (refine Walk.take (i := 2) (oi := { dst := some 89, op := Op.fieldAddr 26 (Operand.tmp 10) 3, type := 0, pos := "more.go:44", after := #[], guard := none }) (v := ?_) rfl (by kernel_rfl) (by kernel_rfl) (by kernel_rfl) (by kernel_rfl) (fun _ _ _ h => h) (Or.inl ⟨by rfl, ?_⟩) ?_; rotate_left; (intro w hw; clear hw; (try go_split_ands); go_simp; try (with_reducible rfl)); simp only [Act.put, List.setIfInBounds_toArray, List.set_cons_zero, List.set_cons_succ])
        (refine Walk.take (i := 3) (oi := { dst := some 90, op := Op.load 24 (Operand.tmp 89), type := 24, pos := "more.go:44", after := #[{ on := 2, ground := Ground.data }], guard := none }) (v := ?_) rfl (by kernel_rfl) (by kernel_rfl) (by kernel_rfl) (by kernel_rfl) (fun _ _ _ h => h) (Or.inl ⟨by rfl, ?_⟩) ?_; rotate_left; (intro w hw; have hS1 := hw.1 (by kernel_rfl); clear hw; (try dsimp only at hS1); (try go_split_ands); go_simp; try (with_reducible rfl)); simp only [Act.put, List.setIfInBounds_toArray, List.set_cons_zero, List.set_cons_succ])
        (refine Walk.take (i := 4) (oi := { dst := some 91, op := Op.move (Operand.tmp 19), type := 3, pos := "more.go:44", after := #[], guard := none }) (v := ?_) rfl (by kernel_rfl) (by kernel_rfl) (by kernel_rfl) (by kernel_rfl) (fun _ _ _ h => h) (Or.inl ⟨by rfl, ?_⟩) ?_; rotate_left; (intro w hw; clear hw; (try go_split_ands); go_simp; try (with_reducible rfl)); simp only [Act.put, List.setIfInBounds_toArray, List.set_cons_zero, List.set_cons_succ])
        (refine Walk.take (i := 5) (oi := { dst := some 92, op := Op.move (Operand.tmp 17), type := 3, pos := "more.go:44", after := #[], guard := none }) (v := ?_) rfl (by kernel_rfl) (by kernel_rfl) (by kernel_rfl) (by kernel_rfl) (fun _ _ _ h => h) (Or.inl ⟨by rfl, ?_⟩) ?_; rotate_left; (intro w hw; clear hw; (try go_split_ands); go_simp; try (with_reducible rfl)); simp only [Act.put, List.setIfInBounds_toArray, List.set_cons_zero, List.set_cons_succ])
        (refine Walk.take (i := 6) (oi := { dst := some 93, op := Op.binOp BinOp.mul 3 (Operand.tmp 91) (Operand.tmp 92) 3, type := 3, pos := "more.go:44", after := #[{ on := 4, ground := Ground.data }, { on := 5, ground := Ground.data }], guard := none }) (v := .int .i64 (LO : Int)) rfl (by kernel_rfl) (by kernel_rfl) (by kernel_rfl) (by kernel_rfl) (fun _ _ _ h => h) (Or.inl ⟨by rfl, ?_⟩) ?_; (focus (intro w hw; clear hw; (try go_split_ands); go_simp; (try first | (rw [if_neg r9, r3]; done) | (rw [if_neg r9]; done) | (rw [wrap_i64_eq]; first | exact r4 | exact r5 | exact r6 | exact r7 | exact rL | exact rL9 | exact rI)))); simp only [Act.put, List.setIfInBounds_toArray, List.set_cons_zero, List.set_cons_succ])
        (refine Walk.take (i := 7) (oi := { dst := some 94, op := Op.move (Operand.tmp 19), type := 3, pos := "more.go:44", after := #[], guard := none }) (v := ?_) rfl (by kernel_rfl) (by kernel_rfl) (by kernel_rfl) (by kernel_rfl) (fun _ _ _ h => h) (Or.inl ⟨by rfl, ?_⟩) ?_; rotate_left; (intro w hw; clear hw; (try go_split_ands); go_simp; try (with_reducible rfl)); simp only [Act.put, List.setIfInBounds_toArray, List.set_cons_zero, List.set_cons_succ])
        (refine Walk.take (i := 8) (oi := { dst := some 95, op := Op.move (Operand.tmp 17), type := 3, pos := "more.go:44", after := #[], guard := none }) (v := ?_) rfl (by kernel_rfl) (by kernel_rfl) (by kernel_rfl) (by kernel_rfl) (fun _ _ _ h => h) (Or.inl ⟨by rfl, ?_⟩) ?_; rotate_left; (intro w hw; clear hw; (try go_split_ands); go_simp; try (with_reducible rfl)); simp only [Act.put, List.setIfInBounds_toArray, List.set_cons_zero, List.set_cons_succ])
        (refine Walk.take (i := 9) (oi := { dst := some 96, op := Op.binOp BinOp.mul 3 (Operand.tmp 94) (Operand.tmp 95) 3, type := 3, pos := "more.go:44", after := #[{ on := 7, ground := Ground.data }, { on := 8, ground := Ground.data }], guard := none }) (v := .int .i64 (LO : Int)) rfl (by kernel_rfl) (by kernel_rfl) (by kernel_rfl) (by kernel_rfl) (fun _ _ _ h => h) (Or.inl ⟨by rfl, ?_⟩) ?_; (focus (intro w hw; clear hw; (try go_split_ands); go_simp; (try first | (rw [if_neg r9, r3]; done) | (rw [if_neg r9]; done) | (rw [wrap_i64_eq]; first | exact r4 | exact r5 | exact r6 | exact r7 | exact rL | exact rL9 | exact rI)))); simp only [Act.put, List.setIfInBounds_toArray, List.set_cons_zero, List.set_cons_succ])
        (refine Walk.take (i := 10) (oi := { dst := some 97, op := Op.move (Operand.tmp 17), type := 3, pos := "more.go:44", after := #[], guard := none }) (v := ?_) rfl (by kernel_rfl) (by kernel_rfl) (by kernel_rfl) (by kernel_rfl) (fun _ _ _ h => h) (Or.inl ⟨by rfl, ?_⟩) ?_; rotate_left; (intro w hw; clear hw; (try go_split_ands); go_simp; try (with_reducible rfl)); simp only [Act.put, List.setIfInBounds_toArray, List.set_cons_zero, List.set_cons_succ])
        (refine Walk.take (i := 11) (oi := { dst := some 98, op := Op.binOp BinOp.add 3 (Operand.tmp 96) (Operand.tmp 97) 3, type := 3, pos := "more.go:44", after := #[{ on := 9, ground := Ground.data }, { on := 10, ground := Ground.data }], guard := none }) (v := .int .i64 (HI : Int)) rfl (by kernel_rfl) (by kernel_rfl) (by kernel_rfl) (by kernel_rfl) (fun _ _ _ h => h) (Or.inl ⟨by rfl, ?_⟩) ?_; (focus (intro w hw; clear hw; (try go_split_ands); go_simp; (try first | (rw [if_neg r9, r3]; done) | (rw [if_neg r9]; done) | (rw [wrap_i64_eq]; first | exact r4 | exact r5 | exact r6 | exact r7 | exact rL | exact rL9 | exact rI)))); simp only [Act.put, List.setIfInBounds_toArray, List.set_cons_zero, List.set_cons_succ])
        (refine Walk.take (i := 12) (oi := { dst := some 99, op := Op.slice 24 (Operand.tmp 90) (some (Operand.tmp 93)) (some (Operand.tmp 98)) none, type := 24, pos := "more.go:44", after := #[{ on := 3, ground := Ground.data }, { on := 6, ground := Ground.data }, { on := 11, ground := Ground.data }], guard := none }) (v := .slice (some ⟨gi, LO, none⟩) 1 (pc - LO)) rfl (by kernel_rfl) (by kernel_rfl) (by kernel_rfl) (by kernel_rfl) (fun _ _ _ h => h) (Or.inl ⟨by rfl, ?_⟩) ?_; (focus (intro w hw; clear hw; (try go_split_ands); go_simp)); simp only [Act.put, List.setIfInBounds_toArray, List.set_cons_zero, List.set_cons_succ])
        (refine Walk.go (i := 13) (o := { dst := some 100, op := Op.call { callee := Callee.builtin Builtin.append, args := #[Operand.tmp 88, Operand.tmp 99], argTypes := #[24, 24] }, type := 24, pos := "more.go:44", after := #[{ on := 1, ground := Ground.data }, { on := 12, ground := Ground.data }], guard := none }) (by kernel_rfl) rfl (fun K hK => ?_); rw [if_pos (by rfl)]; refine wp_append_run _ _ _ rfl _ _ (by rfl) (by rfl) _ _ hrun ?_; refine hK.out _ _ ⟨fun _ => ⟨c3, cM4⟩, fun _ => trivial⟩ ?_; clear hK K; try simp only [Act.put, List.setIfInBounds_toArray, List.set_cons_zero, List.set_cons_succ])
        (refine Walk.take (i := 14) (oi := { dst := some 101, op := Op.fieldAddr 26 (Operand.tmp 16) 3, type := 0, pos := "more.go:44", after := #[{ on := 0, ground := Ground.phase }, { on := 1, ground := Ground.phase }, { on := 2, ground := Ground.phase }, { on := 3, ground := Ground.phase }, { on := 4, ground := Ground.phase }, { on := 5, ground := Ground.phase }, { on := 6, ground := Ground.phase }, { on := 7, ground := Ground.phase }, { on := 8, ground := Ground.phase }, { on := 9, ground := Ground.phase }, { on := 10, ground := Ground.phase }, { on := 11, ground := Ground.phase }, { on := 12, ground := Ground.phase }, { on := 13, ground := Ground.phase }], guard := none }) (v := ?_) rfl (by kernel_rfl) (by kernel_rfl) (by kernel_rfl) (by kernel_rfl) (fun _ _ _ h => h) (Or.inl ⟨by rfl, ?_⟩) ?_; rotate_left; (intro w hw; clear hw; (try go_split_ands); go_simp; try (with_reducible rfl)); simp only [Act.put, List.setIfInBounds_toArray, List.set_cons_zero, List.set_cons_succ])
        (refine Walk.go (i := 15) (o := { dst := none, op := Op.store 24 (Operand.tmp 101) (Operand.tmp 100), type := 0, pos := "more.go:44", after := #[{ on := 14, ground := Ground.data }, { on := 13, ground := Ground.data }, { on := 13, ground := Ground.chain }, { on := 0, ground := Ground.phase }, { on := 1, ground := Ground.phase }, { on := 2, ground := Ground.phase }, { on := 3, ground := Ground.phase }, { on := 4, ground := Ground.phase }, { on := 5, ground := Ground.phase }, { on := 6, ground := Ground.phase }, { on := 7, ground := Ground.phase }, { on := 8, ground := Ground.phase }, { on := 9, ground := Ground.phase }, { on := 10, ground := Ground.phase }, { on := 11, ground := Ground.phase }, { on := 12, ground := Ground.phase }, { on := 13, ground := Ground.phase }], guard := none }) (by kernel_rfl) rfl (fun K hK => ?_); go_simp; (skip); refine hK.out _ _ (⟨fun q => absurd q (by decide), fun _ => trivial⟩) ?_; clear hK K; try simp only [Act.put, List.setIfInBounds_toArray, List.set_cons_zero, List.set_cons_succ])
        refine Walk.done (by kernel_rfl) ?_ _
        clear r1 r2 r3 r4 r5 r6 r7 rL rI rY rX rL9
        go_wp2_with fail
        go_roundw
        case rel => exact ⟨k + 1, _, hk1, by go_num, HF.out.1, HF.out.2.1, HF.out.2.2.1, HF.out.2.2.2⟩
        case measure => simp [intOf]; omega
      · obtain rfl : k = Z := by omega
        have bw : But Nowhere w wr := kk.but.step hbN (fun i hi e => by have := kk.new (NB, 26, imC Un Vn false (.slice none 0 0)) (by simp); simp only at this; omega)
        have hVr : View wr .u8 (.slice (some ⟨gi, 0, none⟩) n pc) li := ⟨some ⟨gi, 0, none⟩, pc, by rw [HLN.out], fun _ => ⟨gi, 0, rfl, by have := hbN.size; have := kk.head.lt; omega, fun i hi => by rw [Nat.zero_add]; exact hbN.keeps (by show gi ≠ NB; omega) (zg4 i _ (ints_at _ _ _ hi))⟩⟩
        have hVN : View wr .u8 (.slice po (k) pcc) ((List.range (k * 1)).map (edgeF Wn Hn Un 1 li)) := View.of_owns (base := 0) (t := 5) (by rw [List.length_map, List.length_range]; exact LL.own)
        have HLF : Hid (∀ j, j < ((List.range (k * 1)).map (edgeF Wn Hn Un 1 li)).length → gn ((List.range (k * 1)).map (edgeF Wn Hn Un 1 li)) j = edgeF Wn Hn Un 1 li j) := fun j hj => by
          rw [← gn_at _ j hj]; simp
        have HLX : Hid (∀ x ∈ (List.range (k * 1)).map (edgeF Wn Hn Un 1 li), 0 ≤ x ∧ x ≤ 255) := fun x hx => by
          simp only [List.mem_map] at hx
          obtain ⟨j, -, rfl⟩ := hx
          exact edgeF_in _ _ _ _ _ hix j
        have HLE : Hid ((((List.range (k * 1)).map (edgeF Wn Hn Un 1 li)).length : Int) = (Un : Int) * (Vn : Int) * (partsN m : Int)) := by
          show (((List.range (k * 1)).map (edgeF Wn Hn Un 1 li)).length : Int) = _
          rw [HP.out, List.length_map, List.length_range, ← HZ.out]; simp
        revert hVN HLF HLX HLE
        generalize (List.range (k * 1)).map (edgeF Wn Hn Un 1 li) = LN
        intro hVN HLF HLX HLE
        have HSE : Hid (∀ i j, i < N → j < (unitL m).length * 64 → splitF Un Vn m LN i j = splitF Wn Hn m li i j) := fun i j hi hj => split_edge f f' HGE.out.1 HGE.out.2.1 (by omega) (by omega) li LN HIL.out HLE.out (by rw [HP.out]; simpa using HLF.out) i j (by rw [HGE.out.2.2]; exact hi) hj
        have HS : ∀ V, But Nowhere wr V → ((V.cell? ⟨PB, 0, none⟩ = some (.int .i64 Wn) ∧ V.cell? ⟨PB, 1, none⟩ = some (.int .i64 Hn) ∧ V.cell? ⟨PB, 2, none⟩ = some (.int .i64 m) ∧ V.cell? ⟨PB, 3, none⟩ = some (.int .i64 50) ∧ V.cell? ⟨PB, 4, none⟩ = some (.int .i64 1) ∧ V.cell? ⟨PB, 5, none⟩ = some (.int .i64 0)) ∧ (V.cell? ⟨QB, 0, none⟩ = some (.int .i64 Un) ∧ V.cell? ⟨QB, 1, none⟩ = some (.int .i64 Vn) ∧ V.cell? ⟨QB, 2, none⟩ = some (.int .i64 m) ∧ V.cell? ⟨QB, 3, none⟩ = some (.int .i64 50) ∧ V.cell? ⟨QB, 4, none⟩ = some (.int .i64 1) ∧ V.cell? ⟨QB, 5, none⟩ = some (.int .i64 0)) ∧ (V.cell? ⟨MB, 0, none⟩ = some (.int .i64 Wn) ∧ V.cell? ⟨MB, 1, none⟩ = some (.int .i64 Hn) ∧ V.cell? ⟨MB, 2, none⟩ = some (.bool false) ∧ V.cell? ⟨MB, 3, none⟩ = some (.slice (some ⟨gi, 0, none⟩) n pc)) ∧ (V.cell? ⟨NB, 0, none⟩ = some (.int .i64 Un) ∧ V.cell? ⟨NB, 1, none⟩ = some (.int .i64 Vn) ∧ V.cell? ⟨NB, 2, none⟩ = some (.bool false) ∧ V.cell? ⟨NB, 3, none⟩ = some (.slice po (k) pcc))) := fun V b =>
          have zP := gP.but b (not_nowhere _)
          have zQ := gQ.but b (not_nowhere _)
          have zM := gM.but b (not_nowhere _)
          have zN := HM.but b (not_nowhere _)
          ⟨⟨zP.at 0, zP.at 1, zP.at 2, zP.at 3, zP.at 4, zP.at 5⟩, ⟨zQ.at 0, zQ.at 1, zQ.at 2, zQ.at 3, zQ.at 4, zQ.at 5⟩, ⟨zM.at 0, zM.at 1, zM.at 2, zM.at 3⟩, ⟨zN.at 0, zN.at 1, zN.at 2, zN.at 3⟩⟩
        have bu : But Nowhere wr wr.drew := (But.refl _ _).drew
        clear hbN hnew LL HM gP gQ gM kk hVM zg4
        have eZ := HEZ.out
        go_wp2_with fail
        clear eZ
        refine wp_region_till (S := fun V => (V.cell? ⟨PB, 0, none⟩ = some (.int .i64 Wn) ∧ V.cell? ⟨PB, 1, none⟩ = some (.int .i64 Hn) ∧ V.cell? ⟨PB, 2, none⟩ = some (.int .i64 m) ∧ V.cell? ⟨PB, 3, none⟩ = some (.int .i64 50) ∧ V.cell? ⟨PB, 4, none⟩ = some (.int .i64 1) ∧ V.cell? ⟨PB, 5, none⟩ = some (.int .i64 0)) ∧ (V.cell? ⟨QB, 0, none⟩ = some (.int .i64 Un) ∧ V.cell? ⟨QB, 1, none⟩ = some (.int .i64 Vn) ∧ V.cell? ⟨QB, 2, none⟩ = some (.int .i64 m) ∧ V.cell? ⟨QB, 3, none⟩ = some (.int .i64 50) ∧ V.cell? ⟨QB, 4, none⟩ = some (.int .i64 1) ∧ V.cell? ⟨QB, 5, none⟩ = some (.int .i64 0)) ∧ (V.cell? ⟨MB, 0, none⟩ = some (.int .i64 Wn) ∧ V.cell? ⟨MB, 1, none⟩ = some (.int .i64 Hn) ∧ V.cell? ⟨MB, 2, none⟩ = some (.bool false) ∧ V.cell? ⟨MB, 3, none⟩ = some (.slice (some ⟨gi, 0, none⟩) n pc)) ∧ (V.cell? ⟨NB, 0, none⟩ = some (.int .i64 Un) ∧ V.cell? ⟨NB, 1, none⟩ = some (.int .i64 Vn) ∧ V.cell? ⟨NB, 2, none⟩ = some (.bool false) ∧ V.cell? ⟨NB, 3, none⟩ = some (.slice po (k) pcc))) (R := fun _ => True) (k := 100) (m := 100) (by kernel_rfl) (HS _ bu) trivial ?_
        (refine Walk.go (i := 0) (o := { dst := some 102, op := Op.call { callee := Callee.value (Operand.func 9), args := #[], argTypes := #[] }, type := 4, pos := "more.go:46", after := #[], guard := none }) (by kernel_rfl) rfl (fun K hK => ?_); go_simp; ((go_at_call 9; refine (known_any _).mono ?_; rintro e x0 ⟨rfl, d⟩; replace bu := bu.trans d; clear d)); refine hK.out _ _ (⟨fun _ => HS _ bu, fun _ => trivial⟩) ?_; clear hK K; try simp only [Act.put, List.setIfInBounds_toArray, List.set_cons_zero, List.set_cons_succ])
        (refine Walk.take (i := 1) (oi := { dst := some 103, op := Op.move (Operand.tmp 102), type := 4, pos := "more.go:46", after := #[{ on := 0, ground := Ground.data }, { on := 0, ground := Ground.chain }], guard := none }) (v := ?_) rfl (by kernel_rfl) (by kernel_rfl) (by kernel_rfl) (by kernel_rfl) (fun _ _ _ h => h) (Or.inl ⟨by rfl, ?_⟩) ?_; rotate_left; (intro w hw; clear hw; (try go_split_ands); go_simp; try (with_reducible rfl)); simp only [Act.put, List.setIfInBounds_toArray, List.set_cons_zero, List.set_cons_succ])
        (refine Walk.take (i := 2) (oi := { dst := some 104, op := Op.load 23 (Operand.tmp 9), type := 23, pos := "more.go:46", after := #[{ on := 1, ground := Ground.guard }], guard := some (1, true) }) (v := ?_) rfl (by kernel_rfl) (by kernel_rfl) (by kernel_rfl) (by kernel_rfl) (fun _ _ _ h => h) (Or.inl ⟨by rfl, ?_⟩) ?_; rotate_left; (intro w hw; have hS1 := hw.1 (by kernel_rfl); clear hw; (try dsimp only at hS1); (try go_split_ands); go_simp; try (with_reducible rfl)); simp only [Act.put, List.setIfInBounds_toArray, List.set_cons_zero, List.set_cons_succ])
        (refine Walk.take (i := 3) (oi := { dst := some 105, op := Op.load 26 (Operand.tmp 10), type := 26, pos := "more.go:46", after := #[{ on := 1, ground := Ground.guard }], guard := some (1, true) }) (v := ?_) rfl (by kernel_rfl) (by kernel_rfl) (by kernel_rfl) (by kernel_rfl) (fun _ _ _ h => h) (Or.inl ⟨by rfl, ?_⟩) ?_; rotate_left; (intro w hw; have hS1 := hw.1 (by kernel_rfl); clear hw; (try dsimp only at hS1); (try go_split_ands); go_simp; try (with_reducible rfl)); simp only [Act.put, List.setIfInBounds_toArray, List.set_cons_zero, List.set_cons_succ])
        (refine Walk.take (i := 5) (oi := { dst := some 107, op := Op.load 23 (Operand.tmp 15), type := 23, pos := "more.go:46", after := #[{ on := 1, ground := Ground.guard }], guard := some (1, true) }) (v := ?_) rfl (by kernel_rfl) (by kernel_rfl) (by kernel_rfl) (by kernel_rfl) (fun _ _ _ h => h) (Or.inl ⟨by rfl, ?_⟩) ?_; rotate_left; (intro w hw; have hS1 := hw.1 (by kernel_rfl); clear hw; (try dsimp only at hS1); (try go_split_ands); go_simp; try (with_reducible rfl)); simp only [Act.put, List.setIfInBounds_toArray, List.set_cons_zero, List.set_cons_succ])
        (refine Walk.take (i := 6) (oi := { dst := some 108, op := Op.load 26 (Operand.tmp 16), type := 26, pos := "more.go:46", after := #[{ on := 1, ground := Ground.guard }], guard := some (1, true) }) (v := ?_) rfl (by kernel_rfl) (by kernel_rfl) (by kernel_rfl) (by kernel_rfl) (fun _ _ _ h => h) (Or.inl ⟨by rfl, ?_⟩) ?_; rotate_left; (intro w hw; have hS1 := hw.1 (by kernel_rfl); clear hw; (try dsimp only at hS1); (try go_split_ands); go_simp; try (with_reducible rfl)); simp only [Act.put, List.setIfInBounds_toArray, List.set_cons_zero, List.set_cons_succ])
        (refine Walk.go (i := 4) (o := { dst := some 106, op := Op.call { callee := Callee.value (Operand.func 14), args := #[Operand.tmp 104, Operand.tmp 105], argTypes := #[23, 26] }, type := 30, pos := "more.go:46", after := #[{ on := 2, ground := Ground.data }, { on := 3, ground := Ground.data }, { on := 1, ground := Ground.chain }, { on := 1, ground := Ground.guard }], guard := some (1, true) }) (by kernel_rfl) rfl (fun K hK => ?_); go_simp; ((go_at_call 14; refine (planeSplit_fit Wn Hn m 50 1 0 f _ li _ (hT.but (bw.trans bu)) (hVr.but bu) HIL.out hix false HRB.out.symm).mono ?_; rintro e y1 ⟨⟨v1, go1, G1, rfl, hB1, -, -⟩, d⟩; rw [HGE.out.2.2] at hB1; obtain rfl := hB1.val; replace bu := bu.trans d; clear d)); refine hK.out _ _ (⟨fun _ => HS _ bu, fun _ => trivial⟩) ?_; clear hK K; try simp only [Act.put, List.setIfInBounds_toArray, List.set_cons_zero, List.set_cons_succ])
        (refine Walk.go (i := 7) (o := { dst := some 109, op := Op.call { callee := Callee.value (Operand.func 14), args := #[Operand.tmp 107, Operand.tmp 108], argTypes := #[23, 26] }, type := 30, pos := "more.go:46", after := #[{ on := 5, ground := Ground.data }, { on := 6, ground := Ground.data }, { on := 4, ground := Ground.chain }, { on := 1, ground := Ground.guard }], guard := some (1, true) }) (by kernel_rfl) rfl (fun K hK => ?_); go_simp; ((go_at_call 14; refine (planeSplit_fit Un Vn m 50 1 0 f' _ LN _ (hT.but (bw.trans bu)) (hVN.but bu) HLE.out HLX.out false HRB.out.symm).mono ?_; rintro e y2 ⟨⟨v2, go2, G2, rfl, hB2, -, -⟩, d⟩; rw [HGE.out.1, HGE.out.2.1, HGE.out.2.2] at hB2; obtain rfl := hB2.val; replace hB1 := hB1.step d; replace bu := bu.trans d; clear d)); refine hK.out _ _ (⟨fun _ => HS _ bu, fun _ => trivial⟩) ?_; clear hK K; try simp only [Act.put, List.setIfInBounds_toArray, List.set_cons_zero, List.set_cons_succ])
        (refine Walk.go (i := 8) (o := { dst := some 110, op := Op.call { callee := Callee.value (Operand.func 13), args := #[Operand.tmp 106, Operand.tmp 109], argTypes := #[30, 30] }, type := 4, pos := "more.go:46", after := #[{ on := 4, ground := Ground.data }, { on := 7, ground := Ground.data }, { on := 7, ground := Ground.chain }, { on := 1, ground := Ground.guard }], guard := some (1, true) }) (by kernel_rfl) rfl (fun K hK => ?_); go_simp; ((go_at_call 13; refine (sameBlocks_yes _ _ N _ go1 go2 G1 G2 _ _ _ hB1 hB2 HSE.out hN2 (by have := unit_pos m; omega)).mono ?_; rintro e y3 ⟨rfl, d⟩; replace bu := bu.trans d; clear d)); refine hK.out _ _ (⟨fun _ => HS _ bu, fun _ => trivial⟩) ?_; clear hK K; try simp only [Act.put, List.setIfInBounds_toArray, List.set_cons_zero, List.set_cons_succ])
        (refine Walk.take (i := 9) (oi := { dst := some 111, op := Op.pick (Operand.tmp 103) (Operand.tmp 110) (Operand.const (Value.bool false)), type := 4, pos := "more.go:46", after := #[{ on := 1, ground := Ground.data }, { on := 8, ground := Ground.data }], guard := none }) (v := ?_) rfl (by kernel_rfl) (by kernel_rfl) (by kernel_rfl) (by kernel_rfl) (fun _ _ _ h => h) (Or.inl ⟨by rfl, ?_⟩) ?_; rotate_left; (intro w hw; clear hw; (try go_split_ands); go_simp; try (with_reducible rfl)); simp only [Act.put, List.setIfInBounds_toArray, List.set_cons_zero, List.set_cons_succ])
        (refine Walk.take (i := 10) (oi := { dst := some 8, op := Op.assign (Operand.tmp 111), type := 4, pos := "more.go:46", after := #[{ on := 9, ground := Ground.data }, { on := 8, ground := Ground.chain }, { on := 0, ground := Ground.phase }, { on := 1, ground := Ground.phase }, { on := 2, ground := Ground.phase }, { on := 3, ground := Ground.phase }, { on := 4, ground := Ground.phase }, { on := 5, ground := Ground.phase }, { on := 6, ground := Ground.phase }, { on := 7, ground := Ground.phase }, { on := 8, ground := Ground.phase }, { on := 9, ground := Ground.phase }], guard := none }) (v := ?_) rfl (by kernel_rfl) (by kernel_rfl) (by kernel_rfl) (by kernel_rfl) (fun _ _ _ h => h) (Or.inl ⟨by rfl, ?_⟩) ?_; rotate_left; (intro w hw; clear hw; (try go_split_ands); go_simp; try (with_reducible rfl)); simp only [Act.put, List.setIfInBounds_toArray, List.set_cons_zero, List.set_cons_succ])
        refine Walk.done (by kernel_rfl) ?_ _
        go_wp2_with fail
        go_ret
        exact ⟨rfl, bw.trans bu⟩

  · skip
    have HLI : Hid (li.length = Wn * Hn * 3) := by
      show li.length = Wn * Hn * 3
      have h1 := HIL.out
      rw [HP.out] at h1
      have h2 : ((Wn * Hn * 3 : Nat) : Int) = (Wn : Int) * (Hn : Int) * ((3 : Nat) : Int) := by simp
      rw [← h2] at h1
      exact Int.ofNat.inj h1
    go_upto_region 12 with fail
    clear c0 c1 c2 c3 c4 c5 d2 d3 eU eU'
    revert kk hVM zg4
    generalize ((w6.alloc (.cells #[.int .i64 ↑Un, .int .i64 ↑Vn, .int .i64 m, .int .i64 50, .int .i64 1, .int .i64 0] 23)).alloc (.cells #[.int .i64 ↑Un, .int .i64 ↑Vn, .bool true, .slice none 0 0] 26)) = w9
    intro hVM zg4 kk
    go_wp2_with fail
    go_loopw [18] (fun i V => ∃ (k : Nat) (pv : Value), k ≤ Z ∧ i = .int .i64 k ∧ Lst w V 5 1 pv (k * 3) (ints .u8 ((List.range (k * 3)).map (edgeF Wn Hn Un 3 li))) ∧ Cells V NB 26 (imC Un Vn true pv) ∧ But (fun x => x = NB) w9 V ∧ ∀ x, pv.ownBlock = some x → w9.heap.size ≤ x) (fun i _ => Z - (intOf i).toNat)
    case atStart => exact ⟨0, .slice none 0 0, Nat.zero_le _, rfl, ⟨by simpa [ints] using World.ownsRow_nil _ _ _ _, by simp [Value.ownBlock], kk.but⟩, kk.head, But.refl _ _, by simp [Value.ownBlock]⟩
    case round =>
      obtain ⟨k, pv, hk, rfl, LL, HM, hbN, hnew⟩ := hrel
      obtain ⟨po, pcc, hpv⟩ := LL.slice
      subst hpv
      have nMB : MB ≠ NB := by omega
      have nPB : PB ≠ NB := by omega
      have nQB : QB ≠ NB := by omega
      have gQ := (kk.get (b := QB) (t := 23) (c := pC Un Vn m 50 1 0) (by simp)).but hbN nQB
      have gP := (kk.get (b := PB) (t := 23) (c := pC Wn Hn m 50 1 0) (by simp)).but hbN nPB
      have gM := (kk.get (b := MB) (t := 26) (c := imC Wn Hn true (.slice (some ⟨gi, 0, none⟩) n pc)) (by simp)).but hbN nMB
      have c0 := gQ.at 0
      have c1 := gQ.at 1
      simp only [List.getElem?_cons_zero, List.getElem?_cons_succ] at c0 c1
      by_cases hlt : k < Z
      · have i1 : (k : Int) < (Z : Int) := Int.ofNat_lt.2 hlt
        obtain ⟨A, hA⟩ : ∃ A, edgeAt Wn Hn Un k = A := ⟨_, rfl⟩
        have hAl := edgeAt_lt Wn Hn Un k (by omega) (by omega)
        have hAs : Wn * Hn ≤ 40 * 24 := Nat.mul_le_mul (by omega) (by omega)
        obtain ⟨LO, hLO⟩ : ∃ LO, edgeAt Wn Hn Un k * 3 = LO := ⟨_, rfl⟩
        have hin : (edgeAt Wn Hn Un k + 1) * 3 ≤ li.length := by rw [HLI.out]; exact Nat.mul_le_mul_right _ hAl
        obtain ⟨g, cap, W4, hrun, c3, f3, E1, E2, E3, E4, E5⟩ := edge_round (c := pc - LO) (by omega) (LL.step ((But.refl Nowhere wr).drew.drew)) (HM.but ((But.refl Nowhere wr).drew.drew) (not_nowhere _)) hbN.drew.drew hnew kk.head.lt (kk.new (NB, 26, imC Un Vn true (.slice none 0 0)) (by simp)) (fun j u h => hbN.drew.drew.keeps (by show gi ≠ NB; omega) (zg4 j u h)) hin (by omega)
        have cM4 : W4.cell? ⟨MB, 3, none⟩ = some (.slice (some ⟨gi, 0, none⟩) n pc) := E5 ⟨MB, 3, none⟩ _ (by have := kk.head.lt; show MB < _; omega) (gM.at 3)
        have HF : Hid _ := And.intro E1 (And.intro E2 (And.intro E3 E4))
        rw [hLO] at hrun
        rw [HLN.out] at hin
        rw [hA] at hLO hAl hin
        have hsl := fun wx => slice_mid8 gi n pc LO 3 (by omega) (by omega) wx
        obtain ⟨HI, hHI⟩ : ∃ HI, LO + 3 = HI := ⟨_, rfl⟩
        rw [hHI] at hsl
        obtain ⟨kq, hkq⟩ : ∃ kq, k / Un = kq := ⟨_, rfl⟩
        obtain ⟨kr, hkr⟩ : ∃ kr, k % Un = kr := ⟨_, rfl⟩
        obtain ⟨y0, hy0⟩ : ∃ y0, min kq (Hn - 1) = y0 := ⟨_, rfl⟩
        obtain ⟨x0, hx0⟩ : ∃ x0, min kr (Wn - 1) = x0 := ⟨_, rfl⟩
        obtain ⟨T1, hT1⟩ : ∃ T1, y0 * Wn = T1 := ⟨_, rfl⟩
        have hA2 : T1 + x0 = A := by
          rw [← hA, ← hT1, ← hy0, ← hx0, ← hkq, ← hkr]; rfl
        have hqk : kq ≤ k := by rw [← hkq]; exact Nat.div_le_self _ _
        have R1 : Hid ((k : Int).tdiv (Un : Int) = (kq : Int)) := by show (k : Int).tdiv (Un : Int) = (kq : Int); rw [Int.tdiv_eq_ediv_of_nonneg (by omega), ← hkq]; simp
        have R2 : Hid ((k : Int).tmod (Un : Int) = (kr : Int)) := by show (k : Int).tmod (Un : Int) = (kr : Int); rw [Int.tmod_eq_emod_of_nonneg (by omega), ← hkr]; simp
        have R3 : Hid (IntKind.i64.wrap (kq : Int) = (kq : Int)) := by show IntKind.i64.wrap (kq : Int) = (kq : Int); rw [wrap_i64_eq]; exact w64 _ (by omega)
        have R4 : Hid (wrap64 ((Hn : Int) - 1) = (Hn : Int) - 1) := w64 _ (by omega)
        have R5 : Hid (wrap64 ((Wn : Int) - 1) = (Wn : Int) - 1) := w64 _ (by omega)
        have R6 : Hid (wrap64 ((y0 : Int) * (Wn : Int)) = (T1 : Int)) := by show wrap64 ((y0 : Int) * (Wn : Int)) = (T1 : Int); rw [← Int.natCast_mul, hT1]; exact w64 _ (by omega)
        have R7 : Hid (wrap64 ((T1 : Int) + (x0 : Int)) = (A : Int)) := by show wrap64 ((T1 : Int) + (x0 : Int)) = (A : Int); rw [← Int.natCast_add, hA2]; exact w64 _ (by omega)
        have RL : Hid (wrap64 ((A : Int) * 3) = (LO : Int)) := by show wrap64 ((A : Int) * 3) = (LO : Int); rw [show (A : Int) * 3 = (LO : Int) by omega]; exact w64 _ (by omega)
        have RI : Hid (wrap64 ((LO : Int) + 3) = (HI : Int)) := by show wrap64 ((LO : Int) + 3) = (HI : Int); rw [show (LO : Int) + 3 = (HI : Int) by omega]; exact w64 _ (by omega)
        have rY : (if (Hn : Int) - 1 < (kq : Int) then (Hn : Int) - 1 else (kq : Int)) = (y0 : Int) := by split <;> omega
        have rX : (if (Wn : Int) - 1 < (kr : Int) then (Wn : Int) - 1 else (kr : Int)) = (x0 : Int) := by split <;> omega
        have r8 : ¬ (Un : Int) < 1 := by omega
        have r9 : ¬ Un = 0 := by omega
        have hk1 : k + 1 ≤ Z := hlt
        have r1 := R1.out
        have r2 := R2.out
        have r3 := R3.out
        have r4 := R4.out
        have r5 := R5.out
        have r6 := R6.out
        have r7 := R7.out
        have rL := RL.out
        have rI := RI.out
        clear R1 R2 R3 R4 R5 R6 R7 RL RI
        have cP0 := gP.at 0
        have cP1 := gP.at 1
        have cN3 := HM.at 3
        have cM3 := gM.at 3
        simp only [List.getElem?_cons_zero, List.getElem?_cons_succ] at cP0 cP1 cN3 cM3
        have eZ := HEZ.out
        clear E1 E2 E3 E4 E5 LL HM gP gQ gM hbN hnew
        go_wp2_with fail
        clear eZ
        refine wp_region_till (S := fun V => V.cell? ⟨PB, 0, none⟩ = some (.int .i64 Wn) ∧ V.cell? ⟨PB, 1, none⟩ = some (.int .i64 Hn) ∧ V.cell? ⟨QB, 0, none⟩ = some (.int .i64 Un) ∧ V.cell? ⟨QB, 1, none⟩ = some (.int .i64 Vn)) (R := fun _ => True) (k := 100) (m := 100) (by kernel_rfl) ⟨cP0, cP1, c0, c1⟩ trivial ?_
        (refine Walk.take (i := 0) (oi := { dst := some 65, op := Op.move (Operand.tmp 18), type := 3, pos := "more.go:43", after := #[], guard := none }) (v := ?_) rfl (by kernel_rfl) (by kernel_rfl) (by kernel_rfl) (by kernel_rfl) (fun _ _ _ h => h) (Or.inl ⟨by rfl, ?_⟩) ?_; rotate_left; (intro w hw; clear hw; (try go_split_ands); go_simp; try (with_reducible rfl)); simp only [Act.put, List.setIfInBounds_toArray, List.set_cons_zero, List.set_cons_succ])
        (refine Walk.take (i := 1) (oi := { dst := some 66, op := Op.fieldAddr 23 (Operand.tmp 15) 0, type := 0, pos := "more.go:43", after := #[], guard := none }) (v := ?_) rfl (by kernel_rfl) (by kernel_rfl) (by kernel_rfl) (by kernel_rfl) (fun _ _ _ h => h) (Or.inl ⟨by rfl, ?_⟩) ?_; rotate_left; (intro w hw; clear hw; (try go_split_ands); go_simp; try (with_reducible rfl)); simp only [Act.put, List.setIfInBounds_toArray, List.set_cons_zero, List.set_cons_succ])
        (refine Walk.take (i := 2) (oi := { dst := some 67, op := Op.load 3 (Operand.tmp 66), type := 3, pos := "more.go:43", after := #[{ on := 1, ground := Ground.data }], guard := none }) (v := ?_) rfl (by kernel_rfl) (by kernel_rfl) (by kernel_rfl) (by kernel_rfl) (fun _ _ _ h => h) (Or.inl ⟨by rfl, ?_⟩) ?_; rotate_left; (intro w hw; have hS1 := hw.1 (by kernel_rfl); clear hw; (try dsimp only at hS1); (try go_split_ands); go_simp; try (with_reducible rfl)); simp only [Act.put, List.setIfInBounds_toArray, List.set_cons_zero, List.set_cons_succ])
        (refine Walk.take (i := 3) (oi := { dst := some 68, op := Op.call { callee := Callee.builtin Builtin.max, args := #[Operand.tmp 67, Operand.const (Value.int IntKind.i64 1)], argTypes := #[3, 3] }, type := 3, pos := "more.go:43", after := #[{ on := 2, ground := Ground.data }], guard := none }) (v := .int .i64 (Un : Int)) rfl (by kernel_rfl) (by kernel_rfl) (by kernel_rfl) (by kernel_rfl) (fun _ _ _ h => h) (Or.inl ⟨by rfl, ?_⟩) ?_; (focus (intro w hw; clear hw; (try go_split_ands); go_simp; (try (intro h9; first | exact absurd h9 r8 | exact absurd h9 (Int.not_lt.2 r8))))); simp only [Act.put, List.setIfInBounds_toArray, List.set_cons_zero, List.set_cons_succ])
        (refine Walk.take (i := 4) (oi := { dst := some 69, op := Op.binOp BinOp.quo 3 (Operand.tmp 65) (Operand.tmp 68) 3, type := 3, pos := "more.go:43", after := #[{ on := 0, ground := Ground.data }, { on := 3, ground := Ground.data }], guard := none }) (v := .int .i64 (kq : Int)) rfl (by kernel_rfl) (by kernel_rfl) (by kernel_rfl) (by kernel_rfl) (fun _ _ _ h => h) (Or.inl ⟨by rfl, ?_⟩) ?_; (focus (intro w hw; clear hw; (try go_split_ands); go_simp; (try first | (rw [if_neg r9, r3]; done) | (rw [if_neg r9]; done) | (rw [wrap_i64_eq]; first | exact r4 | exact r5 | exact r6 | exact r7 | exact rL | exact rL9 | exact rI)))); simp only [Act.put, List.setIfInBounds_toArray, List.set_cons_zero, List.set_cons_succ])
        (refine Walk.take (i := 5) (oi := { dst := some 70, op := Op.fieldAddr 23 (Operand.tmp 9) 1, type := 0, pos := "more.go:43", after := #[], guard := none }) (v := ?_) rfl (by kernel_rfl) (by kernel_rfl) (by kernel_rfl) (by kernel_rfl) (fun _ _ _ h => h) (Or.inl ⟨by rfl, ?_⟩) ?_; rotate_left; (intro w hw; clear hw; (try go_split_ands); go_simp; try (with_reducible rfl)); simp only [Act.put, List.setIfInBounds_toArray, List.set_cons_zero, List.set_cons_succ])
        (refine Walk.take (i := 6) (oi := { dst := some 71, op := Op.load 3 (Operand.tmp 70), type := 3, pos := "more.go:43", after := #[{ on := 5, ground := Ground.data }], guard := none }) (v := ?_) rfl (by kernel_rfl) (by kernel_rfl) (by kernel_rfl) (by kernel_rfl) (fun _ _ _ h => h) (Or.inl ⟨by rfl, ?_⟩) ?_; rotate_left; (intro w hw; have hS1 := hw.1 (by kernel_rfl); clear hw; (try dsimp only at hS1); (try go_split_ands); go_simp; try (with_reducible rfl)); simp only [Act.put, List.setIfInBounds_toArray, List.set_cons_zero, List.set_cons_succ])
        (refine Walk.take (i := 7) (oi := { dst := some 72, op := Op.binOp BinOp.sub 3 (Operand.tmp 71) (Operand.const (Value.int IntKind.i64 1)) 3, type := 3, pos := "more.go:43", after := #[{ on := 6, ground := Ground.data }], guard := none }) (v := .int .i64 ((Hn : Int) - 1)) rfl (by kernel_rfl) (by kernel_rfl) (by kernel_rfl) (by kernel_rfl) (fun _ _ _ h => h) (Or.inl ⟨by rfl, ?_⟩) ?_; (focus (intro w hw; clear hw; (try go_split_ands); go_simp; (try first | (rw [if_neg r9, r3]; done) | (rw [if_neg r9]; done) | (rw [wrap_i64_eq]; first | exact r4 | exact r5 | exact r6 | exact r7 | exact rL | exact rL9 | exact rI)))); simp only [Act.put, List.setIfInBounds_toArray, List.set_cons_zero, List.set_cons_succ])
        (refine Walk.take (i := 8) (oi := { dst := some 73, op := Op.call { callee := Callee.builtin Builtin.min, args := #[Operand.tmp 69, Operand.tmp 72], argTypes := #[3, 3] }, type := 3, pos := "more.go:43", after := #[{ on := 4, ground := Ground.data }, { on := 7, ground := Ground.data }], guard := none }) (v := .int .i64 (y0 : Int)) rfl (by kernel_rfl) (by kernel_rfl) (by kernel_rfl) (by kernel_rfl) (fun _ _ _ h => h) (Or.inl ⟨by rfl, ?_⟩) ?_; (focus (intro w hw; clear hw; (try go_split_ands); go_simp; (try first | (rw [if_neg r9, r3]; done) | (rw [if_neg r9]; done) | (rw [wrap_i64_eq]; first | exact r4 | exact r5 | exact r6 | exact r7 | exact rL | exact rL9 | exact rI)))); simp only [Act.put, List.setIfInBounds_toArray, List.set_cons_zero, List.set_cons_succ])
        (refine Walk.take (i := 9) (oi := { dst := some 74, op := Op.fieldAddr 23 (Operand.tmp 9) 0, type := 0, pos := "more.go:43", after := #[], guard := none }) (v := ?_) rfl (by kernel_rfl) (by kernel_rfl) (by kernel_rfl) (by kernel_rfl) (fun _ _ _ h => h) (Or.inl ⟨by rfl, ?_⟩) ?_; rotate_left; (intro w hw; clear hw; (try go_split_ands); go_simp; try (with_reducible rfl)); simp only [Act.put, List.setIfInBounds_toArray, List.set_cons_zero, List.set_cons_succ])
        (refine Walk.take (i := 10) (oi := { dst := some 75, op := Op.load 3 (Operand.tmp 74), type := 3, pos := "more.go:43", after := #[{ on := 9, ground := Ground.data }], guard := none }) (v := ?_) rfl (by kernel_rfl) (by kernel_rfl) (by kernel_rfl) (by kernel_rfl) (fun _ _ _ h => h) (Or.inl ⟨by rfl, ?_⟩) ?_; rotate_left; (intro w hw; have hS1 := hw.1 (by kernel_rfl); clear hw; (try dsimp only at hS1); (try go_split_ands); go_simp; try (with_reducible rfl)); simp only [Act.put, List.setIfInBounds_toArray, List.set_cons_zero, List.set_cons_succ])
        (refine Walk.take (i := 11) (oi := { dst := some 76, op := Op.binOp BinOp.mul 3 (Operand.tmp 73) (Operand.tmp 75) 3, type := 3, pos := "more.go:43", after := #[{ on := 8, ground := Ground.data }, { on := 10, ground := Ground.data }], guard := none }) (v := .int .i64 (T1 : Int)) rfl (by kernel_rfl) (by kernel_rfl) (by kernel_rfl) (by kernel_rfl) (fun _ _ _ h => h) (Or.inl ⟨by rfl, ?_⟩) ?_; (focus (intro w hw; clear hw; (try go_split_ands); go_simp; (try first | (rw [if_neg r9, r3]; done) | (rw [if_neg r9]; done) | (rw [wrap_i64_eq]; first | exact r4 | exact r5 | exact r6 | exact r7 | exact rL | exact rL9 | exact rI)))); simp only [Act.put, List.setIfInBounds_toArray, List.set_cons_zero, List.set_cons_succ])
        (refine Walk.take (i := 12) (oi := { dst := some 77, op := Op.move (Operand.tmp 18), type := 3, pos := "more.go:43", after := #[], guard := none }) (v := ?_) rfl (by kernel_rfl) (by kernel_rfl) (by kernel_rfl) (by kernel_rfl) (fun _ _ _ h => h) (Or.inl ⟨by rfl, ?_⟩) ?_; rotate_left; (intro w hw; clear hw; (try go_split_ands); go_simp; try (with_reducible rfl)); simp only [Act.put, List.setIfInBounds_toArray, List.set_cons_zero, List.set_cons_succ])
        (refine Walk.take (i := 13) (oi := { dst := some 78, op := Op.fieldAddr 23 (Operand.tmp 15) 0, type := 0, pos := "more.go:43", after := #[], guard := none }) (v := ?_) rfl (by kernel_rfl) (by kernel_rfl) (by kernel_rfl) (by kernel_rfl) (fun _ _ _ h => h) (Or.inl ⟨by rfl, ?_⟩) ?_; rotate_left; (intro w hw; clear hw; (try go_split_ands); go_simp; try (with_reducible rfl)); simp only [Act.put, List.setIfInBounds_toArray, List.set_cons_zero, List.set_cons_succ])
        (refine Walk.take (i := 14) (oi := { dst := some 79, op := Op.load 3 (Operand.tmp 78), type := 3, pos := "more.go:43", after := #[{ on := 13, ground := Ground.data }], guard := none }) (v := ?_) rfl (by kernel_rfl) (by kernel_rfl) (by kernel_rfl) (by kernel_rfl) (fun _ _ _ h => h) (Or.inl ⟨by rfl, ?_⟩) ?_; rotate_left; (intro w hw; have hS1 := hw.1 (by kernel_rfl); clear hw; (try dsimp only at hS1); (try go_split_ands); go_simp; try (with_reducible rfl)); simp only [Act.put, List.setIfInBounds_toArray, List.set_cons_zero, List.set_cons_succ])
        (refine Walk.take (i := 15) (oi := { dst := some 80, op := Op.call { callee := Callee.builtin Builtin.max, args := #[Operand.tmp 79, Operand.const (Value.int IntKind.i64 1)], argTypes := #[3, 3] }, type := 3, pos := "more.go:43", after := #[{ on := 14, ground := Ground.data }], guard := none }) (v := .int .i64 (Un : Int)) rfl (by kernel_rfl) (by kernel_rfl) (by kernel_rfl) (by kernel_rfl) (fun _ _ _ h => h) (Or.inl ⟨by rfl, ?_⟩) ?_; (focus (intro w hw; clear hw; (try go_split_ands); go_simp; (try (intro h9; first | exact absurd h9 r8 | exact absurd h9 (Int.not_lt.2 r8))))); simp only [Act.put, List.setIfInBounds_toArray, List.set_cons_zero, List.set_cons_succ])
        (refine Walk.take (i := 16) (oi := { dst := some 81, op := Op.binOp BinOp.rem 3 (Operand.tmp 77) (Operand.tmp 80) 3, type := 3, pos := "more.go:43", after := #[{ on := 12, ground := Ground.data }, { on := 15, ground := Ground.data }], guard := none }) (v := .int .i64 (kr : Int)) rfl (by kernel_rfl) (by kernel_rfl) (by kernel_rfl) (by kernel_rfl) (fun _ _ _ h => h) (Or.inl ⟨by rfl, ?_⟩) ?_; (focus (intro w hw; clear hw; (try go_split_ands); go_simp; (try first | (rw [if_neg r9, r3]; done) | (rw [if_neg r9]; done) | (rw [wrap_i64_eq]; first | exact r4 | exact r5 | exact r6 | exact r7 | exact rL | exact rL9 | exact rI)))); simp only [Act.put, List.setIfInBounds_toArray, List.set_cons_zero, List.set_cons_succ])
        (refine Walk.take (i := 17) (oi := { dst := some 82, op := Op.fieldAddr 23 (Operand.tmp 9) 0, type := 0, pos := "more.go:43", after := #[], guard := none }) (v := ?_) rfl (by kernel_rfl) (by kernel_rfl) (by kernel_rfl) (by kernel_rfl) (fun _ _ _ h => h) (Or.inl ⟨by rfl, ?_⟩) ?_; rotate_left; (intro w hw; clear hw; (try go_split_ands); go_simp; try (with_reducible rfl)); simp only [Act.put, List.setIfInBounds_toArray, List.set_cons_zero, List.set_cons_succ])
        (refine Walk.take (i := 18) (oi := { dst := some 83, op := Op.load 3 (Operand.tmp 82), type := 3, pos := "more.go:43", after := #[{ on := 17, ground := Ground.data }], guard := none }) (v := ?_) rfl (by kernel_rfl) (by kernel_rfl) (by kernel_rfl) (by kernel_rfl) (fun _ _ _ h => h) (Or.inl ⟨by rfl, ?_⟩) ?_; rotate_left; (intro w hw; have hS1 := hw.1 (by kernel_rfl); clear hw; (try dsimp only at hS1); (try go_split_ands); go_simp; try (with_reducible rfl)); simp only [Act.put, List.setIfInBounds_toArray, List.set_cons_zero, List.set_cons_succ])
        (refine Walk.take (i := 19) (oi := { dst := some 84, op := Op.binOp BinOp.sub 3 (Operand.tmp 83) (Operand.const (Value.int IntKind.i64 1)) 3, type := 3, pos := "more.go:43", after := #[{ on := 18, ground := Ground.data }], guard := none }) (v := .int .i64 ((Wn : Int) - 1)) rfl (by kernel_rfl) (by kernel_rfl) (by kernel_rfl) (by kernel_rfl) (fun _ _ _ h => h) (Or.inl ⟨by rfl, ?_⟩) ?_; (focus (intro w hw; clear hw; (try go_split_ands); go_simp; (try first | (rw [if_neg r9, r3]; done) | (rw [if_neg r9]; done) | (rw [wrap_i64_eq]; first | exact r4 | exact r5 | exact r6 | exact r7 | exact rL | exact rL9 | exact rI)))); simp only [Act.put, List.setIfInBounds_toArray, List.set_cons_zero, List.set_cons_succ])
        (refine Walk.take (i := 20) (oi := { dst := some 85, op := Op.call { callee := Callee.builtin Builtin.min, args := #[Operand.tmp 81, Operand.tmp 84], argTypes := #[3, 3] }, type := 3, pos := "more.go:43", after := #[{ on := 16, ground := Ground.data }, { on := 19, ground := Ground.data }], guard := none }) (v := .int .i64 (x0 : Int)) rfl (by kernel_rfl) (by kernel_rfl) (by kernel_rfl) (by kernel_rfl) (fun _ _ _ h => h) (Or.inl ⟨by rfl, ?_⟩) ?_; (focus (intro w hw; clear hw; (try go_split_ands); go_simp; (try first | (rw [if_neg r9, r3]; done) | (rw [if_neg r9]; done) | (rw [wrap_i64_eq]; first | exact r4 | exact r5 | exact r6 | exact r7 | exact rL | exact rL9 | exact rI)))); simp only [Act.put, List.setIfInBounds_toArray, List.set_cons_zero, List.set_cons_succ])
        (refine Walk.take (i := 21) (oi := { dst := some 86, op := Op.binOp BinOp.add 3 (Operand.tmp 76) (Operand.tmp 85) 3, type := 3, pos := "more.go:43", after := #[{ on := 11, ground := Ground.data }, { on := 20, ground := Ground.data }], guard := none }) (v := .int .i64 (A : Int)) rfl (by kernel_rfl) (by kernel_rfl) (by kernel_rfl) (by kernel_rfl) (fun _ _ _ h => h) (Or.inl ⟨by rfl, ?_⟩) ?_; (focus (intro w hw; clear hw; (try go_split_ands); go_simp; (try first | (rw [if_neg r9, r3]; done) | (rw [if_neg r9]; done) | (rw [wrap_i64_eq]; first | exact r4 | exact r5 | exact r6 | exact r7 | exact rL | exact rL9 | exact rI)))); simp only [Act.put, List.setIfInBounds_toArray, List.set_cons_zero, List.set_cons_succ])
        (refine Walk.take (i := 22) (oi := { dst := some 19, op := Op.assign (Operand.tmp 86), type := 3, pos := "more.go:43", after := #[{ on := 21, ground := Ground.data }, { on := 0, ground := Ground.phase }, { on := 1, ground := Ground.phase }, { on := 2, ground := Ground.phase }, { on := 3, ground := Ground.phase }, { on := 4, ground := Ground.phase }, { on := 5, ground := Ground.phase }, { on := 6, ground := Ground.phase }, { on := 7, ground := Ground.phase }, { on := 8, ground := Ground.phase }, { on := 9, ground := Ground.phase }, { on := 10, ground := Ground.phase }, { on := 11, ground := Ground.phase }, { on := 12, ground := Ground.phase }, { on := 13, ground := Ground.phase }, { on := 14, ground := Ground.phase }, { on := 15, ground := Ground.phase }, { on := 16, ground := Ground.phase }, { on := 17, ground := Ground.phase }, { on := 18, ground := Ground.phase }, { on := 19, ground := Ground.phase }, { on := 20, ground := Ground.phase }, { on := 21, ground := Ground.phase }], guard := none }) (v := ?_) rfl (by kernel_rfl) (by kernel_rfl) (by kernel_rfl) (by kernel_rfl) (fun _ _ _ h => h) (Or.inl ⟨by rfl, ?_⟩) ?_; rotate_left; (intro w hw; clear hw; (try go_split_ands); go_simp; try (with_reducible rfl)); simp only [Act.put, List.setIfInBounds_toArray, List.set_cons_zero, List.set_cons_succ])
        refine Walk.done (by kernel_rfl) ?_ _
        go_wp2_with fail
        refine wp_region_till (S := fun V => V.cell? ⟨NB, 3, none⟩ = some (.slice po (k * 3) pcc) ∧ V.cell? ⟨MB, 3, none⟩ = some (.slice (some ⟨gi, 0, none⟩) n pc)) (R := fun _ => True) (k := 15) (m := 100) (by kernel_rfl) ⟨cN3, cM3⟩ trivial ?_
        (refine Walk.take (i := 0) (oi := { dst := some 87, op := Op.fieldAddr 26 (Operand.tmp 16) 3, type := 0, pos := "more.go:44", after := #[], guard := none }) (v := ?_) rfl (by kernel_rfl) (by kernel_rfl) (by kernel_rfl) (by kernel_rfl) (fun _ _ _ h => h) (Or.inl ⟨by rfl, ?_⟩) ?_; rotate_left; (intro w hw; clear hw; (try go_split_ands); go_simp; try (with_reducible rfl)); simp only [Act.put, List.setIfInBounds_toArray, List.set_cons_zero, List.set_cons_succ])
        (refine Walk.take (i := 1) (oi := { dst := some 88, op := Op.load 24 (Operand.tmp 87), type := 24, pos := "more.go:44", after := #[{ on := 0, ground := Ground.data }], guard := none }) (v := ?_) rfl (by kernel_rfl) (by kernel_rfl) (by kernel_rfl) (by kernel_rfl) (fun _ _ _ h => h) (Or.inl ⟨by rfl, ?_⟩) ?_; rotate_left; (intro w hw; have hS1 := hw.1 (by kernel_rfl); clear hw; (try dsimp only at hS1); (try go_split_ands); go_simp; try (with_reducible rfl)); simp only [Act.put, List.setIfInBounds_toArray, List.set_cons_zero, List.set_cons_succ])
        (refine Walk.take (i := 2) (oi := { dst := some 89, op := Op.fieldAddr 26 (Operand.tmp 10) 3, type := 0, pos := "more.go:44", after := #[], guard := none }) (v := ?_) rfl (by kernel_rfl) (by kernel_rfl) (by kernel_rfl) (by kernel_rfl) (fun _ _ _ h => h) (Or.inl ⟨by rfl, ?_⟩) ?_; rotate_left; (intro w hw; clear hw; (try go_split_ands); go_simp; try (with_reducible rfl)); simp only [Act.put, List.setIfInBounds_toArray, List.set_cons_zero, List.set_cons_succ])
        (refine Walk.take (i := 3) (oi := { dst := some 90, op := Op.load 24 (Operand.tmp 89), type := 24, pos := "more.go:44", after := #[{ on := 2, ground := Ground.data }], guard := none }) (v := ?_) rfl (by kernel_rfl) (by kernel_rfl) (by kernel_rfl) (by kernel_rfl) (fun _ _ _ h => h) (Or.inl ⟨by rfl, ?_⟩) ?_; rotate_left; (intro w hw; have hS1 := hw.1 (by kernel_rfl); clear hw; (try dsimp only at hS1); (try go_split_ands); go_simp; try (with_reducible rfl)); simp only [Act.put, List.setIfInBounds_toArray, List.set_cons_zero, List.set_cons_succ])
        (refine Walk.take (i := 4) (oi := { dst := some 91, op := Op.move (Operand.tmp 19), type := 3, pos := "more.go:44", after := #[], guard := none }) (v := ?_) rfl (by kernel_rfl) (by kernel_rfl) (by kernel_rfl) (by kernel_rfl) (fun _ _ _ h => h) (Or.inl ⟨by rfl, ?_⟩) ?_; rotate_left; (intro w hw; clear hw; (try go_split_ands); go_simp; try (with_reducible rfl)); simp only [Act.put, List.setIfInBounds_toArray, List.set_cons_zero, List.set_cons_succ])
        (refine Walk.take (i := 5) (oi := { dst := some 92, op := Op.move (Operand.tmp 17), type := 3, pos := "more.go:44", after := #[], guard := none }) (v := ?_) rfl (by kernel_rfl) (by kernel_rfl) (by kernel_rfl) (by kernel_rfl) (fun _ _ _ h => h) (Or.inl ⟨by rfl, ?_⟩) ?_; rotate_left; (intro w hw; clear hw; (try go_split_ands); go_simp; try (with_reducible rfl)); simp only [Act.put, List.setIfInBounds_toArray, List.set_cons_zero, List.set_cons_succ])
        (refine Walk.take (i := 6) (oi := { dst := some 93, op := Op.binOp BinOp.mul 3 (Operand.tmp 91) (Operand.tmp 92) 3, type := 3, pos := "more.go:44", after := #[{ on := 4, ground := Ground.data }, { on := 5, ground := Ground.data }], guard := none }) (v := .int .i64 (LO : Int)) rfl (by kernel_rfl) (by kernel_rfl) (by kernel_rfl) (by kernel_rfl) (fun _ _ _ h => h) (Or.inl ⟨by rfl, ?_⟩) ?_; (focus (intro w hw; clear hw; (try go_split_ands); go_simp; (try first | (rw [if_neg r9, r3]; done) | (rw [if_neg r9]; done) | (rw [wrap_i64_eq]; first | exact r4 | exact r5 | exact r6 | exact r7 | exact rL | exact rL9 | exact rI)))); simp only [Act.put, List.setIfInBounds_toArray, List.set_cons_zero, List.set_cons_succ])
        (refine Walk.take (i := 7) (oi := { dst := some 94, op := Op.move (Operand.tmp 19), type := 3, pos := "more.go:44", after := #[], guard := none }) (v := ?_) rfl (by kernel_rfl) (by kernel_rfl) (by kernel_rfl) (by kernel_rfl) (fun _ _ _ h => h) (Or.inl ⟨by rfl, ?_⟩) ?_; rotate_left; (intro w hw; clear hw; (try go_split_ands); go_simp; try (with_reducible rfl)); simp only [Act.put, List.setIfInBounds_toArray, List.set_cons_zero, List.set_cons_succ])
        (refine Walk.take (i := 8) (oi := { dst := some 95, op := Op.move (Operand.tmp 17), type := 3, pos := "more.go:44", after := #[], guard := none }) (v := ?_) rfl (by kernel_rfl) (by kernel_rfl) (by kernel_rfl) (by kernel_rfl) (fun _ _ _ h => h) (Or.inl ⟨by rfl, ?_⟩) ?_; rotate_left; (intro w hw; clear hw; (try go_split_ands); go_simp; try (with_reducible rfl)); simp only [Act.put, List.setIfInBounds_toArray, List.set_cons_zero, List.set_cons_succ])
        (refine Walk.take (i := 9) (oi := { dst := some 96, op := Op.binOp BinOp.mul 3 (Operand.tmp 94) (Operand.tmp 95) 3, type := 3, pos := "more.go:44", after := #[{ on := 7, ground := Ground.data }, { on := 8, ground := Ground.data }], guard := none }) (v := .int .i64 (LO : Int)) rfl (by kernel_rfl) (by kernel_rfl) (by kernel_rfl) (by kernel_rfl) (fun _ _ _ h => h) (Or.inl ⟨by rfl, ?_⟩) ?_; (focus (intro w hw; clear hw; (try go_split_ands); go_simp; (try first | (rw [if_neg r9, r3]; done) | (rw [if_neg r9]; done) | (rw [wrap_i64_eq]; first | exact r4 | exact r5 | exact r6 | exact r7 | exact rL | exact rL9 | exact rI)))); simp only [Act.put, List.setIfInBounds_toArray, List.set_cons_zero, List.set_cons_succ])
        (refine Walk.take (i := 10) (oi := { dst := some 97, op := Op.move (Operand.tmp 17), type := 3, pos := "more.go:44", after := #[], guard := none }) (v := ?_) rfl (by kernel_rfl) (by kernel_rfl) (by kernel_rfl) (by kernel_rfl) (fun _ _ _ h => h) (Or.inl ⟨by rfl, ?_⟩) ?_; rotate_left; (intro w hw; clear hw; (try go_split_ands); go_simp; try (with_reducible rfl)); simp only [Act.put, List.setIfInBounds_toArray, List.set_cons_zero, List.set_cons_succ])
        (refine Walk.take (i := 11) (oi := { dst := some 98, op := Op.binOp BinOp.add 3 (Operand.tmp 96) (Operand.tmp 97) 3, type := 3, pos := "more.go:44", after := #[{ on := 9, ground := Ground.data }, { on := 10, ground := Ground.data }], guard := none }) (v := .int .i64 (HI : Int)) rfl (by kernel_rfl) (by kernel_rfl) (by kernel_rfl) (by kernel_rfl) (fun _ _ _ h => h) (Or.inl ⟨by rfl, ?_⟩) ?_; (focus (intro w hw; clear hw; (try go_split_ands); go_simp; (try first | (rw [if_neg r9, r3]; done) | (rw [if_neg r9]; done) | (rw [wrap_i64_eq]; first | exact r4 | exact r5 | exact r6 | exact r7 | exact rL | exact rL9 | exact rI)))); simp only [Act.put, List.setIfInBounds_toArray, List.set_cons_zero, List.set_cons_succ])
        (refine Walk.take (i := 12) (oi := { dst := some 99, op := Op.slice 24 (Operand.tmp 90) (some (Operand.tmp 93)) (some (Operand.tmp 98)) none, type := 24, pos := "more.go:44", after := #[{ on := 3, ground := Ground.data }, { on := 6, ground := Ground.data }, { on := 11, ground := Ground.data }], guard := none }) (v := .slice (some ⟨gi, LO, none⟩) 3 (pc - LO)) rfl (by kernel_rfl) (by kernel_rfl) (by kernel_rfl) (by kernel_rfl) (fun _ _ _ h => h) (Or.inl ⟨by rfl, ?_⟩) ?_; (focus (intro w hw; clear hw; (try go_split_ands); go_simp)); simp only [Act.put, List.setIfInBounds_toArray, List.set_cons_zero, List.set_cons_succ])
        (refine Walk.go (i := 13) (o := { dst := some 100, op := Op.call { callee := Callee.builtin Builtin.append, args := #[Operand.tmp 88, Operand.tmp 99], argTypes := #[24, 24] }, type := 24, pos := "more.go:44", after := #[{ on := 1, ground := Ground.data }, { on := 12, ground := Ground.data }], guard := none }) (by kernel_rfl) rfl (fun K hK => ?_); rw [if_pos (by rfl)]; refine wp_append_run _ _ _ rfl _ _ (by rfl) (by rfl) _ _ hrun ?_; refine hK.out _ _ ⟨fun _ => ⟨c3, cM4⟩, fun _ => trivial⟩ ?_; clear hK K; try simp only [Act.put, List.setIfInBounds_toArray, List.set_cons_zero, List.set_cons_succ])
        (refine Walk.take (i := 14) (oi := { dst := some 101, op := Op.fieldAddr 26 (Operand.tmp 16) 3, type := 0, pos := "more.go:44", after := #[{ on := 0, ground := Ground.phase }, { on := 1, ground := Ground.phase }, { on := 2, ground := Ground.phase }, { on := 3, ground := Ground.phase }, { on := 4, ground := Ground.phase }, { on := 5, ground := Ground.phase }, { on := 6, ground := Ground.phase }, { on := 7, ground := Ground.phase }, { on := 8, ground := Ground.phase }, { on := 9, ground := Ground.phase }, { on := 10, ground := Ground.phase }, { on := 11, ground := Ground.phase }, { on := 12, ground := Ground.phase }, { on := 13, ground := Ground.phase }], guard := none }) (v := ?_) rfl (by kernel_rfl) (by kernel_rfl) (by kernel_rfl) (by kernel_rfl) (fun _ _ _ h => h) (Or.inl ⟨by rfl, ?_⟩) ?_; rotate_left; (intro w hw; clear hw; (try go_split_ands); go_simp; try (with_reducible rfl)); simp only [Act.put, List.setIfInBounds_toArray, List.set_cons_zero, List.set_cons_succ])
        (refine Walk.go (i := 15) (o := { dst := none, op := Op.store 24 (Operand.tmp 101) (Operand.tmp 100), type := 0, pos := "more.go:44", after := #[{ on := 14, ground := Ground.data }, { on := 13, ground := Ground.data }, { on := 13, ground := Ground.chain }, { on := 0, ground := Ground.phase }, { on := 1, ground := Ground.phase }, { on := 2, ground := Ground.phase }, { on := 3, ground := Ground.phase }, { on := 4, ground := Ground.phase }, { on := 5, ground := Ground.phase }, { on := 6, ground := Ground.phase }, { on := 7, ground := Ground.phase }, { on := 8, ground := Ground.phase }, { on := 9, ground := Ground.phase }, { on := 10, ground := Ground.phase }, { on := 11, ground := Ground.phase }, { on := 12, ground := Ground.phase }, { on := 13, ground := Ground.phase }], guard := none }) (by kernel_rfl) rfl (fun K hK => ?_); go_simp; (skip); refine hK.out _ _ (⟨fun q => absurd q (by decide), fun _ => trivial⟩) ?_; clear hK K; try simp only [Act.put, List.setIfInBounds_toArray, List.set_cons_zero, List.set_cons_succ])
        refine Walk.done (by kernel_rfl) ?_ _
        clear r1 r2 r3 r4 r5 r6 r7 rL rI rY rX
        go_wp2_with fail
        go_roundw
        case rel => exact ⟨k + 1, _, hk1, by go_num, HF.out.1, HF.out.2.1, HF.out.2.2.1, HF.out.2.2.2⟩
        case measure => simp [intOf]; omega
      · obtain rfl : k = Z := by omega
        have bw : But Nowhere w wr := kk.but.step hbN (fun i hi e => by have := kk.new (NB, 26, imC Un Vn true (.slice none 0 0)) (by simp); simp only at this; omega)
        have hVr : View wr .u8 (.slice (some ⟨gi, 0, none⟩) n pc) li := ⟨some ⟨gi, 0, none⟩, pc, by rw [HLN.out], fun _ => ⟨gi, 0, rfl, by have := hbN.size; have := kk.head.lt; omega, fun i hi => by rw [Nat.zero_add]; exact hbN.keeps (by show gi ≠ NB; omega) (zg4 i _ (ints_at _ _ _ hi))⟩⟩
        have hVN : View wr .u8 (.slice po (k * 3) pcc) ((List.range (k * 3)).map (edgeF Wn Hn Un 3 li)) := View.of_owns (base := 0) (t := 5) (by rw [List.length_map, List.length_range]; exact LL.own)
        have HLF : Hid (∀ j, j < ((List.range (k * 3)).map (edgeF Wn Hn Un 3 li)).length → gn ((List.range (k * 3)).map (edgeF Wn Hn Un 3 li)) j = edgeF Wn Hn Un 3 li j) := fun j hj => by
          rw [← gn_at _ j hj]; simp
        have HLX : Hid (∀ x ∈ (List.range (k * 3)).map (edgeF Wn Hn Un 3 li), 0 ≤ x ∧ x ≤ 255) := fun x hx => by
          simp only [List.mem_map] at hx
          obtain ⟨j, -, rfl⟩ := hx
          exact edgeF_in _ _ _ _ _ hix j
        have HLE : Hid ((((List.range (k * 3)).map (edgeF Wn Hn Un 3 li)).length : Int) = (Un : Int) * (Vn : Int) * (partsN m : Int)) := by
          show (((List.range (k * 3)).map (edgeF Wn Hn Un 3 li)).length : Int) = _
          rw [HP.out, List.length_map, List.length_range, ← HZ.out]; simp
        revert hVN HLF HLX HLE
        generalize (List.range (k * 3)).map (edgeF Wn Hn Un 3 li) = LN
        intro hVN HLF HLX HLE
        have HSE : Hid (∀ i j, i < N → j < (unitL m).length * 64 → splitF Un Vn m LN i j = splitF Wn Hn m li i j) := fun i j hi hj => split_edge f f' HGE.out.1 HGE.out.2.1 (by omega) (by omega) li LN HIL.out HLE.out (by rw [HP.out]; simpa using HLF.out) i j (by rw [HGE.out.2.2]; exact hi) hj
        have HS : ∀ V, But Nowhere wr V → ((V.cell? ⟨PB, 0, none⟩ = some (.int .i64 Wn) ∧ V.cell? ⟨PB, 1, none⟩ = some (.int .i64 Hn) ∧ V.cell? ⟨PB, 2, none⟩ = some (.int .i64 m) ∧ V.cell? ⟨PB, 3, none⟩ = some (.int .i64 50) ∧ V.cell? ⟨PB, 4, none⟩ = some (.int .i64 1) ∧ V.cell? ⟨PB, 5, none⟩ = some (.int .i64 0)) ∧ (V.cell? ⟨QB, 0, none⟩ = some (.int .i64 Un) ∧ V.cell? ⟨QB, 1, none⟩ = some (.int .i64 Vn) ∧ V.cell? ⟨QB, 2, none⟩ = some (.int .i64 m) ∧ V.cell? ⟨QB, 3, none⟩ = some (.int .i64 50) ∧ V.cell? ⟨QB, 4, none⟩ = some (.int .i64 1) ∧ V.cell? ⟨QB, 5, none⟩ = some (.int .i64 0)) ∧ (V.cell? ⟨MB, 0, none⟩ = some (.int .i64 Wn) ∧ V.cell? ⟨MB, 1, none⟩ = some (.int .i64 Hn) ∧ V.cell? ⟨MB, 2, none⟩ = some (.bool true) ∧ V.cell? ⟨MB, 3, none⟩ = some (.slice (some ⟨gi, 0, none⟩) n pc)) ∧ (V.cell? ⟨NB, 0, none⟩ = some (.int .i64 Un) ∧ V.cell? ⟨NB, 1, none⟩ = some (.int .i64 Vn) ∧ V.cell? ⟨NB, 2, none⟩ = some (.bool true) ∧ V.cell? ⟨NB, 3, none⟩ = some (.slice po (k * 3) pcc))) := fun V b =>
          have zP := gP.but b (not_nowhere _)
          have zQ := gQ.but b (not_nowhere _)
          have zM := gM.but b (not_nowhere _)
          have zN := HM.but b (not_nowhere _)
          ⟨⟨zP.at 0, zP.at 1, zP.at 2, zP.at 3, zP.at 4, zP.at 5⟩, ⟨zQ.at 0, zQ.at 1, zQ.at 2, zQ.at 3, zQ.at 4, zQ.at 5⟩, ⟨zM.at 0, zM.at 1, zM.at 2, zM.at 3⟩, ⟨zN.at 0, zN.at 1, zN.at 2, zN.at 3⟩⟩
        have bu : But Nowhere wr wr.drew := (But.refl _ _).drew
        clear hbN hnew LL HM gP gQ gM kk hVM zg4
        have eZ := HEZ.out
        go_wp2_with fail
        clear eZ
        refine wp_region_till (S := fun V => (V.cell? ⟨PB, 0, none⟩ = some (.int .i64 Wn) ∧ V.cell? ⟨PB, 1, none⟩ = some (.int .i64 Hn) ∧ V.cell? ⟨PB, 2, none⟩ = some (.int .i64 m) ∧ V.cell? ⟨PB, 3, none⟩ = some (.int .i64 50) ∧ V.cell? ⟨PB, 4, none⟩ = some (.int .i64 1) ∧ V.cell? ⟨PB, 5, none⟩ = some (.int .i64 0)) ∧ (V.cell? ⟨QB, 0, none⟩ = some (.int .i64 Un) ∧ V.cell? ⟨QB, 1, none⟩ = some (.int .i64 Vn) ∧ V.cell? ⟨QB, 2, none⟩ = some (.int .i64 m) ∧ V.cell? ⟨QB, 3, none⟩ = some (.int .i64 50) ∧ V.cell? ⟨QB, 4, none⟩ = some (.int .i64 1) ∧ V.cell? ⟨QB, 5, none⟩ = some (.int .i64 0)) ∧ (V.cell? ⟨MB, 0, none⟩ = some (.int .i64 Wn) ∧ V.cell? ⟨MB, 1, none⟩ = some (.int .i64 Hn) ∧ V.cell? ⟨MB, 2, none⟩ = some (.bool true) ∧ V.cell? ⟨MB, 3, none⟩ = some (.slice (some ⟨gi, 0, none⟩) n pc)) ∧ (V.cell? ⟨NB, 0, none⟩ = some (.int .i64 Un) ∧ V.cell? ⟨NB, 1, none⟩ = some (.int .i64 Vn) ∧ V.cell? ⟨NB, 2, none⟩ = some (.bool true) ∧ V.cell? ⟨NB, 3, none⟩ = some (.slice po (k * 3) pcc))) (R := fun _ => True) (k := 100) (m := 100) (by kernel_rfl) (HS _ bu) trivial ?_
        (refine Walk.go (i := 0) (o := { dst := some 102, op := Op.call { callee := Callee.value (Operand.func 9), args := #[], argTypes := #[] }, type := 4, pos := "more.go:46", after := #[], guard := none }) (by kernel_rfl) rfl (fun K hK => ?_); go_simp; ((go_at_call 9; refine (known_any _).mono ?_; rintro e x0 ⟨rfl, d⟩; replace bu := bu.trans d; clear d)); refine hK.out _ _ (⟨fun _ => HS _ bu, fun _ => trivial⟩) ?_; clear hK K; try simp only [Act.put, List.setIfInBounds_toArray, List.set_cons_zero, List.set_cons_succ])
        (refine Walk.take (i := 1) (oi := { dst := some 103, op := Op.move (Operand.tmp 102), type := 4, pos := "more.go:46", after := #[{ on := 0, ground := Ground.data }, { on := 0, ground := Ground.chain }], guard := none }) (v := ?_) rfl (by kernel_rfl) (by kernel_rfl) (by kernel_rfl) (by kernel_rfl) (fun _ _ _ h => h) (Or.inl ⟨by rfl, ?_⟩) ?_; rotate_left; (intro w hw; clear hw; (try go_split_ands); go_simp; try (with_reducible rfl)); simp only [Act.put, List.setIfInBounds_toArray, List.set_cons_zero, List.set_cons_succ])
        (refine Walk.take (i := 2) (oi := { dst := some 104, op := Op.load 23 (Operand.tmp 9), type := 23, pos := "more.go:46", after := #[{ on := 1, ground := Ground.guard }], guard := some (1, true) }) (v := ?_) rfl (by kernel_rfl) (by kernel_rfl) (by kernel_rfl) (by kernel_rfl) (fun _ _ _ h => h) (Or.inl ⟨by rfl, ?_⟩) ?_; rotate_left; (intro w hw; have hS1 := hw.1 (by kernel_rfl); clear hw; (try dsimp only at hS1); (try go_split_ands); go_simp; try (with_reducible rfl)); simp only [Act.put, List.setIfInBounds_toArray, List.set_cons_zero, List.set_cons_succ])
        (refine Walk.take (i := 3) (oi := { dst := some 105, op := Op.load 26 (Operand.tmp 10), type := 26, pos := "more.go:46", after := #[{ on := 1, ground := Ground.guard }], guard := some (1, true) }) (v := ?_) rfl (by kernel_rfl) (by kernel_rfl) (by kernel_rfl) (by kernel_rfl) (fun _ _ _ h => h) (Or.inl ⟨by rfl, ?_⟩) ?_; rotate_left; (intro w hw; have hS1 := hw.1 (by kernel_rfl); clear hw; (try dsimp only at hS1); (try go_split_ands); go_simp; try (with_reducible rfl)); simp only [Act.put, List.setIfInBounds_toArray, List.set_cons_zero, List.set_cons_succ])
        (refine Walk.take (i := 5) (oi := { dst := some 107, op := Op.load 23 (Operand.tmp 15), type := 23, pos := "more.go:46", after := #[{ on := 1, ground := Ground.guard }], guard := some (1, true) }) (v := ?_) rfl (by kernel_rfl) (by kernel_rfl) (by kernel_rfl) (by kernel_rfl) (fun _ _ _ h => h) (Or.inl ⟨by rfl, ?_⟩) ?_; rotate_left; (intro w hw; have hS1 := hw.1 (by kernel_rfl); clear hw; (try dsimp only at hS1); (try go_split_ands); go_simp; try (with_reducible rfl)); simp only [Act.put, List.setIfInBounds_toArray, List.set_cons_zero, List.set_cons_succ])
        (refine Walk.take (i := 6) (oi := { dst := some 108, op := Op.load 26 (Operand.tmp 16), type := 26, pos := "more.go:46", after := #[{ on := 1, ground := Ground.guard }], guard := some (1, true) }) (v := ?_) rfl (by kernel_rfl) (by kernel_rfl) (by kernel_rfl) (by kernel_rfl) (fun _ _ _ h => h) (Or.inl ⟨by rfl, ?_⟩) ?_; rotate_left; (intro w hw; have hS1 := hw.1 (by kernel_rfl); clear hw; (try dsimp only at hS1); (try go_split_ands); go_simp; try (with_reducible rfl)); simp only [Act.put, List.setIfInBounds_toArray, List.set_cons_zero, List.set_cons_succ])
        (refine Walk.go (i := 4) (o := { dst := some 106, op := Op.call { callee := Callee.value (Operand.func 14), args := #[Operand.tmp 104, Operand.tmp 105], argTypes := #[23, 26] }, type := 30, pos := "more.go:46", after := #[{ on := 2, ground := Ground.data }, { on := 3, ground := Ground.data }, { on := 1, ground := Ground.chain }, { on := 1, ground := Ground.guard }], guard := some (1, true) }) (by kernel_rfl) rfl (fun K hK => ?_); go_simp; ((go_at_call 14; refine (planeSplit_fit Wn Hn m 50 1 0 f _ li _ (hT.but (bw.trans bu)) (hVr.but bu) HIL.out hix true HRB.out.symm).mono ?_; rintro e y1 ⟨⟨v1, go1, G1, rfl, hB1, -, -⟩, d⟩; rw [HGE.out.2.2] at hB1; obtain rfl := hB1.val; replace bu := bu.trans d; clear d)); refine hK.out _ _ (⟨fun _ => HS _ bu, fun _ => trivial⟩) ?_; clear hK K; try simp only [Act.put, List.setIfInBounds_toArray, List.set_cons_zero, List.set_cons_succ])
        (refine Walk.go (i := 7) (o := { dst := some 109, op := Op.call { callee := Callee.value (Operand.func 14), args := #[Operand.tmp 107, Operand.tmp 108], argTypes := #[23, 26] }, type := 30, pos := "more.go:46", after := #[{ on := 5, ground := Ground.data }, { on := 6, ground := Ground.data }, { on := 4, ground := Ground.chain }, { on := 1, ground := Ground.guard }], guard := some (1, true) }) (by kernel_rfl) rfl (fun K hK => ?_); go_simp; ((go_at_call 14; refine (planeSplit_fit Un Vn m 50 1 0 f' _ LN _ (hT.but (bw.trans bu)) (hVN.but bu) HLE.out HLX.out true HRB.out.symm).mono ?_; rintro e y2 ⟨⟨v2, go2, G2, rfl, hB2, -, -⟩, d⟩; rw [HGE.out.1, HGE.out.2.1, HGE.out.2.2] at hB2; obtain rfl := hB2.val; replace hB1 := hB1.step d; replace bu := bu.trans d; clear d)); refine hK.out _ _ (⟨fun _ => HS _ bu, fun _ => trivial⟩) ?_; clear hK K; try simp only [Act.put, List.setIfInBounds_toArray, List.set_cons_zero, List.set_cons_succ])
        (refine Walk.go (i := 8) (o := { dst := some 110, op := Op.call { callee := Callee.value (Operand.func 13), args := #[Operand.tmp 106, Operand.tmp 109], argTypes := #[30, 30] }, type := 4, pos := "more.go:46", after := #[{ on := 4, ground := Ground.data }, { on := 7, ground := Ground.data }, { on := 7, ground := Ground.chain }, { on := 1, ground := Ground.guard }], guard := some (1, true) }) (by kernel_rfl) rfl (fun K hK => ?_); go_simp; ((go_at_call 13; refine (sameBlocks_yes _ _ N _ go1 go2 G1 G2 _ _ _ hB1 hB2 HSE.out hN2 (by have := unit_pos m; omega)).mono ?_; rintro e y3 ⟨rfl, d⟩; replace bu := bu.trans d; clear d)); refine hK.out _ _ (⟨fun _ => HS _ bu, fun _ => trivial⟩) ?_; clear hK K; try simp only [Act.put, List.setIfInBounds_toArray, List.set_cons_zero, List.set_cons_succ])
        (refine Walk.take (i := 9) (oi := { dst := some 111, op := Op.pick (Operand.tmp 103) (Operand.tmp 110) (Operand.const (Value.bool false)), type := 4, pos := "more.go:46", after := #[{ on := 1, ground := Ground.data }, { on := 8, ground := Ground.data }], guard := none }) (v := ?_) rfl (by kernel_rfl) (by kernel_rfl) (by kernel_rfl) (by kernel_rfl) (fun _ _ _ h => h) (Or.inl ⟨by rfl, ?_⟩) ?_; rotate_left; (intro w hw; clear hw; (try go_split_ands); go_simp; try (with_reducible rfl)); simp only [Act.put, List.setIfInBounds_toArray, List.set_cons_zero, List.set_cons_succ])
        (refine Walk.take (i := 10) (oi := { dst := some 8, op := Op.assign (Operand.tmp 111), type := 4, pos := "more.go:46", after := #[{ on := 9, ground := Ground.data }, { on := 8, ground := Ground.chain }, { on := 0, ground := Ground.phase }, { on := 1, ground := Ground.phase }, { on := 2, ground := Ground.phase }, { on := 3, ground := Ground.phase }, { on := 4, ground := Ground.phase }, { on := 5, ground := Ground.phase }, { on := 6, ground := Ground.phase }, { on := 7, ground := Ground.phase }, { on := 8, ground := Ground.phase }, { on := 9, ground := Ground.phase }], guard := none }) (v := ?_) rfl (by kernel_rfl) (by kernel_rfl) (by kernel_rfl) (by kernel_rfl) (fun _ _ _ h => h) (Or.inl ⟨by rfl, ?_⟩) ?_; rotate_left; (intro w hw; clear hw; (try go_split_ands); go_simp; try (with_reducible rfl)); simp only [Act.put, List.setIfInBounds_toArray, List.set_cons_zero, List.set_cons_succ])
        refine Walk.done (by kernel_rfl) ?_ _
        go_wp2_with fail
        go_ret
        exact ⟨rfl, bw.trans bu⟩

set_option maxRecDepth 100000 in
theorem lifted (os : Os) (started : os.Started) (H : Type) (enc : TypeId × Value → H) :
    ReturnsInHanded {} Tryd.checked os 7 .any (fun w args => (Rows.planeEdgesSpec.pre enc Tryd.prog Tryd.f7 Rows.planeEdgesRow.domain false w args ∧ laidMetH Tryd.prog Rows.planeEdgesRow.laid w) ∧ sizedMet enc Tryd.prog Tryd.f7 (OpenSpec.ofChange Rows.planeEdgesSpec) false w args) (Rows.planeEdgesSpec.post enc Tryd.prog Tryd.f7 false true false false) := by
  refine returnsInHanded_of_change_and (C := Tryd.checked) (X := fun w _ => laidMetH Tryd.prog laidL w) (fun _ _ _ hh h => h.of_heap hh) own started (by kernel_rfl) Tryd.func7
    (ChangeSpec.witness_shaped (enc := enc) (C := Tryd.checked) (os := os) (X := fun w _ => laidMetH Tryd.prog laidL w) false (World.laidAll Tryd.prog os laidL) #[.int .u8 0, .int .u8 0, .int .u8 0, .slice none 0 0] 8 (World.laidAll_os _ _ _) (World.shaped_of_ZipB (by kernel_rfl) (by kernel_rfl)) (by kernel_rfl) (by kernel_rfl) (by kernel_rfl) (by rw [MakeChecks.laidMetH_plain _ _ _ (by kernel_rfl)]; exact laidMet_laidAll _ (by kernel_rfl) (by kernel_rfl))) ?_
  intro W base args ds gs before hval0 hW hcnd hsz0 hL0 _
  have hTW := tab_of_laid hL0
  have hval : ∀ (j : Nat) t v, Tryd.f7.params[j]? = some t → args[j]? = some v → Value.okWide Tryd.prog W .any base t v := hval0
  have hsz : (DataW.weightsEach Tryd.prog (Tryd.f7.params.toList ++ Rows.planeEdgesSpec.plain.varTypes Tryd.prog) (ds ++ gs)).all (· ≤ reachBytes) = true := hsz0
  have hW' := hW
  obtain ⟨p, q, hA0, hV, rfl, hfz, hnd⟩ := hW
  have hA : DataW.TrodAll enc Tryd.prog W 0 (fun _ => true) true Tryd.f7.params.toList args.toList ds p := hA0
  rw [Tryd.params7] at hA hval hsz
  obtain ⟨v0, vs0, d0, ds0, p0, q0, hargs, rfl, rfl, h0, r0⟩ := trodAll_cons hA
  obtain ⟨v1, vs1, d1, ds1, p1, q1, rfl, rfl, rfl, h1, r1⟩ := trodAll_cons r0
  obtain ⟨v2, vs2, d2, ds2, p2, q2, rfl, rfl, rfl, h2, r2⟩ := trodAll_cons r1
  obtain ⟨v3, vs3, d3, ds3, p3, q3, rfl, rfl, rfl, h3, r3⟩ := trodAll_cons r2
  obtain ⟨rfl, rfl, rfl⟩ := trodAll_nil r3
  obtain rfl : args = #[v0, v1, v2, v3] := by cases args; simp_all
  obtain ⟨rfl, rfl⟩ := trodVars_none hV
  obtain ⟨a0, rfl, rfl, rfl, w0⟩ := open_int Tryd.underlying5 (hval 0 5 v0 rfl rfl) h0
  obtain ⟨a1, rfl, rfl, rfl, w1⟩ := open_int Tryd.underlying5 (hval 1 5 v1 rfl rfl) h1
  obtain ⟨a2, rfl, rfl, rfl, w2⟩ := open_int Tryd.underlying5 (hval 2 5 v2 rfl rfl) h2
  obtain ⟨l3, ⟨s3, x3⟩, e3⟩ := open_bytes (hval 3 24 v3 rfl rfl) h3
  have n3 := bytes_small hsz (j := 3) rfl rfl e3
  clear hA0 hval0
  refine (walk W hTW a0 w0 a1 w1 a2 w2 v3 l3 s3 x3 n3).mono fun e W' ⟨he, hg⟩ => ?_
  subst he
  exact ⟨_, rfl, law_post laidOut readable rfl Tryd.underlying4 rfl rfl hW' hg.below⟩

theorem over : Rows.planeEdgesRow.holds Tryd.pinned (OpenSpec.ofChange Rows.planeEdgesSpec) :=
  OpenClaim.holds_of_wide 7 Tryd.f7 rfl rfl rfl rfl rfl rfl rfl ⟨rfl, rfl, rfl, rfl, rfl⟩ rfl rfl rfl rfl rfl (by kernel_rfl) Tryd.func7 (by kernel_rfl)
    (of_decide_eq_true (by kernel_rfl)) (by unfold Func.isWrapper; first | (rw [if_pos (by decide +kernel)]; kernel_rfl) | (rw [if_neg (by decide +kernel)]; exact ⟨rfl, rfl⟩))
    (fun os started H enc _ => lifted os started H enc)

end Go.Proofs.YtppbnmlgilgnnaaDoor.planeEdges
namespace Go.Proofs.YtppbnmlgilgnnaaDoor
set_option maxRecDepth 100000 in
theorem planeEdges_holds : Rows.PlaneEdgesCardSaid :=
  Claim7.holds_tied_plain_at .later [] [.data, .data] true (true, "ab5aa4f614d791b3d8cb4fdca616c939dd2ef51ee4a4484fecb3b38df204f3c9") false planeEdges.over (fun _ h => by cases h) (by kernel_rfl) (fun _ h => by cases h) planeEdges_row_tie rfl ⟨rfl, rfl⟩ (by kernel_rfl) rfl
    (fun f fn hf hfn => by
      obtain rfl : f = 7 := Option.some.inj ((show Tryd.prog.funcNamed "cyanotype/cyanotypelaw07.PlaneEdges" = some 7 by kernel_rfl).symm.trans hf) |>.symm
      obtain rfl : fn = Tryd.f7 := (Option.some.inj (Tryd.func7.symm.trans hfn)).symm
      exact ⟨by kernel_rfl, fun j t ht => by
        rw [Tryd.params7] at ht
        have hm : t ∈ [5, 5, 5, 24] := by simpa using Array.mem_of_getElem? ht
        have hall : ([5, 5, 5, 24].all fun u => !Tryd.prog.wantsStandIn u) = true := by kernel_rfl
        exact (show Tryd.prog.wantsStandIn t = false by simpa using List.all_eq_true.1 hall t hm)⟩)
    (by kernel_rfl)
#print axioms planeEdges_holds
end Go.Proofs.YtppbnmlgilgnnaaDoor
