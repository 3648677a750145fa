/- The blocks of the first MCU: unit. -/
import Derived.Test.YtppbnmlgilgnnaaPlRef1
import Derived.Test.YtppbnmlgilgnnaaPl3
import Derived.Test.YtppbnmlgilgnnaaLst
namespace Go.Proofs.Ytppbnmlgilgnnaa
open Go.ChangeShapes Go.WideShapes Go.ChangeAt Go.RowKit Go.Shelf

/-- The blocks of the first MCU. -/
def unitL (m : Int) : List Spot :=
  if m = 1 then [⟨0, 0, 0, 1, 0, 0, 1, 1⟩]
  else if m = 2 then [⟨0, 0, 0, 3, 0, 0, 1, 1⟩, ⟨0, 1, 1, 3, 0, 0, 1, 1⟩, ⟨0, 2, 2, 3, 0, 0, 1, 1⟩]
  else if m = 3 then [⟨0, 0, 0, 3, 0, 0, 1, 1⟩, ⟨0, 1, 0, 3, 8, 0, 1, 1⟩, ⟨0, 2, 1, 3, 0, 0, 2, 1⟩, ⟨0, 3, 2, 3, 0, 0, 2, 1⟩]
  else [⟨0, 0, 0, 3, 0, 0, 1, 1⟩, ⟨0, 1, 0, 3, 8, 0, 1, 1⟩, ⟨0, 2, 0, 3, 0, 8, 1, 1⟩, ⟨0, 3, 0, 3, 8, 8, 1, 1⟩, ⟨0, 4, 1, 3, 0, 0, 2, 2⟩, ⟨0, 5, 2, 3, 0, 0, 2, 2⟩]

/-- How many blocks come before a part. -/
def cntP (m : Int) (p : Nat) : Nat := if p = 0 then 0 else if m = 3 then p + 1 else if m = 4 then p + 3 else p

def spotsC (l : List Spot) : List Value := l.flatMap Spot.cells

theorem spotsC_length (l : List Spot) : (spotsC l).length = l.length * 8 := by
  induction l with
  | nil => rfl
  | cons s l ih => simp only [spotsC, List.flatMap_cons, List.length_append] at *; rw [ih]; simp; omega

theorem spotsC_at (l : List Spot) (i : Nat) (h : i < l.length) (j : Nat) (hj : j < 8) : (spotsC l)[i * 8 + j]? = l[i].cells[j]? := by
  induction l generalizing i with
  | nil => simp at h
  | cons s l ih =>
    cases i with
    | zero => simp only [spotsC, List.flatMap_cons]; rw [List.getElem?_append_left (by simp; omega)]; simp
    | succ i =>
      have := ih i (by simpa using h)
      simp only [spotsC, List.flatMap_cons] at *
      rw [show (i + 1) * 8 + j = i * 8 + j + 8 by omega, List.getElem?_append_right (by simp)]
      simpa using this

theorem spot_one (s : Spot) : ∀ u ∈ s.cells, u.oneCell' = true := by
  intro u hu
  simp only [Spot.cells, List.mem_cons, List.not_mem_nil, or_false] at hu
  rcases hu with rfl | rfl | rfl | rfl | rfl | rfl | rfl | rfl <;> rfl

/-- What unit lays of part p's n-th block. -/
structure UnitAt (m : Int) (p n : Nat) (A B s0 s1 C D : Int) : Prop where
  a : (nums (sidesC m))[p * 2]? = some (.int .i64 A)
  b : (nums (sidesC m))[p * 2 + 1]? = some (.int .i64 B)
  c : (nums (sidesC m))[0]? = some (.int .i64 s0)
  d : (nums (sidesC m))[1]? = some (.int .i64 s1)
  of : (C, D) = if A = s0 ∧ B = s1 then (1, 1) else (s0, s1)

theorem unit_part (m : Int) (hm : 1 ≤ m ∧ m ≤ 4) (p : Nat) (hp : p < partsN m) : ∃ A B s0 s1 C D, UnitAt m p 0 A B s0 s1 C D ∧ 1 ≤ A ∧ A ≤ 2 ∧ 1 ≤ B ∧ B ≤ 2 ∧ 1 ≤ C ∧ C ≤ 2 ∧ 1 ≤ D ∧ D ≤ 2 ∧ A * B = ((cntP m (p + 1) - cntP m p : Nat) : Int) ∧ 0 < (cntP m (p + 1) - cntP m p : Nat) ∧ cntP m (p + 1) ≤ (unitL m).length ∧
    ∀ n : Nat, n < cntP m (p + 1) - cntP m p → (unitL m)[cntP m p + n]? = some ⟨0, cntP m p + n, p, partsN m, n % A * 8 * C, n / A * 8 * D, C, D⟩ := by
  rcases mode_cases hm with rfl | rfl | rfl | rfl
  · have : p = 0 := by simp [partsN] at hp; omega
    subst this
    refine ⟨1, 1, 1, 1, 1, 1, ⟨rfl, rfl, rfl, rfl, rfl⟩, by omega, by omega, by omega, by omega, by omega, by omega, by omega, by omega, rfl, by decide, by decide, fun n hn => ?_⟩
    have : n = 0 := by simp [cntP] at hn; omega
    subst this; rfl
  · have : p = 0 ∨ p = 1 ∨ p = 2 := by simp [partsN] at hp; omega
    rcases this with rfl | rfl | rfl <;>
    · refine ⟨1, 1, 1, 1, 1, 1, ⟨rfl, rfl, rfl, rfl, rfl⟩, by omega, by omega, by omega, by omega, by omega, by omega, by omega, by omega, rfl, by decide, by decide, fun n hn => ?_⟩
      have : n = 0 := by simp [cntP] at hn; omega
      subst this; rfl
  · have : p = 0 ∨ p = 1 ∨ p = 2 := by simp [partsN] at hp; omega
    rcases this with rfl | h
    · refine ⟨2, 1, 2, 1, 1, 1, ⟨rfl, rfl, rfl, rfl, rfl⟩, by omega, by omega, by omega, by omega, by omega, by omega, by omega, by omega, rfl, by decide, by decide, fun n hn => ?_⟩
      have : n = 0 ∨ n = 1 := by simp [cntP] at hn; omega
      rcases this with rfl | rfl <;> rfl
    · rcases h with rfl | rfl <;>
      · refine ⟨1, 1, 2, 1, 2, 1, ⟨rfl, rfl, rfl, rfl, rfl⟩, by omega, by omega, by omega, by omega, by omega, by omega, by omega, by omega, rfl, by decide, by decide, fun n hn => ?_⟩
        have : n = 0 := by simp [cntP] at hn; omega
        subst this; rfl
  · have : p = 0 ∨ p = 1 ∨ p = 2 := by simp [partsN] at hp; omega
    rcases this with rfl | h
    · refine ⟨2, 2, 2, 2, 1, 1, ⟨rfl, rfl, rfl, rfl, rfl⟩, by omega, by omega, by omega, by omega, by omega, by omega, by omega, by omega, rfl, by decide, by decide, fun n hn => ?_⟩
      have : n = 0 ∨ n = 1 ∨ n = 2 ∨ n = 3 := by simp [cntP] at hn; omega
      rcases this with rfl | rfl | rfl | rfl <;> rfl
    · rcases h with rfl | rfl <;>
      · refine ⟨1, 1, 2, 2, 2, 2, ⟨rfl, rfl, rfl, rfl, rfl⟩, by omega, by omega, by omega, by omega, by omega, by omega, by omega, by omega, rfl, by decide, by decide, fun n hn => ?_⟩
        have : n = 0 := by simp [cntP] at hn; omega
        subst this; rfl

theorem cntP_end (m : Int) (hm : 1 ≤ m ∧ m ≤ 4) : cntP m (partsN m) = (unitL m).length := by
  rcases mode_cases hm with rfl | rfl | rfl | rfl <;> rfl

theorem Try.elemSpot : ElemInfo Try.prog 82 91 (.agg #[.int .i64 0, .int .i64 0, .int .i64 0, .int .i64 0, .int .i64 0, .int .i64 0, .int .i64 0, .int .i64 0]) 8 64 := ⟨Try.underlying82, by kernel_rfl, rfl, by omega⟩

set_option maxRecDepth 100000 in
theorem equal_pairs (x y a b : Int) (w : World) : (Op.equalIn 10000 49 (.agg #[.int .i64 x, .int .i64 y]) (.agg #[.int .i64 a, .int .i64 b])).run Try.prog w = .ok ([x, y] == [a, b]) w :=
  run_equalIn_nums w 9998 49 3 2 Try.underlying49 Try.underlying3 sizeOf_int [x, y] [a, b] rfl rfl

set_option maxHeartbeats 6400000 in
set_option maxRecDepth 100000 in
theorem unit_any (m : Int) (hm : 1 ≤ m ∧ m ≤ 4) (w : World) : Calls Try.prog 41 #[.int .i64 m] w fun e w' => ∃ v, e = .returned v ∧ Lst w w' 91 8 v (unitL m).length (spotsC (unitL m)) := by
  have HP := unit_part m hm
  have HE := cntP_end m hm
  have hgd : Try.prog.eqGuardType Try.prog.depth 49 = false := by kernel_rfl
  go_enter Try.func41, Try.ntmps41
  go_wp2_with fail
  refine (sides_some m hm w).mono ?_
  rintro e w1 ⟨rfl, k1, -⟩
  have hB := k1.head
  have b1 := k1.but
  clear k1
  obtain ⟨N, hN, hN3⟩ : ∃ N, partsN m = N ∧ N ≤ 3 := ⟨_, rfl, by unfold partsN; split <;> omega⟩
  rw [hN] at HP HE ⊢
  clear hN
  obtain ⟨B, hBB⟩ : ∃ b, w.heap.size = b := ⟨_, rfl⟩
  rw [hBB] at hB ⊢
  have HBB : Hid (w.heap.size = B) := hBB
  clear hBB
  go_wp2_with fail
  go_loopw [3, 15] (fun l i W => ∃ p : Nat, p ≤ N ∧ i = .int .i64 p ∧ Lst w1 W 91 8 l (cntP m p) (spotsC ((unitL m).take (cntP m p)))) (fun _ i _ => N - (intOf i).toNat)
  case atStart => exact ⟨0, Nat.zero_le _, rfl, Lst.start _ _ _⟩
  case round =>
    obtain ⟨p, hp, rfl, L⟩ := hrel
    by_cases hlt : p < N
    · obtain ⟨A, D, s0, s1, C, E, U, a1, a2, d1, d2, c1, c2, f1, f2, hAD, hpos, hle, hU⟩ := HP p hlt
      obtain ⟨l0, cap0, rfl⟩ := L.slice
      have i0 : (0 : Int) ≤ (p : Int) := by omega
      have i1 : (p : Int) < (N : Int) := by omega
      have i2 : (0 : Int) < (N : Int) := by omega
      have hBW := hB.but L.but (not_nowhere _)
      have kA := (hBW.at (p * 2)).trans U.a
      have kD := (hBW.at (p * 2 + 1)).trans U.b
      have k0 := (hBW.at 0).trans U.c
      have k1 := (hBW.at 1).trans U.d
      have kk := ((Keep.start wr).made 49 [.int .i64 A, .int .i64 D]).made 49 [.int .i64 1, .int .i64 1]
      simp only [World.size_alloc] at kk
      have he := equal_pairs A D s0 s1
      replace k0 := kk.but.keeps (not_nowhere _) k0
      replace k1 := kk.but.keeps (not_nowhere _) k1
      go_wp2_with fail
      revert kk k0 k1
      generalize (wr.alloc (.cells #[.int .i64 A, .int .i64 D] 49)).alloc (.cells #[.int .i64 1, .int .i64 1] 49) = W1
      intro kk k0 k1
      have lB : l0 = none ∨ True := .inr trivial
      obtain ⟨SB, hSB⟩ : ∃ b, wr.heap.size = b := ⟨_, rfl⟩
      rw [hSB] at kk ⊢
      have nB : ∀ k, (Value.slice l0 (cntP m p) cap0).ownBlock = some k → k < SB := fun k hk => by have := L.lt hk; omega
      have L1 := L.step kk.but
      have nS : w1.heap.size ≤ SB := by have := L.but.size; omega
      clear lB hSB L hBW kA kD
      obtain ⟨q2, q3⟩ : W1.cell? ⟨SB, 0, none⟩ = some (.int .i64 A) ∧ W1.cell? ⟨SB, 1, none⟩ = some (.int .i64 D) := ⟨(kk.get (b := SB) (t := 49) (c := [.int .i64 A, .int .i64 D]) (by simp)).at 0, (kk.get (b := SB) (t := 49) (c := [.int .i64 A, .int .i64 D]) (by simp)).at 1⟩
      obtain ⟨g2, g3⟩ : W1.cell? ⟨SB + 1, 0, none⟩ = some (.int .i64 1) ∧ W1.cell? ⟨SB + 1, 1, none⟩ = some (.int .i64 1) := ⟨kk.head.at 0, kk.head.at 1⟩
      have z2 := kk.head.frozen 0
      have z3 := kk.head.frozen 1
      have hof := U.of
      obtain ⟨M, hM, hMl⟩ : ∃ M, cntP m (p + 1) - cntP m p = M ∧ cntP m p + M = cntP m (p + 1) := ⟨_, rfl, by omega⟩
      rw [hM] at hAD hpos hU
      have hul : (unitL m).length ≤ 6 := by unfold unitL; (repeat' split) <;> simp
      have hM4 : M ≤ 6 := by omega
      have hC6 : cntP m p ≤ 6 := by omega
      have hw0 : wrap64 (A * D) = (M : Int) := by rw [hAD]; exact w64 _ (by omega)
      have HM : Hid (cntP m p + M = cntP m (p + 1)) := hMl
      have HU : Hid _ := hU
      clear hM hMl hAD hU U
      by_cases hq : A = s0 ∧ D = s1
      · obtain ⟨rfl, rfl⟩ := hq
        simp only [if_true, Prod.mk.injEq, and_self] at hof
        obtain ⟨rfl, rfl⟩ := hof
        have hbe : ([A, D] == [A, D]) = true := by simp
        rw [hbe] at he
        clear hbe
        go_quiet (fail)
        go_wp2_with fail
        replace kk := kk.step ((But.refl _ _).drewN nq)
        replace L1 := L1.step ((But.refl _ _).drewN nq)
        clear k0 k1 q2 q3 g2 g3 z2 z3
        revert kk L1
        generalize W1.drewN nq = W2
        intro kk L1
        have c0 := (kk.get (b := SB) (t := 49) (c := [.int .i64 A, .int .i64 D]) (by simp)).at 0
        have c1' := (kk.get (b := SB) (t := 49) (c := [.int .i64 A, .int .i64 D]) (by simp)).at 1
        simp only [List.getElem?_cons_zero, List.getElem?_cons_succ] at c0 c1'
        go_wp2_with fail
        clear c0 c1'
        rw [hw0]
        clear hw0
        go_loopw [3, 34] (fun l i W => ∃ n : Nat, n ≤ M ∧ i = .int .i64 n ∧ Lst w1 W 91 8 l (cntP m p + n) (spotsC ((unitL m).take (cntP m p + n))) ∧ Cells W SB 49 [.int .i64 A, .int .i64 D] ∧ Cells W (SB + 1) 49 [.int .i64 1, .int .i64 1] ∧ ∀ k, l.ownBlock = some k → k ≠ SB ∧ k ≠ SB + 1) (fun _ i _ => M - (intOf i).toNat)
        case atStart => exact ⟨0, Nat.zero_le _, rfl, L1, kk.get (by simp), kk.get (by simp), fun k hk => by have := nB k hk; omega⟩
        case round =>
          clear kk L1 nB
          obtain ⟨n, hn, rfl, L, cS, cO, nB⟩ := hrel
          by_cases hln : n < M
          · have hu := HU.out n hln
            obtain ⟨l1, cap1, rfl⟩ := L.slice
            have a0 := cS.at 0
            have o0 := cO.at 0
            have o1 := cO.at 1
            simp only [List.getElem?_cons_zero, List.getElem?_cons_succ] at a0 o0 o1
            have q0 : 0 ≤ (n : Int) % A := Int.emod_nonneg _ (by omega)
            have q1 : (n : Int) % A < A := Int.emod_lt_of_pos _ (by omega)
            have q2 : 0 ≤ (n : Int) / A := Int.ediv_nonneg (by omega) (by omega)
            have q3 : (n : Int) / A ≤ n := Int.ediv_le_self _ (by omega)
            have q4 : 1 ≤ A := a1
            have q5 : ¬ A = 0 := by omega
            have r1 : (n : Int).tmod A = (n : Int) % A := Int.tmod_eq_emod_of_nonneg (by omega)
            have r2 : (n : Int).tdiv A = (n : Int) / A := Int.tdiv_eq_ediv_of_nonneg (by omega)
            have r3 : IntKind.i64.wrap ((n : Int) / A) = (n : Int) / A := by rw [wrap_i64_eq]; exact w64 _ (by omega)
            have r4 : IntKind.i64.wrap ((n : Int) % A * 8) = (n : Int) % A * 8 := by rw [wrap_i64_eq]; exact w64 _ (by omega)
            have r5 : IntKind.i64.wrap ((n : Int) / A * 8) = (n : Int) / A * 8 := by rw [wrap_i64_eq]; exact w64 _ (by omega)
            have m0 : 0 ≤ (n : Int) % A * 8 * 1 := Int.mul_nonneg (by omega) (by omega)
            have m1 : (n : Int) % A * 8 * 1 ≤ 16 * 2 := Int.mul_le_mul (by omega) (by omega) (by omega) (by omega)
            have m2 : 0 ≤ (n : Int) / A * 8 * 1 := Int.mul_nonneg (by omega) (by omega)
            have m3 : (n : Int) / A * 8 * 1 ≤ 48 * 2 := Int.mul_le_mul (by omega) (by omega) (by omega) (by omega)
            have r6 : IntKind.i64.wrap ((n : Int) % A * 8 * 1) = (n : Int) % A * 8 * 1 := by rw [wrap_i64_eq]; exact w64 _ (by omega)
            have r7 : IntKind.i64.wrap ((n : Int) / A * 8 * 1) = (n : Int) / A * 8 * 1 := by rw [wrap_i64_eq]; exact w64 _ (by omega)
            go_wp2_with fail
            go_quiet (fail)
            obtain ⟨g, cap, W4, hrun, L4, b4, hg4⟩ := Lst.push Try.elemSpot (L.step ((But.refl _ _).drewN nq)) (Spot.cells ⟨0, (cntP m p : Int) + (n : Int), p, N, (n : Int) % A * 8, (n : Int) / A * 8, 1, 1⟩) rfl (spot_one _) (by omega) (by omega) _ rfl
            have hgB : g ≠ SB ∧ g ≠ SB + 1 := by
              rcases hg4 with e | e
              · exact nB g e
              · have e1 := cS.lt
                have e2 := cO.lt
                have e3 : wr.heap.size ≤ g := e
                omega
            have cS4 := (cS.but ((But.refl _ _).drewN nq) (not_nowhere _)).but b4 (fun e => (nB _ e).1 rfl)
            have cO4 := (cO.but ((But.refl _ _).drewN nq) (not_nowhere _)).but b4 (fun e => (nB _ e).2 rfl)
            have HF0 : Lst w1 W4 91 8 (.slice (some ⟨g, 0, none⟩) (cntP m p + n + 1) cap) (cntP m p + n + 1) (spotsC ((unitL m).take (cntP m p + n + 1))) := by
              have e : (unitL m).take (cntP m p + n + 1) = (unitL m).take (cntP m p + n) ++ [⟨0, (cntP m p : Int) + (n : Int), p, N, (n : Int) % A * 8, (n : Int) / A * 8, 1, 1⟩] := by
                have hlt' := (List.getElem?_eq_some_iff.1 hu)
                rw [List.take_succ_eq_append_getElem hlt'.1, hlt'.2]
                try simp
              rw [e]
              simpa [spotsC] using L4
            have HF : Hid _ := HF0
            clear L L4 hu cS cO m0 m1 m2 m3 b4 HF0
            go_wp2_with (at_builtin; refine wpList_append_run rfl _ _ _ rfl _ _ (by rfl) (by rfl) _ _ hrun ?_)
            go_roundw
            case rel => exact ⟨n + 1, by omega, by go_num, HF.out, cS4, cO4, fun k hk => by simp [Value.ownBlock] at hk; subst hk; exact hgB⟩
            case measure => simp [intOf]; omega
          · obtain rfl : n = M := by omega
            rw [HM.out] at L
            go_wp2_with fail
            go_roundw
            case rel => exact ⟨p + 1, by omega, by go_num, L⟩
            case measure => simp [intOf]; omega
      · rw [if_neg hq] at hof
        simp only [Prod.mk.injEq] at hof
        obtain ⟨rfl, rfl⟩ := hof
        have hbe : ([A, D] == [C, E]) = false := by simp; intro e; exact fun f => hq ⟨e, f⟩
        rw [hbe] at he
        clear hbe
        go_quiet (fail)
        go_wp2_with fail
        replace kk := ((kk.step ((But.refl _ _).drewN nq)).set 0 (.int .i64 C)).set 1 (.int .i64 E)
        simp only [List.set_cons_zero, List.set_cons_succ] at kk
        have L2 : Lst w1 (((W1.drewN nq).setCell ⟨SB + 1, 0, none⟩ (.int .i64 C)).setCell ⟨SB + 1, 1, none⟩ (.int .i64 E)) 91 8 (.slice l0 (cntP m p) cap0) (cntP m p) (spotsC ((unitL m).take (cntP m p))) :=
          L1.stepS (S := fun k => k = SB + 1) (But.setCell (S := fun k => k = SB + 1) (p := ⟨SB + 1, 1, none⟩) (But.setCell (S := fun k => k = SB + 1) (p := ⟨SB + 1, 0, none⟩) ((But.refl _ _).drewN nq) (fun _ => rfl) _) (fun _ => rfl) _) (fun k hk e => by have := nB k hk; omega) (fun k e => by omega)
        clear k0 k1 q2 q3 g2 g3 z2 z3 L1
        revert kk L2
        generalize ((W1.drewN nq).setCell ⟨SB + 1, 0, none⟩ (.int .i64 C)).setCell ⟨SB + 1, 1, none⟩ (.int .i64 E) = W2
        intro kk L1
        have c0 := (kk.get (b := SB) (t := 49) (c := [.int .i64 A, .int .i64 D]) (by simp)).at 0
        have c1' := (kk.get (b := SB) (t := 49) (c := [.int .i64 A, .int .i64 D]) (by simp)).at 1
        simp only [List.getElem?_cons_zero, List.getElem?_cons_succ] at c0 c1'
        go_wp2_with fail
        clear c0 c1'
        rw [hw0]
        clear hw0
        go_loopw [3, 34] (fun l i W => ∃ n : Nat, n ≤ M ∧ i = .int .i64 n ∧ Lst w1 W 91 8 l (cntP m p + n) (spotsC ((unitL m).take (cntP m p + n))) ∧ Cells W SB 49 [.int .i64 A, .int .i64 D] ∧ Cells W (SB + 1) 49 [.int .i64 C, .int .i64 E] ∧ ∀ k, l.ownBlock = some k → k ≠ SB ∧ k ≠ SB + 1) (fun _ i _ => M - (intOf i).toNat)
        case atStart => exact ⟨0, Nat.zero_le _, rfl, L1, kk.get (by simp), kk.get (by simp), fun k hk => by have := nB k hk; omega⟩
        case round =>
          clear kk L1 nB
          obtain ⟨n, hn, rfl, L, cS, cO, nB⟩ := hrel
          by_cases hln : n < M
          · have hu := HU.out n hln
            obtain ⟨l1, cap1, rfl⟩ := L.slice
            have a0 := cS.at 0
            have o0 := cO.at 0
            have o1 := cO.at 1
            simp only [List.getElem?_cons_zero, List.getElem?_cons_succ] at a0 o0 o1
            have q0 : 0 ≤ (n : Int) % A := Int.emod_nonneg _ (by omega)
            have q1 : (n : Int) % A < A := Int.emod_lt_of_pos _ (by omega)
            have q2 : 0 ≤ (n : Int) / A := Int.ediv_nonneg (by omega) (by omega)
            have q3 : (n : Int) / A ≤ n := Int.ediv_le_self _ (by omega)
            have q4 : 1 ≤ A := a1
            have q5 : ¬ A = 0 := by omega
            have r1 : (n : Int).tmod A = (n : Int) % A := Int.tmod_eq_emod_of_nonneg (by omega)
            have r2 : (n : Int).tdiv A = (n : Int) / A := Int.tdiv_eq_ediv_of_nonneg (by omega)
            have r3 : IntKind.i64.wrap ((n : Int) / A) = (n : Int) / A := by rw [wrap_i64_eq]; exact w64 _ (by omega)
            have r4 : IntKind.i64.wrap ((n : Int) % A * 8) = (n : Int) % A * 8 := by rw [wrap_i64_eq]; exact w64 _ (by omega)
            have r5 : IntKind.i64.wrap ((n : Int) / A * 8) = (n : Int) / A * 8 := by rw [wrap_i64_eq]; exact w64 _ (by omega)
            have m0 : 0 ≤ (n : Int) % A * 8 * C := Int.mul_nonneg (by omega) (by omega)
            have m1 : (n : Int) % A * 8 * C ≤ 16 * 2 := Int.mul_le_mul (by omega) (by omega) (by omega) (by omega)
            have m2 : 0 ≤ (n : Int) / A * 8 * E := Int.mul_nonneg (by omega) (by omega)
            have m3 : (n : Int) / A * 8 * E ≤ 48 * 2 := Int.mul_le_mul (by omega) (by omega) (by omega) (by omega)
            have r6 : IntKind.i64.wrap ((n : Int) % A * 8 * C) = (n : Int) % A * 8 * C := by rw [wrap_i64_eq]; exact w64 _ (by omega)
            have r7 : IntKind.i64.wrap ((n : Int) / A * 8 * E) = (n : Int) / A * 8 * E := by rw [wrap_i64_eq]; exact w64 _ (by omega)
            go_wp2_with fail
            go_quiet (fail)
            obtain ⟨g, cap, W4, hrun, L4, b4, hg4⟩ := Lst.push Try.elemSpot (L.step ((But.refl _ _).drewN nq)) (Spot.cells ⟨0, (cntP m p : Int) + (n : Int), p, N, (n : Int) % A * 8 * C, (n : Int) / A * 8 * E, C, E⟩) rfl (spot_one _) (by omega) (by omega) _ rfl
            have hgB : g ≠ SB ∧ g ≠ SB + 1 := by
              rcases hg4 with e | e
              · exact nB g e
              · have e1 := cS.lt
                have e2 := cO.lt
                have e3 : wr.heap.size ≤ g := e
                omega
            have cS4 := (cS.but ((But.refl _ _).drewN nq) (not_nowhere _)).but b4 (fun e => (nB _ e).1 rfl)
            have cO4 := (cO.but ((But.refl _ _).drewN nq) (not_nowhere _)).but b4 (fun e => (nB _ e).2 rfl)
            have HF0 : Lst w1 W4 91 8 (.slice (some ⟨g, 0, none⟩) (cntP m p + n + 1) cap) (cntP m p + n + 1) (spotsC ((unitL m).take (cntP m p + n + 1))) := by
              have e : (unitL m).take (cntP m p + n + 1) = (unitL m).take (cntP m p + n) ++ [⟨0, (cntP m p : Int) + (n : Int), p, N, (n : Int) % A * 8 * C, (n : Int) / A * 8 * E, C, E⟩] := by
                have hlt' := (List.getElem?_eq_some_iff.1 hu)
                rw [List.take_succ_eq_append_getElem hlt'.1, hlt'.2]
                try simp
              rw [e]
              simpa [spotsC] using L4
            have HF : Hid _ := HF0
            clear L L4 hu cS cO m0 m1 m2 m3 b4 HF0
            go_wp2_with (at_builtin; refine wpList_append_run rfl _ _ _ rfl _ _ (by rfl) (by rfl) _ _ hrun ?_)
            go_roundw
            case rel => exact ⟨n + 1, by omega, by go_num, HF.out, cS4, cO4, fun k hk => by simp [Value.ownBlock] at hk; subst hk; exact hgB⟩
            case measure => simp [intOf]; omega
          · obtain rfl : n = M := by omega
            rw [HM.out] at L
            go_wp2_with fail
            go_roundw
            case rel => exact ⟨p + 1, by omega, by go_num, L⟩
            case measure => simp [intOf]; omega
    · obtain rfl : p = N := by omega
      go_wp2_with fail
      go_ret
      refine ⟨_, rfl, ?_⟩
      rw [HE, List.take_of_length_le (Nat.le_refl _)] at L
      exact L.back b1

end Go.Proofs.Ytppbnmlgilgnnaa
