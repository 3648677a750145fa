/- Each SAMPLE laid at its place: split. -/
import Derived.Test.YtppbnmlgilgnnaaPl10
import Derived.Test.YtppbnmlgilgnnaaPl6
namespace Go.Proofs.Ytppbnmlgilgnnaa
open Go.ChangeShapes Go.WideShapes Go.ChangeAt Go.RowKit Go.Shelf

attribute [local go_sem] Oper.semAt_some wide_fn wide_depth Fence.inRound_fn Fence.inRound_depth

/-- The words of the parts. -/
def partsL (m : Int) (l : List Int) : List Int := if m = 1 then l else (List.range l.length).map (turnA luma1 luma2 luma3 l)

theorem partsL_length (m : Int) (l : List Int) : (partsL m l).length = l.length := by unfold partsL; split <;> simp

theorem of_in (x : Rw) (p q r : Int) : 0 ≤ x.of p q r ∧ x.of p q r ≤ 255 := by
  unfold Rw.of partF clipF
  repeat' split
  all_goals omega

theorem partsL_in (m : Int) (l : List Int) (hx : ∀ x ∈ l, 0 ≤ x ∧ x ≤ 255) : ∀ x ∈ partsL m l, 0 ≤ x ∧ x ≤ 255 := by
  unfold partsL
  split
  · exact hx
  · intro x h
    simp only [List.mem_map] at h
    obtain ⟨j, -, rfl⟩ := h
    exact of_in _ _ _ _

theorem cell_step (M mc bl k : Nat) (F : Nat → Nat → Int) (hb : bl < M) (hk : k < 64) (mc' j : Nat) (hj : j < M * 64) :
    (if mc' * M * 64 + j < (mc * M + bl) * 64 + (k + 1) then F mc' j else 0) = if mc' = mc ∧ j = bl * 64 + k then F mc' j else if mc' * M * 64 + j < (mc * M + bl) * 64 + k then F mc' j else 0 := by
  obtain ⟨A, hA⟩ : ∃ A, mc * M = A := ⟨_, rfl⟩
  obtain ⟨A', hA'⟩ : ∃ A, mc' * M = A := ⟨_, rfl⟩
  rw [hA, hA']
  rcases Nat.lt_trichotomy mc' mc with h | h | h
  · have : (mc' + 1) * M ≤ mc * M := Nat.mul_le_mul_right M h
    rw [Nat.add_mul, hA, hA'] at this
    rw [if_pos (by omega), if_neg (by omega), if_pos (by omega)]
  · subst h
    rw [hA] at hA'
    subst hA'
    by_cases e : j = bl * 64 + k
    · rw [if_pos (by omega), if_pos ⟨rfl, e⟩]
    · rw [if_neg (show ¬ (mc' = mc' ∧ j = bl * 64 + k) from fun q => e q.2)]
      by_cases e2 : j < bl * 64 + k
      · rw [if_pos (by omega), if_pos (by omega)]
      · rw [if_neg (by omega), if_neg (by omega)]
  · have : (mc + 1) * M ≤ mc' * M := Nat.mul_le_mul_right M h
    rw [Nat.add_mul, hA, hA'] at this
    rw [if_neg (by omega), if_neg (by omega), if_neg (by omega)]

/-- One SAMPLE more is laid. -/
theorem grid_step {W : World} {t : TypeId} {N M B mc bl k : Nat} {F : Nat → Nat → Int} (hmc : mc < N) (hb : bl < M) (hk : k < 64) (h : ∀ i, i < N → Cells W (B + i) t (tab .i64 (M * 64) (fun j => if i * M * 64 + j < (mc * M + bl) * 64 + k then F i j else 0))) :
    ∀ i, i < N → Cells (W.setCell ⟨B + mc, bl * 64 + k, none⟩ (.int .i64 (F mc (bl * 64 + k)))) (B + i) t (tab .i64 (M * 64) (fun j => if i * M * 64 + j < (mc * M + bl) * 64 + (k + 1) then F i j else 0)) := by
  intro i hi
  by_cases e : i = mc
  · subst e
    have h1 := (h i hi).set (bl * 64 + k) (.int .i64 (F i (bl * 64 + k)))
    rw [tab_set] at h1
    have e1 : tab .i64 (M * 64) (fun j => if i * M * 64 + j < (i * M + bl) * 64 + (k + 1) then F i j else 0) = tab .i64 (M * 64) (upd (fun j => if i * M * 64 + j < (i * M + bl) * 64 + k then F i j else 0) (bl * 64 + k) (F i (bl * 64 + k))) := by
      refine tab_congr _ _ _ _ (fun j hj => ?_)
      rw [cell_step M i bl k F hb hk i j hj]
      unfold upd
      by_cases q : j = bl * 64 + k
      · rw [if_pos ⟨rfl, q⟩, if_pos q, q]
      · rw [if_neg (fun r => q r.2), if_neg q]
    rw [e1]
    exact h1
  · have h1 := (h i hi).far (c := B + mc) (by omega) (bl * 64 + k) (.int .i64 (F mc (bl * 64 + k)))
    have e1 : tab .i64 (M * 64) (fun j => if i * M * 64 + j < (mc * M + bl) * 64 + (k + 1) then F i j else 0) = tab .i64 (M * 64) (fun j => if i * M * 64 + j < (mc * M + bl) * 64 + k then F i j else 0) := by
      refine tab_congr _ _ _ _ (fun j hj => ?_)
      rw [cell_step M mc bl k F hb hk i j hj, if_neg (fun r => e r.1)]
    rw [e1]
    exact h1

/-- The SAMPLES of an image, by MCUs. -/
def splitF (W H m : Int) (l : List Int) (i j : Nat) : Int := sampleF W H (partsL m l) (spotAt (gridW W H m) (sideW m) (sideH m) (unitL m) i (j / 64)) ((j % 64 : Nat) : Int)

theorem unit_block (m : Int) (i : Nat) (h : i < (unitL m).length) : (unitL m)[i].block = i ∧ (unitL m)[i].parts = partsN m ∧ (unitL m)[i].part < (unitL m)[i].parts := by
  revert h
  unfold unitL partsN
  by_cases h1 : m = 1
  · simp only [h1, if_true]; intro h; have : i = 0 := by simpa using h
    subst this; simp
  · by_cases h2 : m = 2
    · subst h2; simp only [if_true, show ¬ (2 : Int) = 1 by decide, if_false]; intro h
      have : i = 0 ∨ i = 1 ∨ i = 2 := by simp at h; omega
      rcases this with rfl | rfl | rfl <;> simp
    · by_cases h3 : m = 3
      · subst h3; simp only [if_true, show ¬ (3 : Int) = 1 by decide, show ¬ (3 : Int) = 2 by decide, if_false]; intro h
        have : i = 0 ∨ i = 1 ∨ i = 2 ∨ i = 3 := by simp at h; omega
        rcases this with rfl | rfl | rfl | rfl <;> simp
      · simp only [h1, h2, h3, if_false]; intro h
        have : i = 0 ∨ i = 1 ∨ i = 2 ∨ i = 3 ∨ i = 4 ∨ i = 5 := by simp at h; omega
        rcases this with rfl | rfl | rfl | rfl | rfl | rfl <;> simp

theorem spot_form {W H m : Int} (f : Fit W H m) (i b : Nat) (hi : i < (gridW W H m * gridH W H m).toNat) (hb : b < (unitL m).length) : ∃ pa x y wi hi : Int, spotAt (gridW W H m) (sideW m) (sideH m) (unitL m) i b = ⟨i, b, pa, partsN m, x, y, wi, hi⟩ ∧ (Spot.mk i b pa (partsN m) x y wi hi).ok ∧ pa < (partsN m : Int) := by
  obtain ⟨g1, g2, g3, g4, g5, g6⟩ := f.grid
  have s := side_fit f.m
  have a := ceil_in W (sideW m) f.w.1 f.w.2 s.1 s.2.1
  have c := ceil_in H (sideH m) f.h.1 f.h.2 s.2.2.1 s.2.2.2
  obtain ⟨e1, e2, e3⟩ := unit_block m b hb
  have ok := unit_ok m _ (List.getElem_mem hb)
  have e4 : (unitL m).getD b ⟨0, 0, 0, 1, 0, 0, 1, 1⟩ = (unitL m)[b] := by simp [List.getD, List.getElem?_eq_getElem hb]
  refine ⟨(unitL m)[b].part, (unitL m)[b].x + (i : Int) % gridW W H m * sideW m, (unitL m)[b].y + (i : Int) / gridW W H m * sideH m, (unitL m)[b].wide, (unitL m)[b].high, ?_, ?_, ?_⟩
  · unfold spotAt
    simp only [e4, e1, e2]
  · have q0 : 0 ≤ (i : Int) % gridW W H m := Int.emod_nonneg _ (by omega)
    have q1 : (i : Int) % gridW W H m < gridW W H m := Int.emod_lt_of_pos _ (by omega)
    have q2 : 0 ≤ (i : Int) / gridW W H m := Int.ediv_nonneg (by omega) (by omega)
    have q3 : (i : Int) / gridW W H m < gridH W H m := by
      rw [Int.ediv_lt_iff_lt_mul (by omega), Int.mul_comm]; omega
    have m0 : 0 ≤ (i : Int) % gridW W H m * sideW m := Int.mul_nonneg q0 (by omega)
    have m1 : (i : Int) % gridW W H m * sideW m ≤ (gridW W H m - 1) * sideW m := Int.mul_le_mul_of_nonneg_right (by omega) (by omega)
    have m2 : 0 ≤ (i : Int) / gridW W H m * sideH m := Int.mul_nonneg q2 (by omega)
    have m3 : (i : Int) / gridW W H m * sideH m ≤ (gridH W H m - 1) * sideH m := Int.mul_le_mul_of_nonneg_right (by omega) (by omega)
    have a' : (gridW W H m - 1) * sideW m < W := by rw [g1]; exact a.2.2.2.2
    have c' : (gridH W H m - 1) * sideH m < H := by rw [g2]; exact c.2.2.2.2
    have hW := f.w
    have hH := f.h
    have p1 : 1 ≤ (partsN m : Int) ∧ (partsN m : Int) ≤ 3 := by unfold partsN; split <;> simp
    unfold Spot.ok
    dsimp only
    omega
  · rw [← e2]; exact e3

set_option maxHeartbeats 1600000 in
theorem turnedN_parts (m : Int) (hm : 1 ≤ m ∧ m ≤ 4) (v : Value) (l : List Int) (Z : Int) (hl : (l.length : Int) = Z * partsN m) (w : World) (hv : View w .i64 v l) (hx : ∀ x ∈ l, 0 ≤ x ∧ x ≤ 255) (hs : l.length ≤ 4000000) : Calls Try.prog 57 #[.func (.func 62) #[] #[], .int .i64 m, v] w fun e w' =>
    (∃ v', e = .returned v' ∧ View w' .i64 v' (partsL m l)) ∧ But Nowhere w w' := by
  by_cases h1 : m = 1
  · subst h1
    obtain ⟨vo, vc, rfl⟩ := hv.slice
    go_enter Try.func57, Try.ntmps57
    go_wp2_with fail
    go_ret
    exact ⟨⟨_, rfl, by simpa [partsL] using hv⟩, But.refl _ _⟩
  · have h3 : partsN m = 3 := by unfold partsN; rw [if_neg h1]
    rw [h3] at hl
    refine (turnedNLuma_any m h1 v l l.length w hv rfl hx (l.length / 3) (by omega) hs).mono ?_
    rintro e w1 ⟨rfl, hc, hb⟩
    refine ⟨⟨_, rfl, ?_⟩, hb⟩
    have : partsL m l = (List.range l.length).map (turnA luma1 luma2 luma3 l) := by unfold partsL; rw [if_neg h1]
    rw [this]
    exact Tb.view ⟨_, rfl, hc⟩

end Go.Proofs.Ytppbnmlgilgnnaa
