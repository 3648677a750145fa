/- An image of one colour: its SAMPLES hang on the part alone. -/
import Derived.Test.YtppbnmlgilgnnaaDoorPl13
namespace Go.Proofs.YtppbnmlgilgnnaaDoor
open Go.ChangeShapes Go.WideShapes Go.ChangeAt Go.RowKit

theorem accF_const (f : Nat → Int) (v : Int) (h : ∀ n, f n = v) (n : Nat) : accF f n = n * v := by
  induction n with
  | zero => simp [accF]
  | succ n ih => simp only [accF, ih, h n]; rw [Int.natCast_succ, Int.add_mul, Int.one_mul]

theorem sample_flat (W H : Int) (pl : List Int) (s : Spot) (k : Int) (hs : s.ok) (v : Int) (h : ∀ n, gat pl (idxF W H s (s.x + k % 8 * s.wide) (s.y + k / 8 * s.high) n) = v) : sampleF W H pl s k = v := by
  unfold sampleF
  rw [accF_const _ v h]
  obtain ⟨s1, s2, s3, s4, s5, s6, s7, s8, s9, s10, s11, s12⟩ := hs
  have e1 : s.wide = 1 ∨ s.wide = 2 := by omega
  have e2 : s.high = 1 ∨ s.high = 2 := by omega
  rcases e1 with e1 | e1 <;> rcases e2 with e2 | e2 <;> rw [e1, e2] <;> simp [halved, tzF] <;> omega

/-- The word of a part, of one colour. -/
def flatV (m r g b part : Int) : Int := if m = 1 then r else (if part = 0 then luma1 else if part = 1 then luma2 else luma3).of r g b

theorem partsL_flat (m : Int) (l : List Int) (r g b : Int) (Z : Nat) (hl : l.length = Z * partsN m)
    (hf : ∀ j, j < l.length → gn l j = if m = 1 then r else if j % 3 = 0 then r else if j % 3 = 1 then g else b) (q : Nat) (part : Nat) (hp : part < partsN m) (hq : q < Z) :
    gat (partsL m l) ((q * partsN m + part : Nat) : Int) = flatV m r g b part := by
  unfold gat flatV
  rw [Int.toNat_natCast]
  have hlt : q * partsN m + part < l.length := by
    rw [hl]
    have : (q + 1) * partsN m ≤ Z * partsN m := Nat.mul_le_mul_right _ hq
    rw [Nat.add_mul] at this; omega
  by_cases h1 : m = 1
  · have e : partsL m l = l := by unfold partsL; rw [if_pos h1]
    rw [e, if_pos h1]
    have := hf _ hlt
    rw [if_pos h1] at this
    exact this
  · have e : partsL m l = (List.range l.length).map (turnA luma1 luma2 luma3 l) := by unfold partsL; rw [if_neg h1]
    have h3 : partsN m = 3 := by unfold partsN; rw [if_neg h1]
    rw [e, if_neg h1, List.getD_eq_getElem?_getD, List.getElem?_map, List.getElem?_range hlt, Option.map_some, Option.getD_some]
    rw [h3] at hp hlt hl ⊢
    unfold turnA
    have z0 : (q * 3 + part) / 3 * 3 = q * 3 := by omega
    have z1 : (q * 3 + part) % 3 = part := by omega
    rw [z0, z1, hf (q * 3) (by omega), hf (q * 3 + 1) (by omega), hf (q * 3 + 2) (by omega), if_neg h1, if_neg h1, if_neg h1,
      if_pos (show q * 3 % 3 = 0 by omega), if_neg (show ¬ (q * 3 + 1) % 3 = 0 by omega), if_pos (show (q * 3 + 1) % 3 = 1 by omega), if_neg (show ¬ (q * 3 + 2) % 3 = 0 by omega), if_neg (show ¬ (q * 3 + 2) % 3 = 1 by omega)]
    have : part = 0 ∨ part = 1 ∨ part = 2 := by omega
    rcases this with rfl | rfl | rfl <;> simp

theorem split_flat {W H m : Int} (f : Fit W H m) (l : List Int) (r g b : Int) (hl : (l.length : Int) = W * H * partsN m)
    (hf : ∀ j, j < l.length → gn l j = if m = 1 then r else if j % 3 = 0 then r else if j % 3 = 1 then g else b) (i bl k : Nat) (hi : i < (gridW W H m * gridH W H m).toNat) (hb : bl < (unitL m).length) (hk : k < 64) :
    splitF W H m l i (bl * 64 + k) = flatV m r g b ((unitL m)[bl].part) := by
  obtain ⟨pa, x, y, wi, hh, hsp, hok, hpa⟩ := spot_form f i bl hi hb
  have epa : pa = (unitL m)[bl].part := by
    have e4 : (unitL m).getD bl ⟨0, 0, 0, 1, 0, 0, 1, 1⟩ = (unitL m)[bl] := by simp [List.getD, List.getElem?_eq_getElem hb]
    have := congrArg Spot.part hsp
    unfold spotAt at this
    simp only [e4] at this
    exact this.symm
  unfold splitF
  rw [show (bl * 64 + k) / 64 = bl by omega, show (bl * 64 + k) % 64 = k by omega, hsp, ← epa]
  refine sample_flat W H _ _ _ hok _ (fun n => ?_)
  have hok' := hok
  obtain ⟨s1, s2, s3, s4, s5, s6, s7, s8, s9, s10, s11, s12⟩ := hok'
  dsimp only at s1 s2 s3 s4 s5 s6 s7 s8 s9 s10 s11 s12 ⊢
  have m0 : 0 ≤ (k : Int) % 8 * wi := Int.mul_nonneg (by omega) (by omega)
  have m2 : 0 ≤ (k : Int) / 8 * hh := Int.mul_nonneg (by omega) (by omega)
  obtain ⟨⟨x0, x1⟩, ⟨y0, y1⟩, j0, j1⟩ := idxF_in W H ⟨i, bl, pa, partsN m, x, y, wi, hh⟩ (x + (k : Int) % 8 * wi) (y + (k : Int) / 8 * hh) n f.w.1 f.h.1 (by omega) (by omega) hok hpa
  dsimp only at x0 x1 y0 y1 j0 j1
  unfold idxF at j0 j1 ⊢
  dsimp only at j0 j1 ⊢
  revert x0 x1 y0 y1 j0 j1
  generalize min (x + (k : Int) % 8 * wi + (n : Int) % wi) (W - 1) = X
  generalize min (y + (k : Int) / 8 * hh + (n : Int) / wi) (H - 1) = Y
  intro x0 x1 y0 y1 j0 j1
  have a0 : 0 ≤ Y * W := Int.mul_nonneg y0 (by have := f.w; omega)
  obtain ⟨q, hq⟩ : ∃ q : Nat, Y * W + X = q := ⟨(Y * W + X).toNat, by omega⟩
  obtain ⟨p, hp⟩ : ∃ p : Nat, pa = p := ⟨pa.toNat, by omega⟩
  have a1 : Y * W ≤ (H - 1) * W := Int.mul_le_mul_of_nonneg_right y1 (by have := f.w; omega)
  have a2 : (H - 1) * W = W * H - W := by rw [Int.sub_mul, Int.one_mul, Int.mul_comm]
  obtain ⟨Z, hZ⟩ : ∃ Z : Nat, W * H = Z := ⟨(W * H).toNat, by omega⟩
  rw [hq, hp, show (q : Int) * (partsN m : Int) + (p : Int) = ((q * partsN m + p : Nat) : Int) by simp]
  refine partsL_flat m l r g b Z ?_ hf q p (by omega) (by omega)
  have : ((Z * partsN m : Nat) : Int) = Z * (partsN m : Int) := by simp
  rw [hZ] at hl
  omega

end Go.Proofs.YtppbnmlgilgnnaaDoor
