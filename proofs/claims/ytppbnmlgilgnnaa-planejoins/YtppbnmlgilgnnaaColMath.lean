/- There and back no part of a colour is further off than two; clipped twice is clipped once; with more of a colour the luma is no less: plain numbers. -/
import Derived.Test.YtppbnmlgilgnnaaColRef
namespace Go.Proofs.Ytppbnmlgilgnnaa
open Go.ChangeShapes Go.WideShapes Go.ChangeAt Go.RowKit

theorem clipF_in {a : Int} (h : 0 ≤ a ∧ a ≤ 255) : clipF a 0 255 = a := by unfold clipF; split; omega; split <;> omega

theorem clipF_near {a b : Int} (hb : 0 ≤ b ∧ b ≤ 255) (h1 : a - b ≤ 2) (h2 : b - a ≤ 2) : clipF a 0 255 - b ≤ 2 ∧ b - clipF a 0 255 ≤ 2 := by unfold clipF; split; omega; split <;> omega

theorem near_back (a b c : Int) (ha : 0 ≤ a ∧ a ≤ 255) (hb : 0 ≤ b ∧ b ≤ 255) (hc : 0 ≤ c ∧ c ≤ 255) : ∃ x y z, luma1.of a b c = x ∧ luma2.of a b c = y ∧ luma3.of a b c = z ∧ (back1.of x y z - a ≤ 2 ∧ a - back1.of x y z ≤ 2) ∧ (back2.of x y z - b ≤ 2 ∧ b - back2.of x y z ≤ 2) ∧ (back3.of x y z - c ≤ 2 ∧ c - back3.of x y z ≤ 2) := by
  refine ⟨_, _, _, rfl, rfl, rfl, ?_⟩
  have e1 : luma1.of a b c = (19595 * a + 38470 * b + 7471 * c + 32768) / 65536 := by
    unfold Rw.of partF; rw [clipF_in ha, clipF_in hb, clipF_in hc, clipF_in (by simp only []; omega)]; simp only []; omega
  have e2 : luma2.of a b c = (-11059 * a - 21709 * b + 32768 * c + 8421375) / 65536 := by
    unfold Rw.of partF; rw [clipF_in ha, clipF_in hb, clipF_in hc, clipF_in (by simp only []; omega)]; simp only []; omega
  have e3 : luma3.of a b c = (32768 * a - 27439 * b - 5329 * c + 8421375) / 65536 := by
    unfold Rw.of partF; rw [clipF_in ha, clipF_in hb, clipF_in hc, clipF_in (by simp only []; omega)]; simp only []; omega
  rw [e1, e2, e3]
  clear e1 e2 e3
  obtain ⟨x, hx⟩ : ∃ x, (19595 * a + 38470 * b + 7471 * c + 32768) / 65536 = x := ⟨_, rfl⟩
  obtain ⟨y, hy⟩ : ∃ x, (-11059 * a - 21709 * b + 32768 * c + 8421375) / 65536 = x := ⟨_, rfl⟩
  obtain ⟨z, hz⟩ : ∃ x, (32768 * a - 27439 * b - 5329 * c + 8421375) / 65536 = x := ⟨_, rfl⟩
  rw [hx, hy, hz]
  have x1 : 65536 * x ≤ 19595 * a + 38470 * b + 7471 * c + 32768 ∧ 19595 * a + 38470 * b + 7471 * c + 32768 < 65536 * x + 65536 := by omega
  have y1 : 65536 * y ≤ -11059 * a - 21709 * b + 32768 * c + 8421375 ∧ -11059 * a - 21709 * b + 32768 * c + 8421375 < 65536 * y + 65536 := by omega
  have z1 : 65536 * z ≤ 32768 * a - 27439 * b - 5329 * c + 8421375 ∧ 32768 * a - 27439 * b - 5329 * c + 8421375 < 65536 * z + 65536 := by omega
  have x0 : 0 ≤ x ∧ x ≤ 255 := by omega
  have y0 : 0 ≤ y ∧ y ≤ 255 := by omega
  have z0 : 0 ≤ z ∧ z ≤ 255 := by omega
  clear hx hy hz
  unfold Rw.of partF
  rw [clipF_in x0, clipF_in y0, clipF_in z0]
  simp only []
  refine ⟨clipF_near ha ?_ ?_, clipF_near hb ?_ ?_, clipF_near hc ?_ ?_⟩
  · omega
  · omega
  · omega
  · omega
  · omega
  · omega

theorem Rw.of_same (x : Rw) {p q r p' q' r' : Int} (hp : clipF p' 0 255 = clipF p 0 255) (hq : clipF q' 0 255 = clipF q 0 255) (hr : clipF r' 0 255 = clipF r 0 255) : x.of p' q' r' = x.of p q r := by unfold Rw.of; rw [hp, hq, hr]

theorem lumaSame (p q r : Int) {p' q' r' : Int} (hp : clipF p' 0 255 = clipF p 0 255) (hq : clipF q' 0 255 = clipF q 0 255) (hr : clipF r' 0 255 = clipF r 0 255) (w : World) : Calls Try.prog 62 #[.int .i64 p', .int .i64 q', .int .i64 r'] w fun e w' => e = .returned (.tuple #[.int .i64 (luma1.of p q r), .int .i64 (luma2.of p q r), .int .i64 (luma3.of p q r)]) ∧ But Nowhere w w' := by
  rw [← Rw.of_same luma1 hp hq hr, ← Rw.of_same luma2 hp hq hr, ← Rw.of_same luma3 hp hq hr]; exact colorLuma_any p' q' r' w

theorem backSame (p q r : Int) {p' q' r' : Int} (hp : clipF p' 0 255 = clipF p 0 255) (hq : clipF q' 0 255 = clipF q 0 255) (hr : clipF r' 0 255 = clipF r 0 255) (w : World) : Calls Try.prog 63 #[.int .i64 p', .int .i64 q', .int .i64 r'] w fun e w' => e = .returned (.tuple #[.int .i64 (back1.of p q r), .int .i64 (back2.of p q r), .int .i64 (back3.of p q r)]) ∧ But Nowhere w w' := by
  rw [← Rw.of_same back1 hp hq hr, ← Rw.of_same back2 hp hq hr, ← Rw.of_same back3 hp hq hr]; exact colorBack_any p' q' r' w

theorem Rw.of_in (x : Rw) (p q r : Int) : 0 ≤ x.of p q r ∧ x.of p q r ≤ 255 := part_in _ _ _ _ _ _ _

theorem clip_self (a : Int) : clipF (clipF a 0 255) 0 255 = clipF a 0 255 := clipF_in (clip_in a)

theorem clip_mono {a b : Int} (h : a ≤ b) : clipF a 0 255 ≤ clipF b 0 255 := by
  unfold clipF
  split <;> split <;> (try split) <;> (try split) <;> omega

/-- With more of any colour the luma is no less. -/
theorem luma_mono {p q r p' q' r' : Int} (hp : p ≤ p') (hq : q ≤ q') (hr : r ≤ r') : luma1.of p q r ≤ luma1.of p' q' r' := by
  have h1 := clip_mono hp
  have h2 := clip_mono hq
  have h3 := clip_mono hr
  unfold Rw.of partF
  exact clip_mono (by simp only []; omega)

end Go.Proofs.Ytppbnmlgilgnnaa
