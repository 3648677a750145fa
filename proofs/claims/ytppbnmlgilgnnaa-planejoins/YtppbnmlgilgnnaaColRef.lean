/- The document's Luma and Back of layer 6, and what known, near and part of its laws answer. -/
import Derived.Test.YtppbnmlgilgnnaaCol7
namespace Go.Proofs.Ytppbnmlgilgnnaa
open Go.ChangeShapes Go.WideShapes Go.ChangeAt Go.RowKit

theorem clipF_eq {a b : Int} (h : a = b) : clipF a 0 255 = clipF b 0 255 := by rw [h]

theorem ret3 {a b c a' b' c' : Int} (h1 : a = a') (h2 : b = b') (h3 : c = c') : Ending.returned (.tuple #[.int .i64 a, .int .i64 b, .int .i64 c]) = .returned (.tuple #[.int .i64 a', .int .i64 b', .int .i64 c']) := by rw [h1, h2, h3]

set_option maxHeartbeats 1600000 in
theorem refBack_any (p q r : Int) (w : World) : Calls Try.prog 27 #[.int .i64 p, .int .i64 q, .int .i64 r] w fun e w' => e = .returned (.tuple #[.int .i64 (back1.of p q r), .int .i64 (back2.of p q r), .int .i64 (back3.of p q r)]) ∧ But Nowhere w w' := by
  have b1 := byteOf_any p
  have b2 := byteOf_any q
  have b3 := byteOf_any r
  unfold Rw.of partF
  obtain ⟨P, hP, P0, P1⟩ : ∃ P, clipF p 0 255 = P ∧ 0 ≤ P ∧ P ≤ 255 := ⟨_, rfl, clip_in _⟩
  obtain ⟨Q, hQ, Q0, Q1⟩ : ∃ P, clipF q 0 255 = P ∧ 0 ≤ P ∧ P ≤ 255 := ⟨_, rfl, clip_in _⟩
  obtain ⟨R, hR, R0, R1⟩ : ∃ P, clipF r 0 255 = P ∧ 0 ≤ P ∧ P ≤ 255 := ⟨_, rfl, clip_in _⟩
  rw [hP] at b1
  rw [hQ] at b2
  rw [hR] at b3
  rw [hP, hQ, hR]
  clear hP hQ hR
  go_enter Try.func27, Try.ntmps27
  go_wp2_with fail
  refine (b1 _).mono ?_
  rintro e w1 ⟨rfl, rfl⟩
  go_wp2_with fail
  refine (b2 _).mono ?_
  rintro e w1 ⟨rfl, rfl⟩
  go_wp2_with fail
  refine (b3 _).mono ?_
  rintro e w1 ⟨rfl, rfl⟩
  clear b1 b2 b3
  go_wp2_with (go_at_call 40; refine (byteOf_any _ _).mono ?_; rintro e w' ⟨rfl, rfl⟩)
  go_ret3
  exact ⟨ret3 (clipF_eq (by omega)) (clipF_eq (by omega)) (clipF_eq (by omega)), But.refl _ _⟩

end Go.Proofs.Ytppbnmlgilgnnaa
