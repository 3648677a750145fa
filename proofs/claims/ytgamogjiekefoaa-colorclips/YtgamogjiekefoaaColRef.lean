/- The document's Luma and Back of layer 6, and what known, near and part of its laws answer. -/
import Derived.Test.YtgamogjiekefoaaCol7
namespace Go.Proofs.Ytgamogjiekefoaa
open Go.ChangeShapes Go.WideShapes Go.ChangeAt Go.RowKit

theorem clipF_eq {a b : Int} (h : a = b) : clipF a 0 255 = clipF b 0 255 := by rw [h]

theorem ret3 {a b c a' b' c' : Int} (h1 : a = a') (h2 : b = b') (h3 : c = c') : Ending.returned (.tuple #[.int .i64 a, .int .i64 b, .int .i64 c]) = .returned (.tuple #[.int .i64 a', .int .i64 b', .int .i64 c']) := by rw [h1, h2, h3]

set_option maxHeartbeats 1600000 in
theorem refLuma_any (p q r : Int) (w : World) : Calls Try.prog 16 #[.int .i64 p, .int .i64 q, .int .i64 r] w fun e w' => e = .returned (.tuple #[.int .i64 (luma1.of p q r), .int .i64 (luma2.of p q r), .int .i64 (luma3.of p q r)]) ∧ But Nowhere w w' := by
  have b1 := byteOf_any p
  have b2 := byteOf_any q
  have b3 := byteOf_any r
  unfold Rw.of partF
  obtain ⟨P, hP, P0, P1⟩ : ∃ P, clipF p 0 255 = P ∧ 0 ≤ P ∧ P ≤ 255 := ⟨_, rfl, clip_in _⟩
  obtain ⟨Q, hQ, Q0, Q1⟩ : ∃ P, clipF q 0 255 = P ∧ 0 ≤ P ∧ P ≤ 255 := ⟨_, rfl, clip_in _⟩
  obtain ⟨R, hR, R0, R1⟩ : ∃ P, clipF r 0 255 = P ∧ 0 ≤ P ∧ P ≤ 255 := ⟨_, rfl, clip_in _⟩
  rw [hP] at b1
  rw [hQ] at b2
  rw [hR] at b3
  rw [hP, hQ, hR]
  clear hP hQ hR
  go_enter Try.func16, Try.ntmps16
  go_wp2_with fail
  refine (b1 _).mono ?_
  rintro e w1 ⟨rfl, rfl⟩
  go_wp2_with fail
  refine (b2 _).mono ?_
  rintro e w1 ⟨rfl, rfl⟩
  go_wp2_with fail
  refine (b3 _).mono ?_
  rintro e w1 ⟨rfl, rfl⟩
  clear b1 b2 b3
  go_wp2_with (go_at_call 25; refine (byteOf_any _ _).mono ?_; rintro e w' ⟨rfl, rfl⟩)
  go_ret3
  exact ⟨ret3 (clipF_eq (by omega)) (clipF_eq (by omega)) (clipF_eq (by omega)), But.refl _ _⟩

set_option maxHeartbeats 1600000 in
theorem refBack_any (p q r : Int) (w : World) : Calls Try.prog 17 #[.int .i64 p, .int .i64 q, .int .i64 r] w fun e w' => e = .returned (.tuple #[.int .i64 (back1.of p q r), .int .i64 (back2.of p q r), .int .i64 (back3.of p q r)]) ∧ But Nowhere w w' := by
  have b1 := byteOf_any p
  have b2 := byteOf_any q
  have b3 := byteOf_any r
  unfold Rw.of partF
  obtain ⟨P, hP, P0, P1⟩ : ∃ P, clipF p 0 255 = P ∧ 0 ≤ P ∧ P ≤ 255 := ⟨_, rfl, clip_in _⟩
  obtain ⟨Q, hQ, Q0, Q1⟩ : ∃ P, clipF q 0 255 = P ∧ 0 ≤ P ∧ P ≤ 255 := ⟨_, rfl, clip_in _⟩
  obtain ⟨R, hR, R0, R1⟩ : ∃ P, clipF r 0 255 = P ∧ 0 ≤ P ∧ P ≤ 255 := ⟨_, rfl, clip_in _⟩
  rw [hP] at b1
  rw [hQ] at b2
  rw [hR] at b3
  rw [hP, hQ, hR]
  clear hP hQ hR
  go_enter Try.func17, Try.ntmps17
  go_wp2_with fail
  refine (b1 _).mono ?_
  rintro e w1 ⟨rfl, rfl⟩
  go_wp2_with fail
  refine (b2 _).mono ?_
  rintro e w1 ⟨rfl, rfl⟩
  go_wp2_with fail
  refine (b3 _).mono ?_
  rintro e w1 ⟨rfl, rfl⟩
  clear b1 b2 b3
  go_wp2_with (go_at_call 25; refine (byteOf_any _ _).mono ?_; rintro e w' ⟨rfl, rfl⟩)
  go_ret3
  exact ⟨ret3 (clipF_eq (by omega)) (clipF_eq (by omega)) (clipF_eq (by omega)), But.refl _ _⟩

set_option maxHeartbeats 1600000 in
theorem known06_any (w : World) : Calls Try.prog 9 #[] w fun e w' => e = .returned (.bool true) ∧ But Nowhere w w' := by
  have e1 : luma1.of 255 255 255 = 255 := by decide
  have e2 : luma2.of 255 255 255 = 128 := by decide
  have e3 : luma3.of 255 255 255 = 128 := by decide
  have e4 : back1.of 255 128 128 = 255 := by decide
  have e5 : back2.of 255 128 128 = 255 := by decide
  have e6 : back3.of 255 128 128 = 255 := by decide
  have b1 := colorLuma_any 255 255 255
  have b2 := colorBack_any 255 128 128
  rw [e1, e2, e3] at b1
  rw [e4, e5, e6] at b2
  clear e1 e2 e3 e4 e5 e6
  go_enter Try.func9, Try.ntmps9
  go_wp2_with fail
  refine (b1 _).mono ?_
  rintro e w1 ⟨rfl, h1⟩
  go_wp2_with fail
  refine (b2 _).mono ?_
  rintro e w2 ⟨rfl, h2⟩
  clear b1 b2
  go_wp2_with fail
  go_ret
  exact ⟨rfl, h1.trans h2⟩

set_option maxHeartbeats 1600000 in
theorem near_in (a b : Int) (w : World) (ha : 0 ≤ a ∧ a ≤ 255) (hb : 0 ≤ b ∧ b ≤ 255) (h1 : a - b ≤ 2) (h2 : b - a ≤ 2) : Calls Try.prog 14 #[.int .i64 a, .int .i64 b] w fun e w' => e = .returned (.bool true) ∧ w' = w := by
  obtain ⟨a0, a1⟩ := ha
  obtain ⟨b0, b1⟩ := hb
  go_enter Try.func14, Try.ntmps14
  go_wp2
  go_ret
  exact ⟨rfl, rfl⟩

set_option maxHeartbeats 1600000 in
theorem lawPart_in (a : Int) (w : World) (ha : 0 ≤ a ∧ a ≤ 255) : Calls Try.prog 15 #[.int .i64 a] w fun e w' => e = .returned (.bool true) ∧ w' = w := by
  obtain ⟨a0, a1⟩ := ha
  go_enter Try.func15, Try.ntmps15
  go_wp2
  go_ret
  exact ⟨rfl, rfl⟩

set_option maxHeartbeats 1600000 in
theorem pixels_any (p q r : Int) (w : World) : Calls Try.prog 10 #[.int .i64 p, .int .i64 q, .int .i64 r] w fun e w' => e = .returned (.bool true) ∧ But Nowhere w w' := by
  have b1 := colorLuma_any p q r
  have b2 := refLuma_any p q r
  have b3 := colorBack_any p q r
  have b4 := refBack_any p q r
  generalize luma1.of p q r = a1 at *
  generalize luma2.of p q r = a2 at *
  generalize luma3.of p q r = a3 at *
  generalize back1.of p q r = a4 at *
  generalize back2.of p q r = a5 at *
  generalize back3.of p q r = a6 at *
  go_enter Try.func10, Try.ntmps10
  go_wp2_with fail
  refine (b1 _).mono ?_
  rintro e w1 ⟨rfl, h1⟩
  go_wp2_with fail
  refine (b2 _).mono ?_
  rintro e w2 ⟨rfl, h2⟩
  go_wp2_with fail
  refine (b3 _).mono ?_
  rintro e w3 ⟨rfl, h3⟩
  go_wp2_with fail
  refine (b4 _).mono ?_
  rintro e w4 ⟨rfl, h4⟩
  clear b1 b2 b3 b4
  go_wp2_with fail
  go_ret
  exact ⟨rfl, h1.trans (h2.trans (h3.trans h4))⟩

set_option maxHeartbeats 3200000 in
set_option maxRecDepth 100000 in
theorem secrets_any (p q r : Int) (hp : I64 p) (hq : I64 q) (hr : I64 r) (w : World) : Calls Try.prog 11 #[.int .i64 p, .int .i64 q, .int .i64 r] w fun e w' => e = .returned (.bool true) ∧ But Nowhere w w' := by
  have b1 := colorHidden_any p q r hp hq hr
  have b2 := refLuma_any p q r
  have b3 := colorShown_any p q r hp hq hr
  have b4 := refBack_any p q r
  clear hp hq hr
  generalize luma1.of p q r = a1 at *
  generalize luma2.of p q r = a2 at *
  generalize luma3.of p q r = a3 at *
  generalize back1.of p q r = a4 at *
  generalize back2.of p q r = a5 at *
  generalize back3.of p q r = a6 at *
  have kk := Keep.start w
  go_enter Try.func11, Try.ntmps11
  go_wp2_with (go_at_call 19; refine (of_any _ _).mono ?_; rintro e w' ⟨rfl, hb⟩; replace kk := kk.step hb; clear hb)
  refine (b1 _).mono ?_
  rintro e v1 ⟨rfl, hb⟩
  replace kk := (((kk.step hb).made 34 [.int .i64 a1]).made 34 [.int .i64 a2]).made 34 [.int .i64 a3]
  simp only [World.size_alloc] at kk
  clear hb b1
  go_wp2_with fail
  refine (b2 _).mono ?_
  rintro e v2 ⟨rfl, hb⟩
  replace kk := kk.step hb
  clear hb b2
  go_wp2_with (go_at_call 19; refine (of_any _ _).mono ?_; rintro e w' ⟨rfl, hb⟩; replace kk := kk.step hb; clear hb)
  refine (b3 _).mono ?_
  rintro e v3 ⟨rfl, hb⟩
  replace kk := (((kk.step hb).made 34 [.int .i64 a4]).made 34 [.int .i64 a5]).made 34 [.int .i64 a6]
  simp only [World.size_alloc] at kk
  clear hb b3
  go_wp2_with fail
  refine (b4 _).mono ?_
  rintro e v4 ⟨rfl, hb⟩
  replace kk := kk.step hb
  clear hb b4
  have c1 : v4.cell? ⟨v1.heap.size, 0, none⟩ = some (.int .i64 a1) := (kk.get (t := 34) (c := [.int .i64 a1]) (by simp)).at 0
  have c2 : v4.cell? ⟨v1.heap.size + 1, 0, none⟩ = some (.int .i64 a2) := (kk.get (t := 34) (c := [.int .i64 a2]) (by simp)).at 0
  have c3 : v4.cell? ⟨v1.heap.size + 1 + 1, 0, none⟩ = some (.int .i64 a3) := (kk.get (t := 34) (c := [.int .i64 a3]) (by simp)).at 0
  have c4 : v4.cell? ⟨v3.heap.size, 0, none⟩ = some (.int .i64 a4) := (kk.get (t := 34) (c := [.int .i64 a4]) (by simp)).at 0
  have c5 : v4.cell? ⟨v3.heap.size + 1, 0, none⟩ = some (.int .i64 a5) := (kk.get (t := 34) (c := [.int .i64 a5]) (by simp)).at 0
  have c6 : v4.cell? ⟨v3.heap.size + 1 + 1, 0, none⟩ = some (.int .i64 a6) := (kk.get (t := 34) (c := [.int .i64 a6]) (by simp)).at 0
  have g0 := kk.but
  clear kk
  go_wp2_with (go_at_call 21; refine (tell_none _ _).mono ?_; rintro e w' ⟨rfl, hb⟩; replace c1 := hb.keeps (not_nowhere _) c1; replace c2 := hb.keeps (not_nowhere _) c2; replace c3 := hb.keeps (not_nowhere _) c3; replace c4 := hb.keeps (not_nowhere _) c4; replace c5 := hb.keeps (not_nowhere _) c5; replace c6 := hb.keeps (not_nowhere _) c6; replace g0 := g0.trans hb; clear hb)
  go_ret
  exact ⟨rfl, g0⟩

end Go.Proofs.Ytgamogjiekefoaa
