import Derived.Test.YtppbnmlgilgnnaaPl5
import Derived.Test.YtppbnmlgilgnnaaPl9
import Derived.Test.YtppbnmlgilgnnaaPl18
import Derived.Test.YtppbnmlgilgnnaaPl15
import Derived.Test.YtppbnmlgilgnnaaBa
import Derived.Test.YtppbnmlgilgnnaaPl20
import Derived.Test.YtppbnmlgilgnnaaPl39

/- A part's sides, and where its blocks stand. -/
namespace Go.Proofs.Ytppbnmlgilgnnaa
open Go.ChangeShapes Go.WideShapes Go.ChangeAt Go.RowKit

/-- A part's sides, and where its blocks stand. -/
structure PartAt (m : Int) (p A B C D : Nat) : Prop where
  a : A = 1 ∨ A = 2
  b : B = 1 ∨ B = 2
  c : C = 1 ∨ C = 2
  d : D = 1 ∨ D = 2
  ca : (nums (sidesC m))[p * 2]? = some (.int .i64 (A : Int))
  cb : (nums (sidesC m))[p * 2 + 1]? = some (.int .i64 (B : Int))
  c0 : (nums (sidesC m))[0]? = some (.int .i64 ((A * C : Nat) : Int))
  c1 : (nums (sidesC m))[1]? = some (.int .i64 ((B * D : Nat) : Int))
  sw : sideW m = ((8 * (A * C) : Nat) : Int)
  sh : sideH m = ((8 * (B * D) : Nat) : Int)
  n : A * B = cntP m (p + 1) - cntP m p
  le : cntP m p ≤ cntP m (p + 1)
  ul : cntP m (p + 1) ≤ (unitL m).length
  u : ∀ n : Nat, n < cntP m (p + 1) - cntP m p → (unitL m)[cntP m p + n]? = some ⟨0, cntP m p + n, p, partsN m, (n : Int) % (A : Int) * 8 * C, (n : Int) / (A : Int) * 8 * D, C, D⟩

theorem part_at (m : Int) (hm : 1 ≤ m ∧ m ≤ 4) (p : Nat) (hp : p < partsN m) : ∃ A B C D, PartAt m p A B C D := by
  rcases mode_cases hm with rfl | rfl | rfl | rfl
  · have : p = 0 := by simp [partsN] at hp; omega
    subst this
    refine ⟨1, 1, 1, 1, by omega, by omega, by omega, by omega, rfl, rfl, rfl, rfl, rfl, rfl, rfl, by decide, by decide, fun n hn => ?_⟩
    have : n = 0 := by simp [cntP] at hn; omega
    subst this; rfl
  · have : p = 0 ∨ p = 1 ∨ p = 2 := by simp [partsN] at hp; omega
    rcases this with rfl | rfl | rfl <;>
    · refine ⟨1, 1, 1, 1, by omega, by omega, by omega, by omega, rfl, rfl, rfl, rfl, rfl, rfl, rfl, by decide, by decide, fun n hn => ?_⟩
      have : n = 0 := by simp [cntP] at hn; omega
      subst this; rfl
  · have : p = 0 ∨ p = 1 ∨ p = 2 := by simp [partsN] at hp; omega
    rcases this with rfl | h
    · refine ⟨2, 1, 1, 1, by omega, by omega, by omega, by omega, rfl, rfl, rfl, rfl, rfl, rfl, rfl, by decide, by decide, fun n hn => ?_⟩
      have : n = 0 ∨ n = 1 := by simp [cntP] at hn; omega
      rcases this with rfl | rfl <;> rfl
    · rcases h with rfl | rfl <;>
      · refine ⟨1, 1, 2, 1, by omega, by omega, by omega, by omega, rfl, rfl, rfl, rfl, rfl, rfl, rfl, by decide, by decide, fun n hn => ?_⟩
        have : n = 0 := by simp [cntP] at hn; omega
        subst this; rfl
  · have : p = 0 ∨ p = 1 ∨ p = 2 := by simp [partsN] at hp; omega
    rcases this with rfl | h
    · refine ⟨2, 2, 1, 1, by omega, by omega, by omega, by omega, rfl, rfl, rfl, rfl, rfl, rfl, rfl, by decide, by decide, fun n hn => ?_⟩
      have : n = 0 ∨ n = 1 ∨ n = 2 ∨ n = 3 := by simp [cntP] at hn; omega
      rcases this with rfl | rfl | rfl | rfl <;> rfl
    · rcases h with rfl | rfl <;>
      · refine ⟨1, 1, 2, 2, by omega, by omega, by omega, by omega, rfl, rfl, rfl, rfl, rfl, rfl, rfl, by decide, by decide, fun n hn => ?_⟩
        have : n = 0 := by simp [cntP] at hn; omega
        subst this; rfl

theorem grid_cell {W H m : Int} (f : Fit W H m) (i : Nat) (hi : i < (gridW W H m * gridH W H m).toNat) : (0 ≤ (i : Int) % gridW W H m ∧ (i : Int) % gridW W H m * sideW m < W) ∧ (0 ≤ (i : Int) / gridW W H m ∧ (i : Int) / gridW W H m * sideH m < H) := by
  obtain ⟨g1, g2, g3, g4, g5, g6⟩ := f.grid
  have s := side_fit f.m
  have a := ceil_in W (sideW m) f.w.1 f.w.2 s.1 s.2.1
  have b := ceil_in H (sideH m) f.h.1 f.h.2 s.2.2.1 s.2.2.2
  rw [← g1] at a
  rw [← g2] at b
  obtain ⟨-, -, -, -, a5⟩ := a
  obtain ⟨-, -, -, -, b5⟩ := b
  generalize gridW W H m = A at *
  generalize gridH W H m = B at *
  have hi2 : (i : Int) < A * B := by omega
  have x0 := Int.emod_nonneg (i : Int) (show A ≠ 0 by omega)
  have x1 := Int.emod_lt_of_pos (i : Int) (show 0 < A by omega)
  have y0 := Int.ediv_nonneg (show 0 ≤ (i : Int) by omega) (show 0 ≤ A by omega)
  have y1 : (i : Int) / A < B := Int.ediv_lt_of_lt_mul (by omega) (by rw [Int.mul_comm]; exact hi2)
  have mx : (i : Int) % A * sideW m ≤ (A - 1) * sideW m := Int.mul_le_mul_of_nonneg_right (by omega) (by omega)
  have my : (i : Int) / A * sideH m ≤ (B - 1) * sideH m := Int.mul_le_mul_of_nonneg_right (by omega) (by omega)
  exact ⟨⟨x0, by omega⟩, ⟨y0, by omega⟩⟩

end Go.Proofs.Ytppbnmlgilgnnaa

/- wordsOf and isWhole of lists wherever they lie. -/
namespace Go.Proofs.Ytppbnmlgilgnnaa
open Go.ChangeShapes Go.WideShapes Go.ChangeAt Go.RowKit

set_option maxHeartbeats 6400000 in
set_option maxRecDepth 100000 in
theorem wordsBB (g o c M : Nat) (F : Nat → Int) (w : World) (hc : ∀ j, j < M * 64 → w.cell? ⟨g, o + j, none⟩ = some (.int .i64 (F j))) (hM : M ≤ 100) : Calls Try.prog 66 #[.slice (some ⟨g, o, none⟩) M c, .func (.func 67) #[] #[]] w fun e w' =>
    e = .returned (.slice (some ⟨w.heap.size, 0, none⟩) M M) ∧ Cells w' w.heap.size 52 (tab .i64 (M * 64) F) ∧ But Nowhere w w' := by
  have hm := fun W => make_any Try.elemWords M (.int .i64 0) (zcell64) (by omega) (by omega) W
  rw [tab_zero] at hm
  have huA := Try.underlying53
  have H0 : Hid (Cells (w.alloc (.cells (tab .i64 (M * 64) (fun _ => 0)).toArray 52)) w.heap.size 52 (tab .i64 (M * 64) (fun _ => 0)) ∧ But Nowhere w (w.alloc (.cells (tab .i64 (M * 64) (fun _ => 0)).toArray 52))) := ⟨Cells.new _ _ _, (But.refl _ _).alloc _⟩
  go_enter Try.func66, Try.ntmps66
  go_wp2_with fail
  clear hm
  go_loopw [13] (fun i W => ∃ k : Nat, k ≤ M ∧ i = .int .i64 k ∧ Cells W w.heap.size 52 (tab .i64 (M * 64) (fun j => if j < k * 64 then F j else 0)) ∧ But Nowhere w W) (fun i _ => M - (intOf i).toNat)
  case atStart => exact ⟨0, Nat.zero_le _, rfl, by simpa using H0.out.1, H0.out.2⟩
  case round =>
    clear H0
    obtain ⟨k, hk, rfl, ho, hb⟩ := hrel
    by_cases hlt : k < M
    · have i0 : (0 : Int) ≤ (k : Int) := by omega
      have i1 : (k : Int) < (M : Int) := by omega
      have hk64 : k * 64 + 64 ≤ M * 64 := by omega
      obtain ⟨f, hf⟩ : ∃ f, f = fun j => F (k * 64 + j) := ⟨_, rfl⟩
      have hr : wr.rangeAt g (o + k * 64) (tab .i64 64 f) := by rw [hf]; exact range_off (fun j hj => hb.keeps (not_nowhere _) (hc j hj)) k hlt
      have hiA : (Try.prog.info? 53).map (·.size) = some (tab .i64 64 f).length := by rw [tab_length]; kernel_rfl
      have hiA' : (Try.prog.info? 53).map (·.size) = some (tab .i64 64 f).toArray.size := by rw [List.size_toArray, tab_length]; kernel_rfl
      have hiB : (Try.prog.info? 52).map (·.size) = some (tab .i64 64 f).toArray.size := by rw [List.size_toArray, tab_length]; kernel_rfl
      have HFf : Hid (f = fun j => F (k * 64 + j)) := hf
      clear hf
      have C1 := Cells.new wr 53 (List.replicate 64 (Value.int .i64 0))
      have HA : Hid ((wr.alloc (.cells (List.replicate 64 (Value.int .i64 0)).toArray 53)).there wr.heap.size 0 (tab .i64 64 f).toArray.size) := C1.there 0 _ (by rw [List.size_toArray, tab_length]; simp)
      have C2 : Cells ((wr.alloc (.cells (List.replicate 64 (Value.int .i64 0)).toArray 53)).setCells wr.heap.size 0 (tab .i64 64 f)) wr.heap.size 53 (tab .i64 64 f) := by rw [zeros64] at C1 ⊢; exact C1.layAll f
      have B2 : But Nowhere wr ((wr.alloc (.cells (List.replicate 64 (Value.int .i64 0)).toArray 53)).setCells wr.heap.size 0 (tab .i64 64 f)) := But.setCells _ ((But.refl _ _).alloc _) (fun q => by omega) 0
      have HB0 : ((wr.alloc (.cells (List.replicate 64 (Value.int .i64 0)).toArray 53)).setCells wr.heap.size 0 (tab .i64 64 f)).rangeAt wr.heap.size 0 (tab .i64 64 f) := by have := C2.range 0 64 (by omega); simpa using this
      have HB : Hid _ := HB0
      clear C1 C2 HB0
      go_wp2_with (first | (refine wpList_load_mid rfl 53 (.tmp 16) rfl g (o + k * 64) rfl (tab .i64 64 f) _ ?_ huA rfl hiA ?_; exact hr) | (refine wpList_store_mid rfl 53 (.tmp 7) (.tmp 17) rfl wr.heap.size 0 (tab .i64 64 f).toArray rfl rfl ?_ hiA' (tab_all _ _ _) ?_; exact HA.out) | (refine wpList_load_mid rfl 53 (.tmp 7) rfl wr.heap.size 0 rfl (tab .i64 64 f) _ ?_ huA rfl hiA ?_; exact HB.out))
      refine (wordsOf1_any f _).mono ?_
      rintro e w2 ⟨rfl, b2⟩
      replace b2 := B2.trans b2
      have ho2 := ho.but b2 (not_nowhere _)
      have hth := ho2.there (k * 64) (tab .i64 64 f).toArray.size (by rw [List.size_toArray, tab_length, tab_length]; omega)
      have H3 : Hid (Cells (w2.setCells w.heap.size (k * 64) (tab .i64 64 f)) w.heap.size 52 (tab .i64 (M * 64) (fun j => if j < (k + 1) * 64 then F j else 0)) ∧ But Nowhere w (w2.setCells w.heap.size (k * 64) (tab .i64 64 f))) := by
        refine ⟨?_, But.setCells _ (hb.trans b2) (fun q => by omega) _⟩
        have h5 := ho2.lay 64 (k * 64) f
        have e : tab .i64 (M * 64) (fun j => if k * 64 ≤ j ∧ j < k * 64 + 64 then f (j - k * 64) else if j < k * 64 then F j else 0) = tab .i64 (M * 64) (fun j => if j < (k + 1) * 64 then F j else 0) := by
          refine tab_congr _ _ _ _ (fun j _ => ?_)
          by_cases e1 : k * 64 ≤ j ∧ j < k * 64 + 64
          · rw [if_pos e1, if_pos (by omega), HFf.out]; show F (k * 64 + (j - k * 64)) = F j; rw [show k * 64 + (j - k * 64) = j by omega]
          · rw [if_neg e1]
            by_cases e2 : j < k * 64
            · rw [if_pos e2, if_pos (by omega)]
            · rw [if_neg e2, if_neg (by omega)]
        rw [e] at h5
        exact h5
      clear HA HB B2 b2 ho ho2 hr
      go_wp2_with (refine wpList_store_mid rfl 52 (.tmp 23) (.tmp 22) rfl w.heap.size (k * 64) (tab .i64 64 f).toArray rfl rfl ?_ hiB (tab_all _ _ _) ?_; exact hth)
      go_roundw
      case rel => exact ⟨k + 1, by omega, by go_num, H3.out.1, H3.out.2⟩
      case measure => simp [intOf]; omega
    · obtain rfl : k = M := by omega
      go_wp2_with fail
      go_ret
      rw [tab_full] at ho
      exact ⟨rfl, ho, hb⟩

set_option maxHeartbeats 1600000 in
theorem wordsBL (g o c M : Nat) (F : Nat → Int) (w : World) (hc : ∀ j, j < M * 64 → w.cell? ⟨g, o + j, none⟩ = some (.int .i64 (F j))) (hM : M ≤ 100) : Calls Try.prog 65 #[.slice (some ⟨g, o, none⟩) M c] w fun e w' =>
    e = .returned (.slice (some ⟨w.heap.size, 0, none⟩) M M) ∧ Cells w' w.heap.size 52 (tab .i64 (M * 64) F) ∧ But Nowhere w w' := by
  go_enter Try.func65, Try.ntmps65
  go_wp2_with fail
  refine (wordsBB g o c M F w hc hM).mono ?_
  rintro e w1 ⟨rfl, h1, b1⟩
  have H : Hid _ := And.intro h1 b1
  clear h1 b1
  go_wp2_with fail
  go_ret
  exact ⟨rfl, H.out⟩

set_option maxHeartbeats 6400000 in
set_option maxRecDepth 100000 in
theorem wordsBM (v : Value) (N M : Nat) (F : Nat → Nat → Int) (w : World) (h : BA w v N (fun _ => M) F) (hN : N ≤ 2000000) (hM : M ≤ 100) (hM0 : 0 < M) : Calls Try.prog 64 #[v, .func (.func 65) #[] #[]] w fun e w' =>
    (∃ v' G', e = .returned v' ∧ Blks w' v' 105 52 N M w.heap.size G' F ∧ ∀ i, i < N → w.heap.size < G' i) ∧ But Nowhere w w' := by
  have hm := fun W => make_any Try.elemWordss N (.slice none 0 0) (by intro j hj; have : j = 0 := (by omega); subst this; rfl) (by omega) (by omega) W
  rw [Nat.mul_one] at hm
  obtain ⟨ao, vcap, rfl, h0⟩ := h
  have H0 : Hid (Cells (w.alloc (.cells (List.replicate N (.slice none 0 0)).toArray 105)) w.heap.size 105 (List.replicate N (.slice none 0 0)) ∧ But Nowhere w (w.alloc (.cells (List.replicate N (.slice none 0 0)).toArray 105))) := ⟨Cells.new _ _ _, (But.refl _ _).alloc _⟩
  go_enter Try.func64, Try.ntmps64
  go_wp2_with fail
  clear hm
  go_loopw [13] (fun i W => ∃ (k : Nat) (G' : Nat → Nat), k ≤ N ∧ i = .int .i64 k ∧ Cells W w.heap.size 105 ((List.range N).map fun i => if i < k then .slice (some ⟨G' i, 0, none⟩) M M else .slice none 0 0) ∧ (∀ i, i < k → w.heap.size < G' i ∧ Cells W (G' i) 52 (tab .i64 (M * 64) (F i))) ∧ But Nowhere w W) (fun i _ => N - (intOf i).toNat)
  case atStart => exact ⟨0, fun _ => 0, Nat.zero_le _, rfl, by have := H0.out.1; simpa [List.map_const'] using this, fun i hi => by omega, H0.out.2⟩
  case round =>
    clear H0
    obtain ⟨k, G', hk, rfl, ho, hi, hb⟩ := hrel
    by_cases hlt : k < N
    · have i0 : (0 : Int) ≤ (k : Int) := by omega
      have i1 : (k : Int) < (N : Int) := by omega
      obtain ⟨go, off, rfl, hrow⟩ := h0 (by omega)
      obtain ⟨u, hu1, ro, cm, rfl, hu2⟩ := hrow k hlt
      obtain ⟨gm, om, rfl, hu3⟩ := hu2 hM0
      have hs := hb.keeps (not_nowhere _) hu1
      have hin := fun j hj => hb.keeps (not_nowhere _) (hu3 j hj)
      clear hu1 hu2 hu3 hrow
      go_wp2_with fail
      refine (wordsBL gm om cm M (F k) _ hin hM).mono ?_
      rintro e w2 ⟨rfl, h2, b2⟩
      have ho2 := ho.but b2 (not_nowhere _)
      have hz := ho.lt
      have c0 : w2.cell? ⟨w.heap.size, k, none⟩ = some (.slice none 0 0) := by rw [ho2.at k]; simp [hlt]
      have f0 := ho2.frozen k
      have H3 : Hid (Cells (w2.setCell ⟨w.heap.size, k, none⟩ (.slice (some ⟨wr.heap.size, 0, none⟩) M M)) w.heap.size 105 ((List.range N).map fun i => if i < k + 1 then .slice (some ⟨if i = k then wr.heap.size else G' i, 0, none⟩) M M else .slice none 0 0) ∧
          (∀ i, i < k + 1 → w.heap.size < (if i = k then wr.heap.size else G' i) ∧ Cells (w2.setCell ⟨w.heap.size, k, none⟩ (.slice (some ⟨wr.heap.size, 0, none⟩) M M)) (if i = k then wr.heap.size else G' i) 52 (tab .i64 (M * 64) (F i))) ∧ But Nowhere w (w2.setCell ⟨w.heap.size, k, none⟩ (.slice (some ⟨wr.heap.size, 0, none⟩) M M))) := by
        refine ⟨?_, fun i hi' => ?_, (hb.trans b2).setCell (fun q => by exfalso; simp at q) _⟩
        · have h3 := ho2.set k (.slice (some ⟨wr.heap.size, 0, none⟩) M M)
          have e : ((List.range N).map fun i => if i < k then Value.slice (some ⟨G' i, 0, none⟩) M M else .slice none 0 0).set k (.slice (some ⟨wr.heap.size, 0, none⟩) M M) = (List.range N).map fun i => if i < k + 1 then .slice (some ⟨if i = k then wr.heap.size else G' i, 0, none⟩) M M else .slice none 0 0 := by
            apply List.ext_getElem?
            intro i
            by_cases hiN : i < N
            · rw [List.getElem?_set]
              by_cases e1 : k = i
              · subst e1; simp [hiN]
              · rw [if_neg e1]
                simp only [List.getElem?_map, List.getElem?_range hiN, Option.map_some, Option.some.injEq]
                by_cases e2 : i < k
                · rw [if_pos e2, if_pos (by omega), if_neg (by omega)]
                · rw [if_neg e2, if_neg (by omega)]
            · rw [List.getElem?_eq_none (by simp; omega), List.getElem?_eq_none (by simp; omega)]
          rw [e] at h3
          exact h3
        · by_cases e1 : i = k
          · rw [if_pos e1, e1]
            exact ⟨hz, h2.far (by omega) k _⟩
          · rw [if_neg e1]
            have h4 := hi i (by omega)
            exact ⟨h4.1, (h4.2.but b2 (not_nowhere _)).far (by omega) k _⟩
      clear ho ho2 h2 hin hs hi h0
      go_wp2_with fail
      go_roundw
      case rel => exact ⟨k + 1, _, by omega, by go_num, H3.out.1, H3.out.2.1, H3.out.2.2⟩
      case measure => simp [intOf]; omega
    · obtain rfl : k = N := by omega
      go_wp2_with fail
      go_ret
      refine ⟨⟨_, G', rfl, ⟨rfl, ?_, fun i hi' => (hi i hi').2⟩, fun i hi' => (hi i hi').1⟩, hb⟩
      have e : ((List.range k).map fun i => if i < k then Value.slice (some ⟨G' i, 0, none⟩) M M else .slice none 0 0) = (List.range k).map fun i => .slice (some ⟨G' i, 0, none⟩) M M := by
        apply List.map_congr_left
        intro i hi'
        rw [if_pos (by simpa using hi')]
      rw [e] at ho
      exact ho

set_option maxHeartbeats 1600000 in
theorem wordsBA (v : Value) (N M : Nat) (F : Nat → Nat → Int) (w : World) (h : BA w v N (fun _ => M) F) (hN : N ≤ 2000000) (hM : M ≤ 100) (hM0 : 0 < M) : Calls Try.prog 36 #[v] w fun e w' =>
    (∃ v' G', e = .returned v' ∧ Blks w' v' 105 52 N M w.heap.size G' F ∧ ∀ i, i < N → w.heap.size < G' i) ∧ But Nowhere w w' := by
  have HH : Hid (BA w v N (fun _ => M) F) := h
  obtain ⟨ao, vcap, rfl, -⟩ := h
  go_enter Try.func36, Try.ntmps36
  go_wp2_with fail
  refine (wordsBM _ N M F w HH.out hN hM hM0).mono ?_
  rintro e w1 ⟨⟨v', G', rfl, h1, h2⟩, b1⟩
  have hv := h1.val
  have H : Hid _ := And.intro h1 (And.intro h2 b1)
  clear h1 h2 b1
  subst hv
  go_wp2_with fail
  go_ret
  exact ⟨⟨_, G', rfl, H.out.1, H.out.2.1⟩, H.out.2.2⟩

set_option maxHeartbeats 1600000 in
theorem unit_len (m : Int) (w : World) : Calls Try.prog 41 #[.int .i64 m] w fun e w' => (∃ a n c, e = .returned (.slice a n c)) ∧ But Nowhere w w' := by
  by_cases hm : 1 ≤ m ∧ m ≤ 4
  · refine (unit_any m hm w).mono ?_
    rintro e w' ⟨v, rfl, L⟩
    obtain ⟨a, c, rfl⟩ := L.slice
    exact ⟨⟨_, _, _, rfl⟩, L.but⟩
  · have hm' : m < 1 ∨ 4 < m := by omega
    clear hm
    go_enter Try.func41, Try.ntmps41
    go_wp2_with fail
    refine (sides_none m hm' w).mono ?_
    rintro e w1 ⟨rfl, rfl⟩
    go_wp2_with fail
    go_loopw [3, 15] (fun l i W => l = .slice none 0 0 ∧ i = .int .i64 0 ∧ W = w1) (fun _ _ _ => 0)
    case atStart => exact ⟨rfl, rfl, rfl⟩
    case round =>
      obtain ⟨rfl, rfl, rfl⟩ := hrel
      go_wp2_with fail
      go_ret
      exact ⟨⟨_, _, _, rfl⟩, But.refl _ _⟩

theorem not_fit {W H m : Int} (hn : ¬ Fit W H m) : gridW W H m = 0 ∨ ((1 ≤ W ∧ W ≤ 65535) ∧ (1 ≤ H ∧ H ≤ 65535) ∧ gridW W H m ≠ 0 ∧ 1048576 < W * H) := by
  by_cases g : gridW W H m = 0
  · exact Or.inl g
  · right
    unfold gridW at g
    split at g
    · rename_i hs
      simp only [Bool.and_eq_true] at hs
      have hW := isSide_in hs.1
      have hH := isSide_in hs.2
      have hm : 1 ≤ m ∧ m ≤ 4 := by
        unfold sideW at g
        (repeat' split at g) <;> first | omega | (exfalso; apply g; unfold ceilF; rw [if_pos (by omega)])
      refine ⟨hW, hH, ?_, ?_⟩
      · unfold gridW
        rw [if_pos (by simp [hs.1, hs.2])]
        exact g
      · rcases Int.lt_or_le 1048576 (W * H) with h | h
        · exact h
        · exact absurd ⟨hm, hW, hH, h⟩ hn
    · exact absurd rfl g

set_option maxHeartbeats 1600000 in
set_option maxRecDepth 100000 in
theorem size_not (W H m q i c : Int) (hn : ¬ Fit W H m) (w : World) : Calls Try.prog 42 #[pV W H m q i c] w fun e w' => e = .returned (.int .i64 0) ∧ But Nowhere w w' := by
  have kk := (Keep.start w).made 23 (pC W H m q i c)
  obtain ⟨b, hb⟩ : ∃ b, gridH W H m = b := ⟨_, rfl⟩
  rcases not_fit hn with g | ⟨hW, hH, g, hS⟩
  · have HG : Hid (gridW W H m = 0 ∧ gridH W H m = b) := ⟨g, hb⟩
    clear g hb hn
    go_enter Try.func42, Try.ntmps42
    go_wp2_with fail
    refine (grid_any _ _ _ _ _ _ _).mono ?_
    rintro e w1 ⟨rfl, b1⟩
    rw [HG.out.1, HG.out.2]
    replace kk := kk.step b1
    clear b1
    go_wp2_with fail
    go_quiet (fail)
    go_wp2_with fail
    go_ret
    exact ⟨rfl, kk.but.drewN _⟩
  · obtain ⟨a, ha⟩ : ∃ a, gridW W H m = a := ⟨_, rfl⟩
    rw [ha] at g
    have HG : Hid (gridW W H m = a ∧ gridH W H m = b) := ⟨ha, hb⟩
    have d0 : ¬ W ≤ 1048576 / H := by rw [Int.le_ediv_iff_mul_le (by omega)]; omega
    have d1 : (1048576 : Int).tdiv H = 1048576 / H := Int.tdiv_eq_ediv_of_nonneg (by omega)
    have d2 : 1048576 / H ≤ 1048576 := Int.ediv_le_self _ (by omega)
    have d2' : 0 ≤ 1048576 / H := Int.ediv_nonneg (by omega) (by omega)
    have d3 : IntKind.i64.wrap (1048576 / H) = 1048576 / H := by rw [wrap_i64_eq]; exact w64 _ (by omega)
    have d4 : ¬ H = 0 := by omega
    have e3 : (a == 0) = false := by simpa using g
    have e4 : decide (1048576 / H < W) = true := by simp; omega
    clear ha hb hn hS d0 d2 d2'
    go_enter Try.func42, Try.ntmps42
    go_wp2_with fail
    refine (grid_any _ _ _ _ _ _ _).mono ?_
    rintro e w1 ⟨rfl, b1⟩
    rw [HG.out.1, HG.out.2]
    replace kk := kk.step b1
    clear b1
    have c0 := kk.head.at 0
    have c1 := kk.head.at 1
    simp only [List.getElem?_cons_zero, List.getElem?_cons_succ] at c0 c1
    go_wp2_with fail
    go_quiet (fail)
    go_wp2_with fail
    go_ret
    exact ⟨rfl, kk.but.drewN _⟩

set_option maxHeartbeats 1600000 in
set_option maxRecDepth 100000 in
theorem indexFuncB (v : Value) (N M : Nat) (L : Nat → Nat) (F : Nat → Nat → Int) (b : Nat) (w : World) (h : BA w v N L F) (hb : w.cell? ⟨b, 0, none⟩ = some (.int .i64 M)) (hN : N ≤ 100000000) : Calls Try.prog 82 #[v, .func (.func 56) #[] #[.pointer (some ⟨b, 0, none⟩)]] w fun e w' => (∃ r : Int, e = .returned (.int .i64 r) ∧ ((r = -1 ∧ ∀ i, i < N → L i = M) ∨ (0 ≤ r ∧ ∃ i, i < N ∧ L i ≠ M))) ∧ w' = w := by
  obtain ⟨ao, vcap, rfl, h0⟩ := h
  go_enter Try.func82, Try.ntmps82
  go_wp2_with fail
  go_loopw [8] (fun i V => ∃ k : Nat, k ≤ N ∧ i = .int .i64 k ∧ V = w ∧ ∀ i, i < k → L i = M) (fun i _ => N - (intOf i).toNat)
  case atStart => exact ⟨0, Nat.zero_le _, rfl, rfl, fun i hi => absurd hi (by omega)⟩
  case round =>
    obtain ⟨k, hk, rfl, rfl, hall⟩ := hrel
    by_cases hlt : k < N
    · have i0 : (0 : Int) ≤ (k : Int) := by omega
      have i1 : (k : Int) < (N : Int) := by omega
      obtain ⟨go, off, rfl, hrow⟩ := h0 (by omega)
      obtain ⟨u, hu1, ro, cm, rfl, hu2⟩ := hrow k hlt
      obtain ⟨lk, hlk⟩ : ∃ n, L k = n := ⟨_, rfl⟩
      rw [hlk] at hu1
      have HLK : Hid (L k = lk) := hlk
      have HALL : Hid (∀ i, i < k → L i = M) := hall
      clear hu2 hrow h0 hlk hall
      go_wp2_with fail
      refine (whole1_any _ lk cm M b _ hb).mono ?_
      rintro e w1 ⟨rfl, rfl⟩
      by_cases e1 : lk = M
      · rw [show ((lk : Int) != (M : Int)) = false by simp [e1]]
        go_wp2_with fail
        go_roundw
        case rel => exact ⟨k + 1, by omega, by go_num, by trivial, fun i hi => by
          by_cases e2 : i = k
          · rw [e2, HLK.out, e1]
          · exact HALL.out i (by omega)⟩
        case measure => simp [intOf]; omega
      · rw [show ((lk : Int) != (M : Int)) = true by simp; omega]
        go_wp2_with fail
        go_ret
        exact ⟨⟨_, rfl, Or.inr ⟨by omega, k, hlt, by rw [HLK.out]; exact e1⟩⟩, rfl⟩
    · obtain rfl : k = N := by omega
      have HALL : Hid (∀ i, i < k → L i = M) := hall
      clear hall
      go_wp2_with fail
      go_ret
      exact ⟨⟨_, rfl, Or.inl ⟨rfl, HALL.out⟩⟩, rfl⟩

set_option maxHeartbeats 400000 in
theorem containsFuncB (v : Value) (N M : Nat) (L : Nat → Nat) (F : Nat → Nat → Int) (b : Nat) (w : World) (h : BA w v N L F) (hb : w.cell? ⟨b, 0, none⟩ = some (.int .i64 M)) (hN : N ≤ 100000000) : Calls Try.prog 55 #[v, .func (.func 56) #[] #[.pointer (some ⟨b, 0, none⟩)]] w fun e w' => (∃ r : Bool, e = .returned (.bool r) ∧ ((r = false ∧ ∀ i, i < N → L i = M) ∨ (r = true ∧ ∃ i, i < N ∧ L i ≠ M))) ∧ w' = w := by
  have HH : Hid (BA w v N L F) := h
  obtain ⟨ao, vcap, rfl, -⟩ := h
  go_enter Try.func55, Try.ntmps55
  go_wp2_with fail
  refine (indexFuncB _ N M L F b w HH.out hb hN).mono ?_
  rintro e w1 ⟨⟨r, rfl, hr⟩, rfl⟩
  rcases hr with ⟨rfl, h1⟩ | ⟨h0, h1⟩
  · have HX : Hid _ := h1
    clear h1
    go_wp2_with fail
    go_ret
    exact ⟨⟨_, rfl, Or.inl ⟨rfl, HX.out⟩⟩, rfl⟩
  · have HX : Hid _ := h1
    have d : decide (0 ≤ r) = true := by simpa using h0
    clear h1
    go_wp2_with fail
    go_ret
    exact ⟨⟨_, rfl, Or.inr ⟨rfl, HX.out⟩⟩, rfl⟩

set_option maxHeartbeats 3200000 in
set_option maxRecDepth 100000 in
theorem isWholeB (W H m q i c : Int) (f : Fit W H m) (v : Value) (L : Nat → Nat) (F : Nat → Nat → Int) (w : World) (h : BA w v (gridW W H m * gridH W H m).toNat L F) : Calls Try.prog 33 #[pV W H m q i c, v] w fun e w' => (∃ r : Bool, e = .returned (.bool r) ∧ ((r = true ∧ ∀ i, i < (gridW W H m * gridH W H m).toNat → L i = (unitL m).length) ∨ (r = false ∧ ∃ i, i < (gridW W H m * gridH W H m).toNat ∧ L i ≠ (unitL m).length))) ∧ But Nowhere w w' := by
  obtain ⟨-, -, g3, g4, g5, g6⟩ := f.grid
  have kk := (Keep.start w).made 23 (pC W H m q i c)
  obtain ⟨a, ha⟩ : ∃ a, gridW W H m = a := ⟨_, rfl⟩
  obtain ⟨b, hb⟩ : ∃ b, gridH W H m = b := ⟨_, rfl⟩
  rw [ha, hb] at h ⊢
  rw [ha] at g3 g4
  rw [hb] at g5 g6
  obtain ⟨N, hN⟩ : ∃ N : Nat, (a * b).toNat = N := ⟨_, rfl⟩
  obtain ⟨N0, N1⟩ : 0 ≤ a * b ∧ a * b ≤ 8192 * 8192 := ⟨Int.mul_nonneg (by omega) (by omega), Int.mul_le_mul g4 g6 (by omega) (by omega)⟩
  have hNi : a * b = (N : Int) := by omega
  rw [hN] at h ⊢
  have hN2 : N ≤ 100000000 := by omega
  obtain ⟨M, hM⟩ : ∃ M, (unitL m).length = M := ⟨_, rfl⟩
  rw [hM]
  have HM : Hid ((unitL m).length = M) := hM
  obtain ⟨Z, hZ, Z1⟩ : ∃ Z, W * H * (partsN m : Int) = Z ∧ 0 < Z := by
    refine ⟨_, rfl, ?_⟩
    have h1 := f.w
    have h2 := f.h
    have q1 : 1 * 1 ≤ W * H := Int.mul_le_mul h1.1 h2.1 (by omega) (by omega)
    have p1 : 1 ≤ (partsN m : Int) := by unfold partsN; split <;> simp
    have q2 : 1 * 1 ≤ W * H * (partsN m : Int) := Int.mul_le_mul (by omega) p1 (by omega) (by omega)
    omega
  have HG : Hid (gridW W H m = a ∧ gridH W H m = b) := ⟨ha, hb⟩
  have e0 : wrap64 (a * b) = (N : Int) := by rw [hNi]; exact w64 _ (by omega)
  have HH : Hid (BA w v N L F) := h
  obtain ⟨ao, vcap, rfl, -⟩ := h
  clear ha hb hN hNi N0 N1 hM
  go_enter Try.func33, Try.ntmps33
  go_wp2_with fail
  refine (grid_any _ _ _ _ _ _ _).mono ?_
  rintro e w1 ⟨rfl, b1⟩
  rw [HG.out.1, HG.out.2]
  replace kk := kk.step b1
  clear b1
  have c2 := kk.head.at 2
  simp only [List.getElem?_cons_zero, List.getElem?_cons_succ] at c2
  go_wp2_with fail
  refine (unit_any m f.m _).mono ?_
  rintro e w2 ⟨v, rfl, L⟩
  obtain ⟨uo, uc, rfl⟩ := L.slice
  rw [HM.out]
  replace kk := (kk.step L.but).made 3 [.int .i64 M]
  obtain ⟨MB, hMB⟩ : ∃ b, w2.heap.size = b := ⟨_, rfl⟩
  rw [hMB] at kk
  have gP := kk.get (b := w.heap.size) (t := 23) (c := pC W H m q i c) (by simp)
  have d0 := gP.at 0
  have d1 := gP.at 1
  have d2 := gP.at 2
  have d3 := gP.at 3
  have d4 := gP.at 4
  have d5 := gP.at 5
  simp only [List.getElem?_cons_zero, List.getElem?_cons_succ] at d0 d1 d2 d3 d4 d5
  clear L c2 gP
  go_wp2_with fail
  refine (size_fit _ _ _ _ _ _ f _).mono ?_
  rintro e w3 ⟨rfl, b3⟩
  rw [hZ]
  have hb9 := (kk.step b3).head.at 0
  simp only [List.getElem?_cons_zero] at hb9
  have hB9 : Hid _ := HH.out.but ((kk.step b3).but)
  have HB : Hid (But Nowhere w w3) := (kk.step b3).but
  clear b3 kk d0 d1 d2 d3 d4 d5
  go_wp2_with fail
  refine (containsFuncB _ N M L F MB w3 hB9.out hb9 hN2).mono ?_
  rintro e w4 ⟨⟨r, rfl, hr⟩, rfl⟩
  have HX : Hid _ := hr
  clear hr
  cases r
  · go_wp2_with fail
    go_ret
    refine ⟨⟨_, rfl, ?_⟩, HB.out⟩
    rcases HX.out with ⟨-, h1⟩ | ⟨h0, -⟩
    · exact Or.inl ⟨rfl, h1⟩
    · exact absurd h0 (by decide)
  · go_wp2_with fail
    go_ret
    refine ⟨⟨_, rfl, ?_⟩, HB.out⟩
    rcases HX.out with ⟨h0, -⟩ | ⟨-, h1⟩
    · exact absurd h0 (by decide)
    · exact Or.inr ⟨rfl, h1⟩

set_option maxHeartbeats 3200000 in
set_option maxRecDepth 100000 in
theorem isWhole_none (W H m q i c : Int) (hf : ¬ Fit W H m) (vo : Option Addr) (n vc : Nat) (w : World) : Calls Try.prog 33 #[pV W H m q i c, .slice vo n vc] w fun e w' => e = .returned (.bool false) ∧ But Nowhere w w' := by
  have kk := (Keep.start w).made 23 (pC W H m q i c)
  obtain ⟨a, ha⟩ : ∃ a, gridW W H m = a := ⟨_, rfl⟩
  obtain ⟨b, hb⟩ : ∃ b, gridH W H m = b := ⟨_, rfl⟩
  have HG : Hid (gridW W H m = a ∧ gridH W H m = b) := ⟨ha, hb⟩
  have HSZ : Hid (∀ w, Calls Try.prog 42 #[pV W H m q i c] w fun e w' => e = .returned (.int .i64 0) ∧ But Nowhere w w') := size_not W H m q i c hf
  clear ha hb hf
  go_enter Try.func33, Try.ntmps33
  go_wp2_with fail
  refine (grid_any _ _ _ _ _ _ _).mono ?_
  rintro e w1 ⟨rfl, b1⟩
  rw [HG.out.1, HG.out.2]
  replace kk := kk.step b1
  clear b1
  have c2 := kk.head.at 2
  simp only [List.getElem?_cons_zero, List.getElem?_cons_succ] at c2
  go_wp2_with fail
  refine (unit_len m _).mono ?_
  rintro e w2 ⟨⟨ua, un, uc, rfl⟩, b2⟩
  replace kk := kk.step b2
  have hl := kk.head.lt
  have d0 := kk.head.at 0
  have d1 := kk.head.at 1
  have d2 := kk.head.at 2
  have d3 := kk.head.at 3
  have d4 := kk.head.at 4
  have d5 := kk.head.at 5
  simp only [List.getElem?_cons_zero, List.getElem?_cons_succ] at d0 d1 d2 d3 d4 d5
  clear b2 c2
  go_wp2_with fail
  refine (HSZ.out _).mono ?_
  rintro e w3 ⟨rfl, b3⟩
  have HB : Hid (But Nowhere w w3) := (kk.but.alloc _).trans b3
  clear b3 kk d0 d1 d2 d3 d4 d5 hl
  go_wp2_with fail
  go_ret
  exact ⟨rfl, HB.out⟩

set_option maxHeartbeats 400000 in
theorem whole1_anyS (g : Option Addr) (M c k : Nat) (b : Nat) (w : World) (hb : w.cell? ⟨b, 0, none⟩ = some (.int .i64 k)) : Calls Try.prog 44 #[.slice g M c, .pointer (some ⟨b, 0, none⟩)] w fun e w' => e = .returned (.bool ((M : Int) != (k : Int))) ∧ w' = w := by
  go_enter Try.func44, Try.ntmps44
  go_wp2
  go_ret
  exact ⟨by simp [bne], rfl⟩

set_option maxHeartbeats 1600000 in
set_option maxRecDepth 100000 in
theorem indexFuncS (v : Value) (N M : Nat) (L : Nat → Nat) (F : Nat → Nat → Int) (b : Nat) (w : World) (h : BA w v N L F) (hb : w.cell? ⟨b, 0, none⟩ = some (.int .i64 M)) (hN : N ≤ 100000000) : Calls Try.prog 70 #[v, .func (.func 44) #[] #[.pointer (some ⟨b, 0, none⟩)]] w fun e w' => (∃ r : Int, e = .returned (.int .i64 r) ∧ ((r = -1 ∧ ∀ i, i < N → L i = M) ∨ (0 ≤ r ∧ ∃ i, i < N ∧ L i ≠ M))) ∧ w' = w := by
  obtain ⟨ao, vcap, rfl, h0⟩ := h
  go_enter Try.func70, Try.ntmps70
  go_wp2_with fail
  go_loopw [8] (fun i V => ∃ k : Nat, k ≤ N ∧ i = .int .i64 k ∧ V = w ∧ ∀ i, i < k → L i = M) (fun i _ => N - (intOf i).toNat)
  case atStart => exact ⟨0, Nat.zero_le _, rfl, rfl, fun i hi => absurd hi (by omega)⟩
  case round =>
    obtain ⟨k, hk, rfl, rfl, hall⟩ := hrel
    by_cases hlt : k < N
    · have i0 : (0 : Int) ≤ (k : Int) := by omega
      have i1 : (k : Int) < (N : Int) := by omega
      obtain ⟨go, off, rfl, hrow⟩ := h0 (by omega)
      obtain ⟨u, hu1, ro, cm, rfl, hu2⟩ := hrow k hlt
      obtain ⟨lk, hlk⟩ : ∃ n, L k = n := ⟨_, rfl⟩
      rw [hlk] at hu1
      have HLK : Hid (L k = lk) := hlk
      have HALL : Hid (∀ i, i < k → L i = M) := hall
      clear hu2 hrow h0 hlk hall
      go_wp2_with fail
      refine (whole1_anyS _ lk cm M b _ hb).mono ?_
      rintro e w1 ⟨rfl, rfl⟩
      by_cases e1 : lk = M
      · rw [show ((lk : Int) != (M : Int)) = false by simp [e1]]
        go_wp2_with fail
        go_roundw
        case rel => exact ⟨k + 1, by omega, by go_num, by trivial, fun i hi => by
          by_cases e2 : i = k
          · rw [e2, HLK.out, e1]
          · exact HALL.out i (by omega)⟩
        case measure => simp [intOf]; omega
      · rw [show ((lk : Int) != (M : Int)) = true by simp; omega]
        go_wp2_with fail
        go_ret
        exact ⟨⟨_, rfl, Or.inr ⟨by omega, k, hlt, by rw [HLK.out]; exact e1⟩⟩, rfl⟩
    · obtain rfl : k = N := by omega
      have HALL : Hid (∀ i, i < k → L i = M) := hall
      clear hall
      go_wp2_with fail
      go_ret
      exact ⟨⟨_, rfl, Or.inl ⟨rfl, HALL.out⟩⟩, rfl⟩

set_option maxHeartbeats 400000 in
theorem containsFuncS (v : Value) (N M : Nat) (L : Nat → Nat) (F : Nat → Nat → Int) (b : Nat) (w : World) (h : BA w v N L F) (hb : w.cell? ⟨b, 0, none⟩ = some (.int .i64 M)) (hN : N ≤ 100000000) : Calls Try.prog 43 #[v, .func (.func 44) #[] #[.pointer (some ⟨b, 0, none⟩)]] w fun e w' => (∃ r : Bool, e = .returned (.bool r) ∧ ((r = false ∧ ∀ i, i < N → L i = M) ∨ (r = true ∧ ∃ i, i < N ∧ L i ≠ M))) ∧ w' = w := by
  have HH : Hid (BA w v N L F) := h
  obtain ⟨ao, vcap, rfl, -⟩ := h
  go_enter Try.func43, Try.ntmps43
  go_wp2_with fail
  refine (indexFuncS _ N M L F b w HH.out hb hN).mono ?_
  rintro e w1 ⟨⟨r, rfl, hr⟩, rfl⟩
  rcases hr with ⟨rfl, h1⟩ | ⟨h0, h1⟩
  · have HX : Hid _ := h1
    clear h1
    go_wp2_with fail
    go_ret
    exact ⟨⟨_, rfl, Or.inl ⟨rfl, HX.out⟩⟩, rfl⟩
  · have HX : Hid _ := h1
    have d : decide (0 ≤ r) = true := by simpa using h0
    clear h1
    go_wp2_with fail
    go_ret
    exact ⟨⟨_, rfl, Or.inr ⟨rfl, HX.out⟩⟩, rfl⟩

set_option maxHeartbeats 3200000 in
set_option maxRecDepth 100000 in
theorem isWholeS (W H m q i c : Int) (f : Fit W H m) (v : Value) (L : Nat → Nat) (F : Nat → Nat → Int) (w : World) (h : BA w v (gridW W H m * gridH W H m).toNat L F) : Calls Try.prog 28 #[pV W H m q i c, v] w fun e w' => (∃ r : Bool, e = .returned (.bool r) ∧ ((r = true ∧ ∀ i, i < (gridW W H m * gridH W H m).toNat → L i = (unitL m).length) ∨ (r = false ∧ ∃ i, i < (gridW W H m * gridH W H m).toNat ∧ L i ≠ (unitL m).length))) ∧ But Nowhere w w' := by
  obtain ⟨-, -, g3, g4, g5, g6⟩ := f.grid
  have kk := (Keep.start w).made 23 (pC W H m q i c)
  obtain ⟨a, ha⟩ : ∃ a, gridW W H m = a := ⟨_, rfl⟩
  obtain ⟨b, hb⟩ : ∃ b, gridH W H m = b := ⟨_, rfl⟩
  rw [ha, hb] at h ⊢
  rw [ha] at g3 g4
  rw [hb] at g5 g6
  obtain ⟨N, hN⟩ : ∃ N : Nat, (a * b).toNat = N := ⟨_, rfl⟩
  obtain ⟨N0, N1⟩ : 0 ≤ a * b ∧ a * b ≤ 8192 * 8192 := ⟨Int.mul_nonneg (by omega) (by omega), Int.mul_le_mul g4 g6 (by omega) (by omega)⟩
  have hNi : a * b = (N : Int) := by omega
  rw [hN] at h ⊢
  have hN2 : N ≤ 100000000 := by omega
  obtain ⟨M, hM⟩ : ∃ M, (unitL m).length = M := ⟨_, rfl⟩
  rw [hM]
  have HM : Hid ((unitL m).length = M) := hM
  obtain ⟨Z, hZ, Z1⟩ : ∃ Z, W * H * (partsN m : Int) = Z ∧ 0 < Z := by
    refine ⟨_, rfl, ?_⟩
    have h1 := f.w
    have h2 := f.h
    have q1 : 1 * 1 ≤ W * H := Int.mul_le_mul h1.1 h2.1 (by omega) (by omega)
    have p1 : 1 ≤ (partsN m : Int) := by unfold partsN; split <;> simp
    have q2 : 1 * 1 ≤ W * H * (partsN m : Int) := Int.mul_le_mul (by omega) p1 (by omega) (by omega)
    omega
  have HG : Hid (gridW W H m = a ∧ gridH W H m = b) := ⟨ha, hb⟩
  have e0 : wrap64 (a * b) = (N : Int) := by rw [hNi]; exact w64 _ (by omega)
  have HH : Hid (BA w v N L F) := h
  obtain ⟨ao, vcap, rfl, -⟩ := h
  clear ha hb hN hNi N0 N1 hM
  go_enter Try.func28, Try.ntmps28
  go_wp2_with fail
  refine (grid_any _ _ _ _ _ _ _).mono ?_
  rintro e w1 ⟨rfl, b1⟩
  rw [HG.out.1, HG.out.2]
  replace kk := kk.step b1
  clear b1
  have c2 := kk.head.at 2
  simp only [List.getElem?_cons_zero, List.getElem?_cons_succ] at c2
  go_wp2_with fail
  refine (unit_any m f.m _).mono ?_
  rintro e w2 ⟨v, rfl, L⟩
  obtain ⟨uo, uc, rfl⟩ := L.slice
  rw [HM.out]
  replace kk := (kk.step L.but).made 3 [.int .i64 M]
  obtain ⟨MB, hMB⟩ : ∃ b, w2.heap.size = b := ⟨_, rfl⟩
  rw [hMB] at kk
  have gP := kk.get (b := w.heap.size) (t := 23) (c := pC W H m q i c) (by simp)
  have d0 := gP.at 0
  have d1 := gP.at 1
  have d2 := gP.at 2
  have d3 := gP.at 3
  have d4 := gP.at 4
  have d5 := gP.at 5
  simp only [List.getElem?_cons_zero, List.getElem?_cons_succ] at d0 d1 d2 d3 d4 d5
  clear L c2 gP
  go_wp2_with fail
  refine (size_fit _ _ _ _ _ _ f _).mono ?_
  rintro e w3 ⟨rfl, b3⟩
  rw [hZ]
  have hb9 := (kk.step b3).head.at 0
  simp only [List.getElem?_cons_zero] at hb9
  have hB9 : Hid _ := HH.out.but ((kk.step b3).but)
  have HB : Hid (But Nowhere w w3) := (kk.step b3).but
  clear b3 kk d0 d1 d2 d3 d4 d5
  go_wp2_with fail
  refine (containsFuncS _ N M L F MB w3 hB9.out hb9 hN2).mono ?_
  rintro e w4 ⟨⟨r, rfl, hr⟩, rfl⟩
  have HX : Hid _ := hr
  clear hr
  cases r
  · go_wp2_with fail
    go_ret
    refine ⟨⟨_, rfl, ?_⟩, HB.out⟩
    rcases HX.out with ⟨-, h1⟩ | ⟨h0, -⟩
    · exact Or.inl ⟨rfl, h1⟩
    · exact absurd h0 (by decide)
  · go_wp2_with fail
    go_ret
    refine ⟨⟨_, rfl, ?_⟩, HB.out⟩
    rcases HX.out with ⟨h0, -⟩ | ⟨-, h1⟩
    · exact absurd h0 (by decide)
    · exact Or.inr ⟨rfl, h1⟩

set_option maxHeartbeats 3200000 in
set_option maxRecDepth 100000 in
theorem isWhole_notS (W H m q i c : Int) (f : Fit W H m) (vo : Option Addr) (n vc : Nat) (hn : n ≠ (gridW W H m * gridH W H m).toNat) (w : World) : Calls Try.prog 28 #[pV W H m q i c, .slice vo n vc] w fun e w' => e = .returned (.bool false) ∧ But Nowhere w w' := by
  obtain ⟨-, -, g3, g4, g5, g6⟩ := f.grid
  have kk := (Keep.start w).made 23 (pC W H m q i c)
  obtain ⟨a, ha⟩ : ∃ a, gridW W H m = a := ⟨_, rfl⟩
  obtain ⟨b, hb⟩ : ∃ b, gridH W H m = b := ⟨_, rfl⟩
  rw [ha, hb] at hn
  rw [ha] at g3 g4
  rw [hb] at g5 g6
  obtain ⟨N, hN, N0, N1⟩ : ∃ N : Int, a * b = N ∧ 0 ≤ N ∧ N ≤ 8192 * 8192 := ⟨_, rfl, Int.mul_nonneg (by omega) (by omega), Int.mul_le_mul g4 g6 (by omega) (by omega)⟩
  have e0 : wrap64 (a * b) = N := by rw [hN]; exact w64 _ (by omega)
  rw [hN] at hn
  have e1 : ((n : Int) == N) = false := by simp; omega
  obtain ⟨Z, hZ, Z1⟩ : ∃ Z, W * H * (partsN m : Int) = Z ∧ 0 < Z := by
    refine ⟨_, rfl, ?_⟩
    have h1 := f.w
    have h2 := f.h
    have q1 : 1 * 1 ≤ W * H := Int.mul_le_mul h1.1 h2.1 (by omega) (by omega)
    have p1 : 1 ≤ (partsN m : Int) := by unfold partsN; split <;> simp
    have q2 : 1 * 1 ≤ W * H * (partsN m : Int) := Int.mul_le_mul (by omega) p1 (by omega) (by omega)
    omega
  have HG : Hid (gridW W H m = a ∧ gridH W H m = b) := ⟨ha, hb⟩
  clear hN ha hb hn
  go_enter Try.func28, Try.ntmps28
  go_wp2_with fail
  refine (grid_any _ _ _ _ _ _ _).mono ?_
  rintro e w1 ⟨rfl, b1⟩
  rw [HG.out.1, HG.out.2]
  replace kk := kk.step b1
  clear b1
  have c2 := kk.head.at 2
  simp only [List.getElem?_cons_zero, List.getElem?_cons_succ] at c2
  go_wp2_with fail
  refine (unit_any m f.m _).mono ?_
  rintro e w2 ⟨v, rfl, L⟩
  obtain ⟨uo, uc, rfl⟩ := L.slice
  replace kk := kk.step L.but
  have hl := kk.head.lt
  have d0 := kk.head.at 0
  have d1 := kk.head.at 1
  have d2 := kk.head.at 2
  have d3 := kk.head.at 3
  have d4 := kk.head.at 4
  have d5 := kk.head.at 5
  simp only [List.getElem?_cons_zero, List.getElem?_cons_succ] at d0 d1 d2 d3 d4 d5
  clear L c2
  go_wp2_with fail
  refine (size_fit _ _ _ _ _ _ f _).mono ?_
  rintro e w3 ⟨rfl, b3⟩
  rw [hZ]
  have HB : Hid (But Nowhere w w3) := (kk.but.alloc _).trans b3
  clear b3 kk d0 d1 d2 d3 d4 d5 hl
  go_wp2_with fail
  go_ret
  exact ⟨rfl, HB.out⟩

end Go.Proofs.Ytppbnmlgilgnnaa

/- The document's Right, Many and whole. -/
namespace Go.Proofs.Ytppbnmlgilgnnaa
open Go.ChangeShapes Go.WideShapes Go.ChangeAt Go.RowKit

set_option maxHeartbeats 1600000 in
set_option maxRecDepth 100000 in
theorem refRight_fit (W H m q i c : Int) (f : Fit W H m) (w : World) : Calls Try.prog 38 #[pV W H m q i c] w fun e w' => e = .returned (.bool true) ∧ But Nowhere w w' := by
  have kk := (Keep.start w).made 23 (pC W H m q i c)
  obtain ⟨-, -, g3, g4, g5, g6⟩ := f.grid
  obtain ⟨b, hb⟩ : ∃ b, gridH W H m = b := ⟨_, rfl⟩
  obtain ⟨a, ha⟩ : ∃ a, gridW W H m = a := ⟨_, rfl⟩
  rw [ha] at g3
  have HG : Hid (gridW W H m = a ∧ gridH W H m = b) := ⟨ha, hb⟩
  have hW := f.w
  have hH := f.h
  have hS := f.s
  have m0 : 0 ≤ W * H := Int.mul_nonneg (by omega) (by omega)
  obtain ⟨Z, hZ⟩ : ∃ Z, W * H = Z := ⟨_, rfl⟩
  have r1 : wrap64 (W * H) = Z := by rw [hZ]; exact w64 _ (by omega)
  have r2 : decide (Z ≤ 1048576) = true := by simp; omega
  have r3 : decide (0 < a) = true := by simp; omega
  have r4 : 0 < a := by omega
  have r5 : Z ≤ 1048576 := by omega
  clear ha hb g3 g4 g5 g6 hW hH hS m0 hZ f
  go_enter Try.func38, Try.ntmps38
  go_wp2_with fail
  refine (refGrid_any _ _ _ _ _ _ _).mono ?_
  rintro e w1 ⟨rfl, b1⟩
  rw [HG.out.1, HG.out.2]
  replace kk := kk.step b1
  clear b1
  have c0 := kk.head.at 0
  have c1 := kk.head.at 1
  simp only [List.getElem?_cons_zero, List.getElem?_cons_succ] at c0 c1
  go_wp2_with fail
  go_ret
  exact ⟨rfl, kk.but⟩

set_option maxHeartbeats 1600000 in
set_option maxRecDepth 100000 in
theorem refRight_not (W H m q i c : Int) (hn : ¬ Fit W H m) (w : World) : Calls Try.prog 38 #[pV W H m q i c] w fun e w' => e = .returned (.bool false) ∧ But Nowhere w w' := by
  have kk := (Keep.start w).made 23 (pC W H m q i c)
  obtain ⟨b, hb⟩ : ∃ b, gridH W H m = b := ⟨_, rfl⟩
  rcases not_fit hn with g | ⟨hW, hH, g, hS⟩
  · have HG : Hid (gridW W H m = 0 ∧ gridH W H m = b) := ⟨g, hb⟩
    clear g hb hn
    go_enter Try.func38, Try.ntmps38
    go_wp2_with fail
    refine (refGrid_any _ _ _ _ _ _ _).mono ?_
    rintro e w1 ⟨rfl, b1⟩
    rw [HG.out.1, HG.out.2]
    replace kk := kk.step b1
    clear b1
    go_wp2_with fail
    go_ret
    exact ⟨rfl, kk.but⟩
  · obtain ⟨a, ha⟩ : ∃ a, gridW W H m = a := ⟨_, rfl⟩
    rw [ha] at g
    have HG : Hid (gridW W H m = a ∧ gridH W H m = b) := ⟨ha, hb⟩
    have h8 : W * H ≤ 65535 * 65535 := Int.mul_le_mul hW.2 hH.2 (by omega) (by omega)
    obtain ⟨Z, hZ⟩ : ∃ Z, W * H = Z := ⟨_, rfl⟩
    rw [hZ] at h8 hS
    have r1 : wrap64 (W * H) = Z := by rw [hZ]; exact w64 _ (by omega)
    have r2 : decide (Z ≤ 1048576) = false := by simp; omega
    have r5 : ¬ Z ≤ 1048576 := by omega
    clear ha hb hn hS hW hH h8 hZ
    by_cases r4 : 0 < a
    · have r3 : decide (0 < a) = true := by simp; omega
      go_enter Try.func38, Try.ntmps38
      go_wp2_with fail
      refine (refGrid_any _ _ _ _ _ _ _).mono ?_
      rintro e w1 ⟨rfl, b1⟩
      rw [HG.out.1, HG.out.2]
      replace kk := kk.step b1
      clear b1
      have c0 := kk.head.at 0
      have c1 := kk.head.at 1
      simp only [List.getElem?_cons_zero, List.getElem?_cons_succ] at c0 c1
      go_wp2_with fail
      go_ret
      exact ⟨rfl, kk.but⟩
    · have r3 : decide (0 < a) = false := by simp; omega
      go_enter Try.func38, Try.ntmps38
      go_wp2_with fail
      refine (refGrid_any _ _ _ _ _ _ _).mono ?_
      rintro e w1 ⟨rfl, b1⟩
      rw [HG.out.1, HG.out.2]
      replace kk := kk.step b1
      clear b1
      go_wp2_with fail
      go_ret
      exact ⟨rfl, kk.but⟩

set_option maxHeartbeats 1600000 in
set_option maxRecDepth 100000 in
theorem refMany_fit (m : Int) (hm : 1 ≤ m ∧ m ≤ 4) (w : World) : Calls Try.prog 24 #[.int .i64 m] w fun e w' => e = .returned (.int .i64 ((unitL m).length : Int)) ∧ But Nowhere w w' := by
  have HPA : Hid (∀ p, p < partsN m → ∃ A B C D, PartAt m p A B C D) := part_at m hm
  have hE := cntP_end m hm
  have hul := (unit_pos m).2
  obtain ⟨M, hM⟩ : ∃ M, (unitL m).length = M := ⟨_, rfl⟩
  have HM : Hid ((unitL m).length = M) := hM
  rw [hM] at hul hE ⊢
  obtain ⟨N, hN, hN3⟩ : ∃ N, partsN m = N ∧ N ≤ 3 := ⟨_, rfl, by unfold partsN; split <;> omega⟩
  have HSI : Hid (∀ w, Calls Try.prog 23 #[.int .i64 m] w fun e w' => e = .returned (.slice (some ⟨w.heap.size, 0, none⟩) (partsN m) (partsN m)) ∧ Keep w w' [(w.heap.size, 49, nums (sidesC m))] ∧ w'.heap.size = w.heap.size + 1) := refSides_some m hm
  rw [hN] at HPA hE HSI
  have HE : Hid (cntP m N = M) := hE
  clear hM hE hN
  go_enter Try.func24, Try.ntmps24
  go_wp2_with fail
  refine (HSI.out w).mono ?_
  rintro e w1 ⟨rfl, k1, -⟩
  have hB := k1.head
  have b1 := k1.but
  obtain ⟨B0, hBB⟩ : ∃ b, w.heap.size = b := ⟨_, rfl⟩
  rw [hBB] at hB ⊢
  have HBB : Hid (w.heap.size = B0) := hBB
  clear hBB k1
  go_wp2_with fail
  go_loopw [3, 5] (fun n i V => ∃ p : Nat, p ≤ N ∧ i = .int .i64 p ∧ n = .int .i64 (cntP m p : Int) ∧ But Nowhere w1 V) (fun _ i _ => N - (intOf i).toNat)
  case atStart => exact ⟨0, Nat.zero_le _, rfl, rfl, But.refl _ _⟩
  case round =>
    obtain ⟨p, hp, rfl, rfl, hb⟩ := hrel
    by_cases hlt : p < N
    · obtain ⟨A, B, C, D, P⟩ := HPA.out p hlt
      have i0 : (0 : Int) ≤ (p : Int) := by omega
      have i1 : (p : Int) < (N : Int) := by omega
      have hBV := hB.but hb (not_nowhere _)
      have kA := (hBV.at (p * 2)).trans P.ca
      have kB := (hBV.at (p * 2 + 1)).trans P.cb
      have hcul := P.ul
      rw [HM.out] at hcul
      obtain ⟨Q, hQ⟩ : ∃ Q : Nat, cntP m (p + 1) - cntP m p = Q := ⟨_, rfl⟩
      have hQ2 : cntP m p + Q = cntP m (p + 1) := by have := P.le; omega
      have e1 : wrap64 ((A : Int) * (B : Int)) = (Q : Int) := by
        have e := P.n
        rw [hQ] at e
        have e2 : (A : Int) * (B : Int) = (Q : Int) := by rw [← e]; simp
        rw [e2]; exact w64 _ (by omega)
      have e2 : wrap64 ((cntP m p : Int) + (Q : Int)) = (cntP m (p + 1) : Int) := by
        rw [show (cntP m p : Int) + (Q : Int) = (cntP m (p + 1) : Int) by omega]; exact w64 _ (by omega)
      clear P hcul hQ hQ2 hBV
      go_wp2_with fail
      go_quiet (fail)
      go_wp2_with fail
      go_roundw
      case rel => exact ⟨p + 1, by omega, by go_num, by first | rfl | rw [e2], hb.drewN _⟩
      case measure => simp [intOf]; omega
    · obtain rfl : p = N := by omega
      rw [HE.out]
      go_wp2_with fail
      go_ret
      exact ⟨rfl, b1.trans hb⟩

set_option maxHeartbeats 1600000 in
set_option maxRecDepth 100000 in
theorem refWhole_none (W H m q i c : Int) (hf : ¬ Fit W H m) (vo : Option Addr) (n vc : Nat) (w : World) : Calls Try.prog 25 #[pV W H m q i c, .slice vo n vc] w fun e w' => e = .returned (.bool false) ∧ But Nowhere w w' := by
  have kk := (Keep.start w).made 23 (pC W H m q i c)
  obtain ⟨a, ha⟩ : ∃ a, gridW W H m = a := ⟨_, rfl⟩
  obtain ⟨b, hb⟩ : ∃ b, gridH W H m = b := ⟨_, rfl⟩
  have HG : Hid (gridW W H m = a ∧ gridH W H m = b) := ⟨ha, hb⟩
  have HR : Hid (∀ w, Calls Try.prog 38 #[pV W H m q i c] w fun e w' => e = .returned (.bool false) ∧ But Nowhere w w') := refRight_not W H m q i c hf
  clear ha hb hf
  go_enter Try.func25, Try.ntmps25
  go_wp2_with fail
  refine (refGrid_any _ _ _ _ _ _ _).mono ?_
  rintro e w1 ⟨rfl, b1⟩
  rw [HG.out.1, HG.out.2]
  replace kk := kk.step b1
  clear b1
  have d0 := kk.head.at 0
  have d1 := kk.head.at 1
  have d2 := kk.head.at 2
  have d3 := kk.head.at 3
  have d4 := kk.head.at 4
  have d5 := kk.head.at 5
  simp only [List.getElem?_cons_zero, List.getElem?_cons_succ] at d0 d1 d2 d3 d4 d5
  go_wp2_with fail
  refine (HR.out _).mono ?_
  rintro e w2 ⟨rfl, b2⟩
  have HB : Hid (But Nowhere w w2) := kk.but.trans b2
  clear b2 kk d0 d1 d2 d3 d4 d5
  go_wp2_with fail
  go_ret
  exact ⟨rfl, HB.out⟩

/-- r tells whether there are N lists of M each. -/
def WholeR (r : Bool) (n N M : Nat) (L : Nat → Nat) : Prop := (r = true ∧ n = N ∧ ∀ i, i < n → L i = M) ∨ (r = false ∧ ¬ (n = N ∧ ∀ i, i < n → L i = M))

set_option maxHeartbeats 3200000 in
set_option maxRecDepth 100000 in
theorem refWhole_fit (W H m q i c : Int) (f : Fit W H m) (v : Value) (n : Nat) (L : Nat → Nat) (F : Nat → Nat → Int) (w : World) (h : BA w v n L F) : Calls Try.prog 25 #[pV W H m q i c, v] w fun e w' =>
    (∃ r : Bool, e = .returned (.bool r) ∧ WholeR r n (gridW W H m * gridH W H m).toNat (unitL m).length L) ∧ But Nowhere w w' := by
  obtain ⟨-, -, g3, g4, g5, g6⟩ := f.grid
  have kk := (Keep.start w).made 23 (pC W H m q i c)
  obtain ⟨a, ha⟩ : ∃ a, gridW W H m = a := ⟨_, rfl⟩
  obtain ⟨b, hb⟩ : ∃ b, gridH W H m = b := ⟨_, rfl⟩
  have HG : Hid (gridW W H m = a ∧ gridH W H m = b) := ⟨ha, hb⟩
  rw [ha, hb]
  rw [ha] at g3 g4
  rw [hb] at g5 g6
  obtain ⟨N, hN⟩ : ∃ N : Nat, (a * b).toNat = N := ⟨_, rfl⟩
  obtain ⟨N0, N1⟩ : 0 ≤ a * b ∧ a * b ≤ 8192 * 8192 := ⟨Int.mul_nonneg (by omega) (by omega), Int.mul_le_mul g4 g6 (by omega) (by omega)⟩
  have e0 : wrap64 (a * b) = (N : Int) := by rw [show a * b = (N : Int) by omega]; exact w64 _ (by omega)
  rw [hN]
  have hN2 : N ≤ 100000000 := by omega
  obtain ⟨M, hM⟩ : ∃ M, (unitL m).length = M := ⟨_, rfl⟩
  have HMN : Hid (∀ w, Calls Try.prog 24 #[.int .i64 m] w fun e w' => e = .returned (.int .i64 ((unitL m).length : Int)) ∧ But Nowhere w w') := refMany_fit m f.m
  rw [hM] at HMN ⊢
  have HR : Hid (∀ w, Calls Try.prog 38 #[pV W H m q i c] w fun e w' => e = .returned (.bool true) ∧ But Nowhere w w') := refRight_fit W H m q i c f
  obtain ⟨ao, vcap, rfl, h0⟩ := h
  clear ha hb hN N0 N1 hM g3 g4 g5 g6 f
  go_enter Try.func25, Try.ntmps25
  go_wp2_with fail
  refine (refGrid_any _ _ _ _ _ _ _).mono ?_
  rintro e w1 ⟨rfl, b1⟩
  rw [HG.out.1, HG.out.2]
  replace kk := kk.step b1
  clear b1
  have d0 := kk.head.at 0
  have d1 := kk.head.at 1
  have d2 := kk.head.at 2
  have d3 := kk.head.at 3
  have d4 := kk.head.at 4
  have d5 := kk.head.at 5
  simp only [List.getElem?_cons_zero, List.getElem?_cons_succ] at d0 d1 d2 d3 d4 d5
  go_wp2_with fail
  refine (HR.out _).mono ?_
  rintro e w2 ⟨rfl, b2⟩
  replace kk := kk.step b2
  clear b2 d0 d1 d2 d3 d4 d5
  by_cases hn : n = N
  · subst hn
    have hq : ((n : Int) != (n : Int)) = false := by simp
    go_wp2_with fail
    clear e0
    go_loopw [7] (fun j V => ∃ k : Nat, k ≤ n ∧ j = .int .i64 k ∧ But Nowhere w2 V ∧ ∀ i, i < k → L i = M) (fun j _ => n - (intOf j).toNat)
    case atStart => exact ⟨0, Nat.zero_le _, rfl, But.refl _ _, fun i hi => absurd hi (by omega)⟩
    case round =>
      obtain ⟨k, hk, rfl, hbV, hall⟩ := hrel
      have HALL : Hid (∀ i, i < k → L i = M) := hall
      clear hall
      by_cases hlt : k < n
      · have i0 : (0 : Int) ≤ (k : Int) := by omega
        have i1 : (k : Int) < (n : Int) := by omega
        obtain ⟨go, off, rfl, hrow⟩ := h0 (by omega)
        obtain ⟨u, hu1, ro, cm, rfl, -⟩ := hrow k hlt
        obtain ⟨lk, hlk⟩ : ∃ n, L k = n := ⟨_, rfl⟩
        rw [hlk] at hu1
        have HLK : Hid (L k = lk) := hlk
        have bu := hbV.drew
        have HS : ∀ V, But Nowhere w2 V → (V.cell? ⟨go, off + k, none⟩ = some (.slice ro lk cm) ∧ V.cell? ⟨w.heap.size, 2, none⟩ = some (.int .i64 m)) := fun V hb => ⟨hb.keeps (not_nowhere _) (kk.but.keeps (not_nowhere _) hu1), (kk.step hb).head.at 2⟩
        clear hu1 hrow h0 hlk hbV
        go_wp2_with fail
        refine wp_region_till (S := fun V => V.cell? ⟨go, off + k, none⟩ = some (.slice ro lk cm) ∧ V.cell? ⟨w.heap.size, 2, none⟩ = some (.int .i64 m)) (R := fun _ => True) (k := 100) (m := 100) (by kernel_rfl) (HS _ bu) trivial ?_
        (refine Walk.take (i := 0) (oi := { dst := some 30, op := Op.move (Operand.tmp 1), type := 29, pos := "ref.go:134", after := #[], guard := none }) (v := ?_) rfl (by kernel_rfl) (by kernel_rfl) (by kernel_rfl) (by kernel_rfl) (fun _ _ _ h => h) (Or.inl ⟨by rfl, ?_⟩) ?_; rotate_left; (intro w hw; clear hw; (try go_split_ands); go_simp; try (with_reducible rfl)); simp only [Act.put, List.setIfInBounds_toArray, List.set_cons_zero, List.set_cons_succ])
        (refine Walk.take (i := 1) (oi := { dst := some 31, op := Op.move (Operand.tmp 7), type := 3, pos := "ref.go:134", after := #[], guard := none }) (v := ?_) rfl (by kernel_rfl) (by kernel_rfl) (by kernel_rfl) (by kernel_rfl) (fun _ _ _ h => h) (Or.inl ⟨by rfl, ?_⟩) ?_; rotate_left; (intro w hw; clear hw; (try go_split_ands); go_simp; try (with_reducible rfl)); simp only [Act.put, List.setIfInBounds_toArray, List.set_cons_zero, List.set_cons_succ])
        (refine Walk.take (i := 2) (oi := { dst := some 32, op := Op.indexAddr 29 (Operand.tmp 30) (Operand.tmp 31), type := 0, pos := "ref.go:134", after := #[{ on := 0, ground := Ground.data }, { on := 1, ground := Ground.data }], guard := none }) (v := ?_) rfl (by kernel_rfl) (by kernel_rfl) (by kernel_rfl) (by kernel_rfl) (fun _ _ _ h => h) (Or.inl ⟨by rfl, ?_⟩) ?_; rotate_left; (intro w hw; clear hw; (try go_split_ands); go_simp; try (with_reducible rfl)); simp only [Act.put, List.setIfInBounds_toArray, List.set_cons_zero, List.set_cons_succ])
        (refine Walk.take (i := 3) (oi := { dst := some 33, op := Op.load 51 (Operand.tmp 32), type := 51, pos := "ref.go:134", after := #[{ on := 2, ground := Ground.data }], guard := none }) (v := ?_) rfl (by kernel_rfl) (by kernel_rfl) (by kernel_rfl) (by kernel_rfl) (fun _ _ _ h => h) (Or.inl ⟨by rfl, ?_⟩) ?_; rotate_left; (intro w hw; have hS1 := hw.1 (by kernel_rfl); clear hw; (try dsimp only at hS1); (try go_split_ands); go_simp; try (with_reducible rfl)); simp only [Act.put, List.setIfInBounds_toArray, List.set_cons_zero, List.set_cons_succ])
        (refine Walk.take (i := 4) (oi := { dst := some 34, op := Op.call { callee := Callee.builtin Builtin.len, args := #[Operand.tmp 33], argTypes := #[51] }, type := 3, pos := "ref.go:134", after := #[{ on := 3, ground := Ground.data }], guard := none }) (v := ?_) rfl (by kernel_rfl) (by kernel_rfl) (by kernel_rfl) (by kernel_rfl) (fun _ _ _ h => h) (Or.inl ⟨by rfl, ?_⟩) ?_; rotate_left; (intro w hw; clear hw; (try go_split_ands); go_simp; try (with_reducible rfl)); simp only [Act.put, List.setIfInBounds_toArray, List.set_cons_zero, List.set_cons_succ])
        (refine Walk.take (i := 5) (oi := { dst := some 35, op := Op.fieldAddr 23 (Operand.tmp 2) 2, type := 0, pos := "ref.go:134", after := #[], guard := none }) (v := ?_) rfl (by kernel_rfl) (by kernel_rfl) (by kernel_rfl) (by kernel_rfl) (fun _ _ _ h => h) (Or.inl ⟨by rfl, ?_⟩) ?_; rotate_left; (intro w hw; clear hw; (try go_split_ands); go_simp; try (with_reducible rfl)); simp only [Act.put, List.setIfInBounds_toArray, List.set_cons_zero, List.set_cons_succ])
        (refine Walk.take (i := 6) (oi := { dst := some 36, op := Op.load 3 (Operand.tmp 35), type := 3, pos := "ref.go:134", after := #[{ on := 5, ground := Ground.data }], guard := none }) (v := ?_) rfl (by kernel_rfl) (by kernel_rfl) (by kernel_rfl) (by kernel_rfl) (fun _ _ _ h => h) (Or.inl ⟨by rfl, ?_⟩) ?_; rotate_left; (intro w hw; have hS1 := hw.1 (by kernel_rfl); clear hw; (try dsimp only at hS1); (try go_split_ands); go_simp; try (with_reducible rfl)); simp only [Act.put, List.setIfInBounds_toArray, List.set_cons_zero, List.set_cons_succ])
        (refine Walk.go (i := 7) (o := { dst := some 37, op := Op.call { callee := Callee.value (Operand.func 24), args := #[Operand.tmp 36], argTypes := #[3] }, type := 3, pos := "ref.go:134", after := #[{ on := 6, ground := Ground.data }], guard := none }) (by kernel_rfl) rfl (fun K hK => ?_); go_simp; ((go_at_call 24; refine (HMN.out _).mono ?_; rintro e x1 ⟨rfl, d⟩; replace bu := bu.trans d; clear d)); refine hK.out _ _ (⟨fun _ => HS _ bu, fun _ => trivial⟩) ?_; clear hK K; try simp only [Act.put, List.setIfInBounds_toArray, List.set_cons_zero, List.set_cons_succ])
        clear HS
        by_cases e1 : lk = M
        · have e2 : ((lk : Int) != (M : Int)) = false := by simp [e1]
          (refine Walk.take (i := 8) (oi := { dst := some 38, op := Op.binOp BinOp.neq 3 (Operand.tmp 34) (Operand.tmp 37) 3, type := 4, pos := "ref.go:134", after := #[{ on := 4, ground := Ground.data }, { on := 7, ground := Ground.data }], guard := none }) (v := ?_) rfl (by kernel_rfl) (by kernel_rfl) (by kernel_rfl) (by kernel_rfl) (fun _ _ _ h => h) (Or.inl ⟨by rfl, ?_⟩) ?_; rotate_left; (intro w hw; clear hw; (try go_split_ands); go_simp; try (with_reducible rfl)); simp only [Act.put, List.setIfInBounds_toArray, List.set_cons_zero, List.set_cons_succ])
          refine Walk.done (by kernel_rfl) ?_ _
          go_wp2_with fail
          go_roundw
          case rel => exact ⟨k + 1, by omega, by go_num, bu, fun i hi => by
            by_cases e3 : i = k
            · rw [e3, HLK.out, e1]
            · exact HALL.out i (by omega)⟩
          case measure => simp [intOf]; omega
        · have e2 : ((lk : Int) != (M : Int)) = true := by simp; omega
          (refine Walk.take (i := 8) (oi := { dst := some 38, op := Op.binOp BinOp.neq 3 (Operand.tmp 34) (Operand.tmp 37) 3, type := 4, pos := "ref.go:134", after := #[{ on := 4, ground := Ground.data }, { on := 7, ground := Ground.data }], guard := none }) (v := ?_) rfl (by kernel_rfl) (by kernel_rfl) (by kernel_rfl) (by kernel_rfl) (fun _ _ _ h => h) (Or.inl ⟨by rfl, ?_⟩) ?_; rotate_left; (intro w hw; clear hw; (try go_split_ands); go_simp; try (with_reducible rfl)); simp only [Act.put, List.setIfInBounds_toArray, List.set_cons_zero, List.set_cons_succ])
          refine Walk.done (by kernel_rfl) ?_ _
          have HB : Hid (But Nowhere w _) := kk.but.trans bu
          clear kk bu
          go_wp2_with fail
          go_ret
          have hX : WholeR false n n M L := Or.inr ⟨rfl, fun q => e1 (by rw [← HLK.out]; exact q.2 k hlt)⟩
          first | exact ⟨⟨_, rfl, hX⟩, HB.out⟩ | exact ⟨hX, HB.out⟩
      · obtain rfl : k = n := by omega
        have HB : Hid (But Nowhere w wr) := kk.but.trans hbV
        clear kk h0
        go_wp2_with fail
        go_ret
        have hX : WholeR true k k M L := Or.inl ⟨rfl, rfl, HALL.out⟩
        first | exact ⟨⟨_, rfl, hX⟩, HB.out⟩ | exact ⟨hX, HB.out⟩
  · have hq : ((n : Int) != (N : Int)) = true := by simp; omega
    have HB : Hid (But Nowhere w w2) := kk.but
    have hn' : ¬ (n : Int) = (N : Int) := by omega
    clear kk h0
    go_wp2_with fail
    go_ret
    have hX : WholeR false n N M L := Or.inr ⟨rfl, fun q => hn q.1⟩
    first | exact ⟨⟨_, rfl, hX⟩, HB.out⟩ | exact ⟨hX, HB.out⟩

end Go.Proofs.Ytppbnmlgilgnnaa

/- Where the document finds a pixel's part among the blocks: it is where join lays it. -/
namespace Go.Proofs.Ytppbnmlgilgnnaa
open Go.ChangeShapes Go.WideShapes Go.ChangeAt Go.RowKit

def sA (m : Int) (p : Nat) : Int := (sidesC m).getD (p * 2) 1
def sB (m : Int) (p : Nat) : Int := (sidesC m).getD (p * 2 + 1) 1
def atI (W H m x y : Int) : Nat := (y / sideH m * gridW W H m + x / sideW m).toNat
def atU (m : Int) (p : Nat) (x : Int) : Int := x % sideW m * sA m p / sA m 0
def atV (m : Int) (p : Nat) (y : Int) : Int := y % sideH m * sB m p / sB m 0
def atB (m : Int) (p : Nat) (x y : Int) : Nat := ((cntP m p : Int) + atV m p y / 8 * sA m p + atU m p x / 8).toNat
def atK (m : Int) (p : Nat) (x y : Int) : Nat := (atV m p y % 8 * 8 + atU m p x % 8).toNat
/-- A pixel's part, as the document tells it. -/
def atF (W H m : Int) (F : Nat → Nat → Int) (p : Nat) (x y : Int) : Int := clipF (F (atI W H m x y) (atB m p x y * 64 + atK m p x y)) 0 255
/-- All of them, one after the other. -/
def atJ (W H m : Int) (F : Nat → Nat → Int) (j : Nat) : Int := atF W H m F (j % partsN m) (((j / partsN m : Nat) : Int) % W) (((j / partsN m : Nat) : Int) / W)

theorem nums_sA {m : Int} {k : Nat} {z : Int} (h : (nums (sidesC m))[k]? = some (.int .i64 z)) : (sidesC m).getD k 1 = z := by
  unfold nums at h
  rw [List.getElem?_map] at h
  cases e : (sidesC m)[k]? with
  | none => rw [e] at h; simp at h
  | some x =>
    rw [e] at h
    simp at h
    rw [List.getD_eq_getElem?_getD, e, h]
    rfl

theorem PartAt.sA {m : Int} {p A B C D : Nat} (P : PartAt m p A B C D) : sA m p = A ∧ sB m p = B ∧ sA m 0 = ((A * C : Nat) : Int) ∧ sB m 0 = ((B * D : Nat) : Int) := ⟨nums_sA P.ca, nums_sA P.cb, nums_sA P.c0, nums_sA P.c1⟩

/-- Each block is of a part. -/
theorem part_of (m : Int) (hm : 1 ≤ m ∧ m ≤ 4) (b : Nat) (hb : b < (unitL m).length) : ∃ p n, p < partsN m ∧ n < cntP m (p + 1) - cntP m p ∧ b = cntP m p + n := by
  rcases mode_cases hm with rfl | rfl | rfl | rfl
  · have : b = 0 := by simp [unitL] at hb; omega
    subst this; exact ⟨0, 0, by decide, by decide, rfl⟩
  · have : b = 0 ∨ b = 1 ∨ b = 2 := by simp [unitL] at hb; omega
    rcases this with rfl | rfl | rfl
    · exact ⟨0, 0, by decide, by decide, rfl⟩
    · exact ⟨1, 0, by decide, by decide, rfl⟩
    · exact ⟨2, 0, by decide, by decide, rfl⟩
  · have : b = 0 ∨ b = 1 ∨ b = 2 ∨ b = 3 := by simp [unitL] at hb; omega
    rcases this with rfl | rfl | rfl | rfl
    · exact ⟨0, 0, by decide, by decide, rfl⟩
    · exact ⟨0, 1, by decide, by decide, rfl⟩
    · exact ⟨1, 0, by decide, by decide, rfl⟩
    · exact ⟨2, 0, by decide, by decide, rfl⟩
  · have : b = 0 ∨ b = 1 ∨ b = 2 ∨ b = 3 ∨ b = 4 ∨ b = 5 := by simp [unitL] at hb; omega
    rcases this with rfl | rfl | rfl | rfl | rfl | rfl
    · exact ⟨0, 0, by decide, by decide, rfl⟩
    · exact ⟨0, 1, by decide, by decide, rfl⟩
    · exact ⟨0, 2, by decide, by decide, rfl⟩
    · exact ⟨0, 3, by decide, by decide, rfl⟩
    · exact ⟨1, 0, by decide, by decide, rfl⟩
    · exact ⟨2, 0, by decide, by decide, rfl⟩

theorem axis_in (A C : Nat) (hA : A = 1 ∨ A = 2) (hC : C = 1 ∨ C = 2) (q t e z : Int) (hq : 0 ≤ q) (ht : 0 ≤ t ∧ t < A) (he : 0 ≤ e ∧ e < 8) (hz : 0 ≤ z ∧ z < C) :
    (t * 8 * C + q * ((8 * (A * C) : Nat) : Int) + e * C + z) / ((8 * (A * C) : Nat) : Int) = q ∧ (t * 8 * C + q * ((8 * (A * C) : Nat) : Int) + e * C + z) % ((8 * (A * C) : Nat) : Int) * (A : Int) / ((A * C : Nat) : Int) = t * 8 + e ∧ 0 ≤ t * 8 * C + q * ((8 * (A * C) : Nat) : Int) + e * C + z := by
  rcases hA with rfl | rfl <;> rcases hC with rfl | rfl <;> (simp at ht hz ⊢; omega)

theorem axis_out (A C : Nat) (hA : A = 1 ∨ A = 2) (hC : C = 1 ∨ C = 2) (x : Int) (hx : 0 ≤ x) : ∃ q t e z : Int, 0 ≤ q ∧ (0 ≤ t ∧ t < A) ∧ (0 ≤ e ∧ e < 8) ∧ (0 ≤ z ∧ z < C) ∧ x = t * 8 * C + q * ((8 * (A * C) : Nat) : Int) + e * C + z ∧ q = x / ((8 * (A * C) : Nat) : Int) := by
  rcases hA with rfl | rfl <;> rcases hC with rfl | rfl
  · exact ⟨x / 8, 0, x % 8, 0, by simp; omega⟩
  · exact ⟨x / 16, 0, x % 16 / 2, x % 2, by simp; omega⟩
  · exact ⟨x / 16, x % 16 / 8, x % 8, 0, by simp; omega⟩
  · exact ⟨x / 32, x % 32 / 16, x % 16 / 2, x % 2, by simp; omega⟩

/-- A block's spot, by its part. -/
theorem spot_part {m : Int} {p A B C D : Nat} (P : PartAt m p A B C D) (GA : Int) (i n : Nat) (hn : n < cntP m (p + 1) - cntP m p) :
    spotAt GA (sideW m) (sideH m) (unitL m) i (cntP m p + n) = ⟨i, cntP m p + n, p, partsN m, (n : Int) % A * 8 * C + (i : Int) % GA * ((8 * (A * C) : Nat) : Int), (n : Int) / A * 8 * D + (i : Int) / GA * ((8 * (B * D) : Nat) : Int), C, D⟩ := by
  unfold spotAt
  have hu : (unitL m).getD (cntP m p + n) ⟨0, 0, 0, 1, 0, 0, 1, 1⟩ = ⟨0, cntP m p + n, p, partsN m, (n : Int) % (A : Int) * 8 * C, (n : Int) / (A : Int) * 8 * D, C, D⟩ := by
    rw [List.getD_eq_getElem?_getD, P.u n hn]; rfl
  simp only [hu]
  rw [P.sw, P.sh]

theorem divmod_lt (n A B : Nat) (hA : A = 1 ∨ A = 2) (h : n < A * B) : (0 ≤ (n : Int) % (A : Int) ∧ (n : Int) % (A : Int) < A) ∧ (0 ≤ (n : Int) / (A : Int) ∧ (n : Int) / (A : Int) < B) :=
  ⟨⟨Int.emod_nonneg _ (by omega), Int.emod_lt_of_pos _ (by omega)⟩, ⟨Int.ediv_nonneg (by omega) (by omega), Int.ediv_lt_of_lt_mul (by omega) (by rw [Int.mul_comm]; exact_mod_cast h)⟩⟩

theorem at_C {W H m : Int} (f : Fit W H m) (F : Nat → Nat → Int) (M : Nat) (hM : (unitL m).length = M) (i b k n : Nat) (hb : b < M) (hk : k < 64)
    (hn : n < ((spotAt (gridW W H m) (sideW m) (sideH m) (unitL m) i b).wide * (spotAt (gridW W H m) (sideW m) (sideH m) (unitL m) i b).high).toNat) (h1 : pX (spotAt (gridW W H m) (sideW m) (sideH m) (unitL m) i b) k n < W) (h2 : pY (spotAt (gridW W H m) (sideW m) (sideH m) (unitL m) i b) k n < H) :
    atJ W H m F (pJ W (spotAt (gridW W H m) (sideW m) (sideH m) (unitL m) i b) k n) = clipF (F i (b * 64 + k)) 0 255 := by
  obtain ⟨p, n0, hp, hn0, rfl⟩ := part_of m f.m b (by rw [hM]; exact hb)
  obtain ⟨A, B, C, D, P⟩ := part_at m f.m p hp
  obtain ⟨g1, g2, g3, g4, g5, g6⟩ := f.grid
  obtain ⟨a1, a2, a3, a4⟩ := P.sA
  have hA := P.a
  have hB := P.b
  have hC := P.c
  have hD := P.d
  rw [spot_part P _ i n0 hn0] at hn h1 h2 ⊢
  dsimp only at hn
  have hnCD : n < C * D := by
    have e : ((C : Int) * (D : Int)).toNat = C * D := by rw [show (C : Int) * (D : Int) = ((C * D : Nat) : Int) by simp]; exact Int.toNat_natCast _
    rw [e] at hn; exact hn
  have hnAB : n0 < A * B := by rw [P.n]; exact hn0
  obtain ⟨t1, t2⟩ := divmod_lt n0 A B hA hnAB
  obtain ⟨z1, z2⟩ := divmod_lt n C D hC hnCD
  have q1 : 0 ≤ (i : Int) % gridW W H m := Int.emod_nonneg _ (by omega)
  have q2 : 0 ≤ (i : Int) / gridW W H m := Int.ediv_nonneg (by omega) (by omega)
  obtain ⟨x1, x2, x3⟩ := axis_in A C hA hC _ _ ((k : Int) % 8) _ q1 t1 (by omega) z1
  obtain ⟨y1, y2, y3⟩ := axis_in B D hB hD _ _ ((k : Int) / 8) _ q2 t2 (by omega) z2
  have hX : pX ⟨i, cntP m p + n0, p, partsN m, (n0 : Int) % A * 8 * C + (i : Int) % gridW W H m * ((8 * (A * C) : Nat) : Int), (n0 : Int) / A * 8 * D + (i : Int) / gridW W H m * ((8 * (B * D) : Nat) : Int), C, D⟩ k n = (n0 : Int) % A * 8 * C + (i : Int) % gridW W H m * ((8 * (A * C) : Nat) : Int) + (k : Int) % 8 * C + (n : Int) % C := rfl
  have hY : pY ⟨i, cntP m p + n0, p, partsN m, (n0 : Int) % A * 8 * C + (i : Int) % gridW W H m * ((8 * (A * C) : Nat) : Int), (n0 : Int) / A * 8 * D + (i : Int) / gridW W H m * ((8 * (B * D) : Nat) : Int), C, D⟩ k n = (n0 : Int) / A * 8 * D + (i : Int) / gridW W H m * ((8 * (B * D) : Nat) : Int) + (k : Int) / 8 * D + (n : Int) / C := rfl
  unfold pJ
  rw [hX] at h1 ⊢
  rw [hY] at h2 ⊢
  dsimp only
  generalize hx : (n0 : Int) % A * 8 * C + (i : Int) % gridW W H m * ((8 * (A * C) : Nat) : Int) + (k : Int) % 8 * C + (n : Int) % C = X at *
  generalize hy : (n0 : Int) / A * 8 * D + (i : Int) / gridW W H m * ((8 * (B * D) : Nat) : Int) + (k : Int) / 8 * D + (n : Int) / C = Y at *
  have hW := f.w
  have hpn : 0 < partsN m := by unfold partsN; split <;> omega
  have w0 : 0 ≤ Y * W := Int.mul_nonneg y3 (by omega)
  obtain ⟨T, hT⟩ : ∃ T : Nat, Y * W + X = (T : Int) := ⟨(Y * W + X).toNat, by omega⟩
  have eT : ((Y * W + X) * (partsN m : Int) + (p : Int)).toNat = T * partsN m + p := by rw [hT]; omega
  rw [eT]
  have d1 : (T * partsN m + p) / partsN m = T := by rw [Nat.add_comm, Nat.add_mul_div_right _ _ hpn, Nat.div_eq_of_lt hp, Nat.zero_add]
  have d2 : (T * partsN m + p) % partsN m = p := by rw [Nat.add_comm, Nat.add_mul_mod_self_right, Nat.mod_eq_of_lt hp]
  have d3 : (T : Int) % W = X := by rw [← hT, Int.add_comm, Int.add_mul_emod_self_right, Int.emod_eq_of_lt x3 h1]
  have d4 : (T : Int) / W = Y := by rw [← hT, Int.add_comm, Int.add_mul_ediv_right _ _ (by omega), Int.ediv_eq_zero_of_lt x3 h1, Int.zero_add]
  unfold atJ
  rw [d1, d2, d3, d4]
  unfold atF
  have eI : atI W H m X Y = i := by
    unfold atI
    rw [P.sw, P.sh, x1, y1, Int.mul_comm, Int.mul_ediv_add_emod]
    exact Int.toNat_natCast _
  have eU : atU m p X = (n0 : Int) % A * 8 + (k : Int) % 8 := by unfold atU; rw [P.sw, a1, a3]; exact x2
  have eV : atV m p Y = (n0 : Int) / A * 8 + (k : Int) / 8 := by unfold atV; rw [P.sh, a2, a4]; exact y2
  have eB : atB m p X Y = cntP m p + n0 := by
    unfold atB
    rw [eU, eV, a1, show ((n0 : Int) / A * 8 + (k : Int) / 8) / 8 = (n0 : Int) / A by omega, show ((n0 : Int) % A * 8 + (k : Int) % 8) / 8 = (n0 : Int) % A by omega]
    have := Int.mul_ediv_add_emod (n0 : Int) (A : Int)
    rw [Int.mul_comm] at this
    omega
  have eK : atK m p X Y = k := by
    unfold atK
    rw [eU, eV]
    omega
  rw [eI, eB, eK]

theorem at_S {W H m : Int} (f : Fit W H m) (Z N M : Nat) (hZ : W * H * partsN m = Z) (hN : (gridW W H m * gridH W H m).toNat = N) (hM : (unitL m).length = M) (j : Nat) (hj : j < Z) :
    ∃ i b k n, i < N ∧ b < M ∧ k < 64 ∧ n < ((spotAt (gridW W H m) (sideW m) (sideH m) (unitL m) i b).wide * (spotAt (gridW W H m) (sideW m) (sideH m) (unitL m) i b).high).toNat ∧ pX (spotAt (gridW W H m) (sideW m) (sideH m) (unitL m) i b) k n < W ∧ pY (spotAt (gridW W H m) (sideW m) (sideH m) (unitL m) i b) k n < H ∧ pJ W (spotAt (gridW W H m) (sideW m) (sideH m) (unitL m) i b) k n = j := by
  obtain ⟨g1, g2, g3, g4, g5, g6⟩ := f.grid
  have s := side_fit f.m
  have ca := ceil_in W (sideW m) f.w.1 f.w.2 s.1 s.2.1
  have cb := ceil_in H (sideH m) f.h.1 f.h.2 s.2.2.1 s.2.2.2
  rw [← g1] at ca
  rw [← g2] at cb
  obtain ⟨-, -, -, ca4, -⟩ := ca
  obtain ⟨-, -, -, cb4, -⟩ := cb
  have hW := f.w
  have hH := f.h
  have hpn : 0 < partsN m := by unfold partsN; split <;> omega
  have hp : j % partsN m < partsN m := Nat.mod_lt _ hpn
  obtain ⟨p, hpe⟩ : ∃ p, j % partsN m = p := ⟨_, rfl⟩
  obtain ⟨T, hTe⟩ : ∃ T, j / partsN m = T := ⟨_, rfl⟩
  rw [hpe] at hp
  have ejT : T * partsN m + p = j := by rw [← hTe, ← hpe, Nat.mul_comm]; exact Nat.div_add_mod j (partsN m)
  have hTW : (T : Int) < W * H := by
    have h1 : (T : Int) * (partsN m : Int) < W * H * (partsN m : Int) := by rw [hZ]; exact_mod_cast (show T * partsN m < Z by omega)
    exact Int.lt_of_mul_lt_mul_right h1 (by omega)
  obtain ⟨A, B, C, D, P⟩ := part_at m f.m p hp
  have hA := P.a
  have hB := P.b
  have hC := P.c
  have hD := P.d
  have x0 : 0 ≤ (T : Int) % W := Int.emod_nonneg _ (by omega)
  have x9 : (T : Int) % W < W := Int.emod_lt_of_pos _ (by omega)
  have y0 : 0 ≤ (T : Int) / W := Int.ediv_nonneg (by omega) (by omega)
  have y9 : (T : Int) / W < H := Int.ediv_lt_of_lt_mul (by omega) (by rw [Int.mul_comm]; exact hTW)
  obtain ⟨q, t, e, z, hq, ht, he, hz, ex, eq⟩ := axis_out A C hA hC _ x0
  obtain ⟨q', t', e', z', hq', ht', he', hz', ey, eq'⟩ := axis_out B D hB hD _ y0
  rw [← P.sw] at eq
  rw [← P.sh] at eq'
  have hqA : q < gridW W H m := by rw [eq]; exact Int.ediv_lt_of_lt_mul (by omega) (by omega)
  have hqB : q' < gridH W H m := by rw [eq']; exact Int.ediv_lt_of_lt_mul (by omega) (by omega)
  generalize gridW W H m = GA at *
  generalize gridH W H m = GB at *
  obtain ⟨i, hi⟩ : ∃ i : Nat, q' * GA + q = (i : Int) := ⟨(q' * GA + q).toNat, by have := Int.mul_nonneg hq' (show 0 ≤ GA by omega); omega⟩
  obtain ⟨n0, hn0⟩ : ∃ n0 : Nat, t' * A + t = (n0 : Int) := ⟨(t' * A + t).toNat, by have := Int.mul_nonneg ht'.1 (show (0 : Int) ≤ (A : Int) by omega); omega⟩
  obtain ⟨k, hk⟩ : ∃ k : Nat, e' * 8 + e = (k : Int) := ⟨(e' * 8 + e).toNat, by omega⟩
  obtain ⟨n, hn⟩ : ∃ n : Nat, z' * C + z = (n : Int) := ⟨(z' * C + z).toNat, by have := Int.mul_nonneg hz'.1 (show (0 : Int) ≤ (C : Int) by omega); omega⟩
  have iN : i < N := by
    have h1 : q' * GA + GA ≤ GA * GB := by
      have : (q' + 1) * GA ≤ GB * GA := Int.mul_le_mul_of_nonneg_right (by omega) (by omega)
      rw [Int.add_mul, Int.one_mul, Int.mul_comm GB GA] at this
      exact this
    omega
  have im : (i : Int) % GA = q := by rw [← hi, Int.add_comm, Int.add_mul_emod_self_right, Int.emod_eq_of_lt hq hqA]
  have id : (i : Int) / GA = q' := by rw [← hi, Int.add_comm, Int.add_mul_ediv_right _ _ (by omega), Int.ediv_eq_zero_of_lt hq hqA, Int.zero_add]
  have nm : (n0 : Int) % (A : Int) = t := by rw [← hn0, Int.add_comm, Int.add_mul_emod_self_right, Int.emod_eq_of_lt ht.1 ht.2]
  have nd : (n0 : Int) / (A : Int) = t' := by rw [← hn0, Int.add_comm, Int.add_mul_ediv_right _ _ (by omega), Int.ediv_eq_zero_of_lt ht.1 ht.2, Int.zero_add]
  have zm : (n : Int) % (C : Int) = z := by rw [← hn, Int.add_comm, Int.add_mul_emod_self_right, Int.emod_eq_of_lt hz.1 hz.2]
  have zd : (n : Int) / (C : Int) = z' := by rw [← hn, Int.add_comm, Int.add_mul_ediv_right _ _ (by omega), Int.ediv_eq_zero_of_lt hz.1 hz.2, Int.zero_add]
  have hnAB : n0 < A * B := by
    have h1 : t' * (A : Int) + A ≤ (B : Int) * A := by
      have : (t' + 1) * (A : Int) ≤ (B : Int) * A := Int.mul_le_mul_of_nonneg_right (by omega) (by omega)
      rw [Int.add_mul, Int.one_mul] at this
      exact this
    have h2 : (n0 : Int) < (B : Int) * A := by omega
    rw [Nat.mul_comm]; exact_mod_cast h2
  have hnCD : n < C * D := by
    have h1 : z' * (C : Int) + C ≤ (D : Int) * C := by
      have : (z' + 1) * (C : Int) ≤ (D : Int) * C := Int.mul_le_mul_of_nonneg_right (by omega) (by omega)
      rw [Int.add_mul, Int.one_mul] at this
      exact this
    have h2 : (n : Int) < (D : Int) * C := by omega
    rw [Nat.mul_comm]; exact_mod_cast h2
  have hnc : n0 < cntP m (p + 1) - cntP m p := by rw [← P.n]; exact hnAB
  have hul := P.ul
  refine ⟨i, cntP m p + n0, k, n, iN, by omega, by omega, ?_⟩
  rw [spot_part P GA i n0 hnc]
  have hX : pX ⟨i, cntP m p + n0, p, partsN m, (n0 : Int) % A * 8 * C + (i : Int) % GA * ((8 * (A * C) : Nat) : Int), (n0 : Int) / A * 8 * D + (i : Int) / GA * ((8 * (B * D) : Nat) : Int), C, D⟩ k n = (T : Int) % W := by
    show (n0 : Int) % A * 8 * C + (i : Int) % GA * ((8 * (A * C) : Nat) : Int) + (k : Int) % 8 * C + (n : Int) % C = (T : Int) % W
    rw [nm, im, zm, ex, show (k : Int) % 8 = e by omega]
  have hY : pY ⟨i, cntP m p + n0, p, partsN m, (n0 : Int) % A * 8 * C + (i : Int) % GA * ((8 * (A * C) : Nat) : Int), (n0 : Int) / A * 8 * D + (i : Int) / GA * ((8 * (B * D) : Nat) : Int), C, D⟩ k n = (T : Int) / W := by
    show (n0 : Int) / A * 8 * D + (i : Int) / GA * ((8 * (B * D) : Nat) : Int) + (k : Int) / 8 * D + (n : Int) / C = (T : Int) / W
    rw [nd, id, zd, ey, show (k : Int) / 8 = e' by omega]
  refine ⟨?_, by rw [hX]; exact x9, by rw [hY]; exact y9, ?_⟩
  · dsimp only
    rw [show (C : Int) * (D : Int) = ((C * D : Nat) : Int) by simp, Int.toNat_natCast]
    exact hnCD
  · unfold pJ
    rw [hX, hY]
    dsimp only
    have := Int.mul_ediv_add_emod (T : Int) W
    rw [show (T : Int) / W * W + (T : Int) % W = (T : Int) by rw [Int.mul_comm]; exact this, ← ejT]
    omega

theorem clip255 (a : Int) : 0 ≤ clipF a 0 255 ∧ clipF a 0 255 ≤ 255 := by unfold clipF; (repeat' split) <;> omega

theorem atJ_in (W H m : Int) (F : Nat → Nat → Int) (j : Nat) : 0 ≤ atJ W H m F j ∧ atJ W H m F j ≤ 255 := clip255 _

end Go.Proofs.Ytppbnmlgilgnnaa

/- Join and JoinSec of any mode; of what is not whole. -/
namespace Go.Proofs.Ytppbnmlgilgnnaa
open Go.ChangeShapes Go.WideShapes Go.ChangeAt Go.RowKit

theorem grid_small {W H m : Int} (f : Fit W H m) (N : Nat) (hN : (gridW W H m * gridH W H m).toNat = N) : N ≤ 2000000 := by
  obtain ⟨e1, e2, g3, g4, g5, g6⟩ := f.grid
  have sd := side_fit f.m
  have a := ceil_in W (sideW m) f.w.1 f.w.2 sd.1 sd.2.1
  have b := ceil_in H (sideH m) f.h.1 f.h.2 sd.2.2.1 sd.2.2.2
  rw [← e1] at a
  rw [← e2] at b
  have a1 : (gridW W H m - 1) * 8 ≤ (gridW W H m - 1) * sideW m := Int.mul_le_mul_of_nonneg_left sd.1 (by omega)
  have b1 : (gridH W H m - 1) * 8 ≤ (gridH W H m - 1) * sideH m := Int.mul_le_mul_of_nonneg_left sd.2.2.1 (by omega)
  have c1 : gridW W H m * gridH W H m ≤ W * H := Int.mul_le_mul (by omega) (by omega) (by omega) (by omega)
  have := f.s
  omega

/-- The words of an image that is joined. -/
def joinL (W H m : Int) (F : Nat → Nat → Int) (Z : Nat) : List Int := backL m ((List.range Z).map (atJ W H m F))

theorem joinL_length (W H m : Int) (F : Nat → Nat → Int) (Z : Nat) : (joinL W H m F Z).length = Z := by unfold joinL; rw [backL_length]; simp

theorem joinL_in (W H m : Int) (F : Nat → Nat → Int) (Z : Nat) : ∀ x ∈ joinL W H m F Z, 0 ≤ x ∧ x ≤ 255 := by
  intro x hx
  unfold joinL backL at hx
  split at hx
  · simp only [List.mem_map] at hx
    obtain ⟨j, -, rfl⟩ := hx
    exact atJ_in W H m F j
  · simp only [List.mem_map] at hx
    obtain ⟨j, -, rfl⟩ := hx
    exact of_in _ _ _ _

set_option maxHeartbeats 6400000 in
set_option maxRecDepth 100000 in
theorem planeJoin_yes (W H m q i0 c : Int) (f : Fit W H m) (v : Value) (F : Nat → Nat → Int) (Z N M : Nat) (w : World) (hZ : W * H * partsN m = Z) (hN : (gridW W H m * gridH W H m).toNat = N) (hM : (unitL m).length = M) (h : BA w v N (fun _ => M) F) :
    Calls Try.prog 16 #[pV W H m q i0 c, v] w fun e w' => (∃ pv, e = .returned (imV W H (m != 1) pv) ∧ View w' .u8 pv (joinL W H m F Z)) ∧ But Nowhere w w' := by
  have hu := Try.underlying34
  obtain ⟨-, -, g3, g4, g5, g6⟩ := f.grid
  have hN2 : N ≤ 2000000 := grid_small f N hN
  obtain ⟨hM0, hM6⟩ := unit_pos m
  rw [hM] at hM0 hM6
  have hZ4 : Z ≤ 4000000 := by
    have p1 : 1 ≤ (partsN m : Int) ∧ (partsN m : Int) ≤ 3 := by unfold partsN; split <;> simp
    have : W * H * (partsN m : Int) ≤ 1048576 * 3 := Int.mul_le_mul f.s p1.2 (by omega) (by omega)
    omega
  have HX : Hid _ := joinL_in W H m F Z
  have HLI : Hid _ := joinL_length W H m F Z
  have HJ : Hid (∀ V u, BA V u N (fun _ => M) F → Calls Try.prog 34 #[.agg byPN.toArray, pV W H m q i0 c, u] V fun e w' => (∃ v', e = .returned v' ∧ View w' .i64 v' (joinL W H m F Z)) ∧ But Nowhere V w') := fun V u hu => joinN_all W H m q i0 c f u F (atJ W H m F) Z N M V hZ hN hM hu (fun i b k n _ hb hk hn h1 h2 => at_C f F M hM i b k n hb hk hn h1 h2) (at_S f Z N M hZ hN hM) (fun j _ => atJ_in W H m F j)
  have HWH : ∀ V, BA V v N (fun _ => M) F → Calls Try.prog 33 #[pV W H m q i0 c, v] V fun e w' => e = .returned (.bool true) ∧ But Nowhere V w' := fun V hV => by
    have := isWholeB W H m q i0 c f v (fun _ => M) F V (by rw [hN]; exact hV)
    refine this.mono ?_
    rintro e w' ⟨⟨r, rfl, hr⟩, b⟩
    rcases hr with ⟨rfl, -⟩ | ⟨-, i, -, h2⟩
    · exact ⟨rfl, b⟩
    · exact absurd hM.symm h2
  have HH : Hid (BA w v N (fun _ => M) F) := h
  obtain ⟨ao, vcap, rfl, -⟩ := h
  have kk := ((Keep.start w).made 23 (pC W H m q i0 c)).made 34 (imC 0 0 false (.slice none 0 0))
  simp only [World.size_alloc] at kk
  have HWI := HWH _ (HH.out.but kk.but)
  obtain ⟨li, hli⟩ : ∃ li, joinL W H m F Z = li := ⟨_, rfl⟩
  rw [hli] at HX HLI HJ ⊢
  clear hZ hN hM g3 g4 g5 g6 HWH hli f
  go_enter Try.func16, Try.ntmps16
  go_wp2_with fail
  refine HWI.mono ?_
  rintro e w1 ⟨rfl, b1⟩
  replace kk := (kk.step b1).drew
  clear b1 HWI
  have HS : ∀ V l, Keep w V ((w.heap.size + 1, 34, l) :: [(w.heap.size, 23, pC W H m q i0 c)]) → (V.cell? ⟨w.heap.size, 0, none⟩ = some (.int .i64 W) ∧ V.cell? ⟨w.heap.size, 1, none⟩ = some (.int .i64 H) ∧ V.cell? ⟨w.heap.size, 2, none⟩ = some (.int .i64 m) ∧ V.cell? ⟨w.heap.size, 3, none⟩ = some (.int .i64 q) ∧ V.cell? ⟨w.heap.size, 4, none⟩ = some (.int .i64 i0) ∧ V.cell? ⟨w.heap.size, 5, none⟩ = some (.int .i64 c)) := fun V l kk => have gP := (kk.get (b := w.heap.size) (t := 23) (c := pC W H m q i0 c) (by simp)); ⟨gP.at 0, gP.at 1, gP.at 2, gP.at 3, gP.at 4, gP.at 5⟩
  go_wp2_with fail
  refine wp_region_till (S := fun V => V.cell? ⟨w.heap.size, 0, none⟩ = some (.int .i64 W) ∧ V.cell? ⟨w.heap.size, 1, none⟩ = some (.int .i64 H) ∧ V.cell? ⟨w.heap.size, 2, none⟩ = some (.int .i64 m) ∧ V.cell? ⟨w.heap.size, 3, none⟩ = some (.int .i64 q) ∧ V.cell? ⟨w.heap.size, 4, none⟩ = some (.int .i64 i0) ∧ V.cell? ⟨w.heap.size, 5, none⟩ = some (.int .i64 c)) (R := fun _ => True) (k := 100) (m := 100) (by kernel_rfl) (HS _ _ kk) trivial ?_
  (refine Walk.take (i := 1) (oi := { dst := some 12, op := Op.load 23 (Operand.tmp 2), type := 23, pos := "plane.go:92", after := #[], guard := none }) (v := ?_) rfl (by kernel_rfl) (by kernel_rfl) (by kernel_rfl) (by kernel_rfl) (fun _ _ _ h => h) (Or.inl ⟨by rfl, ?_⟩) ?_; rotate_left; (intro w hw; have hS1 := hw.1 (by kernel_rfl); clear hw; (try dsimp only at hS1); (try go_split_ands); go_simp; try (with_reducible rfl)); simp only [Act.put, List.setIfInBounds_toArray, List.set_cons_zero, List.set_cons_succ])
  (refine Walk.take (i := 2) (oi := { dst := some 13, op := Op.move (Operand.tmp 1), type := 29, pos := "plane.go:92", after := #[], guard := none }) (v := ?_) rfl (by kernel_rfl) (by kernel_rfl) (by kernel_rfl) (by kernel_rfl) (fun _ _ _ h => h) (Or.inl ⟨by rfl, ?_⟩) ?_; rotate_left; (intro w hw; clear hw; (try go_split_ands); go_simp; try (with_reducible rfl)); simp only [Act.put, List.setIfInBounds_toArray, List.set_cons_zero, List.set_cons_succ])
  (refine Walk.go (i := 0) (o := { dst := some 11, op := Op.call { callee := Callee.value (Operand.func 35), args := #[], argTypes := #[] }, type := 75, pos := "plane.go:92", after := #[], guard := none }) (by kernel_rfl) rfl (fun K hK => ?_); go_simp; ((go_at_call 35; refine (planePlain_any _).mono ?_; rintro e x0 ⟨rfl, d⟩; replace kk := kk.step d; clear d)); refine hK.out _ _ (⟨fun _ => HS _ _ kk, fun _ => trivial⟩) ?_; clear hK K; try simp only [Act.put, List.setIfInBounds_toArray, List.set_cons_zero, List.set_cons_succ])
  (refine Walk.go (i := 3) (o := { dst := some 14, op := Op.call { callee := Callee.value (Operand.func 36), args := #[Operand.tmp 13], argTypes := #[29] }, type := 77, pos := "plane.go:92", after := #[{ on := 2, ground := Ground.data }, { on := 0, ground := Ground.chain }], guard := none }) (by kernel_rfl) rfl (fun K hK => ?_); go_simp; ((go_at_call 36; refine (wordsBA _ N M F _ (HH.out.but kk.but) hN2 (by omega) hM0).mono ?_; rintro e x1 ⟨⟨v1, G1, rfl, hB1, -⟩, d⟩; replace hB1 := hB1.ba; replace kk := kk.step d; clear d)); refine hK.out _ _ (⟨fun _ => HS _ _ kk, fun _ => trivial⟩) ?_; clear hK K; try simp only [Act.put, List.setIfInBounds_toArray, List.set_cons_zero, List.set_cons_succ])
  (refine Walk.go (i := 4) (o := { dst := some 15, op := Op.call { callee := Callee.value (Operand.func 34), args := #[Operand.tmp 11, Operand.tmp 12, Operand.tmp 14], argTypes := #[75, 23, 77] }, type := 71, pos := "plane.go:92", after := #[{ on := 0, ground := Ground.data }, { on := 1, ground := Ground.data }, { on := 3, ground := Ground.data }, { on := 3, ground := Ground.chain }], guard := none }) (by kernel_rfl) rfl (fun K hK => ?_); go_simp; ((go_at_call 34; refine (HJ.out _ _ hB1).mono ?_; rintro e x2 ⟨⟨v2, rfl, hc2⟩, d⟩; replace kk := kk.step d; clear d hB1)); refine hK.out _ _ (⟨fun _ => HS _ _ kk, fun _ => trivial⟩) ?_; clear hK K; try simp only [Act.put, List.setIfInBounds_toArray, List.set_cons_zero, List.set_cons_succ])
  (refine Walk.take (i := 5) (oi := { dst := some 5, op := Op.assign (Operand.tmp 15), type := 71, pos := "plane.go:92", after := #[{ on := 4, ground := Ground.data }, { on := 4, ground := Ground.chain }, { on := 0, ground := Ground.phase }, { on := 1, ground := Ground.phase }, { on := 2, ground := Ground.phase }, { on := 3, ground := Ground.phase }, { on := 4, ground := Ground.phase }], guard := none }) (v := ?_) rfl (by kernel_rfl) (by kernel_rfl) (by kernel_rfl) (by kernel_rfl) (fun _ _ _ h => h) (Or.inl ⟨by rfl, ?_⟩) ?_; rotate_left; (intro w hw; clear hw; (try go_split_ands); go_simp; try (with_reducible rfl)); simp only [Act.put, List.setIfInBounds_toArray, List.set_cons_zero, List.set_cons_succ])
  refine Walk.done (by kernel_rfl) ?_ _
  have hc3 := hc2.but ((But.refl Nowhere x2).drew)
  obtain ⟨vo2, vc2, rfl⟩ := hc2.slice
  replace kk := kk.drew
  clear hc2
  go_wp2_with fail
  refine wp_region_till (S := fun V => V.cell? ⟨w.heap.size, 0, none⟩ = some (.int .i64 W) ∧ V.cell? ⟨w.heap.size, 1, none⟩ = some (.int .i64 H) ∧ V.cell? ⟨w.heap.size, 2, none⟩ = some (.int .i64 m) ∧ V.cell? ⟨w.heap.size, 3, none⟩ = some (.int .i64 q) ∧ V.cell? ⟨w.heap.size, 4, none⟩ = some (.int .i64 i0) ∧ V.cell? ⟨w.heap.size, 5, none⟩ = some (.int .i64 c)) (R := fun _ => True) (k := 10) (m := 100) (by kernel_rfl) (HS _ _ kk) trivial ?_
  (refine Walk.take (i := 0) (oi := { dst := some 16, op := Op.fieldAddr 23 (Operand.tmp 2) 0, type := 0, pos := "plane.go:93", after := #[], guard := none }) (v := ?_) rfl (by kernel_rfl) (by kernel_rfl) (by kernel_rfl) (by kernel_rfl) (fun _ _ _ h => h) (Or.inl ⟨by rfl, ?_⟩) ?_; rotate_left; (intro w hw; clear hw; (try go_split_ands); go_simp; try (with_reducible rfl)); simp only [Act.put, List.setIfInBounds_toArray, List.set_cons_zero, List.set_cons_succ])
  (refine Walk.take (i := 1) (oi := { dst := some 17, op := Op.load 3 (Operand.tmp 16), type := 3, pos := "plane.go:93", after := #[{ on := 0, ground := Ground.data }], guard := none }) (v := ?_) rfl (by kernel_rfl) (by kernel_rfl) (by kernel_rfl) (by kernel_rfl) (fun _ _ _ h => h) (Or.inl ⟨by rfl, ?_⟩) ?_; rotate_left; (intro w hw; have hS1 := hw.1 (by kernel_rfl); clear hw; (try dsimp only at hS1); (try go_split_ands); go_simp; try (with_reducible rfl)); simp only [Act.put, List.setIfInBounds_toArray, List.set_cons_zero, List.set_cons_succ])
  (refine Walk.take (i := 2) (oi := { dst := some 18, op := Op.fieldAddr 23 (Operand.tmp 2) 1, type := 0, pos := "plane.go:93", after := #[], guard := none }) (v := ?_) rfl (by kernel_rfl) (by kernel_rfl) (by kernel_rfl) (by kernel_rfl) (fun _ _ _ h => h) (Or.inl ⟨by rfl, ?_⟩) ?_; rotate_left; (intro w hw; clear hw; (try go_split_ands); go_simp; try (with_reducible rfl)); simp only [Act.put, List.setIfInBounds_toArray, List.set_cons_zero, List.set_cons_succ])
  (refine Walk.take (i := 3) (oi := { dst := some 19, op := Op.load 3 (Operand.tmp 18), type := 3, pos := "plane.go:93", after := #[{ on := 2, ground := Ground.data }], guard := none }) (v := ?_) rfl (by kernel_rfl) (by kernel_rfl) (by kernel_rfl) (by kernel_rfl) (fun _ _ _ h => h) (Or.inl ⟨by rfl, ?_⟩) ?_; rotate_left; (intro w hw; have hS1 := hw.1 (by kernel_rfl); clear hw; (try dsimp only at hS1); (try go_split_ands); go_simp; try (with_reducible rfl)); simp only [Act.put, List.setIfInBounds_toArray, List.set_cons_zero, List.set_cons_succ])
  (refine Walk.take (i := 4) (oi := { dst := some 20, op := Op.fieldAddr 23 (Operand.tmp 2) 2, type := 0, pos := "plane.go:93", after := #[], guard := none }) (v := ?_) rfl (by kernel_rfl) (by kernel_rfl) (by kernel_rfl) (by kernel_rfl) (fun _ _ _ h => h) (Or.inl ⟨by rfl, ?_⟩) ?_; rotate_left; (intro w hw; clear hw; (try go_split_ands); go_simp; try (with_reducible rfl)); simp only [Act.put, List.setIfInBounds_toArray, List.set_cons_zero, List.set_cons_succ])
  (refine Walk.take (i := 5) (oi := { dst := some 21, op := Op.load 3 (Operand.tmp 20), type := 3, pos := "plane.go:93", after := #[{ on := 4, ground := Ground.data }], guard := none }) (v := ?_) rfl (by kernel_rfl) (by kernel_rfl) (by kernel_rfl) (by kernel_rfl) (fun _ _ _ h => h) (Or.inl ⟨by rfl, ?_⟩) ?_; rotate_left; (intro w hw; have hS1 := hw.1 (by kernel_rfl); clear hw; (try dsimp only at hS1); (try go_split_ands); go_simp; try (with_reducible rfl)); simp only [Act.put, List.setIfInBounds_toArray, List.set_cons_zero, List.set_cons_succ])
  (refine Walk.take (i := 6) (oi := { dst := some 22, op := Op.binOp BinOp.neq 3 (Operand.tmp 21) (Operand.const (Value.int IntKind.i64 1)) 3, type := 4, pos := "plane.go:93", after := #[{ on := 5, ground := Ground.data }], guard := none }) (v := ?_) rfl (by kernel_rfl) (by kernel_rfl) (by kernel_rfl) (by kernel_rfl) (fun _ _ _ h => h) (Or.inl ⟨by rfl, ?_⟩) ?_; rotate_left; (intro w hw; clear hw; (try go_split_ands); go_simp; try (with_reducible rfl)); simp only [Act.put, List.setIfInBounds_toArray, List.set_cons_zero, List.set_cons_succ])
  (refine Walk.take (i := 7) (oi := { dst := some 23, op := Op.move (Operand.tmp 5), type := 71, pos := "plane.go:93", after := #[], guard := none }) (v := ?_) rfl (by kernel_rfl) (by kernel_rfl) (by kernel_rfl) (by kernel_rfl) (fun _ _ _ h => h) (Or.inl ⟨by rfl, ?_⟩) ?_; rotate_left; (intro w hw; clear hw; (try go_split_ands); go_simp; try (with_reducible rfl)); simp only [Act.put, List.setIfInBounds_toArray, List.set_cons_zero, List.set_cons_succ])
  (refine Walk.go (i := 8) (o := { dst := some 24, op := Op.call { callee := Callee.value (Operand.func 37), args := #[Operand.tmp 23], argTypes := #[71] }, type := 30, pos := "plane.go:93", after := #[{ on := 7, ground := Ground.data }], guard := none }) (by kernel_rfl) rfl (fun K hK => ?_); go_simp; ((go_at_call 37; refine (bytesOf_any _ li _ hc3 HX.out (by rw [HLI.out]; exact hZ4)).mono ?_; rintro e x3 ⟨rfl, hc4, d⟩; have hlt9 := kk.head.lt; replace kk := kk.step d; clear d; rw [HLI.out] at hc4 ⊢)); refine hK.out _ _ (⟨fun _ => HS _ _ kk, fun _ => trivial⟩) ?_; clear hK K; try simp only [Act.put, List.setIfInBounds_toArray, List.set_cons_zero, List.set_cons_succ])
  (refine Walk.take (i := 9) (oi := { dst := some 25, op := Op.build 34 #[(0, Operand.tmp 17), (1, Operand.tmp 19), (2, Operand.tmp 22), (3, Operand.tmp 24)], type := 34, pos := "plane.go:93", after := #[{ on := 1, ground := Ground.data }, { on := 3, ground := Ground.data }, { on := 6, ground := Ground.data }, { on := 8, ground := Ground.data }], guard := none }) (v := ?_) rfl (by kernel_rfl) (by kernel_rfl) (by kernel_rfl) (by kernel_rfl) (fun _ _ _ h => h) (Or.inl ⟨by rfl, ?_⟩) ?_; rotate_left; (intro w hw; clear hw; (try go_split_ands); go_simp; try (with_reducible rfl)); simp only [Act.put, List.setIfInBounds_toArray, List.set_cons_zero, List.set_cons_succ])
  have d0 := kk.head.at 0
  have d1 := kk.head.at 1
  have d2 := kk.head.at 2
  have d3 := kk.head.at 3
  have f0 := kk.head.frozen 0
  have f1 := kk.head.frozen 1
  have f2 := kk.head.frozen 2
  have f3 := kk.head.frozen 3
  simp only [List.getElem?_cons_zero, List.getElem?_cons_succ] at d0 d1 d2 d3
  revert hc4 hlt9
  generalize hgb : x2.drew.heap.size = gb
  intro hc4 hlt9
  obtain rfl : x2.heap.size = gb := hgb
  (refine Walk.go (i := 10) (o := { dst := none, op := Op.store 34 (Operand.tmp 4) (Operand.tmp 25), type := 0, pos := "plane.go:93", after := #[{ on := 9, ground := Ground.data }, { on := 8, ground := Ground.chain }, { on := 0, ground := Ground.phase }, { on := 1, ground := Ground.phase }, { on := 2, ground := Ground.phase }, { on := 3, ground := Ground.phase }, { on := 4, ground := Ground.phase }, { on := 5, ground := Ground.phase }, { on := 6, ground := Ground.phase }, { on := 7, ground := Ground.phase }, { on := 8, ground := Ground.phase }, { on := 9, ground := Ground.phase }], guard := none }) (by kernel_rfl) rfl (fun K hK => ?_); go_simp; (skip); refine hK.out _ _ (⟨fun q => absurd q (by decide), fun _ => trivial⟩) ?_; clear hK K; try simp only [Act.put, List.setIfInBounds_toArray, List.set_cons_zero, List.set_cons_succ])
  refine Walk.done (by kernel_rfl) ?_ _
  have hne : w.heap.size + 1 ≠ x2.heap.size := by omega
  have hc5 := (((hc4.far (c := w.heap.size + 1) (by omega) 0 (.int .i64 W)).far (c := w.heap.size + 1) (by omega) 1 (.int .i64 H)).far (c := w.heap.size + 1) (by omega) 2 (.bool (m != 1))).far (c := w.heap.size + 1) (by omega) 3 (.slice (some ⟨x2.heap.size, 0, none⟩) Z Z)
  have hv := Tb.view ⟨x2.heap.size, rfl, hc5⟩
  have hL : (List.range Z).map (fun j => gn li j) = li := by
    have := gn_all li
    rw [HLI.out] at this
    exact this
  rw [hL] at hv
  replace kk := (((kk.set 0 (.int .i64 W)).set 1 (.int .i64 H)).set 2 (.bool (m != 1))).set 3 (.slice (some ⟨x2.heap.size, 0, none⟩) Z Z)
  simp only [List.set_cons_zero, List.set_cons_succ] at kk
  clear hc4 hc5 d0 d1 d2 d3 f0 f1 f2 f3
  go_wp2_with fail
  exact bodyPost_ret (results_cells rfl kk.head hu rfl (by kernel_rfl) _ rfl) rfl ⟨⟨_, rfl, hv⟩, kk.but⟩

set_option maxHeartbeats 1600000 in
set_option maxRecDepth 100000 in
theorem planeJoin_no (W H m q i c : Int) (vo : Option Addr) (n vc : Nat) (w : World) (HW : ∀ V, But Nowhere w V → Calls Try.prog 33 #[pV W H m q i c, .slice vo n vc] V fun e w' => e = .returned (.bool false) ∧ But Nowhere V w') : Calls Try.prog 16 #[pV W H m q i c, .slice vo n vc] w fun e w' => e = .returned (imV 0 0 false (.slice none 0 0)) ∧ But Nowhere w w' := by
  have hu := Try.underlying34
  have kk := ((Keep.start w).made 23 (pC W H m q i c)).made 34 (imC 0 0 false (.slice none 0 0))
  simp only [World.size_alloc] at kk
  have HWI := HW _ kk.but
  clear HW
  go_enter Try.func16, Try.ntmps16
  go_wp2_with fail
  refine HWI.mono ?_
  rintro e w1 ⟨rfl, b1⟩
  replace kk := kk.step b1
  clear b1 HWI
  have d0 := kk.head.at 0
  have d1 := kk.head.at 1
  have d2 := kk.head.at 2
  have d3 := kk.head.at 3
  have f0 := kk.head.frozen 0
  have f1 := kk.head.frozen 1
  have f2 := kk.head.frozen 2
  have f3 := kk.head.frozen 3
  simp only [List.getElem?_cons_zero, List.getElem?_cons_succ] at d0 d1 d2 d3
  replace kk := (((kk.set 0 (.int .i64 0)).set 1 (.int .i64 0)).set 2 (.bool false)).set 3 (.slice none 0 0)
  simp only [List.set_cons_zero, List.set_cons_succ] at kk
  go_wp2_with fail
  exact bodyPost_ret (results_cells rfl kk.head hu rfl (by kernel_rfl) _ rfl) rfl ⟨rfl, kk.but⟩

set_option maxHeartbeats 3200000 in
set_option maxRecDepth 100000 in
theorem joinSec_yes (W H m q i0 c : Int) (f : Fit W H m) (v : Value) (F : Nat → Nat → Int) (Z N M : Nat) (w : World) (hZ : W * H * partsN m = Z) (hN : (gridW W H m * gridH W H m).toNat = N) (hM : (unitL m).length = M) (h : BA w v N (fun _ => M) F) (hF : ∀ i j, i < N → j < M * 64 → I64 (F i j)) :
    Calls Try.prog 12 #[pV W H m q i0 c, v] w fun e w' => (∃ v', e = .returned v' ∧ View w' .i64 v' (joinL W H m F Z)) ∧ But Nowhere w w' := by
  have HJ : Hid (∀ V, But Nowhere w V → Calls Try.prog 29 #[.agg byPS.toArray, pV W H m q i0 c, v] V fun e w' => (∃ v', e = .returned v' ∧ View w' .i64 v' (joinL W H m F Z)) ∧ But Nowhere V w') := fun V hb => joinS_all W H m q i0 c f v F (atJ W H m F) Z N M V hZ hN hM (h.but hb) (fun i b k n _ hb hk hn h1 h2 => at_C f F M hM i b k n hb hk hn h1 h2) (at_S f Z N M hZ hN hM) (fun j _ => atJ_in W H m F j) hF
  have HWH : ∀ V, But Nowhere w V → Calls Try.prog 28 #[pV W H m q i0 c, v] V fun e w' => e = .returned (.bool true) ∧ But Nowhere V w' := fun V hV => by
    have := isWholeS W H m q i0 c f v (fun _ => M) F V (by rw [hN]; exact h.but hV)
    refine this.mono ?_
    rintro e w' ⟨⟨r, rfl, hr⟩, b⟩
    rcases hr with ⟨rfl, -⟩ | ⟨-, i, -, h2⟩
    · exact ⟨rfl, b⟩
    · exact absurd hM.symm h2
  obtain ⟨ao, vcap, rfl, -⟩ := h
  have kk := (Keep.start w).made 23 (pC W H m q i0 c)
  have HWI := HWH _ kk.but
  obtain ⟨li, hli⟩ : ∃ li, joinL W H m F Z = li := ⟨_, rfl⟩
  rw [hli] at HJ ⊢
  clear hZ hN hM HWH hli f hF
  go_enter Try.func12, Try.ntmps12
  go_wp2_with fail
  refine HWI.mono ?_
  rintro e w1 ⟨rfl, b1⟩
  replace kk := (kk.step b1).drew
  clear b1 HWI
  have HS : ∀ V, Keep w V [(w.heap.size, 23, pC W H m q i0 c)] → (V.cell? ⟨w.heap.size, 0, none⟩ = some (.int .i64 W) ∧ V.cell? ⟨w.heap.size, 1, none⟩ = some (.int .i64 H) ∧ V.cell? ⟨w.heap.size, 2, none⟩ = some (.int .i64 m) ∧ V.cell? ⟨w.heap.size, 3, none⟩ = some (.int .i64 q) ∧ V.cell? ⟨w.heap.size, 4, none⟩ = some (.int .i64 i0) ∧ V.cell? ⟨w.heap.size, 5, none⟩ = some (.int .i64 c)) := fun V kk => have gP := kk.head; ⟨gP.at 0, gP.at 1, gP.at 2, gP.at 3, gP.at 4, gP.at 5⟩
  go_wp2_with fail
  refine wp_region_till (S := fun V => V.cell? ⟨w.heap.size, 0, none⟩ = some (.int .i64 W) ∧ V.cell? ⟨w.heap.size, 1, none⟩ = some (.int .i64 H) ∧ V.cell? ⟨w.heap.size, 2, none⟩ = some (.int .i64 m) ∧ V.cell? ⟨w.heap.size, 3, none⟩ = some (.int .i64 q) ∧ V.cell? ⟨w.heap.size, 4, none⟩ = some (.int .i64 i0) ∧ V.cell? ⟨w.heap.size, 5, none⟩ = some (.int .i64 c)) (R := fun _ => True) (k := 100) (m := 100) (by kernel_rfl) (HS _ kk) trivial ?_
  (refine Walk.take (i := 1) (oi := { dst := some 10, op := Op.load 23 (Operand.tmp 2), type := 23, pos := "plane.go:109", after := #[], guard := none }) (v := ?_) rfl (by kernel_rfl) (by kernel_rfl) (by kernel_rfl) (by kernel_rfl) (fun _ _ _ h => h) (Or.inl ⟨by rfl, ?_⟩) ?_; rotate_left; (intro w hw; have hS1 := hw.1 (by kernel_rfl); clear hw; (try dsimp only at hS1); (try go_split_ands); go_simp; try (with_reducible rfl)); simp only [Act.put, List.setIfInBounds_toArray, List.set_cons_zero, List.set_cons_succ])
  (refine Walk.take (i := 2) (oi := { dst := some 11, op := Op.move (Operand.tmp 1), type := 38, pos := "plane.go:109", after := #[], guard := none }) (v := ?_) rfl (by kernel_rfl) (by kernel_rfl) (by kernel_rfl) (by kernel_rfl) (fun _ _ _ h => h) (Or.inl ⟨by rfl, ?_⟩) ?_; rotate_left; (intro w hw; clear hw; (try go_split_ands); go_simp; try (with_reducible rfl)); simp only [Act.put, List.setIfInBounds_toArray, List.set_cons_zero, List.set_cons_succ])
  (refine Walk.go (i := 0) (o := { dst := some 9, op := Op.call { callee := Callee.value (Operand.func 30), args := #[], argTypes := #[] }, type := 67, pos := "plane.go:109", after := #[], guard := none }) (by kernel_rfl) rfl (fun K hK => ?_); go_simp; ((go_at_call 30; refine (planeSecret_any _).mono ?_; rintro e x0 ⟨rfl, d⟩; replace kk := kk.step d; clear d)); refine hK.out _ _ (⟨fun _ => HS _ kk, fun _ => trivial⟩) ?_; clear hK K; try simp only [Act.put, List.setIfInBounds_toArray, List.set_cons_zero, List.set_cons_succ])
  (refine Walk.go (i := 3) (o := { dst := some 12, op := Op.call { callee := Callee.value (Operand.func 29), args := #[Operand.tmp 9, Operand.tmp 10, Operand.tmp 11], argTypes := #[67, 23, 38] }, type := 36, pos := "plane.go:109", after := #[{ on := 0, ground := Ground.data }, { on := 1, ground := Ground.data }, { on := 2, ground := Ground.data }, { on := 0, ground := Ground.chain }], guard := none }) (by kernel_rfl) rfl (fun K hK => ?_); go_simp; ((go_at_call 29; refine (HJ.out _ (kk.but)).mono ?_; rintro e x2 ⟨⟨v2, rfl, hc2⟩, d⟩; obtain ⟨vo2, vc2, rfl⟩ := hc2.slice; replace kk := kk.step d; clear d)); refine hK.out _ _ (⟨fun _ => HS _ kk, fun _ => trivial⟩) ?_; clear hK K; try simp only [Act.put, List.setIfInBounds_toArray, List.set_cons_zero, List.set_cons_succ])
  (refine Walk.take (i := 4) (oi := { dst := some 4, op := Op.assign (Operand.tmp 12), type := 36, pos := "plane.go:109", after := #[{ on := 3, ground := Ground.data }, { on := 3, ground := Ground.chain }, { on := 0, ground := Ground.phase }, { on := 1, ground := Ground.phase }, { on := 2, ground := Ground.phase }, { on := 3, ground := Ground.phase }], guard := none }) (v := ?_) rfl (by kernel_rfl) (by kernel_rfl) (by kernel_rfl) (by kernel_rfl) (fun _ _ _ h => h) (Or.inl ⟨by rfl, ?_⟩) ?_; rotate_left; (intro w hw; clear hw; (try go_split_ands); go_simp; try (with_reducible rfl)); simp only [Act.put, List.setIfInBounds_toArray, List.set_cons_zero, List.set_cons_succ])
  refine Walk.done (by kernel_rfl) ?_ _
  have HF : Hid _ := And.intro hc2 kk.but
  clear hc2 kk HS
  go_wp2_with fail
  go_ret
  exact ⟨⟨_, rfl, HF.out.1⟩, HF.out.2⟩

set_option maxHeartbeats 1600000 in
set_option maxRecDepth 100000 in
theorem joinSec_no (W H m q i0 c : Int) (vo : Option Addr) (n vc : Nat) (w : World) (HW : ∀ V, But Nowhere w V → Calls Try.prog 28 #[pV W H m q i0 c, .slice vo n vc] V fun e w' => e = .returned (.bool false) ∧ But Nowhere V w') : Calls Try.prog 12 #[pV W H m q i0 c, .slice vo n vc] w fun e w' => e = .returned (.slice none 0 0) ∧ But Nowhere w w' := by
  have kk := (Keep.start w).made 23 (pC W H m q i0 c)
  have HWI := HW _ kk.but
  clear HW
  go_enter Try.func12, Try.ntmps12
  go_wp2_with fail
  refine HWI.mono ?_
  rintro e w1 ⟨rfl, b1⟩
  have HB : Hid (But Nowhere w w1) := kk.but.trans b1
  clear b1 HWI kk
  go_wp2_with fail
  go_ret
  exact ⟨rfl, HB.out⟩

end Go.Proofs.Ytppbnmlgilgnnaa
