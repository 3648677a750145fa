/- Blocks copied, one by one and list by list. -/
import Derived.Test.YtppbnmlgilgnnaaDoorPlMid
import Derived.Test.YtppbnmlgilgnnaaDoorPl7
import Derived.Test.YtppbnmlgilgnnaaDoorPl9
namespace Go.Proofs.YtppbnmlgilgnnaaDoor
open Go.ChangeShapes Go.WideShapes Go.ChangeAt Go.RowKit

set_option maxHeartbeats 1600000 in
set_option maxRecDepth 100000 in
theorem blocksOf1_any (f : Nat → Int) (w : World) : Calls Tryd.prog 51 #[.agg (tab .i64 64 f).toArray] w fun e w' => e = .returned (.agg (tab .i64 64 f).toArray) ∧ But Nowhere w w' := by
  have huA := Tryd.underlying45
  have huB := Tryd.underlying46
  have hiA : (Tryd.prog.info? 45).map (·.size) = some (tab .i64 64 f).length := by rw [tab_length]; kernel_rfl
  have hiB : (Tryd.prog.info? 46).map (·.size) = some (tab .i64 64 f).toArray.size := by rw [List.size_toArray, tab_length]; kernel_rfl
  have hiC : (Tryd.prog.info? 46).map (fun i => i.size) = some (tab .i64 64 f).length := by rw [tab_length]; kernel_rfl
  have C1 := (Cells.new w 45 (tab .i64 64 f)).alloc (.cells (List.replicate 64 (.int .i64 0)).toArray 46)
  have C2 := Cells.new (w.alloc (.cells (tab .i64 64 f).toArray 45)) 46 (List.replicate 64 (.int .i64 0))
  rw [World.size_alloc] at C2
  have b0 : But Nowhere w ((w.alloc (.cells (tab .i64 64 f).toArray 45)).alloc (.cells (List.replicate 64 (.int .i64 0)).toArray 46)) := ((But.refl _ _).alloc _).alloc _
  have HF : Hid (((w.alloc (.cells (tab .i64 64 f).toArray 45)).alloc (.cells (List.replicate 64 (.int .i64 0)).toArray 46)).rangeAt w.heap.size 0 (tab .i64 64 f) ∧ ((w.alloc (.cells (tab .i64 64 f).toArray 45)).alloc (.cells (List.replicate 64 (.int .i64 0)).toArray 46)).there (w.heap.size + 1) 0 (tab .i64 64 f).toArray.size ∧
      Cells (((w.alloc (.cells (tab .i64 64 f).toArray 45)).alloc (.cells (List.replicate 64 (.int .i64 0)).toArray 46)).setCells (w.heap.size + 1) 0 (tab .i64 64 f)) (w.heap.size + 1) 46 (tab .i64 64 f) ∧ But Nowhere w (((w.alloc (.cells (tab .i64 64 f).toArray 45)).alloc (.cells (List.replicate 64 (.int .i64 0)).toArray 46)).setCells (w.heap.size + 1) 0 (tab .i64 64 f))) := by
    refine ⟨?_, ?_, ?_, ?_⟩
    · have := C1.range 0 64 (by omega)
      simpa using this
    · exact C2.there 0 _ (by rw [List.size_toArray, tab_length]; simp)
    · rw [zeros64] at C2 ⊢
      exact C2.layAll f
    · exact But.setCells _ b0 (fun q => by omega) 0
  clear C1 C2 b0
  go_enter Tryd.func51, Tryd.ntmps51
  go_wp2_with (first | (refine wpList_load_mid rfl 45 (.tmp 1) rfl w.heap.size 0 rfl (tab .i64 64 f) _ HF.out.1 huA rfl hiA ?_) | (refine wpList_store_mid rfl 46 (.tmp 2) (.tmp 3) rfl (w.heap.size + 1) 0 (tab .i64 64 f).toArray rfl rfl HF.out.2.1 hiB (tab_all _ _ _) ?_))
  exact bodyPost_ret (results_cells rfl HF.out.2.2.1 huB rfl hiC _ rfl) rfl ⟨rfl, HF.out.2.2.2⟩

set_option maxHeartbeats 400000 in
theorem Tryd.elemBlock : ElemInfo Tryd.prog 44 46 (.agg (List.replicate 64 (Value.int .i64 0)).toArray) 64 512 := ⟨Tryd.underlying44, by kernel_rfl, rfl, by omega⟩

set_option maxHeartbeats 6400000 in
set_option maxRecDepth 100000 in
theorem blocksOfB_any (g M : Nat) (F : Nat → Int) (w : World) (hc : Cells w g 45 (tab .i64 (M * 64) F)) (hM : M ≤ 100) : Calls Tryd.prog 50 #[.slice (some ⟨g, 0, none⟩) M M, .func (.func 51) #[] #[]] w fun e w' =>
    e = .returned (.slice (some ⟨w.heap.size, 0, none⟩) M M) ∧ Cells w' w.heap.size 46 (tab .i64 (M * 64) F) ∧ But Nowhere w w' := by
  have hm := fun W => make_any Tryd.elemBlock M (.int .i64 0) (zcell64) (by omega) (by omega) W
  rw [tab_zero] at hm
  have huA := Tryd.underlying45
  have H0 : Hid (Cells (w.alloc (.cells (tab .i64 (M * 64) (fun _ => 0)).toArray 46)) w.heap.size 46 (tab .i64 (M * 64) (fun _ => 0)) ∧ But Nowhere w (w.alloc (.cells (tab .i64 (M * 64) (fun _ => 0)).toArray 46))) := ⟨Cells.new _ _ _, (But.refl _ _).alloc _⟩
  go_enter Tryd.func50, Tryd.ntmps50
  go_wp2_with fail
  clear hm
  go_loopw [13] (fun i W => ∃ k : Nat, k ≤ M ∧ i = .int .i64 k ∧ Cells W w.heap.size 46 (tab .i64 (M * 64) (fun j => if j < k * 64 then F j else 0)) ∧ But Nowhere w W) (fun i _ => M - (intOf i).toNat)
  case atStart => exact ⟨0, Nat.zero_le _, rfl, by simpa using H0.out.1, H0.out.2⟩
  case round =>
    clear H0
    obtain ⟨k, hk, rfl, ho, hb⟩ := hrel
    by_cases hlt : k < M
    · have i0 : (0 : Int) ≤ (k : Int) := by omega
      have i1 : (k : Int) < (M : Int) := by omega
      have hk64 : k * 64 + 64 ≤ M * 64 := by omega
      obtain ⟨f, hf⟩ : ∃ f, f = fun j => F (k * 64 + j) := ⟨_, rfl⟩
      have hr : wr.rangeAt g (k * 64) (tab .i64 64 f) := by rw [hf]; exact (hc.but hb (not_nowhere _)).range (k * 64) 64 (by omega)
      have hiA : (Tryd.prog.info? 45).map (·.size) = some (tab .i64 64 f).length := by rw [tab_length]; kernel_rfl
      have hiA' : (Tryd.prog.info? 45).map (·.size) = some (tab .i64 64 f).toArray.size := by rw [List.size_toArray, tab_length]; kernel_rfl
      have hiB : (Tryd.prog.info? 46).map (·.size) = some (tab .i64 64 f).toArray.size := by rw [List.size_toArray, tab_length]; kernel_rfl
      have HFf : Hid (f = fun j => F (k * 64 + j)) := hf
      clear hf
      have C1 := Cells.new wr 45 (List.replicate 64 (Value.int .i64 0))
      have HA : Hid ((wr.alloc (.cells (List.replicate 64 (Value.int .i64 0)).toArray 45)).there wr.heap.size 0 (tab .i64 64 f).toArray.size) := C1.there 0 _ (by rw [List.size_toArray, tab_length]; simp)
      have C2 : Cells ((wr.alloc (.cells (List.replicate 64 (Value.int .i64 0)).toArray 45)).setCells wr.heap.size 0 (tab .i64 64 f)) wr.heap.size 45 (tab .i64 64 f) := by rw [zeros64] at C1 ⊢; exact C1.layAll f
      have B2 : But Nowhere wr ((wr.alloc (.cells (List.replicate 64 (Value.int .i64 0)).toArray 45)).setCells wr.heap.size 0 (tab .i64 64 f)) := But.setCells _ ((But.refl _ _).alloc _) (fun q => by omega) 0
      have HB0 : ((wr.alloc (.cells (List.replicate 64 (Value.int .i64 0)).toArray 45)).setCells wr.heap.size 0 (tab .i64 64 f)).rangeAt wr.heap.size 0 (tab .i64 64 f) := by have := C2.range 0 64 (by omega); simpa using this
      have HB : Hid _ := HB0
      clear C1 C2 HB0
      go_wp2_with (first | (refine wpList_load_mid rfl 45 (.tmp 16) rfl g (k * 64) rfl (tab .i64 64 f) _ ?_ huA rfl hiA ?_; exact hr) | (refine wpList_store_mid rfl 45 (.tmp 7) (.tmp 17) rfl wr.heap.size 0 (tab .i64 64 f).toArray rfl rfl ?_ hiA' (tab_all _ _ _) ?_; exact HA.out) | (refine wpList_load_mid rfl 45 (.tmp 7) rfl wr.heap.size 0 rfl (tab .i64 64 f) _ ?_ huA rfl hiA ?_; exact HB.out))
      refine (blocksOf1_any f _).mono ?_
      rintro e w2 ⟨rfl, b2⟩
      replace b2 := B2.trans b2
      have ho2 := ho.but b2 (not_nowhere _)
      have hth := ho2.there (k * 64) (tab .i64 64 f).toArray.size (by rw [List.size_toArray, tab_length, tab_length]; omega)
      have H3 : Hid (Cells (w2.setCells w.heap.size (k * 64) (tab .i64 64 f)) w.heap.size 46 (tab .i64 (M * 64) (fun j => if j < (k + 1) * 64 then F j else 0)) ∧ But Nowhere w (w2.setCells w.heap.size (k * 64) (tab .i64 64 f))) := by
        refine ⟨?_, But.setCells _ (hb.trans b2) (fun q => by omega) _⟩
        have h5 := ho2.lay 64 (k * 64) f
        have e : tab .i64 (M * 64) (fun j => if k * 64 ≤ j ∧ j < k * 64 + 64 then f (j - k * 64) else if j < k * 64 then F j else 0) = tab .i64 (M * 64) (fun j => if j < (k + 1) * 64 then F j else 0) := by
          refine tab_congr _ _ _ _ (fun j _ => ?_)
          by_cases e1 : k * 64 ≤ j ∧ j < k * 64 + 64
          · rw [if_pos e1, if_pos (by omega), HFf.out]; show F (k * 64 + (j - k * 64)) = F j; rw [show k * 64 + (j - k * 64) = j by omega]
          · rw [if_neg e1]
            by_cases e2 : j < k * 64
            · rw [if_pos e2, if_pos (by omega)]
            · rw [if_neg e2, if_neg (by omega)]
        rw [e] at h5
        exact h5
      clear HA HB B2 b2 ho ho2 hr
      go_wp2_with (refine wpList_store_mid rfl 46 (.tmp 23) (.tmp 22) rfl w.heap.size (k * 64) (tab .i64 64 f).toArray rfl rfl ?_ hiB (tab_all _ _ _) ?_; exact hth)
      go_roundw
      case rel => exact ⟨k + 1, by omega, by go_num, H3.out.1, H3.out.2⟩
      case measure => simp [intOf]; omega
    · obtain rfl : k = M := by omega
      go_wp2_with fail
      go_ret
      rw [tab_full] at ho
      exact ⟨rfl, ho, hb⟩

set_option maxHeartbeats 1600000 in
theorem blocksOfL_any (g M : Nat) (F : Nat → Int) (w : World) (hc : Cells w g 45 (tab .i64 (M * 64) F)) (hM : M ≤ 100) : Calls Tryd.prog 49 #[.slice (some ⟨g, 0, none⟩) M M] w fun e w' =>
    e = .returned (.slice (some ⟨w.heap.size, 0, none⟩) M M) ∧ Cells w' w.heap.size 46 (tab .i64 (M * 64) F) ∧ But Nowhere w w' := by
  go_enter Tryd.func49, Tryd.ntmps49
  go_wp2_with fail
  refine (blocksOfB_any g M F w hc hM).mono ?_
  rintro e w1 ⟨rfl, h1, b1⟩
  have H : Hid _ := And.intro h1 b1
  clear h1 b1
  go_wp2_with fail
  go_ret
  exact ⟨rfl, H.out⟩

theorem Tryd.elemBlocks : ElemInfo Tryd.prog 30 44 (.slice none 0 0) 1 24 := ⟨Tryd.underlying30, by kernel_rfl, rfl, by omega⟩

set_option maxHeartbeats 6400000 in
set_option maxRecDepth 100000 in
theorem blocksOfM_any (v : Value) (N M go : Nat) (G : Nat → Nat) (F : Nat → Nat → Int) (w : World) (h : Blks w v 93 45 N M go G F) (hN : N ≤ 2000000) (hM : M ≤ 100) : Calls Tryd.prog 48 #[v, .func (.func 49) #[] #[]] w fun e w' =>
    (∃ v' G', e = .returned v' ∧ Blks w' v' 44 46 N M w.heap.size G' F ∧ ∀ i, i < N → w.heap.size < G' i) ∧ But Nowhere w w' := by
  have hm := fun W => make_any Tryd.elemBlocks N (.slice none 0 0) (by intro j hj; have : j = 0 := (by omega); subst this; rfl) (by omega) (by omega) W
  rw [Nat.mul_one] at hm
  obtain rfl := h.val
  have H0 : Hid (Cells (w.alloc (.cells (List.replicate N (.slice none 0 0)).toArray 44)) w.heap.size 44 (List.replicate N (.slice none 0 0)) ∧ But Nowhere w (w.alloc (.cells (List.replicate N (.slice none 0 0)).toArray 44))) := ⟨Cells.new _ _ _, (But.refl _ _).alloc _⟩
  go_enter Tryd.func48, Tryd.ntmps48
  go_wp2_with fail
  clear hm
  go_loopw [13] (fun i W => ∃ (k : Nat) (G' : Nat → Nat), k ≤ N ∧ i = .int .i64 k ∧ Cells W w.heap.size 44 ((List.range N).map fun i => if i < k then .slice (some ⟨G' i, 0, none⟩) M M else .slice none 0 0) ∧ (∀ i, i < k → w.heap.size < G' i ∧ Cells W (G' i) 46 (tab .i64 (M * 64) (F i))) ∧ But Nowhere w W) (fun i _ => N - (intOf i).toNat)
  case atStart => exact ⟨0, fun _ => 0, Nat.zero_le _, rfl, by have := H0.out.1; simpa [List.map_const'] using this, fun i hi => by omega, H0.out.2⟩
  case round =>
    clear H0
    obtain ⟨k, G', hk, rfl, ho, hi, hb⟩ := hrel
    by_cases hlt : k < N
    · have i0 : (0 : Int) ≤ (k : Int) := by omega
      have i1 : (k : Int) < (N : Int) := by omega
      have hs := (h.step hb).at k hlt
      have hin := (h.step hb).inn k hlt
      go_wp2_with fail
      refine (blocksOfL_any (G k) M (F k) _ hin hM).mono ?_
      rintro e w2 ⟨rfl, h2, b2⟩
      have ho2 := ho.but b2 (not_nowhere _)
      have hz := ho.lt
      have c0 : w2.cell? ⟨w.heap.size, k, none⟩ = some (.slice none 0 0) := by rw [ho2.at k]; simp [hlt]
      have f0 := ho2.frozen k
      have H3 : Hid (Cells (w2.setCell ⟨w.heap.size, k, none⟩ (.slice (some ⟨wr.heap.size, 0, none⟩) M M)) w.heap.size 44 ((List.range N).map fun i => if i < k + 1 then .slice (some ⟨if i = k then wr.heap.size else G' i, 0, none⟩) M M else .slice none 0 0) ∧
          (∀ i, i < k + 1 → w.heap.size < (if i = k then wr.heap.size else G' i) ∧ Cells (w2.setCell ⟨w.heap.size, k, none⟩ (.slice (some ⟨wr.heap.size, 0, none⟩) M M)) (if i = k then wr.heap.size else G' i) 46 (tab .i64 (M * 64) (F i))) ∧ But Nowhere w (w2.setCell ⟨w.heap.size, k, none⟩ (.slice (some ⟨wr.heap.size, 0, none⟩) M M))) := by
        refine ⟨?_, fun i hi' => ?_, (hb.trans b2).setCell (fun q => by exfalso; simp at q) _⟩
        · have h3 := ho2.set k (.slice (some ⟨wr.heap.size, 0, none⟩) M M)
          have e : ((List.range N).map fun i => if i < k then Value.slice (some ⟨G' i, 0, none⟩) M M else .slice none 0 0).set k (.slice (some ⟨wr.heap.size, 0, none⟩) M M) = (List.range N).map fun i => if i < k + 1 then .slice (some ⟨if i = k then wr.heap.size else G' i, 0, none⟩) M M else .slice none 0 0 := by
            apply List.ext_getElem?
            intro i
            by_cases hiN : i < N
            · rw [List.getElem?_set]
              by_cases e1 : k = i
              · subst e1; simp [hiN]
              · rw [if_neg e1]
                simp only [List.getElem?_map, List.getElem?_range hiN, Option.map_some, Option.some.injEq]
                by_cases e2 : i < k
                · rw [if_pos e2, if_pos (by omega), if_neg (by omega)]
                · rw [if_neg e2, if_neg (by omega)]
            · rw [List.getElem?_eq_none (by simp; omega), List.getElem?_eq_none (by simp; omega)]
          rw [e] at h3
          exact h3
        · by_cases e1 : i = k
          · rw [if_pos e1, e1]
            exact ⟨hz, h2.far (by omega) k _⟩
          · rw [if_neg e1]
            have h4 := hi i (by omega)
            exact ⟨h4.1, (h4.2.but b2 (not_nowhere _)).far (by omega) k _⟩
      clear ho ho2 h2 hin hs hi
      go_wp2_with fail
      go_roundw
      case rel => exact ⟨k + 1, _, by omega, by go_num, H3.out.1, H3.out.2.1, H3.out.2.2⟩
      case measure => simp [intOf]; omega
    · obtain rfl : k = N := by omega
      go_wp2_with fail
      go_ret
      refine ⟨⟨_, G', rfl, ⟨rfl, ?_, fun i hi' => (hi i hi').2⟩, fun i hi' => (hi i hi').1⟩, hb⟩
      have e : ((List.range k).map fun i => if i < k then Value.slice (some ⟨G' i, 0, none⟩) M M else .slice none 0 0) = (List.range k).map fun i => .slice (some ⟨G' i, 0, none⟩) M M := by
        apply List.map_congr_left
        intro i hi'
        rw [if_pos (by simpa using hi')]
      rw [e] at ho
      exact ho

set_option maxHeartbeats 1600000 in
theorem blocksOf_any (v : Value) (N M go : Nat) (G : Nat → Nat) (F : Nat → Nat → Int) (w : World) (h : Blks w v 93 45 N M go G F) (hN : N ≤ 2000000) (hM : M ≤ 100) : Calls Tryd.prog 29 #[v] w fun e w' =>
    (∃ v' G', e = .returned v' ∧ Blks w' v' 44 46 N M w.heap.size G' F ∧ ∀ i, i < N → w.heap.size < G' i) ∧ But Nowhere w w' := by
  obtain rfl := h.val
  go_enter Tryd.func29, Tryd.ntmps29
  go_wp2_with fail
  refine (blocksOfM_any _ N M go G F w h hN hM).mono ?_
  rintro e w1 ⟨⟨v', G', rfl, h1, h2⟩, b1⟩
  have hv := h1.val
  have H : Hid _ := And.intro h1 (And.intro h2 b1)
  clear h1 h2 b1
  subst hv
  go_wp2_with fail
  go_ret
  exact ⟨⟨_, G', rfl, H.out.1, H.out.2.1⟩, H.out.2.2⟩

end Go.Proofs.YtppbnmlgilgnnaaDoor
