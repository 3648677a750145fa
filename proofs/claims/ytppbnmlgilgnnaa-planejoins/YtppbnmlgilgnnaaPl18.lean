/- Blocks copied back; whether blocks are whole. -/
import Derived.Test.YtppbnmlgilgnnaaPl8
import Derived.Test.YtppbnmlgilgnnaaPl12
namespace Go.Proofs.Ytppbnmlgilgnnaa
open Go.ChangeShapes Go.WideShapes Go.ChangeAt Go.RowKit

set_option maxHeartbeats 1600000 in
set_option maxRecDepth 100000 in
theorem wordsOf1_any (f : Nat → Int) (w : World) : Calls Try.prog 67 #[.agg (tab .i64 64 f).toArray] w fun e w' => e = .returned (.agg (tab .i64 64 f).toArray) ∧ But Nowhere w w' := by
  have huA := Try.underlying53
  have huB := Try.underlying52
  have hiA : (Try.prog.info? 53).map (·.size) = some (tab .i64 64 f).length := by rw [tab_length]; kernel_rfl
  have hiB : (Try.prog.info? 52).map (·.size) = some (tab .i64 64 f).toArray.size := by rw [List.size_toArray, tab_length]; kernel_rfl
  have hiC : (Try.prog.info? 52).map (fun i => i.size) = some (tab .i64 64 f).length := by rw [tab_length]; kernel_rfl
  have C1 := (Cells.new w 53 (tab .i64 64 f)).alloc (.cells (List.replicate 64 (.int .i64 0)).toArray 52)
  have C2 := Cells.new (w.alloc (.cells (tab .i64 64 f).toArray 53)) 52 (List.replicate 64 (.int .i64 0))
  rw [World.size_alloc] at C2
  have b0 : But Nowhere w ((w.alloc (.cells (tab .i64 64 f).toArray 53)).alloc (.cells (List.replicate 64 (.int .i64 0)).toArray 52)) := ((But.refl _ _).alloc _).alloc _
  have HF : Hid (((w.alloc (.cells (tab .i64 64 f).toArray 53)).alloc (.cells (List.replicate 64 (.int .i64 0)).toArray 52)).rangeAt w.heap.size 0 (tab .i64 64 f) ∧ ((w.alloc (.cells (tab .i64 64 f).toArray 53)).alloc (.cells (List.replicate 64 (.int .i64 0)).toArray 52)).there (w.heap.size + 1) 0 (tab .i64 64 f).toArray.size ∧
      Cells (((w.alloc (.cells (tab .i64 64 f).toArray 53)).alloc (.cells (List.replicate 64 (.int .i64 0)).toArray 52)).setCells (w.heap.size + 1) 0 (tab .i64 64 f)) (w.heap.size + 1) 52 (tab .i64 64 f) ∧ But Nowhere w (((w.alloc (.cells (tab .i64 64 f).toArray 53)).alloc (.cells (List.replicate 64 (.int .i64 0)).toArray 52)).setCells (w.heap.size + 1) 0 (tab .i64 64 f))) := by
    refine ⟨?_, ?_, ?_, ?_⟩
    · have := C1.range 0 64 (by omega)
      simpa using this
    · exact C2.there 0 _ (by rw [List.size_toArray, tab_length]; simp)
    · rw [zeros64] at C2 ⊢
      exact C2.layAll f
    · exact But.setCells _ b0 (fun q => by omega) 0
  clear C1 C2 b0
  go_enter Try.func67, Try.ntmps67
  go_wp2_with (first | (refine wpList_load_mid rfl 53 (.tmp 1) rfl w.heap.size 0 rfl (tab .i64 64 f) _ HF.out.1 huA rfl hiA ?_) | (refine wpList_store_mid rfl 52 (.tmp 2) (.tmp 3) rfl (w.heap.size + 1) 0 (tab .i64 64 f).toArray rfl rfl HF.out.2.1 hiB (tab_all _ _ _) ?_))
  exact bodyPost_ret (results_cells rfl HF.out.2.2.1 huB rfl hiC _ rfl) rfl ⟨rfl, HF.out.2.2.2⟩

set_option maxHeartbeats 400000 in
theorem Try.elemWords : ElemInfo Try.prog 105 52 (.agg (List.replicate 64 (Value.int .i64 0)).toArray) 64 512 := ⟨Try.underlying105, by kernel_rfl, rfl, by omega⟩

set_option maxHeartbeats 6400000 in
set_option maxRecDepth 100000 in
theorem wordsOfB_any (g M : Nat) (F : Nat → Int) (w : World) (hc : Cells w g 53 (tab .i64 (M * 64) F)) (hM : M ≤ 100) : Calls Try.prog 66 #[.slice (some ⟨g, 0, none⟩) M M, .func (.func 67) #[] #[]] w fun e w' =>
    e = .returned (.slice (some ⟨w.heap.size, 0, none⟩) M M) ∧ Cells w' w.heap.size 52 (tab .i64 (M * 64) F) ∧ But Nowhere w w' := by
  have hm := fun W => make_any Try.elemWords M (.int .i64 0) (zcell64) (by omega) (by omega) W
  rw [tab_zero] at hm
  have huA := Try.underlying53
  have H0 : Hid (Cells (w.alloc (.cells (tab .i64 (M * 64) (fun _ => 0)).toArray 52)) w.heap.size 52 (tab .i64 (M * 64) (fun _ => 0)) ∧ But Nowhere w (w.alloc (.cells (tab .i64 (M * 64) (fun _ => 0)).toArray 52))) := ⟨Cells.new _ _ _, (But.refl _ _).alloc _⟩
  go_enter Try.func66, Try.ntmps66
  go_wp2_with fail
  clear hm
  go_loopw [13] (fun i W => ∃ k : Nat, k ≤ M ∧ i = .int .i64 k ∧ Cells W w.heap.size 52 (tab .i64 (M * 64) (fun j => if j < k * 64 then F j else 0)) ∧ But Nowhere w W) (fun i _ => M - (intOf i).toNat)
  case atStart => exact ⟨0, Nat.zero_le _, rfl, by simpa using H0.out.1, H0.out.2⟩
  case round =>
    clear H0
    obtain ⟨k, hk, rfl, ho, hb⟩ := hrel
    by_cases hlt : k < M
    · have i0 : (0 : Int) ≤ (k : Int) := by omega
      have i1 : (k : Int) < (M : Int) := by omega
      have hk64 : k * 64 + 64 ≤ M * 64 := by omega
      obtain ⟨f, hf⟩ : ∃ f, f = fun j => F (k * 64 + j) := ⟨_, rfl⟩
      have hr : wr.rangeAt g (k * 64) (tab .i64 64 f) := by rw [hf]; exact (hc.but hb (not_nowhere _)).range (k * 64) 64 (by omega)
      have hiA : (Try.prog.info? 53).map (·.size) = some (tab .i64 64 f).length := by rw [tab_length]; kernel_rfl
      have hiA' : (Try.prog.info? 53).map (·.size) = some (tab .i64 64 f).toArray.size := by rw [List.size_toArray, tab_length]; kernel_rfl
      have hiB : (Try.prog.info? 52).map (·.size) = some (tab .i64 64 f).toArray.size := by rw [List.size_toArray, tab_length]; kernel_rfl
      have HFf : Hid (f = fun j => F (k * 64 + j)) := hf
      clear hf
      have C1 := Cells.new wr 53 (List.replicate 64 (Value.int .i64 0))
      have HA : Hid ((wr.alloc (.cells (List.replicate 64 (Value.int .i64 0)).toArray 53)).there wr.heap.size 0 (tab .i64 64 f).toArray.size) := C1.there 0 _ (by rw [List.size_toArray, tab_length]; simp)
      have C2 : Cells ((wr.alloc (.cells (List.replicate 64 (Value.int .i64 0)).toArray 53)).setCells wr.heap.size 0 (tab .i64 64 f)) wr.heap.size 53 (tab .i64 64 f) := by rw [zeros64] at C1 ⊢; exact C1.layAll f
      have B2 : But Nowhere wr ((wr.alloc (.cells (List.replicate 64 (Value.int .i64 0)).toArray 53)).setCells wr.heap.size 0 (tab .i64 64 f)) := But.setCells _ ((But.refl _ _).alloc _) (fun q => by omega) 0
      have HB0 : ((wr.alloc (.cells (List.replicate 64 (Value.int .i64 0)).toArray 53)).setCells wr.heap.size 0 (tab .i64 64 f)).rangeAt wr.heap.size 0 (tab .i64 64 f) := by have := C2.range 0 64 (by omega); simpa using this
      have HB : Hid _ := HB0
      clear C1 C2 HB0
      go_wp2_with (first | (refine wpList_load_mid rfl 53 (.tmp 16) rfl g (k * 64) rfl (tab .i64 64 f) _ ?_ huA rfl hiA ?_; exact hr) | (refine wpList_store_mid rfl 53 (.tmp 7) (.tmp 17) rfl wr.heap.size 0 (tab .i64 64 f).toArray rfl rfl ?_ hiA' (tab_all _ _ _) ?_; exact HA.out) | (refine wpList_load_mid rfl 53 (.tmp 7) rfl wr.heap.size 0 rfl (tab .i64 64 f) _ ?_ huA rfl hiA ?_; exact HB.out))
      refine (wordsOf1_any f _).mono ?_
      rintro e w2 ⟨rfl, b2⟩
      replace b2 := B2.trans b2
      have ho2 := ho.but b2 (not_nowhere _)
      have hth := ho2.there (k * 64) (tab .i64 64 f).toArray.size (by rw [List.size_toArray, tab_length, tab_length]; omega)
      have H3 : Hid (Cells (w2.setCells w.heap.size (k * 64) (tab .i64 64 f)) w.heap.size 52 (tab .i64 (M * 64) (fun j => if j < (k + 1) * 64 then F j else 0)) ∧ But Nowhere w (w2.setCells w.heap.size (k * 64) (tab .i64 64 f))) := by
        refine ⟨?_, But.setCells _ (hb.trans b2) (fun q => by omega) _⟩
        have h5 := ho2.lay 64 (k * 64) f
        have e : tab .i64 (M * 64) (fun j => if k * 64 ≤ j ∧ j < k * 64 + 64 then f (j - k * 64) else if j < k * 64 then F j else 0) = tab .i64 (M * 64) (fun j => if j < (k + 1) * 64 then F j else 0) := by
          refine tab_congr _ _ _ _ (fun j _ => ?_)
          by_cases e1 : k * 64 ≤ j ∧ j < k * 64 + 64
          · rw [if_pos e1, if_pos (by omega), HFf.out]; show F (k * 64 + (j - k * 64)) = F j; rw [show k * 64 + (j - k * 64) = j by omega]
          · rw [if_neg e1]
            by_cases e2 : j < k * 64
            · rw [if_pos e2, if_pos (by omega)]
            · rw [if_neg e2, if_neg (by omega)]
        rw [e] at h5
        exact h5
      clear HA HB B2 b2 ho ho2 hr
      go_wp2_with (refine wpList_store_mid rfl 52 (.tmp 23) (.tmp 22) rfl w.heap.size (k * 64) (tab .i64 64 f).toArray rfl rfl ?_ hiB (tab_all _ _ _) ?_; exact hth)
      go_roundw
      case rel => exact ⟨k + 1, by omega, by go_num, H3.out.1, H3.out.2⟩
      case measure => simp [intOf]; omega
    · obtain rfl : k = M := by omega
      go_wp2_with fail
      go_ret
      rw [tab_full] at ho
      exact ⟨rfl, ho, hb⟩

set_option maxHeartbeats 1600000 in
theorem wordsOfL_any (g M : Nat) (F : Nat → Int) (w : World) (hc : Cells w g 53 (tab .i64 (M * 64) F)) (hM : M ≤ 100) : Calls Try.prog 65 #[.slice (some ⟨g, 0, none⟩) M M] w fun e w' =>
    e = .returned (.slice (some ⟨w.heap.size, 0, none⟩) M M) ∧ Cells w' w.heap.size 52 (tab .i64 (M * 64) F) ∧ But Nowhere w w' := by
  go_enter Try.func65, Try.ntmps65
  go_wp2_with fail
  refine (wordsOfB_any g M F w hc hM).mono ?_
  rintro e w1 ⟨rfl, h1, b1⟩
  have H : Hid _ := And.intro h1 b1
  clear h1 b1
  go_wp2_with fail
  go_ret
  exact ⟨rfl, H.out⟩

theorem Try.elemWordss : ElemInfo Try.prog 77 105 (.slice none 0 0) 1 24 := ⟨Try.underlying77, by kernel_rfl, rfl, by omega⟩

set_option maxHeartbeats 6400000 in
set_option maxRecDepth 100000 in
theorem wordsOfM_any (v : Value) (N M go : Nat) (G : Nat → Nat) (F : Nat → Nat → Int) (w : World) (h : Blks w v 51 53 N M go G F) (hN : N ≤ 2000000) (hM : M ≤ 100) : Calls Try.prog 64 #[v, .func (.func 65) #[] #[]] w fun e w' =>
    (∃ v' G', e = .returned v' ∧ Blks w' v' 105 52 N M w.heap.size G' F ∧ ∀ i, i < N → w.heap.size < G' i) ∧ But Nowhere w w' := by
  have hm := fun W => make_any Try.elemWordss N (.slice none 0 0) (by intro j hj; have : j = 0 := (by omega); subst this; rfl) (by omega) (by omega) W
  rw [Nat.mul_one] at hm
  obtain rfl := h.val
  have H0 : Hid (Cells (w.alloc (.cells (List.replicate N (.slice none 0 0)).toArray 105)) w.heap.size 105 (List.replicate N (.slice none 0 0)) ∧ But Nowhere w (w.alloc (.cells (List.replicate N (.slice none 0 0)).toArray 105))) := ⟨Cells.new _ _ _, (But.refl _ _).alloc _⟩
  go_enter Try.func64, Try.ntmps64
  go_wp2_with fail
  clear hm
  go_loopw [13] (fun i W => ∃ (k : Nat) (G' : Nat → Nat), k ≤ N ∧ i = .int .i64 k ∧ Cells W w.heap.size 105 ((List.range N).map fun i => if i < k then .slice (some ⟨G' i, 0, none⟩) M M else .slice none 0 0) ∧ (∀ i, i < k → w.heap.size < G' i ∧ Cells W (G' i) 52 (tab .i64 (M * 64) (F i))) ∧ But Nowhere w W) (fun i _ => N - (intOf i).toNat)
  case atStart => exact ⟨0, fun _ => 0, Nat.zero_le _, rfl, by have := H0.out.1; simpa [List.map_const'] using this, fun i hi => by omega, H0.out.2⟩
  case round =>
    clear H0
    obtain ⟨k, G', hk, rfl, ho, hi, hb⟩ := hrel
    by_cases hlt : k < N
    · have i0 : (0 : Int) ≤ (k : Int) := by omega
      have i1 : (k : Int) < (N : Int) := by omega
      have hs := (h.step hb).at k hlt
      have hin := (h.step hb).inn k hlt
      go_wp2_with fail
      refine (wordsOfL_any (G k) M (F k) _ hin hM).mono ?_
      rintro e w2 ⟨rfl, h2, b2⟩
      have ho2 := ho.but b2 (not_nowhere _)
      have hz := ho.lt
      have c0 : w2.cell? ⟨w.heap.size, k, none⟩ = some (.slice none 0 0) := by rw [ho2.at k]; simp [hlt]
      have f0 := ho2.frozen k
      have H3 : Hid (Cells (w2.setCell ⟨w.heap.size, k, none⟩ (.slice (some ⟨wr.heap.size, 0, none⟩) M M)) w.heap.size 105 ((List.range N).map fun i => if i < k + 1 then .slice (some ⟨if i = k then wr.heap.size else G' i, 0, none⟩) M M else .slice none 0 0) ∧
          (∀ i, i < k + 1 → w.heap.size < (if i = k then wr.heap.size else G' i) ∧ Cells (w2.setCell ⟨w.heap.size, k, none⟩ (.slice (some ⟨wr.heap.size, 0, none⟩) M M)) (if i = k then wr.heap.size else G' i) 52 (tab .i64 (M * 64) (F i))) ∧ But Nowhere w (w2.setCell ⟨w.heap.size, k, none⟩ (.slice (some ⟨wr.heap.size, 0, none⟩) M M))) := by
        refine ⟨?_, fun i hi' => ?_, (hb.trans b2).setCell (fun q => by exfalso; simp at q) _⟩
        · have h3 := ho2.set k (.slice (some ⟨wr.heap.size, 0, none⟩) M M)
          have e : ((List.range N).map fun i => if i < k then Value.slice (some ⟨G' i, 0, none⟩) M M else .slice none 0 0).set k (.slice (some ⟨wr.heap.size, 0, none⟩) M M) = (List.range N).map fun i => if i < k + 1 then .slice (some ⟨if i = k then wr.heap.size else G' i, 0, none⟩) M M else .slice none 0 0 := by
            apply List.ext_getElem?
            intro i
            by_cases hiN : i < N
            · rw [List.getElem?_set]
              by_cases e1 : k = i
              · subst e1; simp [hiN]
              · rw [if_neg e1]
                simp only [List.getElem?_map, List.getElem?_range hiN, Option.map_some, Option.some.injEq]
                by_cases e2 : i < k
                · rw [if_pos e2, if_pos (by omega), if_neg (by omega)]
                · rw [if_neg e2, if_neg (by omega)]
            · rw [List.getElem?_eq_none (by simp; omega), List.getElem?_eq_none (by simp; omega)]
          rw [e] at h3
          exact h3
        · by_cases e1 : i = k
          · rw [if_pos e1, e1]
            exact ⟨hz, h2.far (by omega) k _⟩
          · rw [if_neg e1]
            have h4 := hi i (by omega)
            exact ⟨h4.1, (h4.2.but b2 (not_nowhere _)).far (by omega) k _⟩
      clear ho ho2 h2 hin hs hi
      go_wp2_with fail
      go_roundw
      case rel => exact ⟨k + 1, _, by omega, by go_num, H3.out.1, H3.out.2.1, H3.out.2.2⟩
      case measure => simp [intOf]; omega
    · obtain rfl : k = N := by omega
      go_wp2_with fail
      go_ret
      refine ⟨⟨_, G', rfl, ⟨rfl, ?_, fun i hi' => (hi i hi').2⟩, fun i hi' => (hi i hi').1⟩, hb⟩
      have e : ((List.range k).map fun i => if i < k then Value.slice (some ⟨G' i, 0, none⟩) M M else .slice none 0 0) = (List.range k).map fun i => .slice (some ⟨G' i, 0, none⟩) M M := by
        apply List.map_congr_left
        intro i hi'
        rw [if_pos (by simpa using hi')]
      rw [e] at ho
      exact ho

set_option maxHeartbeats 1600000 in
theorem wordsOf_any (v : Value) (N M go : Nat) (G : Nat → Nat) (F : Nat → Nat → Int) (w : World) (h : Blks w v 51 53 N M go G F) (hN : N ≤ 2000000) (hM : M ≤ 100) : Calls Try.prog 36 #[v] w fun e w' =>
    (∃ v' G', e = .returned v' ∧ Blks w' v' 105 52 N M w.heap.size G' F ∧ ∀ i, i < N → w.heap.size < G' i) ∧ But Nowhere w w' := by
  obtain rfl := h.val
  go_enter Try.func36, Try.ntmps36
  go_wp2_with fail
  refine (wordsOfM_any _ N M go G F w h hN hM).mono ?_
  rintro e w1 ⟨⟨v', G', rfl, h1, h2⟩, b1⟩
  have hv := h1.val
  have H : Hid _ := And.intro h1 (And.intro h2 b1)
  clear h1 h2 b1
  subst hv
  go_wp2_with fail
  go_ret
  exact ⟨⟨_, G', rfl, H.out.1, H.out.2.1⟩, H.out.2.2⟩

set_option maxHeartbeats 400000 in
theorem whole1_any (g : Option Addr) (M c k : Nat) (b : Nat) (w : World) (hb : w.cell? ⟨b, 0, none⟩ = some (.int .i64 k)) : Calls Try.prog 56 #[.slice g M c, .pointer (some ⟨b, 0, none⟩)] w fun e w' => e = .returned (.bool ((M : Int) != (k : Int))) ∧ w' = w := by
  go_enter Try.func56, Try.ntmps56
  go_wp2
  go_ret
  exact ⟨by simp [bne], rfl⟩

set_option maxHeartbeats 1600000 in
set_option maxRecDepth 100000 in
theorem indexFunc_none (v : Value) (N M go : Nat) (G : Nat → Nat) (F : Nat → Nat → Int) (b : Nat) (w : World) (h : Blks w v 51 53 N M go G F) (hb : w.cell? ⟨b, 0, none⟩ = some (.int .i64 M)) (hN : N ≤ 100000000) : Calls Try.prog 82 #[v, .func (.func 56) #[] #[.pointer (some ⟨b, 0, none⟩)]] w fun e w' => e = .returned (.int .i64 (-1)) ∧ w' = w := by
  obtain rfl := h.val
  go_enter Try.func82, Try.ntmps82
  go_wp2_with fail
  go_loopw [8] (fun i V => ∃ k : Nat, k ≤ N ∧ i = .int .i64 k ∧ V = w) (fun i _ => N - (intOf i).toNat)
  case atStart => exact ⟨0, Nat.zero_le _, rfl, rfl⟩
  case round =>
    obtain ⟨k, hk, rfl, rfl⟩ := hrel
    by_cases hlt : k < N
    · have i0 : (0 : Int) ≤ (k : Int) := by omega
      have i1 : (k : Int) < (N : Int) := by omega
      have ck := h.at k hlt
      go_wp2_with fail
      refine (whole1_any _ M M M b _ hb).mono ?_
      rintro e w1 ⟨rfl, rfl⟩
      rw [show ((M : Int) != (M : Int)) = false by simp]
      go_wp2_with fail
      go_roundw
      case rel => exact ⟨k + 1, by omega, by go_num, by trivial⟩
      case measure => simp [intOf]; omega
    · go_wp2_with fail
      go_ret
      exact ⟨rfl, rfl⟩

set_option maxHeartbeats 400000 in
theorem containsFunc_none (v : Value) (N M go : Nat) (G : Nat → Nat) (F : Nat → Nat → Int) (b : Nat) (w : World) (h : Blks w v 51 53 N M go G F) (hb : w.cell? ⟨b, 0, none⟩ = some (.int .i64 M)) (hN : N ≤ 100000000) : Calls Try.prog 55 #[v, .func (.func 56) #[] #[.pointer (some ⟨b, 0, none⟩)]] w fun e w' => e = .returned (.bool false) ∧ w' = w := by
  obtain rfl := h.val
  go_enter Try.func55, Try.ntmps55
  go_wp2_with fail
  refine (indexFunc_none _ N M go G F b w h hb hN).mono ?_
  rintro e w1 ⟨rfl, rfl⟩
  go_wp2_with fail
  go_ret
  exact ⟨rfl, rfl⟩

set_option maxHeartbeats 3200000 in
set_option maxRecDepth 100000 in
theorem isWhole_yes (W H m q i c : Int) (f : Fit W H m) (v : Value) (go : Nat) (G : Nat → Nat) (F : Nat → Nat → Int) (w : World) (h : Blks w v 51 53 (gridW W H m * gridH W H m).toNat (unitL m).length go G F) : Calls Try.prog 33 #[pV W H m q i c, v] w fun e w' => e = .returned (.bool true) ∧ But Nowhere w w' := by
  obtain ⟨-, -, g3, g4, g5, g6⟩ := f.grid
  have kk := (Keep.start w).made 23 (pC W H m q i c)
  obtain ⟨a, ha⟩ : ∃ a, gridW W H m = a := ⟨_, rfl⟩
  obtain ⟨b, hb⟩ : ∃ b, gridH W H m = b := ⟨_, rfl⟩
  rw [ha, hb] at h
  rw [ha] at g3 g4
  rw [hb] at g5 g6
  obtain ⟨N, hN⟩ : ∃ N : Nat, (a * b).toNat = N := ⟨_, rfl⟩
  obtain ⟨N0, N1⟩ : 0 ≤ a * b ∧ a * b ≤ 8192 * 8192 := ⟨Int.mul_nonneg (by omega) (by omega), Int.mul_le_mul g4 g6 (by omega) (by omega)⟩
  have hNi : a * b = (N : Int) := by omega
  rw [hN] at h
  have hN2 : N ≤ 100000000 := by omega
  obtain ⟨M, hM⟩ : ∃ M, (unitL m).length = M := ⟨_, rfl⟩
  rw [hM] at h
  have HM : Hid ((unitL m).length = M) := hM
  obtain ⟨Z, hZ, Z1⟩ : ∃ Z, W * H * (partsN m : Int) = Z ∧ 0 < Z := by
    refine ⟨_, rfl, ?_⟩
    have h1 := f.w
    have h2 := f.h
    have q1 : 1 * 1 ≤ W * H := Int.mul_le_mul h1.1 h2.1 (by omega) (by omega)
    have p1 : 1 ≤ (partsN m : Int) := by unfold partsN; split <;> simp
    have q2 : 1 * 1 ≤ W * H * (partsN m : Int) := Int.mul_le_mul (by omega) p1 (by omega) (by omega)
    omega
  have HG : Hid (gridW W H m = a ∧ gridH W H m = b) := ⟨ha, hb⟩
  have e0 : wrap64 (a * b) = (N : Int) := by rw [hNi]; exact w64 _ (by omega)
  obtain rfl := h.val
  clear ha hb hN hNi N0 N1 hM
  go_enter Try.func33, Try.ntmps33
  go_wp2_with fail
  refine (grid_any _ _ _ _ _ _ _).mono ?_
  rintro e w1 ⟨rfl, b1⟩
  rw [HG.out.1, HG.out.2]
  replace kk := kk.step b1
  clear b1
  have c2 := kk.head.at 2
  simp only [List.getElem?_cons_zero, List.getElem?_cons_succ] at c2
  go_wp2_with fail
  refine (unit_any m f.m _).mono ?_
  rintro e w2 ⟨v, rfl, L⟩
  obtain ⟨uo, uc, rfl⟩ := L.slice
  rw [HM.out]
  replace kk := (kk.step L.but).made 3 [.int .i64 M]
  obtain ⟨MB, hMB⟩ : ∃ b, w2.heap.size = b := ⟨_, rfl⟩
  rw [hMB] at kk
  have gP := kk.get (b := w.heap.size) (t := 23) (c := pC W H m q i c) (by simp)
  have d0 := gP.at 0
  have d1 := gP.at 1
  have d2 := gP.at 2
  have d3 := gP.at 3
  have d4 := gP.at 4
  have d5 := gP.at 5
  simp only [List.getElem?_cons_zero, List.getElem?_cons_succ] at d0 d1 d2 d3 d4 d5
  clear L c2 gP
  go_wp2_with fail
  refine (size_fit _ _ _ _ _ _ f _).mono ?_
  rintro e w3 ⟨rfl, b3⟩
  rw [hZ]
  have hb9 := (kk.step b3).head.at 0
  simp only [List.getElem?_cons_zero] at hb9
  have hB9 := h.step ((kk.step b3).but)
  have HB : Hid (But Nowhere w w3) := (kk.step b3).but
  clear b3 kk d0 d1 d2 d3 d4 d5
  go_wp2_with fail
  refine (containsFunc_none _ N M go G F MB w3 hB9 hb9 hN2).mono ?_
  rintro e w4 ⟨rfl, rfl⟩
  go_wp2_with fail
  go_ret
  exact ⟨rfl, HB.out⟩

end Go.Proofs.Ytppbnmlgilgnnaa
