/- The law's own images: Public, Image. -/
import Derived.Test.YtppbnmlgilgnnaaDoorPl12
namespace Go.Proofs.YtppbnmlgilgnnaaDoor
open Go.ChangeShapes Go.WideShapes Go.ChangeAt Go.RowKit

theorem byteIn (x : Int) : 0 ≤ IntKind.u8.wrap x ∧ IntKind.u8.wrap x ≤ 255 := by rw [IntKind.wrap_u8]; omega

set_option maxHeartbeats 1600000 in
theorem public_any (a b k : Int) (ha : 0 ≤ a ∧ a ≤ 255) (hb : 0 ≤ b ∧ b ≤ 255) (hk : 0 ≤ k ∧ k ≤ 255) (w : World) : Calls Tryd.prog 10 #[.int .u8 a, .int .u8 b, .int .u8 k] w fun e w' =>
    e = .returned (pV (1 + a % 40) (1 + b % 24) (1 + k % 4) 50 1 0) ∧ But Nowhere w w' := by
  have hu := Tryd.underlying23
  have e1 : a.tmod 40 = a % 40 := Int.tmod_eq_emod_of_nonneg ha.1
  have e2 : b.tmod 24 = b % 24 := Int.tmod_eq_emod_of_nonneg hb.1
  have e3 : k.tmod 4 = k % 4 := Int.tmod_eq_emod_of_nonneg hk.1
  have f1 : wrap64 (a % 40) = a % 40 := w64 _ (by omega)
  have f2 : wrap64 (b % 24) = b % 24 := w64 _ (by omega)
  have f3 : wrap64 (k % 4) = k % 4 := w64 _ (by omega)
  have g1 : wrap64 (1 + a % 40) = 1 + a % 40 := w64 _ (by omega)
  have g2 : wrap64 (1 + b % 24) = 1 + b % 24 := w64 _ (by omega)
  have g3 : wrap64 (1 + k % 4) = 1 + k % 4 := w64 _ (by omega)
  go_enter Tryd.func10, Tryd.ntmps10
  go_wp2
  exact bodyPost_ret (results_cells rfl (Cells.new w 23 (pC (1 + a % 40) (1 + b % 24) (1 + k % 4) 50 1 0)) hu rfl (by kernel_rfl) _ rfl) rfl ⟨rfl, (But.refl _ _).alloc _⟩

set_option maxHeartbeats 6400000 in
set_option maxRecDepth 100000 in
theorem image_any (W H m : Int) (f : Fit W H m) (v : Value) (lc : List Int) (w : World) (hv : View w .u8 v lc) (hxc : ∀ x ∈ lc, 0 ≤ x ∧ x ≤ 255) (hcl : lc.length ≤ 140737488355328) : Calls Tryd.prog 11 #[pV W H m 50 1 0, v] w fun e w' =>
    (∃ (l : List Int) (pv : Value), e = .returned (imV W H (m != 1) pv) ∧ (l.length : Int) = W * H * partsN m ∧ (∀ x ∈ l, 0 ≤ x ∧ x ≤ 255) ∧ Lst w w' 5 1 pv l.length (ints .u8 l)) ∧ But Nowhere w w' := by
  have hu := Tryd.underlying26
  have hW := f.w
  have hH := f.h
  have hS := f.s
  have m0 : 1 * 1 ≤ W * H := Int.mul_le_mul hW.1 hH.1 (by omega) (by omega)
  obtain ⟨n, hn⟩ : ∃ n : Nat, W * H * (partsN m : Int) = n := ⟨(W * H * (partsN m : Int)).toNat, by have : 0 ≤ W * H * (partsN m : Int) := Int.mul_nonneg (by omega) (by omega); omega⟩
  have hn3 : n ≤ 3145728 := by
    have p1 : 1 ≤ (partsN m : Int) ∧ (partsN m : Int) ≤ 3 := by unfold partsN; split <;> simp
    have : W * H * (partsN m : Int) ≤ 1048576 * 3 := Int.mul_le_mul hS p1.2 (by omega) (by omega)
    omega
  rw [hn]
  have e0 : wrap64 (W * H) = W * H := w64 _ (by omega)
  have e3 : wrap64 (3 * (W * H)) = 3 * (W * H) := w64 _ (by omega)
  obtain ⟨r, hr⟩ : ∃ r, (m != 1) = r := ⟨_, rfl⟩
  rw [hr]
  obtain ⟨vo, vc, rfl⟩ := hv.slice
  have kk := (((Keep.start w).made 23 (pC W H m 50 1 0)).made 26 (imC 0 0 false (.slice none 0 0))).made 26 (imC W H r (.slice none 0 0))
  simp only [World.size_alloc] at kk
  obtain ⟨RB, hRB⟩ : ∃ b, w.heap.size + 1 = b := ⟨_, rfl⟩
  have hne : w.heap.size < RB := by omega
  have HQ : Hid (Cells _ (RB + 1) 26 (imC W H r (.slice none 0 0)) ∧ Cells _ RB 26 (imC 0 0 false (.slice none 0 0)) ∧ But Nowhere w _) := ⟨hRB ▸ kk.head, hRB ▸ kk.get (b := w.heap.size + 1) (t := 26) (c := imC 0 0 false (.slice none 0 0)) (by simp), kk.but⟩
  clear kk
  have hnm : (if m = 1 then W * H else 3 * (W * H)) = (n : Int) := by
    rw [← hn]; unfold partsN
    split
    · simp
    · simp; rw [Int.mul_comm]
  clear hn
  rcases Nat.eq_zero_or_pos lc.length with hc0 | hc0
  · obtain rfl := List.eq_nil_of_length_eq_zero hc0
    clear hc0 hcl hxc
    simp only [List.length_nil]
    cases r
    · have hm1 : m = 1 := by simpa using hr
      rw [if_pos hm1] at hnm
      clear hm1
      rw [hnm] at e0
      go_enter Tryd.func11, Tryd.ntmps11
      go_wp2_with fail
      obtain ⟨h1, h2, h3⟩ := HQ.out
      clear HQ
      revert h1 h2 h3
      generalize (((w.alloc (.cells (pC W H m 50 1 0).toArray 23)).alloc (.cells (imC 0 0 false (.slice none 0 0)).toArray 26)).alloc (.cells (imC W H false (.slice none 0 0)).toArray 26)) = W0
      intro h1 h2 h3
      have LS : Lst w W0 5 1 (.slice none 0 0) 0 (ints .u8 []) := ⟨World.ownsRow_nil _ _ _ _, by simp [Value.ownBlock], h3⟩
      go_loopw [7] (fun i W' => ∃ (k : Nat) (l : List Int) (pv : Value), k ≤ n ∧ l.length = k ∧ i = .int .i64 k ∧ (∀ x ∈ l, 0 ≤ x ∧ x ≤ 255) ∧ Lst w W' 5 1 pv k (ints .u8 l) ∧ Cells W' (RB + 1) 26 (imC W H false pv) ∧ Cells W' RB 26 (imC 0 0 false (.slice none 0 0)) ∧ (∀ x, pv.ownBlock = some x → x ≠ (RB + 1)) ∧ (∀ x, pv.ownBlock = some x → x ≠ RB)) (fun i _ => n - (intOf i).toNat)
      case atStart => exact ⟨0, [], _, Nat.zero_le _, rfl, rfl, by simp, LS, h1, h2, by simp [Value.ownBlock], by simp [Value.ownBlock]⟩
      case round =>
        clear LS h1 h2 h3
        obtain ⟨k, l, pv, hk, hlk, rfl, hlx, LL, HM, HR, nB, nR⟩ := hrel
        have HLK : Hid (l.length = k) := hlk
        clear hlk
        obtain ⟨po, pc, rfl⟩ := LL.slice
        by_cases hlt : k < n
        · have q0 : (0 : Int) ≤ (k : Int) := by omega
          have c0 := HM.at 3
          simp only [List.getElem?_cons_zero, List.getElem?_cons_succ] at c0
          obtain ⟨b, hbv⟩ : ∃ b, (k : Int) * 7 % 256 = b := ⟨_, rfl⟩
          have hb0 : 0 ≤ b ∧ b ≤ 255 := by omega
          obtain ⟨g, cap, W4, hrun, L4, b4, hg4⟩ := Lst.push Tryd.elemByte LL [.int .u8 b] rfl (by simp [Value.oneCell']) (by omega) (by omega) _ rfl
          have hM4 := HM.but b4 (fun e => nB _ e rfl)
          have hR4 := HR.but b4 (fun e => nR _ e rfl)
          have c3 := hM4.at 3
          have f3 := hM4.frozen 3
          simp only [List.getElem?_cons_zero, List.getElem?_cons_succ] at c3
          have hgM : g ≠ (RB + 1) := by
            rcases hg4 with e | e
            · exact nB g e
            · have := HM.lt; omega
          have hgR : g ≠ RB := by
            rcases hg4 with e | e
            · exact nR g e
            · have := HR.lt; omega
          have HF : Hid (∃ l' : List Int, l'.length = k + 1 ∧ (∀ x ∈ l', 0 ≤ x ∧ x ≤ 255) ∧ Lst w (W4.setCell ⟨(RB + 1), 3, none⟩ (.slice (some ⟨g, 0, none⟩) (k + 1) cap)) 5 1 (.slice (some ⟨g, 0, none⟩) (k + 1) cap) (k + 1) (ints .u8 l') ∧ Cells (W4.setCell ⟨(RB + 1), 3, none⟩ (.slice (some ⟨g, 0, none⟩) (k + 1) cap)) (RB + 1) 26 (imC W H false (.slice (some ⟨g, 0, none⟩) (k + 1) cap)) ∧ Cells (W4.setCell ⟨(RB + 1), 3, none⟩ (.slice (some ⟨g, 0, none⟩) (k + 1) cap)) RB 26 (imC 0 0 false (.slice none 0 0))) := by
            refine ⟨l ++ [b], by simp [HLK.out], fun x hx' => ?_, ?_, hM4.set 3 _, hR4.far (by omega) 3 _⟩
            · rcases List.mem_append.1 hx' with q | q
              · exact hlx x q
              · simp at q; rw [q]; exact hb0
            · have e : ints .u8 (l ++ [b]) = ints .u8 l ++ [.int .u8 b] := by simp [ints]
              rw [e]
              exact L4.stepS (S := fun x => x = (RB + 1)) (But.setCell (S := fun x => x = (RB + 1)) (p := ⟨(RB + 1), 3, none⟩) (But.refl _ _) (fun _ => rfl) _) (fun x hx' e => by simp [Value.ownBlock] at hx'; subst hx'; exact hgM e) (fun x e => by omega)
          clear L4 hM4 hR4 b4 HM HR
          go_wp2_with (at_builtin; refine wpList_append_run rfl _ _ _ rfl _ _ (by rfl) (by rfl) _ _ hrun ?_)
          obtain ⟨l', h1, h2, h3, h4, h5⟩ := HF.out
          go_roundw
          case rel => exact ⟨k + 1, l', _, by omega, h1, by go_num, h2, h3, h4, h5, fun x hx' e => by simp [Value.ownBlock] at hx'; subst hx'; exact hgM e, fun x hx' e => by simp [Value.ownBlock] at hx'; subst hx'; exact hgR e⟩
          case measure => simp [intOf]; omega
        · obtain rfl : k = n := by omega
          have d0 := HM.at 0
          have d1 := HM.at 1
          have d2 := HM.at 2
          have d3 := HM.at 3
          have x0 := HR.at 0
          have x1 := HR.at 1
          have x2 := HR.at 2
          have x3 := HR.at 3
          have y0 := HR.frozen 0
          have y1 := HR.frozen 1
          have y2 := HR.frozen 2
          have y3 := HR.frozen 3
          simp only [List.getElem?_cons_zero, List.getElem?_cons_succ] at d0 d1 d2 d3 x0 x1 x2 x3
          have LE : Lst w ((((wr.setCell ⟨RB, 0, none⟩ (.int .i64 W)).setCell ⟨RB, 1, none⟩ (.int .i64 H)).setCell ⟨RB, 2, none⟩ (.bool false)).setCell ⟨RB, 3, none⟩ (.slice po k pc)) 5 1 (.slice po k pc) k (ints .u8 l) :=
            LL.stepS (S := fun x => x = RB) (But.setCell (S := fun x => x = RB) (p := ⟨RB, 3, none⟩) (But.setCell (S := fun x => x = RB) (p := ⟨RB, 2, none⟩) (But.setCell (S := fun x => x = RB) (p := ⟨RB, 1, none⟩) (But.setCell (S := fun x => x = RB) (p := ⟨RB, 0, none⟩) (But.refl _ _) (fun _ => rfl) _) (fun _ => rfl) _) (fun _ => rfl) _) (fun _ => rfl) _) (fun x hx' e => nR x hx' e) (fun x e => by omega)
          have CE := (((HR.set 0 (.int .i64 W)).set 1 (.int .i64 H)).set 2 (.bool false)).set 3 (.slice po k pc)
          simp only [List.set_cons_zero, List.set_cons_succ] at CE
          clear HM HR LL
          go_wp2_with fail
          refine bodyPost_ret (results_cells rfl CE hu rfl (by kernel_rfl) _ rfl) rfl ⟨⟨l, _, rfl, by rw [HLK.out], hlx, by rw [HLK.out]; exact LE⟩, LE.but⟩
    · have hm1 : ¬ m = 1 := by simpa using hr
      rw [if_neg hm1] at hnm
      rw [hnm] at e3
      clear hm1
      go_enter Tryd.func11, Tryd.ntmps11
      go_wp2_with fail
      obtain ⟨h1, h2, h3⟩ := HQ.out
      clear HQ
      revert h1 h2 h3
      generalize (((w.alloc (.cells (pC W H m 50 1 0).toArray 23)).alloc (.cells (imC 0 0 false (.slice none 0 0)).toArray 26)).alloc (.cells (imC W H true (.slice none 0 0)).toArray 26)) = W0
      intro h1 h2 h3
      have LS : Lst w W0 5 1 (.slice none 0 0) 0 (ints .u8 []) := ⟨World.ownsRow_nil _ _ _ _, by simp [Value.ownBlock], h3⟩
      go_loopw [7] (fun i W' => ∃ (k : Nat) (l : List Int) (pv : Value), k ≤ n ∧ l.length = k ∧ i = .int .i64 k ∧ (∀ x ∈ l, 0 ≤ x ∧ x ≤ 255) ∧ Lst w W' 5 1 pv k (ints .u8 l) ∧ Cells W' (RB + 1) 26 (imC W H true pv) ∧ Cells W' RB 26 (imC 0 0 false (.slice none 0 0)) ∧ (∀ x, pv.ownBlock = some x → x ≠ (RB + 1)) ∧ (∀ x, pv.ownBlock = some x → x ≠ RB)) (fun i _ => n - (intOf i).toNat)
      case atStart => exact ⟨0, [], _, Nat.zero_le _, rfl, rfl, by simp, LS, h1, h2, by simp [Value.ownBlock], by simp [Value.ownBlock]⟩
      case round =>
        clear LS h1 h2 h3
        obtain ⟨k, l, pv, hk, hlk, rfl, hlx, LL, HM, HR, nB, nR⟩ := hrel
        have HLK : Hid (l.length = k) := hlk
        clear hlk
        obtain ⟨po, pc, rfl⟩ := LL.slice
        by_cases hlt : k < n
        · have q0 : (0 : Int) ≤ (k : Int) := by omega
          have c0 := HM.at 3
          simp only [List.getElem?_cons_zero, List.getElem?_cons_succ] at c0
          obtain ⟨b, hbv⟩ : ∃ b, (k : Int) * 7 % 256 = b := ⟨_, rfl⟩
          have hb0 : 0 ≤ b ∧ b ≤ 255 := by omega
          obtain ⟨g, cap, W4, hrun, L4, b4, hg4⟩ := Lst.push Tryd.elemByte LL [.int .u8 b] rfl (by simp [Value.oneCell']) (by omega) (by omega) _ rfl
          have hM4 := HM.but b4 (fun e => nB _ e rfl)
          have hR4 := HR.but b4 (fun e => nR _ e rfl)
          have c3 := hM4.at 3
          have f3 := hM4.frozen 3
          simp only [List.getElem?_cons_zero, List.getElem?_cons_succ] at c3
          have hgM : g ≠ (RB + 1) := by
            rcases hg4 with e | e
            · exact nB g e
            · have := HM.lt; omega
          have hgR : g ≠ RB := by
            rcases hg4 with e | e
            · exact nR g e
            · have := HR.lt; omega
          have HF : Hid (∃ l' : List Int, l'.length = k + 1 ∧ (∀ x ∈ l', 0 ≤ x ∧ x ≤ 255) ∧ Lst w (W4.setCell ⟨(RB + 1), 3, none⟩ (.slice (some ⟨g, 0, none⟩) (k + 1) cap)) 5 1 (.slice (some ⟨g, 0, none⟩) (k + 1) cap) (k + 1) (ints .u8 l') ∧ Cells (W4.setCell ⟨(RB + 1), 3, none⟩ (.slice (some ⟨g, 0, none⟩) (k + 1) cap)) (RB + 1) 26 (imC W H true (.slice (some ⟨g, 0, none⟩) (k + 1) cap)) ∧ Cells (W4.setCell ⟨(RB + 1), 3, none⟩ (.slice (some ⟨g, 0, none⟩) (k + 1) cap)) RB 26 (imC 0 0 false (.slice none 0 0))) := by
            refine ⟨l ++ [b], by simp [HLK.out], fun x hx' => ?_, ?_, hM4.set 3 _, hR4.far (by omega) 3 _⟩
            · rcases List.mem_append.1 hx' with q | q
              · exact hlx x q
              · simp at q; rw [q]; exact hb0
            · have e : ints .u8 (l ++ [b]) = ints .u8 l ++ [.int .u8 b] := by simp [ints]
              rw [e]
              exact L4.stepS (S := fun x => x = (RB + 1)) (But.setCell (S := fun x => x = (RB + 1)) (p := ⟨(RB + 1), 3, none⟩) (But.refl _ _) (fun _ => rfl) _) (fun x hx' e => by simp [Value.ownBlock] at hx'; subst hx'; exact hgM e) (fun x e => by omega)
          clear L4 hM4 hR4 b4 HM HR
          go_wp2_with (at_builtin; refine wpList_append_run rfl _ _ _ rfl _ _ (by rfl) (by rfl) _ _ hrun ?_)
          obtain ⟨l', h1, h2, h3, h4, h5⟩ := HF.out
          go_roundw
          case rel => exact ⟨k + 1, l', _, by omega, h1, by go_num, h2, h3, h4, h5, fun x hx' e => by simp [Value.ownBlock] at hx'; subst hx'; exact hgM e, fun x hx' e => by simp [Value.ownBlock] at hx'; subst hx'; exact hgR e⟩
          case measure => simp [intOf]; omega
        · obtain rfl : k = n := by omega
          have d0 := HM.at 0
          have d1 := HM.at 1
          have d2 := HM.at 2
          have d3 := HM.at 3
          have x0 := HR.at 0
          have x1 := HR.at 1
          have x2 := HR.at 2
          have x3 := HR.at 3
          have y0 := HR.frozen 0
          have y1 := HR.frozen 1
          have y2 := HR.frozen 2
          have y3 := HR.frozen 3
          simp only [List.getElem?_cons_zero, List.getElem?_cons_succ] at d0 d1 d2 d3 x0 x1 x2 x3
          have LE : Lst w ((((wr.setCell ⟨RB, 0, none⟩ (.int .i64 W)).setCell ⟨RB, 1, none⟩ (.int .i64 H)).setCell ⟨RB, 2, none⟩ (.bool true)).setCell ⟨RB, 3, none⟩ (.slice po k pc)) 5 1 (.slice po k pc) k (ints .u8 l) :=
            LL.stepS (S := fun x => x = RB) (But.setCell (S := fun x => x = RB) (p := ⟨RB, 3, none⟩) (But.setCell (S := fun x => x = RB) (p := ⟨RB, 2, none⟩) (But.setCell (S := fun x => x = RB) (p := ⟨RB, 1, none⟩) (But.setCell (S := fun x => x = RB) (p := ⟨RB, 0, none⟩) (But.refl _ _) (fun _ => rfl) _) (fun _ => rfl) _) (fun _ => rfl) _) (fun _ => rfl) _) (fun x hx' e => nR x hx' e) (fun x e => by omega)
          have CE := (((HR.set 0 (.int .i64 W)).set 1 (.int .i64 H)).set 2 (.bool true)).set 3 (.slice po k pc)
          simp only [List.set_cons_zero, List.set_cons_succ] at CE
          clear HM HR LL
          go_wp2_with fail
          refine bodyPost_ret (results_cells rfl CE hu rfl (by kernel_rfl) _ rfl) rfl ⟨⟨l, _, rfl, by rw [HLK.out], hlx, by rw [HLK.out]; exact LE⟩, LE.but⟩
  · cases r
    · have hm1 : m = 1 := by simpa using hr
      rw [if_pos hm1] at hnm
      clear hm1
      rw [hnm] at e0
      go_enter Tryd.func11, Tryd.ntmps11
      go_wp2_with fail
      obtain ⟨h1, h2, h3⟩ := HQ.out
      clear HQ
      revert h1 h2 h3
      generalize (((w.alloc (.cells (pC W H m 50 1 0).toArray 23)).alloc (.cells (imC 0 0 false (.slice none 0 0)).toArray 26)).alloc (.cells (imC W H false (.slice none 0 0)).toArray 26)) = W0
      intro h1 h2 h3
      have LS : Lst w W0 5 1 (.slice none 0 0) 0 (ints .u8 []) := ⟨World.ownsRow_nil _ _ _ _, by simp [Value.ownBlock], h3⟩
      go_loopw [7] (fun i W' => ∃ (k : Nat) (l : List Int) (pv : Value), k ≤ n ∧ l.length = k ∧ i = .int .i64 k ∧ (∀ x ∈ l, 0 ≤ x ∧ x ≤ 255) ∧ Lst w W' 5 1 pv k (ints .u8 l) ∧ Cells W' (RB + 1) 26 (imC W H false pv) ∧ Cells W' RB 26 (imC 0 0 false (.slice none 0 0)) ∧ (∀ x, pv.ownBlock = some x → x ≠ (RB + 1)) ∧ (∀ x, pv.ownBlock = some x → x ≠ RB)) (fun i _ => n - (intOf i).toNat)
      case atStart => exact ⟨0, [], _, Nat.zero_le _, rfl, rfl, by simp, LS, h1, h2, by simp [Value.ownBlock], by simp [Value.ownBlock]⟩
      case round =>
        clear LS h1 h2 h3
        obtain ⟨k, l, pv, hk, hlk, rfl, hlx, LL, HM, HR, nB, nR⟩ := hrel
        have HLK : Hid (l.length = k) := hlk
        clear hlk
        obtain ⟨po, pc, rfl⟩ := LL.slice
        by_cases hlt : k < n
        · have q0 : (0 : Int) ≤ (k : Int) := by omega
          have c0 := HM.at 3
          simp only [List.getElem?_cons_zero, List.getElem?_cons_succ] at c0
          have hc1 : (0 : Int) < (lc.length : Int) := by omega
          have hc2 : ¬ (lc.length : Int) = 0 := by omega
          have r1 : (k : Int).tmod (lc.length : Int) = ((k % lc.length : Nat) : Int) := by rw [Int.tmod_eq_emod_of_nonneg (by omega)]; rfl
          have r2 : (k : Int).tdiv (lc.length : Int) = ((k / lc.length : Nat) : Int) := by rw [Int.tdiv_eq_ediv_of_nonneg (by omega)]; rfl
          have hkm : k % lc.length < lc.length := Nat.mod_lt _ (by omega)
          have hdk : k / lc.length ≤ k := Nat.div_le_self _ _
          obtain ⟨j, hj⟩ : ∃ j, k % lc.length = j := ⟨_, rfl⟩
          obtain ⟨d, hd⟩ : ∃ d, k / lc.length = d := ⟨_, rfl⟩
          rw [hj] at r1 hkm
          rw [hd] at r2 hdk
          have r3 : IntKind.i64.wrap (d : Int) = (d : Int) := by rw [wrap_i64_eq]; exact w64 _ (by omega)
          obtain ⟨-, vb, off, rfl, hvb, hvc⟩ := (hv.but LL.but).at j hkm
          rw [gn_at] at hvc
          have q1 : (0 : Int) ≤ (j : Int) := by omega
          have q2 : (j : Int) < (lc.length : Int) := by omega
          clear hj hd
          go_wp2_with fail
          go_quiet (fail)
          replace LL := LL.step ((But.refl _ _).drewN nq)
          replace HM := HM.but ((But.refl Nowhere _).drewN nq) (not_nowhere _)
          replace HR := HR.but ((But.refl Nowhere _).drewN nq) (not_nowhere _)
          obtain ⟨b, hbv⟩ : ∃ b, (gn lc j + (d : Int) % 256) % 256 = b := ⟨_, rfl⟩
          have hb0 : 0 ≤ b ∧ b ≤ 255 := by omega
          obtain ⟨g, cap, W4, hrun, L4, b4, hg4⟩ := Lst.push Tryd.elemByte LL [.int .u8 b] rfl (by simp [Value.oneCell']) (by omega) (by omega) _ rfl
          have hM4 := HM.but b4 (fun e => nB _ e rfl)
          have hR4 := HR.but b4 (fun e => nR _ e rfl)
          have c3 := hM4.at 3
          have f3 := hM4.frozen 3
          simp only [List.getElem?_cons_zero, List.getElem?_cons_succ] at c3
          have hgM : g ≠ (RB + 1) := by
            rcases hg4 with e | e
            · exact nB g e
            · have := HM.lt; omega
          have hgR : g ≠ RB := by
            rcases hg4 with e | e
            · exact nR g e
            · have := HR.lt; omega
          have HF : Hid (∃ l' : List Int, l'.length = k + 1 ∧ (∀ x ∈ l', 0 ≤ x ∧ x ≤ 255) ∧ Lst w (W4.setCell ⟨(RB + 1), 3, none⟩ (.slice (some ⟨g, 0, none⟩) (k + 1) cap)) 5 1 (.slice (some ⟨g, 0, none⟩) (k + 1) cap) (k + 1) (ints .u8 l') ∧ Cells (W4.setCell ⟨(RB + 1), 3, none⟩ (.slice (some ⟨g, 0, none⟩) (k + 1) cap)) (RB + 1) 26 (imC W H false (.slice (some ⟨g, 0, none⟩) (k + 1) cap)) ∧ Cells (W4.setCell ⟨(RB + 1), 3, none⟩ (.slice (some ⟨g, 0, none⟩) (k + 1) cap)) RB 26 (imC 0 0 false (.slice none 0 0))) := by
            refine ⟨l ++ [b], by simp [HLK.out], fun x hx' => ?_, ?_, hM4.set 3 _, hR4.far (by omega) 3 _⟩
            · rcases List.mem_append.1 hx' with q | q
              · exact hlx x q
              · simp at q; rw [q]; exact hb0
            · have e : ints .u8 (l ++ [b]) = ints .u8 l ++ [.int .u8 b] := by simp [ints]
              rw [e]
              exact L4.stepS (S := fun x => x = (RB + 1)) (But.setCell (S := fun x => x = (RB + 1)) (p := ⟨(RB + 1), 3, none⟩) (But.refl _ _) (fun _ => rfl) _) (fun x hx' e => by simp [Value.ownBlock] at hx'; subst hx'; exact hgM e) (fun x e => by omega)
          clear L4 hM4 hR4 b4 HM HR
          go_wp2_with (at_builtin; refine wpList_append_run rfl _ _ _ rfl _ _ (by rfl) (by rfl) _ _ hrun ?_)
          obtain ⟨l', h1, h2, h3, h4, h5⟩ := HF.out
          go_roundw
          case rel => exact ⟨k + 1, l', _, by omega, h1, by go_num, h2, h3, h4, h5, fun x hx' e => by simp [Value.ownBlock] at hx'; subst hx'; exact hgM e, fun x hx' e => by simp [Value.ownBlock] at hx'; subst hx'; exact hgR e⟩
          case measure => simp [intOf]; omega
        · obtain rfl : k = n := by omega
          have d0 := HM.at 0
          have d1 := HM.at 1
          have d2 := HM.at 2
          have d3 := HM.at 3
          have x0 := HR.at 0
          have x1 := HR.at 1
          have x2 := HR.at 2
          have x3 := HR.at 3
          have y0 := HR.frozen 0
          have y1 := HR.frozen 1
          have y2 := HR.frozen 2
          have y3 := HR.frozen 3
          simp only [List.getElem?_cons_zero, List.getElem?_cons_succ] at d0 d1 d2 d3 x0 x1 x2 x3
          have LE : Lst w ((((wr.setCell ⟨RB, 0, none⟩ (.int .i64 W)).setCell ⟨RB, 1, none⟩ (.int .i64 H)).setCell ⟨RB, 2, none⟩ (.bool false)).setCell ⟨RB, 3, none⟩ (.slice po k pc)) 5 1 (.slice po k pc) k (ints .u8 l) :=
            LL.stepS (S := fun x => x = RB) (But.setCell (S := fun x => x = RB) (p := ⟨RB, 3, none⟩) (But.setCell (S := fun x => x = RB) (p := ⟨RB, 2, none⟩) (But.setCell (S := fun x => x = RB) (p := ⟨RB, 1, none⟩) (But.setCell (S := fun x => x = RB) (p := ⟨RB, 0, none⟩) (But.refl _ _) (fun _ => rfl) _) (fun _ => rfl) _) (fun _ => rfl) _) (fun _ => rfl) _) (fun x hx' e => nR x hx' e) (fun x e => by omega)
          have CE := (((HR.set 0 (.int .i64 W)).set 1 (.int .i64 H)).set 2 (.bool false)).set 3 (.slice po k pc)
          simp only [List.set_cons_zero, List.set_cons_succ] at CE
          clear HM HR LL
          go_wp2_with fail
          refine bodyPost_ret (results_cells rfl CE hu rfl (by kernel_rfl) _ rfl) rfl ⟨⟨l, _, rfl, by rw [HLK.out], hlx, by rw [HLK.out]; exact LE⟩, LE.but⟩
    · have hm1 : ¬ m = 1 := by simpa using hr
      rw [if_neg hm1] at hnm
      rw [hnm] at e3
      clear hm1
      go_enter Tryd.func11, Tryd.ntmps11
      go_wp2_with fail
      obtain ⟨h1, h2, h3⟩ := HQ.out
      clear HQ
      revert h1 h2 h3
      generalize (((w.alloc (.cells (pC W H m 50 1 0).toArray 23)).alloc (.cells (imC 0 0 false (.slice none 0 0)).toArray 26)).alloc (.cells (imC W H true (.slice none 0 0)).toArray 26)) = W0
      intro h1 h2 h3
      have LS : Lst w W0 5 1 (.slice none 0 0) 0 (ints .u8 []) := ⟨World.ownsRow_nil _ _ _ _, by simp [Value.ownBlock], h3⟩
      go_loopw [7] (fun i W' => ∃ (k : Nat) (l : List Int) (pv : Value), k ≤ n ∧ l.length = k ∧ i = .int .i64 k ∧ (∀ x ∈ l, 0 ≤ x ∧ x ≤ 255) ∧ Lst w W' 5 1 pv k (ints .u8 l) ∧ Cells W' (RB + 1) 26 (imC W H true pv) ∧ Cells W' RB 26 (imC 0 0 false (.slice none 0 0)) ∧ (∀ x, pv.ownBlock = some x → x ≠ (RB + 1)) ∧ (∀ x, pv.ownBlock = some x → x ≠ RB)) (fun i _ => n - (intOf i).toNat)
      case atStart => exact ⟨0, [], _, Nat.zero_le _, rfl, rfl, by simp, LS, h1, h2, by simp [Value.ownBlock], by simp [Value.ownBlock]⟩
      case round =>
        clear LS h1 h2 h3
        obtain ⟨k, l, pv, hk, hlk, rfl, hlx, LL, HM, HR, nB, nR⟩ := hrel
        have HLK : Hid (l.length = k) := hlk
        clear hlk
        obtain ⟨po, pc, rfl⟩ := LL.slice
        by_cases hlt : k < n
        · have q0 : (0 : Int) ≤ (k : Int) := by omega
          have c0 := HM.at 3
          simp only [List.getElem?_cons_zero, List.getElem?_cons_succ] at c0
          have hc1 : (0 : Int) < (lc.length : Int) := by omega
          have hc2 : ¬ (lc.length : Int) = 0 := by omega
          have r1 : (k : Int).tmod (lc.length : Int) = ((k % lc.length : Nat) : Int) := by rw [Int.tmod_eq_emod_of_nonneg (by omega)]; rfl
          have r2 : (k : Int).tdiv (lc.length : Int) = ((k / lc.length : Nat) : Int) := by rw [Int.tdiv_eq_ediv_of_nonneg (by omega)]; rfl
          have hkm : k % lc.length < lc.length := Nat.mod_lt _ (by omega)
          have hdk : k / lc.length ≤ k := Nat.div_le_self _ _
          obtain ⟨j, hj⟩ : ∃ j, k % lc.length = j := ⟨_, rfl⟩
          obtain ⟨d, hd⟩ : ∃ d, k / lc.length = d := ⟨_, rfl⟩
          rw [hj] at r1 hkm
          rw [hd] at r2 hdk
          have r3 : IntKind.i64.wrap (d : Int) = (d : Int) := by rw [wrap_i64_eq]; exact w64 _ (by omega)
          obtain ⟨-, vb, off, rfl, hvb, hvc⟩ := (hv.but LL.but).at j hkm
          rw [gn_at] at hvc
          have q1 : (0 : Int) ≤ (j : Int) := by omega
          have q2 : (j : Int) < (lc.length : Int) := by omega
          clear hj hd
          go_wp2_with fail
          go_quiet (fail)
          replace LL := LL.step ((But.refl _ _).drewN nq)
          replace HM := HM.but ((But.refl Nowhere _).drewN nq) (not_nowhere _)
          replace HR := HR.but ((But.refl Nowhere _).drewN nq) (not_nowhere _)
          obtain ⟨b, hbv⟩ : ∃ b, (gn lc j + (d : Int) % 256) % 256 = b := ⟨_, rfl⟩
          have hb0 : 0 ≤ b ∧ b ≤ 255 := by omega
          obtain ⟨g, cap, W4, hrun, L4, b4, hg4⟩ := Lst.push Tryd.elemByte LL [.int .u8 b] rfl (by simp [Value.oneCell']) (by omega) (by omega) _ rfl
          have hM4 := HM.but b4 (fun e => nB _ e rfl)
          have hR4 := HR.but b4 (fun e => nR _ e rfl)
          have c3 := hM4.at 3
          have f3 := hM4.frozen 3
          simp only [List.getElem?_cons_zero, List.getElem?_cons_succ] at c3
          have hgM : g ≠ (RB + 1) := by
            rcases hg4 with e | e
            · exact nB g e
            · have := HM.lt; omega
          have hgR : g ≠ RB := by
            rcases hg4 with e | e
            · exact nR g e
            · have := HR.lt; omega
          have HF : Hid (∃ l' : List Int, l'.length = k + 1 ∧ (∀ x ∈ l', 0 ≤ x ∧ x ≤ 255) ∧ Lst w (W4.setCell ⟨(RB + 1), 3, none⟩ (.slice (some ⟨g, 0, none⟩) (k + 1) cap)) 5 1 (.slice (some ⟨g, 0, none⟩) (k + 1) cap) (k + 1) (ints .u8 l') ∧ Cells (W4.setCell ⟨(RB + 1), 3, none⟩ (.slice (some ⟨g, 0, none⟩) (k + 1) cap)) (RB + 1) 26 (imC W H true (.slice (some ⟨g, 0, none⟩) (k + 1) cap)) ∧ Cells (W4.setCell ⟨(RB + 1), 3, none⟩ (.slice (some ⟨g, 0, none⟩) (k + 1) cap)) RB 26 (imC 0 0 false (.slice none 0 0))) := by
            refine ⟨l ++ [b], by simp [HLK.out], fun x hx' => ?_, ?_, hM4.set 3 _, hR4.far (by omega) 3 _⟩
            · rcases List.mem_append.1 hx' with q | q
              · exact hlx x q
              · simp at q; rw [q]; exact hb0
            · have e : ints .u8 (l ++ [b]) = ints .u8 l ++ [.int .u8 b] := by simp [ints]
              rw [e]
              exact L4.stepS (S := fun x => x = (RB + 1)) (But.setCell (S := fun x => x = (RB + 1)) (p := ⟨(RB + 1), 3, none⟩) (But.refl _ _) (fun _ => rfl) _) (fun x hx' e => by simp [Value.ownBlock] at hx'; subst hx'; exact hgM e) (fun x e => by omega)
          clear L4 hM4 hR4 b4 HM HR
          go_wp2_with (at_builtin; refine wpList_append_run rfl _ _ _ rfl _ _ (by rfl) (by rfl) _ _ hrun ?_)
          obtain ⟨l', h1, h2, h3, h4, h5⟩ := HF.out
          go_roundw
          case rel => exact ⟨k + 1, l', _, by omega, h1, by go_num, h2, h3, h4, h5, fun x hx' e => by simp [Value.ownBlock] at hx'; subst hx'; exact hgM e, fun x hx' e => by simp [Value.ownBlock] at hx'; subst hx'; exact hgR e⟩
          case measure => simp [intOf]; omega
        · obtain rfl : k = n := by omega
          have d0 := HM.at 0
          have d1 := HM.at 1
          have d2 := HM.at 2
          have d3 := HM.at 3
          have x0 := HR.at 0
          have x1 := HR.at 1
          have x2 := HR.at 2
          have x3 := HR.at 3
          have y0 := HR.frozen 0
          have y1 := HR.frozen 1
          have y2 := HR.frozen 2
          have y3 := HR.frozen 3
          simp only [List.getElem?_cons_zero, List.getElem?_cons_succ] at d0 d1 d2 d3 x0 x1 x2 x3
          have LE : Lst w ((((wr.setCell ⟨RB, 0, none⟩ (.int .i64 W)).setCell ⟨RB, 1, none⟩ (.int .i64 H)).setCell ⟨RB, 2, none⟩ (.bool true)).setCell ⟨RB, 3, none⟩ (.slice po k pc)) 5 1 (.slice po k pc) k (ints .u8 l) :=
            LL.stepS (S := fun x => x = RB) (But.setCell (S := fun x => x = RB) (p := ⟨RB, 3, none⟩) (But.setCell (S := fun x => x = RB) (p := ⟨RB, 2, none⟩) (But.setCell (S := fun x => x = RB) (p := ⟨RB, 1, none⟩) (But.setCell (S := fun x => x = RB) (p := ⟨RB, 0, none⟩) (But.refl _ _) (fun _ => rfl) _) (fun _ => rfl) _) (fun _ => rfl) _) (fun _ => rfl) _) (fun x hx' e => nR x hx' e) (fun x e => by omega)
          have CE := (((HR.set 0 (.int .i64 W)).set 1 (.int .i64 H)).set 2 (.bool true)).set 3 (.slice po k pc)
          simp only [List.set_cons_zero, List.set_cons_succ] at CE
          clear HM HR LL
          go_wp2_with fail
          refine bodyPost_ret (results_cells rfl CE hu rfl (by kernel_rfl) _ rfl) rfl ⟨⟨l, _, rfl, by rw [HLK.out], hlx, by rw [HLK.out]; exact LE⟩, LE.but⟩

end Go.Proofs.YtppbnmlgilgnnaaDoor
