import Derived.Test.YtppbnmlgilgnnaaDoorPlArg
import Derived.Test.YtppbnmlgilgnnaaDoorPl12
import Derived.Test.YtppbnmlgilgnnaaDoorPlMid
import Derived.Test.YtppbnmlgilgnnaaDoorPlRef1
import Derived.Test.YtppbnmlgilgnnaaDoorTill
import Derived.Test.YtppbnmlgilgnnaaDoorMgA

/- An image as it comes in. -/
namespace Go.Proofs.YtppbnmlgilgnnaaDoor
open Go.ChangeShapes Go.WideShapes Go.ChangeAt Go.RowKit Go.Deep
set_option maxRecDepth 100000

theorem Tryd.cellsIm : Tryd.prog.cellsOf 26 = 4 := by kernel_rfl
theorem Tryd.cellsBo : Tryd.prog.cellsOf 4 = 1 := by kernel_rfl
theorem Tryd.cellsBy : Tryd.prog.cellsOf 24 = 1 := by kernel_rfl

/-- A list of bytes, by its cell. -/
theorem open_bytes_cell {H : Type} {enc : TypeId × Value → H} {W : World} {fuel : Nat} {v : Value} {x : DataW H × List MemPlace} (hf : DataW.trod enc Tryd.prog W 0 (fun _ => true) true fuel 24 [v] = some x) :
    ∃ l, View W .u8 v l ∧ ∀ x ∈ l, 0 ≤ x ∧ x ≤ 255 := by
  rcases open_slice1 Tryd.underlying24 Tryd.cells1U8 hf with ⟨hc, hx⟩ | ⟨a, len, cap, m, n, V0, D0, P0, hc, _, hl, hm, hmm, hx, hall⟩
  · simp only [List.cons.injEq, and_true] at hc
    subst hc
    exact ⟨[], View.nil _ _, by simp⟩
  · simp only [List.cons.injEq, and_true] at hc
    subst hc
    simp only [if_true] at hmm
    subst hmm
    have h0 : ∀ i, i < m → ∃ k, V0 i = .int .u8 k ∧ (Lit.int .u8 k).wf = true := fun i hi => by
      obtain ⟨k, h1, _, h3⟩ := DataW.trod_int Tryd.underlying5 (hall i hi).2
      simp only [List.cons.injEq, and_true] at h1
      exact ⟨k, h1, h3⟩
    refine ⟨(List.range len).map fun i => intOf (V0 i), ⟨some a, m, by simp, fun hne => ?_⟩, ?_⟩
    · have hpos : 0 < len := by
        rcases Nat.eq_zero_or_pos len with e | e
        · subst e; simp at hne
        · exact e
      obtain ⟨b, off, spot⟩ := a
      have hspot : spot = none := by simpa [Addr.add] using World.cell?_spot (hall 0 (by omega)).1
      subst hspot
      refine ⟨b, off, rfl, World.block_lt_of_cell? W _ (hall 0 (by omega)).1, fun i hi => ?_⟩
      have hi' : i < len := by simpa using hi
      obtain ⟨k0, e0, -⟩ := h0 i (by omega)
      have c0 := (hall i (by omega)).1
      rw [Addr.add_lit] at c0
      simp only [List.getElem_map, List.getElem_range]
      rw [e0] at c0 ⊢
      exact c0
    · intro x hx
      simp only [List.mem_map, List.mem_range] at hx
      obtain ⟨i, hi, rfl⟩ := hx
      obtain ⟨k0, e0, e1⟩ := h0 i (by omega)
      rw [e0]
      exact u8_in e1

set_option maxHeartbeats 1600000 in
theorem open_image {H : Type} {enc : TypeId × Value → H} {W : World} {base : Nat} {v : Value} {d : DataW H} {p : List MemPlace} (hval : Value.okWide Tryd.prog W .any base 26 v)
    (h : DataW.Trod enc Tryd.prog W 0 (fun _ => true) true 26 v d p) : ∃ a b r pv l, v = imV a b r pv ∧ View W .u8 pv l ∧ ∀ x ∈ l, 0 ≤ x ∧ x ≤ 255 := by
  obtain ⟨cs, rfl, hz⟩ := okWide_struct Tryd.underlying26 hval
  rw [Tryd.cellsIm] at hz
  obtain ⟨fuel, hf⟩ := h
  obtain ⟨xs, k, hk, hxy, _, hxl, hf⟩ := DataW.trod_struct Tryd.underlying26 hf
  obtain ⟨l⟩ := cs
  have hz' : l.length = 4 := by simpa using hz
  match xs, hxl, l, hz' with
  | [y0, y1, y2, y3], _, [v0, v1, v2, v3], _ =>
    have g0 := hf 0 _ rfl
    have g1 := hf 1 _ rfl
    have g2 := hf 2 _ rfl
    have g3 := hf 3 _ rfl
    simp [Tryd.cellsI, Tryd.cellsBo, Tryd.cellsBy, Value.cells] at g0 g1 g2 g3
    obtain ⟨n0, e0, -, w0⟩ := DataW.trod_int Tryd.underlying3 g0
    obtain ⟨n1, e1, -, w1⟩ := DataW.trod_int Tryd.underlying3 g1
    obtain ⟨n2, e2, -⟩ := DataW.trod_bool Tryd.underlying4 g2
    obtain ⟨l, hv, hl⟩ := open_bytes_cell g3
    simp only [List.cons.injEq, and_true] at e0 e1 e2
    subst e0 e1 e2
    exact ⟨n0, n1, n2, v3, l, rfl, hv, hl⟩

end Go.Proofs.YtppbnmlgilgnnaaDoor

/- The law's own images: Public, Image. -/
namespace Go.Proofs.YtppbnmlgilgnnaaDoor
open Go.ChangeShapes Go.WideShapes Go.ChangeAt Go.RowKit

theorem byteIn (x : Int) : 0 ≤ IntKind.u8.wrap x ∧ IntKind.u8.wrap x ≤ 255 := by rw [IntKind.wrap_u8]; omega

set_option maxHeartbeats 1600000 in
theorem public_any (a b k : Int) (ha : 0 ≤ a ∧ a ≤ 255) (hb : 0 ≤ b ∧ b ≤ 255) (hk : 0 ≤ k ∧ k ≤ 255) (w : World) : Calls Tryd.prog 10 #[.int .u8 a, .int .u8 b, .int .u8 k] w fun e w' =>
    e = .returned (pV (1 + a % 40) (1 + b % 24) (1 + k % 4) 50 1 0) ∧ But Nowhere w w' := by
  have hu := Tryd.underlying23
  have e1 : a.tmod 40 = a % 40 := Int.tmod_eq_emod_of_nonneg ha.1
  have e2 : b.tmod 24 = b % 24 := Int.tmod_eq_emod_of_nonneg hb.1
  have e3 : k.tmod 4 = k % 4 := Int.tmod_eq_emod_of_nonneg hk.1
  have f1 : wrap64 (a % 40) = a % 40 := w64 _ (by omega)
  have f2 : wrap64 (b % 24) = b % 24 := w64 _ (by omega)
  have f3 : wrap64 (k % 4) = k % 4 := w64 _ (by omega)
  have g1 : wrap64 (1 + a % 40) = 1 + a % 40 := w64 _ (by omega)
  have g2 : wrap64 (1 + b % 24) = 1 + b % 24 := w64 _ (by omega)
  have g3 : wrap64 (1 + k % 4) = 1 + k % 4 := w64 _ (by omega)
  go_enter Tryd.func10, Tryd.ntmps10
  go_wp2
  exact bodyPost_ret (results_cells rfl (Cells.new w 23 (pC (1 + a % 40) (1 + b % 24) (1 + k % 4) 50 1 0)) hu rfl (by kernel_rfl) _ rfl) rfl ⟨rfl, (But.refl _ _).alloc _⟩

set_option maxHeartbeats 6400000 in
set_option maxRecDepth 100000 in
theorem image_any (W H m : Int) (f : Fit W H m) (v : Value) (lc : List Int) (w : World) (hv : View w .u8 v lc) (hxc : ∀ x ∈ lc, 0 ≤ x ∧ x ≤ 255) (hcl : lc.length ≤ 140737488355328) : Calls Tryd.prog 11 #[pV W H m 50 1 0, v] w fun e w' =>
    (∃ (l : List Int) (pv : Value), e = .returned (imV W H (m != 1) pv) ∧ (l.length : Int) = W * H * partsN m ∧ (∀ x ∈ l, 0 ≤ x ∧ x ≤ 255) ∧ Lst w w' 5 1 pv l.length (ints .u8 l)) ∧ But Nowhere w w' := by
  have hu := Tryd.underlying26
  have hW := f.w
  have hH := f.h
  have hS := f.s
  have m0 : 1 * 1 ≤ W * H := Int.mul_le_mul hW.1 hH.1 (by omega) (by omega)
  obtain ⟨n, hn⟩ : ∃ n : Nat, W * H * (partsN m : Int) = n := ⟨(W * H * (partsN m : Int)).toNat, by have : 0 ≤ W * H * (partsN m : Int) := Int.mul_nonneg (by omega) (by omega); omega⟩
  have hn3 : n ≤ 3145728 := by
    have p1 : 1 ≤ (partsN m : Int) ∧ (partsN m : Int) ≤ 3 := by unfold partsN; split <;> simp
    have : W * H * (partsN m : Int) ≤ 1048576 * 3 := Int.mul_le_mul hS p1.2 (by omega) (by omega)
    omega
  rw [hn]
  have e0 : wrap64 (W * H) = W * H := w64 _ (by omega)
  have e3 : wrap64 (3 * (W * H)) = 3 * (W * H) := w64 _ (by omega)
  obtain ⟨r, hr⟩ : ∃ r, (m != 1) = r := ⟨_, rfl⟩
  rw [hr]
  obtain ⟨vo, vc, rfl⟩ := hv.slice
  have kk := (((Keep.start w).made 23 (pC W H m 50 1 0)).made 26 (imC 0 0 false (.slice none 0 0))).made 26 (imC W H r (.slice none 0 0))
  simp only [World.size_alloc] at kk
  obtain ⟨RB, hRB⟩ : ∃ b, w.heap.size + 1 = b := ⟨_, rfl⟩
  have hne : w.heap.size < RB := by omega
  have HQ : Hid (Cells _ (RB + 1) 26 (imC W H r (.slice none 0 0)) ∧ Cells _ RB 26 (imC 0 0 false (.slice none 0 0)) ∧ But Nowhere w _) := ⟨hRB ▸ kk.head, hRB ▸ kk.get (b := w.heap.size + 1) (t := 26) (c := imC 0 0 false (.slice none 0 0)) (by simp), kk.but⟩
  clear kk
  have hnm : (if m = 1 then W * H else 3 * (W * H)) = (n : Int) := by
    rw [← hn]; unfold partsN
    split
    · simp
    · simp; rw [Int.mul_comm]
  clear hn
  rcases Nat.eq_zero_or_pos lc.length with hc0 | hc0
  · obtain rfl := List.eq_nil_of_length_eq_zero hc0
    clear hc0 hcl hxc
    simp only [List.length_nil]
    cases r
    · have hm1 : m = 1 := by simpa using hr
      rw [if_pos hm1] at hnm
      clear hm1
      rw [hnm] at e0
      go_enter Tryd.func11, Tryd.ntmps11
      go_wp2_with fail
      obtain ⟨h1, h2, h3⟩ := HQ.out
      clear HQ
      revert h1 h2 h3
      generalize (((w.alloc (.cells (pC W H m 50 1 0).toArray 23)).alloc (.cells (imC 0 0 false (.slice none 0 0)).toArray 26)).alloc (.cells (imC W H false (.slice none 0 0)).toArray 26)) = W0
      intro h1 h2 h3
      have LS : Lst w W0 5 1 (.slice none 0 0) 0 (ints .u8 []) := ⟨World.ownsRow_nil _ _ _ _, by simp [Value.ownBlock], h3⟩
      go_loopw [7] (fun i W' => ∃ (k : Nat) (l : List Int) (pv : Value), k ≤ n ∧ l.length = k ∧ i = .int .i64 k ∧ (∀ x ∈ l, 0 ≤ x ∧ x ≤ 255) ∧ Lst w W' 5 1 pv k (ints .u8 l) ∧ Cells W' (RB + 1) 26 (imC W H false pv) ∧ Cells W' RB 26 (imC 0 0 false (.slice none 0 0)) ∧ (∀ x, pv.ownBlock = some x → x ≠ (RB + 1)) ∧ (∀ x, pv.ownBlock = some x → x ≠ RB)) (fun i _ => n - (intOf i).toNat)
      case atStart => exact ⟨0, [], _, Nat.zero_le _, rfl, rfl, by simp, LS, h1, h2, by simp [Value.ownBlock], by simp [Value.ownBlock]⟩
      case round =>
        clear LS h1 h2 h3
        obtain ⟨k, l, pv, hk, hlk, rfl, hlx, LL, HM, HR, nB, nR⟩ := hrel
        have HLK : Hid (l.length = k) := hlk
        clear hlk
        obtain ⟨po, pc, rfl⟩ := LL.slice
        by_cases hlt : k < n
        · have q0 : (0 : Int) ≤ (k : Int) := by omega
          have c0 := HM.at 3
          simp only [List.getElem?_cons_zero, List.getElem?_cons_succ] at c0
          obtain ⟨b, hbv⟩ : ∃ b, (k : Int) * 7 % 256 = b := ⟨_, rfl⟩
          have hb0 : 0 ≤ b ∧ b ≤ 255 := by omega
          obtain ⟨g, cap, W4, hrun, L4, b4, hg4⟩ := Lst.push Tryd.elemByte LL [.int .u8 b] rfl (by simp [Value.oneCell']) (by omega) (by omega) _ rfl
          have hM4 := HM.but b4 (fun e => nB _ e rfl)
          have hR4 := HR.but b4 (fun e => nR _ e rfl)
          have c3 := hM4.at 3
          have f3 := hM4.frozen 3
          simp only [List.getElem?_cons_zero, List.getElem?_cons_succ] at c3
          have hgM : g ≠ (RB + 1) := by
            rcases hg4 with e | e
            · exact nB g e
            · have := HM.lt; omega
          have hgR : g ≠ RB := by
            rcases hg4 with e | e
            · exact nR g e
            · have := HR.lt; omega
          have HF : Hid (∃ l' : List Int, l'.length = k + 1 ∧ (∀ x ∈ l', 0 ≤ x ∧ x ≤ 255) ∧ Lst w (W4.setCell ⟨(RB + 1), 3, none⟩ (.slice (some ⟨g, 0, none⟩) (k + 1) cap)) 5 1 (.slice (some ⟨g, 0, none⟩) (k + 1) cap) (k + 1) (ints .u8 l') ∧ Cells (W4.setCell ⟨(RB + 1), 3, none⟩ (.slice (some ⟨g, 0, none⟩) (k + 1) cap)) (RB + 1) 26 (imC W H false (.slice (some ⟨g, 0, none⟩) (k + 1) cap)) ∧ Cells (W4.setCell ⟨(RB + 1), 3, none⟩ (.slice (some ⟨g, 0, none⟩) (k + 1) cap)) RB 26 (imC 0 0 false (.slice none 0 0))) := by
            refine ⟨l ++ [b], by simp [HLK.out], fun x hx' => ?_, ?_, hM4.set 3 _, hR4.far (by omega) 3 _⟩
            · rcases List.mem_append.1 hx' with q | q
              · exact hlx x q
              · simp at q; rw [q]; exact hb0
            · have e : ints .u8 (l ++ [b]) = ints .u8 l ++ [.int .u8 b] := by simp [ints]
              rw [e]
              exact L4.stepS (S := fun x => x = (RB + 1)) (But.setCell (S := fun x => x = (RB + 1)) (p := ⟨(RB + 1), 3, none⟩) (But.refl _ _) (fun _ => rfl) _) (fun x hx' e => by simp [Value.ownBlock] at hx'; subst hx'; exact hgM e) (fun x e => by omega)
          clear L4 hM4 hR4 b4 HM HR
          go_wp2_with (at_builtin; refine wpList_append_run rfl _ _ _ rfl _ _ (by rfl) (by rfl) _ _ hrun ?_)
          obtain ⟨l', h1, h2, h3, h4, h5⟩ := HF.out
          go_roundw
          case rel => exact ⟨k + 1, l', _, by omega, h1, by go_num, h2, h3, h4, h5, fun x hx' e => by simp [Value.ownBlock] at hx'; subst hx'; exact hgM e, fun x hx' e => by simp [Value.ownBlock] at hx'; subst hx'; exact hgR e⟩
          case measure => simp [intOf]; omega
        · obtain rfl : k = n := by omega
          have d0 := HM.at 0
          have d1 := HM.at 1
          have d2 := HM.at 2
          have d3 := HM.at 3
          have x0 := HR.at 0
          have x1 := HR.at 1
          have x2 := HR.at 2
          have x3 := HR.at 3
          have y0 := HR.frozen 0
          have y1 := HR.frozen 1
          have y2 := HR.frozen 2
          have y3 := HR.frozen 3
          simp only [List.getElem?_cons_zero, List.getElem?_cons_succ] at d0 d1 d2 d3 x0 x1 x2 x3
          have LE : Lst w ((((wr.setCell ⟨RB, 0, none⟩ (.int .i64 W)).setCell ⟨RB, 1, none⟩ (.int .i64 H)).setCell ⟨RB, 2, none⟩ (.bool false)).setCell ⟨RB, 3, none⟩ (.slice po k pc)) 5 1 (.slice po k pc) k (ints .u8 l) :=
            LL.stepS (S := fun x => x = RB) (But.setCell (S := fun x => x = RB) (p := ⟨RB, 3, none⟩) (But.setCell (S := fun x => x = RB) (p := ⟨RB, 2, none⟩) (But.setCell (S := fun x => x = RB) (p := ⟨RB, 1, none⟩) (But.setCell (S := fun x => x = RB) (p := ⟨RB, 0, none⟩) (But.refl _ _) (fun _ => rfl) _) (fun _ => rfl) _) (fun _ => rfl) _) (fun _ => rfl) _) (fun x hx' e => nR x hx' e) (fun x e => by omega)
          have CE := (((HR.set 0 (.int .i64 W)).set 1 (.int .i64 H)).set 2 (.bool false)).set 3 (.slice po k pc)
          simp only [List.set_cons_zero, List.set_cons_succ] at CE
          clear HM HR LL
          go_wp2_with fail
          refine bodyPost_ret (results_cells rfl CE hu rfl (by kernel_rfl) _ rfl) rfl ⟨⟨l, _, rfl, by rw [HLK.out], hlx, by rw [HLK.out]; exact LE⟩, LE.but⟩
    · have hm1 : ¬ m = 1 := by simpa using hr
      rw [if_neg hm1] at hnm
      rw [hnm] at e3
      clear hm1
      go_enter Tryd.func11, Tryd.ntmps11
      go_wp2_with fail
      obtain ⟨h1, h2, h3⟩ := HQ.out
      clear HQ
      revert h1 h2 h3
      generalize (((w.alloc (.cells (pC W H m 50 1 0).toArray 23)).alloc (.cells (imC 0 0 false (.slice none 0 0)).toArray 26)).alloc (.cells (imC W H true (.slice none 0 0)).toArray 26)) = W0
      intro h1 h2 h3
      have LS : Lst w W0 5 1 (.slice none 0 0) 0 (ints .u8 []) := ⟨World.ownsRow_nil _ _ _ _, by simp [Value.ownBlock], h3⟩
      go_loopw [7] (fun i W' => ∃ (k : Nat) (l : List Int) (pv : Value), k ≤ n ∧ l.length = k ∧ i = .int .i64 k ∧ (∀ x ∈ l, 0 ≤ x ∧ x ≤ 255) ∧ Lst w W' 5 1 pv k (ints .u8 l) ∧ Cells W' (RB + 1) 26 (imC W H true pv) ∧ Cells W' RB 26 (imC 0 0 false (.slice none 0 0)) ∧ (∀ x, pv.ownBlock = some x → x ≠ (RB + 1)) ∧ (∀ x, pv.ownBlock = some x → x ≠ RB)) (fun i _ => n - (intOf i).toNat)
      case atStart => exact ⟨0, [], _, Nat.zero_le _, rfl, rfl, by simp, LS, h1, h2, by simp [Value.ownBlock], by simp [Value.ownBlock]⟩
      case round =>
        clear LS h1 h2 h3
        obtain ⟨k, l, pv, hk, hlk, rfl, hlx, LL, HM, HR, nB, nR⟩ := hrel
        have HLK : Hid (l.length = k) := hlk
        clear hlk
        obtain ⟨po, pc, rfl⟩ := LL.slice
        by_cases hlt : k < n
        · have q0 : (0 : Int) ≤ (k : Int) := by omega
          have c0 := HM.at 3
          simp only [List.getElem?_cons_zero, List.getElem?_cons_succ] at c0
          obtain ⟨b, hbv⟩ : ∃ b, (k : Int) * 7 % 256 = b := ⟨_, rfl⟩
          have hb0 : 0 ≤ b ∧ b ≤ 255 := by omega
          obtain ⟨g, cap, W4, hrun, L4, b4, hg4⟩ := Lst.push Tryd.elemByte LL [.int .u8 b] rfl (by simp [Value.oneCell']) (by omega) (by omega) _ rfl
          have hM4 := HM.but b4 (fun e => nB _ e rfl)
          have hR4 := HR.but b4 (fun e => nR _ e rfl)
          have c3 := hM4.at 3
          have f3 := hM4.frozen 3
          simp only [List.getElem?_cons_zero, List.getElem?_cons_succ] at c3
          have hgM : g ≠ (RB + 1) := by
            rcases hg4 with e | e
            · exact nB g e
            · have := HM.lt; omega
          have hgR : g ≠ RB := by
            rcases hg4 with e | e
            · exact nR g e
            · have := HR.lt; omega
          have HF : Hid (∃ l' : List Int, l'.length = k + 1 ∧ (∀ x ∈ l', 0 ≤ x ∧ x ≤ 255) ∧ Lst w (W4.setCell ⟨(RB + 1), 3, none⟩ (.slice (some ⟨g, 0, none⟩) (k + 1) cap)) 5 1 (.slice (some ⟨g, 0, none⟩) (k + 1) cap) (k + 1) (ints .u8 l') ∧ Cells (W4.setCell ⟨(RB + 1), 3, none⟩ (.slice (some ⟨g, 0, none⟩) (k + 1) cap)) (RB + 1) 26 (imC W H true (.slice (some ⟨g, 0, none⟩) (k + 1) cap)) ∧ Cells (W4.setCell ⟨(RB + 1), 3, none⟩ (.slice (some ⟨g, 0, none⟩) (k + 1) cap)) RB 26 (imC 0 0 false (.slice none 0 0))) := by
            refine ⟨l ++ [b], by simp [HLK.out], fun x hx' => ?_, ?_, hM4.set 3 _, hR4.far (by omega) 3 _⟩
            · rcases List.mem_append.1 hx' with q | q
              · exact hlx x q
              · simp at q; rw [q]; exact hb0
            · have e : ints .u8 (l ++ [b]) = ints .u8 l ++ [.int .u8 b] := by simp [ints]
              rw [e]
              exact L4.stepS (S := fun x => x = (RB + 1)) (But.setCell (S := fun x => x = (RB + 1)) (p := ⟨(RB + 1), 3, none⟩) (But.refl _ _) (fun _ => rfl) _) (fun x hx' e => by simp [Value.ownBlock] at hx'; subst hx'; exact hgM e) (fun x e => by omega)
          clear L4 hM4 hR4 b4 HM HR
          go_wp2_with (at_builtin; refine wpList_append_run rfl _ _ _ rfl _ _ (by rfl) (by rfl) _ _ hrun ?_)
          obtain ⟨l', h1, h2, h3, h4, h5⟩ := HF.out
          go_roundw
          case rel => exact ⟨k + 1, l', _, by omega, h1, by go_num, h2, h3, h4, h5, fun x hx' e => by simp [Value.ownBlock] at hx'; subst hx'; exact hgM e, fun x hx' e => by simp [Value.ownBlock] at hx'; subst hx'; exact hgR e⟩
          case measure => simp [intOf]; omega
        · obtain rfl : k = n := by omega
          have d0 := HM.at 0
          have d1 := HM.at 1
          have d2 := HM.at 2
          have d3 := HM.at 3
          have x0 := HR.at 0
          have x1 := HR.at 1
          have x2 := HR.at 2
          have x3 := HR.at 3
          have y0 := HR.frozen 0
          have y1 := HR.frozen 1
          have y2 := HR.frozen 2
          have y3 := HR.frozen 3
          simp only [List.getElem?_cons_zero, List.getElem?_cons_succ] at d0 d1 d2 d3 x0 x1 x2 x3
          have LE : Lst w ((((wr.setCell ⟨RB, 0, none⟩ (.int .i64 W)).setCell ⟨RB, 1, none⟩ (.int .i64 H)).setCell ⟨RB, 2, none⟩ (.bool true)).setCell ⟨RB, 3, none⟩ (.slice po k pc)) 5 1 (.slice po k pc) k (ints .u8 l) :=
            LL.stepS (S := fun x => x = RB) (But.setCell (S := fun x => x = RB) (p := ⟨RB, 3, none⟩) (But.setCell (S := fun x => x = RB) (p := ⟨RB, 2, none⟩) (But.setCell (S := fun x => x = RB) (p := ⟨RB, 1, none⟩) (But.setCell (S := fun x => x = RB) (p := ⟨RB, 0, none⟩) (But.refl _ _) (fun _ => rfl) _) (fun _ => rfl) _) (fun _ => rfl) _) (fun _ => rfl) _) (fun x hx' e => nR x hx' e) (fun x e => by omega)
          have CE := (((HR.set 0 (.int .i64 W)).set 1 (.int .i64 H)).set 2 (.bool true)).set 3 (.slice po k pc)
          simp only [List.set_cons_zero, List.set_cons_succ] at CE
          clear HM HR LL
          go_wp2_with fail
          refine bodyPost_ret (results_cells rfl CE hu rfl (by kernel_rfl) _ rfl) rfl ⟨⟨l, _, rfl, by rw [HLK.out], hlx, by rw [HLK.out]; exact LE⟩, LE.but⟩
  · cases r
    · have hm1 : m = 1 := by simpa using hr
      rw [if_pos hm1] at hnm
      clear hm1
      rw [hnm] at e0
      go_enter Tryd.func11, Tryd.ntmps11
      go_wp2_with fail
      obtain ⟨h1, h2, h3⟩ := HQ.out
      clear HQ
      revert h1 h2 h3
      generalize (((w.alloc (.cells (pC W H m 50 1 0).toArray 23)).alloc (.cells (imC 0 0 false (.slice none 0 0)).toArray 26)).alloc (.cells (imC W H false (.slice none 0 0)).toArray 26)) = W0
      intro h1 h2 h3
      have LS : Lst w W0 5 1 (.slice none 0 0) 0 (ints .u8 []) := ⟨World.ownsRow_nil _ _ _ _, by simp [Value.ownBlock], h3⟩
      go_loopw [7] (fun i W' => ∃ (k : Nat) (l : List Int) (pv : Value), k ≤ n ∧ l.length = k ∧ i = .int .i64 k ∧ (∀ x ∈ l, 0 ≤ x ∧ x ≤ 255) ∧ Lst w W' 5 1 pv k (ints .u8 l) ∧ Cells W' (RB + 1) 26 (imC W H false pv) ∧ Cells W' RB 26 (imC 0 0 false (.slice none 0 0)) ∧ (∀ x, pv.ownBlock = some x → x ≠ (RB + 1)) ∧ (∀ x, pv.ownBlock = some x → x ≠ RB)) (fun i _ => n - (intOf i).toNat)
      case atStart => exact ⟨0, [], _, Nat.zero_le _, rfl, rfl, by simp, LS, h1, h2, by simp [Value.ownBlock], by simp [Value.ownBlock]⟩
      case round =>
        clear LS h1 h2 h3
        obtain ⟨k, l, pv, hk, hlk, rfl, hlx, LL, HM, HR, nB, nR⟩ := hrel
        have HLK : Hid (l.length = k) := hlk
        clear hlk
        obtain ⟨po, pc, rfl⟩ := LL.slice
        by_cases hlt : k < n
        · have q0 : (0 : Int) ≤ (k : Int) := by omega
          have c0 := HM.at 3
          simp only [List.getElem?_cons_zero, List.getElem?_cons_succ] at c0
          have hc1 : (0 : Int) < (lc.length : Int) := by omega
          have hc2 : ¬ (lc.length : Int) = 0 := by omega
          have r1 : (k : Int).tmod (lc.length : Int) = ((k % lc.length : Nat) : Int) := by rw [Int.tmod_eq_emod_of_nonneg (by omega)]; rfl
          have r2 : (k : Int).tdiv (lc.length : Int) = ((k / lc.length : Nat) : Int) := by rw [Int.tdiv_eq_ediv_of_nonneg (by omega)]; rfl
          have hkm : k % lc.length < lc.length := Nat.mod_lt _ (by omega)
          have hdk : k / lc.length ≤ k := Nat.div_le_self _ _
          obtain ⟨j, hj⟩ : ∃ j, k % lc.length = j := ⟨_, rfl⟩
          obtain ⟨d, hd⟩ : ∃ d, k / lc.length = d := ⟨_, rfl⟩
          rw [hj] at r1 hkm
          rw [hd] at r2 hdk
          have r3 : IntKind.i64.wrap (d : Int) = (d : Int) := by rw [wrap_i64_eq]; exact w64 _ (by omega)
          obtain ⟨-, vb, off, rfl, hvb, hvc⟩ := (hv.but LL.but).at j hkm
          rw [gn_at] at hvc
          have q1 : (0 : Int) ≤ (j : Int) := by omega
          have q2 : (j : Int) < (lc.length : Int) := by omega
          clear hj hd
          go_wp2_with fail
          go_quiet (fail)
          replace LL := LL.step ((But.refl _ _).drewN nq)
          replace HM := HM.but ((But.refl Nowhere _).drewN nq) (not_nowhere _)
          replace HR := HR.but ((But.refl Nowhere _).drewN nq) (not_nowhere _)
          obtain ⟨b, hbv⟩ : ∃ b, (gn lc j + (d : Int) % 256) % 256 = b := ⟨_, rfl⟩
          have hb0 : 0 ≤ b ∧ b ≤ 255 := by omega
          obtain ⟨g, cap, W4, hrun, L4, b4, hg4⟩ := Lst.push Tryd.elemByte LL [.int .u8 b] rfl (by simp [Value.oneCell']) (by omega) (by omega) _ rfl
          have hM4 := HM.but b4 (fun e => nB _ e rfl)
          have hR4 := HR.but b4 (fun e => nR _ e rfl)
          have c3 := hM4.at 3
          have f3 := hM4.frozen 3
          simp only [List.getElem?_cons_zero, List.getElem?_cons_succ] at c3
          have hgM : g ≠ (RB + 1) := by
            rcases hg4 with e | e
            · exact nB g e
            · have := HM.lt; omega
          have hgR : g ≠ RB := by
            rcases hg4 with e | e
            · exact nR g e
            · have := HR.lt; omega
          have HF : Hid (∃ l' : List Int, l'.length = k + 1 ∧ (∀ x ∈ l', 0 ≤ x ∧ x ≤ 255) ∧ Lst w (W4.setCell ⟨(RB + 1), 3, none⟩ (.slice (some ⟨g, 0, none⟩) (k + 1) cap)) 5 1 (.slice (some ⟨g, 0, none⟩) (k + 1) cap) (k + 1) (ints .u8 l') ∧ Cells (W4.setCell ⟨(RB + 1), 3, none⟩ (.slice (some ⟨g, 0, none⟩) (k + 1) cap)) (RB + 1) 26 (imC W H false (.slice (some ⟨g, 0, none⟩) (k + 1) cap)) ∧ Cells (W4.setCell ⟨(RB + 1), 3, none⟩ (.slice (some ⟨g, 0, none⟩) (k + 1) cap)) RB 26 (imC 0 0 false (.slice none 0 0))) := by
            refine ⟨l ++ [b], by simp [HLK.out], fun x hx' => ?_, ?_, hM4.set 3 _, hR4.far (by omega) 3 _⟩
            · rcases List.mem_append.1 hx' with q | q
              · exact hlx x q
              · simp at q; rw [q]; exact hb0
            · have e : ints .u8 (l ++ [b]) = ints .u8 l ++ [.int .u8 b] := by simp [ints]
              rw [e]
              exact L4.stepS (S := fun x => x = (RB + 1)) (But.setCell (S := fun x => x = (RB + 1)) (p := ⟨(RB + 1), 3, none⟩) (But.refl _ _) (fun _ => rfl) _) (fun x hx' e => by simp [Value.ownBlock] at hx'; subst hx'; exact hgM e) (fun x e => by omega)
          clear L4 hM4 hR4 b4 HM HR
          go_wp2_with (at_builtin; refine wpList_append_run rfl _ _ _ rfl _ _ (by rfl) (by rfl) _ _ hrun ?_)
          obtain ⟨l', h1, h2, h3, h4, h5⟩ := HF.out
          go_roundw
          case rel => exact ⟨k + 1, l', _, by omega, h1, by go_num, h2, h3, h4, h5, fun x hx' e => by simp [Value.ownBlock] at hx'; subst hx'; exact hgM e, fun x hx' e => by simp [Value.ownBlock] at hx'; subst hx'; exact hgR e⟩
          case measure => simp [intOf]; omega
        · obtain rfl : k = n := by omega
          have d0 := HM.at 0
          have d1 := HM.at 1
          have d2 := HM.at 2
          have d3 := HM.at 3
          have x0 := HR.at 0
          have x1 := HR.at 1
          have x2 := HR.at 2
          have x3 := HR.at 3
          have y0 := HR.frozen 0
          have y1 := HR.frozen 1
          have y2 := HR.frozen 2
          have y3 := HR.frozen 3
          simp only [List.getElem?_cons_zero, List.getElem?_cons_succ] at d0 d1 d2 d3 x0 x1 x2 x3
          have LE : Lst w ((((wr.setCell ⟨RB, 0, none⟩ (.int .i64 W)).setCell ⟨RB, 1, none⟩ (.int .i64 H)).setCell ⟨RB, 2, none⟩ (.bool false)).setCell ⟨RB, 3, none⟩ (.slice po k pc)) 5 1 (.slice po k pc) k (ints .u8 l) :=
            LL.stepS (S := fun x => x = RB) (But.setCell (S := fun x => x = RB) (p := ⟨RB, 3, none⟩) (But.setCell (S := fun x => x = RB) (p := ⟨RB, 2, none⟩) (But.setCell (S := fun x => x = RB) (p := ⟨RB, 1, none⟩) (But.setCell (S := fun x => x = RB) (p := ⟨RB, 0, none⟩) (But.refl _ _) (fun _ => rfl) _) (fun _ => rfl) _) (fun _ => rfl) _) (fun _ => rfl) _) (fun x hx' e => nR x hx' e) (fun x e => by omega)
          have CE := (((HR.set 0 (.int .i64 W)).set 1 (.int .i64 H)).set 2 (.bool false)).set 3 (.slice po k pc)
          simp only [List.set_cons_zero, List.set_cons_succ] at CE
          clear HM HR LL
          go_wp2_with fail
          refine bodyPost_ret (results_cells rfl CE hu rfl (by kernel_rfl) _ rfl) rfl ⟨⟨l, _, rfl, by rw [HLK.out], hlx, by rw [HLK.out]; exact LE⟩, LE.but⟩
    · have hm1 : ¬ m = 1 := by simpa using hr
      rw [if_neg hm1] at hnm
      rw [hnm] at e3
      clear hm1
      go_enter Tryd.func11, Tryd.ntmps11
      go_wp2_with fail
      obtain ⟨h1, h2, h3⟩ := HQ.out
      clear HQ
      revert h1 h2 h3
      generalize (((w.alloc (.cells (pC W H m 50 1 0).toArray 23)).alloc (.cells (imC 0 0 false (.slice none 0 0)).toArray 26)).alloc (.cells (imC W H true (.slice none 0 0)).toArray 26)) = W0
      intro h1 h2 h3
      have LS : Lst w W0 5 1 (.slice none 0 0) 0 (ints .u8 []) := ⟨World.ownsRow_nil _ _ _ _, by simp [Value.ownBlock], h3⟩
      go_loopw [7] (fun i W' => ∃ (k : Nat) (l : List Int) (pv : Value), k ≤ n ∧ l.length = k ∧ i = .int .i64 k ∧ (∀ x ∈ l, 0 ≤ x ∧ x ≤ 255) ∧ Lst w W' 5 1 pv k (ints .u8 l) ∧ Cells W' (RB + 1) 26 (imC W H true pv) ∧ Cells W' RB 26 (imC 0 0 false (.slice none 0 0)) ∧ (∀ x, pv.ownBlock = some x → x ≠ (RB + 1)) ∧ (∀ x, pv.ownBlock = some x → x ≠ RB)) (fun i _ => n - (intOf i).toNat)
      case atStart => exact ⟨0, [], _, Nat.zero_le _, rfl, rfl, by simp, LS, h1, h2, by simp [Value.ownBlock], by simp [Value.ownBlock]⟩
      case round =>
        clear LS h1 h2 h3
        obtain ⟨k, l, pv, hk, hlk, rfl, hlx, LL, HM, HR, nB, nR⟩ := hrel
        have HLK : Hid (l.length = k) := hlk
        clear hlk
        obtain ⟨po, pc, rfl⟩ := LL.slice
        by_cases hlt : k < n
        · have q0 : (0 : Int) ≤ (k : Int) := by omega
          have c0 := HM.at 3
          simp only [List.getElem?_cons_zero, List.getElem?_cons_succ] at c0
          have hc1 : (0 : Int) < (lc.length : Int) := by omega
          have hc2 : ¬ (lc.length : Int) = 0 := by omega
          have r1 : (k : Int).tmod (lc.length : Int) = ((k % lc.length : Nat) : Int) := by rw [Int.tmod_eq_emod_of_nonneg (by omega)]; rfl
          have r2 : (k : Int).tdiv (lc.length : Int) = ((k / lc.length : Nat) : Int) := by rw [Int.tdiv_eq_ediv_of_nonneg (by omega)]; rfl
          have hkm : k % lc.length < lc.length := Nat.mod_lt _ (by omega)
          have hdk : k / lc.length ≤ k := Nat.div_le_self _ _
          obtain ⟨j, hj⟩ : ∃ j, k % lc.length = j := ⟨_, rfl⟩
          obtain ⟨d, hd⟩ : ∃ d, k / lc.length = d := ⟨_, rfl⟩
          rw [hj] at r1 hkm
          rw [hd] at r2 hdk
          have r3 : IntKind.i64.wrap (d : Int) = (d : Int) := by rw [wrap_i64_eq]; exact w64 _ (by omega)
          obtain ⟨-, vb, off, rfl, hvb, hvc⟩ := (hv.but LL.but).at j hkm
          rw [gn_at] at hvc
          have q1 : (0 : Int) ≤ (j : Int) := by omega
          have q2 : (j : Int) < (lc.length : Int) := by omega
          clear hj hd
          go_wp2_with fail
          go_quiet (fail)
          replace LL := LL.step ((But.refl _ _).drewN nq)
          replace HM := HM.but ((But.refl Nowhere _).drewN nq) (not_nowhere _)
          replace HR := HR.but ((But.refl Nowhere _).drewN nq) (not_nowhere _)
          obtain ⟨b, hbv⟩ : ∃ b, (gn lc j + (d : Int) % 256) % 256 = b := ⟨_, rfl⟩
          have hb0 : 0 ≤ b ∧ b ≤ 255 := by omega
          obtain ⟨g, cap, W4, hrun, L4, b4, hg4⟩ := Lst.push Tryd.elemByte LL [.int .u8 b] rfl (by simp [Value.oneCell']) (by omega) (by omega) _ rfl
          have hM4 := HM.but b4 (fun e => nB _ e rfl)
          have hR4 := HR.but b4 (fun e => nR _ e rfl)
          have c3 := hM4.at 3
          have f3 := hM4.frozen 3
          simp only [List.getElem?_cons_zero, List.getElem?_cons_succ] at c3
          have hgM : g ≠ (RB + 1) := by
            rcases hg4 with e | e
            · exact nB g e
            · have := HM.lt; omega
          have hgR : g ≠ RB := by
            rcases hg4 with e | e
            · exact nR g e
            · have := HR.lt; omega
          have HF : Hid (∃ l' : List Int, l'.length = k + 1 ∧ (∀ x ∈ l', 0 ≤ x ∧ x ≤ 255) ∧ Lst w (W4.setCell ⟨(RB + 1), 3, none⟩ (.slice (some ⟨g, 0, none⟩) (k + 1) cap)) 5 1 (.slice (some ⟨g, 0, none⟩) (k + 1) cap) (k + 1) (ints .u8 l') ∧ Cells (W4.setCell ⟨(RB + 1), 3, none⟩ (.slice (some ⟨g, 0, none⟩) (k + 1) cap)) (RB + 1) 26 (imC W H true (.slice (some ⟨g, 0, none⟩) (k + 1) cap)) ∧ Cells (W4.setCell ⟨(RB + 1), 3, none⟩ (.slice (some ⟨g, 0, none⟩) (k + 1) cap)) RB 26 (imC 0 0 false (.slice none 0 0))) := by
            refine ⟨l ++ [b], by simp [HLK.out], fun x hx' => ?_, ?_, hM4.set 3 _, hR4.far (by omega) 3 _⟩
            · rcases List.mem_append.1 hx' with q | q
              · exact hlx x q
              · simp at q; rw [q]; exact hb0
            · have e : ints .u8 (l ++ [b]) = ints .u8 l ++ [.int .u8 b] := by simp [ints]
              rw [e]
              exact L4.stepS (S := fun x => x = (RB + 1)) (But.setCell (S := fun x => x = (RB + 1)) (p := ⟨(RB + 1), 3, none⟩) (But.refl _ _) (fun _ => rfl) _) (fun x hx' e => by simp [Value.ownBlock] at hx'; subst hx'; exact hgM e) (fun x e => by omega)
          clear L4 hM4 hR4 b4 HM HR
          go_wp2_with (at_builtin; refine wpList_append_run rfl _ _ _ rfl _ _ (by rfl) (by rfl) _ _ hrun ?_)
          obtain ⟨l', h1, h2, h3, h4, h5⟩ := HF.out
          go_roundw
          case rel => exact ⟨k + 1, l', _, by omega, h1, by go_num, h2, h3, h4, h5, fun x hx' e => by simp [Value.ownBlock] at hx'; subst hx'; exact hgM e, fun x hx' e => by simp [Value.ownBlock] at hx'; subst hx'; exact hgR e⟩
          case measure => simp [intOf]; omega
        · obtain rfl : k = n := by omega
          have d0 := HM.at 0
          have d1 := HM.at 1
          have d2 := HM.at 2
          have d3 := HM.at 3
          have x0 := HR.at 0
          have x1 := HR.at 1
          have x2 := HR.at 2
          have x3 := HR.at 3
          have y0 := HR.frozen 0
          have y1 := HR.frozen 1
          have y2 := HR.frozen 2
          have y3 := HR.frozen 3
          simp only [List.getElem?_cons_zero, List.getElem?_cons_succ] at d0 d1 d2 d3 x0 x1 x2 x3
          have LE : Lst w ((((wr.setCell ⟨RB, 0, none⟩ (.int .i64 W)).setCell ⟨RB, 1, none⟩ (.int .i64 H)).setCell ⟨RB, 2, none⟩ (.bool true)).setCell ⟨RB, 3, none⟩ (.slice po k pc)) 5 1 (.slice po k pc) k (ints .u8 l) :=
            LL.stepS (S := fun x => x = RB) (But.setCell (S := fun x => x = RB) (p := ⟨RB, 3, none⟩) (But.setCell (S := fun x => x = RB) (p := ⟨RB, 2, none⟩) (But.setCell (S := fun x => x = RB) (p := ⟨RB, 1, none⟩) (But.setCell (S := fun x => x = RB) (p := ⟨RB, 0, none⟩) (But.refl _ _) (fun _ => rfl) _) (fun _ => rfl) _) (fun _ => rfl) _) (fun _ => rfl) _) (fun x hx' e => nR x hx' e) (fun x e => by omega)
          have CE := (((HR.set 0 (.int .i64 W)).set 1 (.int .i64 H)).set 2 (.bool true)).set 3 (.slice po k pc)
          simp only [List.set_cons_zero, List.set_cons_succ] at CE
          clear HM HR LL
          go_wp2_with fail
          refine bodyPost_ret (results_cells rfl CE hu rfl (by kernel_rfl) _ rfl) rfl ⟨⟨l, _, rfl, by rw [HLK.out], hlx, by rw [HLK.out]; exact LE⟩, LE.but⟩

end Go.Proofs.YtppbnmlgilgnnaaDoor

/- The document's SameRow and SameBlocks, of the same blocks. -/
namespace Go.Proofs.YtppbnmlgilgnnaaDoor
open Go.ChangeShapes Go.WideShapes Go.ChangeAt Go.RowKit

theorem nums_tab (n : Nat) (f : Nat → Int) : tab .i64 n f = nums ((List.range n).map f) := by
  unfold tab nums
  rw [List.map_map]
  rfl

theorem equal_block (f : Nat → Int) (w : World) : (Op.equalIn 10000 46 (.agg (tab .i64 64 f).toArray) (.agg (tab .i64 64 f).toArray)).run Tryd.prog w = .ok true w := by
  have h := run_equalIn_nums w 9998 46 3 64 Tryd.underlying46 Tryd.underlying3 sizeOf_int ((List.range 64).map f) ((List.range 64).map f) (by simp) (by simp)
  rw [beq_self_eq_true, ← nums_tab] at h
  exact h

set_option maxHeartbeats 3200000 in
set_option maxRecDepth 100000 in
theorem sameRow_yes (g g' M : Nat) (F : Nat → Int) (w : World) (h : Cells w g 46 (tab .i64 (M * 64) F)) (h' : Cells w g' 46 (tab .i64 (M * 64) F)) (hM : M ≤ 1000000) : Calls Tryd.prog 27 #[.slice (some ⟨g, 0, none⟩) M M, .slice (some ⟨g', 0, none⟩) M M] w fun e w' => e = .returned (.bool true) ∧ But Nowhere w w' := by
  have huB := Tryd.underlying46
  go_enter Tryd.func27, Tryd.ntmps27
  go_wp2_with fail
  go_loopw [5] (fun i V => ∃ k : Nat, k ≤ M ∧ i = .int .i64 k ∧ But Nowhere w V) (fun i _ => M - (intOf i).toNat)
  case atStart => exact ⟨0, Nat.zero_le _, rfl, But.refl _ _⟩
  case round =>
    obtain ⟨k, hk, rfl, hb⟩ := hrel
    by_cases hlt : k < M
    · have i0 : (0 : Int) ≤ (k : Int) := by omega
      have i1 : (k : Int) < (M : Int) := by omega
      obtain ⟨f, hf⟩ : ∃ f, f = fun j => F (k * 64 + j) := ⟨_, rfl⟩
      have hr : wr.rangeAt g (k * 64) (tab .i64 64 f) := by rw [hf]; exact (h.but hb (not_nowhere _)).range (k * 64) 64 (by omega)
      have hr' : wr.rangeAt g' (k * 64) (tab .i64 64 f) := by rw [hf]; exact (h'.but hb (not_nowhere _)).range (k * 64) 64 (by omega)
      have hiB : (Tryd.prog.info? 46).map (·.size) = some (tab .i64 64 f).length := by rw [tab_length]; kernel_rfl
      have hEq := equal_block f
      have HBW : Hid (But Nowhere w wr) := hb
      clear hf hb
      go_wp2_with fail
      refine wp_region_till (S := fun V => V.rangeAt g (k * 64) (tab .i64 64 f) ∧ V.rangeAt g' (k * 64) (tab .i64 64 f)) (R := fun _ => True) (k := 100) (m := 100) (by kernel_rfl) ⟨hr, hr'⟩ trivial ?_
      (refine Walk.take (i := 0) (oi := { dst := some 17, op := Op.move (Operand.tmp 0), type := 44, pos := "ref.go:200", after := #[], guard := none }) (v := ?_) rfl (by kernel_rfl) (by kernel_rfl) (by kernel_rfl) (by kernel_rfl) (fun _ _ _ h => h) (Or.inl ⟨by rfl, ?_⟩) ?_; rotate_left; (intro w hw; clear hw; (try go_split_ands); go_simp; try (with_reducible rfl)); simp only [Act.put, List.setIfInBounds_toArray, List.set_cons_zero, List.set_cons_succ])
      (refine Walk.take (i := 1) (oi := { dst := some 18, op := Op.move (Operand.tmp 5), type := 3, pos := "ref.go:200", after := #[], guard := none }) (v := ?_) rfl (by kernel_rfl) (by kernel_rfl) (by kernel_rfl) (by kernel_rfl) (fun _ _ _ h => h) (Or.inl ⟨by rfl, ?_⟩) ?_; rotate_left; (intro w hw; clear hw; (try go_split_ands); go_simp; try (with_reducible rfl)); simp only [Act.put, List.setIfInBounds_toArray, List.set_cons_zero, List.set_cons_succ])
      (refine Walk.take (i := 2) (oi := { dst := some 19, op := Op.indexAddr 44 (Operand.tmp 17) (Operand.tmp 18), type := 0, pos := "ref.go:200", after := #[{ on := 0, ground := Ground.data }, { on := 1, ground := Ground.data }], guard := none }) (v := ?_) rfl (by kernel_rfl) (by kernel_rfl) (by kernel_rfl) (by kernel_rfl) (fun _ _ _ h => h) (Or.inl ⟨by rfl, ?_⟩) ?_; rotate_left; (intro w hw; clear hw; (try go_split_ands); go_simp; try (with_reducible rfl)); simp only [Act.put, List.setIfInBounds_toArray, List.set_cons_zero, List.set_cons_succ])
      (refine Walk.take (i := 3) (oi := { dst := some 20, op := Op.load 46 (Operand.tmp 19), type := 46, pos := "ref.go:200", after := #[{ on := 2, ground := Ground.data }], guard := none }) (v := .agg (tab .i64 64 f).toArray) rfl (by kernel_rfl) (by kernel_rfl) (by kernel_rfl) (by kernel_rfl) (fun _ _ _ h => h) (yieldsIf_load_mid rfl 46 (.tmp 19) rfl g (k * 64) rfl (tab .i64 64 f) _ (fun w hw => (hw.1 (by kernel_rfl)).1) huB rfl hiB) ?_; simp only [Act.put, List.setIfInBounds_toArray, List.set_cons_zero, List.set_cons_succ])
      (refine Walk.take (i := 4) (oi := { dst := some 21, op := Op.move (Operand.tmp 1), type := 44, pos := "ref.go:200", after := #[], guard := none }) (v := ?_) rfl (by kernel_rfl) (by kernel_rfl) (by kernel_rfl) (by kernel_rfl) (fun _ _ _ h => h) (Or.inl ⟨by rfl, ?_⟩) ?_; rotate_left; (intro w hw; clear hw; (try go_split_ands); go_simp; try (with_reducible rfl)); simp only [Act.put, List.setIfInBounds_toArray, List.set_cons_zero, List.set_cons_succ])
      (refine Walk.take (i := 5) (oi := { dst := some 22, op := Op.move (Operand.tmp 5), type := 3, pos := "ref.go:200", after := #[], guard := none }) (v := ?_) rfl (by kernel_rfl) (by kernel_rfl) (by kernel_rfl) (by kernel_rfl) (fun _ _ _ h => h) (Or.inl ⟨by rfl, ?_⟩) ?_; rotate_left; (intro w hw; clear hw; (try go_split_ands); go_simp; try (with_reducible rfl)); simp only [Act.put, List.setIfInBounds_toArray, List.set_cons_zero, List.set_cons_succ])
      (refine Walk.take (i := 6) (oi := { dst := some 23, op := Op.indexAddr 44 (Operand.tmp 21) (Operand.tmp 22), type := 0, pos := "ref.go:200", after := #[{ on := 4, ground := Ground.data }, { on := 5, ground := Ground.data }], guard := none }) (v := ?_) rfl (by kernel_rfl) (by kernel_rfl) (by kernel_rfl) (by kernel_rfl) (fun _ _ _ h => h) (Or.inl ⟨by rfl, ?_⟩) ?_; rotate_left; (intro w hw; clear hw; (try go_split_ands); go_simp; try (with_reducible rfl)); simp only [Act.put, List.setIfInBounds_toArray, List.set_cons_zero, List.set_cons_succ])
      (refine Walk.take (i := 7) (oi := { dst := some 24, op := Op.load 46 (Operand.tmp 23), type := 46, pos := "ref.go:200", after := #[{ on := 6, ground := Ground.data }], guard := none }) (v := .agg (tab .i64 64 f).toArray) rfl (by kernel_rfl) (by kernel_rfl) (by kernel_rfl) (by kernel_rfl) (fun _ _ _ h => h) (yieldsIf_load_mid rfl 46 (.tmp 23) rfl g' (k * 64) rfl (tab .i64 64 f) _ (fun w hw => (hw.1 (by kernel_rfl)).2) huB rfl hiB) ?_; simp only [Act.put, List.setIfInBounds_toArray, List.set_cons_zero, List.set_cons_succ])
      (refine Walk.take (i := 8) (oi := { dst := some 25, op := Op.binOp BinOp.neq 46 (Operand.tmp 20) (Operand.tmp 24) 46, type := 4, pos := "ref.go:200", after := #[{ on := 3, ground := Ground.data }, { on := 7, ground := Ground.data }], guard := none }) (v := ?_) rfl (by kernel_rfl) (by kernel_rfl) (by kernel_rfl) (by kernel_rfl) (fun _ _ _ h => h) (Or.inl ⟨by rfl, ?_⟩) ?_; rotate_left; (intro w hw; clear hw; (try go_split_ands); go_simp; try (with_reducible rfl)); simp only [Act.put, List.setIfInBounds_toArray, List.set_cons_zero, List.set_cons_succ])
      refine Walk.done (by kernel_rfl) ?_ _
      go_wp2_with fail
      go_roundw
      case rel => exact ⟨k + 1, by omega, by go_num, HBW.out.drew⟩
      case measure => simp [intOf]; omega
    · go_wp2_with fail
      go_ret
      exact ⟨rfl, hb⟩

set_option maxHeartbeats 3200000 in
set_option maxRecDepth 100000 in
theorem sameBlocks_yes (v v' : Value) (N M go go' : Nat) (G G' : Nat → Nat) (F F' : Nat → Nat → Int) (w : World) (h : Blks w v 44 46 N M go G F) (h' : Blks w v' 44 46 N M go' G' F') (he : ∀ i j, i < N → j < M * 64 → F' i j = F i j) (hN : N ≤ 100000000) (hM : M ≤ 1000000) : Calls Tryd.prog 13 #[v, v'] w fun e w' => e = .returned (.bool true) ∧ But Nowhere w w' := by
  obtain rfl := h.val
  obtain rfl := h'.val
  go_enter Tryd.func13, Tryd.ntmps13
  go_wp2_with fail
  go_loopw [5] (fun i V => ∃ k : Nat, k ≤ N ∧ i = .int .i64 k ∧ But Nowhere w V) (fun i _ => N - (intOf i).toNat)
  case atStart => exact ⟨0, Nat.zero_le _, rfl, But.refl _ _⟩
  case round =>
    obtain ⟨k, hk, rfl, hb⟩ := hrel
    by_cases hlt : k < N
    · have i0 : (0 : Int) ≤ (k : Int) := by omega
      have i1 : (k : Int) < (N : Int) := by omega
      have HS : ∀ V, But Nowhere w V → (V.cell? ⟨go, k, none⟩ = some (.slice (some ⟨G k, 0, none⟩) M M) ∧ V.cell? ⟨go', k, none⟩ = some (.slice (some ⟨G' k, 0, none⟩) M M)) := fun V hb => ⟨(h.step hb).at k hlt, (h'.step hb).at k hlt⟩
      have HC : ∀ V, But Nowhere w V → Calls Tryd.prog 27 #[.slice (some ⟨G k, 0, none⟩) M M, .slice (some ⟨G' k, 0, none⟩) M M] V fun e w' => e = .returned (.bool true) ∧ But Nowhere V w' := fun V hb => sameRow_yes _ _ M (F k) V ((h.step hb).inn k hlt) (tab_congr .i64 (M * 64) (F' k) (F k) (fun j hj => he k j hlt hj) ▸ (h'.step hb).inn k hlt) hM
      have bu := hb.drew
      go_wp2_with fail
      refine wp_region_till (S := fun V => V.cell? ⟨go, k, none⟩ = some (.slice (some ⟨G k, 0, none⟩) M M) ∧ V.cell? ⟨go', k, none⟩ = some (.slice (some ⟨G' k, 0, none⟩) M M)) (R := fun _ => True) (k := 100) (m := 100) (by kernel_rfl) (HS _ bu) trivial ?_
      (refine Walk.take (i := 0) (oi := { dst := some 17, op := Op.move (Operand.tmp 0), type := 30, pos := "ref.go:187", after := #[], guard := none }) (v := ?_) rfl (by kernel_rfl) (by kernel_rfl) (by kernel_rfl) (by kernel_rfl) (fun _ _ _ h => h) (Or.inl ⟨by rfl, ?_⟩) ?_; rotate_left; (intro w hw; clear hw; (try go_split_ands); go_simp; try (with_reducible rfl)); simp only [Act.put, List.setIfInBounds_toArray, List.set_cons_zero, List.set_cons_succ])
      (refine Walk.take (i := 1) (oi := { dst := some 18, op := Op.move (Operand.tmp 5), type := 3, pos := "ref.go:187", after := #[], guard := none }) (v := ?_) rfl (by kernel_rfl) (by kernel_rfl) (by kernel_rfl) (by kernel_rfl) (fun _ _ _ h => h) (Or.inl ⟨by rfl, ?_⟩) ?_; rotate_left; (intro w hw; clear hw; (try go_split_ands); go_simp; try (with_reducible rfl)); simp only [Act.put, List.setIfInBounds_toArray, List.set_cons_zero, List.set_cons_succ])
      (refine Walk.take (i := 2) (oi := { dst := some 19, op := Op.indexAddr 30 (Operand.tmp 17) (Operand.tmp 18), type := 0, pos := "ref.go:187", after := #[{ on := 0, ground := Ground.data }, { on := 1, ground := Ground.data }], guard := none }) (v := ?_) rfl (by kernel_rfl) (by kernel_rfl) (by kernel_rfl) (by kernel_rfl) (fun _ _ _ h => h) (Or.inl ⟨by rfl, ?_⟩) ?_; rotate_left; (intro w hw; clear hw; (try go_split_ands); go_simp; try (with_reducible rfl)); simp only [Act.put, List.setIfInBounds_toArray, List.set_cons_zero, List.set_cons_succ])
      (refine Walk.take (i := 3) (oi := { dst := some 20, op := Op.load 44 (Operand.tmp 19), type := 44, pos := "ref.go:187", after := #[{ on := 2, ground := Ground.data }], guard := none }) (v := ?_) rfl (by kernel_rfl) (by kernel_rfl) (by kernel_rfl) (by kernel_rfl) (fun _ _ _ h => h) (Or.inl ⟨by rfl, ?_⟩) ?_; rotate_left; (intro w hw; have hS1 := hw.1 (by kernel_rfl); clear hw; (try dsimp only at hS1); (try go_split_ands); go_simp; try (with_reducible rfl)); simp only [Act.put, List.setIfInBounds_toArray, List.set_cons_zero, List.set_cons_succ])
      (refine Walk.take (i := 4) (oi := { dst := some 21, op := Op.move (Operand.tmp 1), type := 30, pos := "ref.go:187", after := #[], guard := none }) (v := ?_) rfl (by kernel_rfl) (by kernel_rfl) (by kernel_rfl) (by kernel_rfl) (fun _ _ _ h => h) (Or.inl ⟨by rfl, ?_⟩) ?_; rotate_left; (intro w hw; clear hw; (try go_split_ands); go_simp; try (with_reducible rfl)); simp only [Act.put, List.setIfInBounds_toArray, List.set_cons_zero, List.set_cons_succ])
      (refine Walk.take (i := 5) (oi := { dst := some 22, op := Op.move (Operand.tmp 5), type := 3, pos := "ref.go:187", after := #[], guard := none }) (v := ?_) rfl (by kernel_rfl) (by kernel_rfl) (by kernel_rfl) (by kernel_rfl) (fun _ _ _ h => h) (Or.inl ⟨by rfl, ?_⟩) ?_; rotate_left; (intro w hw; clear hw; (try go_split_ands); go_simp; try (with_reducible rfl)); simp only [Act.put, List.setIfInBounds_toArray, List.set_cons_zero, List.set_cons_succ])
      (refine Walk.take (i := 6) (oi := { dst := some 23, op := Op.indexAddr 30 (Operand.tmp 21) (Operand.tmp 22), type := 0, pos := "ref.go:187", after := #[{ on := 4, ground := Ground.data }, { on := 5, ground := Ground.data }], guard := none }) (v := ?_) rfl (by kernel_rfl) (by kernel_rfl) (by kernel_rfl) (by kernel_rfl) (fun _ _ _ h => h) (Or.inl ⟨by rfl, ?_⟩) ?_; rotate_left; (intro w hw; clear hw; (try go_split_ands); go_simp; try (with_reducible rfl)); simp only [Act.put, List.setIfInBounds_toArray, List.set_cons_zero, List.set_cons_succ])
      (refine Walk.take (i := 7) (oi := { dst := some 24, op := Op.load 44 (Operand.tmp 23), type := 44, pos := "ref.go:187", after := #[{ on := 6, ground := Ground.data }], guard := none }) (v := ?_) rfl (by kernel_rfl) (by kernel_rfl) (by kernel_rfl) (by kernel_rfl) (fun _ _ _ h => h) (Or.inl ⟨by rfl, ?_⟩) ?_; rotate_left; (intro w hw; have hS1 := hw.1 (by kernel_rfl); clear hw; (try dsimp only at hS1); (try go_split_ands); go_simp; try (with_reducible rfl)); simp only [Act.put, List.setIfInBounds_toArray, List.set_cons_zero, List.set_cons_succ])
      (refine Walk.go (i := 8) (o := { dst := some 25, op := Op.call { callee := Callee.value (Operand.func 27), args := #[Operand.tmp 20, Operand.tmp 24], argTypes := #[44, 44] }, type := 4, pos := "ref.go:187", after := #[{ on := 3, ground := Ground.data }, { on := 7, ground := Ground.data }], guard := none }) (by kernel_rfl) rfl (fun K hK => ?_); go_simp; ((go_at_call 27; refine (HC _ bu).mono ?_; rintro e x1 ⟨rfl, d⟩; replace bu := bu.trans d; clear d)); refine hK.out _ _ (⟨fun _ => HS _ bu, fun _ => trivial⟩) ?_; clear hK K; try simp only [Act.put, List.setIfInBounds_toArray, List.set_cons_zero, List.set_cons_succ])
      (refine Walk.take (i := 9) (oi := { dst := some 26, op := Op.unOp UnOp.not 4 (Operand.tmp 25), type := 4, pos := "ref.go:187", after := #[{ on := 8, ground := Ground.data }], guard := none }) (v := ?_) rfl (by kernel_rfl) (by kernel_rfl) (by kernel_rfl) (by kernel_rfl) (fun _ _ _ h => h) (Or.inl ⟨by rfl, ?_⟩) ?_; rotate_left; (intro w hw; clear hw; (try go_split_ands); go_simp; try (with_reducible rfl)); simp only [Act.put, List.setIfInBounds_toArray, List.set_cons_zero, List.set_cons_succ])
      refine Walk.done (by kernel_rfl) ?_ _
      clear HS HC
      go_wp2_with fail
      go_roundw
      case rel => exact ⟨k + 1, by omega, by go_num, bu⟩
      case measure => simp [intOf]; omega
    · go_wp2_with fail
      go_ret
      exact ⟨rfl, hb⟩

end Go.Proofs.YtppbnmlgilgnnaaDoor

/- Lists of lists of blocks, wherever they lie: the document's SameBlocks and the law's secrets of them. -/
namespace Go.Proofs.YtppbnmlgilgnnaaDoor
open Go.ChangeShapes Go.WideShapes Go.ChangeAt Go.RowKit

/-- v is a list of N lists of M blocks that can be read. -/
def BV (W : World) (v : Value) (N M : Nat) (F : Nat → Nat → Int) : Prop := ∃ ao cap, v = .slice ao N cap ∧ (0 < N → ∃ go, ao = some ⟨go, 0, none⟩ ∧ ∀ i, i < N → ∃ g c, W.cell? ⟨go, i, none⟩ = some (.slice (some ⟨g, 0, none⟩) M c) ∧ ∀ j, j < M * 64 → W.cell? ⟨g, j, none⟩ = some (.int .i64 (F i j)))

theorem BV.but {W W' : World} {v : Value} {N M : Nat} {F : Nat → Nat → Int} (h : BV W v N M F) (hb : But Nowhere W W') : BV W' v N M F := by
  obtain ⟨ao, cap, e, h⟩ := h
  refine ⟨ao, cap, e, fun hN => ?_⟩
  obtain ⟨go, e2, h2⟩ := h hN
  refine ⟨go, e2, fun i hi => ?_⟩
  obtain ⟨g, c, h3, h4⟩ := h2 i hi
  exact ⟨g, c, hb.keeps (not_nowhere _) h3, fun j hj => hb.keeps (not_nowhere _) (h4 j hj)⟩

theorem BV.empty (W : World) (M : Nat) (F : Nat → Nat → Int) : BV W (.slice none 0 0) 0 M F := ⟨none, 0, rfl, fun h => absurd h (by omega)⟩

theorem Blks.bv {W : World} {v : Value} {t1 t2 : TypeId} {N M go : Nat} {G : Nat → Nat} {F : Nat → Nat → Int} (h : Blks W v t1 t2 N M go G F) : BV W v N M F :=
  ⟨_, _, h.val, fun _ => ⟨go, rfl, fun i hi => ⟨G i, M, h.at i hi, fun j hj => (h.inn i hi).cell j hj⟩⟩⟩

theorem range_of {W : World} {g M : Nat} {F : Nat → Int} (h : ∀ j, j < M * 64 → W.cell? ⟨g, j, none⟩ = some (.int .i64 (F j))) (k : Nat) (hk : k < M) : W.rangeAt g (k * 64) (tab .i64 64 (fun j => F (k * 64 + j))) := by
  intro j v hv
  have hj : j < 64 := by have := (List.getElem?_eq_some_iff.1 hv).1; rwa [tab_length] at this
  rw [tab_at _ _ _ _ hj] at hv
  have : (k + 1) * 64 ≤ M * 64 := Nat.mul_le_mul_right 64 hk
  rw [h (k * 64 + j) (by omega), ← hv]

set_option maxHeartbeats 3200000 in
set_option maxRecDepth 100000 in
theorem sameRowV (g g' M c c' : Nat) (F : Nat → Int) (w : World) (h : ∀ j, j < M * 64 → w.cell? ⟨g, j, none⟩ = some (.int .i64 (F j))) (h' : ∀ j, j < M * 64 → w.cell? ⟨g', j, none⟩ = some (.int .i64 (F j))) (hM : M ≤ 1000000) : Calls Tryd.prog 27 #[.slice (some ⟨g, 0, none⟩) M c, .slice (some ⟨g', 0, none⟩) M c'] w fun e w' => e = .returned (.bool true) ∧ But Nowhere w w' := by
  have huB := Tryd.underlying46
  go_enter Tryd.func27, Tryd.ntmps27
  go_wp2_with fail
  go_loopw [5] (fun i V => ∃ k : Nat, k ≤ M ∧ i = .int .i64 k ∧ But Nowhere w V) (fun i _ => M - (intOf i).toNat)
  case atStart => exact ⟨0, Nat.zero_le _, rfl, But.refl _ _⟩
  case round =>
    obtain ⟨k, hk, rfl, hb⟩ := hrel
    by_cases hlt : k < M
    · have i0 : (0 : Int) ≤ (k : Int) := by omega
      have i1 : (k : Int) < (M : Int) := by omega
      obtain ⟨f, hf⟩ : ∃ f, f = fun j => F (k * 64 + j) := ⟨_, rfl⟩
      have hr : wr.rangeAt g (k * 64) (tab .i64 64 f) := by rw [hf]; exact range_of (fun j hj => hb.keeps (not_nowhere _) (h j hj)) k hlt
      have hr' : wr.rangeAt g' (k * 64) (tab .i64 64 f) := by rw [hf]; exact range_of (fun j hj => hb.keeps (not_nowhere _) (h' j hj)) k hlt
      have hiB : (Tryd.prog.info? 46).map (·.size) = some (tab .i64 64 f).length := by rw [tab_length]; kernel_rfl
      have hEq := equal_block f
      have HBW : Hid (But Nowhere w wr) := hb
      clear hf hb h h'
      go_wp2_with fail
      refine wp_region_till (S := fun V => V.rangeAt g (k * 64) (tab .i64 64 f) ∧ V.rangeAt g' (k * 64) (tab .i64 64 f)) (R := fun _ => True) (k := 100) (m := 100) (by kernel_rfl) ⟨hr, hr'⟩ trivial ?_
      (refine Walk.take (i := 0) (oi := { dst := some 17, op := Op.move (Operand.tmp 0), type := 44, pos := "ref.go:200", after := #[], guard := none }) (v := ?_) rfl (by kernel_rfl) (by kernel_rfl) (by kernel_rfl) (by kernel_rfl) (fun _ _ _ h => h) (Or.inl ⟨by rfl, ?_⟩) ?_; rotate_left; (intro w hw; clear hw; (try go_split_ands); go_simp; try (with_reducible rfl)); simp only [Act.put, List.setIfInBounds_toArray, List.set_cons_zero, List.set_cons_succ])
      (refine Walk.take (i := 1) (oi := { dst := some 18, op := Op.move (Operand.tmp 5), type := 3, pos := "ref.go:200", after := #[], guard := none }) (v := ?_) rfl (by kernel_rfl) (by kernel_rfl) (by kernel_rfl) (by kernel_rfl) (fun _ _ _ h => h) (Or.inl ⟨by rfl, ?_⟩) ?_; rotate_left; (intro w hw; clear hw; (try go_split_ands); go_simp; try (with_reducible rfl)); simp only [Act.put, List.setIfInBounds_toArray, List.set_cons_zero, List.set_cons_succ])
      (refine Walk.take (i := 2) (oi := { dst := some 19, op := Op.indexAddr 44 (Operand.tmp 17) (Operand.tmp 18), type := 0, pos := "ref.go:200", after := #[{ on := 0, ground := Ground.data }, { on := 1, ground := Ground.data }], guard := none }) (v := ?_) rfl (by kernel_rfl) (by kernel_rfl) (by kernel_rfl) (by kernel_rfl) (fun _ _ _ h => h) (Or.inl ⟨by rfl, ?_⟩) ?_; rotate_left; (intro w hw; clear hw; (try go_split_ands); go_simp; try (with_reducible rfl)); simp only [Act.put, List.setIfInBounds_toArray, List.set_cons_zero, List.set_cons_succ])
      (refine Walk.take (i := 3) (oi := { dst := some 20, op := Op.load 46 (Operand.tmp 19), type := 46, pos := "ref.go:200", after := #[{ on := 2, ground := Ground.data }], guard := none }) (v := .agg (tab .i64 64 f).toArray) rfl (by kernel_rfl) (by kernel_rfl) (by kernel_rfl) (by kernel_rfl) (fun _ _ _ h => h) (yieldsIf_load_mid rfl 46 (.tmp 19) rfl g (k * 64) rfl (tab .i64 64 f) _ (fun w hw => (hw.1 (by kernel_rfl)).1) huB rfl hiB) ?_; simp only [Act.put, List.setIfInBounds_toArray, List.set_cons_zero, List.set_cons_succ])
      (refine Walk.take (i := 4) (oi := { dst := some 21, op := Op.move (Operand.tmp 1), type := 44, pos := "ref.go:200", after := #[], guard := none }) (v := ?_) rfl (by kernel_rfl) (by kernel_rfl) (by kernel_rfl) (by kernel_rfl) (fun _ _ _ h => h) (Or.inl ⟨by rfl, ?_⟩) ?_; rotate_left; (intro w hw; clear hw; (try go_split_ands); go_simp; try (with_reducible rfl)); simp only [Act.put, List.setIfInBounds_toArray, List.set_cons_zero, List.set_cons_succ])
      (refine Walk.take (i := 5) (oi := { dst := some 22, op := Op.move (Operand.tmp 5), type := 3, pos := "ref.go:200", after := #[], guard := none }) (v := ?_) rfl (by kernel_rfl) (by kernel_rfl) (by kernel_rfl) (by kernel_rfl) (fun _ _ _ h => h) (Or.inl ⟨by rfl, ?_⟩) ?_; rotate_left; (intro w hw; clear hw; (try go_split_ands); go_simp; try (with_reducible rfl)); simp only [Act.put, List.setIfInBounds_toArray, List.set_cons_zero, List.set_cons_succ])
      (refine Walk.take (i := 6) (oi := { dst := some 23, op := Op.indexAddr 44 (Operand.tmp 21) (Operand.tmp 22), type := 0, pos := "ref.go:200", after := #[{ on := 4, ground := Ground.data }, { on := 5, ground := Ground.data }], guard := none }) (v := ?_) rfl (by kernel_rfl) (by kernel_rfl) (by kernel_rfl) (by kernel_rfl) (fun _ _ _ h => h) (Or.inl ⟨by rfl, ?_⟩) ?_; rotate_left; (intro w hw; clear hw; (try go_split_ands); go_simp; try (with_reducible rfl)); simp only [Act.put, List.setIfInBounds_toArray, List.set_cons_zero, List.set_cons_succ])
      (refine Walk.take (i := 7) (oi := { dst := some 24, op := Op.load 46 (Operand.tmp 23), type := 46, pos := "ref.go:200", after := #[{ on := 6, ground := Ground.data }], guard := none }) (v := .agg (tab .i64 64 f).toArray) rfl (by kernel_rfl) (by kernel_rfl) (by kernel_rfl) (by kernel_rfl) (fun _ _ _ h => h) (yieldsIf_load_mid rfl 46 (.tmp 23) rfl g' (k * 64) rfl (tab .i64 64 f) _ (fun w hw => (hw.1 (by kernel_rfl)).2) huB rfl hiB) ?_; simp only [Act.put, List.setIfInBounds_toArray, List.set_cons_zero, List.set_cons_succ])
      (refine Walk.take (i := 8) (oi := { dst := some 25, op := Op.binOp BinOp.neq 46 (Operand.tmp 20) (Operand.tmp 24) 46, type := 4, pos := "ref.go:200", after := #[{ on := 3, ground := Ground.data }, { on := 7, ground := Ground.data }], guard := none }) (v := ?_) rfl (by kernel_rfl) (by kernel_rfl) (by kernel_rfl) (by kernel_rfl) (fun _ _ _ h => h) (Or.inl ⟨by rfl, ?_⟩) ?_; rotate_left; (intro w hw; clear hw; (try go_split_ands); go_simp; try (with_reducible rfl)); simp only [Act.put, List.setIfInBounds_toArray, List.set_cons_zero, List.set_cons_succ])
      refine Walk.done (by kernel_rfl) ?_ _
      go_wp2_with fail
      go_roundw
      case rel => exact ⟨k + 1, by omega, by go_num, HBW.out.drew⟩
      case measure => simp [intOf]; omega
    · clear h h'
      go_wp2_with fail
      go_ret
      exact ⟨rfl, hb⟩

set_option maxHeartbeats 3200000 in
set_option maxRecDepth 100000 in
theorem sameBlocksV (v v' : Value) (N M : Nat) (F F' : Nat → Nat → Int) (w : World) (h : BV w v N M F) (h' : BV w v' N M F') (he : ∀ i j, i < N → j < M * 64 → F' i j = F i j) (hN : N ≤ 100000000) (hM : M ≤ 1000000) : Calls Tryd.prog 13 #[v, v'] w fun e w' => e = .returned (.bool true) ∧ But Nowhere w w' := by
  have HV : Hid (BV w v N M F) := h
  have HV' : Hid (BV w v' N M F') := h'
  obtain ⟨ao, cap, rfl, h⟩ := h
  obtain ⟨ao', cap', rfl, h'⟩ := h'
  have HH : Hid _ := And.intro h h'
  clear h h'
  go_enter Tryd.func13, Tryd.ntmps13
  go_wp2_with fail
  go_loopw [5] (fun i V => ∃ k : Nat, k ≤ N ∧ i = .int .i64 k ∧ But Nowhere w V) (fun i _ => N - (intOf i).toNat)
  case atStart => exact ⟨0, Nat.zero_le _, rfl, But.refl _ _⟩
  case round =>
    obtain ⟨k, hk, rfl, hb⟩ := hrel
    by_cases hlt : k < N
    · have i0 : (0 : Int) ≤ (k : Int) := by omega
      have i1 : (k : Int) < (N : Int) := by omega
      obtain ⟨go, rfl, h2⟩ := HH.out.1 (by omega)
      obtain ⟨go', rfl, h2'⟩ := HH.out.2 (by omega)
      obtain ⟨g, c, h3, h4⟩ := h2 k hlt
      obtain ⟨g', c', h3', h4'⟩ := h2' k hlt
      have HS : ∀ V, But Nowhere w V → (V.cell? ⟨go, k, none⟩ = some (.slice (some ⟨g, 0, none⟩) M c) ∧ V.cell? ⟨go', k, none⟩ = some (.slice (some ⟨g', 0, none⟩) M c')) := fun V hb => ⟨hb.keeps (not_nowhere _) h3, hb.keeps (not_nowhere _) h3'⟩
      have HC : ∀ V, But Nowhere w V → Calls Tryd.prog 27 #[.slice (some ⟨g, 0, none⟩) M c, .slice (some ⟨g', 0, none⟩) M c'] V fun e w' => e = .returned (.bool true) ∧ But Nowhere V w' := fun V hb => sameRowV _ _ M _ _ (F k) V (fun j hj => hb.keeps (not_nowhere _) (h4 j hj)) (fun j hj => by rw [hb.keeps (not_nowhere _) (h4' j hj), he k j hlt hj]) hM
      have bu := hb.drew
      clear h2 h2' h3 h3' h4 h4' he
      go_wp2_with fail
      refine wp_region_till (S := fun V => V.cell? ⟨go, k, none⟩ = some (.slice (some ⟨g, 0, none⟩) M c) ∧ V.cell? ⟨go', k, none⟩ = some (.slice (some ⟨g', 0, none⟩) M c')) (R := fun _ => True) (k := 100) (m := 100) (by kernel_rfl) (HS _ bu) trivial ?_
      (refine Walk.take (i := 0) (oi := { dst := some 17, op := Op.move (Operand.tmp 0), type := 30, pos := "ref.go:187", after := #[], guard := none }) (v := ?_) rfl (by kernel_rfl) (by kernel_rfl) (by kernel_rfl) (by kernel_rfl) (fun _ _ _ h => h) (Or.inl ⟨by rfl, ?_⟩) ?_; rotate_left; (intro w hw; clear hw; (try go_split_ands); go_simp; try (with_reducible rfl)); simp only [Act.put, List.setIfInBounds_toArray, List.set_cons_zero, List.set_cons_succ])
      (refine Walk.take (i := 1) (oi := { dst := some 18, op := Op.move (Operand.tmp 5), type := 3, pos := "ref.go:187", after := #[], guard := none }) (v := ?_) rfl (by kernel_rfl) (by kernel_rfl) (by kernel_rfl) (by kernel_rfl) (fun _ _ _ h => h) (Or.inl ⟨by rfl, ?_⟩) ?_; rotate_left; (intro w hw; clear hw; (try go_split_ands); go_simp; try (with_reducible rfl)); simp only [Act.put, List.setIfInBounds_toArray, List.set_cons_zero, List.set_cons_succ])
      (refine Walk.take (i := 2) (oi := { dst := some 19, op := Op.indexAddr 30 (Operand.tmp 17) (Operand.tmp 18), type := 0, pos := "ref.go:187", after := #[{ on := 0, ground := Ground.data }, { on := 1, ground := Ground.data }], guard := none }) (v := ?_) rfl (by kernel_rfl) (by kernel_rfl) (by kernel_rfl) (by kernel_rfl) (fun _ _ _ h => h) (Or.inl ⟨by rfl, ?_⟩) ?_; rotate_left; (intro w hw; clear hw; (try go_split_ands); go_simp; try (with_reducible rfl)); simp only [Act.put, List.setIfInBounds_toArray, List.set_cons_zero, List.set_cons_succ])
      (refine Walk.take (i := 3) (oi := { dst := some 20, op := Op.load 44 (Operand.tmp 19), type := 44, pos := "ref.go:187", after := #[{ on := 2, ground := Ground.data }], guard := none }) (v := ?_) rfl (by kernel_rfl) (by kernel_rfl) (by kernel_rfl) (by kernel_rfl) (fun _ _ _ h => h) (Or.inl ⟨by rfl, ?_⟩) ?_; rotate_left; (intro w hw; have hS1 := hw.1 (by kernel_rfl); clear hw; (try dsimp only at hS1); (try go_split_ands); go_simp; try (with_reducible rfl)); simp only [Act.put, List.setIfInBounds_toArray, List.set_cons_zero, List.set_cons_succ])
      (refine Walk.take (i := 4) (oi := { dst := some 21, op := Op.move (Operand.tmp 1), type := 30, pos := "ref.go:187", after := #[], guard := none }) (v := ?_) rfl (by kernel_rfl) (by kernel_rfl) (by kernel_rfl) (by kernel_rfl) (fun _ _ _ h => h) (Or.inl ⟨by rfl, ?_⟩) ?_; rotate_left; (intro w hw; clear hw; (try go_split_ands); go_simp; try (with_reducible rfl)); simp only [Act.put, List.setIfInBounds_toArray, List.set_cons_zero, List.set_cons_succ])
      (refine Walk.take (i := 5) (oi := { dst := some 22, op := Op.move (Operand.tmp 5), type := 3, pos := "ref.go:187", after := #[], guard := none }) (v := ?_) rfl (by kernel_rfl) (by kernel_rfl) (by kernel_rfl) (by kernel_rfl) (fun _ _ _ h => h) (Or.inl ⟨by rfl, ?_⟩) ?_; rotate_left; (intro w hw; clear hw; (try go_split_ands); go_simp; try (with_reducible rfl)); simp only [Act.put, List.setIfInBounds_toArray, List.set_cons_zero, List.set_cons_succ])
      (refine Walk.take (i := 6) (oi := { dst := some 23, op := Op.indexAddr 30 (Operand.tmp 21) (Operand.tmp 22), type := 0, pos := "ref.go:187", after := #[{ on := 4, ground := Ground.data }, { on := 5, ground := Ground.data }], guard := none }) (v := ?_) rfl (by kernel_rfl) (by kernel_rfl) (by kernel_rfl) (by kernel_rfl) (fun _ _ _ h => h) (Or.inl ⟨by rfl, ?_⟩) ?_; rotate_left; (intro w hw; clear hw; (try go_split_ands); go_simp; try (with_reducible rfl)); simp only [Act.put, List.setIfInBounds_toArray, List.set_cons_zero, List.set_cons_succ])
      (refine Walk.take (i := 7) (oi := { dst := some 24, op := Op.load 44 (Operand.tmp 23), type := 44, pos := "ref.go:187", after := #[{ on := 6, ground := Ground.data }], guard := none }) (v := ?_) rfl (by kernel_rfl) (by kernel_rfl) (by kernel_rfl) (by kernel_rfl) (fun _ _ _ h => h) (Or.inl ⟨by rfl, ?_⟩) ?_; rotate_left; (intro w hw; have hS1 := hw.1 (by kernel_rfl); clear hw; (try dsimp only at hS1); (try go_split_ands); go_simp; try (with_reducible rfl)); simp only [Act.put, List.setIfInBounds_toArray, List.set_cons_zero, List.set_cons_succ])
      (refine Walk.go (i := 8) (o := { dst := some 25, op := Op.call { callee := Callee.value (Operand.func 27), args := #[Operand.tmp 20, Operand.tmp 24], argTypes := #[44, 44] }, type := 4, pos := "ref.go:187", after := #[{ on := 3, ground := Ground.data }, { on := 7, ground := Ground.data }], guard := none }) (by kernel_rfl) rfl (fun K hK => ?_); go_simp; ((go_at_call 27; refine (HC _ bu).mono ?_; rintro e x1 ⟨rfl, d⟩; replace bu := bu.trans d; clear d)); refine hK.out _ _ (⟨fun _ => HS _ bu, fun _ => trivial⟩) ?_; clear hK K; try simp only [Act.put, List.setIfInBounds_toArray, List.set_cons_zero, List.set_cons_succ])
      (refine Walk.take (i := 9) (oi := { dst := some 26, op := Op.unOp UnOp.not 4 (Operand.tmp 25), type := 4, pos := "ref.go:187", after := #[{ on := 8, ground := Ground.data }], guard := none }) (v := ?_) rfl (by kernel_rfl) (by kernel_rfl) (by kernel_rfl) (by kernel_rfl) (fun _ _ _ h => h) (Or.inl ⟨by rfl, ?_⟩) ?_; rotate_left; (intro w hw; clear hw; (try go_split_ands); go_simp; try (with_reducible rfl)); simp only [Act.put, List.setIfInBounds_toArray, List.set_cons_zero, List.set_cons_succ])
      refine Walk.done (by kernel_rfl) ?_ _
      clear HS HC
      go_wp2_with fail
      go_roundw
      case rel => exact ⟨k + 1, by omega, by go_num, bu⟩
      case measure => simp [intOf]; omega
    · clear he
      go_wp2_with fail
      go_ret
      exact ⟨rfl, hb⟩

set_option maxHeartbeats 3200000 in
set_option maxRecDepth 100000 in
theorem secretsV (v v' : Value) (N M : Nat) (F F' : Nat → Nat → Int) (w : World) (h : BV w v N M F) (h' : BV w v' N M F') (he : ∀ i j, i < N → j < M * 64 → F' i j = F i j) (hN : N ≤ 100000000) (hM : M ≤ 1000000) : Calls Tryd.prog 15 #[v, v'] w fun e w' => e = .returned (.bool true) ∧ But Nowhere w w' := by
  obtain ⟨ao, cap, rfl, h⟩ := h
  obtain ⟨ao', cap', rfl, h'⟩ := h'
  have HH : Hid _ := And.intro h h'
  have HEE : Hid _ := he
  clear h h' he
  go_enter Tryd.func15, Tryd.ntmps15
  go_wp2_with fail
  go_loopw [5] (fun i V => ∃ k : Nat, k ≤ N ∧ i = .int .i64 k ∧ But Nowhere w V) (fun i _ => N - (intOf i).toNat)
  case atStart => exact ⟨0, Nat.zero_le _, rfl, But.refl _ _⟩
  case round =>
    obtain ⟨i, hk, rfl, hb⟩ := hrel
    by_cases hlt : i < N
    · have i0 : (0 : Int) ≤ (i : Int) := by omega
      have i1 : (i : Int) < (N : Int) := by omega
      obtain ⟨go, rfl, h2⟩ := HH.out.1 (by omega)
      obtain ⟨go', rfl, h2'⟩ := HH.out.2 (by omega)
      obtain ⟨g, c, h3, h4⟩ := h2 i hlt
      obtain ⟨g', c', h3', h4'⟩ := h2' i hlt
      have HL : Hid _ := And.intro (And.intro h3 h4) (And.intro h3' h4')
      have y1 := hb.keeps (not_nowhere _) h3
      have y2 := hb.keeps (not_nowhere _) h3'
      have HB1 : Hid (But Nowhere w wr.drew) := hb.drew
      clear h2 h2' h3 h4 h3' h4'
      go_wp2_with fail
      refine wp_region_till (S := fun V => V.cell? ⟨go, i, none⟩ = some (.slice (some ⟨g, 0, none⟩) M c) ∧ V.cell? ⟨go', i, none⟩ = some (.slice (some ⟨g', 0, none⟩) M c')) (R := fun _ => True) (k := 100) (m := 100) (by kernel_rfl) ⟨y1, y2⟩ trivial ?_
      (refine Walk.take (i := 0) (oi := { dst := some 19, op := Op.move (Operand.tmp 0), type := 34, pos := "law.go:119", after := #[], guard := none }) (v := ?_) rfl (by kernel_rfl) (by kernel_rfl) (by kernel_rfl) (by kernel_rfl) (fun _ _ _ h => h) (Or.inl ⟨by rfl, ?_⟩) ?_; rotate_left; (intro w hw; clear hw; (try go_split_ands); go_simp; try (with_reducible rfl)); simp only [Act.put, List.setIfInBounds_toArray, List.set_cons_zero, List.set_cons_succ])
      (refine Walk.take (i := 1) (oi := { dst := some 20, op := Op.move (Operand.tmp 5), type := 3, pos := "law.go:119", after := #[], guard := none }) (v := ?_) rfl (by kernel_rfl) (by kernel_rfl) (by kernel_rfl) (by kernel_rfl) (fun _ _ _ h => h) (Or.inl ⟨by rfl, ?_⟩) ?_; rotate_left; (intro w hw; clear hw; (try go_split_ands); go_simp; try (with_reducible rfl)); simp only [Act.put, List.setIfInBounds_toArray, List.set_cons_zero, List.set_cons_succ])
      (refine Walk.take (i := 2) (oi := { dst := some 21, op := Op.indexAddr 34 (Operand.tmp 19) (Operand.tmp 20), type := 0, pos := "law.go:119", after := #[{ on := 0, ground := Ground.data }, { on := 1, ground := Ground.data }], guard := none }) (v := ?_) rfl (by kernel_rfl) (by kernel_rfl) (by kernel_rfl) (by kernel_rfl) (fun _ _ _ h => h) (Or.inl ⟨by rfl, ?_⟩) ?_; rotate_left; (intro w hw; clear hw; (try go_split_ands); go_simp; try (with_reducible rfl)); simp only [Act.put, List.setIfInBounds_toArray, List.set_cons_zero, List.set_cons_succ])
      (refine Walk.take (i := 3) (oi := { dst := some 22, op := Op.load 70 (Operand.tmp 21), type := 70, pos := "law.go:119", after := #[{ on := 2, ground := Ground.data }], guard := none }) (v := ?_) rfl (by kernel_rfl) (by kernel_rfl) (by kernel_rfl) (by kernel_rfl) (fun _ _ _ h => h) (Or.inl ⟨by rfl, ?_⟩) ?_; rotate_left; (intro w hw; have hS1 := hw.1 (by kernel_rfl); clear hw; (try dsimp only at hS1); (try go_split_ands); go_simp; try (with_reducible rfl)); simp only [Act.put, List.setIfInBounds_toArray, List.set_cons_zero, List.set_cons_succ])
      (refine Walk.take (i := 4) (oi := { dst := some 23, op := Op.call { callee := Callee.builtin Builtin.len, args := #[Operand.tmp 22], argTypes := #[70] }, type := 3, pos := "law.go:119", after := #[{ on := 3, ground := Ground.data }], guard := none }) (v := ?_) rfl (by kernel_rfl) (by kernel_rfl) (by kernel_rfl) (by kernel_rfl) (fun _ _ _ h => h) (Or.inl ⟨by rfl, ?_⟩) ?_; rotate_left; (intro w hw; clear hw; (try go_split_ands); go_simp; try (with_reducible rfl)); simp only [Act.put, List.setIfInBounds_toArray, List.set_cons_zero, List.set_cons_succ])
      (refine Walk.take (i := 5) (oi := { dst := some 24, op := Op.move (Operand.tmp 1), type := 30, pos := "law.go:119", after := #[], guard := none }) (v := ?_) rfl (by kernel_rfl) (by kernel_rfl) (by kernel_rfl) (by kernel_rfl) (fun _ _ _ h => h) (Or.inl ⟨by rfl, ?_⟩) ?_; rotate_left; (intro w hw; clear hw; (try go_split_ands); go_simp; try (with_reducible rfl)); simp only [Act.put, List.setIfInBounds_toArray, List.set_cons_zero, List.set_cons_succ])
      (refine Walk.take (i := 6) (oi := { dst := some 25, op := Op.move (Operand.tmp 5), type := 3, pos := "law.go:119", after := #[], guard := none }) (v := ?_) rfl (by kernel_rfl) (by kernel_rfl) (by kernel_rfl) (by kernel_rfl) (fun _ _ _ h => h) (Or.inl ⟨by rfl, ?_⟩) ?_; rotate_left; (intro w hw; clear hw; (try go_split_ands); go_simp; try (with_reducible rfl)); simp only [Act.put, List.setIfInBounds_toArray, List.set_cons_zero, List.set_cons_succ])
      (refine Walk.take (i := 7) (oi := { dst := some 26, op := Op.indexAddr 30 (Operand.tmp 24) (Operand.tmp 25), type := 0, pos := "law.go:119", after := #[{ on := 5, ground := Ground.data }, { on := 6, ground := Ground.data }], guard := none }) (v := ?_) rfl (by kernel_rfl) (by kernel_rfl) (by kernel_rfl) (by kernel_rfl) (fun _ _ _ h => h) (Or.inl ⟨by rfl, ?_⟩) ?_; rotate_left; (intro w hw; clear hw; (try go_split_ands); go_simp; try (with_reducible rfl)); simp only [Act.put, List.setIfInBounds_toArray, List.set_cons_zero, List.set_cons_succ])
      (refine Walk.take (i := 8) (oi := { dst := some 27, op := Op.load 44 (Operand.tmp 26), type := 44, pos := "law.go:119", after := #[{ on := 7, ground := Ground.data }], guard := none }) (v := ?_) rfl (by kernel_rfl) (by kernel_rfl) (by kernel_rfl) (by kernel_rfl) (fun _ _ _ h => h) (Or.inl ⟨by rfl, ?_⟩) ?_; rotate_left; (intro w hw; have hS1 := hw.1 (by kernel_rfl); clear hw; (try dsimp only at hS1); (try go_split_ands); go_simp; try (with_reducible rfl)); simp only [Act.put, List.setIfInBounds_toArray, List.set_cons_zero, List.set_cons_succ])
      (refine Walk.take (i := 9) (oi := { dst := some 28, op := Op.call { callee := Callee.builtin Builtin.len, args := #[Operand.tmp 27], argTypes := #[44] }, type := 3, pos := "law.go:119", after := #[{ on := 8, ground := Ground.data }], guard := none }) (v := ?_) rfl (by kernel_rfl) (by kernel_rfl) (by kernel_rfl) (by kernel_rfl) (fun _ _ _ h => h) (Or.inl ⟨by rfl, ?_⟩) ?_; rotate_left; (intro w hw; clear hw; (try go_split_ands); go_simp; try (with_reducible rfl)); simp only [Act.put, List.setIfInBounds_toArray, List.set_cons_zero, List.set_cons_succ])
      (refine Walk.take (i := 10) (oi := { dst := some 29, op := Op.binOp BinOp.neq 3 (Operand.tmp 23) (Operand.tmp 28) 3, type := 4, pos := "law.go:119", after := #[{ on := 4, ground := Ground.data }, { on := 9, ground := Ground.data }], guard := none }) (v := ?_) rfl (by kernel_rfl) (by kernel_rfl) (by kernel_rfl) (by kernel_rfl) (fun _ _ _ h => h) (Or.inl ⟨by rfl, ?_⟩) ?_; rotate_left; (intro w hw; clear hw; (try go_split_ands); go_simp; try (with_reducible rfl)); simp only [Act.put, List.setIfInBounds_toArray, List.set_cons_zero, List.set_cons_succ])
      refine Walk.done (by kernel_rfl) ?_ _
      clear y1 y2 hb
      go_wp2_with fail
      go_loopw [6] (fun n V => ∃ b : Nat, b ≤ M ∧ n = .int .i64 b ∧ But Nowhere w V) (fun n _ => M - (intOf n).toNat)
      case atStart => exact ⟨0, Nat.zero_le _, rfl, HB1.out⟩
      case round =>
        obtain ⟨b, hbM, rfl, hb2⟩ := hrel
        have y3 := hb2.keeps (not_nowhere _) HL.out.1.1
        by_cases hlb : b < M
        · have j0 : (0 : Int) ≤ (b : Int) := by omega
          have j1 : (b : Int) < (M : Int) := by omega
          go_wp2_with fail
          go_loopw [7] (fun n V => ∃ j : Nat, j ≤ 64 ∧ n = .int .i64 j ∧ But Nowhere w V) (fun n _ => 64 - (intOf n).toNat)
          case atStart => exact ⟨0, Nat.zero_le _, rfl, hb2⟩
          case round =>
            obtain ⟨j, hj, rfl, hb3⟩ := hrel
            by_cases hlj : j < 64
            · have l0 : (0 : Int) ≤ (j : Int) := by omega
              have l1 : (j : Int) < 64 := by omega
              have hbj : b * 64 + j < M * 64 := by
                have : (b + 1) * 64 ≤ M * 64 := Nat.mul_le_mul_right 64 hlb
                omega
              obtain ⟨fv, hfv⟩ : ∃ fv, F i (b * 64 + j) = fv := ⟨_, rfl⟩
              have hfv' : F' i (b * 64 + j) = fv := by rw [HEE.out i _ hlt hbj]; exact hfv
              have HS : ∀ V, But Nowhere w V → (V.cell? ⟨go, i, none⟩ = some (.slice (some ⟨g, 0, none⟩) M c) ∧ V.cell? ⟨go', i, none⟩ = some (.slice (some ⟨g', 0, none⟩) M c') ∧ V.cell? ⟨g, b * 64 + j, none⟩ = some (.int .i64 fv) ∧ V.cell? ⟨g', b * 64 + j, none⟩ = some (.int .i64 fv)) := fun V hb => ⟨hb.keeps (not_nowhere _) HL.out.1.1, hb.keeps (not_nowhere _) HL.out.2.1, by rw [hb.keeps (not_nowhere _) (HL.out.1.2 _ hbj), hfv], by rw [hb.keeps (not_nowhere _) (HL.out.2.2 _ hbj), hfv']⟩
              have bu : But Nowhere w wr.drew := hb3.drew
              clear hfv hfv' hb3
              go_wp2_with fail
              refine wp_region_till (S := fun V => V.cell? ⟨go, i, none⟩ = some (.slice (some ⟨g, 0, none⟩) M c) ∧ V.cell? ⟨go', i, none⟩ = some (.slice (some ⟨g', 0, none⟩) M c') ∧ V.cell? ⟨g, b * 64 + j, none⟩ = some (.int .i64 fv) ∧ V.cell? ⟨g', b * 64 + j, none⟩ = some (.int .i64 fv)) (R := fun _ => True) (k := 100) (m := 100) (by kernel_rfl) (HS _ bu) trivial ?_
              (refine Walk.take (i := 0) (oi := { dst := some 43, op := Op.move (Operand.tmp 0), type := 34, pos := "law.go:124", after := #[], guard := none }) (v := ?_) rfl (by kernel_rfl) (by kernel_rfl) (by kernel_rfl) (by kernel_rfl) (fun _ _ _ h => h) (Or.inl ⟨by rfl, ?_⟩) ?_; rotate_left; (intro w hw; clear hw; (try go_split_ands); go_simp; try (with_reducible rfl)); simp only [Act.put, List.setIfInBounds_toArray, List.set_cons_zero, List.set_cons_succ])
              (refine Walk.take (i := 1) (oi := { dst := some 44, op := Op.move (Operand.tmp 5), type := 3, pos := "law.go:124", after := #[], guard := none }) (v := ?_) rfl (by kernel_rfl) (by kernel_rfl) (by kernel_rfl) (by kernel_rfl) (fun _ _ _ h => h) (Or.inl ⟨by rfl, ?_⟩) ?_; rotate_left; (intro w hw; clear hw; (try go_split_ands); go_simp; try (with_reducible rfl)); simp only [Act.put, List.setIfInBounds_toArray, List.set_cons_zero, List.set_cons_succ])
              (refine Walk.take (i := 2) (oi := { dst := some 45, op := Op.indexAddr 34 (Operand.tmp 43) (Operand.tmp 44), type := 0, pos := "law.go:124", after := #[{ on := 0, ground := Ground.data }, { on := 1, ground := Ground.data }], guard := none }) (v := ?_) rfl (by kernel_rfl) (by kernel_rfl) (by kernel_rfl) (by kernel_rfl) (fun _ _ _ h => h) (Or.inl ⟨by rfl, ?_⟩) ?_; rotate_left; (intro w hw; clear hw; (try go_split_ands); go_simp; try (with_reducible rfl)); simp only [Act.put, List.setIfInBounds_toArray, List.set_cons_zero, List.set_cons_succ])
              (refine Walk.take (i := 3) (oi := { dst := some 46, op := Op.load 70 (Operand.tmp 45), type := 70, pos := "law.go:124", after := #[{ on := 2, ground := Ground.data }], guard := none }) (v := ?_) rfl (by kernel_rfl) (by kernel_rfl) (by kernel_rfl) (by kernel_rfl) (fun _ _ _ h => h) (Or.inl ⟨by rfl, ?_⟩) ?_; rotate_left; (intro w hw; have hS1 := hw.1 (by kernel_rfl); clear hw; (try dsimp only at hS1); (try go_split_ands); go_simp; try (with_reducible rfl)); simp only [Act.put, List.setIfInBounds_toArray, List.set_cons_zero, List.set_cons_succ])
              (refine Walk.take (i := 4) (oi := { dst := some 47, op := Op.move (Operand.tmp 6), type := 3, pos := "law.go:124", after := #[], guard := none }) (v := ?_) rfl (by kernel_rfl) (by kernel_rfl) (by kernel_rfl) (by kernel_rfl) (fun _ _ _ h => h) (Or.inl ⟨by rfl, ?_⟩) ?_; rotate_left; (intro w hw; clear hw; (try go_split_ands); go_simp; try (with_reducible rfl)); simp only [Act.put, List.setIfInBounds_toArray, List.set_cons_zero, List.set_cons_succ])
              (refine Walk.take (i := 5) (oi := { dst := some 48, op := Op.move (Operand.tmp 7), type := 3, pos := "law.go:124", after := #[], guard := none }) (v := ?_) rfl (by kernel_rfl) (by kernel_rfl) (by kernel_rfl) (by kernel_rfl) (fun _ _ _ h => h) (Or.inl ⟨by rfl, ?_⟩) ?_; rotate_left; (intro w hw; clear hw; (try go_split_ands); go_simp; try (with_reducible rfl)); simp only [Act.put, List.setIfInBounds_toArray, List.set_cons_zero, List.set_cons_succ])
              (refine Walk.take (i := 6) (oi := { dst := some 49, op := Op.indexAddr 70 (Operand.tmp 46) (Operand.tmp 47), type := 0, pos := "law.go:124", after := #[{ on := 3, ground := Ground.data }, { on := 4, ground := Ground.data }], guard := none }) (v := ?_) rfl (by kernel_rfl) (by kernel_rfl) (by kernel_rfl) (by kernel_rfl) (fun _ _ _ h => h) (Or.inl ⟨by rfl, ?_⟩) ?_; rotate_left; (intro w hw; clear hw; (try go_split_ands); go_simp; try (with_reducible rfl)); simp only [Act.put, List.setIfInBounds_toArray, List.set_cons_zero, List.set_cons_succ])
              (refine Walk.take (i := 7) (oi := { dst := some 50, op := Op.indexAddr 73 (Operand.tmp 49) (Operand.tmp 48), type := 0, pos := "law.go:124", after := #[{ on := 6, ground := Ground.data }, { on := 5, ground := Ground.data }], guard := none }) (v := ?_) rfl (by kernel_rfl) (by kernel_rfl) (by kernel_rfl) (by kernel_rfl) (fun _ _ _ h => h) (Or.inl ⟨by rfl, ?_⟩) ?_; rotate_left; (intro w hw; clear hw; (try go_split_ands); go_simp; try (with_reducible rfl)); simp only [Act.put, List.setIfInBounds_toArray, List.set_cons_zero, List.set_cons_succ])
              (refine Walk.take (i := 8) (oi := { dst := some 51, op := Op.load 72 (Operand.tmp 50), type := 72, pos := "law.go:124", after := #[{ on := 7, ground := Ground.data }], guard := none }) (v := ?_) rfl (by kernel_rfl) (by kernel_rfl) (by kernel_rfl) (by kernel_rfl) (fun _ _ _ h => h) (Or.inl ⟨by rfl, ?_⟩) ?_; rotate_left; (intro w hw; have hS1 := hw.1 (by kernel_rfl); clear hw; (try dsimp only at hS1); (try go_split_ands); go_simp; try (with_reducible rfl)); simp only [Act.put, List.setIfInBounds_toArray, List.set_cons_zero, List.set_cons_succ])
              (refine Walk.take (i := 10) (oi := { dst := some 53, op := Op.move (Operand.tmp 1), type := 30, pos := "law.go:124", after := #[], guard := none }) (v := ?_) rfl (by kernel_rfl) (by kernel_rfl) (by kernel_rfl) (by kernel_rfl) (fun _ _ _ h => h) (Or.inl ⟨by rfl, ?_⟩) ?_; rotate_left; (intro w hw; clear hw; (try go_split_ands); go_simp; try (with_reducible rfl)); simp only [Act.put, List.setIfInBounds_toArray, List.set_cons_zero, List.set_cons_succ])
              (refine Walk.take (i := 11) (oi := { dst := some 54, op := Op.move (Operand.tmp 5), type := 3, pos := "law.go:124", after := #[], guard := none }) (v := ?_) rfl (by kernel_rfl) (by kernel_rfl) (by kernel_rfl) (by kernel_rfl) (fun _ _ _ h => h) (Or.inl ⟨by rfl, ?_⟩) ?_; rotate_left; (intro w hw; clear hw; (try go_split_ands); go_simp; try (with_reducible rfl)); simp only [Act.put, List.setIfInBounds_toArray, List.set_cons_zero, List.set_cons_succ])
              (refine Walk.take (i := 12) (oi := { dst := some 55, op := Op.indexAddr 30 (Operand.tmp 53) (Operand.tmp 54), type := 0, pos := "law.go:124", after := #[{ on := 10, ground := Ground.data }, { on := 11, ground := Ground.data }], guard := none }) (v := ?_) rfl (by kernel_rfl) (by kernel_rfl) (by kernel_rfl) (by kernel_rfl) (fun _ _ _ h => h) (Or.inl ⟨by rfl, ?_⟩) ?_; rotate_left; (intro w hw; clear hw; (try go_split_ands); go_simp; try (with_reducible rfl)); simp only [Act.put, List.setIfInBounds_toArray, List.set_cons_zero, List.set_cons_succ])
              (refine Walk.take (i := 13) (oi := { dst := some 56, op := Op.load 44 (Operand.tmp 55), type := 44, pos := "law.go:124", after := #[{ on := 12, ground := Ground.data }], guard := none }) (v := ?_) rfl (by kernel_rfl) (by kernel_rfl) (by kernel_rfl) (by kernel_rfl) (fun _ _ _ h => h) (Or.inl ⟨by rfl, ?_⟩) ?_; rotate_left; (intro w hw; have hS1 := hw.1 (by kernel_rfl); clear hw; (try dsimp only at hS1); (try go_split_ands); go_simp; try (with_reducible rfl)); simp only [Act.put, List.setIfInBounds_toArray, List.set_cons_zero, List.set_cons_succ])
              (refine Walk.take (i := 14) (oi := { dst := some 57, op := Op.move (Operand.tmp 6), type := 3, pos := "law.go:124", after := #[], guard := none }) (v := ?_) rfl (by kernel_rfl) (by kernel_rfl) (by kernel_rfl) (by kernel_rfl) (fun _ _ _ h => h) (Or.inl ⟨by rfl, ?_⟩) ?_; rotate_left; (intro w hw; clear hw; (try go_split_ands); go_simp; try (with_reducible rfl)); simp only [Act.put, List.setIfInBounds_toArray, List.set_cons_zero, List.set_cons_succ])
              (refine Walk.take (i := 15) (oi := { dst := some 58, op := Op.move (Operand.tmp 7), type := 3, pos := "law.go:124", after := #[], guard := none }) (v := ?_) rfl (by kernel_rfl) (by kernel_rfl) (by kernel_rfl) (by kernel_rfl) (fun _ _ _ h => h) (Or.inl ⟨by rfl, ?_⟩) ?_; rotate_left; (intro w hw; clear hw; (try go_split_ands); go_simp; try (with_reducible rfl)); simp only [Act.put, List.setIfInBounds_toArray, List.set_cons_zero, List.set_cons_succ])
              (refine Walk.take (i := 16) (oi := { dst := some 59, op := Op.indexAddr 44 (Operand.tmp 56) (Operand.tmp 57), type := 0, pos := "law.go:124", after := #[{ on := 13, ground := Ground.data }, { on := 14, ground := Ground.data }], guard := none }) (v := ?_) rfl (by kernel_rfl) (by kernel_rfl) (by kernel_rfl) (by kernel_rfl) (fun _ _ _ h => h) (Or.inl ⟨by rfl, ?_⟩) ?_; rotate_left; (intro w hw; clear hw; (try go_split_ands); go_simp; try (with_reducible rfl)); simp only [Act.put, List.setIfInBounds_toArray, List.set_cons_zero, List.set_cons_succ])
              (refine Walk.take (i := 17) (oi := { dst := some 60, op := Op.indexAddr 46 (Operand.tmp 59) (Operand.tmp 58), type := 0, pos := "law.go:124", after := #[{ on := 16, ground := Ground.data }, { on := 15, ground := Ground.data }], guard := none }) (v := ?_) rfl (by kernel_rfl) (by kernel_rfl) (by kernel_rfl) (by kernel_rfl) (fun _ _ _ h => h) (Or.inl ⟨by rfl, ?_⟩) ?_; rotate_left; (intro w hw; clear hw; (try go_split_ands); go_simp; try (with_reducible rfl)); simp only [Act.put, List.setIfInBounds_toArray, List.set_cons_zero, List.set_cons_succ])
              (refine Walk.take (i := 18) (oi := { dst := some 61, op := Op.load 3 (Operand.tmp 60), type := 3, pos := "law.go:124", after := #[{ on := 17, ground := Ground.data }], guard := none }) (v := ?_) rfl (by kernel_rfl) (by kernel_rfl) (by kernel_rfl) (by kernel_rfl) (fun _ _ _ h => h) (Or.inl ⟨by rfl, ?_⟩) ?_; rotate_left; (intro w hw; have hS1 := hw.1 (by kernel_rfl); clear hw; (try dsimp only at hS1); (try go_split_ands); go_simp; try (with_reducible rfl)); simp only [Act.put, List.setIfInBounds_toArray, List.set_cons_zero, List.set_cons_succ])
              (refine Walk.go (i := 9) (o := { dst := some 52, op := Op.call { callee := Callee.value (Operand.func 33), args := #[Operand.tmp 51, Operand.const (Value.pointer none)], argTypes := #[72, 107] }, type := 3, pos := "law.go:124", after := #[{ on := 8, ground := Ground.data }], guard := none }) (by kernel_rfl) rfl (fun K hK => ?_); go_simp; ((go_at_call 33; refine (tell_none _ _).mono ?_; rintro e x1 ⟨rfl, d⟩; replace bu := bu.trans d; clear d)); refine hK.out _ _ (⟨fun _ => HS _ bu, fun _ => trivial⟩) ?_; clear hK K; try simp only [Act.put, List.setIfInBounds_toArray, List.set_cons_zero, List.set_cons_succ])
              (refine Walk.take (i := 19) (oi := { dst := some 62, op := Op.binOp BinOp.neq 3 (Operand.tmp 52) (Operand.tmp 61) 3, type := 4, pos := "law.go:124", after := #[{ on := 9, ground := Ground.data }, { on := 18, ground := Ground.data }], guard := none }) (v := ?_) rfl (by kernel_rfl) (by kernel_rfl) (by kernel_rfl) (by kernel_rfl) (fun _ _ _ h => h) (Or.inl ⟨by rfl, ?_⟩) ?_; rotate_left; (intro w hw; clear hw; (try go_split_ands); go_simp; try (with_reducible rfl)); simp only [Act.put, List.setIfInBounds_toArray, List.set_cons_zero, List.set_cons_succ])
              refine Walk.done (by kernel_rfl) ?_ _
              clear HS
              go_wp2_with fail
              go_roundw
              case rel => exact ⟨j + 1, by omega, by go_num, bu⟩
              case measure => simp [intOf]; omega
            · go_wp2_with fail
              go_roundw
              case rel => exact ⟨b + 1, by omega, by go_num, hb3⟩
              case measure => simp [intOf]; omega
        · go_wp2_with fail
          go_roundw
          case rel => exact ⟨i + 1, by omega, by go_num, hb2⟩
          case measure => simp [intOf]; omega
    · go_wp2_with fail
      go_ret
      exact ⟨rfl, hb⟩

end Go.Proofs.YtppbnmlgilgnnaaDoor
