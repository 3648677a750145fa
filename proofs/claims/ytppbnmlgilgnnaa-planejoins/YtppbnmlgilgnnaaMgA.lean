import Derived.Test.YtppbnmlgilgnnaaPlArg
import Derived.Test.YtppbnmlgilgnnaaBa
import Derived.OpenShut
import Derived.Test.YtppbnmlgilgnnaaPl12
import Derived.Laws.BytesArg

/- Lists of lists of blocks as they come in. -/
namespace Go.Proofs.Ytppbnmlgilgnnaa
open Go.ChangeShapes Go.WideShapes Go.ChangeAt Go.RowKit Go.Deep
set_option maxRecDepth 100000

theorem Try.cellsB64 : Try.prog.cellsOf 53 = 64 := by kernel_rfl
theorem Try.cellsLB : Try.prog.cellsOf 51 = 1 := by kernel_rfl


set_option maxHeartbeats 1600000 in
/-- One block's numbers. -/
theorem open_block {H : Type} {enc : TypeId × Value → H} {W : World} {fuel : Nat} {a : Addr} {cs : List Value} {x : DataW H × List MemPlace} (hc : W.cells? 0 a 64 = some cs)
    (hf : DataW.trod enc Try.prog W 0 (fun _ => true) true fuel 53 cs = some x) : ∃ f : Nat → Int, ∀ j, j < 64 → W.cell? (a.add j) = some (.int .i64 (f j)) := by
  obtain ⟨xs, m, -, -, hl, hxl, hel⟩ := DataW.trod_array Try.underlying53 hf
  rw [Try.cellsB64] at hl
  obtain ⟨-, -, hcell⟩ := World.cells?_some hc
  refine (choose_lt (α := Int) (p := fun j v => W.cell? (a.add j) = some (.int .i64 v)) fun j hj => ?_)
  have hE := hel j hj
  rw [Try.cellsI, Nat.mul_one, List.getElem?_eq_getElem (by omega)] at hE
  obtain ⟨z, e1, -, -⟩ := DataW.trod_int Try.underlying3 hE
  refine ⟨z, ?_⟩
  rw [hcell j hj]
  have h0 : ((cs.drop j).take 1)[0]? = some (.int .i64 z) := by rw [e1]; rfl
  simpa using h0

set_option maxHeartbeats 1600000 in
/-- One list of blocks. -/
theorem open_row {H : Type} {enc : TypeId × Value → H} {W : World} {fuel : Nat} {u : Value} {x : DataW H × List MemPlace}
    (hf : DataW.trod enc Try.prog W 0 (fun _ => true) true fuel 51 [u] = some x) : ∃ n f, RowAt W u n f := by
  rcases open_slice Try.underlying51 hf with ⟨hc, hx⟩ | ⟨a, len, cap, m, n, D, Pl, hc, _, hl, hm, hmm, hx, hall⟩
  · simp only [List.cons.injEq, and_true] at hc
    subst hc
    exact ⟨0, fun _ => 0, none, 0, rfl, fun h => absurd h (by omega)⟩
  · simp only [List.cons.injEq, and_true] at hc
    subst hc
    simp only [if_true] at hmm
    subst hmm
    rw [Try.cellsB64] at hall
    obtain ⟨f, hf⟩ := choose_lt (α := Nat → Int) (n := len) (p := fun i f => ∀ j, j < 64 → W.cell? ((a.add (i * 64)).add j) = some (.int .i64 (f j))) fun i hi => by
      obtain ⟨cs, h1, h2⟩ := hall i (by omega)
      exact open_block h1 h2
    refine ⟨len, fun j => f (j / 64) (j % 64), some a, m, rfl, fun hpos => ?_⟩
    obtain ⟨b, off, spot⟩ := a
    have hspot : spot = none := by
      have := hf 0 hpos 0 (by omega)
      simpa [Addr.add] using World.cell?_spot this
    subst hspot
    refine ⟨b, off, rfl, fun j hj => ?_⟩
    have h1 := hf (j / 64) (by omega) (j % 64) (by omega)
    rw [Addr.add_lit, Addr.add_lit] at h1
    rw [← h1]
    congr 2
    omega

set_option maxHeartbeats 1600000 in
theorem open_blocks {H : Type} {enc : TypeId × Value → H} {W : World} {base : Nat} {v : Value} {d : DataW H} {p : List MemPlace} (hval : Value.okWide Try.prog W .any base 29 v)
    (h : DataW.Trod enc Try.prog W 0 (fun _ => true) true 29 v d p) : ∃ N L F, BA W v N L F := by
  obtain ⟨a0, len0, cap0, rfl⟩ := okWide_slice Try.underlying29 hval
  obtain ⟨fuel, hf⟩ := h
  rcases open_slice1 Try.underlying29 Try.cellsLB hf with ⟨hc, hx⟩ | ⟨a, len, cap, m, n, V0, D0, P0, hc, _, hl, hm, hmm, hx, hall⟩
  · simp [Value.cells] at hc
    obtain ⟨rfl, rfl, rfl⟩ := hc
    exact ⟨0, fun _ => 0, fun _ _ => 0, BA.empty _ _ _⟩
  · simp [Value.cells] at hc
    obtain ⟨rfl, rfl, rfl⟩ := hc
    simp only [if_true] at hmm
    subst hmm
    obtain ⟨g, hg⟩ := choose_lt (α := Nat × (Nat → Int)) (n := len0) (p := fun i q => RowAt W (V0 i) q.1 q.2) fun i hi => by
      obtain ⟨n, f, hr⟩ := open_row (hall i (by omega)).2
      exact ⟨(n, f), hr⟩
    refine ⟨len0, fun i => (g i).1, fun i => (g i).2, some a, m, rfl, fun hpos => ?_⟩
    obtain ⟨b, off, spot⟩ := a
    have hspot : spot = none := by simpa [Addr.add] using World.cell?_spot (hall 0 (by omega)).1
    subst hspot
    refine ⟨b, off, rfl, fun i hi => ⟨V0 i, ?_, hg i hi⟩⟩
    have c0 := (hall i (by omega)).1
    rw [Addr.add_lit] at c0
    exact c0

end Go.Proofs.Ytppbnmlgilgnnaa

/- The law's own images: Public, Image. -/
namespace Go.Proofs.Ytppbnmlgilgnnaa
open Go.ChangeShapes Go.WideShapes Go.ChangeAt Go.RowKit

theorem byteIn (x : Int) : 0 ≤ IntKind.u8.wrap x ∧ IntKind.u8.wrap x ≤ 255 := by rw [IntKind.wrap_u8]; omega

set_option maxHeartbeats 1600000 in
theorem public_any (a b k : Int) (ha : 0 ≤ a ∧ a ≤ 255) (hb : 0 ≤ b ∧ b ≤ 255) (hk : 0 ≤ k ∧ k ≤ 255) (w : World) : Calls Try.prog 9 #[.int .u8 a, .int .u8 b, .int .u8 k] w fun e w' =>
    e = .returned (pV (1 + a % 40) (1 + b % 24) (1 + k % 4) 50 1 0) ∧ But Nowhere w w' := by
  have hu := Try.underlying23
  have e1 : a.tmod 40 = a % 40 := Int.tmod_eq_emod_of_nonneg ha.1
  have e2 : b.tmod 24 = b % 24 := Int.tmod_eq_emod_of_nonneg hb.1
  have e3 : k.tmod 4 = k % 4 := Int.tmod_eq_emod_of_nonneg hk.1
  have f1 : wrap64 (a % 40) = a % 40 := w64 _ (by omega)
  have f2 : wrap64 (b % 24) = b % 24 := w64 _ (by omega)
  have f3 : wrap64 (k % 4) = k % 4 := w64 _ (by omega)
  have g1 : wrap64 (1 + a % 40) = 1 + a % 40 := w64 _ (by omega)
  have g2 : wrap64 (1 + b % 24) = 1 + b % 24 := w64 _ (by omega)
  have g3 : wrap64 (1 + k % 4) = 1 + k % 4 := w64 _ (by omega)
  go_enter Try.func9, Try.ntmps9
  go_wp2
  exact bodyPost_ret (results_cells rfl (Cells.new w 23 (pC (1 + a % 40) (1 + b % 24) (1 + k % 4) 50 1 0)) hu rfl (by kernel_rfl) _ rfl) rfl ⟨rfl, (But.refl _ _).alloc _⟩

end Go.Proofs.Ytppbnmlgilgnnaa

/- The document's SameImage, of the same images. -/
namespace Go.Proofs.Ytppbnmlgilgnnaa
open Go.ChangeShapes Go.WideShapes Go.ChangeAt Go.RowKit

theorem conv_view {w : World} {v : Value} {l : List Int} (hv : View w .u8 v l) (hl : l ≠ []) : (convert 30 9 v).run Try.prog w = .ok (.string (strOfNums l)) w := by
  obtain ⟨ao, cap, rfl, h⟩ := hv
  obtain ⟨b, off, rfl, hlt, hc⟩ := h hl
  refine run_convert_bytes_arg w 30 5 Try.underlying30 Try.underlying5 b off l.length cap l rfl (fun i hi => ?_) _ Try.underlying9
  rw [hc i hi]
  simp [List.getD, List.getElem?_eq_getElem hi]

set_option maxHeartbeats 1600000 in
set_option maxRecDepth 100000 in
theorem sameImage_yes (W H : Int) (r : Bool) (v v' : Value) (l : List Int) (w : World) (hv : View w .u8 v l) (hv' : View w .u8 v' l) (hl : l ≠ []) : Calls Try.prog 15 #[imV W H r v, imV W H r v'] w fun e w' => e = .returned (.bool true) ∧ But Nowhere w w' := by
  obtain ⟨vo, vc, rfl⟩ := hv.slice
  obtain ⟨vo', vc', rfl⟩ := hv'.slice
  have kk := ((Keep.start w).made 34 (imC W H r (.slice vo l.length vc))).made 34 (imC W H r (.slice vo' l.length vc'))
  simp only [World.size_alloc] at kk
  have k1 := conv_view (hv.but kk.but) hl
  have k2 := conv_view (hv'.but kk.but) hl
  have HB : Hid _ := kk.but
  clear kk
  go_enter Try.func15, Try.ntmps15
  go_wp2_with fail
  go_ret
  exact ⟨by simp, HB.out⟩

end Go.Proofs.Ytppbnmlgilgnnaa

/- The document's SameImage of any two images that hold the same words. -/
namespace Go.Proofs.Ytppbnmlgilgnnaa
open Go.ChangeShapes Go.WideShapes Go.ChangeAt Go.RowKit

theorem conv_all {w : World} {v : Value} {l : List Int} (hv : View w .u8 v l) : (convert 30 9 v).run Try.prog w = .ok (.string (strOfNums l)) w := by
  by_cases hl : l = []
  · subst hl
    obtain ⟨ao, cap, rfl, -⟩ := hv
    cases ao with
    | none =>
      rw [run_convert_bytes_nil w 30 5 Try.underlying30 Try.underlying5 _ _ _ Try.underlying9]
      rfl
    | some a =>
      have hl0 : (loadCells a 0).run Try.prog w = .ok (([] : List Int).map (Value.int .u8)).toArray w := by
        have := run_loadCells_list (P := Try.prog) w a [] (fun j v hj => by simp at hj)
        simpa using this
      rw [List.length_nil, run_convert_bytes_string w 30 9 5 _ 0 cap Try.underlying30 Try.underlying5 Try.underlying9, run_bytesToString w _ 0 cap [] hl0]
      rfl
  · exact conv_view hv hl

set_option maxHeartbeats 1600000 in
set_option maxRecDepth 100000 in
theorem sameImage_all (W H : Int) (r : Bool) (v v' : Value) (l : List Int) (w : World) (hv : View w .u8 v l) (hv' : View w .u8 v' l) : Calls Try.prog 15 #[imV W H r v, imV W H r v'] w fun e w' => e = .returned (.bool true) ∧ But Nowhere w w' := by
  obtain ⟨vo, vc, rfl⟩ := hv.slice
  obtain ⟨vo', vc', rfl⟩ := hv'.slice
  have kk := ((Keep.start w).made 34 (imC W H r (.slice vo l.length vc))).made 34 (imC W H r (.slice vo' l.length vc'))
  simp only [World.size_alloc] at kk
  have k1 := conv_all (hv.but kk.but)
  have k2 := conv_all (hv'.but kk.but)
  have HB : Hid _ := kk.but
  clear kk
  go_enter Try.func15, Try.ntmps15
  go_wp2_with fail
  go_ret
  exact ⟨by simp, HB.out⟩

end Go.Proofs.Ytppbnmlgilgnnaa
