/- The document's SameImage, of the same images. -/
import Derived.Test.YtppbnmlgilgnnaaDoorPl12
import Derived.Laws.BytesArg
namespace Go.Proofs.YtppbnmlgilgnnaaDoor
open Go.ChangeShapes Go.WideShapes Go.ChangeAt Go.RowKit

theorem conv_view {w : World} {v : Value} {l : List Int} (hv : View w .u8 v l) (hl : l ≠ []) : (convert 24 9 v).run Tryd.prog w = .ok (.string (strOfNums l)) w := by
  obtain ⟨ao, cap, rfl, h⟩ := hv
  obtain ⟨b, off, rfl, hlt, hc⟩ := h hl
  refine run_convert_bytes_arg w 24 5 Tryd.underlying24 Tryd.underlying5 b off l.length cap l rfl (fun i hi => ?_) _ Tryd.underlying9
  rw [hc i hi]
  simp [List.getD, List.getElem?_eq_getElem hi]

set_option maxHeartbeats 1600000 in
set_option maxRecDepth 100000 in
theorem sameImage_yes (W H : Int) (r : Bool) (v v' : Value) (l : List Int) (w : World) (hv : View w .u8 v l) (hv' : View w .u8 v' l) (hl : l ≠ []) : Calls Tryd.prog 19 #[imV W H r v, imV W H r v'] w fun e w' => e = .returned (.bool true) ∧ But Nowhere w w' := by
  obtain ⟨vo, vc, rfl⟩ := hv.slice
  obtain ⟨vo', vc', rfl⟩ := hv'.slice
  have kk := ((Keep.start w).made 26 (imC W H r (.slice vo l.length vc))).made 26 (imC W H r (.slice vo' l.length vc'))
  simp only [World.size_alloc] at kk
  have k1 := conv_view (hv.but kk.but) hl
  have k2 := conv_view (hv'.but kk.but) hl
  have HB : Hid _ := kk.but
  clear kk
  go_enter Tryd.func19, Tryd.ntmps19
  go_wp2_with fail
  go_ret
  exact ⟨by simp, HB.out⟩

end Go.Proofs.YtppbnmlgilgnnaaDoor
