/- The table of package math/bits, at the places that are read. -/
import Derived.Test.YtppbnmlgilgnnaaDoorPl1
namespace Go.Proofs.YtppbnmlgilgnnaaDoor
open Go.ChangeShapes Go.WideShapes Go.ChangeAt Go.RowKit

/-- The table's numbers of 1, 2 and 4. -/
def Tab (W : World) : Prop := W.cell? ⟨1, 0, none⟩ = some (.int .u8 0) ∧ W.cell? ⟨1, 1, none⟩ = some (.int .u8 1) ∧ W.cell? ⟨1, 3, none⟩ = some (.int .u8 2)

theorem Tab.but {W W' : World} (h : Tab W) (hb : But Nowhere W W') : Tab W' := ⟨hb.keeps (not_nowhere _) h.1, hb.keeps (not_nowhere _) h.2.1, hb.keeps (not_nowhere _) h.2.2⟩

theorem Tab.butS {S : Nat → Prop} {W W' : World} (h : Tab W) (hb : But S W W') (hs : ¬ S 1) : Tab W' := ⟨hb.keeps hs h.1, hb.keeps hs h.2.1, hb.keeps hs h.2.2⟩

theorem Tab.lt {W : World} (h : Tab W) : 1 < W.heap.size := World.block_lt_of_cell? W _ h.1

/-- How often 2 is in 1, 2 and 4. -/
def tzF (c : Int) : Int := if c = 1 then 0 else if c = 2 then 1 else 2

set_option maxHeartbeats 1600000 in
set_option maxRecDepth 100000 in
theorem trailing64_any (c : Int) (hc : c = 1 ∨ c = 2 ∨ c = 4) (w : World) (ht : Tab w) : Calls Tryd.prog 100 #[.int .u64 c] w fun e w' => e = .returned (.int .i64 (tzF c)) ∧ w' = w := by
  obtain ⟨t0, t1, t3⟩ := ht
  have n1 : IntKind.u64.wrap (-1) = 18446744073709551615 := by decide
  have n2 : IntKind.u64.wrap (-2) = 18446744073709551614 := by decide
  have n4 : IntKind.u64.wrap (-4) = 18446744073709551612 := by decide
  have a1 : bits BinOp.and IntKind.u64 1 18446744073709551615 = 1 := by decide
  have a2 : bits BinOp.and IntKind.u64 2 18446744073709551614 = 2 := by decide
  have a4 : bits BinOp.and IntKind.u64 4 18446744073709551612 = 4 := by decide
  have p1 : IntKind.u64.wrap 285870213051353865 = 285870213051353865 := by decide
  have p2 : IntKind.u64.wrap (2 * 285870213051353865) = 571740426102707730 := by decide
  have p4 : IntKind.u64.wrap (4 * 285870213051353865) = 1143480852205415460 := by decide
  have p2' : IntKind.u64.wrap 571740426102707730 = 571740426102707730 := by decide
  have p4' : IntKind.u64.wrap 1143480852205415460 = 1143480852205415460 := by decide
  rcases hc with rfl | rfl | rfl <;>
  · go_enter Tryd.func100, Tryd.ntmps100
    go_wp2
    go_ret
    exact ⟨rfl, rfl⟩

set_option maxHeartbeats 1600000 in
set_option maxRecDepth 100000 in
theorem trailing_any (c : Int) (hc : c = 1 ∨ c = 2 ∨ c = 4) (w : World) (ht : Tab w) : Calls Tryd.prog 86 #[.int .u64 c] w fun e w' => e = .returned (.int .i64 (tzF c)) ∧ w' = w := by
  go_enter Tryd.func86, Tryd.ntmps86
  go_wp2_with (go_at_call 100; refine (trailing64_any _ hc _ ht).mono ?_; rintro e w' ⟨rfl, rfl⟩)
  go_ret
  exact ⟨rfl, rfl⟩

end Go.Proofs.YtppbnmlgilgnnaaDoor
