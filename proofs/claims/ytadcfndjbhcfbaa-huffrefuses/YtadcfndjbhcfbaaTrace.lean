/- What each call of package trace does with a recorder that is there, and with one that is nil. -/
import Derived.Test.YtadcfndjbhcfbaaRows
import Derived.Test.YtadcfndjbhcfbaaMem
import Derived.WalkKit
import Derived.ProofKit
import Derived.OpenShut
import Derived.OwnWalk
import Derived.Laws.Pointers
import Derived.Deep.RegionHeld3
import Derived.Deep.AppendLies
import Derived.Deep.RegionLaw
namespace Go.Proofs.Ytadcfndjbhcfbaa
open Go.ChangeShapes Go.WideShapes Go.ChangeAt Go.RowKit

theorem Try.infoEv : (Try.prog.info? 76).map (fun i => (i.zero, i.size, i.bytes)) = some (some (.agg #[.int .i64 0, .int .i64 0]), 2, 16) := by kernel_rfl

set_option maxHeartbeats 400000 in
theorem layer_some (b : Nat) (w : World) : Calls Try.prog 45 #[.pointer (some ⟨b, 0, none⟩)] w fun e w' => e = .returned (.func (.func 49) #[.pointer (some ⟨b, 0, none⟩)] #[]) ∧ w' = w := by
  go_enter Try.func45, Try.ntmps45
  go_wp2
  go_ret
  exact ⟨rfl, rfl⟩

set_option maxHeartbeats 400000 in
theorem layer_none (w : World) : Calls Try.prog 45 #[.pointer none] w fun e w' => e = .returned (.func (.func 48) #[] #[]) ∧ w' = w := by
  go_enter Try.func45, Try.ntmps45
  go_wp2
  go_ret
  exact ⟨rfl, rfl⟩

set_option maxHeartbeats 400000 in
theorem idle_any (k n : Int) (w : World) : Calls Try.prog 48 #[.agg #[.int .i64 k, .int .i64 n]] w fun e w' => e = .returned (.tuple #[]) ∧ But Nowhere w w' := by
  go_enter Try.func48, Try.ntmps48
  go_wp2
  go_end0
  exact ⟨rfl, (But.refl _ _).alloc _⟩

set_option maxHeartbeats 800000 in
set_option maxRecDepth 100000 in
theorem lay_some (b : Nat) (v : Value) (es : List Ev) (k n : Int) (w : World) (h : Rec w b v es) (hl : es.length ≤ 1000000) : Calls Try.prog 49 #[.pointer (some ⟨b, 0, none⟩), .agg #[.int .i64 k, .int .i64 n]] w
    fun e w' => e = .returned (.tuple #[]) ∧ Laid w w' b v (es ++ [(k, n)]) := by
  obtain ⟨i0, hi0, hz0, hz1, hz2⟩ := info_parts Try.infoEv
  have hc := h.cell
  have hf := h.frozen
  have hlt := h.lt
  have hn1 : es.length + 1 ≤ maxLen := by unfold maxLen; omega
  have hap := h.apart
  have hown := h.evs
  have hnb := World.new_ne w ⟨b, 0, none⟩ hc
  have hblk := heap_alloc_new (w.alloc (.cells #[.int .i64 k, .int .i64 n] 76)) (.cells #[.int .i64 k, .int .i64 n] 76)
  rw [show (w.alloc (.cells #[.int .i64 k, .int .i64 n] 76)).heap.size = w.heap.size + 1 by simp] at hblk
  have hf1 : ∀ o : Obj, (w.alloc o).frozen? ⟨b, 0, none⟩ = false := fun o => (World.frozen?_alloc_past _ _ _ hlt).trans hf
  have hf2 : ∀ o o' : Obj, ((w.alloc o).alloc o').frozen? ⟨b, 0, none⟩ = false := fun o o' => (World.frozen?_alloc_past _ _ _ (by simp; omega)).trans (hf1 o)
  have Hblk : Hid _ := hblk
  clear hblk
  go_enter Try.func49, Try.ntmps49
  go_wp2_with fail
  go_region_law
    ((refine step_append_lies _ (by rfl) _ _ _ (by rfl) 0 76 i0 _ 2 16 Try.underlying80 hi0 hz0 hz1 hz2 rfl (by omega) v es.length (evCells es) (by rfl) (((hown.alloc _).alloc _).drew)
        ⟨w.heap.size + 1, 0, none⟩ 1 1 [.int .i64 k, .int .i64 n] (by rfl) (by rfl) (World.news_of_block (cs := #[.int .i64 k, .int .i64 n]) (t := 76) (fr := (0, 0)) (by exact Hblk.out)) (by simp [Value.oneCell'])
        (by omega) hn1 (by omega) (by simp) (w.heap.size + 2) (by simp) ?_; intro gg cap w1 hown1 hgrow hat hlt1; have hcw := (hgrow.cell_far ⟨b, 0, none⟩ (by simp; omega) (Ne.symm hap)); have hfw := (hgrow.frozen_far ⟨b, 0, none⟩ (by simp; omega) (Ne.symm hap))))
  all_goals
    go_end0
    exact ⟨rfl, h.laid hown1 hgrow hat⟩

set_option maxHeartbeats 400000 in
theorem open_some (b : Nat) (v : Value) (es : List Ev) (w : World) (h : Rec w b v es) (hl : es.length ≤ 1000000) : Calls Try.prog 35 #[.pointer (some ⟨b, 0, none⟩)] w
    fun e w' => e = .returned (.tuple #[]) ∧ Laid w w' b v (es ++ [(3, 0)]) := by
  go_enter Try.func35, Try.ntmps35
  go_wp2_with (first | (go_at_call 45; refine (layer_some _ _).mono ?_; rintro e w' ⟨rfl, rfl⟩) | (go_at_call 49; refine (lay_some b v es _ _ _ h hl).mono ?_; rintro e w' ⟨rfl, hq⟩))
  go_end0
  exact ⟨rfl, hq⟩

set_option maxHeartbeats 400000 in
theorem open_none (w : World) : Calls Try.prog 35 #[.pointer none] w fun e w' => e = .returned (.tuple #[]) ∧ But Nowhere w w' := by
  go_enter Try.func35, Try.ntmps35
  go_wp2_with (first | (go_at_call 45; refine (layer_none _).mono ?_; rintro e w' ⟨rfl, rfl⟩) | (go_at_call 48; refine (idle_any _ _ _).mono ?_; rintro e w' ⟨rfl, hq⟩))
  go_end0
  exact ⟨rfl, hq⟩
end Go.Proofs.Ytadcfndjbhcfbaa
