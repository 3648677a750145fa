/- What the document's Same of layer 10 answers of two tables of the same numbers. -/
import Derived.Test.YtadcfndjbhcfbaaHuArg
import Derived.Laws.BytesString
import Derived.Laws.Cells
namespace Go.Proofs.Ytadcfndjbhcfbaa
set_option linter.unusedVariables false
open Go.ChangeShapes Go.WideShapes Go.ChangeAt Go.RowKit

/-- The text of these bytes. -/
def strOf (l : List Int) : ByteArray := l.foldl (fun r n => r.push (UInt8.ofNat n.toNat)) ByteArray.empty

theorem conv_bytes (W : World) (v : Value) (l : List Int) (hne : l ≠ []) (h : View W .u8 v l) : (convert 23 9 v).run Try.prog W = .ok (.string (strOf l)) W := by
  obtain ⟨ao, cap, rfl, h⟩ := h
  obtain ⟨b, off, rfl, hb, hc⟩ := h hne
  rw [run_convert_bytes_string W 23 9 5 _ _ _ Try.underlying23 Try.underlying5 Try.underlying9]
  refine run_bytesToString W _ _ _ l ?_
  have := run_loadCells_list (P := Try.prog) (w := W) ⟨b, off, none⟩ (ints .u8 l) (fun j v hj => by
    have hj' : j < l.length := by
      have := (List.getElem?_eq_some_iff.1 hj).1
      rwa [ints_length] at this
    rw [ints_at _ _ _ hj'] at hj
    rw [Addr.add_lit, hc j hj', ← hj])
  rw [ints_length] at this
  exact this

theorem equal_sixteen (f : Nat → Int) (w : World) : (Op.equalIn 10000 22 (.agg (tab .i64 16 f).toArray) (.agg (tab .i64 16 f).toArray)).run Try.prog w = .ok true w := by
  have h := run_equalIn_nums w 9998 22 3 16 Try.underlying22 Try.underlying3 sizeOf_int ((List.range 16).map f) ((List.range 16).map f) (by simp) (by simp)
  rw [beq_self_eq_true, ← nums_tab] at h
  exact h

theorem tbl_range {W : World} {b : Nat} {t : TypeId} {c : Nat → Int} {pv : Value} (h : Cells W b t (tbl c pv)) : W.rangeAt b 0 (tab .i64 16 c) := fun j v hv => by
  have hj : j < 16 := by have := (List.getElem?_eq_some_iff.1 hv).1; rwa [tab_length] at this
  rw [tab_at _ _ _ _ hj] at hv
  rw [Nat.zero_add, h.cnt j hj, ← hv]

set_option maxHeartbeats 3200000 in
set_option maxRecDepth 100000 in
theorem refSame_yes (c : Nat → Int) (pv pv' : Value) (l : List Int) (hne : l ≠ []) (w : World) (hv : View w .u8 pv l) (hv' : View w .u8 pv' l) : Calls Try.prog 13 #[.agg (tbl c pv).toArray, .agg (tbl c pv').toArray] w fun e w' => e = .returned (.bool true) ∧ But Nowhere w w' := by
  have hu := Try.underlying22
  have hi : (Try.prog.info? 22).map (·.size) = some (tab .i64 16 c).length := by rw [tab_length]; kernel_rfl
  have kk := ((Keep.start w).made 25 (tbl c pv)).made 25 (tbl c pv')
  simp only [World.size_alloc] at kk
  have hE : ∀ V, (Op.equalIn 10000 22 (.agg (tab .i64 16 c).toArray) (.agg (tab .i64 16 c).toArray)).run Try.prog V = .ok true V := equal_sixteen c
  have c1 := conv_bytes _ pv l hne (hv.but kk.but)
  have c2 := conv_bytes _ pv' l hne (hv'.but kk.but)
  have t1 := (kk.get (b := w.heap.size) (t := 25) (c := tbl c pv) (by simp)).vals
  have t2 := (kk.get (b := w.heap.size + 1) (t := 25) (c := tbl c pv') (by simp)).vals
  have r1 := tbl_range (kk.get (b := w.heap.size) (t := 25) (c := tbl c pv) (by simp))
  have r2 := tbl_range (kk.get (b := w.heap.size + 1) (t := 25) (c := tbl c pv') (by simp))
  have HB : Hid _ := kk.but
  clear hv hv' kk
  go_enter Try.func13, Try.ntmps13
  go_wp2_with (first | (refine wpList_load_mid rfl 22 (.tmp 5) rfl (w.heap.size) 0 rfl (tab .i64 16 c) _ ?_ hu rfl hi ?_; exact r1) | (refine wpList_load_mid rfl 22 (.tmp 7) rfl (w.heap.size + 1) 0 rfl (tab .i64 16 c) _ ?_ hu rfl hi ?_; exact r2))
  go_ret
  exact ⟨rfl, HB.out⟩

end Go.Proofs.Ytadcfndjbhcfbaa
