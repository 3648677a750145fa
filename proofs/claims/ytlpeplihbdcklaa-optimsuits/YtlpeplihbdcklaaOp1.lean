/- What the document's weights of layer 11 are. -/
import Derived.Test.YtlpeplihbdcklaaLst
import Derived.Test.YtlpeplihbdcklaaBlk64
import Derived.Test.YtlpeplihbdcklaaOpLaw2
namespace Go.Proofs.Ytlpeplihbdcklaa
set_option linter.unusedVariables false
open Go.ChangeShapes Go.WideShapes Go.ChangeAt Go.RowKit

theorem Try.elemI : ElemInfo Try.prog 22 3 (.int .i64 0) 1 8 := ⟨Try.underlying22, by kernel_rfl, rfl, by omega⟩

/-- How often one counts. -/
def clipW (x : Int) : Int := if x < 0 then 0 else if 1048576 < x then 1048576 else x
theorem clipW_bd (x : Int) : 0 ≤ clipW x ∧ clipW x ≤ 1048576 := by unfold clipW; split <;> (try split) <;> omega

/-- Weights of all 257. -/
def wtF (l : List Int) (i : Nat) : Int := if i = 256 then 1 else clipW (l.getD i 0)
theorem wtF_bd (l : List Int) (i : Nat) : 0 ≤ wtF l i ∧ wtF l i ≤ 1048576 := by
  unfold wtF
  split
  · omega
  · exact clipW_bd _
theorem wtF_wt (l : List Int) : Wt (wtF l) := ⟨fun i _ => (wtF_bd l i).1, if_pos rfl⟩
theorem wtF_at (l : List Int) (i : Nat) (hi : i < l.length) (h : i < 256) : wtF l i = clipW l[i] := by
  unfold wtF
  rw [if_neg (by omega), List.getD_eq_getElem?_getD, List.getElem?_eq_getElem hi]
  rfl
theorem wtF_out (l : List Int) (i : Nat) (hi : l.length ≤ i) (h : i < 256) : wtF l i = 0 := by
  unfold wtF
  rw [if_neg (by omega), List.getD_eq_getElem?_getD, List.getElem?_eq_none hi]
  rfl

theorem wt_start (f : Nat → Int) : tab .i64 257 (fun j => if j < 0 then f j else 0) = tab .i64 257 (fun _ => 0) := tab_congr _ _ _ _ (fun j hj => if_neg (by omega))
/-- Two hundred and fifty-seven noughts. -/
theorem make257 (W : World) : (Instr.makeSlice 22 (.int .i64 257) (.int .i64 257)).run Try.prog W = .ok (.slice (some ⟨W.heap.size, 0, none⟩) 257 257) (W.alloc (.cells (tab .i64 257 (fun _ => 0)).toArray 3)) := by
  rw [← tab_zero]
  exact make_any Try.elemI 257 (.int .i64 0) (by intro j hj; have : j = 0 := (by omega); subst this; rfl) (by omega) (by omega) W
theorem wt_set (f : Nat → Int) (k : Nat) : (tab .i64 257 (fun j => if j < k then f j else 0)).set k (.int .i64 (f k)) = tab .i64 257 (fun j => if j < k + 1 then f j else 0) := tab_grow .i64 257 f (fun _ => 0) k
/-- What is not written is nought but the last. -/
theorem wt_last (l : List Int) (k : Nat) (hk : k ≤ 256) (h : k = 256 ∨ l.length ≤ k) : (tab .i64 257 (fun j => if j < k then wtF l j else 0)).set 256 (.int .i64 1) = tab .i64 257 (wtF l) := by
  rw [tab_set]
  refine tab_congr _ _ _ _ (fun j hj => ?_)
  unfold upd
  by_cases e : j = 256
  · subst e; rw [if_pos rfl]; exact (if_pos rfl).symm
  · rw [if_neg e]
    by_cases q : j < k
    · exact if_pos q
    · rw [wtF_out l j (by omega) (by omega)]; exact if_neg q

set_option maxHeartbeats 1600000 in
set_option maxRecDepth 100000 in
theorem refWeights_any (pv : Value) (l : List Int) (hI : ∀ x ∈ l, I64 x) (hl : l.length ≤ 140737488355328) (w : World) (hv : View w .i64 pv l) : Calls Try.prog 36 #[pv] w fun e w' => ∃ g, e = .returned (.slice (some ⟨g, 0, none⟩) 257 257) ∧ Keep w w' [(g, 3, tab .i64 257 (wtF l))] := by
  obtain ⟨ao, cap, rfl⟩ := hv.slice
  have HV : Hid (View w .i64 (.slice ao l.length cap) l) := hv
  clear hv
  have hm := make257
  have kk := (Keep.start w).made 3 (tab .i64 257 (fun _ => 0))
  have hl0 : (0 : Int) ≤ (l.length : Int) := by omega
  go_enter Try.func36, Try.ntmps36
  go_wp2_with fail
  clear hm
  revert kk
  generalize (w.alloc (.cells (tab .i64 257 (fun _ => 0)).toArray 3)) = W1
  generalize w.heap.size = g
  intro kk
  go_loopw [4] (fun i V => ∃ k : Nat, k ≤ 256 ∧ (k = 0 ∨ k ≤ l.length) ∧ i = .int .i64 k ∧ Keep w V [(g, 3, tab .i64 257 (fun j => if j < k then wtF l j else 0))]) (fun i _ => 256 - (intOf i).toNat)
  case atStart => exact ⟨0, Nat.zero_le _, .inl rfl, rfl, by rw [wt_start]; exact kk⟩
  case round =>
    clear kk
    obtain ⟨k, hk, hkl, rfl, kk⟩ := hrel
    by_cases hlt : k < 256
    · by_cases hin : k < l.length
      · have i0 : (0 : Int) ≤ (k : Int) := by omega
        have i1 : (k : Int) < 256 := by omega
        have i2 : (k : Int) < (l.length : Int) := by omega
        have kX := kk.set k (.int .i64 (wtF l k))
        rw [wt_set] at kX
        have HX : Hid _ := kX
        have q0 := kk.head.cell k (by omega)
        rw [if_neg (by omega)] at q0
        have f0 := kk.head.frozen k
        obtain ⟨-, b, off, rfl, hbl, hc⟩ := (HV.out.but kk.but).at k hin
        clear kX kk
        have hw := wtF_at l k hin hlt
        have hw2 := wtF_bd l k
        generalize wtF l k = x at *
        generalize l[k] = y at *
        unfold clipW at hw
        go_wp2_with fail
        rw [show (if 0 < if 1048576 < y then (1048576 : Int) else y then if 1048576 < y then (1048576 : Int) else y else 0) = x by rw [hw]; split <;> split <;> (try split) <;> omega]
        go_roundw
        case rel => exact ⟨k + 1, by omega, .inr (by omega), by go_num, HX.out⟩
        case measure => simp [intOf]; omega
      · have i0 : (0 : Int) ≤ (k : Int) := by omega
        have i1 : (k : Int) < 256 := by omega
        have i2 : ¬ (k : Int) < (l.length : Int) := by omega
        have kX := kk.set 256 (.int .i64 1)
        rw [wt_last l k hk (.inr (by omega))] at kX
        have HX : Hid _ := kX
        have q0 := kk.head.cell 256 (by omega)
        have f0 := kk.head.frozen 256
        clear kX kk
        go_wp2_with fail
        go_ret
        exact ⟨_, rfl, HX.out⟩
    · obtain rfl : k = 256 := by omega
      have kX := kk.set 256 (.int .i64 1)
      rw [wt_last l 256 (by omega) (.inl rfl)] at kX
      have HX : Hid _ := kX
      have q0 := kk.head.cell 256 (by omega)
      have f0 := kk.head.frozen 256
      clear kX kk
      go_wp2_with fail
      go_ret
      exact ⟨_, rfl, HX.out⟩

end Go.Proofs.Ytlpeplihbdcklaa
