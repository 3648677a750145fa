import Derived.Test.YtlpeplihbdcklaaMgA
import Derived.Test.YtlpeplihbdcklaaMgB
import Derived.Test.YtlpeplihbdcklaaMgE
import Derived.BigFrame
import Derived.Test.YtlpeplihbdcklaaMgHa
import Derived.Test.YtlpeplihbdcklaaMgHb
import Derived.Test.YtlpeplihbdcklaaView
import Derived.Deep.SlicePairs

/- What the laws of layer 11 share: the chapter's example; at. -/
namespace Go.Proofs.Ytlpeplihbdcklaa
set_option linter.unusedVariables false
open Go.ChangeShapes Go.WideShapes Go.ChangeAt Go.RowKit

/-- A new table. -/
theorem newTbl (y : World) (c : Nat → Int) (pv : Value) : Cells ((y.alloc (.cells (tbl (fun _ => 0) (.slice none 0 0)).toArray 30)).setCells y.heap.size 0 (tbl c pv)) y.heap.size 30 (tbl c pv) ∧ But Nowhere y ((y.alloc (.cells (tbl (fun _ => 0) (.slice none 0 0)).toArray 30)).setCells y.heap.size 0 (tbl c pv)) :=
  ⟨(Cells.new y 30 (tbl (fun _ => 0) (.slice none 0 0))).layTab, ((But.refl _ _).alloc _).setCells _ (fun q => by omega) 0⟩
theorem newTbl_there (y : World) (c : Nat → Int) (pv : Value) : (y.alloc (.cells (tbl (fun _ => 0) (.slice none 0 0)).toArray 30)).there y.heap.size 0 (tbl c pv).toArray.size :=
  (Cells.new y 30 (tbl (fun _ => 0) (.slice none 0 0))).there 0 _ (by rw [List.size_toArray, tbl_length, tbl_length]; omega)
theorem infoT (c : Nat → Int) (pv : Value) : (Try.prog.info? 30).map (·.size) = some (tbl c pv).length := by rw [tbl_length]; kernel_rfl
theorem infoTB (c : Nat → Int) (pv : Value) : (Try.prog.info? 30).map (·.size) = some (tbl c pv).toArray.size := by rw [List.size_toArray, tbl_length]; kernel_rfl

/-- A load that a guard lets through. -/
theorem wpList_load_want {P : Program} {ops : Array Oper} {rest : List Oper} {op : Oper} {a : Act} {w : World} {Q : Exit → Act → World → Prop} (hw : Region.wanted op (yielded ops a.tmps) = true) (ty : TypeId) (x : Operand) (ho : op.op = .load ty x)
    (b o : Nat) (hx : a.eval x = .pointer (some ⟨b, o, none⟩)) (cs : List Value) (d : TypeDesc) (hc : w.rangeAt b o cs)
    (hu : P.underlying ty = some d) (hd : d.isRow = true) (hi : (P.info? ty).map (·.size) = some cs.length)
    (h : wpList P ops Q rest (a.put op.dst (.agg cs.toArray)) w) : wpList P ops Q (op :: rest) a w :=
  BigFrame.wpList_want hw fun _ hK => wp_load_mid ty x ho b o hx cs d hc hu hd hi (hK _ _ h)

theorem view_pair (y : World) : View (y.alloc (.cells #[.int .i64 5, .int .i64 1] 3)) .i64 (.slice (some ⟨y.heap.size, 0, none⟩) 2 2) [5, 1] := by
  have h := Cells.new y 3 [.int .i64 5, .int .i64 1]
  refine ⟨some ⟨y.heap.size, 0, none⟩, 2, rfl, fun _ => ⟨y.heap.size, 0, rfl, h.lt, fun i hi => ?_⟩⟩
  have hi' : i < 2 := hi
  rcases (show i = 0 ∨ i = 1 by omega) with rfl | rfl
  · exact h.at 0
  · exact h.at 1

set_option maxHeartbeats 3200000 in
set_option maxRecDepth 100000 in
theorem known_any (w : World) : Calls Try.prog 8 #[] w fun e w' => e = .returned (.bool true) ∧ But Nowhere w w' := by
  have huT := Try.underlying30
  have hzT := zeroTbl
  have hA2 : Try.prog.arrayLen 28 = 16 := by kernel_rfl
  have hI51 : ∀ x ∈ ([5, 1] : List Int), I64 x := by intro x hx; simp at hx; rcases hx with rfl | rfl <;> decide
  go_enter Try.func8, Try.ntmps8
  go_upto_region 2 with (first
    | (go_at_call 11; refine (best_any (some ⟨w.heap.size, 0, none⟩) 2 [5, 1] hI51 (by simp) (by simp) _ (view_pair w)).mono ?_; rintro e y ⟨pv, rfl, hv, dy⟩; rw [sizesK, tabVK] at hv; obtain ⟨po, pc, rfl⟩ := hv.slice; rw [sizesK, show tbl (tabC zK) (.slice po ([0, 1] : List Int).length pc) = tbl cK (.slice po 2 pc) from (by unfold tbl; rw [tab_congr _ _ _ _ (fun j hj => tabCK j hj)]; rfl)])
    | (refine wpList_store_mid rfl 30 (.tmp 1) (.tmp 3) rfl y.heap.size 0 (tbl cK (.slice po 2 pc)).toArray rfl rfl ?_ (infoTB _ _) (tbl_all _ _ _ _) ?_; exact newTbl_there y cK (.slice po 2 pc)))
  obtain ⟨nc, nb⟩ := newTbl y cK (.slice po 2 pc)
  have HB : Hid (But Nowhere w y) := ((But.refl _ _).alloc _).trans dy
  have hv2 := hv.but nb
  clear hv dy
  revert nc nb hv2
  obtain ⟨TB, hTB⟩ : ∃ n, y.heap.size = n := ⟨_, rfl⟩
  rw [hTB]
  clear hTB
  generalize (y.alloc (.cells (tbl (fun _ => 0) (.slice none 0 0)).toArray 30)).setCells TB 0 (tbl cK (.slice po 2 pc)) = V
  intro nc nb hv2
  try simp only [Act.put]
  have c0 : V.cell? ⟨TB, 0, none⟩ = some (.int .i64 1) := nc.cnt 0 (by omega)
  have c1 : V.cell? ⟨TB, 1, none⟩ = some (.int .i64 1) := nc.cnt 1 (by omega)
  have c16 := nc.vals
  have hr := nc.all
  have HV2 : Hid (View V .u8 (.slice po 2 pc) [0, 1]) := hv2
  have hv3 := hv2
  obtain ⟨ao', cap', e, h'⟩ := hv2
  cases e
  obtain ⟨b, off, rfl, hbl, hcell⟩ := h' (by simp)
  have v0 : V.cell? ⟨b, off, none⟩ = some (.int .u8 0) := hcell 0 (by simp)
  clear h' hcell
  have HI01 : Hid (∀ x ∈ ([0, 1] : List Int), 0 ≤ x ∧ x ≤ 255) := by intro x hx; simp at hx; omega
  have HIc : Hid (∀ j, j < 16 → I64 (cK j)) := fun j _ => by unfold cK I64; split <;> decide
  go_wp2_with (first
    | (refine wpList_load_want (by rfl) 30 (.tmp 1) rfl TB 0 rfl (tbl cK (.slice (some ⟨b, off, none⟩) 2 pc)) _ ?_ huT rfl (infoT _ _) ?_; exact hr)
    | (go_at_call 14; refine (cost_any cK (.slice (some ⟨b, off, none⟩) 2 pc) [0, 1] HIc.out HI01.out (by simp) (some ⟨V.heap.size, 0, none⟩) 2 [5, 1] hI51 (by simp) (by simp) _ (hv3.but ((But.refl _ _).alloc _)) (view_pair V)).mono ?_; rintro e z ⟨rfl, dz⟩; rw [costK]))
  go_ret
  exact ⟨rfl, ((HB.out.trans nb).trans ((But.refl _ _).alloc _)).trans dz⟩

/-- What lies at a place of a list, or nought. -/
theorem at_any (ao : Option Addr) (cap : Nat) (l : List Int) (i : Nat) (hi : i ≤ 1000000) (hl : l.length ≤ 140737488355328) (w : World) (hv : View w .i64 (.slice ao l.length cap) l) :
    Calls Try.prog 16 #[.slice ao l.length cap, .int .i64 i] w fun e w' => e = .returned (.int .i64 (l.getD i 0)) ∧ But Nowhere w w' := by
  have i0 : (0 : Int) ≤ (i : Int) := by omega
  by_cases q : i < l.length
  · have d1 : decide ((i : Int) < (l.length : Int)) = true := by simp; omega
    have d2 : (i : Int) < (l.length : Int) := by omega
    obtain ⟨ao', cap', e, h'⟩ := hv
    cases e
    obtain ⟨b, off, rfl, hbl, hcell⟩ := h' (by intro e; subst e; simp at q)
    have c0 := hcell i q
    have HE : Hid (l.getD i 0 = l[i]) := by show _ = _; rw [List.getD_eq_getElem?_getD, List.getElem?_eq_getElem q]; rfl
    clear h' hcell
    generalize l[i] = x at *
    go_enter Try.func16, Try.ntmps16
    go_wp2_with fail
    go_ret
    rw [HE.out]
    exact ⟨rfl, But.refl _ _⟩
  · have d1 : decide ((i : Int) < (l.length : Int)) = false := by simp; omega
    have HE : Hid (l.getD i 0 = 0) := by show _ = _; rw [List.getD_eq_getElem?_getD, List.getElem?_eq_none (by omega)]; rfl
    go_enter Try.func16, Try.ntmps16
    go_wp2_with fail
    go_ret
    rw [HE.out]
    exact ⟨rfl, But.refl _ _⟩

end Go.Proofs.Ytlpeplihbdcklaa

/- Lists as choices say. -/
namespace Go.Proofs.Ytlpeplihbdcklaa
set_option linter.unusedVariables false
open Go.ChangeShapes Go.WideShapes Go.ChangeAt Go.RowKit

theorem often_end {w W : World} {sa : Option Addr} {sc : Nat} {m : List Int} (L : Lst w W 3 1 (.slice sa m.length sc) m.length (ints .i64 m)) (hall : ∀ e ∈ m, 0 ≤ e ∧ e ≤ 1048576) (hm : m.length ≤ 300) :
    ∃ ao cap m', Ending.returned (.slice sa m.length sc) = .returned (.slice ao m'.length cap) ∧ View W .i64 (.slice ao m'.length cap) m' ∧ m'.length ≤ cap ∧ m'.length ≤ 300 ∧ (∀ x ∈ m', 0 ≤ x ∧ x ≤ 1048576) ∧ But Nowhere w W := by
  refine ⟨sa, sc, m, rfl, View.of_owns L.own, ?_, hm, hall, L.but⟩
  rcases L.own.2 with ⟨e, h0⟩ | ⟨g, cap, cur, e, _, _, h1, _⟩
  · omega
  · cases e; exact h1

set_option maxHeartbeats 6400000 in
set_option maxRecDepth 100000 in
theorem often_any (v : Value) (l : List Int) (k : Int) (hk : 0 ≤ k ∧ k ≤ 255) (w : World) (hv : View w .u8 v l) (hx : ∀ x ∈ l, 0 ≤ x ∧ x ≤ 255) (hl : l.length ≤ 140737488355328) :
    Calls Try.prog 10 #[v, .int .u8 k] w fun e w' => ∃ ao cap m, e = .returned (.slice ao m.length cap) ∧ View w' .i64 (.slice ao m.length cap) m ∧ m.length ≤ cap ∧ m.length ≤ 300 ∧ (∀ x ∈ m, 0 ≤ x ∧ x ≤ 1048576) ∧ But Nowhere w w' := by
  have HV : Hid (View w .u8 v l) := hv
  obtain ⟨ao, vc, rfl⟩ := hv.slice
  clear hv
  go_enter Try.func10, Try.ntmps10
  go_upto_region 5 with fail
  go_loopw [5, 6, 7, 8] (fun s u r j V => ∃ (i : Nat) (x y : Int) (m : List Int), j = .int .i64 i ∧ (i ≤ l.length ∧ i ≤ 300) ∧ m.length = i ∧ u = .int .i64 x ∧ r = .int .i64 y ∧ (∀ e ∈ m, 0 ≤ e ∧ e ≤ 1048576) ∧ (0 ≤ x ∧ x ≤ 1048576) ∧ (0 ≤ y ∧ y ≤ 1048576) ∧ Lst w V 3 1 s m.length (ints .i64 m)) (fun _ _ _ j _ => 300 - (intOf j).toNat)
  case atStart => exact ⟨0, 1, 1, [], rfl, ⟨Nat.zero_le _, Nat.zero_le _⟩, rfl, rfl, rfl, by simp, by omega, by omega, Lst.start w _ _⟩
  case round =>
    obtain ⟨i, x, y, m, rfl, hi, hm, rfl, rfl, hall, hx0, hy0, L⟩ := hrel
    have i0 : (0 : Int) ≤ (i : Int) := by omega
    by_cases hlt : i < l.length
    · have d1 : decide ((i : Int) < (l.length : Int)) = true := by simp; omega
      have d2 : (i : Int) < (l.length : Int) := by omega
      by_cases h3 : i < 300
      · have d3 : decide ((i : Int) < 300) = true := by simp; omega
        obtain ⟨ao', cap', e, h'⟩ := HV.out
        cases e
        obtain ⟨b, off, rfl, hbl, hcell⟩ := h' (by intro e; subst e; simp at hlt)
        have c0 := (L.but.cell (p := ⟨b, off + i, none⟩) hbl (not_nowhere _)).trans (hcell i hlt)
        have hcv := hx l[i] (List.getElem_mem hlt)
        clear h' hcell
        generalize l[i] = cv at *
        obtain ⟨sa, sc, rfl⟩ := L.slice
        obtain ⟨B, hB⟩ : ∃ B, wr.heap.size = B := ⟨_, rfl⟩
        have e64 : IntKind.i64.wrap cv = cv := by rw [wrap_i64_eq, w64 _ (by omega)]
        rcases (show k.tmod 4 = 0 ∨ k.tmod 4 = 1 ∨ k.tmod 4 = 2 ∨ k.tmod 4 = 3 by rw [Int.tmod_eq_emod_of_nonneg (by omega)]; omega) with t4 | t4 | t4 | t4
        · skip
          obtain ⟨g', cap', w2, hrun, L2, b2, hat⟩ := L.push (P := Try.prog) Try.elemI [.int .i64 (cv)] rfl (by intro u hu; simp at hu; subst hu; rfl) (by omega) (by omega) B hB
          have HX : Hid (Lst w w2 3 1 (.slice (some ⟨g', 0, none⟩) (m.length + 1) cap') (m ++ [cv]).length (ints .i64 (m ++ [cv]))) := by
            rw [List.length_append, ints_append]
            exact L2
          clear L L2
          go_wp2_with (first
            | (refine wpList_build_one Try.elemI rfl (.tmp 56) rfl (.int .i64 (cv)) rfl [.int .i64 (cv)] rfl rfl (by omega) B hB ?_)
            | (refine wpList_append_run rfl (.tmp 55) (.tmp 57) 22 rfl (.slice sa m.length sc) (.slice (some ⟨B, 0, none⟩) 1 1) rfl rfl _ w2 hrun ?_))
          go_roundw
          case rel =>
            refine ⟨i + 1, x, y, m ++ [cv], by go_num, by omega, by rw [List.length_append, hm]; rfl, rfl, by first | rfl | omega, fun e he => ?_, by omega, by omega, by have h := HX.out; rw [hm] at h; exact h⟩
            rw [List.mem_append, List.mem_singleton] at he
            exact he.elim (hall e) (fun q => by subst q; omega)
          case measure => simp [intOf]; omega
        · by_cases hz : x + y ≤ 1048576
          · skip
            obtain ⟨g', cap', w2, hrun, L2, b2, hat⟩ := L.push (P := Try.prog) Try.elemI [.int .i64 (x)] rfl (by intro u hu; simp at hu; subst hu; rfl) (by omega) (by omega) B hB
            have HX : Hid (Lst w w2 3 1 (.slice (some ⟨g', 0, none⟩) (m.length + 1) cap') (m ++ [x]).length (ints .i64 (m ++ [x]))) := by
              rw [List.length_append, ints_append]
              exact L2
            clear L L2
            have rz : IntKind.i64.wrap (x + y) = x + y := by rw [wrap_i64_eq, w64 _ (by omega)]
            have rm : min (x + y) 1048576 = x + y := by omega
            have rn : ¬ 1048576 < x + y := by omega
            go_wp2_with (first
              | (refine wpList_build_one Try.elemI rfl (.tmp 56) rfl (.int .i64 (x)) rfl [.int .i64 (x)] rfl rfl (by omega) B hB ?_)
              | (refine wpList_append_run rfl (.tmp 55) (.tmp 57) 22 rfl (.slice sa m.length sc) (.slice (some ⟨B, 0, none⟩) 1 1) rfl rfl _ w2 hrun ?_))
            go_roundw
            case rel =>
              refine ⟨i + 1, y, (x + y), m ++ [x], by go_num, by omega, by rw [List.length_append, hm]; rfl, rfl, by first | rfl | omega, fun e he => ?_, by omega, by omega, by have h := HX.out; rw [hm] at h; exact h⟩
              rw [List.mem_append, List.mem_singleton] at he
              exact he.elim (hall e) (fun q => by subst q; omega)
            case measure => simp [intOf]; omega
          · skip
            obtain ⟨g', cap', w2, hrun, L2, b2, hat⟩ := L.push (P := Try.prog) Try.elemI [.int .i64 (x)] rfl (by intro u hu; simp at hu; subst hu; rfl) (by omega) (by omega) B hB
            have HX : Hid (Lst w w2 3 1 (.slice (some ⟨g', 0, none⟩) (m.length + 1) cap') (m ++ [x]).length (ints .i64 (m ++ [x]))) := by
              rw [List.length_append, ints_append]
              exact L2
            clear L L2
            have rz : IntKind.i64.wrap (x + y) = x + y := by rw [wrap_i64_eq, w64 _ (by omega)]
            have rm : min (x + y) 1048576 = 1048576 := by omega
            have rn : 1048576 < x + y := by omega
            go_wp2_with (first
              | (refine wpList_build_one Try.elemI rfl (.tmp 56) rfl (.int .i64 (x)) rfl [.int .i64 (x)] rfl rfl (by omega) B hB ?_)
              | (refine wpList_append_run rfl (.tmp 55) (.tmp 57) 22 rfl (.slice sa m.length sc) (.slice (some ⟨B, 0, none⟩) 1 1) rfl rfl _ w2 hrun ?_))
            go_roundw
            case rel =>
              refine ⟨i + 1, y, 1048576, m ++ [x], by go_num, by omega, by rw [List.length_append, hm]; rfl, rfl, by first | rfl | omega, fun e he => ?_, by omega, by omega, by have h := HX.out; rw [hm] at h; exact h⟩
              rw [List.mem_append, List.mem_singleton] at he
              exact he.elim (hall e) (fun q => by subst q; omega)
            case measure => simp [intOf]; omega
        · have q4 : cv.tmod 4 = cv % 4 := Int.tmod_eq_emod_of_nonneg (by omega)
          have w4 : IntKind.u8.wrap (cv % 4) = cv % 4 := by simp (disch := omega) only [IntWalk.u8_in]
          have v4 : IntKind.i64.wrap (cv % 4) = cv % 4 := by rw [wrap_i64_eq, w64 _ (by omega)]
          obtain ⟨cm, hcm⟩ : ∃ cm, cv % 4 = cm := ⟨_, rfl⟩
          have hcm2 : 0 ≤ cm ∧ cm ≤ 3 := by omega
          rw [hcm] at q4 w4 v4
          obtain ⟨g', cap', w2, hrun, L2, b2, hat⟩ := L.push (P := Try.prog) Try.elemI [.int .i64 (cm)] rfl (by intro u hu; simp at hu; subst hu; rfl) (by omega) (by omega) B hB
          have HX : Hid (Lst w w2 3 1 (.slice (some ⟨g', 0, none⟩) (m.length + 1) cap') (m ++ [cm]).length (ints .i64 (m ++ [cm]))) := by
            rw [List.length_append, ints_append]
            exact L2
          clear L L2
          go_wp2_with (first
            | (refine wpList_build_one Try.elemI rfl (.tmp 56) rfl (.int .i64 (cm)) rfl [.int .i64 (cm)] rfl rfl (by omega) B hB ?_)
            | (refine wpList_append_run rfl (.tmp 55) (.tmp 57) 22 rfl (.slice sa m.length sc) (.slice (some ⟨B, 0, none⟩) 1 1) rfl rfl _ w2 hrun ?_))
          go_roundw
          case rel =>
            refine ⟨i + 1, x, y, m ++ [cm], by go_num, by omega, by rw [List.length_append, hm]; rfl, rfl, by first | rfl | omega, fun e he => ?_, by omega, by omega, by have h := HX.out; rw [hm] at h; exact h⟩
            rw [List.mem_append, List.mem_singleton] at he
            exact he.elim (hall e) (fun q => by subst q; omega)
          case measure => simp [intOf]; omega
        · by_cases h60 : 60 < cv
          · have d6 : decide (cv > 60) = true := by simpa using h60
            obtain ⟨g', cap', w2, hrun, L2, b2, hat⟩ := L.push (P := Try.prog) Try.elemI [.int .i64 (0)] rfl (by intro u hu; simp at hu; subst hu; rfl) (by omega) (by omega) B hB
            have HX : Hid (Lst w w2 3 1 (.slice (some ⟨g', 0, none⟩) (m.length + 1) cap') (m ++ [0]).length (ints .i64 (m ++ [0]))) := by
              rw [List.length_append, ints_append]
              exact L2
            clear L L2
            go_wp2_with (first
              | (refine wpList_build_one Try.elemI rfl (.tmp 56) rfl (.int .i64 (0)) rfl [.int .i64 (0)] rfl rfl (by omega) B hB ?_)
              | (refine wpList_append_run rfl (.tmp 55) (.tmp 57) 22 rfl (.slice sa m.length sc) (.slice (some ⟨B, 0, none⟩) 1 1) rfl rfl _ w2 hrun ?_))
            go_roundw
            case rel =>
              refine ⟨i + 1, x, y, m ++ [0], by go_num, by omega, by rw [List.length_append, hm]; rfl, rfl, by first | rfl | omega, fun e he => ?_, by omega, by omega, by have h := HX.out; rw [hm] at h; exact h⟩
              rw [List.mem_append, List.mem_singleton] at he
              exact he.elim (hall e) (fun q => by subst q; omega)
            case measure => simp [intOf]; omega
          · have d6 : decide (cv > 60) = false := by simpa using h60
            obtain ⟨g', cap', w2, hrun, L2, b2, hat⟩ := L.push (P := Try.prog) Try.elemI [.int .i64 (cv)] rfl (by intro u hu; simp at hu; subst hu; rfl) (by omega) (by omega) B hB
            have HX : Hid (Lst w w2 3 1 (.slice (some ⟨g', 0, none⟩) (m.length + 1) cap') (m ++ [cv]).length (ints .i64 (m ++ [cv]))) := by
              rw [List.length_append, ints_append]
              exact L2
            clear L L2
            go_wp2_with (first
              | (refine wpList_build_one Try.elemI rfl (.tmp 56) rfl (.int .i64 (cv)) rfl [.int .i64 (cv)] rfl rfl (by omega) B hB ?_)
              | (refine wpList_append_run rfl (.tmp 55) (.tmp 57) 22 rfl (.slice sa m.length sc) (.slice (some ⟨B, 0, none⟩) 1 1) rfl rfl _ w2 hrun ?_))
            go_roundw
            case rel =>
              refine ⟨i + 1, x, y, m ++ [cv], by go_num, by omega, by rw [List.length_append, hm]; rfl, rfl, by first | rfl | omega, fun e he => ?_, by omega, by omega, by have h := HX.out; rw [hm] at h; exact h⟩
              rw [List.mem_append, List.mem_singleton] at he
              exact he.elim (hall e) (fun q => by subst q; omega)
            case measure => simp [intOf]; omega
      · have d3 : decide ((i : Int) < 300) = false := by simp; omega
        have HL : Hid _ := L
        obtain ⟨sa, sc, rfl⟩ := L.slice
        clear L
        go_wp2_with fail
        go_ret
        exact often_end HL.out hall (by omega)
    · have d1 : decide ((i : Int) < (l.length : Int)) = false := by simp; omega
      have HL : Hid _ := L
      obtain ⟨sa, sc, rfl⟩ := L.slice
      clear L
      go_wp2_with fail
      go_ret
      exact often_end HL.out hall (by omega)

end Go.Proofs.Ytlpeplihbdcklaa

/- What is at a place, or nought. -/
namespace Go.Proofs.Ytlpeplihbdcklaa
set_option linter.unusedVariables false
open Go.ChangeShapes Go.WideShapes Go.ChangeAt Go.RowKit

theorem getD_in {m : List Int} (h : ∀ x ∈ m, 0 ≤ x ∧ x ≤ 1048576) (i : Nat) : 0 ≤ m.getD i 0 ∧ m.getD i 0 ≤ 1048576 := by
  rw [List.getD_eq_getElem?_getD]
  by_cases q : i < m.length
  · rw [List.getElem?_eq_getElem q]; exact h _ (List.getElem_mem q)
  · rw [List.getElem?_eq_none (by omega)]; exact ⟨by decide, by decide⟩
theorem getD_wt {m : List Int} (h : ∀ x ∈ m, 0 ≤ x ∧ x ≤ 1048576) {i : Nat} (hi : i < 256) : m.getD i 0 = wtF m i := by
  have := getD_in h i
  unfold wtF clipW
  rw [if_neg (by omega), if_neg (by omega), if_neg (by omega)]
theorem size_none {m : List Int} {i : Nat} (hi : i < 256) : wtF m i = 0 ↔ szF (wtF m) i = 0 := (size_order (wtF_wt m) i i hi hi).1
theorem size_le {m : List Int} {i j : Nat} (hi : i < 256) (hj : j < 256) (h0 : wtF m j ≠ 0) (h1 : ¬ wtF m i ≤ wtF m j) : szF (wtF m) i ≤ szF (wtF m) j := by
  rcases (size_order (wtF_wt m) i j hi hj).2 with h | h | h
  · exact absurd h h0
  · exact absurd h h1
  · exact h

end Go.Proofs.Ytlpeplihbdcklaa

/- Same of any two tables of the same numbers; what the tables of Best keep. -/
namespace Go.Proofs.Ytlpeplihbdcklaa
set_option linter.unusedVariables false
open Go.ChangeShapes Go.WideShapes Go.ChangeAt Go.RowKit

theorem conv_any (W : World) (v : Value) (l : List Int) (h : View W .u8 v l) : (convert 23 9 v).run Try.prog W = .ok (.string (strOf l)) W := by
  by_cases hne : l = []
  · subst hne
    obtain ⟨ao, cap, rfl, h⟩ := h
    rw [run_convert_bytes_string W 23 9 5 _ _ _ Try.underlying23 Try.underlying5 Try.underlying9]
    cases ao with
    | none => rfl
    | some a => exact run_bytesToString W _ _ _ [] (run_loadCells_list (P := Try.prog) (w := W) a [] (fun j v hj => by simp at hj))
  · exact conv_bytes W v l hne h

set_option maxHeartbeats 3200000 in
set_option maxRecDepth 100000 in
theorem refSame_any (c : Nat → Int) (pv pv' : Value) (l : List Int) (w : World) (hv : View w .u8 pv l) (hv' : View w .u8 pv' l) : Calls Try.prog 19 #[.agg (tbl c pv).toArray, .agg (tbl c pv').toArray] w fun e w' => e = .returned (.bool true) ∧ But Nowhere w w' := by
  have hu := Try.underlying28
  have hi : (Try.prog.info? 28).map (·.size) = some (tab .i64 16 c).length := by rw [tab_length]; kernel_rfl
  have kk := ((Keep.start w).made 30 (tbl c pv)).made 30 (tbl c pv')
  simp only [World.size_alloc] at kk
  have hE : ∀ V, (Op.equalIn 10000 28 (.agg (tab .i64 16 c).toArray) (.agg (tab .i64 16 c).toArray)).run Try.prog V = .ok true V := equal_sixteen c
  have c1 := conv_any _ pv l (hv.but kk.but)
  have c2 := conv_any _ pv' l (hv'.but kk.but)
  have t1 := (kk.get (b := w.heap.size) (t := 30) (c := tbl c pv) (by simp)).vals
  have t2 := (kk.get (b := w.heap.size + 1) (t := 30) (c := tbl c pv') (by simp)).vals
  have r1 := tbl_range (kk.get (b := w.heap.size) (t := 30) (c := tbl c pv) (by simp))
  have r2 := tbl_range (kk.get (b := w.heap.size + 1) (t := 30) (c := tbl c pv') (by simp))
  have HB : Hid _ := kk.but
  clear hv hv' kk
  go_enter Try.func19, Try.ntmps19
  go_wp2_with (first | (refine wpList_load_mid rfl 28 (.tmp 5) rfl (w.heap.size) 0 rfl (tab .i64 16 c) _ ?_ hu rfl hi ?_; exact r1) | (refine wpList_load_mid rfl 28 (.tmp 7) rfl (w.heap.size + 1) 0 rfl (tab .i64 16 c) _ ?_ hu rfl hi ?_; exact r2))
  go_ret
  exact ⟨rfl, HB.out⟩

theorem tabV_byte (W : Nat → Int) : ∀ x ∈ tabV (szF W), 0 ≤ x ∧ x ≤ 255 := fun x hx => by
  obtain ⟨u, hu, rfl, _, _⟩ := (vals_mem (szF W) x 259).1 hx
  omega
theorem tabV_len {W : Nat → Int} (h : Wt W) : (tabV (szF W)).length ≤ 256 := by
  have := tab_len (szF W) (fun i _ => size_lt W i)
  have := many_le (szF W) 256
  omega
theorem tabC_i64 {W : Nat → Int} (h : Wt W) : ∀ j, j < 16 → I64 (tabC (szF W) j) := fun j hj => by
  have := (tab_ok h).ok j hj
  unfold I64
  omega

end Go.Proofs.Ytlpeplihbdcklaa

/- The laws' own sizes: what the program and the document say of one list. -/
namespace Go.Proofs.Ytlpeplihbdcklaa
set_option linter.unusedVariables false
open Go.ChangeShapes Go.WideShapes Go.ChangeAt Go.RowKit

set_option maxHeartbeats 6400000 in
set_option maxRecDepth 100000 in
theorem sizes_law (ao : Option Addr) (cap : Nat) (l : List Int) (hI : ∀ x ∈ l, I64 x) (hl : l.length ≤ 140737488355328) (hcap : l.length ≤ cap) (w : World) (hv : View w .i64 (.slice ao l.length cap) l) :
    Calls Try.prog 9 #[.slice ao l.length cap] w fun e w' => e = .returned (.bool true) ∧ But Nowhere w w' := by
  have HI : Hid _ := hI
  clear hI
  have huT := Try.underlying30
  have hzT := zeroTbl
  go_enter Try.func9, Try.ntmps9
  go_upto_region 2 with (go_at_call 15; refine (sizes_any ao cap l HI.out hl hcap _ hv).mono ?_; rintro e y1 ⟨g, c, rfl, hz, d1⟩; replace hv := hv.but d1)
  go_upto_region 3 with (go_at_call 17; refine (refSizes_any _ l HI.out hl _ hv).mono ?_; rintro e y2 ⟨g', rfl, kk⟩; have d2 := kk.but; replace hv := hv.but d2; replace hz := hz.but d2)
  have hg' := (kk.get (b := g') (t := 3) (c := tab .i64 257 (fun i => (szF (wtF l) i : Int))) (by simp))
  obtain ⟨ao', cap', e, h'⟩ := hz
  cases e
  obtain ⟨bb, off, eo, hlg, hcell⟩ := h' (by simp)
  cases eo
  have HG : Hid (∀ i, i < 256 → y2.cell? ⟨g, i, none⟩ = some (.int .i64 ((szF (wtF l) i : Nat) : Int))) := fun i hi => by
    have := hcell i (by simp; omega)
    rw [Nat.zero_add] at this
    rw [this]
    simp
  have HG' : Hid (∀ i, i < 256 → y2.cell? ⟨g', i, none⟩ = some (.int .i64 ((szF (wtF l) i : Nat) : Int))) := fun i hi => hg'.cell i (by omega)
  have hlg' := hg'.lt
  have hb : But Nowhere w y2 := d1.trans d2
  clear h' hcell kk hg' d1 d2
  have HVL : Hid (View y2 .i64 (.slice ao l.length cap) l) := hv
  have HBW : Hid (But Nowhere w y2) := hb
  clear hv hb
  go_upto_region 6 with fail
  go_loopw [5] (fun j V => ∃ i : Nat, i ≤ 256 ∧ j = .int .i64 i ∧ But Nowhere y2 V) (fun j _ => 256 - (intOf j).toNat)
  case atStart => exact ⟨0, Nat.zero_le _, rfl, But.refl _ _⟩
  case round =>
    obtain ⟨i, hi, rfl, hb⟩ := hrel
    by_cases hlt : i < 256
    · have i0 : (0 : Int) ≤ (i : Int) := by omega
      have i1 : (i : Int) < 256 := by omega
      have c0 := (hb.cell hlg (not_nowhere _)).trans (HG.out i hlt)
      have c1 := (hb.cell hlg' (not_nowhere _)).trans (HG'.out i hlt)
      generalize ((szF (wtF l) i : Nat) : Int) = x at *
      go_upto_region 8 with fail
      refine wp_region_till (S := fun V => V.cell? ⟨g, i, none⟩ = some (.int .i64 x) ∧ V.cell? ⟨g', i, none⟩ = some (.int .i64 x)) (R := fun _ => True) (k := 100) (m := 100) (by kernel_rfl) ⟨c0, c1⟩ trivial ?_
      (refine Walk.take (i := 0) (oi := { dst := some 23, op := Op.move (Operand.tmp 3), type := 22, pos := "law.go:56", after := #[], guard := none }) (v := ?_) rfl (by kernel_rfl) (by kernel_rfl) (by kernel_rfl) (by kernel_rfl) (fun _ _ _ h => h) (Or.inl ⟨by rfl, ?_⟩) ?_; rotate_left; (intro w hw; clear hw; (try go_split_ands); go_simp; try (with_reducible rfl)); simp only [Act.put, List.setIfInBounds_toArray, List.set_cons_zero, List.set_cons_succ])
      (refine Walk.take (i := 1) (oi := { dst := some 24, op := Op.move (Operand.tmp 5), type := 3, pos := "law.go:56", after := #[], guard := none }) (v := ?_) rfl (by kernel_rfl) (by kernel_rfl) (by kernel_rfl) (by kernel_rfl) (fun _ _ _ h => h) (Or.inl ⟨by rfl, ?_⟩) ?_; rotate_left; (intro w hw; clear hw; (try go_split_ands); go_simp; try (with_reducible rfl)); simp only [Act.put, List.setIfInBounds_toArray, List.set_cons_zero, List.set_cons_succ])
      (refine Walk.take (i := 2) (oi := { dst := some 25, op := Op.indexAddr 22 (Operand.tmp 23) (Operand.tmp 24), type := 0, pos := "law.go:56", after := #[{ on := 0, ground := Ground.data }, { on := 1, ground := Ground.data }], guard := none }) (v := ?_) rfl (by kernel_rfl) (by kernel_rfl) (by kernel_rfl) (by kernel_rfl) (fun _ _ _ h => h) (Or.inl ⟨by rfl, ?_⟩) ?_; rotate_left; (intro w hw; clear hw; (try go_split_ands); go_simp; try (with_reducible rfl)); simp only [Act.put, List.setIfInBounds_toArray, List.set_cons_zero, List.set_cons_succ])
      (refine Walk.take (i := 3) (oi := { dst := some 26, op := Op.load 3 (Operand.tmp 25), type := 3, pos := "law.go:56", after := #[{ on := 2, ground := Ground.data }], guard := none }) (v := ?_) rfl (by kernel_rfl) (by kernel_rfl) (by kernel_rfl) (by kernel_rfl) (fun _ _ _ h => h) (Or.inl ⟨by rfl, ?_⟩) ?_; rotate_left; (intro w hw; have hS1 := hw.1 (by kernel_rfl); clear hw; (try dsimp only at hS1); (try go_split_ands); go_simp; try (with_reducible rfl)); simp only [Act.put, List.setIfInBounds_toArray, List.set_cons_zero, List.set_cons_succ])
      (refine Walk.take (i := 4) (oi := { dst := some 27, op := Op.move (Operand.tmp 4), type := 22, pos := "law.go:56", after := #[], guard := none }) (v := ?_) rfl (by kernel_rfl) (by kernel_rfl) (by kernel_rfl) (by kernel_rfl) (fun _ _ _ h => h) (Or.inl ⟨by rfl, ?_⟩) ?_; rotate_left; (intro w hw; clear hw; (try go_split_ands); go_simp; try (with_reducible rfl)); simp only [Act.put, List.setIfInBounds_toArray, List.set_cons_zero, List.set_cons_succ])
      (refine Walk.take (i := 5) (oi := { dst := some 28, op := Op.move (Operand.tmp 5), type := 3, pos := "law.go:56", after := #[], guard := none }) (v := ?_) rfl (by kernel_rfl) (by kernel_rfl) (by kernel_rfl) (by kernel_rfl) (fun _ _ _ h => h) (Or.inl ⟨by rfl, ?_⟩) ?_; rotate_left; (intro w hw; clear hw; (try go_split_ands); go_simp; try (with_reducible rfl)); simp only [Act.put, List.setIfInBounds_toArray, List.set_cons_zero, List.set_cons_succ])
      (refine Walk.take (i := 6) (oi := { dst := some 29, op := Op.indexAddr 22 (Operand.tmp 27) (Operand.tmp 28), type := 0, pos := "law.go:56", after := #[{ on := 4, ground := Ground.data }, { on := 5, ground := Ground.data }], guard := none }) (v := ?_) rfl (by kernel_rfl) (by kernel_rfl) (by kernel_rfl) (by kernel_rfl) (fun _ _ _ h => h) (Or.inl ⟨by rfl, ?_⟩) ?_; rotate_left; (intro w hw; clear hw; (try go_split_ands); go_simp; try (with_reducible rfl)); simp only [Act.put, List.setIfInBounds_toArray, List.set_cons_zero, List.set_cons_succ])
      (refine Walk.take (i := 7) (oi := { dst := some 30, op := Op.load 3 (Operand.tmp 29), type := 3, pos := "law.go:56", after := #[{ on := 6, ground := Ground.data }], guard := none }) (v := ?_) rfl (by kernel_rfl) (by kernel_rfl) (by kernel_rfl) (by kernel_rfl) (fun _ _ _ h => h) (Or.inl ⟨by rfl, ?_⟩) ?_; rotate_left; (intro w hw; have hS1 := hw.1 (by kernel_rfl); clear hw; (try dsimp only at hS1); (try go_split_ands); go_simp; try (with_reducible rfl)); simp only [Act.put, List.setIfInBounds_toArray, List.set_cons_zero, List.set_cons_succ])
      (refine Walk.take (i := 8) (oi := { dst := some 31, op := Op.binOp BinOp.neq 3 (Operand.tmp 26) (Operand.tmp 30) 3, type := 4, pos := "law.go:56", after := #[{ on := 3, ground := Ground.data }, { on := 7, ground := Ground.data }], guard := none }) (v := ?_) rfl (by kernel_rfl) (by kernel_rfl) (by kernel_rfl) (by kernel_rfl) (fun _ _ _ h => h) (Or.inl ⟨by rfl, ?_⟩) ?_; rotate_left; (intro w hw; clear hw; (try go_split_ands); go_simp; try (with_reducible rfl)); simp only [Act.put, List.setIfInBounds_toArray, List.set_cons_zero, List.set_cons_succ])
      refine Walk.done (by kernel_rfl) ?_ _
      go_wp2_with fail
      go_roundw
      case rel => exact ⟨i + 1, by omega, by go_num, hb.drew⟩
      case measure => simp [intOf]; omega
    · obtain rfl : i = 256 := by omega
      have hv : View wr .i64 (.slice ao l.length cap) l := HVL.out.but hb
      replace hb := HBW.out.trans hb
      clear HG HG' hlg hlg' HVL HBW
      go_upto_region 11 with (first
        | (go_at_call 11; refine (best_any ao cap l HI.out hl hcap _ hv).mono ?_; rintro e y3 ⟨p1, rfl, v1, d⟩; replace hv := hv.but d; replace hb := hb.trans d; clear d; obtain ⟨cA, hcA⟩ : ∃ c, tabC (szF (wtF l)) = c := ⟨_, rfl⟩; obtain ⟨lA, hlA⟩ : ∃ c, tabV (szF (wtF l)) = c := ⟨_, rfl⟩; rw [hcA]; rw [hlA] at v1; have HCA : Hid (tabC (szF (wtF l)) = cA ∧ tabV (szF (wtF l)) = lA) := ⟨hcA, hlA⟩; clear hcA hlA; obtain ⟨a1, q1, rfl⟩ := v1.slice)
        | (refine wpList_store_mid rfl 30 (.tmp 6) (.tmp 33) rfl y3.heap.size 0 (tbl cA (.slice a1 lA.length q1)).toArray rfl rfl ?_ (infoTB _ _) (tbl_all _ _ _ _) ?_; exact newTbl_there y3 _ _))
      obtain ⟨nT1, bT1⟩ := newTbl y3 cA (.slice a1 lA.length q1)
      revert nT1 bT1
      obtain ⟨T1, hT1⟩ : ∃ n, y3.heap.size = n := ⟨_, rfl⟩
      rw [hT1]
      clear hT1
      generalize (y3.alloc (.cells (tbl (fun _ => 0) (.slice none 0 0)).toArray 30)).setCells T1 0 (tbl cA (.slice a1 lA.length q1)) = V1
      intro nT1 bT1
      try simp only [Act.put]
      replace hv := hv.but bT1
      replace v1 := v1.but bT1
      replace hb := hb.trans bT1
      have k1 := nT1
      clear nT1 bT1
      have HK : Hid ((∀ j, j < 16 → I64 (cA j)) ∧ (∀ x ∈ lA, 0 ≤ x ∧ x ≤ 255) ∧ lA.length ≤ 140737488355328) := by
        rw [← HCA.out.1, ← HCA.out.2]
        exact ⟨tabC_i64 (wtF_wt l), tabV_byte _, by have := tabV_len (wtF_wt l); omega⟩
      go_upto_region 12 with (first
        | (go_at_call 18; refine (standard_spec 1 0 _).mono ?_; rintro e y4 ⟨p2, rfl, v2, d⟩; replace hv := hv.but d; replace v1 := v1.but d; replace k1 := k1.but d (not_nowhere _); replace hb := hb.trans d; clear d; obtain ⟨cS, hcS⟩ : ∃ c, stdc (stdIx 1 0) = c := ⟨_, rfl⟩; obtain ⟨lS, hlS⟩ : ∃ c, stdL (stdIx 1 0) = c := ⟨_, rfl⟩; rw [hcS]; rw [hlS] at v2; have HCS : Hid (stdc (stdIx 1 0) = cS ∧ stdL (stdIx 1 0) = lS) := ⟨hcS, hlS⟩; clear hcS hlS; obtain ⟨a2, q2, rfl⟩ := v2.slice)
        | (refine wpList_store_mid rfl 30 (.tmp 7) (.tmp 34) rfl y4.heap.size 0 (tbl cS (.slice a2 lS.length q2)).toArray rfl rfl ?_ (infoTB _ _) (tbl_all _ _ _ _) ?_; exact newTbl_there y4 _ _))
      obtain ⟨nT2, bT2⟩ := newTbl y4 cS (.slice a2 lS.length q2)
      revert nT2 bT2
      obtain ⟨T2, hT2⟩ : ∃ n, y4.heap.size = n := ⟨_, rfl⟩
      rw [hT2]
      clear hT2
      generalize (y4.alloc (.cells (tbl (fun _ => 0) (.slice none 0 0)).toArray 30)).setCells T2 0 (tbl cS (.slice a2 lS.length q2)) = V2
      intro nT2 bT2
      try simp only [Act.put]
      replace hv := hv.but bT2
      replace v1 := v1.but bT2
      replace v2 := v2.but bT2
      replace k1 := k1.but bT2 (not_nowhere _)
      replace hb := hb.trans bT2
      have k2 := nT2
      clear nT2 bT2
      have HS : Hid ((∀ j, j < 16 → I64 (cS j)) ∧ (∀ x ∈ lS, 0 ≤ x ∧ x ≤ 255) ∧ lS.length ≤ 140737488355328) := by
        rw [← HCS.out.1, ← HCS.out.2]
        have h4 := stdIx_lt 1 0
        exact ⟨stdc_i64 _ h4, std_byte _ h4, by have := (stdL_length _ h4).1; omega⟩
      refine wp_region_till (S := fun V => V.rangeAt T1 0 (tbl cA (.slice a1 lA.length q1)) ∧ V.rangeAt T2 0 (tbl cS (.slice a2 lS.length q2))) (R := fun _ => True) (k := 100) (m := 100) (by kernel_rfl) ⟨k1.all, k2.all⟩ trivial ?_
      replace hv := hv.but ((But.refl _ _).drew)
      replace v1 := v1.but ((But.refl _ _).drew)
      replace v2 := v2.but ((But.refl _ _).drew)
      replace k1 := k1.but ((But.refl _ _).drew) (not_nowhere _)
      replace k2 := k2.but ((But.refl _ _).drew) (not_nowhere _)
      replace hb := hb.drew
      (refine Walk.take (i := 0) (oi := { dst := some 35, op := Op.load 30 (Operand.tmp 6), type := 30, pos := "law.go:62", after := #[], guard := none }) (v := .agg (tbl cA (.slice a1 lA.length q1)).toArray) rfl (by kernel_rfl) (by kernel_rfl) (by kernel_rfl) (by kernel_rfl) (fun _ _ _ h => h) (yieldsIf_load_mid rfl 30 (.tmp 6) rfl (T1) 0 rfl (tbl cA (.slice a1 lA.length q1)) _ (fun w hw => (hw.1 (by kernel_rfl)).1) huT rfl (infoT _ _)) ?_; simp only [Act.put, List.setIfInBounds_toArray, List.set_cons_zero, List.set_cons_succ])
      (refine Walk.take (i := 1) (oi := { dst := some 36, op := Op.move (Operand.tmp 0), type := 22, pos := "law.go:62", after := #[], guard := none }) (v := ?_) rfl (by kernel_rfl) (by kernel_rfl) (by kernel_rfl) (by kernel_rfl) (fun _ _ _ h => h) (Or.inl ⟨by rfl, ?_⟩) ?_; rotate_left; (intro w hw; clear hw; (try go_split_ands); go_simp; try (with_reducible rfl)); simp only [Act.put, List.setIfInBounds_toArray, List.set_cons_zero, List.set_cons_succ])
      (refine Walk.go (i := 2) (o := { dst := some 37, op := Op.call { callee := Callee.value (Operand.func 20), args := #[Operand.tmp 36], argTypes := #[22] }, type := 30, pos := "law.go:62", after := #[{ on := 1, ground := Ground.data }], guard := none }) (by kernel_rfl) rfl (fun K hK => ?_); go_simp; ((go_at_call 20; refine (refBest_any _ l HI.out hl _ hv).mono ?_; rintro e z1 ⟨p3, rfl, v3, d⟩; rw [HCA.out.2] at v3; rw [HCA.out.1]; replace hv := hv.but d; replace v1 := v1.but d; replace v2 := v2.but d; replace k1 := k1.but d (not_nowhere _); replace k2 := k2.but d (not_nowhere _); replace hb := hb.trans d; clear d)); refine hK.out _ _ (⟨fun _ => ⟨k1.all, k2.all⟩, fun _ => trivial⟩) ?_; clear hK K; try simp only [Act.put, List.setIfInBounds_toArray, List.set_cons_zero, List.set_cons_succ])
      (refine Walk.go (i := 3) (o := { dst := some 38, op := Op.call { callee := Callee.value (Operand.func 19), args := #[Operand.tmp 35, Operand.tmp 37], argTypes := #[30, 30] }, type := 4, pos := "law.go:62", after := #[{ on := 0, ground := Ground.data }, { on := 2, ground := Ground.data }, { on := 2, ground := Ground.chain }], guard := none }) (by kernel_rfl) rfl (fun K hK => ?_); go_simp; ((go_at_call 19; refine (refSame_any cA (.slice a1 lA.length q1) p3 lA _ v1 v3).mono ?_; rintro e z2 ⟨rfl, d⟩; replace hv := hv.but d; replace v1 := v1.but d; replace v2 := v2.but d; replace k1 := k1.but d (not_nowhere _); replace k2 := k2.but d (not_nowhere _); replace hb := hb.trans d; clear d; clear v3)); refine hK.out _ _ (⟨fun _ => ⟨k1.all, k2.all⟩, fun _ => trivial⟩) ?_; clear hK K; try simp only [Act.put, List.setIfInBounds_toArray, List.set_cons_zero, List.set_cons_succ])
      (refine Walk.take (i := 4) (oi := { dst := some 39, op := Op.move (Operand.tmp 38), type := 4, pos := "law.go:62", after := #[{ on := 3, ground := Ground.data }, { on := 3, ground := Ground.chain }], guard := none }) (v := ?_) rfl (by kernel_rfl) (by kernel_rfl) (by kernel_rfl) (by kernel_rfl) (fun _ _ _ h => h) (Or.inl ⟨by rfl, ?_⟩) ?_; rotate_left; (intro w hw; clear hw; (try go_split_ands); go_simp; try (with_reducible rfl)); simp only [Act.put, List.setIfInBounds_toArray, List.set_cons_zero, List.set_cons_succ])
      (refine Walk.take (i := 5) (oi := { dst := some 40, op := Op.load 30 (Operand.tmp 6), type := 30, pos := "law.go:62", after := #[{ on := 4, ground := Ground.guard }], guard := some (4, true) }) (v := .agg (tbl cA (.slice a1 lA.length q1)).toArray) rfl (by kernel_rfl) (by kernel_rfl) (by kernel_rfl) (by kernel_rfl) (fun _ _ _ h => h) (yieldsIf_load_mid rfl 30 (.tmp 6) rfl (T1) 0 rfl (tbl cA (.slice a1 lA.length q1)) _ (fun w hw => (hw.1 (by kernel_rfl)).1) huT rfl (infoT _ _)) ?_; simp only [Act.put, List.setIfInBounds_toArray, List.set_cons_zero, List.set_cons_succ])
      (refine Walk.take (i := 6) (oi := { dst := some 41, op := Op.move (Operand.tmp 0), type := 22, pos := "law.go:62", after := #[{ on := 4, ground := Ground.guard }], guard := some (4, true) }) (v := ?_) rfl (by kernel_rfl) (by kernel_rfl) (by kernel_rfl) (by kernel_rfl) (fun _ _ _ h => h) (Or.inl ⟨by rfl, ?_⟩) ?_; rotate_left; (intro w hw; clear hw; (try go_split_ands); go_simp; try (with_reducible rfl)); simp only [Act.put, List.setIfInBounds_toArray, List.set_cons_zero, List.set_cons_succ])
      (refine Walk.take (i := 8) (oi := { dst := some 43, op := Op.load 30 (Operand.tmp 6), type := 30, pos := "law.go:62", after := #[{ on := 4, ground := Ground.guard }], guard := some (4, true) }) (v := .agg (tbl cA (.slice a1 lA.length q1)).toArray) rfl (by kernel_rfl) (by kernel_rfl) (by kernel_rfl) (by kernel_rfl) (fun _ _ _ h => h) (yieldsIf_load_mid rfl 30 (.tmp 6) rfl (T1) 0 rfl (tbl cA (.slice a1 lA.length q1)) _ (fun w hw => (hw.1 (by kernel_rfl)).1) huT rfl (infoT _ _)) ?_; simp only [Act.put, List.setIfInBounds_toArray, List.set_cons_zero, List.set_cons_succ])
      (refine Walk.take (i := 9) (oi := { dst := some 44, op := Op.move (Operand.tmp 0), type := 22, pos := "law.go:62", after := #[{ on := 4, ground := Ground.guard }], guard := some (4, true) }) (v := ?_) rfl (by kernel_rfl) (by kernel_rfl) (by kernel_rfl) (by kernel_rfl) (fun _ _ _ h => h) (Or.inl ⟨by rfl, ?_⟩) ?_; rotate_left; (intro w hw; clear hw; (try go_split_ands); go_simp; try (with_reducible rfl)); simp only [Act.put, List.setIfInBounds_toArray, List.set_cons_zero, List.set_cons_succ])
      (refine Walk.go (i := 7) (o := { dst := some 42, op := Op.call { callee := Callee.value (Operand.func 14), args := #[Operand.tmp 40, Operand.tmp 41], argTypes := #[30, 22] }, type := 3, pos := "law.go:62", after := #[{ on := 5, ground := Ground.data }, { on := 6, ground := Ground.data }, { on := 4, ground := Ground.chain }, { on := 4, ground := Ground.guard }], guard := some (4, true) }) (by kernel_rfl) rfl (fun K hK => ?_); go_simp; ((go_at_call 14; refine (cost_any cA (.slice a1 lA.length q1) lA HK.out.1 HK.out.2.1 HK.out.2.2 ao cap l HI.out hl hcap _ v1 hv).mono ?_; rintro e z3 ⟨rfl, d⟩; replace hv := hv.but d; replace v1 := v1.but d; replace v2 := v2.but d; replace k1 := k1.but d (not_nowhere _); replace k2 := k2.but d (not_nowhere _); replace hb := hb.trans d; clear d)); refine hK.out _ _ (⟨fun _ => ⟨k1.all, k2.all⟩, fun _ => trivial⟩) ?_; clear hK K; try simp only [Act.put, List.setIfInBounds_toArray, List.set_cons_zero, List.set_cons_succ])
      (refine Walk.go (i := 10) (o := { dst := some 45, op := Op.call { callee := Callee.value (Operand.func 21), args := #[Operand.tmp 43, Operand.tmp 44], argTypes := #[30, 22] }, type := 3, pos := "law.go:62", after := #[{ on := 8, ground := Ground.data }, { on := 9, ground := Ground.data }, { on := 7, ground := Ground.chain }, { on := 4, ground := Ground.guard }], guard := some (4, true) }) (by kernel_rfl) rfl (fun K hK => ?_); go_simp; ((go_at_call 21; refine (refCost_any cA (.slice a1 lA.length q1) lA HK.out.1 HK.out.2.1 HK.out.2.2 _ l HI.out hl _ v1 hv).mono ?_; rintro e z4 ⟨rfl, d⟩; replace hv := hv.but d; replace v1 := v1.but d; replace v2 := v2.but d; replace k1 := k1.but d (not_nowhere _); replace k2 := k2.but d (not_nowhere _); replace hb := hb.trans d; clear d)); refine hK.out _ _ (⟨fun _ => ⟨k1.all, k2.all⟩, fun _ => trivial⟩) ?_; clear hK K; try simp only [Act.put, List.setIfInBounds_toArray, List.set_cons_zero, List.set_cons_succ])
      (refine Walk.take (i := 11) (oi := { dst := some 46, op := Op.binOp BinOp.eql 3 (Operand.tmp 42) (Operand.tmp 45) 3, type := 4, pos := "law.go:62", after := #[{ on := 7, ground := Ground.data }, { on := 10, ground := Ground.data }, { on := 4, ground := Ground.guard }], guard := some (4, true) }) (v := ?_) rfl (by kernel_rfl) (by kernel_rfl) (by kernel_rfl) (by kernel_rfl) (fun _ _ _ h => h) (Or.inl ⟨by rfl, ?_⟩) ?_; rotate_left; (intro w hw; clear hw; (try go_split_ands); go_simp; try (with_reducible rfl)); simp only [Act.put, List.setIfInBounds_toArray, List.set_cons_zero, List.set_cons_succ])
      (refine Walk.take (i := 12) (oi := { dst := some 47, op := Op.pick (Operand.tmp 39) (Operand.tmp 46) (Operand.const (Value.bool false)), type := 4, pos := "law.go:62", after := #[{ on := 4, ground := Ground.data }, { on := 11, ground := Ground.data }], guard := none }) (v := ?_) rfl (by kernel_rfl) (by kernel_rfl) (by kernel_rfl) (by kernel_rfl) (fun _ _ _ h => h) (Or.inl ⟨by rfl, ?_⟩) ?_; rotate_left; (intro w hw; clear hw; (try go_split_ands); go_simp; try (with_reducible rfl)); simp only [Act.put, List.setIfInBounds_toArray, List.set_cons_zero, List.set_cons_succ])
      (refine Walk.take (i := 13) (oi := { dst := some 48, op := Op.move (Operand.tmp 47), type := 4, pos := "law.go:62", after := #[{ on := 12, ground := Ground.data }, { on := 10, ground := Ground.chain }], guard := none }) (v := ?_) rfl (by kernel_rfl) (by kernel_rfl) (by kernel_rfl) (by kernel_rfl) (fun _ _ _ h => h) (Or.inl ⟨by rfl, ?_⟩) ?_; rotate_left; (intro w hw; clear hw; (try go_split_ands); go_simp; try (with_reducible rfl)); simp only [Act.put, List.setIfInBounds_toArray, List.set_cons_zero, List.set_cons_succ])
      (refine Walk.take (i := 14) (oi := { dst := some 49, op := Op.load 30 (Operand.tmp 7), type := 30, pos := "law.go:62", after := #[{ on := 13, ground := Ground.guard }], guard := some (13, true) }) (v := .agg (tbl cS (.slice a2 lS.length q2)).toArray) rfl (by kernel_rfl) (by kernel_rfl) (by kernel_rfl) (by kernel_rfl) (fun _ _ _ h => h) (yieldsIf_load_mid rfl 30 (.tmp 7) rfl (T2) 0 rfl (tbl cS (.slice a2 lS.length q2)) _ (fun w hw => (hw.1 (by kernel_rfl)).2) huT rfl (infoT _ _)) ?_; simp only [Act.put, List.setIfInBounds_toArray, List.set_cons_zero, List.set_cons_succ])
      (refine Walk.take (i := 15) (oi := { dst := some 50, op := Op.move (Operand.tmp 0), type := 22, pos := "law.go:62", after := #[{ on := 13, ground := Ground.guard }], guard := some (13, true) }) (v := ?_) rfl (by kernel_rfl) (by kernel_rfl) (by kernel_rfl) (by kernel_rfl) (fun _ _ _ h => h) (Or.inl ⟨by rfl, ?_⟩) ?_; rotate_left; (intro w hw; clear hw; (try go_split_ands); go_simp; try (with_reducible rfl)); simp only [Act.put, List.setIfInBounds_toArray, List.set_cons_zero, List.set_cons_succ])
      (refine Walk.take (i := 17) (oi := { dst := some 52, op := Op.load 30 (Operand.tmp 7), type := 30, pos := "law.go:62", after := #[{ on := 13, ground := Ground.guard }], guard := some (13, true) }) (v := .agg (tbl cS (.slice a2 lS.length q2)).toArray) rfl (by kernel_rfl) (by kernel_rfl) (by kernel_rfl) (by kernel_rfl) (fun _ _ _ h => h) (yieldsIf_load_mid rfl 30 (.tmp 7) rfl (T2) 0 rfl (tbl cS (.slice a2 lS.length q2)) _ (fun w hw => (hw.1 (by kernel_rfl)).2) huT rfl (infoT _ _)) ?_; simp only [Act.put, List.setIfInBounds_toArray, List.set_cons_zero, List.set_cons_succ])
      (refine Walk.take (i := 18) (oi := { dst := some 53, op := Op.move (Operand.tmp 0), type := 22, pos := "law.go:62", after := #[{ on := 13, ground := Ground.guard }], guard := some (13, true) }) (v := ?_) rfl (by kernel_rfl) (by kernel_rfl) (by kernel_rfl) (by kernel_rfl) (fun _ _ _ h => h) (Or.inl ⟨by rfl, ?_⟩) ?_; rotate_left; (intro w hw; clear hw; (try go_split_ands); go_simp; try (with_reducible rfl)); simp only [Act.put, List.setIfInBounds_toArray, List.set_cons_zero, List.set_cons_succ])
      (refine Walk.go (i := 16) (o := { dst := some 51, op := Op.call { callee := Callee.value (Operand.func 14), args := #[Operand.tmp 49, Operand.tmp 50], argTypes := #[30, 22] }, type := 3, pos := "law.go:62", after := #[{ on := 14, ground := Ground.data }, { on := 15, ground := Ground.data }, { on := 13, ground := Ground.chain }, { on := 13, ground := Ground.guard }], guard := some (13, true) }) (by kernel_rfl) rfl (fun K hK => ?_); go_simp; ((go_at_call 14; refine (cost_any cS (.slice a2 lS.length q2) lS HS.out.1 HS.out.2.1 HS.out.2.2 ao cap l HI.out hl hcap _ v2 hv).mono ?_; rintro e z5 ⟨rfl, d⟩; replace hv := hv.but d; replace v1 := v1.but d; replace v2 := v2.but d; replace k1 := k1.but d (not_nowhere _); replace k2 := k2.but d (not_nowhere _); replace hb := hb.trans d; clear d)); refine hK.out _ _ (⟨fun _ => ⟨k1.all, k2.all⟩, fun _ => trivial⟩) ?_; clear hK K; try simp only [Act.put, List.setIfInBounds_toArray, List.set_cons_zero, List.set_cons_succ])
      (refine Walk.go (i := 19) (o := { dst := some 54, op := Op.call { callee := Callee.value (Operand.func 21), args := #[Operand.tmp 52, Operand.tmp 53], argTypes := #[30, 22] }, type := 3, pos := "law.go:62", after := #[{ on := 17, ground := Ground.data }, { on := 18, ground := Ground.data }, { on := 16, ground := Ground.chain }, { on := 13, ground := Ground.guard }], guard := some (13, true) }) (by kernel_rfl) rfl (fun K hK => ?_); go_simp; ((go_at_call 21; refine (refCost_any cS (.slice a2 lS.length q2) lS HS.out.1 HS.out.2.1 HS.out.2.2 _ l HI.out hl _ v2 hv).mono ?_; rintro e z6 ⟨rfl, d⟩; replace hv := hv.but d; replace v1 := v1.but d; replace v2 := v2.but d; replace k1 := k1.but d (not_nowhere _); replace k2 := k2.but d (not_nowhere _); replace hb := hb.trans d; clear d)); refine hK.out _ _ (⟨fun _ => ⟨k1.all, k2.all⟩, fun _ => trivial⟩) ?_; clear hK K; try simp only [Act.put, List.setIfInBounds_toArray, List.set_cons_zero, List.set_cons_succ])
      (refine Walk.take (i := 20) (oi := { dst := some 55, op := Op.binOp BinOp.eql 3 (Operand.tmp 51) (Operand.tmp 54) 3, type := 4, pos := "law.go:62", after := #[{ on := 16, ground := Ground.data }, { on := 19, ground := Ground.data }, { on := 13, ground := Ground.guard }], guard := some (13, true) }) (v := ?_) rfl (by kernel_rfl) (by kernel_rfl) (by kernel_rfl) (by kernel_rfl) (fun _ _ _ h => h) (Or.inl ⟨by rfl, ?_⟩) ?_; rotate_left; (intro w hw; clear hw; (try go_split_ands); go_simp; try (with_reducible rfl)); simp only [Act.put, List.setIfInBounds_toArray, List.set_cons_zero, List.set_cons_succ])
      (refine Walk.take (i := 21) (oi := { dst := some 56, op := Op.pick (Operand.tmp 48) (Operand.tmp 55) (Operand.const (Value.bool false)), type := 4, pos := "law.go:62", after := #[{ on := 13, ground := Ground.data }, { on := 20, ground := Ground.data }], guard := none }) (v := ?_) rfl (by kernel_rfl) (by kernel_rfl) (by kernel_rfl) (by kernel_rfl) (fun _ _ _ h => h) (Or.inl ⟨by rfl, ?_⟩) ?_; rotate_left; (intro w hw; clear hw; (try go_split_ands); go_simp; try (with_reducible rfl)); simp only [Act.put, List.setIfInBounds_toArray, List.set_cons_zero, List.set_cons_succ])
      (refine Walk.take (i := 22) (oi := { dst := some 2, op := Op.assign (Operand.tmp 56), type := 4, pos := "law.go:62", after := #[{ on := 21, ground := Ground.data }, { on := 19, ground := Ground.chain }, { on := 0, ground := Ground.phase }, { on := 1, ground := Ground.phase }, { on := 2, ground := Ground.phase }, { on := 3, ground := Ground.phase }, { on := 4, ground := Ground.phase }, { on := 5, ground := Ground.phase }, { on := 6, ground := Ground.phase }, { on := 7, ground := Ground.phase }, { on := 8, ground := Ground.phase }, { on := 9, ground := Ground.phase }, { on := 10, ground := Ground.phase }, { on := 11, ground := Ground.phase }, { on := 12, ground := Ground.phase }, { on := 13, ground := Ground.phase }, { on := 14, ground := Ground.phase }, { on := 15, ground := Ground.phase }, { on := 16, ground := Ground.phase }, { on := 17, ground := Ground.phase }, { on := 18, ground := Ground.phase }, { on := 19, ground := Ground.phase }, { on := 20, ground := Ground.phase }, { on := 21, ground := Ground.phase }], guard := none }) (v := ?_) rfl (by kernel_rfl) (by kernel_rfl) (by kernel_rfl) (by kernel_rfl) (fun _ _ _ h => h) (Or.inl ⟨by rfl, ?_⟩) ?_; rotate_left; (intro w hw; clear hw; (try go_split_ands); go_simp; try (with_reducible rfl)); simp only [Act.put, List.setIfInBounds_toArray, List.set_cons_zero, List.set_cons_succ])
      refine Walk.done (by kernel_rfl) ?_ _
      go_wp2_with fail
      go_ret
      exact ⟨rfl, hb⟩

end Go.Proofs.Ytlpeplihbdcklaa

/- A list's room is no less than its length. -/
namespace Go.Proofs.Ytlpeplihbdcklaa
open Go.ChangeShapes Go.WideShapes Go.ChangeAt Go.RowKit Go.Deep

def Roomy (v : Value) : Prop := ∀ ao n cap, v = .slice ao n cap → n ≤ cap

theorem ints_room {H : Type} {enc : TypeId × Value → H} {W : World} {base : Nat} {v : Value} {d : DataW H} {p : List MemPlace} (hval : Value.okWide Try.prog W .any base 22 v)
    (h : DataW.Trod enc Try.prog W 0 (fun _ => true) true 22 v d p) : Roomy v := by
  obtain ⟨a0, len0, cap0, rfl⟩ := okWide_slice Try.underlying22 hval
  obtain ⟨fuel, hf⟩ := h
  rcases open_slice1 Try.underlying22 Try.cells1Int hf with ⟨hc, hx⟩ | ⟨a, len, cap, m, n, V0, D0, P0, hc, _, hl, hm, hmm, hx, hall⟩
  · simp [Value.cells] at hc
    obtain ⟨rfl, rfl, rfl⟩ := hc
    rintro _ _ _ h
    cases h
    omega
  · simp [Value.cells] at hc
    obtain ⟨rfl, rfl, rfl⟩ := hc
    rintro _ _ _ h
    cases h
    omega

end Go.Proofs.Ytlpeplihbdcklaa

/- A new array of codes; what the laws want of a table of Best. -/
namespace Go.Proofs.Ytlpeplihbdcklaa
set_option linter.unusedVariables false
open Go.ChangeShapes Go.WideShapes Go.ChangeAt Go.RowKit

theorem newCod (y : World) (f : Nat → Int) : Cells ((y.alloc (.cells (tab .i64 512 (fun _ => 0)).toArray 35)).setCells y.heap.size 0 (tab .i64 512 f)) y.heap.size 35 (tab .i64 512 f) ∧ But Nowhere y ((y.alloc (.cells (tab .i64 512 (fun _ => 0)).toArray 35)).setCells y.heap.size 0 (tab .i64 512 f)) :=
  ⟨(Cells.new y 35 (tab .i64 512 (fun _ => 0))).layAll f, ((But.refl _ _).alloc _).setCells _ (fun q => by omega) 0⟩
theorem newCod_there (y : World) (f : Nat → Int) : (y.alloc (.cells (tab .i64 512 (fun _ => 0)).toArray 35)).there y.heap.size 0 (tab .i64 512 f).toArray.size :=
  (Cells.new y 35 (tab .i64 512 (fun _ => 0))).there 0 _ (by rw [List.size_toArray, tab_length, tab_length]; omega)
theorem infoCB (f : Nat → Int) : (Try.prog.info? 35).map (·.size) = some (tab .i64 512 f).toArray.size := by rw [List.size_toArray, tab_length]; kernel_rfl
theorem cod_cell {V : World} {b : Nat} {t : TypeId} {f g : Nat → Int} (h : Cells V b t (tab .i64 512 (both f g))) (i : Nat) (hi : i < 256) : V.cell? ⟨b, i * 2, none⟩ = some (.int .i64 (f i)) := by
  rw [h.cell (i * 2) (by omega)]
  unfold both
  rw [if_pos (by omega), show i * 2 / 2 = i by omega]

/-- All bits are none below nought. -/
theorem cost_pos (m : List Int) : 0 ≤ costF (tabC (szF (wtF m))) (tabV (szF (wtF m))) (wtF m) := by
  rw [costF_all (fun v hv hw => by have := (tab_code (wtF_wt m) v hv).1 hw; omega)]
  exact sm_pos (fun v hv => Int.mul_nonneg (wtF_bd m v).1 (codN_bd _ _ v).1)
theorem check_own (m : List Int) : checkB (tabC (szF (wtF m))) (tabV (szF (wtF m))) = true := (checkB_iff _ _).2 (tab_ok (wtF_wt m))
/-- A value that comes has a code, and none else. -/
theorem comes_yes {m : List Int} (h : ∀ x ∈ m, 0 ≤ x ∧ x ≤ 1048576) {i : Nat} (hi : i < 256) (q : i < m.length) : (0 < m[i] → 0 < codN (tabC (szF (wtF m))) (tabV (szF (wtF m))) i) ∧ (¬ 0 < m[i] → codN (tabC (szF (wtF m))) (tabV (szF (wtF m))) i = 0) := by
  have e : m[i] = wtF m i := by
    rw [← getD_wt h hi, List.getD_eq_getElem?_getD, List.getElem?_eq_getElem q]; rfl
  rw [e]
  exact tab_code (wtF_wt m) i hi
theorem comes_no {m : List Int} {i : Nat} (hi : i < 256) (q : ¬ i < m.length) : codN (tabC (szF (wtF m))) (tabV (szF (wtF m))) i = 0 :=
  (tab_code (wtF_wt m) i hi).2 (by rw [wtF_out m i (by omega) hi]; omega)

end Go.Proofs.Ytlpeplihbdcklaa

/- What the law of the least bits wants. -/
namespace Go.Proofs.Ytlpeplihbdcklaa
set_option linter.unusedVariables false
open Go.ChangeShapes Go.WideShapes Go.ChangeAt Go.RowKit

theorem cost_own (m : List Int) : costF (tabC (szF (wtF m))) (tabV (szF (wtF m))) (wtF m) = bits (tabC (szF (wtF m))) (tabV (szF (wtF m))) (wtF m) :=
  costF_all (fun v hv hw => by have := (tab_code (wtF_wt m) v hv).1 hw; omega)
theorem own_le (m : List Int) (hs : ∀ v, v < 256 → szF (wtF m) v ≤ 15) : costF (tabC (szF (wtF m))) (tabV (szF (wtF m))) (wtF m) ≤ sm (fun v => (szF (wtF m) v : Int) * wtF m v) 256 := by
  rw [cost_own]
  exact bits_own (wtF_wt m) hs
theorem least_le (m : List Int) (hs : ∀ v, v < 256 → szF (wtF m) v ≤ 15) (c : Nat → Int) (l : List Int) : ¬ costF c l (wtF m) < 0 → costF (tabC (szF (wtF m))) (tabV (szF (wtF m))) (wtF m) ≤ costF c l (wtF m) + 15 := by
  intro h
  by_cases q : ∀ v, v < 256 → 0 < wtF m v → codN c l v ≠ 0
  · rw [cost_own, costF_all q]
    exact bits_least (wtF_wt m) hs q
  · exact absurd (by rw [show costF c l (wtF m) = -1 from if_neg q]; decide) h
theorem cost_bd (c : Nat → Int) (l m : List Int) : -1 ≤ costF c l (wtF m) ∧ costF c l (wtF m) ≤ 4294967296 := by
  by_cases q : ∀ v, v < 256 → 0 < wtF m v → codN c l v ≠ 0
  · rw [costF_all q]
    have := part_bd (c := c) (l := l) (wtF_bd m) 256
    unfold bits
    omega
  · rw [show costF c l (wtF m) = -1 from if_neg q]
    decide
theorem sum_bd (m : List Int) : ∀ k, (∀ v, v < k → szF (wtF m) v ≤ 15) → 0 ≤ sm (fun v => (szF (wtF m) v : Int) * wtF m v) k ∧ sm (fun v => (szF (wtF m) v : Int) * wtF m v) k ≤ 15728640 * (k : Int)
  | 0, _ => by constructor <;> (show _ ≤ _; simp [sm])
  | k + 1, h => by
    have ih := sum_bd m k (fun v hv => h v (by omega))
    have h1 := wtF_bd m k
    have h2 := h k (by omega)
    have h3 : 0 ≤ (szF (wtF m) k : Int) * wtF m k := Int.mul_nonneg (by omega) h1.1
    have h4 : (szF (wtF m) k : Int) * wtF m k ≤ 15 * 1048576 := Int.mul_le_mul (by omega) h1.2 h1.1 (by omega)
    show 0 ≤ sm (fun v => (szF (wtF m) v : Int) * wtF m v) k + (szF (wtF m) k : Int) * wtF m k ∧ sm (fun v => (szF (wtF m) v : Int) * wtF m v) k + (szF (wtF m) k : Int) * wtF m k ≤ _
    omega

end Go.Proofs.Ytlpeplihbdcklaa

/- Lists that are made and written: one value alone, all alike, none. -/
namespace Go.Proofs.Ytlpeplihbdcklaa
set_option linter.unusedVariables false
open Go.ChangeShapes Go.WideShapes Go.ChangeAt Go.RowKit

theorem u16_lit {n : Int} (h : (Lit.int .u16 n).wf = true) : 0 ≤ n ∧ n ≤ 65535 := by simpa [Lit.wf, IntKind.min, IntKind.max, IntKind.signed, IntKind.bits] using h

theorem field_vals (c : Nat → Int) (po : Option Addr) (n m : Nat) (w : World) : (Instr.field 30 (.agg (tbl c (.slice po n m)).toArray) 1).run Try.prog w = .ok (.slice po n m) w := by
  have h := Try.underlying30
  have h3 := tbl_last c (.slice po n m)
  simp [Instr.field, run_underlying h, asAgg, part, go_sem, h3]

/-- The list of the first n. -/
def lst (n : Nat) (f : Nat → Int) : List Int := (List.range n).map f
theorem lst_length (n : Nat) (f : Nat → Int) : (lst n f).length = n := by simp [lst]
theorem view_lst {V : World} {g : Nat} {t : TypeId} {k : IntKind} {n : Nat} {f : Nat → Int} (h : Cells V g t (tab k n f)) : View V k (.slice (some ⟨g, 0, none⟩) n n) (lst n f) :=
  ⟨some ⟨g, 0, none⟩, n, by rw [lst_length], fun _ => ⟨g, 0, rfl, h.lt, fun i hi => by
    rw [lst_length] at hi
    rw [Nat.zero_add, h.cell i hi]
    simp [lst]⟩⟩
theorem lst_wt (n : Nat) (f : Nat → Int) (i : Nat) (hi : i < 256) : wtF (lst n f) i = if i < n then clipW (f i) else 0 := by
  by_cases q : i < n
  · rw [wtF_at _ i (by rw [lst_length]; exact q) hi, if_pos q]
    simp [lst]
  · rw [wtF_out _ i (by rw [lst_length]; omega) hi, if_neg q]
theorem lst_i64 {n : Nat} {f : Nat → Int} (h : ∀ j, j < n → I64 (f j)) : ∀ x ∈ lst n f, I64 x := fun x hx => by
  obtain ⟨j, hj, rfl⟩ := List.mem_map.1 hx
  exact h j (List.mem_range.1 hj)

theorem make_tab (n : Nat) (hn : n ≤ 100000000) (W : World) : (Instr.makeSlice 22 (.int .i64 n) (.int .i64 n)).run Try.prog W = .ok (.slice (some ⟨W.heap.size, 0, none⟩) n n) (W.alloc (.cells (tab .i64 n (fun _ => 0)).toArray 3)) := by
  rw [make_any Try.elemI n (.int .i64 0) (by intro j hj; have : j = 0 := (by omega); subst this; rfl) hn (by omega) W, Nat.mul_one, tab_zero]

theorem best_lst (g n : Nat) (f : Nat → Int) (hn : n ≤ 300) (hI : ∀ j, j < n → I64 (f j)) (w : World) (h : Cells w g 3 (tab .i64 n f)) :
    Calls Try.prog 11 #[.slice (some ⟨g, 0, none⟩) n n] w fun e w' => ∃ pv, e = .returned (.agg (tbl (tabC (szF (wtF (lst n f)))) pv).toArray) ∧ View w' .u8 pv (tabV (szF (wtF (lst n f)))) ∧ But Nowhere w w' := by
  have hv := view_lst h
  have := best_any (some ⟨g, 0, none⟩) n (lst n f) (lst_i64 hI) (by rw [lst_length]; omega) (by rw [lst_length]; exact Nat.le_refl _) w (by rw [lst_length]; exact hv)
  rw [lst_length] at this
  exact this
theorem cost_lst (c : Nat → Int) (pv : Value) (l : List Int) (hI : ∀ j, j < 16 → I64 (c j)) (hx : ∀ x ∈ l, 0 ≤ x ∧ x ≤ 255) (hl : l.length ≤ 140737488355328) (g n : Nat) (f : Nat → Int) (hn : n ≤ 300) (hJ : ∀ j, j < n → I64 (f j)) (w : World) (hv : View w .u8 pv l) (h : Cells w g 3 (tab .i64 n f)) :
    Calls Try.prog 14 #[.agg (tbl c pv).toArray, .slice (some ⟨g, 0, none⟩) n n] w fun e w' => e = .returned (.int .i64 (costF c l (wtF (lst n f)))) ∧ But Nowhere w w' := by
  have ho := view_lst h
  have := cost_any c pv l hI hx hl (some ⟨g, 0, none⟩) n (lst n f) (lst_i64 hJ) (by rw [lst_length]; omega) (by rw [lst_length]; exact Nat.le_refl _) w hv (by rw [lst_length]; exact ho)
  rw [lst_length] at this
  exact this

/-- One value alone. -/
def oneF (v : Nat) (N : Int) : Nat → Int := upd (fun _ => 0) v N
theorem one_wt (v : Nat) (hv : v < 256) (N : Int) (h1 : 1 ≤ N) (h2 : N ≤ 65536) : wtF (lst (v + 1) (oneF v N)) v = N ∧ ∀ i, i < 256 → i ≠ v → wtF (lst (v + 1) (oneF v N)) i = 0 := by
  constructor
  · rw [lst_wt _ _ _ hv, if_pos (by omega)]
    unfold oneF upd clipW
    rw [if_pos rfl, if_neg (by omega), if_neg (by omega)]
  · intro i hi hn
    rw [lst_wt _ _ _ hi]
    unfold oneF upd clipW
    rw [if_neg hn]
    split <;> rfl
theorem one_facts (v : Nat) (hv : v < 256) (N : Int) (h1 : 1 ≤ N) (h2 : N ≤ 65536) : tabV (szF (wtF (lst (v + 1) (oneF v N)))) = [(v : Int)] ∧ tabC (szF (wtF (lst (v + 1) (oneF v N)))) 0 = 1 ∧ costF (tabC (szF (wtF (lst (v + 1) (oneF v N))))) (tabV (szF (wtF (lst (v + 1) (oneF v N))))) (wtF (lst (v + 1) (oneF v N))) = N := by
  obtain ⟨e1, e2⟩ := one_wt v hv N h1 h2
  obtain ⟨a, b, c⟩ := one_alone (wtF_wt (lst (v + 1) (oneF v N))) hv (by omega) e2
  exact ⟨a, b, by rw [cost_own, c, e1]⟩
theorem alike_facts : ∀ i, i < 256 → codN (tabC (szF (wtF (lst 256 (fun _ => 5))))) (tabV (szF (wtF (lst 256 (fun _ => 5))))) i = 8 ∨ codN (tabC (szF (wtF (lst 256 (fun _ => 5))))) (tabV (szF (wtF (lst 256 (fun _ => 5))))) i = 9 := fun i hi =>
  alike_codes (wtF_wt _) (fun j hj => by rw [lst_wt _ _ _ hj, if_pos hj]; rfl) i hi
theorem none_facts : tabV (szF (wtF [])) = [] := (tab_none (wtF_wt []) (fun v hv => by rw [wtF_out [] v (Nat.zero_le _) hv]; omega)).1

theorem best_nil (w : World) : Calls Try.prog 11 #[.slice none 0 0] w fun e w' => ∃ c po q, e = .returned (.agg (tbl c (.slice po 0 q)).toArray) ∧ But Nowhere w w' := by
  refine (best_any none 0 [] (by simp) (by simp) (by simp) w (View.nil _ _)).mono ?_
  rintro e y ⟨p, rfl, v, d⟩
  rw [none_facts] at v
  obtain ⟨a, q, rfl⟩ : ∃ a q, p = .slice a 0 q := v.slice
  exact ⟨_, a, q, rfl, d⟩

end Go.Proofs.Ytlpeplihbdcklaa
