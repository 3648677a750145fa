/- What the document's Standard of layer 10 answers. -/
import Derived.Test.YtadcfndjbhcfbaaHuStd
import Derived.Test.YtadcfndjbhcfbaaHuArg
import Derived.Great.BuildSlice
namespace Go.Proofs.Ytadcfndjbhcfbaa
set_option linter.unusedVariables false
open Go.ChangeShapes Go.WideShapes Go.ChangeAt Go.RowKit

/-- All cells of a block laid anew, of any kind. -/
theorem Cells.lay_any {t : TypeId} {b : Nat} : ∀ (m : List Value) {W : World} (pre rest : List Value) (_ : Cells W b t (pre ++ rest)) (_ : m.length = rest.length), Cells (W.setCells b pre.length m) b t (pre ++ m)
  | [], W, pre, [], h, _ => h
  | v :: m, W, pre, r :: rest, h, hl => by
    have h1 := h.set pre.length v
    have e : (pre ++ r :: rest).set pre.length v = (pre ++ [v]) ++ rest := by
      rw [List.set_append_right _ _ (Nat.le_refl _), Nat.sub_self]
      simp
    rw [e] at h1
    have h2 := Cells.lay_any m (pre ++ [v]) rest h1 (by simpa using hl)
    have e2 : (pre ++ [v]).length = pre.length + 1 := by simp
    rw [e2, List.append_assoc] at h2
    exact h2

theorem Keep.laid_any {w W : World} {l : List Bk} {b : Nat} {t : TypeId} {c : List Value} (h : Keep w W ((b, t, c) :: l)) (m : List Value) (hm : m.length = c.length) : Keep w (W.setCells b 0 m) ((b, t, m) :: l) := by
  have hp := List.pairwise_cons.1 h.apart
  have hS : But (fun x => x = b) W (W.setCells b 0 m) := But.setCells (S := fun x => x = b) _ (But.refl _ _) (fun _ => rfl) 0
  refine ⟨But.setCells _ h.but (fun q => by have := h.new (b, t, c) (by simp); simp at this q; omega) 0, fun x hx => ?_, fun x hx => ?_, List.pairwise_cons.2 ⟨hp.1, hp.2⟩⟩
  · rcases List.mem_cons.1 hx with rfl | hx
    · exact h.new (b, t, c) (by simp)
    · exact h.new x (by simp [hx])
  · rcases List.mem_cons.1 hx with rfl | hx
    · exact Cells.lay_any m [] c h.head hm
    · exact (h.holds x (by simp [hx])).but hS (Ne.symm (hp.1 x hx))

set_option maxHeartbeats 6400000 in
set_option maxRecDepth 100000 in
theorem refStandard_0 (w : World) : Calls Try.prog 14 #[.int .i64 0, .int .i64 0] w fun e w' => ∃ g, e = .returned (.agg (tbl (stdc 0) (.slice (some ⟨g, 0, none⟩) 12 12)).toArray) ∧ Keep w w' [(g, 5, ints .u8 (stdL 0))] := by
  have HU : Hid (Try.prog.underlying 23 = some (.slice 5) ∧ (Try.prog.info? 5).map (·.size) = some 1 ∧ ((Try.prog.info? 5).bind (·.zero)).isSome = true) := ⟨Try.underlying23, by kernel_rfl, by kernel_rfl⟩
  have hu := Try.underlying25
  have hi : (Try.prog.info? 25).map (fun i => i.size) = some (tbl (stdc 0) (.slice (some ⟨w.heap.size + 1, 0, none⟩) 12 12)).length := by rw [tbl_length]; kernel_rfl
  have kX := ((Keep.start w).made 25 (tbl (fun _ => 0) (.slice none 0 0))).made 5 (ints .u8 (stdL 0))
  simp only [World.size_alloc] at kX
  replace kX := kX.swap
  have hth := kX.head.there 0 (tbl (stdc 0) (.slice (some ⟨w.heap.size + 1, 0, none⟩) 12 12)).toArray.size (by simp [tbl_length])
  have kY := kX.laid_any (tbl (stdc 0) (.slice (some ⟨w.heap.size + 1, 0, none⟩) 12 12)) (by simp [tbl_length])
  have HX : Hid _ := kY
  clear kX kY
  go_enter Try.func14, Try.ntmps14
  go_wp2_with (first | (refine wpList_buildFlatAt rfl 23 5 12 _ rfl .u8 stdL0 (w.heap.size + 1) (by simp [World.size_alloc]) _ rfl HU.out.1 HU.out.2.1 HU.out.2.2 (by kernel_rfl) (by decide) (by decide) (by kernel_rfl) ?_) | refine wpList_store_mid rfl 25 (.tmp 4) (.tmp 13) rfl w.heap.size 0 (tbl (stdc 0) (.slice (some ⟨w.heap.size + 1, 0, none⟩) 12 12)).toArray rfl rfl ?_ (by rw [List.size_toArray, tbl_length]; kernel_rfl) (by kernel_rfl) ?_; exact hth)
  try simp only [Act.put]
  exact bodyPost_ret (results_cells (l := tbl (stdc 0) (.slice (some ⟨w.heap.size + 1, 0, none⟩) 12 12)) rfl HX.out.head hu rfl hi _ rfl) rfl ⟨_, rfl, HX.out.drop⟩

set_option maxHeartbeats 6400000 in
set_option maxRecDepth 100000 in
theorem refStandard_1 (b : Int) (hb : ¬ b = 0) (w : World) : Calls Try.prog 14 #[.int .i64 0, .int .i64 b] w fun e w' => ∃ g, e = .returned (.agg (tbl (stdc 1) (.slice (some ⟨g, 0, none⟩) 12 12)).toArray) ∧ Keep w w' [(g, 5, ints .u8 (stdL 1))] := by
  have HU : Hid (Try.prog.underlying 23 = some (.slice 5) ∧ (Try.prog.info? 5).map (·.size) = some 1 ∧ ((Try.prog.info? 5).bind (·.zero)).isSome = true) := ⟨Try.underlying23, by kernel_rfl, by kernel_rfl⟩
  have hu := Try.underlying25
  have hi : (Try.prog.info? 25).map (fun i => i.size) = some (tbl (stdc 1) (.slice (some ⟨w.heap.size + 1, 0, none⟩) 12 12)).length := by rw [tbl_length]; kernel_rfl
  have kX := ((Keep.start w).made 25 (tbl (fun _ => 0) (.slice none 0 0))).made 5 (ints .u8 (stdL 1))
  simp only [World.size_alloc] at kX
  replace kX := kX.swap
  have hth := kX.head.there 0 (tbl (stdc 1) (.slice (some ⟨w.heap.size + 1, 0, none⟩) 12 12)).toArray.size (by simp [tbl_length])
  have kY := kX.laid_any (tbl (stdc 1) (.slice (some ⟨w.heap.size + 1, 0, none⟩) 12 12)) (by simp [tbl_length])
  have HX : Hid _ := kY
  clear kX kY
  go_enter Try.func14, Try.ntmps14
  go_wp2_with (first | (refine wpList_buildFlatAt rfl 23 5 12 _ rfl .u8 stdL1 (w.heap.size + 1) (by simp [World.size_alloc]) _ rfl HU.out.1 HU.out.2.1 HU.out.2.2 (by kernel_rfl) (by decide) (by decide) (by kernel_rfl) ?_) | refine wpList_store_mid rfl 25 (.tmp 4) (.tmp 18) rfl w.heap.size 0 (tbl (stdc 1) (.slice (some ⟨w.heap.size + 1, 0, none⟩) 12 12)).toArray rfl rfl ?_ (by rw [List.size_toArray, tbl_length]; kernel_rfl) (by kernel_rfl) ?_; exact hth)
  try simp only [Act.put]
  exact bodyPost_ret (results_cells (l := tbl (stdc 1) (.slice (some ⟨w.heap.size + 1, 0, none⟩) 12 12)) rfl HX.out.head hu rfl hi _ rfl) rfl ⟨_, rfl, HX.out.drop⟩

set_option maxHeartbeats 6400000 in
set_option maxRecDepth 100000 in
theorem refStandard_2 (a : Int) (ha : ¬ a = 0) (w : World) : Calls Try.prog 14 #[.int .i64 a, .int .i64 0] w fun e w' => ∃ g, e = .returned (.agg (tbl (stdc 2) (.slice (some ⟨g, 0, none⟩) 162 162)).toArray) ∧ Keep w w' [(g, 5, ints .u8 (stdL 2))] := by
  have HU : Hid (Try.prog.underlying 23 = some (.slice 5) ∧ (Try.prog.info? 5).map (·.size) = some 1 ∧ ((Try.prog.info? 5).bind (·.zero)).isSome = true) := ⟨Try.underlying23, by kernel_rfl, by kernel_rfl⟩
  have hu := Try.underlying25
  have hi : (Try.prog.info? 25).map (fun i => i.size) = some (tbl (stdc 2) (.slice (some ⟨w.heap.size + 1, 0, none⟩) 162 162)).length := by rw [tbl_length]; kernel_rfl
  have kX := ((Keep.start w).made 25 (tbl (fun _ => 0) (.slice none 0 0))).made 5 (ints .u8 (stdL 2))
  simp only [World.size_alloc] at kX
  replace kX := kX.swap
  have hth := kX.head.there 0 (tbl (stdc 2) (.slice (some ⟨w.heap.size + 1, 0, none⟩) 162 162)).toArray.size (by simp [tbl_length])
  have kY := kX.laid_any (tbl (stdc 2) (.slice (some ⟨w.heap.size + 1, 0, none⟩) 162 162)) (by simp [tbl_length])
  have HX : Hid _ := kY
  clear kX kY
  go_enter Try.func14, Try.ntmps14
  go_wp2_with (first | (refine wpList_buildFlatAt rfl 23 5 162 _ rfl .u8 stdL2 (w.heap.size + 1) (by simp [World.size_alloc]) _ rfl HU.out.1 HU.out.2.1 HU.out.2.2 (by kernel_rfl) (by decide) (by decide) (by kernel_rfl) ?_) | refine wpList_store_mid rfl 25 (.tmp 4) (.tmp 23) rfl w.heap.size 0 (tbl (stdc 2) (.slice (some ⟨w.heap.size + 1, 0, none⟩) 162 162)).toArray rfl rfl ?_ (by rw [List.size_toArray, tbl_length]; kernel_rfl) (by kernel_rfl) ?_; exact hth)
  try simp only [Act.put]
  exact bodyPost_ret (results_cells (l := tbl (stdc 2) (.slice (some ⟨w.heap.size + 1, 0, none⟩) 162 162)) rfl HX.out.head hu rfl hi _ rfl) rfl ⟨_, rfl, HX.out.drop⟩

set_option maxHeartbeats 6400000 in
set_option maxRecDepth 100000 in
theorem refStandard_3 (a b : Int) (ha : ¬ a = 0) (hb : ¬ b = 0) (w : World) : Calls Try.prog 14 #[.int .i64 a, .int .i64 b] w fun e w' => ∃ g, e = .returned (.agg (tbl (stdc 3) (.slice (some ⟨g, 0, none⟩) 162 162)).toArray) ∧ Keep w w' [(g, 5, ints .u8 (stdL 3))] := by
  have HU : Hid (Try.prog.underlying 23 = some (.slice 5) ∧ (Try.prog.info? 5).map (·.size) = some 1 ∧ ((Try.prog.info? 5).bind (·.zero)).isSome = true) := ⟨Try.underlying23, by kernel_rfl, by kernel_rfl⟩
  have hu := Try.underlying25
  have hi : (Try.prog.info? 25).map (fun i => i.size) = some (tbl (stdc 3) (.slice (some ⟨w.heap.size + 1, 0, none⟩) 162 162)).length := by rw [tbl_length]; kernel_rfl
  have kX := ((Keep.start w).made 25 (tbl (fun _ => 0) (.slice none 0 0))).made 5 (ints .u8 (stdL 3))
  simp only [World.size_alloc] at kX
  replace kX := kX.swap
  have hth := kX.head.there 0 (tbl (stdc 3) (.slice (some ⟨w.heap.size + 1, 0, none⟩) 162 162)).toArray.size (by simp [tbl_length])
  have kY := kX.laid_any (tbl (stdc 3) (.slice (some ⟨w.heap.size + 1, 0, none⟩) 162 162)) (by simp [tbl_length])
  have HX : Hid _ := kY
  clear kX kY
  go_enter Try.func14, Try.ntmps14
  go_wp2_with (first | (refine wpList_buildFlatAt rfl 23 5 162 _ rfl .u8 stdL3 (w.heap.size + 1) (by simp [World.size_alloc]) _ rfl HU.out.1 HU.out.2.1 HU.out.2.2 (by kernel_rfl) (by decide) (by decide) (by kernel_rfl) ?_) | refine wpList_store_mid rfl 25 (.tmp 4) (.tmp 26) rfl w.heap.size 0 (tbl (stdc 3) (.slice (some ⟨w.heap.size + 1, 0, none⟩) 162 162)).toArray rfl rfl ?_ (by rw [List.size_toArray, tbl_length]; kernel_rfl) (by kernel_rfl) ?_; exact hth)
  try simp only [Act.put]
  exact bodyPost_ret (results_cells (l := tbl (stdc 3) (.slice (some ⟨w.heap.size + 1, 0, none⟩) 162 162)) rfl HX.out.head hu rfl hi _ rfl) rfl ⟨_, rfl, HX.out.drop⟩

/-- How many values a table has. -/
def stdN (i : Nat) : Nat := if i < 2 then 12 else 162

theorem refStandard_any (a b : Int) (w : World) : Calls Try.prog 14 #[.int .i64 a, .int .i64 b] w fun e w' => ∃ g, e = .returned (.agg (tbl (stdc (stdIx a b)) (.slice (some ⟨g, 0, none⟩) (stdN (stdIx a b)) (stdN (stdIx a b)))).toArray) ∧ Keep w w' [(g, 5, ints .u8 (stdL (stdIx a b)))] := by
  by_cases ha : a = 0
  · by_cases hb : b = 0
    · subst ha; subst hb
      exact refStandard_0 w
    · subst ha
      have e : stdIx 0 b = 1 := by unfold stdIx; rw [if_pos rfl, if_neg hb]
      rw [e]
      exact refStandard_1 b hb w
  · by_cases hb : b = 0
    · subst hb
      have e : stdIx a 0 = 2 := by unfold stdIx; rw [if_neg ha, if_pos rfl]
      rw [e]
      exact refStandard_2 a ha w
    · have e : stdIx a b = 3 := by unfold stdIx; rw [if_neg ha, if_neg hb]
      rw [e]
      exact refStandard_3 a b ha hb w

end Go.Proofs.Ytadcfndjbhcfbaa
