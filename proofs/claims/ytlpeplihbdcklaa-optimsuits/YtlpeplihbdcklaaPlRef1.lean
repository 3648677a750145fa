/- The document's Sides, Side and Grid; the chapter's example; Sides of both alike. -/
import Derived.Test.YtlpeplihbdcklaaPl1
namespace Go.Proofs.Ytlpeplihbdcklaa
open Go.ChangeShapes Go.WideShapes Go.ChangeAt Go.RowKit

theorem all_range_nums : ∀ (xs ys : List Int), xs.length = ys.length → ((List.range xs.length).all fun i => xs.getD i 0 == ys.getD i 0) = (xs == ys)
  | [], [], _ => rfl
  | x :: xs, y :: ys, h => by
    have ih := all_range_nums xs ys (by simpa using h)
    rw [List.length_cons, List.range_succ_eq_map, List.all_cons, List.all_map]
    simp only [List.getD_cons_zero, Function.comp_def, List.getD_cons_succ, ih]
    simp [List.cons_beq_cons]
  | [], _ :: _, h => by simp at h
  | _ :: _, [], h => by simp at h

/-- Two arrays of numbers are the same, if their numbers are. -/
theorem run_equalIn_nums {P : Program} (w : World) (d : Nat) (t e : TypeId) (n : Nat) (ht : P.underlying t = some (.array n e)) (he : P.underlying e = some (.int .i64)) (hsz : ∀ w, (sizeOf e).run P w = .ok 1 w)
    (xs ys : List Int) (hx : xs.length = n) (hy : ys.length = n) :
    (Op.equalIn (d + 2) t (.agg (nums xs).toArray) (.agg (nums ys).toArray)).run P w = .ok (xs == ys) w := by
  rw [← all_range_nums xs ys (hx.trans hy.symm), hx, List.range_eq_range', Op.equalIn]
  simp only [Sem.run_bind, run_underlying ht, Result.andThen_ok, hsz, Std.Legacy.Range.forIn_eq_forIn_range', Std.Legacy.Range.size, Nat.sub_zero, Nat.add_sub_cancel, Nat.div_one]
  have hl : ∀ i ∈ List.range' 0 n 1, i < n := fun i hi => by simpa using (List.mem_range'_1.1 hi).2
  generalize List.range' 0 n 1 = l at hl ⊢
  induction l with
  | nil => simp
  | cons i l ih =>
    have hi : i < n := hl i (by simp)
    have px : (part e (nums xs).toArray (i * 1)).run P w = .ok (.int .i64 (xs.getD i 0)) w := by
      simp [part, isAgg, run_underlying he, List.getD, nums, List.getElem?_eq_getElem (show i < xs.length by omega)]
    have py : (part e (nums ys).toArray (i * 1)).run P w = .ok (.int .i64 (ys.getD i 0)) w := by
      simp [part, isAgg, run_underlying he, List.getD, nums, List.getElem?_eq_getElem (show i < ys.length by omega)]
    have pe : (Op.equalIn (d + 1) e (.int .i64 (xs.getD i 0)) (.int .i64 (ys.getD i 0))).run P w = .ok (xs.getD i 0 == ys.getD i 0) w := run_equalIn_int w d e .i64 .i64 _ _ he
    simp only [List.forIn_cons, Sem.run_bind, px, py, pe, Result.andThen_ok, List.all_cons]
    cases hb : (xs.getD i 0 == ys.getD i 0)
    · simp
    · simp only [Bool.not_true, Bool.false_eq_true, if_false, Sem.run_pure, Result.andThen_ok, Bool.true_and]
      exact ih fun j hj => hl j (by simp [hj])

theorem sizeOf_int (w : World) : (sizeOf 3).run Try.prog w = .ok 1 w := by
  have h : (Try.prog.info? 3).isSome = true := by kernel_rfl
  obtain ⟨i, hi⟩ := Option.isSome_iff_exists.1 h
  have hc : Try.prog.cellsOf 3 = 1 := by kernel_rfl
  rw [run_sizeOf w hi, hc]

theorem grid_out (W H m : Int) (h : sideW m = 0 ∨ W < 1 ∨ 65535 < W ∨ H < 1 ∨ 65535 < H) : gridW W H m = 0 ∧ gridH W H m = 0 := by
  unfold gridW gridH
  split
  · rename_i hs
    rw [Bool.and_eq_true] at hs
    have h1 := isSide_in hs.1
    have h2 := isSide_in hs.2
    have h3 : sideW m = 0 := by omega
    have h4 : sideH m = 0 := by
      unfold sideW at h3; unfold sideH
      (repeat' split) <;> first | rfl | (exfalso; simp_all)
    rw [h3, h4]
    constructor <;> (unfold ceilF; rw [if_pos (by omega)])
  · exact ⟨rfl, rfl⟩

theorem side_pos (m : Int) (h : sideW m ≠ 0) : (m = 1 ∨ m = 2 ∨ m = 3 ∨ m = 4) ∧ 8 ≤ sideW m ∧ 8 ≤ sideH m := by
  by_cases hm : 1 ≤ m ∧ m ≤ 4
  · refine ⟨mode_cases hm, ?_⟩
    rcases mode_cases hm with rfl | rfl | rfl | rfl <;> simp [sideW, sideH]
  · exact absurd (side_none m (by omega)).1 h

end Go.Proofs.Ytlpeplihbdcklaa
