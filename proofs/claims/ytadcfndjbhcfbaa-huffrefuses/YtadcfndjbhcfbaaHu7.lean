/- All codes, as one value: a place of them; two that are the same. -/
import Derived.Test.YtadcfndjbhcfbaaHu2
import Derived.Laws.StructEq
namespace Go.Proofs.Ytadcfndjbhcfbaa
set_option linter.unusedVariables false
open Go.ChangeShapes Go.WideShapes Go.ChangeAt Go.RowKit

theorem isAggC (w : World) : (isAgg 36).run Try.prog w = .ok true w := by
  have h := Try.underlying36
  simp [isAgg, run_underlying h, go_sem]

theorem sizeOfC (w : World) : (sizeOf 36).run Try.prog w = .ok 2 w := by
  have h : (Try.prog.info? 36).isSome = true := by kernel_rfl
  obtain ⟨i, hi⟩ := Option.isSome_iff_exists.1 h
  have hc : Try.prog.cellsOf 36 = 2 := by kernel_rfl
  rw [run_sizeOf w hi, hc]

theorem tab_two (n : Nat) (f : Nat → Int) (k : Nat) (hk : k + 1 < n) : List.take 2 (List.drop k (tab .i64 n f)) = [.int .i64 (f k), .int .i64 (f (k + 1))] := by
  have hl : k < (tab .i64 n f).length := by rw [tab_length]; omega
  have hl2 : k + 1 < (tab .i64 n f).length := by rw [tab_length]; omega
  have h := tab_at .i64 n f k (by omega)
  have h2 := tab_at .i64 n f (k + 1) hk
  rw [List.getElem?_eq_getElem hl] at h
  rw [List.getElem?_eq_getElem hl2] at h2
  rw [List.drop_eq_getElem_cons hl, List.take_succ_cons, List.drop_eq_getElem_cons hl2, List.take_succ_cons, List.take_zero, Option.some.inj h, Option.some.inj h2]

theorem part_code (f : Nat → Int) (k : Nat) (hk : k < 256) (w : World) : (part 36 (tab .i64 512 f).toArray (k * 2)).run Try.prog w = .ok (.agg #[.int .i64 (f (k * 2)), .int .i64 (f (k * 2 + 1))]) w := by
  have ha := tab_two 512 f (k * 2) (by omega)
  have hA := isAggC
  have hS := sizeOfC
  simp [part, hA, hS, ha, go_sem]

theorem index_code (f : Nat → Int) (k : Nat) (hk : k < 256) (w : World) : (Instr.index 37 (.agg (tab .i64 512 f).toArray) (.int .i64 (k : Int))).run Try.prog w = .ok (.agg #[.int .i64 (f (k * 2)), .int .i64 (f (k * 2 + 1))]) w := by
  have h := Try.underlying37
  have h0 : 0 ≤ (k : Int) ∧ (k : Int) < ((256 : Nat) : Int) := by omega
  have hp := part_code f k hk w
  have hS := sizeOfC
  simp [Instr.index, run_underlying h, asIntOf, h0, hS, hk, part, go_sem]
  exact tab_two 512 f (k * 2) (by omega)

theorem equal_code (a b : Int) (d : Nat) (w : World) : (Op.equalIn (d + 3) 36 (.agg #[.int .i64 a, .int .i64 b]) (.agg #[.int .i64 a, .int .i64 b])).run Try.prog w = .ok true w := by
  rw [run_equalIn_struct w (d + 2) 36 _ _ (by kernel_rfl) (by kernel_rfl)]
  have hf : (Try.prog.fieldsOf 36).toList = [{ name := "N", type := 3, offset := 0, embedded := false, tag := "", pkgPath := "", byteOffset := 0 }, { name := "V", type := 3, offset := 1, embedded := false, tag := "", pkgPath := "", byteOffset := 8 }] := by kernel_rfl
  rw [hf]
  have he := Try.underlying3
  have p0 : (part 3 #[.int .i64 a, .int .i64 b] 0).run Try.prog w = .ok (.int .i64 a) w := by simp [part, isAgg, run_underlying he]
  have p1 : (part 3 #[.int .i64 a, .int .i64 b] 1).run Try.prog w = .ok (.int .i64 b) w := by simp [part, isAgg, run_underlying he]
  have e0 := run_equalIn_int w (d + 1) 3 .i64 .i64 a a he
  have e1 := run_equalIn_int w (d + 1) 3 .i64 .i64 b b he
  simp [Op.eqFields, p0, p1, e0, e1]

theorem equal_codes (f : Nat → Int) (w : World) : (Op.equalIn 10000 37 (.agg (tab .i64 512 f).toArray) (.agg (tab .i64 512 f).toArray)).run Try.prog w = .ok true w := by
  have ht := Try.underlying37
  have hsz := sizeOfC
  rw [show (10000 : Nat) = 9999 + 1 from rfl, Op.equalIn]
  simp only [Sem.run_bind, run_underlying ht, Result.andThen_ok, hsz, Std.Legacy.Range.forIn_eq_forIn_range', Std.Legacy.Range.size, Nat.sub_zero, Nat.add_sub_cancel, Nat.div_one]
  have hl : ∀ i ∈ List.range' 0 256 1, i < 256 := fun i hi => by simpa using (List.mem_range'_1.1 hi).2
  generalize List.range' 0 256 1 = l at hl ⊢
  induction l with
  | nil => simp
  | cons i l ih =>
    have hi : i < 256 := hl i (by simp)
    have px := part_code f i hi w
    have pe := equal_code (f (i * 2)) (f (i * 2 + 1)) 9996 w
    simp only [List.forIn_cons, Sem.run_bind, px, pe, Result.andThen_ok]
    simp only [Bool.not_true, Bool.false_eq_true, if_false, Sem.run_pure, Result.andThen_ok]
    exact ih fun j hj => hl j (by simp [hj])

end Go.Proofs.Ytadcfndjbhcfbaa
