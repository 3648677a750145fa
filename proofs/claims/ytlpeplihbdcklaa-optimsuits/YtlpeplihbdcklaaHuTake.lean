/- A struct literal of two parts, as an operation. -/
import Derived.Test.YtlpeplihbdcklaaKeep
import Derived.Test.YtlpeplihbdcklaaBld
namespace Go.Proofs.Ytlpeplihbdcklaa
open Go.ChangeShapes Go.WideShapes Go.ChangeAt Go.RowKit

theorem exec_two {P : Program} {f : Operand → Value} {o : Oper} {w : World} {t : TypeId} {x y : Operand} {a b v : Value} (ho : o.op = .build t #[(0, x), (1, y)]) (hx : f x = a) (hy : f y = b)
    (h : (Instr.build t #[(0, a), (1, b)]).run P w = .ok v w) : (execOp f o).run P w = .ok (.value v) w := by
  unfold execOp
  simp only [ho, List.map_toArray, List.map_cons, List.map_nil, hx, hy, Sem.run_bind, h, Result.andThen_ok]
  rfl

theorem exec_one {P : Program} {f : Operand → Value} {o : Oper} {w : World} {t : TypeId} {i : Nat} {x : Operand} {a v : Value} (ho : o.op = .build t #[(i, x)]) (hx : f x = a)
    (h : (Instr.build t #[(i, a)]).run P w = .ok v w) : (execOp f o).run P w = .ok (.value v) w := by
  unfold execOp
  simp only [ho, List.map_toArray, List.map_cons, List.map_nil, hx, Sem.run_bind, h, Result.andThen_ok]
  rfl

theorem exec_none {P : Program} {f : Operand → Value} {o : Oper} {w : World} {t : TypeId} {v : Value} (ho : o.op = .build t #[])
    (h : (Instr.build t #[]).run P w = .ok v w) : (execOp f o).run P w = .ok (.value v) w := by
  unfold execOp
  simp only [ho, List.map_toArray, List.map_nil, Sem.run_bind, h, Result.andThen_ok]
  rfl

/-- At the list of a plain region's operations. -/
theorem wpList_value {P : Program} {ops : Array Oper} {rest : List Oper} {o : Oper} {a : Act} {w : World} {Q : Exit → Act → World → Prop} {v : Value} (hg : o.guard = none) (h : (execOp a.eval o).run P w = .ok (.value v) w)
    (hK : wpList P ops Q rest (a.put o.dst v) w) : wpList P ops Q (o :: rest) a w :=
  wpList_plain hg fun K hk => by
    unfold Oper.wp
    rw [h]
    exact hk _ _ hK

theorem next_mod (a n : Nat) (hn : 2 ≤ n) : a % n ≠ (a + 1) % n := by
  have h := Nat.mod_lt a (show 0 < n by omega)
  rw [Nat.add_mod, Nat.mod_eq_of_lt (show 1 < n by omega)]
  generalize a % n = r at *
  by_cases e : r + 1 < n
  · rw [Nat.mod_eq_of_lt e]; omega
  · rw [show r + 1 = n by omega, Nat.mod_self]; omega

theorem exec_rem {f : Operand → Value} {o : Oper} {w : World} {x y : Operand} {a b : Int} (ho : o.op = .binOp .rem 3 x y 3) (hx : f x = .int .i64 a) (hy : f y = .int .i64 b) (hb : ¬ b = 0) :
    (execOp f o).run Try.prog w = .ok (.value (.int .i64 (a.tmod b))) w := by
  have hu := Try.underlying3
  unfold execOp
  simp only [ho, hx, hy]
  go_simp

/-- The literal of one element, in a plain region. -/
theorem wpList_build_one {P : Program} {st t : TypeId} {z : Value} {size bytes : Nat} (E : ElemInfo P st t z size bytes) {w : World} {ops : Array Oper} {rest : List Oper} {o : Oper} {a : Act} {Q : Exit → Act → World → Prop} (hg : o.guard = none) (x : Operand)
    (ho : o.op = .buildSlice st 1 #[(0, x)]) (v : Value) (hx : a.eval x = v) (news : List Value) (hv : v.cells = news.toArray) (hl : news.length = size) (hsm : size ≤ 100000) (B : Nat) (hB : w.heap.size = B)
    (h : wpList P ops Q rest (a.put o.dst (.slice (some ⟨B, 0, none⟩) 1 1)) (w.alloc (.cells news.toArray t))) : wpList P ops Q (o :: rest) a w :=
  wpList_plain hg fun _ hK => wp_build_one E x ho v hx news hv hl hsm B hB (hK _ _ h)

end Go.Proofs.Ytlpeplihbdcklaa
