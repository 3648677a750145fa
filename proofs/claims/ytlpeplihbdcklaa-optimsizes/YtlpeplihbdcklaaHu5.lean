/- Some table of choices: the law's Table of layer 10. -/
import Derived.Test.YtlpeplihbdcklaaHu4
import Derived.Test.YtlpeplihbdcklaaLst
import Derived.Test.YtlpeplihbdcklaaBld
namespace Go.Proofs.Ytlpeplihbdcklaa
set_option linter.unusedVariables false
open Go.ChangeShapes Go.WideShapes Go.ChangeAt Go.RowKit

/-- At an append whose run is known, in a region that draws. -/
theorem wp_append_run {P : Program} {w : World} {o : Oper} {a : Act} {K : Act → World → Prop} {Q : Exit → Act → World → Prop} (s x : Operand) (t : TypeId)
    (ho : o.op = .call { callee := .builtin .append, args := #[s, x], argTypes := #[t, t] }) (v u : Value) (hs : a.eval s = v) (hx : a.eval x = u) (v' : Value) (w' : World)
    (hr : (Builtin.append_ #[t, t] o.type #[v, u]).run P w = .ok v' w') (h : K (a.put o.dst v') w') : o.wp P a w K Q := by
  unfold Oper.wp execOp
  simp only [ho, resolve, invoke, builtin, Sem.run_bind, Sem.run_pure, Result.andThen_ok, List.map_toArray, List.map_cons, List.map_nil, hs, hx, hr]
  exact h

theorem Try.elemByte : ElemInfo Try.prog 23 5 (.int .u8 0) 1 1 := ⟨Try.underlying23, by kernel_rfl, rfl, by omega⟩

theorem tbl_set (c : Nat → Int) (pv : Value) (j : Nat) (h : j < 16) (x : Int) : (tbl c pv).set j (.int .i64 x) = tbl (upd c j x) pv := by
  unfold tbl
  rw [List.set_append_left _ _ (by rw [tab_length]; exact h), tab_set]
theorem tbl_setV (c : Nat → Int) (pv v : Value) : (tbl c pv).set 16 v = tbl c v := by
  unfold tbl
  rw [List.set_append_right _ _ (by rw [tab_length]; omega), tab_length]
  rfl

theorem pow16 (n : Nat) (h : n < 17) : (2 : Int) ^ n ≤ 65536 := (show ∀ n, n < 17 → (2 : Int) ^ n ≤ 65536 by decide) n h

theorem tmod_bd (y m : Int) (h : 0 ≤ y) : ∃ q, y.tmod m = q ∧ 0 ≤ q ∧ q ≤ y := by
  refine ⟨_, rfl, ?_⟩
  obtain ⟨a, rfl⟩ := Int.eq_ofNat_of_zero_le h
  have key : ∀ b : Nat, (0 : Int) ≤ ((a % b : Nat) : Int) ∧ ((a % b : Nat) : Int) ≤ (a : Int) := fun b => by
    have := Nat.mod_le a b
    omega
  cases m with
  | ofNat b => exact key b
  | negSucc b => exact key (b + 1)

/-- A table that is being made in block NB: its list lies elsewhere. -/
structure TJ (w w9 V : World) (NB : Nat) (cs : Nat → Int) (xs : List Int) (pv : Value) : Prop where
  lst : Lst w V 5 1 pv xs.length (ints .u8 xs)
  tab : Cells V NB 30 (tbl cs pv)
  but : But (fun x => x = NB) w9 V
  new : ∀ x, pv.ownBlock = some x → w9.heap.size ≤ x
  nb : NB < w9.heap.size
  wn : w.heap.size ≤ NB

theorem TJ.step {w w9 V V' : World} {NB : Nat} {cs : Nat → Int} {xs : List Int} {pv : Value} (h : TJ w w9 V NB cs xs pv) (hb : But Nowhere V V') : TJ w w9 V' NB cs xs pv :=
  ⟨h.lst.step hb, h.tab.but hb (not_nowhere _), h.but.step hb (fun _ _ f => f.elim), h.new, h.nb, h.wn⟩

theorem TJ.count {w w9 V : World} {NB : Nat} {cs : Nat → Int} {xs : List Int} {pv : Value} (h : TJ w w9 V NB cs xs pv) (j : Nat) (hj : j < 16) (x : Int) : TJ w w9 (V.setCell ⟨NB, j, none⟩ (.int .i64 x)) NB (upd cs j x) xs pv := by
  have hS : But (fun x => x = NB) V (V.setCell ⟨NB, j, none⟩ (.int .i64 x)) := But.setCell (S := fun x => x = NB) (p := ⟨NB, j, none⟩) (But.refl _ _) (fun _ => rfl) _
  refine ⟨h.lst.stepS hS (fun k hk e => by have := h.new k hk; have := h.nb; omega) (fun k e => by have := h.wn; omega), ?_, h.but.setCell (p := ⟨NB, j, none⟩) (fun _ => rfl) _, h.new, h.nb, h.wn⟩
  have := h.tab.set j (.int .i64 x)
  rwa [tbl_set _ _ _ hj] at this

set_option maxHeartbeats 800000 in
theorem TJ.push {w w9 V : World} {NB : Nat} {cs : Nat → Int} {xs : List Int} {pv : Value} (h : TJ w w9 V NB cs xs pv) (a : Int) (hn : xs.length ≤ 10000000) (B : Nat) (hB : V.heap.size = B) :
    ∃ g cap W4, (Builtin.append_ #[23, 23] 23 #[pv, .slice (some ⟨B, 0, none⟩) 1 1]).run Try.prog (V.alloc (.cells [.int .u8 a].toArray 5)) = .ok (.slice (some ⟨g, 0, none⟩) (xs.length + 1) cap) W4 ∧ W4.cell? ⟨NB, 16, none⟩ = some pv ∧ W4.frozen? ⟨NB, 16, none⟩ = false ∧
      TJ w w9 (W4.setCell ⟨NB, 16, none⟩ (.slice (some ⟨g, 0, none⟩) (xs.length + 1) cap)) NB cs (xs ++ [a]) (.slice (some ⟨g, 0, none⟩) (xs.length + 1) cap) ∧ ∀ (p : Addr) (u : Value), p.block < w9.heap.size → V.cell? p = some u → W4.cell? p = some u := by
  subst hB
  obtain ⟨g, cap, W4, hrun, L4, b4, hg4⟩ := Lst.push Try.elemByte h.lst [.int .u8 a] rfl (by simp [Value.oneCell']) (by omega) (by omega) _ rfl
  have hM4 := h.tab.but b4 (fun e => by have := h.new _ e; have := h.nb; omega)
  have hsz := h.but.size
  have hgn : w9.heap.size ≤ g := by
    rcases hg4 with e | e
    · exact h.new g e
    · omega
  have hnb := h.nb
  have hwn := h.wn
  refine ⟨g, cap, W4, hrun, hM4.vals, hM4.frozen 16, ⟨?_, ?_, ?_, fun x hx => ?_, hnb, hwn⟩, fun p u hp hpu => b4.keeps (fun e => by have := h.new _ e; omega) hpu⟩
  · have := L4.stepS (S := fun x => x = NB) (But.setCell (S := fun x => x = NB) (p := ⟨NB, 16, none⟩) (But.refl _ _) (fun _ => rfl) (.slice (some ⟨g, 0, none⟩) (xs.length + 1) cap)) (fun x hx' e => by simp [Value.ownBlock] at hx'; omega) (fun x e => by omega)
    rw [ints_append, List.length_append]
    exact this
  · have := hM4.set 16 (.slice (some ⟨g, 0, none⟩) (xs.length + 1) cap)
    rwa [tbl_setV] at this
  · exact (h.but.step b4 (fun x hx e => by have := h.new x e; omega)).setCell (p := ⟨NB, 16, none⟩) (fun _ => rfl) _
  · simp [Value.ownBlock] at hx
    omega

theorem tbl_all (c : Nat → Int) (po : Option Addr) (n m : Nat) : (tbl c (.slice po n m)).toArray.all (·.oneCell') = true := all_oneCell_toArray (fun v hv => by
  unfold tbl at hv
  rcases List.mem_append.1 hv with h | h
  · exact tab_one _ _ _ v h
  · simp at h; subst h; rfl)

/-- What stands when the table is told. -/
theorem table_end {w V : World} {cs : Nat → Int} {po : Option Addr} {LN pc : Nat} {ys : List Int} (hS0 : Cells V w.heap.size 30 (Value.int .i64 0 :: Value.int .i64 0 :: Value.int .i64 0 :: Value.int .i64 0 :: Value.int .i64 0 :: Value.int .i64 0 :: Value.int .i64 0 :: Value.int .i64 0 :: Value.int .i64 0 :: Value.int .i64 0 :: Value.int .i64 0 :: Value.int .i64 0 :: Value.int .i64 0 :: Value.int .i64 0 :: Value.int .i64 0 :: Value.int .i64 0 :: Value.slice none 0 0 :: [])) (hv : View V .u8 (.slice po LN pc) ys) (hb : But Nowhere w V) (hoff : ∀ b off sp, po = some ⟨b, off, sp⟩ → LN ≠ 0 → b ≠ w.heap.size) :
    V.there w.heap.size 0 (tbl cs (.slice po LN pc)).toArray.size ∧ Cells (V.setCells w.heap.size 0 (tbl cs (.slice po LN pc))) w.heap.size 30 (tbl cs (.slice po LN pc)) ∧ View (V.setCells w.heap.size 0 (tbl cs (.slice po LN pc))) .u8 (.slice po LN pc) ys ∧ But Nowhere w (V.setCells w.heap.size 0 (tbl cs (.slice po LN pc))) := by
  refine ⟨hS0.there 0 _ (by simp [tbl_length]), Cells.lay_any (tbl cs (.slice po LN pc)) [] (Value.int .i64 0 :: Value.int .i64 0 :: Value.int .i64 0 :: Value.int .i64 0 :: Value.int .i64 0 :: Value.int .i64 0 :: Value.int .i64 0 :: Value.int .i64 0 :: Value.int .i64 0 :: Value.int .i64 0 :: Value.int .i64 0 :: Value.int .i64 0 :: Value.int .i64 0 :: Value.int .i64 0 :: Value.int .i64 0 :: Value.int .i64 0 :: Value.slice none 0 0 :: []) hS0 (by rw [tbl_length]; rfl), ?_, But.setCells _ hb (fun q => by omega) 0⟩
  refine View.butS (S := fun x => x = w.heap.size) hv (But.setCells (S := fun x => x = w.heap.size) _ (But.refl _ _) (fun _ => rfl) 0) (fun b off sp n c e hn => ?_)
  simp only [Value.slice.injEq] at e
  obtain ⟨rfl, rfl, rfl⟩ := e
  exact hoff b off sp rfl hn

end Go.Proofs.Ytlpeplihbdcklaa
