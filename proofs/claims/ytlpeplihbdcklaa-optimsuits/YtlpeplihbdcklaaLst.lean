/- Lists that a call has made by append, of elements of any size; lists made at once. No program. -/
import Derived.Test.YtlpeplihbdcklaaKeep
import Derived.Test.YtlpeplihbdcklaaView
import Derived.Laws.MakeOwn
namespace Go.Proofs.Ytlpeplihbdcklaa
open Go.ChangeShapes Go.WideShapes Go.ChangeAt Go.RowKit

/-- What is to be known of a list's element. -/
structure ElemInfo (P : Program) (st t : TypeId) (z : Value) (size bytes : Nat) : Prop where
  under : P.underlying st = some (.slice t)
  info : (P.info? t).map (fun i => (i.zero, i.size, i.bytes)) = some (some z, size, bytes)
  cells : z.cells.size = size
  pos : 0 < size

/-- v is a list in new memory, of n elements with these cells. -/
structure Lst (w w' : World) (t : TypeId) (size : Nat) (v : Value) (n : Nat) (xs : List Value) : Prop where
  own : w'.ownsRow 0 t size v n xs
  new : ∀ x, v.ownBlock = some x → w.heap.size ≤ x
  but : But Nowhere w w'

theorem Lst.start (w : World) (t : TypeId) (size : Nat) : Lst w w t size (.slice none 0 0) 0 [] := ⟨World.ownsRow_nil _ _ _ _, by simp [Value.ownBlock], But.refl _ _⟩

theorem Lst.step {w w1 w2 : World} {t : TypeId} {size : Nat} {v : Value} {n : Nat} {xs : List Value} (h : Lst w w1 t size v n xs) (hb : But Nowhere w1 w2) : Lst w w2 t size v n xs := ⟨hb.owns h.own (fun _ _ f => f), h.new, h.but.trans hb⟩

theorem Lst.stepS {S : Nat → Prop} {w w1 w2 : World} {t : TypeId} {size : Nat} {v : Value} {n : Nat} {xs : List Value} (h : Lst w w1 t size v n xs) (hb : But S w1 w2) (hs : ∀ k, v.ownBlock = some k → ¬ S k) (hn : ∀ k, S k → w.heap.size ≤ k) : Lst w w2 t size v n xs :=
  ⟨hb.owns h.own hs, h.new, h.but.step hb (fun k hk f => by have := hn k f; omega)⟩

theorem Lst.back {w0 w w1 : World} {t : TypeId} {size : Nat} {v : Value} {n : Nat} {xs : List Value} (h : Lst w w1 t size v n xs) (hb : But Nowhere w0 w) : Lst w0 w1 t size v n xs := ⟨h.own, fun x hx => Nat.le_trans hb.size (h.new x hx), hb.trans h.but⟩

theorem Lst.lt {w w1 : World} {t : TypeId} {size : Nat} {v : Value} {n : Nat} {xs : List Value} (h : Lst w w1 t size v n xs) {k : Nat} (hk : v.ownBlock = some k) : k < w1.heap.size := (World.ownsRow.lt h.own k hk).2

theorem Lst.slice {w w1 : World} {t : TypeId} {size : Nat} {v : Value} {n : Nat} {xs : List Value} (h : Lst w w1 t size v n xs) : ∃ a cap, v = .slice a n cap := by
  rcases h.own.2 with ⟨rfl, rfl⟩ | ⟨g, cap, cur, rfl, _⟩
  · exact ⟨none, 0, rfl⟩
  · exact ⟨_, _, rfl⟩

/-- Where its cells lie. -/
theorem Lst.at {w w1 : World} {t : TypeId} {size : Nat} {v : Value} {n : Nat} {xs : List Value} (h : Lst w w1 t size v n xs) (hn : 0 < n) :
    ∃ g cap, v = .slice (some ⟨g, 0, none⟩) n cap ∧ g < w1.heap.size ∧ w.heap.size ≤ g ∧ n ≤ cap ∧ (∀ j u, xs[j]? = some u → w1.cell? ⟨g, j, none⟩ = some u) ∧ ∀ j, w1.frozen? ⟨g, j, none⟩ = false := by
  rcases h.own.2 with ⟨-, e⟩ | ⟨g, cap, cur, rfl, _, hg, hl, hm, _⟩
  · omega
  · refine ⟨g, cap, rfl, (Array.getElem?_eq_some_iff.1 hg).1, h.new g rfl, hl, fun j u hj => ?_, fun j => by simp [World.frozen?, hg]⟩
    have := World.ownsRow.cells h.own (g := g) rfl _ _ hj
    rw [Addr.add_lit] at this
    simpa using this

set_option maxHeartbeats 400000 in
/-- One element more. -/
theorem Lst.push {P : Program} {w w1 : World} {st t : TypeId} {z : Value} {size bytes : Nat} (E : ElemInfo P st t z size bytes) {s : Value} {n : Nat} {xs : List Value} (h : Lst w w1 t size s n xs) (news : List Value) (hl : news.length = size) (h1 : ∀ u ∈ news, u.oneCell' = true) (hn : n ≤ 100000000) (hb : bytes ≤ 10000) (B : Nat) (hB : w1.heap.size = B) :
    ∃ g cap w2, (Builtin.append_ #[st, st] st #[s, .slice (some ⟨B, 0, none⟩) 1 1]).run P (w1.alloc (.cells news.toArray t)) = .ok (.slice (some ⟨g, 0, none⟩) (n + 1) cap) w2 ∧ Lst w w2 t size (.slice (some ⟨g, 0, none⟩) (n + 1) cap) (n + 1) (xs ++ news) ∧
      But (fun k => s.ownBlock = some k) w1 w2 ∧ (s.ownBlock = some g ∨ w1.heap.size ≤ g) := by
  subst hB
  obtain ⟨i0, hi0, hz0, hz1, hz2⟩ := info_parts E.info
  have hbytes : (n + 1) * bytes ≤ 140737488355328 := Nat.le_trans (Nat.mul_le_mul (show n + 1 ≤ 100000001 by omega) hb) (by decide)
  obtain ⟨g, cap, w', hr, k2, k3, k4, k5⟩ := run_append_lies (P := P) (w1.alloc (.cells news.toArray t)) st st 0 t i0 z size bytes E.under hi0 hz0 hz1 hz2 E.cells E.pos s n xs (h.own.alloc _) ⟨w1.heap.size, 0, none⟩ 1 1 news (by omega)
    (World.news_of_block (cs := news.toArray) (t := t) (fr := (0, 0)) (heap_alloc_new w1 _)) h1 (by omega) (by unfold maxLen; omega) hbytes (by omega) _ rfl
  have hbut : But (fun k => s.ownBlock = some k) w1 w' := ((But.refl _ _).alloc _).grown k3 (fun k hk _ => hk)
  have hg : s.ownBlock = some g ∨ w1.heap.size ≤ g := k4.imp id (fun e => by rw [e, World.size_alloc]; omega)
  refine ⟨g, cap, w', hr, ⟨k2, fun x hx => ?_, h.but.step hbut (fun k hk f => by have := h.new k f; omega)⟩, hbut, hg⟩
  simp [Value.ownBlock] at hx
  subst hx
  rcases hg with e | e
  · exact h.new _ e
  · exact Nat.le_trans h.but.size e

/-- At an append whose run is known. -/
theorem wpList_append_run {P : Program} {w : World} {ops : Array Oper} {rest : List Oper} {o : Oper} {a : Act} {Q : Exit → Act → World → Prop} (hgd : o.guard = none) (s x : Operand) (t : TypeId)
    (ho : o.op = .call { callee := .builtin .append, args := #[s, x], argTypes := #[t, t] }) (v u : Value) (hs : a.eval s = v) (hx : a.eval x = u) (v' : Value) (w' : World)
    (hr : (Builtin.append_ #[t, t] o.type #[v, u]).run P w = .ok v' w') (h : wpList P ops Q rest (a.put o.dst v') w') : wpList P ops Q (o :: rest) a w := by
  refine wpList_plain hgd fun K hK => ?_
  unfold Oper.wp execOp
  simp only [ho, resolve, invoke, builtin, Sem.run_bind, Sem.run_pure, Result.andThen_ok, List.map_toArray, List.map_cons, List.map_nil, hs, hx, hr]
  exact hK _ _ h

/-- A list of so many noughts. -/
theorem make_any {P : Program} {st t : TypeId} {z : Value} {size bytes : Nat} (E : ElemInfo P st t z size bytes) (n : Nat) (c : Value) (hz : ∀ j, j < size → z.cells[j]! = c) (hn : n ≤ 100000000) (hb : bytes ≤ 10000) (w : World) :
    (Instr.makeSlice st (.int .i64 n) (.int .i64 n)).run P w = .ok (.slice (some ⟨w.heap.size, 0, none⟩) n n) (w.alloc (.cells (List.replicate (n * size) c).toArray t)) := by
  obtain ⟨i0, hi0, hz0, hz1, hz2⟩ := info_parts E.info
  have hbytes : (i0.bytes : Int) * (n : Int) ≤ 281474976710656 := by
    rw [hz2]
    have : (bytes : Int) * (n : Int) ≤ 10000 * 100000000 := Int.mul_le_mul (by omega) (by omega) (by omega) (by omega)
    omega
  have := run_make w st t i0 z E.under hi0 hz0 .i64 .i64 n n (by omega) (by omega) hbytes (by omega)
  rw [this, hz1, Int.toNat_natCast]
  have e : madeCells z.cells (n * size) = (List.replicate (n * size) c).toArray := by
    apply Array.ext_getElem?
    intro i
    have hp := E.pos
    simp only [madeCells, Array.getElem?_map, Array.getElem?_range, List.getElem?_toArray, List.getElem?_replicate]
    split
    · simp only [Option.map_some, E.cells]
      rw [hz _ (Nat.mod_lt _ hp)]
    · rfl
  rw [e]

end Go.Proofs.Ytlpeplihbdcklaa
