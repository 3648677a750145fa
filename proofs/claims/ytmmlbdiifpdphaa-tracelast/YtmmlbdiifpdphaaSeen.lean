/- Lists of things to be recorded, as they come in; what the laws' helper lay records of them. -/
import Derived.Test.YtmmlbdiifpdphaaRef
import Derived.Deep.SlicePairs
import Derived.SizedLaws
namespace Go.Proofs.Ytmmlbdiifpdphaa
open Go.ChangeShapes Go.WideShapes Go.ChangeAt Go.RowKit Go.Deep

theorem Try.cellsSeen : Try.prog.cellsOf 41 = 2 := by kernel_rfl
theorem Try.cellsU8 : Try.prog.cellsOf 5 = 1 := by kernel_rfl
theorem Try.cellsInt : Try.prog.cellsOf 3 = 1 := by kernel_rfl
theorem Try.bytesSeen : Try.prog.bytesOf 41 = 16 := by kernel_rfl

/-- v is a list of things to be recorded: pairs of a kind (a byte) and a number. -/
def Seens (w : World) (v : Value) (l : List Ev) : Prop :=
  ∃ ao cap, v = .slice ao l.length cap ∧ (l ≠ [] → ∃ b off, ao = some ⟨b, off, none⟩ ∧ b < w.heap.size ∧
    ∀ i (hi : i < l.length), w.cell? ⟨b, off + i * 2, none⟩ = some (.int .u8 l[i].1) ∧ w.cell? ⟨b, off + i * 2 + 1, none⟩ = some (.int .i64 l[i].2) ∧ 0 ≤ l[i].1 ∧ l[i].1 ≤ 255)

theorem Seens.but {w w' : World} {v : Value} {l : List Ev} (h : Seens w v l) (hb : But Nowhere w w') : Seens w' v l := by
  obtain ⟨ao, cap, rfl, h⟩ := h
  refine ⟨ao, cap, rfl, fun hne => ?_⟩
  obtain ⟨b, off, rfl, hlt, hc⟩ := h hne
  refine ⟨b, off, rfl, Nat.lt_of_lt_of_le hlt hb.size, fun i hi => ?_⟩
  rw [hb.cell (p := ⟨b, off + i * 2, none⟩) hlt (fun f => f), hb.cell (p := ⟨b, off + i * 2 + 1, none⟩) hlt (fun f => f)]
  exact hc i hi

theorem open_seens {H : Type} {enc : TypeId × Value → H} {W : World} {base : Nat} {v : Value} {d : DataW H} {p : List MemPlace} (hval : Value.okWide Try.prog W .any base 22 v)
    (h : DataW.Trod enc Try.prog W 0 (fun _ => true) true 22 v d p) : ∃ l, Seens W v l ∧ ((d = .nil ∧ l = []) ∨ ∃ elems spare, d = .slice elems spare ∧ elems.length = l.length) := by
  obtain ⟨a0, len0, cap0, rfl⟩ := okWide_slice Try.underlying22 hval
  obtain ⟨fuel, hf⟩ := h
  rcases open_slice_pairs Try.underlying22 Try.underlying41 Try.cellsSeen rfl rfl Try.cellsU8 Try.cellsInt hf with ⟨hc, hx⟩ | ⟨a, len, cap, m, n, V0, V1, D0, D1, P0, P1, hc, _, hl, hm, hmm, hx, hall⟩
  · simp [Value.cells] at hc
    obtain ⟨rfl, rfl, rfl⟩ := hc
    simp only [Prod.mk.injEq] at hx
    exact ⟨[], ⟨none, 0, rfl, fun h => absurd rfl h⟩, .inl ⟨hx.1, rfl⟩⟩
  · simp [Value.cells] at hc
    obtain ⟨rfl, rfl, rfl⟩ := hc
    simp only [if_true] at hmm
    subst hmm
    simp only [Prod.mk.injEq] at hx
    have h0 : ∀ i, i < m → ∃ k, V0 i = .int .u8 k ∧ 0 ≤ k ∧ k ≤ 255 := fun i hi => by
      obtain ⟨k, h1, _, h3⟩ := DataW.trod_int Try.underlying5 (hall i hi).2.2.1
      simp only [List.cons.injEq, and_true] at h1
      exact ⟨k, h1, bounds_u8 h3⟩
    have h1 : ∀ i, i < m → ∃ k, V1 i = .int .i64 k := fun i hi => by
      obtain ⟨k, h1, _, h3⟩ := DataW.trod_int Try.underlying3 (hall i hi).2.2.2
      simp only [List.cons.injEq, and_true] at h1
      exact ⟨k, h1⟩
    refine ⟨(List.range len0).map fun i => (intOf (V0 i), intOf (V1 i)), ⟨some a, m, by simp, fun hne => ?_⟩, .inr ⟨_, _, hx.1, by simp⟩⟩
    have hpos : 0 < len0 := by
      rcases Nat.eq_zero_or_pos len0 with e | e
      · subst e; simp at hne
      · exact e
    obtain ⟨b, off, spot⟩ := a
    have hspot : spot = none := by simpa [Addr.add] using World.cell?_spot (hall 0 (by omega)).1
    subst hspot
    refine ⟨b, off, rfl, World.block_lt_of_cell? W _ (hall 0 (by omega)).1, fun i hi => ?_⟩
    have hi' : i < len0 := by simpa using hi
    obtain ⟨k0, e0, b0, b1⟩ := h0 i (by omega)
    obtain ⟨k1, e1⟩ := h1 i (by omega)
    have c0 := (hall i (by omega)).1
    have c1 := (hall i (by omega)).2.1
    rw [Addr.add_lit] at c0 c1
    simp only [List.getElem_map, List.getElem_range]
    rw [e0] at c0 ⊢
    rw [e1] at c1 ⊢
    refine ⟨c0, ?_, b0, b1⟩
    rw [show off + i * 2 + 1 = off + (i * 2 + 1) by omega]
    exact c1

theorem seens_small {H : Type} {ts : List TypeId} {ds : List (DataW H)} {d : DataW H} {l : List Ev} (hsz : (DataW.weightsEach Try.prog ts ds).all (· ≤ reachBytes) = true) {j : Nat} (ht : ts[j]? = some 22) (hd : ds[j]? = some d)
    (h : (d = .nil ∧ l = []) ∨ ∃ elems spare, d = .slice elems spare ∧ elems.length = l.length) : l.length ≤ 8796093022208 := by
  rcases h with ⟨_, rfl⟩ | ⟨elems, spare, rfl, he⟩
  · simp
  · have := sized_slice hsz ht hd Try.underlying22
    rw [Try.bytesSeen] at this
    unfold reachBytes at this
    omega

/-- What is recorded of a thing. -/
def evOf (s : Ev) : Ev := if s.1 % 3 = 0 then (1, s.2) else if s.1 % 3 = 1 then (2, s.2) else (3, 0)

theorem evOf_0 (s : Ev) (h : s.1 % 3 = 0) : evOf s = (1, s.2) := by simp [evOf, h]
theorem evOf_1 (s : Ev) (h : s.1 % 3 = 1) : evOf s = (2, s.2) := by simp [evOf, h]
theorem evOf_2 (s : Ev) (h : ¬ s.1 % 3 = 0) (h1 : ¬ s.1 % 3 = 1) : evOf s = (3, 0) := by simp [evOf, h, h1]

theorem evs_take (l : List Ev) (k : Nat) (h : k < l.length) : (l.take (k + 1)).map evOf = (l.take k).map evOf ++ [evOf l[k]] := by
  rw [List.take_succ_eq_append_getElem h, List.map_append]; rfl

/-- What lay gives: a new recorder with es, and a new list of es apart from it. -/
def Lays (w w' : World) (b : Nat) (v x : Value) (es : List Ev) : Prop := Own w w' b v es ∧ Evs w' x es ∧ ∀ k, x.ownBlock = some k → w.heap.size ≤ k ∧ ¬ Foot b v k

theorem Lays.laid {w W W' : World} {b : Nat} {v x : Value} {es ds fs : List Ev} (h : Own w W b v es) (hx : Evs W x ds) (ha : ∀ k, x.ownBlock = some k → w.heap.size ≤ k ∧ ¬ Foot b v k) (hl : Laid W W' b v fs) :
    ∃ v', Own w W' b v' fs ∧ Evs W' x ds ∧ ∀ k, x.ownBlock = some k → w.heap.size ≤ k ∧ ¬ Foot b v' k := by
  obtain ⟨v', ho, hv, hb⟩ := h.laid hl
  refine ⟨v', ho, hb.owns hx (fun k hk => (ha k hk).2), fun k hk => ⟨(ha k hk).1, fun hf => ?_⟩⟩
  rcases hf with rfl | hf
  · exact (ha _ hk).2 (.inl rfl)
  · rcases hv with e | e
    · exact (ha k hk).2 (.inr (by rw [← e]; exact hf))
    · have := e k hf
      have := hx.lt hk
      omega

theorem Lays.fresh {w W W' : World} {b : Nat} {v x : Value} {es fs : List Ev} (h : Own w W b v es) (hf : Fresh W W' x fs) : Own w W' b v es ∧ Evs W' x fs ∧ ∀ k, x.ownBlock = some k → w.heap.size ≤ k ∧ ¬ Foot b v k := by
  obtain ⟨h1, h2, h3⟩ := hf
  refine ⟨h.step h3, h1, fun k hk => ⟨Nat.le_trans h.but.size (h2 k hk), fun hf => ?_⟩⟩
  have := h.rcd.foot_lt hf
  have := h2 k hk
  omega

/-- All events are of the three kinds. -/
def Kinds (l : List Ev) : Prop := ∀ e ∈ l, e.1 = 1 ∨ e.1 = 2 ∨ e.1 = 3

theorem Kinds.sum (l : List Ev) (h : Kinds l) : cnt 1 l + cnt 2 l + cnt 3 l = l.length ∧ cnt 0 l = 0 ∧ cnt 4 l = 0 := by
  induction l with
  | nil => exact ⟨rfl, rfl, rfl⟩
  | cons e r ih =>
    obtain ⟨i1, i2, i3⟩ := ih (fun x hx => h x (by simp [hx]))
    have he := h e (by simp)
    have hc : ∀ k, cnt k (e :: r) = cnt k r + if e.1 = k then 1 else 0 := fun k => by
      unfold cnt
      by_cases hk : e.1 = k <;> simp [hk]
    rw [hc, hc, hc, hc, hc]
    rcases he with e1 | e1 | e1 <;> simp [e1] <;> omega

theorem kinds_ev (l : List Ev) : Kinds (l.map evOf) := by
  intro e he
  obtain ⟨s, _, rfl⟩ := List.mem_map.1 he
  unfold evOf
  split
  · exact .inl rfl
  · split
    · exact .inr (.inl rfl)
    · exact .inr (.inr rfl)

/-- A branch of that number. -/
def brOf (s : Ev) : Ev := (2, s.2)
theorem kinds_br (l : List Ev) : Kinds (l.map brOf) := by
  intro e he
  obtain ⟨s, _, rfl⟩ := List.mem_map.1 he
  exact .inr (.inl rfl)
theorem Kinds.append {l m : List Ev} (h : Kinds l) (k : Kinds m) : Kinds (l ++ m) := by
  intro e he
  rcases List.mem_append.1 he with h1 | h1
  · exact h e h1
  · exact k e h1
theorem brs_take (l : List Ev) (k : Nat) (h : k < l.length) : (l.take (k + 1)).map brOf = (l.take k).map brOf ++ [(2, l[k].2)] := by
  rw [List.take_succ_eq_append_getElem h, List.map_append]; rfl

/-- A list of events, nil or not, in one form. -/
theorem Evs.one {w : World} {v : Value} {es : List Ev} (h : Evs w v es) : ∃ ao cap, v = .slice ao es.length cap ∧ es.length ≤ maxLen ∧
    ∀ i (hi : i < es.length), ∃ g, ao = some ⟨g, 0, none⟩ ∧ w.cell? ⟨g, i * 2, none⟩ = some (.int .i64 es[i].1) ∧ w.cell? ⟨g, i * 2 + 1, none⟩ = some (.int .i64 es[i].2) := by
  rcases h.form with ⟨rfl, rfl⟩ | ⟨g, cap, rfl, _, h1, h2, h3⟩
  · exact ⟨none, 0, rfl, by simp, fun i hi => by simp at hi⟩
  · exact ⟨some ⟨g, 0, none⟩, cap, rfl, by omega, fun i hi => ⟨g, rfl, h3 i hi⟩⟩

end Go.Proofs.Ytmmlbdiifpdphaa
