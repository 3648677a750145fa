/- The tables that the program's Standard picks from, and what it answers. -/
import Derived.Test.YtadcfndjbhcfbaaHd9
import Derived.Test.YtadcfndjbhcfbaaHu10
import Derived.Test.YtadcfndjbhcfbaaHu5
namespace Go.Proofs.Ytadcfndjbhcfbaa
set_option linter.unusedVariables false
open Go.ChangeShapes Go.WideShapes Go.ChangeAt Go.RowKit

/-- The keys, the counts, the lists, the tables. -/
def kdJ (j : Nat) : Value := kd (decide (j < 2)) (decide (j % 2 = 0))
def cntJ (j : Nat) : Value := .agg (tab .i64 16 (stdc j)).toArray
def slJ (j b : Nat) : Value := .slice (some ⟨b, 0, none⟩) (stdN j) (stdN j)
def tbJ (j b : Nat) : Value := .agg (tbl (stdc j) (slJ j b)).toArray

theorem kdJ_inj : ∀ i, i < 4 → ∀ j, j < 4 → kdJ i = kdJ j → i = j := by
  intro i hi j hj h
  unfold kdJ kd at h
  simp only [Value.agg.injEq, Array.mk.injEq, List.cons.injEq, Value.bool.injEq, and_true] at h
  obtain ⟨h1, h2⟩ := h
  have h1' : (i < 2) = (j < 2) := by simpa using h1
  have h2' : (i % 2 = 0) = (j % 2 = 0) := by simpa using h2
  have e1 : (i < 2 ↔ j < 2) := by rw [h1']
  have e2 : (i % 2 = 0 ↔ j % 2 = 0) := by rw [h2']
  omega

/-- A list of its own. -/
def Own1 (w0 w : World) (b j : Nat) : Prop := w0.heap.size ≤ b ∧ Cells w b 5 (ints .u8 (stdL j))

/-- What has been entered. -/
structure Ents (w0 : World) (D : Nat → Prop) (w : World) (es : List MapEntry) : Prop where
  all : ∀ e ∈ es, ∃ j, j < 4 ∧ D (5 + 5 * j) ∧ e.key = kdJ j
  one : ∀ j, j < 4 → D (5 + 5 * j) → ∃ b, Own1 w0 w b j ∧ (∃ e ∈ es, e.key = kdJ j) ∧ ∀ e ∈ es, e.key = kdJ j → e.val = tbJ j b

theorem Ents.kds {w0 w : World} {D : Nat → Prop} {es : List MapEntry} (h : Ents w0 D w es) : Kds es := fun e he => by
  obtain ⟨j, _, _, hk⟩ := h.all e he
  exact ⟨_, _, hk⟩
theorem Ents.new {w0 w : World} {D : Nat → Prop} {es : List MapEntry} (h : Ents w0 D w es) (j : Nat) (hj : j < 4) (hd : ¬ D (5 + 5 * j)) : ∀ e ∈ es, e.key ≠ kdJ j := fun e he q => by
  obtain ⟨i, hi, hdi, hk⟩ := h.all e he
  have := kdJ_inj i hi j hj (hk.symm.trans q)
  subst this
  exact hd hdi

/-- What holds where the operations of D have come. -/
structure St (w0 : World) (D : Nat → Prop) (a : Act) (w : World) : Prop where
  size : a.tmps.size = 19
  defers : a.defers = []
  but : But Nowhere w0 w
  ky : ∀ j, j < 4 → D (1 + 5 * j) → a.tmps[2 + 4 * j]? = some (kdJ j)
  ct : ∀ j, j < 4 → D (2 + 5 * j) → a.tmps[3 + 4 * j]? = some (cntJ j)
  sl : ∀ j, j < 4 → D (3 + 5 * j) → ∃ b, a.tmps[4 + 4 * j]? = some (slJ j b) ∧ Own1 w0 w b j
  tb : ∀ j, j < 4 → D (4 + 5 * j) → ∃ b, a.tmps[5 + 4 * j]? = some (tbJ j b) ∧ Own1 w0 w b j
  mp : D 0 → ∃ M es clk, a.tmps[1]? = some (.map (some M)) ∧ w0.heap.size ≤ M ∧ w.heap[M]? = some (.map es clk) ∧ Ents w0 D w es.toList
  en : ∀ j, j < 4 → D (5 + 5 * j) → D 0
  last : D 21 → a.tmps[18]? = some (a.tmps.getD 1 undef) ∧ D 0
  given : D 22 → a.tmps[0]? = some (a.tmps.getD 1 undef) ∧ D 0

theorem put_at {a : Act} {d : Nat} {v : Value} (k : Nat) (hk : k ≠ d) : (a.put (some d) v).tmps[k]? = a.tmps[k]? := by
  simp only [Act.put]
  rw [Array.getElem?_setIfInBounds_ne (Ne.symm hk)]
theorem put_same {a : Act} {d : Nat} {v : Value} (h : d < a.tmps.size) : (a.put (some d) v).tmps[d]? = some v := by
  simp only [Act.put]
  rw [Array.getElem?_setIfInBounds_self_of_lt h]
theorem put_getD {a : Act} {d : Nat} {v : Value} (k : Nat) (hk : k ≠ d) : (a.put (some d) v).tmps.getD k undef = a.tmps.getD k undef := by
  rw [Array.getD_eq_getD_getElem?, Array.getD_eq_getD_getElem?, put_at k hk]
theorem put_size (a : Act) (d : Nat) (v : Value) : (a.put (some d) v).tmps.size = a.tmps.size := by simp [Act.put]
theorem put_defers (a : Act) (d : Option Nat) (v : Value) : (a.put d v).defers = a.defers := by cases d <;> simp [Act.put]

/-- What has come, and one more. -/
def Add (D : Nat → Prop) (i : Nat) : Nat → Prop := fun m => m = i ∨ D m

theorem Own1.but {w0 w w' : World} {b j : Nat} (h : Own1 w0 w b j) (hb : ∀ t c, Cells w b t c → Cells w' b t c) : Own1 w0 w' b j := ⟨h.1, hb _ _ h.2⟩

/-- A step that lays one slot, and turns nothing that is known. -/
theorem St.step {w0 w w' : World} {D : Nat → Prop} {a : Act} (h : St w0 D a w) (i d : Nat) (v : Value) (hb : But Nowhere w w')
    (hd : 2 ≤ d ∧ d < 18) (hi : i ≠ 0 ∧ i ≠ 21 ∧ i ≠ 22 ∧ ∀ j, j < 4 → i ≠ 5 + 5 * j) (hnew : ¬ D i)
    (h1 : ∀ j, j < 4 → (i = 1 + 5 * j ∧ d = 2 + 4 * j ∧ v = kdJ j) ∨ (i ≠ 1 + 5 * j ∧ d ≠ 2 + 4 * j))
    (h2 : ∀ j, j < 4 → (i = 2 + 5 * j ∧ d = 3 + 4 * j ∧ v = cntJ j) ∨ (i ≠ 2 + 5 * j ∧ d ≠ 3 + 4 * j))
    (h3 : ∀ j, j < 4 → (i = 3 + 5 * j ∧ d = 4 + 4 * j ∧ ∃ b, v = slJ j b ∧ Own1 w0 w' b j) ∨ (i ≠ 3 + 5 * j ∧ d ≠ 4 + 4 * j))
    (h4 : ∀ j, j < 4 → (i = 4 + 5 * j ∧ d = 5 + 4 * j ∧ ∃ b, v = tbJ j b ∧ Own1 w0 w' b j) ∨ (i ≠ 4 + 5 * j ∧ d ≠ 5 + 4 * j)) : St w0 (Add D i) (a.put (some d) v) w' := by
  have own : ∀ b j, Own1 w0 w b j → Own1 w0 w' b j := fun b j h => h.but (fun t c hc => hc.but hb (not_nowhere _))
  refine ⟨by rw [put_size]; exact h.size, by rw [put_defers]; exact h.defers, h.but.trans hb, ?_, ?_, ?_, ?_, ?_, ?_, ?_, ?_⟩
  · intro j hj hD
    rcases h1 j hj with ⟨e1, rfl, rfl⟩ | ⟨e1, e2⟩
    · exact put_same (by rw [h.size]; omega)
    · rw [put_at _ (Ne.symm e2)]; exact h.ky j hj (hD.resolve_left (Ne.symm e1))
  · intro j hj hD
    rcases h2 j hj with ⟨e1, rfl, rfl⟩ | ⟨e1, e2⟩
    · exact put_same (by rw [h.size]; omega)
    · rw [put_at _ (Ne.symm e2)]; exact h.ct j hj (hD.resolve_left (Ne.symm e1))
  · intro j hj hD
    rcases h3 j hj with ⟨e1, rfl, b, rfl, ho⟩ | ⟨e1, e2⟩
    · exact ⟨b, put_same (by rw [h.size]; omega), ho⟩
    · rw [put_at _ (Ne.symm e2)]
      obtain ⟨b, q1, q2⟩ := h.sl j hj (hD.resolve_left (Ne.symm e1))
      exact ⟨b, q1, own _ _ q2⟩
  · intro j hj hD
    rcases h4 j hj with ⟨e1, rfl, b, rfl, ho⟩ | ⟨e1, e2⟩
    · exact ⟨b, put_same (by rw [h.size]; omega), ho⟩
    · rw [put_at _ (Ne.symm e2)]
      obtain ⟨b, q1, q2⟩ := h.tb j hj (hD.resolve_left (Ne.symm e1))
      exact ⟨b, q1, own _ _ q2⟩
  · intro hD
    obtain ⟨M, es, clk, q1, q2, q3, q4⟩ := h.mp (hD.resolve_left (Ne.symm hi.1))
    refine ⟨M, es, clk, by rw [put_at _ (by omega)]; exact q1, q2, (hb.block M (heap_lt q3) (not_nowhere _)).trans q3, ⟨fun e he => ?_, fun j hj hd => ?_⟩⟩
    · obtain ⟨j, hj, hd, hk⟩ := q4.all e he
      exact ⟨j, hj, .inr hd, hk⟩
    · obtain ⟨b, o1, o2⟩ := q4.one j hj (hd.resolve_left (Ne.symm (hi.2.2.2 j hj)))
      exact ⟨b, own _ _ o1, o2⟩
  · intro j hj hD
    exact .inr (h.en j hj (hD.resolve_left (Ne.symm (hi.2.2.2 j hj))))
  · intro hD
    obtain ⟨q1, q2⟩ := h.last (hD.resolve_left (Ne.symm hi.2.1))
    exact ⟨by rw [put_at _ (by omega), put_getD _ (by omega)]; exact q1, .inr q2⟩
  · intro hD
    obtain ⟨q1, q2⟩ := h.given (hD.resolve_left (Ne.symm hi.2.2.1))
    exact ⟨by rw [put_at _ (by omega), put_getD _ (by omega)]; exact q1, .inr q2⟩

section
variable {w0 w : World} {D : Nat → Prop} {a : Act}

theorem St.key0 (h : St w0 D a w) (j : Nat) (hj : j < 4) (hn : ¬ D (1 + 5 * j)) : St w0 (Add D (1 + 5 * j)) (a.put (some (2 + 4 * j)) (kdJ j)) w :=
  h.step (1 + 5 * j) (2 + 4 * j) (kdJ j) (But.refl _ _) (by omega) ⟨by omega, by omega, by omega, fun i _ => by omega⟩ hn
    (fun i _ => if e : i = j then .inl ⟨by omega, by omega, by rw [e]⟩ else .inr ⟨by omega, by omega⟩)
    (fun i _ => .inr ⟨by omega, by omega⟩) (fun i _ => .inr ⟨by omega, by omega⟩) (fun i _ => .inr ⟨by omega, by omega⟩)

theorem St.counts0 (h : St w0 D a w) (j : Nat) (hj : j < 4) (hn : ¬ D (2 + 5 * j)) : St w0 (Add D (2 + 5 * j)) (a.put (some (3 + 4 * j)) (cntJ j)) w :=
  h.step (2 + 5 * j) (3 + 4 * j) (cntJ j) (But.refl _ _) (by omega) ⟨by omega, by omega, by omega, fun i _ => by omega⟩ hn
    (fun i _ => .inr ⟨by omega, by omega⟩) (fun i _ => if e : i = j then .inl ⟨by omega, by omega, by rw [e]⟩ else .inr ⟨by omega, by omega⟩)
    (fun i _ => .inr ⟨by omega, by omega⟩) (fun i _ => .inr ⟨by omega, by omega⟩)

theorem St.bytes0 (h : St w0 D a w) (j : Nat) (hj : j < 4) (hn : ¬ D (3 + 5 * j)) : St w0 (Add D (3 + 5 * j)) (a.put (some (4 + 4 * j)) (slJ j w.heap.size)) (w.alloc (.cells (ints .u8 (stdL j)).toArray 5)) :=
  h.step (3 + 5 * j) (4 + 4 * j) (slJ j w.heap.size) ((But.refl _ _).alloc _) (by omega) ⟨by omega, by omega, by omega, fun i _ => by omega⟩ hn
    (fun i _ => .inr ⟨by omega, by omega⟩) (fun i _ => .inr ⟨by omega, by omega⟩)
    (fun i _ => if e : i = j then .inl ⟨by omega, by omega, w.heap.size, by rw [e], h.but.size, by rw [e]; exact Cells.new w 5 (ints .u8 (stdL j))⟩ else .inr ⟨by omega, by omega⟩) (fun i _ => .inr ⟨by omega, by omega⟩)

theorem St.table0 (h : St w0 D a w) (j : Nat) (hj : j < 4) (hn : ¬ D (4 + 5 * j)) (b : Nat) (ho : Own1 w0 w b j) : St w0 (Add D (4 + 5 * j)) (a.put (some (5 + 4 * j)) (tbJ j b)) w :=
  h.step (4 + 5 * j) (5 + 4 * j) (tbJ j b) (But.refl _ _) (by omega) ⟨by omega, by omega, by omega, fun i _ => by omega⟩ hn
    (fun i _ => .inr ⟨by omega, by omega⟩) (fun i _ => .inr ⟨by omega, by omega⟩) (fun i _ => .inr ⟨by omega, by omega⟩)
    (fun i _ => if e : i = j then .inl ⟨by omega, by omega, b, by rw [e], e ▸ ho⟩ else .inr ⟨by omega, by omega⟩)

theorem St.made0 (h : St w0 D a w) (hn : ¬ D 0) : St w0 (Add D 0) (a.put (some 1) (.map (some w.heap.size))) (w.alloc (.map #[] 0)) := by
  have hb : But Nowhere w (w.alloc (.map #[] 0)) := (But.refl _ _).alloc _
  have own : ∀ b j, Own1 w0 w b j → Own1 w0 (w.alloc (.map #[] 0)) b j := fun b j h => h.but (fun t c hc => hc.but hb (not_nowhere _))
  have n5 : ∀ j, j < 4 → ¬ Add D 0 (5 + 5 * j) := fun j hj hd => hn (h.en j hj (hd.resolve_left (by omega)))
  refine ⟨by rw [put_size]; exact h.size, by rw [put_defers]; exact h.defers, h.but.trans hb, ?_, ?_, ?_, ?_, ?_, ?_, ?_, ?_⟩
  · intro j hj hD
    rw [put_at _ (by omega)]; exact h.ky j hj (hD.resolve_left (by omega))
  · intro j hj hD
    rw [put_at _ (by omega)]; exact h.ct j hj (hD.resolve_left (by omega))
  · intro j hj hD
    rw [put_at _ (by omega)]
    obtain ⟨b, q1, q2⟩ := h.sl j hj (hD.resolve_left (by omega))
    exact ⟨b, q1, own _ _ q2⟩
  · intro j hj hD
    rw [put_at _ (by omega)]
    obtain ⟨b, q1, q2⟩ := h.tb j hj (hD.resolve_left (by omega))
    exact ⟨b, q1, own _ _ q2⟩
  · intro _
    exact ⟨w.heap.size, #[], 0, put_same (by rw [h.size]; omega), h.but.size, heap_alloc_new w _, ⟨fun e he => by simp at he, fun j hj hd => absurd hd (n5 j hj)⟩⟩
  · intro j hj hD; exact absurd hD (n5 j hj)
  · intro hD; exact absurd (h.last (hD.resolve_left (by omega))).2 hn
  · intro hD; exact absurd (h.given (hD.resolve_left (by omega))).2 hn

theorem St.entry0 (h : St w0 D a w) (j : Nat) (hj : j < 4) (hn : ¬ D (5 + 5 * j)) (b : Nat) (ho : Own1 w0 w b j) {M : Nat} {es : Array MapEntry} {clk : Nat} (hD0 : D 0)
    (hM : w.heap[M]? = some (.map es clk)) (hu : a.tmps[1]? = some (.map (some M))) (hm : w0.heap.size ≤ M) (hE : Ents w0 D w es.toList) :
    St w0 (Add D (5 + 5 * j)) (a.put none undef) (w.putObj M (.map (es.push ⟨kdJ j, tbJ j b, clk⟩) (clk + 1))) := by
  obtain ⟨w', hw'⟩ : ∃ x, w.putObj M (.map (es.push ⟨kdJ j, tbJ j b, clk⟩) (clk + 1)) = x := ⟨_, rfl⟩
  have hbM : But (fun k => k = M) w w' := hw' ▸ But.putObj (S := fun k => k = M) (But.refl _ _) (fun _ => rfl) _
  have hMn : w'.heap[M]? = some (.map (es.push ⟨kdJ j, tbJ j b, clk⟩) (clk + 1)) := hw' ▸ World.putObj_heap_same (heap_lt hM)
  rw [hw']
  have own : ∀ b j, Own1 w0 w b j → Own1 w0 w' b j := fun b j h => h.but (fun t c hc => hc.but hbM (fun e => by
    subst e
    have : w.heap[b]? = some (.cells c.toArray t (0, 0)) := hc
    rw [hM] at this
    cases this))
  have put0 : (a.put none undef) = a := rfl
  rw [put0]
  refine ⟨h.size, h.defers, h.but.step hbM (fun k hk q => by omega), ?_, ?_, ?_, ?_, ?_, ?_, ?_, ?_⟩
  · intro i hi hD; exact h.ky i hi (hD.resolve_left (by omega))
  · intro i hi hD; exact h.ct i hi (hD.resolve_left (by omega))
  · intro i hi hD
    obtain ⟨b, q1, q2⟩ := h.sl i hi (hD.resolve_left (by omega))
    exact ⟨b, q1, own _ _ q2⟩
  · intro i hi hD
    obtain ⟨b, q1, q2⟩ := h.tb i hi (hD.resolve_left (by omega))
    exact ⟨b, q1, own _ _ q2⟩
  · intro _
    refine ⟨M, _, _, hu, hm, hMn, ⟨fun e he => ?_, fun i hi hd => ?_⟩⟩
    · simp only [Array.toList_push, List.mem_append, List.mem_singleton] at he
      rcases he with he | rfl
      · obtain ⟨i, hi, hd, hk⟩ := hE.all e he
        exact ⟨i, hi, .inr hd, hk⟩
      · exact ⟨j, hj, .inl rfl, rfl⟩
    · simp only [Array.toList_push, List.mem_append, List.mem_singleton]
      by_cases e : i = j
      · subst e
        refine ⟨b, own _ _ ho, ⟨_, .inr rfl, rfl⟩, fun e he hk => ?_⟩
        rcases he with he | rfl
        · exact absurd hk (hE.new i hi hn e he)
        · rfl
      · obtain ⟨b', o1, ⟨e1, m1, k1⟩, o3⟩ := hE.one i hi (hd.resolve_left (by omega))
        refine ⟨b', own _ _ o1, ⟨e1, .inl m1, k1⟩, fun y hy hk => ?_⟩
        rcases hy with hy | rfl
        · exact o3 y hy hk
        · exact absurd (kdJ_inj j hj i hi hk) (fun q => e q.symm)
  · intro i hi hD; exact .inr hD0
  · intro hD
    obtain ⟨q1, q2⟩ := h.last (hD.resolve_left (by omega))
    exact ⟨q1, .inr q2⟩
  · intro hD
    obtain ⟨q1, q2⟩ := h.given (hD.resolve_left (by omega))
    exact ⟨q1, .inr q2⟩

/-- A step that hands the map on. -/
theorem St.hand (h : St w0 D a w) (i d : Nat) (hid : (i = 21 ∧ d = 18) ∨ (i = 22 ∧ d = 0)) (hD0 : D 0) : St w0 (Add D i) (a.put (some d) (a.tmps.getD 1 undef)) w := by
  have n1 : (1 : Nat) ≠ d := by omega
  refine ⟨by rw [put_size]; exact h.size, by rw [put_defers]; exact h.defers, h.but, ?_, ?_, ?_, ?_, ?_, ?_, ?_, ?_⟩
  · intro j hj hD; rw [put_at _ (by omega)]; exact h.ky j hj (hD.resolve_left (by omega))
  · intro j hj hD; rw [put_at _ (by omega)]; exact h.ct j hj (hD.resolve_left (by omega))
  · intro j hj hD; rw [put_at _ (by omega)]; exact h.sl j hj (hD.resolve_left (by omega))
  · intro j hj hD; rw [put_at _ (by omega)]; exact h.tb j hj (hD.resolve_left (by omega))
  · intro hD
    obtain ⟨M, es, clk, q1, q2, q3, q4⟩ := h.mp hD0
    refine ⟨M, es, clk, by rw [put_at _ n1]; exact q1, q2, q3, ⟨fun e he => ?_, fun j hj hd => q4.one j hj (hd.resolve_left (by omega))⟩⟩
    obtain ⟨j, hj, hd, hk⟩ := q4.all e he
    exact ⟨j, hj, .inr hd, hk⟩
  · intro j hj hD; exact .inr hD0
  · intro hD
    rw [put_getD _ n1]
    rcases hid with ⟨rfl, rfl⟩ | ⟨rfl, rfl⟩
    · exact ⟨put_same (by rw [h.size]; omega), .inr hD0⟩
    · obtain ⟨q1, q2⟩ := h.last (hD.resolve_left (by omega))
      exact ⟨by rw [put_at _ (by omega)]; exact q1, .inr q2⟩
  · intro hD
    rw [put_getD _ n1]
    rcases hid with ⟨rfl, rfl⟩ | ⟨rfl, rfl⟩
    · obtain ⟨q1, q2⟩ := h.given (hD.resolve_left (by omega))
      exact ⟨by rw [put_at _ (by omega)]; exact q1, .inr q2⟩
    · exact ⟨put_same (by rw [h.size]; omega), .inr hD0⟩
end

/-- Done: what has come. -/
def Dn (L : Array Bool) : Nat → Prop := fun m => L.getD m false = true

theorem dn_set {L : Array Bool} {i : Nat} (h : i < L.size) : Dn (L.setIfInBounds i true) = Add (Dn L) i := by
  funext m
  unfold Dn Add
  by_cases e : m = i
  · subst e
    simp [h]
  · have : (L.setIfInBounds i true).getD m false = L.getD m false := by
      rw [Array.getD_eq_getD_getElem?, Array.getD_eq_getD_getElem?, Array.getElem?_setIfInBounds_ne (Ne.symm e)]
    rw [this]
    simp [e]

structure In (w0 : World) (L : Array Bool) (a : Act) (w : World) : Prop where
  len : L.size = 23
  st : St w0 (Dn L) a w

theorem not_dn {L : Array Bool} {i : Nat} (h : L.getD i true = false) : ¬ Dn L i := fun q => by
  have := getD_both h
  unfold Dn at q
  rw [this] at q
  cases q

theorem In.next {w0 w w' : World} {L : Array Bool} {a a' : Act} (h : In w0 L a w) (i : Nat) (hi : i < 23) (hs : St w0 (Add (Dn L) i) a' w') : In w0 (L.setIfInBounds i true) a' w' :=
  ⟨by simp [h.len], by rw [dn_set (by rw [h.len]; exact hi)]; exact hs⟩

theorem eval_tmp {a : Act} {t : Nat} {v : Value} (h : a.tmps[t]? = some v) : a.eval (.tmp t) = v := by
  simp [Act.eval, h]

theorem ready_waits {md : Region.Mode} {ops : Array Oper} {L : Array Bool} {k m : Nat} (hw : waits md ops k m = true) (hk : k < ops.size) (hm : k ∈ Region.ready md ops L) : Dn L m := by
  obtain ⟨_, o, ho, hall⟩ := mem_ready.1 hm
  unfold waits at hw
  simp only [ho, Array.any_eq_true] at hw
  obtain ⟨n, hn, hb⟩ := hw
  simp only [Bool.and_eq_true, beq_iff_eq] at hb
  have := hall _ (Array.getElem_mem hn) hb.1
  rw [hb.2] at this
  exact this

section
variable {o : Oper} {a : Act} {w : World} {K : Act → World → Prop} {Q : Exit → Act → World → Prop}

theorem wp_yields {v : Value} (h : (execOp a.eval o).run Try.prog w = .ok (.value v) w) (hK : K (a.put o.dst v) w) : o.wp Try.prog a w K Q := by
  unfold Oper.wp
  rw [h]
  exact hK

theorem wp_made (t : TypeId) (ho : o.op = .makeMap t none) (hK : K (a.put o.dst (.map (some w.heap.size))) (w.alloc (.map #[] 0))) : o.wp Try.prog a w K Q := by
  unfold Oper.wp execOp
  simp only [ho]
  exact hK

theorem wp_is {x : Operand} {v : Value} (ho : o.op = .move x ∨ o.op = .assign x) (hx : a.eval x = v) (hK : K (a.put o.dst v) w) : o.wp Try.prog a w K Q := by
  unfold Oper.wp execOp
  rcases ho with ho | ho <;> (simp only [ho, hx]; exact hK)

theorem wp_bytes (j : Nat) (hj : j < 4) {parts : Array (Nat × Operand)} (ho : o.op = .buildSlice 23 (stdN j) parts)
    (hparts : parts.toList = ((stdL j).zipIdx 0).map fun x => (x.2, Operand.const (Value.int .u8 x.1)))
    (hK : K (a.put o.dst (slJ j w.heap.size)) (w.alloc (.cells (ints .u8 (stdL j)).toArray 5))) : o.wp Try.prog a w K Q := by
  have hu := Try.underlying23
  have hsz : (Try.prog.info? 5).map (·.size) = some 1 := by kernel_rfl
  have hz : ((Try.prog.info? 5).bind (·.zero)).isSome = true := by kernel_rfl
  have hn : stdN j = (stdL j).length := stdN_len j hj
  have hl := stdL_length j hj
  have hpos : 0 < (stdL j).length := List.length_pos_iff.2 hl.2
  cases hie : Try.prog.info? 5 with
  | none => simp [hie] at hsz
  | some ie =>
    simp only [hie, Option.map_some, Option.some.injEq, Option.bind_some] at hsz hz
    obtain ⟨z, hzz⟩ := Option.isSome_iff_exists.1 hz
    refine wp_buildSlice 23 5 (stdN j) parts ho (ints .u8 (stdL j)).toArray ie z hu hie hzz (by rw [hsz, hn]; omega) (by rw [hsz, hn]; omega) ?_ hK
    rw [parts_eval a parts .u8 (stdL j) hparts, hsz]
    exact Great.fill_flat _ _ (fun v hv => by obtain ⟨n, _, rfl⟩ := List.mem_map.1 hv; rfl) (by simp [hn])

theorem wp_table (j b : Nat) {x y : Operand} (ho : o.op = .build 25 #[(0, x), (1, y)]) (hx : a.eval x = cntJ j) (hy : a.eval y = slJ j b)
    (hb : ∀ w, (Instr.build 25 #[(0, cntJ j), (1, slJ j b)]).run Try.prog w = .ok (tbJ j b) w) (hK : K (a.put o.dst (tbJ j b)) w) : o.wp Try.prog a w K Q := by
  unfold Oper.wp execOp
  simp only [ho, List.map_toArray, List.map_cons, List.map_nil, hx, hy, Sem.run_bind, hb, Result.andThen_ok]
  exact hK

theorem wp_entry {j b M : Nat} {es : Array MapEntry} {clk : Nat} {m k x : Operand} (ho : o.op = .insert 46 m k x) (hm : a.eval m = .map (some M)) (hk : a.eval k = kdJ j) (hx : a.eval x = tbJ j b)
    (hM : w.heap[M]? = some (.map es clk)) (hks : Kds es.toList) (hn : ∀ e ∈ es.toList, e.key ≠ kdJ j) (hK : K (a.put o.dst undef) (w.putObj M (.map (es.push ⟨kdJ j, tbJ j b, clk⟩) (clk + 1)))) : o.wp Try.prog a w K Q := by
  have := run_entry (decide (j < 2)) (decide (j % 2 = 0)) (tbJ j b) w M es clk hM hks hn
  unfold Oper.wp execOp
  simp only [ho, hm, hk, hx]
  rw [Sem.run_bind]
  rw [show kdJ j = kd (decide (j < 2)) (decide (j % 2 = 0)) from rfl, this]
  exact hK
end

theorem wpOp_at {P : Program} {ops : Array Oper} {Q : Exit → Act → World → Prop} {i : Nat} {o : Oper} {K : Act → World → Prop} {a : Act} {w : World} (ho : ops[i]? = some o) (hg : o.guard = none)
    (h : ∀ K' : Act → World → Prop, (∀ a w, K a w → K' a w) → o.wp P a w K' Q) : wpOp P ops Q i K a w :=
  wpOp_step ho fun K' hK => by
    rw [if_pos (by simp [Region.wanted, hg])]
    exact h K' hK

/-- Each waits for what stands ahead of it alone. -/
def rises (md : Region.Mode) (ops : Array Oper) : Bool := (List.range ops.size).all fun i => match ops[i]? with
  | none => true
  | some o => o.after.all fun e => !(Region.binds md e) || decide (e.on < i)

theorem rises_spec {md : Region.Mode} {ops : Array Oper} (h : rises md ops = true) : ∀ (i : Nat) (o : Oper), ops[i]? = some o → ∀ e ∈ o.after, Region.binds md e = true → e.on < i := by
  intro i o ho e he hb
  unfold rises at h
  rw [List.all_eq_true] at h
  have hi : i < ops.size := (Array.getElem?_eq_some_iff.1 ho).1
  have := h i (List.mem_range.2 hi)
  rw [ho] at this
  simp only [Array.all_eq_true_iff_forall_mem] at this
  have := this e he
  simpa [hb] using this

theorem start_dn (n m : Nat) : ¬ Dn (Array.replicate n false) m := by
  unfold Dn
  rcases Nat.lt_or_ge m n with h | h
  · simp [h]
  · simp [h]

set_option maxHeartbeats 6400000 in
set_option maxRecDepth 100000 in
theorem standards_any (w : World) : Calls Try.prog 20 #[] w fun e w' => ∃ M es clk, e = .returned (.map (some M)) ∧ But Nowhere w w' ∧ w'.heap[M]? = some (.map es clk) ∧ Ents w (fun _ => True) w' es.toList := by
  go_enter Try.func20, Try.ntmps20
  go_wp2_with fail
  refine wp_region_till (S := fun _ => True) (R := fun _ => True) (k := 100) (m := 100) (by kernel_rfl) trivial trivial ?_
  refine Walk.byInv (In w) ?_ ?_ _ _ _ _ (by decide) ⟨rfl, ⟨rfl, rfl, (But.refl _ _).drew, fun j hj hd => ?_, fun j hj hd => ?_, fun j hj hd => ?_, fun j hj hd => ?_, fun hd => ?_, fun j hj hd => ?_, fun hd => ?_, fun hd => ?_⟩⟩
  · intro L a V i inv hm
    have hun := (mem_ready.1 hm).1
    have hi : i < 23 := by
      rcases Nat.lt_or_ge i L.size with h | h
      · rw [inv.len] at h; exact h
      · simp [h] at hun
    obtain rfl | rfl | rfl | rfl | rfl | rfl | rfl | rfl | rfl | rfl | rfl | rfl | rfl | rfl | rfl | rfl | rfl | rfl | rfl | rfl | rfl | rfl | rfl : i = 0 ∨ i = 1 ∨ i = 2 ∨ i = 3 ∨ i = 4 ∨ i = 5 ∨ i = 6 ∨ i = 7 ∨ i = 8 ∨ i = 9 ∨ i = 10 ∨ i = 11 ∨ i = 12 ∨ i = 13 ∨ i = 14 ∨ i = 15 ∨ i = 16 ∨ i = 17 ∨ i = 18 ∨ i = 19 ∨ i = 20 ∨ i = 21 ∨ i = 22 := by omega
    · refine wpOp_at rfl rfl (fun K hK => ?_)
      refine wp_made 46 rfl ?_
      exact hK _ _ (inv.next 0 (by omega) (inv.st.made0 (not_dn hun)))
    · refine wpOp_at rfl rfl (fun K hK => ?_)
      refine wp_yields (v := kdJ 0) (by kernel_rfl) ?_
      exact hK _ _ (inv.next 1 (by omega) (inv.st.key0 0 (by omega) (not_dn hun)))
    · refine wpOp_at rfl rfl (fun K hK => ?_)
      refine wp_yields (v := cntJ 0) (by kernel_rfl) ?_
      exact hK _ _ (inv.next 2 (by omega) (inv.st.counts0 0 (by omega) (not_dn hun)))
    · refine wpOp_at rfl rfl (fun K hK => ?_)
      refine wp_bytes 0 (by omega) rfl (by kernel_rfl) ?_
      exact hK _ _ (inv.next 3 (by omega) (inv.st.bytes0 0 (by omega) (not_dn hun)))
    · refine wpOp_at rfl rfl (fun K hK => ?_)
      obtain ⟨b, hs, ho⟩ := inv.st.sl 0 (by omega) (ready_waits (k := 4) (m := 3) (by kernel_rfl) (by decide) hm)
      refine wp_table 0 b rfl (eval_tmp (inv.st.ct 0 (by omega) (ready_waits (k := 4) (m := 2) (by kernel_rfl) (by decide) hm))) (eval_tmp hs) (fun w => by kernel_rfl) ?_
      exact hK _ _ (inv.next 4 (by omega) (inv.st.table0 0 (by omega) (not_dn hun) b ho))
    · refine wpOp_at rfl rfl (fun K hK => ?_)
      obtain ⟨b, hs, ho⟩ := inv.st.tb 0 (by omega) (ready_waits (k := 5) (m := 4) (by kernel_rfl) (by decide) hm)
      obtain ⟨M, es, clk, hu, hn, hM, hE⟩ := inv.st.mp (ready_waits (k := 5) (m := 0) (by kernel_rfl) (by decide) hm)
      refine wp_entry (j := 0) (b := b) rfl (eval_tmp hu) (eval_tmp (inv.st.ky 0 (by omega) (ready_waits (k := 5) (m := 1) (by kernel_rfl) (by decide) hm))) (eval_tmp hs) hM hE.kds (hE.new 0 (by omega) (not_dn hun)) ?_
      exact hK _ _ (inv.next 5 (by omega) (inv.st.entry0 0 (by omega) (not_dn hun) b ho (ready_waits (k := 5) (m := 0) (by kernel_rfl) (by decide) hm) hM hu hn hE))
    · refine wpOp_at rfl rfl (fun K hK => ?_)
      refine wp_yields (v := kdJ 1) (by kernel_rfl) ?_
      exact hK _ _ (inv.next 6 (by omega) (inv.st.key0 1 (by omega) (not_dn hun)))
    · refine wpOp_at rfl rfl (fun K hK => ?_)
      refine wp_yields (v := cntJ 1) (by kernel_rfl) ?_
      exact hK _ _ (inv.next 7 (by omega) (inv.st.counts0 1 (by omega) (not_dn hun)))
    · refine wpOp_at rfl rfl (fun K hK => ?_)
      refine wp_bytes 1 (by omega) rfl (by kernel_rfl) ?_
      exact hK _ _ (inv.next 8 (by omega) (inv.st.bytes0 1 (by omega) (not_dn hun)))
    · refine wpOp_at rfl rfl (fun K hK => ?_)
      obtain ⟨b, hs, ho⟩ := inv.st.sl 1 (by omega) (ready_waits (k := 9) (m := 8) (by kernel_rfl) (by decide) hm)
      refine wp_table 1 b rfl (eval_tmp (inv.st.ct 1 (by omega) (ready_waits (k := 9) (m := 7) (by kernel_rfl) (by decide) hm))) (eval_tmp hs) (fun w => by kernel_rfl) ?_
      exact hK _ _ (inv.next 9 (by omega) (inv.st.table0 1 (by omega) (not_dn hun) b ho))
    · refine wpOp_at rfl rfl (fun K hK => ?_)
      obtain ⟨b, hs, ho⟩ := inv.st.tb 1 (by omega) (ready_waits (k := 10) (m := 9) (by kernel_rfl) (by decide) hm)
      obtain ⟨M, es, clk, hu, hn, hM, hE⟩ := inv.st.mp (ready_waits (k := 10) (m := 0) (by kernel_rfl) (by decide) hm)
      refine wp_entry (j := 1) (b := b) rfl (eval_tmp hu) (eval_tmp (inv.st.ky 1 (by omega) (ready_waits (k := 10) (m := 6) (by kernel_rfl) (by decide) hm))) (eval_tmp hs) hM hE.kds (hE.new 1 (by omega) (not_dn hun)) ?_
      exact hK _ _ (inv.next 10 (by omega) (inv.st.entry0 1 (by omega) (not_dn hun) b ho (ready_waits (k := 10) (m := 0) (by kernel_rfl) (by decide) hm) hM hu hn hE))
    · refine wpOp_at rfl rfl (fun K hK => ?_)
      refine wp_yields (v := kdJ 2) (by kernel_rfl) ?_
      exact hK _ _ (inv.next 11 (by omega) (inv.st.key0 2 (by omega) (not_dn hun)))
    · refine wpOp_at rfl rfl (fun K hK => ?_)
      refine wp_yields (v := cntJ 2) (by kernel_rfl) ?_
      exact hK _ _ (inv.next 12 (by omega) (inv.st.counts0 2 (by omega) (not_dn hun)))
    · refine wpOp_at rfl rfl (fun K hK => ?_)
      refine wp_bytes 2 (by omega) rfl (by kernel_rfl) ?_
      exact hK _ _ (inv.next 13 (by omega) (inv.st.bytes0 2 (by omega) (not_dn hun)))
    · refine wpOp_at rfl rfl (fun K hK => ?_)
      obtain ⟨b, hs, ho⟩ := inv.st.sl 2 (by omega) (ready_waits (k := 14) (m := 13) (by kernel_rfl) (by decide) hm)
      refine wp_table 2 b rfl (eval_tmp (inv.st.ct 2 (by omega) (ready_waits (k := 14) (m := 12) (by kernel_rfl) (by decide) hm))) (eval_tmp hs) (fun w => by kernel_rfl) ?_
      exact hK _ _ (inv.next 14 (by omega) (inv.st.table0 2 (by omega) (not_dn hun) b ho))
    · refine wpOp_at rfl rfl (fun K hK => ?_)
      obtain ⟨b, hs, ho⟩ := inv.st.tb 2 (by omega) (ready_waits (k := 15) (m := 14) (by kernel_rfl) (by decide) hm)
      obtain ⟨M, es, clk, hu, hn, hM, hE⟩ := inv.st.mp (ready_waits (k := 15) (m := 0) (by kernel_rfl) (by decide) hm)
      refine wp_entry (j := 2) (b := b) rfl (eval_tmp hu) (eval_tmp (inv.st.ky 2 (by omega) (ready_waits (k := 15) (m := 11) (by kernel_rfl) (by decide) hm))) (eval_tmp hs) hM hE.kds (hE.new 2 (by omega) (not_dn hun)) ?_
      exact hK _ _ (inv.next 15 (by omega) (inv.st.entry0 2 (by omega) (not_dn hun) b ho (ready_waits (k := 15) (m := 0) (by kernel_rfl) (by decide) hm) hM hu hn hE))
    · refine wpOp_at rfl rfl (fun K hK => ?_)
      refine wp_yields (v := kdJ 3) (by kernel_rfl) ?_
      exact hK _ _ (inv.next 16 (by omega) (inv.st.key0 3 (by omega) (not_dn hun)))
    · refine wpOp_at rfl rfl (fun K hK => ?_)
      refine wp_yields (v := cntJ 3) (by kernel_rfl) ?_
      exact hK _ _ (inv.next 17 (by omega) (inv.st.counts0 3 (by omega) (not_dn hun)))
    · refine wpOp_at rfl rfl (fun K hK => ?_)
      refine wp_bytes 3 (by omega) rfl (by kernel_rfl) ?_
      exact hK _ _ (inv.next 18 (by omega) (inv.st.bytes0 3 (by omega) (not_dn hun)))
    · refine wpOp_at rfl rfl (fun K hK => ?_)
      obtain ⟨b, hs, ho⟩ := inv.st.sl 3 (by omega) (ready_waits (k := 19) (m := 18) (by kernel_rfl) (by decide) hm)
      refine wp_table 3 b rfl (eval_tmp (inv.st.ct 3 (by omega) (ready_waits (k := 19) (m := 17) (by kernel_rfl) (by decide) hm))) (eval_tmp hs) (fun w => by kernel_rfl) ?_
      exact hK _ _ (inv.next 19 (by omega) (inv.st.table0 3 (by omega) (not_dn hun) b ho))
    · refine wpOp_at rfl rfl (fun K hK => ?_)
      obtain ⟨b, hs, ho⟩ := inv.st.tb 3 (by omega) (ready_waits (k := 20) (m := 19) (by kernel_rfl) (by decide) hm)
      obtain ⟨M, es, clk, hu, hn, hM, hE⟩ := inv.st.mp (ready_waits (k := 20) (m := 0) (by kernel_rfl) (by decide) hm)
      refine wp_entry (j := 3) (b := b) rfl (eval_tmp hu) (eval_tmp (inv.st.ky 3 (by omega) (ready_waits (k := 20) (m := 16) (by kernel_rfl) (by decide) hm))) (eval_tmp hs) hM hE.kds (hE.new 3 (by omega) (not_dn hun)) ?_
      exact hK _ _ (inv.next 20 (by omega) (inv.st.entry0 3 (by omega) (not_dn hun) b ho (ready_waits (k := 20) (m := 0) (by kernel_rfl) (by decide) hm) hM hu hn hE))
    · refine wpOp_at rfl rfl (fun K hK => ?_)
      refine wp_is (v := a.tmps.getD 1 undef) (.inl rfl) rfl ?_
      exact hK _ _ (inv.next 21 (by omega) (inv.st.hand 21 18 (by omega) (ready_waits (k := 21) (m := 0) (by kernel_rfl) (by decide) hm)))
    · refine wpOp_at rfl rfl (fun K hK => ?_)
      refine wp_is (v := a.tmps.getD 1 undef) (.inr rfl) (eval_tmp (inv.st.last (ready_waits (k := 22) (m := 21) (by kernel_rfl) (by decide) hm)).1) ?_
      exact hK _ _ (inv.next 22 (by omega) (inv.st.hand 22 0 (by omega) (ready_waits (k := 22) (m := 0) (by kernel_rfl) (by decide) hm)))
  · intro L a V inv hr
    have hall := all_come (rises_spec (by kernel_rfl)) inv.len hr
    obtain ⟨M, es, clk, hu, hn, hM, hE⟩ := inv.st.mp (hall 0 (by decide))
    have hg := (inv.st.given (hall 22 (by decide))).1
    have hu2 : a.tmps.getD 1 undef = .map (some M) := by rw [Array.getD_eq_getD_getElem?, hu]; rfl
    rw [hu2] at hg
    have hE2 : Ents w (fun _ => True) V es.toList := ⟨fun e he => by obtain ⟨j, hj, _, hk⟩ := hE.all e he; exact ⟨j, hj, trivial, hk⟩, fun j hj _ => hE.one j hj (hall _ (by show 5 + 5 * j < 23; omega))⟩
    have hg2 : a.tmps.getD 0 undef = .map (some M) := by rw [Array.getD_eq_getD_getElem?, hg]; rfl
    rename_i hK0
    refine hK0 _ _ (wp_ret (bodyPost_ret (results_tmp rfl _ _ _) inv.st.defers ?_))
    exact ⟨M, es, clk, by rw [← hg2], inv.st.but, hM, hE2⟩
  all_goals exact absurd hd (start_dn _ _)

theorem kd_std (a b : Int) : kdJ (stdIx a b) = kd (a == 0) (b == 0) := by
  unfold stdIx
  by_cases ha : a = 0 <;> by_cases hb : b = 0 <;> simp [ha, hb, kdJ]

set_option maxHeartbeats 6400000 in
set_option maxRecDepth 100000 in
theorem standard_spec (a b : Int) (w : World) : Calls Try.prog 10 #[.int .i64 a, .int .i64 b] w fun e w' => ∃ pv, e = .returned (.agg (tbl (stdc (stdIx a b)) pv).toArray) ∧ View w' .u8 pv (stdL (stdIx a b)) ∧ But Nowhere w w' := by
  have hu := Try.underlying25
  obtain ⟨i, hi⟩ : ∃ i, stdIx a b = i := ⟨_, rfl⟩
  have hi4 : i < 4 := hi ▸ stdIx_lt a b
  have hkd := kd_std a b
  rw [hi] at hkd ⊢
  have HKD : Hid _ := hkd
  clear hkd hi
  have kk := (Keep.start w).made 25 (Value.int .i64 0 :: Value.int .i64 0 :: Value.int .i64 0 :: Value.int .i64 0 :: Value.int .i64 0 :: Value.int .i64 0 :: Value.int .i64 0 :: Value.int .i64 0 :: Value.int .i64 0 :: Value.int .i64 0 :: Value.int .i64 0 :: Value.int .i64 0 :: Value.int .i64 0 :: Value.int .i64 0 :: Value.int .i64 0 :: Value.int .i64 0 :: Value.slice none 0 0 :: [])
  go_enter Try.func10, Try.ntmps10
  go_wp2_with fail
  refine (standards_any _).mono ?_
  rintro e W1 ⟨M, es, clk, rfl, dd, hM, hE⟩
  replace kk := kk.step dd
  obtain ⟨g, hO, hx, hv⟩ := hE.one i hi4 trivial
  have hlook : (Instr.lookup 46 (.map (some M)) (kdJ i) false).run Try.prog W1 = .ok (tbJ i g) W1 := by
    rw [HKD.out] at hv hx ⊢
    exact run_look _ _ _ W1 M es clk hM hE.kds hv hx
  rw [HKD.out] at hlook
  unfold tbJ at hlook
  have hth := kk.head.there 0 (tbl (stdc i) (slJ i g)).toArray.size (by simp [tbl_length])
  have kY := kk.laid_any (tbl (stdc i) (slJ i g)) (by rw [tbl_length]; rfl)
  have hg : g ≠ w.heap.size := by have := hO.1; simp at this; omega
  have hV := hO.2.but (But.setCells (S := fun k => k = w.heap.size) (tbl (stdc i) (slJ i g)) (But.refl (fun k => k = w.heap.size) W1) (fun _ => rfl) 0) hg
  have HX : Hid _ := And.intro kY hV
  have hal : (tbl (stdc i) (slJ i g)).toArray.all (·.oneCell') = true := tbl_all _ _ _ _
  have hi2 : (Try.prog.info? 25).map (·.size) = some (tbl (stdc i) (slJ i g)).toArray.size := by rw [List.size_toArray, tbl_length]; kernel_rfl
  have hi3 : (Try.prog.info? 25).map (·.size) = some (tbl (stdc i) (slJ i g)).length := by rw [tbl_length]; kernel_rfl
  have HI3 : Hid _ := hi3
  clear kk kY hV hE hM hv hx dd hO hi3
  go_wp2_with (refine wpList_store_mid rfl 25 (.tmp 4) (.tmp 11) rfl w.heap.size 0 (tbl (stdc i) (slJ i g)).toArray rfl rfl ?_ hi2 hal ?_; exact hth)
  refine bodyPost_ret (results_cells rfl HX.out.1.head hu rfl HI3.out _ rfl) rfl ⟨slJ i g, rfl, ?_, HX.out.1.but⟩
  exact std_view i hi4 HX.out.2

end Go.Proofs.Ytadcfndjbhcfbaa
