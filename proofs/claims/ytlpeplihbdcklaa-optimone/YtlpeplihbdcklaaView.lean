/- Lists of numbers in memory: rows that are known whole, lists that can be read; how they come in as arguments. -/
import Derived.Test.YtlpeplihbdcklaaMasks
import Derived.Test.YtlpeplihbdcklaaWord
import Derived.Deep.SlicePairs
import Derived.SizedLaws
namespace Go.Proofs.Ytlpeplihbdcklaa
open Go.ChangeShapes Go.WideShapes Go.ChangeAt Go.RowKit Go.Deep
set_option maxRecDepth 100000

/-- Numbers, as cells. -/
def ints (k : IntKind) (l : List Int) : List Value := l.map (Value.int k)

theorem ints_length (k : IntKind) (l : List Int) : (ints k l).length = l.length := by simp [ints]
theorem ints_at (k : IntKind) (l : List Int) (i : Nat) (h : i < l.length) : (ints k l)[i]? = some (.int k l[i]) := by simp [ints, h]
theorem ints_set (k : IntKind) (l : List Int) (i : Nat) (n : Int) : ints k (l.set i n) = (ints k l).set i (.int k n) := by simp [ints, List.map_set]
theorem ints_append (k : IntKind) (l m : List Int) : ints k (l ++ m) = ints k l ++ ints k m := by simp [ints]
theorem ints_one (k : IntKind) (l : List Int) : ∀ u ∈ ints k l, u.oneCell' = true := by
  intro u hu
  simp only [ints, List.mem_map] at hu
  obtain ⟨a, _, rfl⟩ := hu
  rfl
theorem ints_made (k : IntKind) (n : Nat) : (madeCells #[.int k 0] (n * 1)) = (ints k (List.replicate n 0)).toArray := by
  apply Array.ext_getElem?
  intro i
  simp [madeCells, ints, Array.getElem?_map, Array.getElem?_range, Nat.mod_one]
  split <;> simp_all

/-- Block g holds these numbers, and nothing else. -/
def Row (w : World) (g : Nat) (t : TypeId) (k : IntKind) (l : List Int) : Prop := w.heap[g]? = some (.cells (ints k l).toArray t (0, 0))

theorem Row.lt {w : World} {g : Nat} {t : TypeId} {k : IntKind} {l : List Int} (h : Row w g t k l) : g < w.heap.size := (Array.getElem?_eq_some_iff.1 h).1

theorem Row.cell {w : World} {g : Nat} {t : TypeId} {k : IntKind} {l : List Int} (h : Row w g t k l) (i : Nat) (hi : i < l.length) : w.cell? ⟨g, i, none⟩ = some (.int k l[i]) := by
  rw [cell_of_row w g i _ _ _ h]
  simpa using ints_at k l i hi

theorem Row.frozen {w : World} {g : Nat} {t : TypeId} {k : IntKind} {l : List Int} (h : Row w g t k l) (i : Nat) : w.frozen? ⟨g, i, none⟩ = false := by
  unfold Row at h
  simp [World.frozen?, h]

theorem Row.set {w : World} {g : Nat} {t : TypeId} {k : IntKind} {l : List Int} (h : Row w g t k l) (i : Nat) (n : Int) : Row (w.setCell ⟨g, i, none⟩ (.int k n)) g t k (l.set i n) := by
  unfold Row at h ⊢
  simp [World.setCell, Array.getElem?_modify, h, ints_set]

theorem Row.but {S : Nat → Prop} {w w' : World} {g : Nat} {t : TypeId} {k : IntKind} {l : List Int} (h : Row w g t k l) (hb : But S w w') (hs : ¬ S g) : Row w' g t k l :=
  (hb.block g h.lt hs).trans h

/-- v is a list of these numbers, wherever it lies. -/
def View (w : World) (k : IntKind) (v : Value) (l : List Int) : Prop :=
  ∃ ao cap, v = .slice ao l.length cap ∧ (l ≠ [] → ∃ b off, ao = some ⟨b, off, none⟩ ∧ b < w.heap.size ∧ ∀ i (hi : i < l.length), w.cell? ⟨b, off + i, none⟩ = some (.int k l[i]))

/-- v lies, if it is no empty list, in no block of S. -/
def Off (S : Nat → Prop) (v : Value) : Prop := ∀ b off sp n cap, v = .slice (some ⟨b, off, sp⟩) n cap → n ≠ 0 → ¬ S b

theorem View.butS {S : Nat → Prop} {w w' : World} {k : IntKind} {v : Value} {l : List Int} (h : View w k v l) (hb : But S w w') (hs : Off S v) : View w' k v l := by
  obtain ⟨ao, cap, rfl, h⟩ := h
  refine ⟨ao, cap, rfl, fun hne => ?_⟩
  obtain ⟨b, off, rfl, hlt, hc⟩ := h hne
  refine ⟨b, off, rfl, Nat.lt_of_lt_of_le hlt hb.size, fun i hi => ?_⟩
  rw [hb.cell (p := ⟨b, off + i, none⟩) hlt (hs _ _ _ _ _ rfl (by intro e; exact hne (List.eq_nil_of_length_eq_zero e)))]
  exact hc i hi

theorem View.but {w w' : World} {k : IntKind} {v : Value} {l : List Int} (h : View w k v l) (hb : But Nowhere w w') : View w' k v l := h.butS hb (fun _ _ _ _ _ _ _ f => f)

/-- What lay in old memory lies in none of the new blocks. -/
theorem View.off {S : Nat → Prop} {w : World} {k : IntKind} {v : Value} {l : List Int} (h : View w k v l) (hs : ∀ b, b < w.heap.size → ¬ S b) : Off S v := by
  obtain ⟨ao, cap, rfl, h⟩ := h
  intro b off sp n c e hn
  cases e
  obtain ⟨b', off', e, hlt, -⟩ := h (by intro e; subst e; exact hn rfl)
  cases e
  exact hs _ hlt

theorem View.nil (w : World) (k : IntKind) : View w k (.slice none 0 0) [] := ⟨none, 0, rfl, fun h => absurd rfl h⟩

theorem Row.view {w : World} {g : Nat} {t : TypeId} {k : IntKind} {l : List Int} (h : Row w g t k l) (cap : Nat) : View w k (.slice (some ⟨g, 0, none⟩) l.length cap) l :=
  ⟨_, cap, rfl, fun _ => ⟨g, 0, rfl, h.lt, fun i hi => by rw [Nat.zero_add]; exact h.cell i hi⟩⟩

theorem View.of_owns {w : World} {base : Nat} {t : TypeId} {k : IntKind} {v : Value} {l : List Int} (h : w.ownsRow base t 1 v l.length (ints k l)) : View w k v l := by
  rcases h.2 with ⟨h1, h2⟩ | ⟨g, cap, cur, rfl, _, hg, hl, hm, _⟩
  · have := List.eq_nil_of_length_eq_zero h2
    subst this
    exact ⟨none, 0, h1, fun h => absurd rfl h⟩
  · refine ⟨_, cap, rfl, fun _ => ⟨g, 0, rfl, (Array.getElem?_eq_some_iff.1 hg).1, fun i hi => ?_⟩⟩
    have hc := World.ownsRow.cells h (g := g) rfl
    have a0 := hc _ _ (ints_at k l i hi)
    rw [Addr.add_lit] at a0
    simpa using a0

theorem Try.cells1U8 : Try.prog.cellsOf 5 = 1 := by kernel_rfl
theorem Try.cells1Int : Try.prog.cellsOf 3 = 1 := by kernel_rfl
theorem Try.bytes1U8 : Try.prog.bytesOf 5 = 1 := by kernel_rfl
theorem Try.bytes1Int : Try.prog.bytesOf 3 = 8 := by kernel_rfl

theorem open_ints {H : Type} {enc : TypeId × Value → H} {W : World} {base : Nat} {v : Value} {d : DataW H} {p : List MemPlace} (hval : Value.okWide Try.prog W .any base 22 v)
    (h : DataW.Trod enc Try.prog W 0 (fun _ => true) true 22 v d p) : ∃ l, (View W .i64 v l ∧ ∀ x ∈ l, I64 x) ∧ ((d = .nil ∧ l = []) ∨ ∃ elems spare, d = .slice elems spare ∧ elems.length = l.length) := by
  obtain ⟨a0, len0, cap0, rfl⟩ := okWide_slice Try.underlying22 hval
  obtain ⟨fuel, hf⟩ := h
  rcases open_slice1 Try.underlying22 Try.cells1Int hf with ⟨hc, hx⟩ | ⟨a, len, cap, m, n, V0, D0, P0, hc, _, hl, hm, hmm, hx, hall⟩
  · simp [Value.cells] at hc
    obtain ⟨rfl, rfl, rfl⟩ := hc
    simp only [Prod.mk.injEq] at hx
    exact ⟨[], ⟨View.nil _ _, by simp⟩, .inl ⟨hx.1, rfl⟩⟩
  · simp [Value.cells] at hc
    obtain ⟨rfl, rfl, rfl⟩ := hc
    simp only [if_true] at hmm
    subst hmm
    simp only [Prod.mk.injEq] at hx
    have h0 : ∀ i, i < m → ∃ k, V0 i = .int .i64 k ∧ (Lit.int .i64 k).wf = true := fun i hi => by
      obtain ⟨k, h1, _, h3⟩ := DataW.trod_int Try.underlying3 (hall i hi).2
      simp only [List.cons.injEq, and_true] at h1
      exact ⟨k, h1, h3⟩
    refine ⟨(List.range len0).map fun i => intOf (V0 i), ⟨⟨some a, m, by simp, fun hne => ?_⟩, ?_⟩, .inr ⟨_, _, hx.1, by simp⟩⟩
    · have hpos : 0 < len0 := by
        rcases Nat.eq_zero_or_pos len0 with e | e
        · subst e; simp at hne
        · exact e
      obtain ⟨b, off, spot⟩ := a
      have hspot : spot = none := by simpa [Addr.add] using World.cell?_spot (hall 0 (by omega)).1
      subst hspot
      refine ⟨b, off, rfl, World.block_lt_of_cell? W _ (hall 0 (by omega)).1, fun i hi => ?_⟩
      have hi' : i < len0 := by simpa using hi
      obtain ⟨k0, e0, -⟩ := h0 i (by omega)
      have c0 := (hall i (by omega)).1
      rw [Addr.add_lit] at c0
      simp only [List.getElem_map, List.getElem_range]
      rw [e0] at c0 ⊢
      exact c0
    · intro x hx
      simp only [List.mem_map, List.mem_range] at hx
      obtain ⟨i, hi, rfl⟩ := hx
      obtain ⟨k0, e0, e1⟩ := h0 i (by omega)
      rw [e0]
      exact i64_in e1

theorem ints_small {H : Type} {ts : List TypeId} {ds : List (DataW H)} {d : DataW H} {l : List Int} (hsz : (DataW.weightsEach Try.prog ts ds).all (· ≤ reachBytes) = true) {j : Nat} (ht : ts[j]? = some 22) (hd : ds[j]? = some d)
    (h : (d = .nil ∧ l = []) ∨ ∃ elems spare, d = .slice elems spare ∧ elems.length = l.length) : l.length ≤ 17592186044416 := by
  rcases h with ⟨_, rfl⟩ | ⟨elems, spare, rfl, he⟩
  · simp
  · have := sized_slice hsz ht hd Try.underlying22
    rw [Try.bytes1Int] at this
    unfold reachBytes at this
    omega

theorem open_bytes {H : Type} {enc : TypeId × Value → H} {W : World} {base : Nat} {v : Value} {d : DataW H} {p : List MemPlace} (hval : Value.okWide Try.prog W .any base 23 v)
    (h : DataW.Trod enc Try.prog W 0 (fun _ => true) true 23 v d p) : ∃ l, (View W .u8 v l ∧ ∀ x ∈ l, 0 ≤ x ∧ x ≤ 255) ∧ ((d = .nil ∧ l = []) ∨ ∃ elems spare, d = .slice elems spare ∧ elems.length = l.length) := by
  obtain ⟨a0, len0, cap0, rfl⟩ := okWide_slice Try.underlying23 hval
  obtain ⟨fuel, hf⟩ := h
  rcases open_slice1 Try.underlying23 Try.cells1U8 hf with ⟨hc, hx⟩ | ⟨a, len, cap, m, n, V0, D0, P0, hc, _, hl, hm, hmm, hx, hall⟩
  · simp [Value.cells] at hc
    obtain ⟨rfl, rfl, rfl⟩ := hc
    simp only [Prod.mk.injEq] at hx
    exact ⟨[], ⟨View.nil _ _, by simp⟩, .inl ⟨hx.1, rfl⟩⟩
  · simp [Value.cells] at hc
    obtain ⟨rfl, rfl, rfl⟩ := hc
    simp only [if_true] at hmm
    subst hmm
    simp only [Prod.mk.injEq] at hx
    have h0 : ∀ i, i < m → ∃ k, V0 i = .int .u8 k ∧ (Lit.int .u8 k).wf = true := fun i hi => by
      obtain ⟨k, h1, _, h3⟩ := DataW.trod_int Try.underlying5 (hall i hi).2
      simp only [List.cons.injEq, and_true] at h1
      exact ⟨k, h1, h3⟩
    refine ⟨(List.range len0).map fun i => intOf (V0 i), ⟨⟨some a, m, by simp, fun hne => ?_⟩, ?_⟩, .inr ⟨_, _, hx.1, by simp⟩⟩
    · have hpos : 0 < len0 := by
        rcases Nat.eq_zero_or_pos len0 with e | e
        · subst e; simp at hne
        · exact e
      obtain ⟨b, off, spot⟩ := a
      have hspot : spot = none := by simpa [Addr.add] using World.cell?_spot (hall 0 (by omega)).1
      subst hspot
      refine ⟨b, off, rfl, World.block_lt_of_cell? W _ (hall 0 (by omega)).1, fun i hi => ?_⟩
      have hi' : i < len0 := by simpa using hi
      obtain ⟨k0, e0, -⟩ := h0 i (by omega)
      have c0 := (hall i (by omega)).1
      rw [Addr.add_lit] at c0
      simp only [List.getElem_map, List.getElem_range]
      rw [e0] at c0 ⊢
      exact c0
    · intro x hx
      simp only [List.mem_map, List.mem_range] at hx
      obtain ⟨i, hi, rfl⟩ := hx
      obtain ⟨k0, e0, e1⟩ := h0 i (by omega)
      rw [e0]
      exact u8_in e1

theorem bytes_small {H : Type} {ts : List TypeId} {ds : List (DataW H)} {d : DataW H} {l : List Int} (hsz : (DataW.weightsEach Try.prog ts ds).all (· ≤ reachBytes) = true) {j : Nat} (ht : ts[j]? = some 23) (hd : ds[j]? = some d)
    (h : (d = .nil ∧ l = []) ∨ ∃ elems spare, d = .slice elems spare ∧ elems.length = l.length) : l.length ≤ 140737488355328 := by
  rcases h with ⟨_, rfl⟩ | ⟨elems, spare, rfl, he⟩
  · simp
  · have := sized_slice hsz ht hd Try.underlying23
    rw [Try.bytes1U8] at this
    unfold reachBytes at this
    omega

end Go.Proofs.Ytlpeplihbdcklaa
