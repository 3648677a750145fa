/- Which blocks of memory a call may have changed, and lists of events in memory: plain facts, of no program. -/
import Derived.WalkKit
import Derived.ProofKit
import Derived.OpenShut
import Derived.Carry
import Derived.Deep.AppendLies
namespace Go.Proofs.Ytadcfndjbhcfbaa
open Go.ChangeShapes Go.WideShapes Go.ChangeAt Go.RowKit

/-- All blocks of w but those of S are in w' as they were; there may be new ones. -/
structure But (S : Nat → Prop) (w w' : World) : Prop where
  os : w'.os = w.os
  tape : w'.tape = w.tape
  output : w'.output = w.output
  size : w.heap.size ≤ w'.heap.size
  block : ∀ k, k < w.heap.size → ¬ S k → w'.heap[k]? = w.heap[k]?

def Nowhere : Nat → Prop := fun _ => False

theorem But.refl (S : Nat → Prop) (w : World) : But S w w := ⟨rfl, rfl, rfl, Nat.le_refl _, fun _ _ _ => rfl⟩

theorem But.trans {S : Nat → Prop} {a b c : World} (h : But S a b) (k : But S b c) : But S a c :=
  ⟨k.os.trans h.os, k.tape.trans h.tape, k.output.trans h.output, Nat.le_trans h.size k.size, fun i hi hs => (k.block i (Nat.lt_of_lt_of_le hi h.size) hs).trans (h.block i hi hs)⟩

theorem But.mono {S T : Nat → Prop} {w w' : World} (h : But S w w') (hst : ∀ k, k < w.heap.size → S k → T k) : But T w w' :=
  ⟨h.os, h.tape, h.output, h.size, fun k hk ht => h.block k hk (fun hs => ht (hst k hk hs))⟩

/-- Two steps, the second over blocks of its own: what is new behind the first may be changed by the second. -/
theorem But.step {S T : Nat → Prop} {a b c : World} (h : But S a b) (k : But T b c) (hst : ∀ i, i < a.heap.size → T i → S i) : But S a c :=
  ⟨k.os.trans h.os, k.tape.trans h.tape, k.output.trans h.output, Nat.le_trans h.size k.size,
    fun i hi hs => (k.block i (Nat.lt_of_lt_of_le hi h.size) (fun ht => hs (hst i hi ht))).trans (h.block i hi hs)⟩

theorem But.drew {S : Nat → Prop} {a w : World} (h : But S a w) : But S a w.drew := ⟨h.os, h.tape, h.output, h.size, h.block⟩

theorem But.alloc {S : Nat → Prop} {a w : World} (h : But S a w) (o : Obj) : But S a (w.alloc o) :=
  ⟨h.os, h.tape, h.output, Nat.le_trans h.size (by simp), fun k hk hs => (Below.heap_alloc w o k (Nat.lt_of_lt_of_le hk h.size)).trans (h.block k hk hs)⟩

theorem But.setCell {S : Nat → Prop} {a w : World} (h : But S a w) {p : Addr} (hp : p.block < a.heap.size → S p.block) (u : Value) : But S a (w.setCell p u) :=
  ⟨h.os, h.tape, h.output, Nat.le_trans h.size (by simp [World.setCell]), fun k hk hs => (Below.heap_setCell w p u k (fun e => by subst e; exact hs (hp hk))).trans (h.block k hk hs)⟩

theorem But.grown {S : Nat → Prop} {a w w' : World} {row : Option Nat} (h : But S a w) (hg : w.grownBy w' row) (hr : ∀ k, row = some k → k < a.heap.size → S k) : But S a w' :=
  ⟨hg.os.trans h.os, hg.tape.trans h.tape, hg.output.trans h.output, Nat.le_trans h.size hg.size,
    fun k hk hs => (hg.block k (Nat.lt_of_lt_of_le hk h.size) (fun e => hs (hr k e.symm hk))).trans (h.block k hk hs)⟩

theorem But.below {w w' : World} (h : But Nowhere w w') : Below w.heap.size w w' := ⟨h.os, h.tape, h.output, h.size, fun k hk => h.block k hk (fun f => f)⟩

theorem But.ofBelow {w w' : World} (h : Below w.heap.size w w') : But Nowhere w w' := ⟨h.os, h.tape, h.output, h.size, fun k hk _ => h.block k hk⟩

theorem But.cell {S : Nat → Prop} {w w' : World} (h : But S w w') {p : Addr} (hp : p.block < w.heap.size) (hs : ¬ S p.block) : w'.cell? p = w.cell? p := World.cell?_of_block (h.block _ hp hs)

theorem But.frozen {S : Nat → Prop} {w w' : World} (h : But S w w') {p : Addr} (hp : p.block < w.heap.size) (hs : ¬ S p.block) : w'.frozen? p = w.frozen? p := World.frozen?_of_block (h.block _ hp hs)

/-- What is owned stays owned, if its block is none of S. -/
theorem But.owns {S : Nat → Prop} {w w' : World} (h : But S w w') {base : Nat} {e : TypeId} {size : Nat} {v : Value} {n : Nat} {xs : List Value} (ho : w.ownsRow base e size v n xs) (hs : ∀ k, v.ownBlock = some k → ¬ S k) : w'.ownsRow base e size v n xs := by
  refine ⟨ho.1, ?_⟩
  rcases ho.2 with hn | ⟨g, cap, cur, rfl, hb, hgg, rest⟩
  · exact .inl hn
  · exact .inr ⟨g, cap, cur, rfl, hb, (h.block g (Array.getElem?_eq_some_iff.1 hgg).1 (hs g rfl)).trans hgg, rest⟩

/-- Events, as pairs of a kind and a number; their cells. -/
abbrev Ev := Int × Int
def evCells : List Ev → List Value
  | [] => []
  | e :: r => .int .i64 e.1 :: .int .i64 e.2 :: evCells r

theorem evCells_length (l : List Ev) : (evCells l).length = l.length * 2 := by
  induction l with
  | nil => rfl
  | cons e r ih => simp [evCells, ih]; omega

theorem evCells_append (l m : List Ev) : evCells (l ++ m) = evCells l ++ evCells m := by
  induction l with
  | nil => rfl
  | cons e r ih => simp [evCells, ih]

theorem evCells_at (l : List Ev) (i : Nat) (h : i < l.length) : (evCells l)[i * 2]? = some (.int .i64 l[i].1) ∧ (evCells l)[i * 2 + 1]? = some (.int .i64 l[i].2) := by
  induction l generalizing i with
  | nil => simp at h
  | cons e r ih =>
    cases i with
    | zero => simp [evCells]
    | succ j =>
      have := ih j (by simpa using h)
      rw [show (j + 1) * 2 = j * 2 + 1 + 1 by omega]
      simpa [evCells] using this

theorem evCells_one (l : List Ev) : ∀ u ∈ evCells l, u.oneCell' = true := by
  induction l with
  | nil => simp [evCells]
  | cons e r ih => intro u hu; simp only [evCells, List.mem_cons] at hu; rcases hu with rfl | rfl | hu <;> first | rfl | exact ih u hu

/-- The value v is a list of these events, in a block of its own, or none. -/
abbrev Evs (w : World) (v : Value) (es : List Ev) : Prop := w.ownsRow 0 76 2 v es.length (evCells es)

/-- What such a value looks like, and its cells. -/
theorem Evs.form {w : World} {v : Value} {es : List Ev} (h : Evs w v es) : (v = .slice none 0 0 ∧ es = []) ∨
    ∃ g cap, v = .slice (some ⟨g, 0, none⟩) es.length cap ∧ g < w.heap.size ∧ es.length ≤ cap ∧ cap ≤ maxLen ∧
      ∀ i (hi : i < es.length), w.cell? ⟨g, i * 2, none⟩ = some (.int .i64 es[i].1) ∧ w.cell? ⟨g, i * 2 + 1, none⟩ = some (.int .i64 es[i].2) := by
  rcases h.2 with ⟨h1, h2⟩ | ⟨g, cap, cur, rfl, _, hg, hl, hm, _⟩
  · exact .inl ⟨h1, List.eq_nil_of_length_eq_zero h2⟩
  · refine .inr ⟨g, cap, rfl, (Array.getElem?_eq_some_iff.1 hg).1, hl, hm, fun i hi => ?_⟩
    have hc := World.ownsRow.cells h (g := g) rfl
    have he := evCells_at es i hi
    have a0 := hc _ _ he.1
    have a1 := hc _ _ he.2
    rw [Addr.add_lit] at a0 a1
    simpa using And.intro a0 a1

theorem Evs.lt {w : World} {v : Value} {es : List Ev} (h : Evs w v es) {k : Nat} (hk : v.ownBlock = some k) : k < w.heap.size := (World.ownsRow.lt h k hk).2

/-- Block b is a recorder with these events; v is its list. -/
structure Rec (w : World) (b : Nat) (v : Value) (es : List Ev) : Prop where
  at_ : w.heap[b]? = some (.cells #[v] 82 (0, 0))
  evs : Evs w v es
  apart : v.ownBlock ≠ some b

/-- The blocks that are a recorder's. -/
def Foot (b : Nat) (v : Value) : Nat → Prop := fun k => k = b ∨ v.ownBlock = some k

theorem Rec.lt {w : World} {b : Nat} {v : Value} {es : List Ev} (h : Rec w b v es) : b < w.heap.size := (Array.getElem?_eq_some_iff.1 h.at_).1

theorem Rec.foot_lt {w : World} {b : Nat} {v : Value} {es : List Ev} (h : Rec w b v es) {k : Nat} (hk : Foot b v k) : k < w.heap.size := by
  rcases hk with rfl | hk
  · exact h.lt
  · exact h.evs.lt hk

theorem Rec.cell {w : World} {b : Nat} {v : Value} {es : List Ev} (h : Rec w b v es) : w.cell? ⟨b, 0, none⟩ = some v := by
  rw [cell_of_row w b 0 _ _ _ h.at_]; rfl

theorem Rec.frozen {w : World} {b : Nat} {v : Value} {es : List Ev} (h : Rec w b v es) : w.frozen? ⟨b, 0, none⟩ = false := by
  simp [World.frozen?, h.at_]

theorem Rec.but {S : Nat → Prop} {w w' : World} {b : Nat} {v : Value} {es : List Ev} (h : Rec w b v es) (hb : But S w w') (hs : ∀ k, Foot b v k → ¬ S k) : Rec w' b v es :=
  ⟨(hb.block b h.lt (hs b (.inl rfl))).trans h.at_, hb.owns h.evs (fun k hk => hs k (.inr hk)), h.apart⟩

theorem heap_setCell_one {w : World} {b : Nat} {v u : Value} {t : TypeId} (h : w.heap[b]? = some (.cells #[v] t (0, 0))) : (w.setCell ⟨b, 0, none⟩ u).heap[b]? = some (.cells #[u] t (0, 0)) := by
  simp [World.setCell, Array.getElem?_modify, h]

/-- One event more was laid: o, o2 are what the call made on its way. -/
theorem Rec.laid {w w1 : World} {b gg cap : Nat} {v : Value} {es : List Ev} {k n : Int} {o o2 : Obj} (h : Rec w b v es)
    (hown : w1.ownsRow 0 76 2 (.slice (some ⟨gg, 0, none⟩) (es.length + 1) cap) (es.length + 1) (evCells es ++ [.int .i64 k, .int .i64 n]))
    (hgrow : ((w.alloc o).alloc o2).drew.grownBy w1 v.ownBlock) (hat : v.ownBlock = some gg ∨ gg = w.heap.size + 2) :
    ∃ v', Rec (w1.setCell ⟨b, 0, none⟩ (.slice (some ⟨gg, 0, none⟩) (es.length + 1) cap)) b v' (es ++ [(k, n)]) ∧ (v'.ownBlock = v.ownBlock ∨ ∀ x, v'.ownBlock = some x → w.heap.size ≤ x) ∧
      But (Foot b v) w (w1.setCell ⟨b, 0, none⟩ (.slice (some ⟨gg, 0, none⟩) (es.length + 1) cap)) := by
  have hlt := h.lt
  have hne : gg ≠ b := by
    rcases hat with e | e
    · intro e2; subst e2; exact h.apart e
    · omega
  have hbut : But (Foot b v) w w1 := ((((But.refl _ w).alloc o).alloc o2).drew).grown hgrow (fun k hk _ => .inr hk)
  have hb1 : w1.heap[b]? = some (.cells #[v] 82 (0, 0)) := by
    rw [hgrow.block b (by simp; omega) (Ne.symm h.apart)]
    show ((w.alloc o).alloc o2).heap[b]? = _
    rw [Below.heap_alloc _ _ _ (by simp; omega), Below.heap_alloc _ _ _ hlt]
    exact h.at_
  refine ⟨_, ⟨heap_setCell_one hb1, ?_, by simpa [Value.ownBlock] using hne⟩, ?_, hbut.setCell (fun _ => .inl rfl) _⟩
  · have hs : But (fun x => x = b) w1 (w1.setCell ⟨b, 0, none⟩ (.slice (some ⟨gg, 0, none⟩) (es.length + 1) cap)) := But.setCell (S := fun x => x = b) (But.refl _ _) (fun _ => rfl) _
    have := hs.owns hown (fun k hk e => by simp [Value.ownBlock] at hk; omega)
    simpa [Evs, evCells_append, evCells] using this
  · rcases hat with e | e
    · exact .inl (by simpa [Value.ownBlock] using e.symm)
    · right
      intro x hx
      simp [Value.ownBlock] at hx
      omega

/-- An event more: the recorder b, v has es now; all else is as it was. -/
def Laid (w w' : World) (b : Nat) (v : Value) (es : List Ev) : Prop := ∃ v', Rec w' b v' es ∧ (v'.ownBlock = v.ownBlock ∨ ∀ x, v'.ownBlock = some x → w.heap.size ≤ x) ∧ But (Foot b v) w w'

/-- A new list of these events; all else is as it was. -/
def Fresh (w w' : World) (v : Value) (es : List Ev) : Prop := Evs w' v es ∧ (∀ x, v.ownBlock = some x → w.heap.size ≤ x) ∧ But Nowhere w w'

/-- A recorder that was made behind w0, of which nothing has turned. -/
structure Own (w0 w : World) (b : Nat) (v : Value) (es : List Ev) : Prop where
  rcd : Rec w b v es
  new : ∀ k, Foot b v k → w0.heap.size ≤ k
  but : But Nowhere w0 w

theorem Own.laid {w0 w w' : World} {b : Nat} {v : Value} {es fs : List Ev} (h : Own w0 w b v es) (hl : Laid w w' b v fs) : ∃ v', Own w0 w' b v' fs ∧ (v'.ownBlock = v.ownBlock ∨ ∀ x, v'.ownBlock = some x → w.heap.size ≤ x) ∧ But (Foot b v) w w' := by
  obtain ⟨v', hr, ho, hb⟩ := hl
  refine ⟨v', ⟨hr, fun k hk => ?_, h.but.step hb (fun i hi hf => ?_)⟩, ho, hb⟩
  · rcases hk with rfl | hk
    · exact h.new _ (.inl rfl)
    · rcases ho with e | e
      · exact h.new _ (.inr (by rw [← e]; exact hk))
      · exact Nat.le_trans h.but.size (e k hk)
  · have := h.new i hf; omega

theorem Own.step {w0 w w' : World} {b : Nat} {v : Value} {es : List Ev} (h : Own w0 w b v es) (hb : But Nowhere w w') : Own w0 w' b v es :=
  ⟨h.rcd.but hb (fun _ _ f => f), h.new, h.but.step hb (fun _ _ f => f)⟩

/-- Two recorders that share nothing. -/
structure Two (w0 w : World) (b : Nat) (v : Value) (es : List Ev) (c : Nat) (u : Value) (fs : List Ev) : Prop where
  one : Own w0 w b v es
  two : Own w0 w c u fs
  apart : ∀ k, Foot b v k → ¬ Foot c u k

theorem Two.swap {w0 w : World} {b c : Nat} {v u : Value} {es fs : List Ev} (h : Two w0 w b v es c u fs) : Two w0 w c u fs b v es := ⟨h.two, h.one, fun k a b => h.apart k b a⟩

theorem Two.step {w0 w w' : World} {b c : Nat} {v u : Value} {es fs : List Ev} (h : Two w0 w b v es c u fs) (hb : But Nowhere w w') : Two w0 w' b v es c u fs := ⟨h.one.step hb, h.two.step hb, h.apart⟩

theorem Two.laid {w0 w w' : World} {b c : Nat} {v u : Value} {es fs gs : List Ev} (h : Two w0 w b v es c u fs) (hl : Laid w w' b v gs) : ∃ v', Two w0 w' b v' gs c u fs := by
  obtain ⟨v', ho, hv, hb⟩ := h.one.laid hl
  refine ⟨v', ho, ⟨h.two.rcd.but hb (fun k hk hf => h.apart k hf hk), h.two.new, ho.but⟩, fun k hk hf => ?_⟩
  rcases hk with rfl | hk
  · exact h.apart _ (.inl rfl) hf
  · rcases hv with e | e
    · exact h.apart k (.inr (by rw [← e]; exact hk)) hf
    · have := e k hk
      have := h.two.rcd.foot_lt hf
      omega

/-- One recorder, and a second one that is made behind it. -/
theorem Own.two {w0 w w' : World} {b c : Nat} {v u : Value} {es fs : List Ev} (h : Own w0 w b v es) (k : Own w w' c u fs) : Two w0 w' b v es c u fs :=
  ⟨h.step k.but, ⟨k.rcd, fun x hx => Nat.le_trans h.but.size (k.new x hx), h.but.step k.but (fun _ _ f => f)⟩, fun x hx hy => by
    have := h.rcd.foot_lt hx
    have := k.new x hy
    omega⟩

theorem Own.far {w0 w w' : World} {b g : Nat} {v : Value} {es : List Ev} (h : Own w0 w b v es) (hb : But (fun x => x = g) w w') (h0 : w0.heap.size ≤ g) (h1 : ¬ Foot b v g) : Own w0 w' b v es :=
  ⟨h.rcd.but hb (fun k hk e => h1 (by subst e; exact hk)), h.new, h.but.step hb (fun i hi e => by omega)⟩

theorem Two.far {w0 w w' : World} {b c g : Nat} {v u : Value} {es fs : List Ev} (h : Two w0 w b v es c u fs) (hb : But (fun x => x = g) w w') (h0 : w0.heap.size ≤ g) (h1 : ¬ Foot b v g) (h2 : ¬ Foot c u g) : Two w0 w' b v es c u fs :=
  ⟨h.one.far hb h0 h1, h.two.far hb h0 h2, h.apart⟩

/-- Block g has n cells that may be written. -/
def Blk (w : World) (g : Nat) (t : TypeId) (n : Nat) : Prop := ∃ cur, w.heap[g]? = some (.cells cur t (0, 0)) ∧ cur.size = n

theorem Blk.cell {w : World} {g n : Nat} {t : TypeId} (h : Blk w g t n) (j : Nat) (hj : j < n) : ∃ u, w.cell? ⟨g, j, none⟩ = some u := by
  obtain ⟨cur, h1, h2⟩ := h
  exact ⟨cur[j]'(by omega), by rw [cell_of_row w g j cur t _ h1]; simp [h2, hj]⟩

theorem Blk.frozen {w : World} {g n : Nat} {t : TypeId} (h : Blk w g t n) (j : Nat) : w.frozen? ⟨g, j, none⟩ = false := by
  obtain ⟨cur, h1, h2⟩ := h
  simp [World.frozen?, h1]

theorem Blk.set {w : World} {g n : Nat} {t : TypeId} (h : Blk w g t n) (j : Nat) (u : Value) : Blk (w.setCell ⟨g, j, none⟩ u) g t n := by
  obtain ⟨cur, h1, h2⟩ := h
  exact ⟨cur.setIfInBounds j u, by simp [World.setCell, Array.getElem?_modify, h1], by simpa using h2⟩

theorem Blk.but {S : Nat → Prop} {w w' : World} {g n : Nat} {t : TypeId} (h : Blk w g t n) (hb : But S w w') (hs : ¬ S g) : Blk w' g t n := by
  obtain ⟨cur, h1, h2⟩ := h
  exact ⟨cur, (hb.block g (Array.getElem?_eq_some_iff.1 h1).1 hs).trans h1, h2⟩

theorem Evs.blk {w : World} {g n cap : Nat} {es : List Ev} (h : Evs w (.slice (some ⟨g, 0, none⟩) n cap) es) : Blk w g 76 (cap * 2) := by
  rcases h.2 with ⟨h1, _⟩ | ⟨g', cap', cur, h1, _, hg, _, _, hc, _⟩
  · cases h1
  · cases h1; exact ⟨cur, hg, hc⟩

end Go.Proofs.Ytadcfndjbhcfbaa
