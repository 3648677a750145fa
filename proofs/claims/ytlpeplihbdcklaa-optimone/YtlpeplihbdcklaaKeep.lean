/- Blocks that a call has made and still knows, one by one: what they hold, and that all old memory is as it was; and the choice between two operations of a drawn region. -/
import Derived.Test.YtlpeplihbdcklaaCol2
import Derived.Test.YtlpeplihbdcklaaTill
namespace Go.Proofs.Ytlpeplihbdcklaa
open Go.ChangeShapes Go.WideShapes Go.ChangeAt Go.RowKit

theorem Cells.three {w : World} {b : Nat} {t : TypeId} {v0 v1 v2 : Value} (h : Cells w b t [v0, v1, v2]) : w.cell? ⟨b, 0, none⟩ = some v0 ∧ w.cell? ⟨b, 1, none⟩ = some v1 ∧ w.cell? ⟨b, 2, none⟩ = some v2 := ⟨h.at 0, h.at 1, h.at 2⟩
theorem Cells.five {w : World} {b : Nat} {t : TypeId} {v0 v1 v2 v3 v4 : Value} (h : Cells w b t [v0, v1, v2, v3, v4]) : w.cell? ⟨b, 0, none⟩ = some v0 ∧ w.cell? ⟨b, 1, none⟩ = some v1 ∧ w.cell? ⟨b, 2, none⟩ = some v2 ∧ w.cell? ⟨b, 3, none⟩ = some v3 ∧ w.cell? ⟨b, 4, none⟩ = some v4 := ⟨h.at 0, h.at 1, h.at 2, h.at 3, h.at 4⟩
theorem Cells.twelve {w : World} {b : Nat} {t : TypeId} {v0 v1 v2 v3 v4 v5 v6 v7 v8 v9 v10 v11 : Value} (h : Cells w b t [v0, v1, v2, v3, v4, v5, v6, v7, v8, v9, v10, v11]) : (w.cell? ⟨b, 0, none⟩ = some v0 ∧ w.cell? ⟨b, 1, none⟩ = some v1 ∧ w.cell? ⟨b, 2, none⟩ = some v2 ∧ w.cell? ⟨b, 3, none⟩ = some v3) ∧ (w.cell? ⟨b, 4, none⟩ = some v4 ∧ w.cell? ⟨b, 5, none⟩ = some v5 ∧ w.cell? ⟨b, 6, none⟩ = some v6 ∧ w.cell? ⟨b, 7, none⟩ = some v7) ∧ w.cell? ⟨b, 8, none⟩ = some v8 ∧ w.cell? ⟨b, 9, none⟩ = some v9 ∧ w.cell? ⟨b, 10, none⟩ = some v10 ∧ w.cell? ⟨b, 11, none⟩ = some v11 := ⟨⟨h.at 0, h.at 1, h.at 2, h.at 3⟩, ⟨h.at 4, h.at 5, h.at 6, h.at 7⟩, h.at 8, h.at 9, h.at 10, h.at 11⟩

/-- Two operations may come. -/
theorem Walk.both {P : Program} {ops : Array Oper} {Q : Exit → Act → World → Prop} {md : Region.Mode} {S R : World → Prop} {k m f i j : Nat} {oi oj : Oper} {L : Array Bool} {a : Act} {w : World} (hr : Region.ready md ops L = [i, j]) (ho : ops[i]? = some oi) (hp : ops[j]? = some oj)
    (h : ∀ K : Act → World → Prop, Shut (∀ a w, Till S R k m (L.setIfInBounds i true) w → Walk P md ops Q S R k m f (L.setIfInBounds i true) a w → K a w) → if Region.wanted oi (yielded ops a.tmps) = true then Oper.wp P oi a w K Q else K (a.put oi.dst undef) w)
    (g : ∀ K : Act → World → Prop, Shut (∀ a w, Till S R k m (L.setIfInBounds j true) w → Walk P md ops Q S R k m f (L.setIfInBounds j true) a w → K a w) → if Region.wanted oj (yielded ops a.tmps) = true then Oper.wp P oj a w K Q else K (a.put oj.dst undef) w) :
    Walk P md ops Q S R k m (f + 1) L a w := fun hc ht => by
  refine ⟨fun h0 => (by rw [hr] at h0; cases h0), fun n hn => ?_⟩
  have hc' : Shutd md ops (L.setIfInBounds n true) := hc.set hn
  rw [hr] at hn
  simp only [List.mem_cons, List.not_mem_nil, or_false] at hn
  rcases hn with rfl | rfl
  · exact wpOp_step ho (fun K hK => h K (fun a w ht' hw => hK a w ⟨ht', hw hc' ht'⟩))
  · exact wpOp_step hp (fun K hK => g K (fun a w ht' hw => hK a w ⟨ht', hw hc' ht'⟩))

/-- A block, the type of its cells, what they hold. -/
abbrev Bk := Nat × TypeId × List Value

/-- Since w of old memory nothing has turned; these blocks are new, no two are the same, and they hold these cells. -/
structure Keep (w W : World) (l : List Bk) : Prop where
  but : But Nowhere w W
  new : ∀ x ∈ l, w.heap.size ≤ x.1
  holds : ∀ x ∈ l, Cells W x.1 x.2.1 x.2.2
  apart : l.Pairwise (fun x y => x.1 ≠ y.1)

theorem Keep.start (w : World) : Keep w w [] := ⟨But.refl _ _, by simp, by simp, .nil⟩

theorem Keep.get {w W : World} {l : List Bk} (h : Keep w W l) {b : Nat} {t : TypeId} {c : List Value} (hm : (b, t, c) ∈ l) : Cells W b t c := h.holds _ hm

theorem Keep.head {w W : World} {l : List Bk} {b : Nat} {t : TypeId} {c : List Value} (h : Keep w W ((b, t, c) :: l)) : Cells W b t c := h.holds (b, t, c) (by simp)

theorem Keep.step {w W W' : World} {l : List Bk} (h : Keep w W l) (hb : But Nowhere W W') : Keep w W' l :=
  ⟨h.but.trans hb, h.new, fun x hx => (h.holds x hx).but hb (not_nowhere _), h.apart⟩

theorem Keep.drew {w W : World} {l : List Bk} (h : Keep w W l) : Keep w W.drew l := h.step (But.refl _ _).drew

theorem Keep.alloc {w W : World} {l : List Bk} (h : Keep w W l) (o : Obj) : Keep w (W.alloc o) l := h.step ((But.refl _ _).alloc o)

theorem Keep.made {w W : World} {l : List Bk} (h : Keep w W l) (t : TypeId) (c : List Value) : Keep w (W.alloc (.cells c.toArray t)) ((W.heap.size, t, c) :: l) := by
  have h' := h.alloc (.cells c.toArray t)
  refine ⟨h'.but, fun x hx => ?_, fun x hx => ?_, ?_⟩
  · rcases List.mem_cons.1 hx with rfl | hx
    · exact h.but.size
    · exact h.new x hx
  · rcases List.mem_cons.1 hx with rfl | hx
    · exact Cells.new W t c
    · exact h'.holds x hx
  · exact List.pairwise_cons.2 ⟨fun x hx => by have := (h.holds x hx).lt; show W.heap.size ≠ x.1; omega, h.apart⟩

theorem Cells.far {w : World} {b c : Nat} {t : TypeId} {l : List Value} (h : Cells w b t l) (hn : b ≠ c) (j : Nat) (u : Value) : Cells (w.setCell ⟨c, j, none⟩ u) b t l := h.but (But.setCell (S := fun x => x = c) (But.refl _ w) (p := ⟨c, j, none⟩) (fun _ => rfl) u) hn

theorem Keep.set {w W : World} {l : List Bk} {b : Nat} {t : TypeId} {c : List Value} (h : Keep w W ((b, t, c) :: l)) (j : Nat) (u : Value) : Keep w (W.setCell ⟨b, j, none⟩ u) ((b, t, c.set j u) :: l) := by
  have hp := List.pairwise_cons.1 h.apart
  refine ⟨h.but.setCell (fun q => by have := h.new (b, t, c) (by simp); simp at this q; omega) _, fun x hx => ?_, fun x hx => ?_, List.pairwise_cons.2 ⟨hp.1, hp.2⟩⟩
  · rcases List.mem_cons.1 hx with rfl | hx
    · exact h.new (b, t, c) (by simp)
    · exact h.new x (by simp [hx])
  · rcases List.mem_cons.1 hx with rfl | hx
    · exact h.head.set j u
    · exact (h.holds x (by simp [hx])).far (Ne.symm (hp.1 x hx)) j u

theorem Keep.perm {w W : World} {l m : List Bk} (h : Keep w W l) (hp : l.Perm m) : Keep w W m :=
  ⟨h.but, fun x hx => h.new x (hp.mem_iff.2 hx), fun x hx => h.holds x (hp.mem_iff.2 hx), (hp.pairwise_iff (R := fun (x y : Bk) => x.1 ≠ y.1) (fun e => Ne.symm e)).1 h.apart⟩

theorem Keep.drop {w W : World} {l : List Bk} {x : Bk} (h : Keep w W (x :: l)) : Keep w W l :=
  ⟨h.but, fun y hy => h.new y (by simp [hy]), fun y hy => h.holds y (by simp [hy]), (List.pairwise_cons.1 h.apart).2⟩

theorem front_perm {α : Type} : ∀ (l : List α) (i : Nat) (hi : i < l.length), l.Perm (l[i] :: l.eraseIdx i)
  | [], _, hi => by simp at hi
  | _ :: _, 0, _ => .refl _
  | a :: l, i + 1, hi => ((front_perm l i (by simpa using hi)).cons a).trans (.swap _ _ _)

/-- Block number i first. -/
theorem Keep.front {w W : World} {l : List Bk} (h : Keep w W l) (i : Nat) (hi : i < l.length) : Keep w W (l[i] :: l.eraseIdx i) := h.perm (front_perm l i hi)

/-- The second block first. -/
theorem Keep.swap {w W : World} {l : List Bk} {x y : Bk} (h : Keep w W (x :: y :: l)) : Keep w W (y :: x :: l) := h.perm (.swap y x l)

/-- The third block first. -/
theorem Keep.third {w W : World} {l : List Bk} {x y z : Bk} (h : Keep w W (x :: y :: z :: l)) : Keep w W (z :: x :: y :: l) := h.perm (((List.Perm.swap z y l).cons x).trans (.swap z x _))

end Go.Proofs.Ytlpeplihbdcklaa
