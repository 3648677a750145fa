/- A buffer with its recorder, and beside it the document's own record of it. -/
import Derived.Test.YthfdabcknagjoaaBufRef
import Derived.Test.YthfdabcknagjoaaDeeds
namespace Go.Proofs.Ythfdabcknagjoaa
open Go.ChangeShapes Go.WideShapes Go.ChangeAt Go.RowKit

/-- The buffer has es and l; the record, in block t, has fs and m. -/
structure Bb (w0 w : World) (o : Nat) (v : Value) (es : List Ev) (b g : Nat) (l : List Int) (t : Nat) (x y : Value) (fs : List Ev) (m : List Int) : Prop where
  bo : Bo w0 w o v es b g l
  c0 : w.cell? ⟨t, 0, none⟩ = some x
  c1 : w.cell? ⟨t, 1, none⟩ = some y
  f0 : w.frozen? ⟨t, 0, none⟩ = false
  f1 : w.frozen? ⟨t, 1, none⟩ = false
  nums : Nums w x m
  evs : Evs w y fs
  nx : x.ownBlock ≠ some t
  ny : y.ownBlock ≠ some t
  new : w0.heap.size ≤ t
  offt : ¬ FootB o v b g t
  offx : ∀ k, x.ownBlock = some k → ¬ FootB o v b g k
  offy : ∀ k, y.ownBlock = some k → ¬ FootB o v b g k

theorem Bb.butS {S : Nat → Prop} {w0 w w' : World} {o b g t : Nat} {v x y : Value} {es fs : List Ev} {l m : List Int} (h : Bb w0 w o v es b g l t x y fs m) (hb : But S w w') (bo' : Bo w0 w' o v es b g l) (ht : ¬ S t) (hx : ∀ k, x.ownBlock = some k → ¬ S k) (hy : ∀ k, y.ownBlock = some k → ¬ S k) : Bb w0 w' o v es b g l t x y fs m :=
  ⟨bo', hb.keeps ht h.c0, hb.keeps ht h.c1, hb.thaws ht h.c0 h.f0, hb.thaws ht h.c1 h.f1, hb.owns h.nums hx, hb.owns h.evs hy, h.nx, h.ny, h.new, h.offt, h.offx, h.offy⟩

theorem Bb.step {w0 w w' : World} {o b g t : Nat} {v x y : Value} {es fs : List Ev} {l m : List Int} (h : Bb w0 w o v es b g l t x y fs m) (hb : But Nowhere w w') : Bb w0 w' o v es b g l t x y fs m :=
  h.butS hb (h.bo.step hb) (not_nowhere _) (fun _ _ => not_nowhere _) (fun _ _ => not_nowhere _)

/-- The buffer turned. -/
theorem Bb.turn {w0 w w' : World} {o b g t : Nat} {v v' x y : Value} {es es' fs : List Ev} {l l' m : List Int} (h : Bb w0 w o v es b g l t x y fs m) (bo' : Bo w0 w' o v' es' b g l') (hm : Moved w v v') (hb : But (FootB o v b g) w w') : Bb w0 w' o v' es' b g l' t x y fs m :=
  ⟨bo', hb.keeps h.offt h.c0, hb.keeps h.offt h.c1, hb.thaws h.offt h.c0 h.f0, hb.thaws h.offt h.c1 h.f1, hb.owns h.nums h.offx, hb.owns h.evs h.offy, h.nx, h.ny, h.new, hm.footB (cell_lt h.c0) h.offt,
    fun k hk => hm.footB (World.ownsRow.lt h.nums k hk).2 (h.offx k hk), fun k hk => hm.footB (World.ownsRow.lt h.evs k hk).2 (h.offy k hk)⟩

/-- The record was written anew: W is behind the call that told it, w is ahead of it. -/
theorem Bb.write {w0 w W : World} {o b g t : Nat} {v x y x' y' : Value} {es fs fs' : List Ev} {l m m' : List Int} (h : Bb w0 w o v es b g l t x y fs m) (hb : But Nowhere w W) (hx : Nums W x' m') (hy : Evs W y' fs') (ax : Anew w x x') (ay : Anew w y y') :
    Bb w0 ((W.setCell ⟨t, 0, none⟩ x').setCell ⟨t, 1, none⟩ y') o v es b g l t x' y' fs' m' := by
  have h1 := h.step hb
  have tl := cell_lt h.c0
  have nx : x'.ownBlock ≠ some t := by
    rcases ax with rfl | e
    · exact h.nx
    · intro q; have := e t q; simp at tl; omega
  have ny : y'.ownBlock ≠ some t := by
    rcases ay with rfl | e
    · exact h.ny
    · intro q; have := e t q; simp at tl; omega
  have b3 : But (fun q => q = t) W ((W.setCell ⟨t, 0, none⟩ x').setCell ⟨t, 1, none⟩ y') := But.setCell (S := fun q => q = t) (But.setCell (S := fun q => q = t) (But.refl _ _) (fun _ => rfl) _) (fun _ => rfl) _
  have c0 := h1.c0
  have c1 := h1.c1
  have f0 := h1.f0
  have f1 := h1.f1
  refine ⟨h1.bo.butS b3 (fun k hk e => h.offt (by rw [← e]; exact hk)) (fun k hk e => by have := h.new; omega), by go_simp, by go_simp, by go_simp, by go_simp, b3.owns hx (fun k hk e => nx (by rw [hk, e])), b3.owns hy (fun k hk e => ny (by rw [hk, e])), nx, ny, h.new, h.offt, fun k hk f => ?_, fun k hk f => ?_⟩
  · rcases ax with rfl | e
    · exact h.offx k hk f
    · have := e k hk; have := h.bo.lt f; omega
  · rcases ay with rfl | e
    · exact h.offy k hk f
    · have := e k hk; have := h.bo.lt f; omega

/-- The record was written from the values that are there. -/
theorem Bb.drew {w0 w : World} {o b g t : Nat} {v x y : Value} {es fs : List Ev} {l m : List Int} (h : Bb w0 w o v es b g l t x y fs m) : Bb w0 w.drew o v es b g l t x y fs m := h.step (But.refl Nowhere _).drew

theorem sameB_refl (l : List Ev) : sameB l l = true := by simp [sameB]

end Go.Proofs.Ythfdabcknagjoaa
