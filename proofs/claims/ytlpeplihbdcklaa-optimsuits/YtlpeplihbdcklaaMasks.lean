/- What Less, Equal, Select, Abs and Clip of package sec reckon, for every number; of old memory nothing turns. -/
import Derived.Test.YtlpeplihbdcklaaSec
import Derived.Deep.RegionHeld3
namespace Go.Proofs.Ytlpeplihbdcklaa
open Go.ChangeShapes Go.WideShapes Go.ChangeAt Go.RowKit

theorem cell_lt {w : World} {p : Addr} {v : Value} (h : w.cell? p = some v) : p.block < w.heap.size := by
  have := World.new_ne w p h
  rcases Nat.lt_or_ge p.block w.heap.size with hl | hl
  · exact hl
  · exfalso
    have hn : w.heap[p.block]? = none := Array.getElem?_eq_none hl
    simp [World.cell?, hn] at h

theorem But.keeps {S : Nat → Prop} {w w' : World} {p : Addr} {v : Value} (hb : But S w w') (hs : ¬ S p.block) (h : w.cell? p = some v) : w'.cell? p = some v :=
  (hb.cell (cell_lt h) hs).trans h

theorem But.thaws {S : Nat → Prop} {w w' : World} {p : Addr} {v : Value} (hb : But S w w') (hs : ¬ S p.block) (h : w.cell? p = some v) (hf : w.frozen? p = false) : w'.frozen? p = false :=
  (hb.frozen (cell_lt h) hs).trans hf

theorem and_of {p q : Prop} (h : p → q) (hp : p) : p ∧ q := ⟨hp, h hp⟩

theorem and_of3 {p q r : Prop} (hp : p) (hq : q) (hr : r) : p ∧ q ∧ r := ⟨hp, hq, hr⟩

theorem But.ofEq {S : Nat → Prop} {w w' : World} (h : w' = w) : But S w w' := h ▸ But.refl _ _

theorem not_nowhere (k : Nat) : ¬ Nowhere k := fun f => f

theorem But.both {w w' : World} {p : Addr} {v : Value} (hb : But Nowhere w w') (h : w.cell? p = some v) (hf : w.frozen? p = false) : (w'.cell? p = some v ∧ w'.frozen? p = false) ∧ w.heap.size ≤ w'.heap.size :=
  ⟨⟨hb.keeps (not_nowhere _) h, hb.thaws (not_nowhere _) h hf⟩, hb.size⟩

theorem cell_set {w : World} {p : Addr} {v u : Value} (h : w.cell? p = some v) : (w.setCell p u).cell? p = some u := by go_simp

theorem But.sizeD {S : Nat → Prop} {w w' : World} (hb : But S w.drew w') : w.heap.size ≤ w'.heap.size := hb.size

/-- What Less reckons. -/
def lessF (a b : Int) : Int := bits .xor .i64 (wrap64 (a - b)) (bits .and .i64 (bits .xor .i64 a b) (bits .xor .i64 a (wrap64 (a - b)))) / 2 ^ (shN 63).toNat

/-- What a cell holds. -/
def held (w : World) (p : Addr) : Value := (w.cell? p).getD undef

theorem held_of {w : World} {p : Addr} {v : Value} (h : w.cell? p = some v) : w.cell? p = some (held w p) := by simp [held, h]

theorem cell_set_of {w : World} {p : Addr} {v u : Value} (h : (w.setCell p v).cell? p = some u) : (w.setCell p v).cell? p = some v := by
  cases hc : w.cell? p with
  | some x => exact cell_set hc
  | none =>
    exfalso
    rcases hb : w.heap[p.block]? with _ | o
    · simp [World.cell?, World.setCell, Array.getElem?_modify, hb] at h
    · simp [World.cell?, World.setCell, Array.getElem?_modify, hb] at h hc
      cases o <;> simp_all

/-- From W on only block r may have turned; its cell is there and may be written. -/
def Frm (W : World) (r : Nat) (w : World) : Prop := But (fun k => k = r) W w ∧ (∃ u, w.cell? ⟨r, 0, none⟩ = some u) ∧ w.frozen? ⟨r, 0, none⟩ = false

theorem Frm.start {W : World} {r : Nat} {u : Value} (h : W.cell? ⟨r, 0, none⟩ = some u) (hf : W.frozen? ⟨r, 0, none⟩ = false) : Frm W r W.drew :=
  ⟨(But.refl _ _).drew, ⟨u, by simpa using h⟩, by simpa using hf⟩

theorem Frm.call {W w w' : World} {r : Nat} (h : Frm W r w) (hb : But Nowhere w w') : Frm W r w' := by
  obtain ⟨h0, ⟨u, hu⟩, hf⟩ := h
  exact ⟨h0.step hb (fun _ _ f => f.elim), ⟨u, hb.keeps (not_nowhere _) hu⟩, hb.thaws (not_nowhere _) hu hf⟩

theorem Frm.store {W w : World} {r : Nat} (h : Frm W r w) (v : Value) : Frm W r (w.setCell ⟨r, 0, none⟩ v) := by
  obtain ⟨h0, ⟨u, hu⟩, hf⟩ := h
  exact ⟨h0.setCell (fun _ => rfl) _, ⟨v, cell_set hu⟩, by simpa using hf⟩

theorem Frm.cell {W w : World} {r : Nat} {p : Addr} {v : Value} (h : Frm W r w) (hn : p.block ≠ r) (hc : W.cell? p = some v) : w.cell? p = some v := h.1.keeps hn hc

theorem Frm.held {W w : World} {r : Nat} (h : Frm W r w) : w.cell? ⟨r, 0, none⟩ = some (held w ⟨r, 0, none⟩) := by
  obtain ⟨_, ⟨u, hu⟩, _⟩ := h
  exact held_of hu

theorem Frm.thaw {W w : World} {r : Nat} (h : Frm W r w) : w.frozen? ⟨r, 0, none⟩ = false := h.2.2

theorem Frm.got {W w : World} {r : Nat} {v : Value} (h : Frm W r (w.setCell ⟨r, 0, none⟩ v)) : (w.setCell ⟨r, 0, none⟩ v).cell? ⟨r, 0, none⟩ = some v := by
  obtain ⟨_, ⟨u, hu⟩, _⟩ := h
  exact cell_set_of hu

theorem Frm.out {w0 W w : World} {r : Nat} (h : Frm W r w) (h0 : But Nowhere w0 W) (hr : w0.heap.size ≤ r) : But Nowhere w0 w := h0.step h.1 (fun i hi e => by omega)

/-- What Select reckons. -/
def selF (m a b : Int) : Int := bits .xor .i64 b (bits .and .i64 m (bits .xor .i64 a b))

/-- What Equal reckons. -/
def equalF (a b : Int) : Int := bits .xor .i64 (-1) (bits .or .i64 (bits .xor .i64 a b) (wrap64 (-bits .xor .i64 a b)) / 2 ^ (shN 63).toNat)

/-- What Abs reckons. -/
def absR (a : Int) : Int := selF (lessF a 0) (wrap64 (-a)) a

/-- What Clip reckons. -/
def clipR (a lo hi : Int) : Int := selF (lessF a lo) lo (selF (lessF hi a) hi a)

end Go.Proofs.Ytlpeplihbdcklaa
