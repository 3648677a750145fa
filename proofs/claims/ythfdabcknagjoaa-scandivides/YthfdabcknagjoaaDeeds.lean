/- Lists of deeds, as they come in: what is done to a buffer. -/
import Derived.Test.YthfdabcknagjoaaView
namespace Go.Proofs.Ythfdabcknagjoaa
open Go.ChangeShapes Go.WideShapes Go.ChangeAt Go.RowKit Go.Deep

/-- A deed: is it a Set, at which place, which number. -/
abbrev Dd := Bool × Int × Int

/-- v is a list of deeds. -/
def Deeds (w : World) (v : Value) (l : List Dd) : Prop :=
  ∃ ao cap, v = .slice ao l.length cap ∧ (l ≠ [] → ∃ b off, ao = some ⟨b, off, none⟩ ∧ b < w.heap.size ∧
    ∀ i (hi : i < l.length), w.cell? ⟨b, off + i * 3, none⟩ = some (.bool l[i].1) ∧ w.cell? ⟨b, off + i * 3 + 1, none⟩ = some (.int .i64 l[i].2.1) ∧ w.cell? ⟨b, off + i * 3 + 2, none⟩ = some (.int .i64 l[i].2.2))

theorem Deeds.but {w w' : World} {v : Value} {l : List Dd} (h : Deeds w v l) (hb : But Nowhere w w') : Deeds w' v l := by
  obtain ⟨ao, cap, rfl, h⟩ := h
  refine ⟨ao, cap, rfl, fun hne => ?_⟩
  obtain ⟨b, off, rfl, hlt, hc⟩ := h hne
  refine ⟨b, off, rfl, Nat.lt_of_lt_of_le hlt hb.size, fun i hi => ?_⟩
  rw [hb.cell (p := ⟨b, off + i * 3, none⟩) hlt (fun f => f), hb.cell (p := ⟨b, off + i * 3 + 1, none⟩) hlt (fun f => f), hb.cell (p := ⟨b, off + i * 3 + 2, none⟩) hlt (fun f => f)]
  exact hc i hi

theorem Deeds.slice {w : World} {v : Value} {l : List Dd} (h : Deeds w v l) : ∃ ao cap, v = .slice ao l.length cap := by
  obtain ⟨ao, cap, e, -⟩ := h
  exact ⟨ao, cap, e⟩

theorem Deeds.at {w : World} {ao : Option Addr} {n cap : Nat} {l : List Dd} (h : Deeds w (.slice ao n cap) l) (i : Nat) (hi : i < l.length) :
    ∃ b off, ao = some ⟨b, off, none⟩ ∧ b < w.heap.size ∧ w.cell? ⟨b, off + i * 3, none⟩ = some (.bool l[i].1) ∧ w.cell? ⟨b, off + i * 3 + 1, none⟩ = some (.int .i64 l[i].2.1) ∧ w.cell? ⟨b, off + i * 3 + 2, none⟩ = some (.int .i64 l[i].2.2) := by
  obtain ⟨ao', cap', e, h⟩ := h
  cases e
  obtain ⟨b, off, e, hlt, hc⟩ := h (fun e => by subst e; simp at hi)
  exact ⟨b, off, e, hlt, hc i hi⟩

end Go.Proofs.Ythfdabcknagjoaa
