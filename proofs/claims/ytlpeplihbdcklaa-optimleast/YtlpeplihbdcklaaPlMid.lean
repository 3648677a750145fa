/- Many cells at once, read and laid. No program. -/
import Derived.Test.YtlpeplihbdcklaaPlMem
namespace Go.Proofs.Ytlpeplihbdcklaa
open Go.ChangeShapes Go.WideShapes Go.ChangeAt Go.RowKit

theorem Cells.there {W : World} {b : Nat} {t : TypeId} {l : List Value} (h : Cells W b t l) (o n : Nat) (hn : o + n ≤ l.length) : W.there b o n := by
  intro j hj
  refine ⟨?_, h.frozen _⟩
  rw [h.at, List.getElem?_eq_getElem (by omega)]
  rfl

theorem Cells.range {W : World} {b : Nat} {t : TypeId} {k : IntKind} {n : Nat} {f : Nat → Int} (h : Cells W b t (tab k n f)) (o m : Nat) (hm : o + m ≤ n) : W.rangeAt b o (tab k m (fun j => f (o + j))) := by
  intro j v hv
  have hj : j < m := by have := (List.getElem?_eq_some_iff.1 hv).1; rwa [tab_length] at this
  rw [tab_at _ _ _ _ hj] at hv
  rw [h.cell (o + j) (by omega), ← hv]

theorem tab_succ (k : IntKind) (m : Nat) (g : Nat → Int) : tab k (m + 1) g = .int k (g 0) :: tab k m (fun j => g (j + 1)) := by
  simp [tab, List.range_succ_eq_map, Function.comp_def]

/-- So many cells laid from place o on. -/
theorem Cells.lay {t : TypeId} {k : IntKind} {n b : Nat} (m : Nat) : ∀ {W : World} {f : Nat → Int} (_ : Cells W b t (tab k n f)) (o : Nat) (g : Nat → Int),
    Cells (W.setCells b o (tab k m g)) b t (tab k n (fun j => if o ≤ j ∧ j < o + m then g (j - o) else f j)) := by
  induction m with
  | zero =>
    intro W f h o g
    have e : tab k n (fun j => if o ≤ j ∧ j < o + 0 then g (j - o) else f j) = tab k n f := tab_congr _ _ _ _ (fun j _ => by simp; omega)
    rw [e]
    exact h
  | succ m ih =>
    intro W f h o g
    rw [tab_succ]
    have h1 := h.set o (.int k (g 0))
    rw [tab_set] at h1
    have h2 := ih h1 (o + 1) (fun j => g (j + 1))
    have e0 : tab k n (fun j => if o ≤ j ∧ j < o + (m + 1) then g (j - o) else f j) = tab k n (fun j => if o + 1 ≤ j ∧ j < o + 1 + m then g (j - (o + 1) + 1) else upd f o (g 0) j) := by
      refine tab_congr _ _ _ _ (fun j _ => ?_)
      unfold upd
      by_cases e : j = o
      · subst e; rw [if_pos (by omega), if_neg (by omega), if_pos rfl, Nat.sub_self]
      · by_cases e1 : o + 1 ≤ j ∧ j < o + 1 + m
        · rw [if_pos e1, if_pos (by omega), show j - (o + 1) + 1 = j - o by omega]
        · rw [if_neg e1, if_neg e, if_neg (by omega)]
    rw [e0]
    exact h2

theorem But.setCells {S : Nat → Prop} {a : World} {b : Nat} (cs : List Value) : ∀ {w : World} (_ : But S a w) (_ : b < a.heap.size → S b) (o : Nat), But S a (w.setCells b o cs) := by
  induction cs with
  | nil => intro w h _ o; exact h
  | cons v r ih => intro w h hb o; exact ih (h.setCell (p := ⟨b, o, none⟩) hb v) hb (o + 1)

/-- All cells of a block laid anew. -/
theorem Cells.layAll {W : World} {t : TypeId} {k : IntKind} {b m : Nat} {f : Nat → Int} (h : Cells W b t (tab k m f)) (g : Nat → Int) : Cells (W.setCells b 0 (tab k m g)) b t (tab k m g) := by
  have := h.lay m 0 g
  have e : tab k m (fun j => if 0 ≤ j ∧ j < 0 + m then g (j - 0) else f j) = tab k m g := tab_congr _ _ _ _ (fun j hj => by rw [if_pos (by omega), Nat.sub_zero])
  rw [e] at this
  exact this

theorem tab_all (k : IntKind) (n : Nat) (f : Nat → Int) : (tab k n f).toArray.all (·.oneCell') = true := all_oneCell_toArray (tab_one k n f)

theorem zeros64 : (List.replicate 64 (Value.int .i64 0)) = tab .i64 64 (fun _ => 0) := tab_zero 64

end Go.Proofs.Ytlpeplihbdcklaa
