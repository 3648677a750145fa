/- What the document's Standard of layer 10 answers. -/
import Derived.Test.YtlpeplihbdcklaaHuStd
import Derived.Test.YtlpeplihbdcklaaHuArg
import Derived.Great.BuildSlice
namespace Go.Proofs.Ytlpeplihbdcklaa
set_option linter.unusedVariables false
open Go.ChangeShapes Go.WideShapes Go.ChangeAt Go.RowKit

/-- All cells of a block laid anew, of any kind. -/
theorem Cells.lay_any {t : TypeId} {b : Nat} : ∀ (m : List Value) {W : World} (pre rest : List Value) (_ : Cells W b t (pre ++ rest)) (_ : m.length = rest.length), Cells (W.setCells b pre.length m) b t (pre ++ m)
  | [], W, pre, [], h, _ => h
  | v :: m, W, pre, r :: rest, h, hl => by
    have h1 := h.set pre.length v
    have e : (pre ++ r :: rest).set pre.length v = (pre ++ [v]) ++ rest := by
      rw [List.set_append_right _ _ (Nat.le_refl _), Nat.sub_self]
      simp
    rw [e] at h1
    have h2 := Cells.lay_any m (pre ++ [v]) rest h1 (by simpa using hl)
    have e2 : (pre ++ [v]).length = pre.length + 1 := by simp
    rw [e2, List.append_assoc] at h2
    exact h2

theorem Keep.laid_any {w W : World} {l : List Bk} {b : Nat} {t : TypeId} {c : List Value} (h : Keep w W ((b, t, c) :: l)) (m : List Value) (hm : m.length = c.length) : Keep w (W.setCells b 0 m) ((b, t, m) :: l) := by
  have hp := List.pairwise_cons.1 h.apart
  have hS : But (fun x => x = b) W (W.setCells b 0 m) := But.setCells (S := fun x => x = b) _ (But.refl _ _) (fun _ => rfl) 0
  refine ⟨But.setCells _ h.but (fun q => by have := h.new (b, t, c) (by simp); simp at this q; omega) 0, fun x hx => ?_, fun x hx => ?_, List.pairwise_cons.2 ⟨hp.1, hp.2⟩⟩
  · rcases List.mem_cons.1 hx with rfl | hx
    · exact h.new (b, t, c) (by simp)
    · exact h.new x (by simp [hx])
  · rcases List.mem_cons.1 hx with rfl | hx
    · exact Cells.lay_any m [] c h.head hm
    · exact (h.holds x (by simp [hx])).but hS (Ne.symm (hp.1 x hx))

/-- How many values a table has. -/
def stdN (i : Nat) : Nat := if i < 2 then 12 else 162

end Go.Proofs.Ytlpeplihbdcklaa
