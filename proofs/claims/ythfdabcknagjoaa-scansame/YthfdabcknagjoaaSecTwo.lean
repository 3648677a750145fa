/- Two recorders beside blocks of their caller's. -/
import Derived.Test.YthfdabcknagjoaaMasks
import Derived.Test.YthfdabcknagjoaaRead
namespace Go.Proofs.Ythfdabcknagjoaa
open Go.ChangeShapes Go.WideShapes Go.ChangeAt Go.RowKit

/-- Block k is none of two recorders'. -/
def Apart (b : Nat) (v : Value) (c : Nat) (u : Value) (k : Nat) : Prop := ¬ Foot b v k ∧ ¬ Foot c u k

theorem Apart.swap {b c k : Nat} {v u : Value} (h : Apart b v c u k) : Apart c u b v k := ⟨h.2, h.1⟩

theorem Two.outside {w0 w : World} {b c k : Nat} {v u : Value} {es fs : List Ev} (h : Two w0 w b v es c u fs) (hk : w.heap.size ≤ k) : Apart b v c u k :=
  ⟨fun f => by have := h.one.rcd.foot_lt f; omega, fun f => by have := h.two.rcd.foot_lt f; omega⟩

/-- An event more in the first; blocks that were apart stay apart. -/
theorem Two.laid2 {w0 w w' : World} {b c : Nat} {v u : Value} {es fs gs : List Ev} (h : Two w0 w b v es c u fs) (hl : Laid w w' b v gs) :
    ∃ v', Two w0 w' b v' gs c u fs ∧ (∀ k, k < w.heap.size → Apart b v c u k → Apart b v' c u k) ∧ But (Foot b v) w w' := by
  obtain ⟨v', ho, hv, hb⟩ := h.one.laid hl
  have hf : ∀ k, k < w.heap.size → ¬ Foot b v k → ¬ Foot b v' k := by
    intro k hk hn hf
    rcases hf with rfl | hf
    · exact hn (.inl rfl)
    · rcases hv with e | e
      · exact hn (.inr (by rw [← e]; exact hf))
      · have := e k hf; omega
  refine ⟨v', ⟨ho, ⟨h.two.rcd.but hb (fun k hk hf => h.apart k hf hk), h.two.new, ho.but⟩, fun k hk hc => ?_⟩, fun k hk ha => ⟨hf k hk ha.1, ha.2⟩, hb⟩
  have hlt := h.two.rcd.foot_lt hc
  exact hf k hlt (fun f => h.apart k f hc) hk

theorem cnt_all (n : Nat) : cnt 3 (List.replicate n ((3 : Int), (0 : Int))) = n := by
  unfold cnt
  simp

theorem sameB_self (l : List Ev) : sameB l l = true := by simp [sameB]

end Go.Proofs.Ythfdabcknagjoaa
