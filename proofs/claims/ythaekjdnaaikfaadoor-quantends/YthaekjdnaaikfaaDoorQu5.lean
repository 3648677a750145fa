/- What the document's Zig, base, Forward and Back of layer 9 answer. -/
import Derived.Test.YthaekjdnaaikfaaDoorQu1
namespace Go.Proofs.YthaekjdnaaikfaaDoor
set_option linter.unusedVariables false
open Go.ChangeShapes Go.WideShapes Go.ChangeAt Go.RowKit

theorem Keep.made_eq {w W : World} {l : List Bk} (h : Keep w W l) (t : TypeId) (c : List Value) (a : Array Value) (e : a = c.toArray) : Keep w (W.alloc (.cells a t)) ((W.heap.size, t, c) :: l) := by
  subst e; exact h.made t c


set_option maxHeartbeats 800000 in
theorem refZig_in (k : Nat) (hk : k < 64) (w : World) : Calls Tryd.prog 11 #[.int .i64 (k : Int)] w fun e w' => e = .returned (.int .i64 ((zz k : Nat) : Int)) ∧ But Nowhere w w' := by
  have i0 : (0 : Int) ≤ (k : Int) := by omega
  have i1 : ¬ 63 < (k : Int) := by omega
  have i2 : (k : Int) < 64 := by omega
  have d0 : decide ((k : Int) < 0) = false := by simp
  go_enter Tryd.func11, Tryd.ntmps11
  go_wp2_with fail
  go_ret
  refine ⟨congrArg Ending.returned ?_, (But.refl _ _).alloc _⟩
  exact (List.getElem_of_eq (show _ = tab .i64 64 (fun j => ((zz j : Nat) : Int)) from rfl) _).trans (by simp [tab])

set_option maxHeartbeats 800000 in
theorem refZig_any (i : Int) (w : World) : Calls Tryd.prog 11 #[.int .i64 i] w fun e w' => e = .returned (.int .i64 (zigF i)) ∧ But Nowhere w w' := by
  by_cases h0 : 0 ≤ i
  · by_cases h1 : i < 64
    · obtain ⟨k, rfl⟩ : ∃ k : Nat, i = (k : Int) := ⟨i.toNat, by omega⟩
      rw [zigF_in k (by omega)]
      exact refZig_in k (by omega) w
    · have e1 : zigF i = 0 := by unfold zigF; rw [if_neg (by omega)]
      rw [e1]
      have i1 : 63 < i := by omega
      have d0 : decide (i < 0) = false := by simp; omega
      go_enter Tryd.func11, Tryd.ntmps11
      go_wp2_with fail
      go_ret
      exact ⟨rfl, But.refl _ _⟩
  · have e1 : zigF i = 0 := by unfold zigF; rw [if_neg (by omega)]
    rw [e1]
    have d0 : decide (i < 0) = true := by simp; omega
    go_enter Tryd.func11, Tryd.ntmps11
    go_wp2_with fail
    go_ret
    exact ⟨rfl, But.refl _ _⟩

set_option maxHeartbeats 800000 in
theorem base_any (part : Int) (w : World) : Calls Tryd.prog 40 #[.int .i64 part] w fun e w' => ∃ g, e = .returned (.slice (some ⟨g, 0, none⟩) 64 64) ∧ Keep w w' [(g, 3, tab .i64 64 (lst (pl part)))] := by
  by_cases hp : part = 0
  · have e1 : pl part = 0 := by unfold pl; rw [if_pos hp]
    rw [e1]
    subst hp
    go_enter Tryd.func40, Tryd.ntmps40
    go_wp2_with fail
    go_ret
    exact ⟨_, rfl, (Keep.start w).made_eq _ _ _ (by rfl)⟩
  · have e1 : pl part = 1 := by unfold pl; rw [if_neg hp]
    rw [e1]
    go_enter Tryd.func40, Tryd.ntmps40
    go_wp2_with fail
    go_ret
    exact ⟨_, rfl, (Keep.start w).made_eq _ _ _ (by rfl)⟩

/-- The list's cells, all from one place on. -/
theorem Sts.all {W : World} {v : Value} {q : Nat → Int} (h : Sts W v q) : ∃ sb off cap, v = .slice (some ⟨sb, off, none⟩) 64 cap ∧ ∀ j, j < 64 → W.cell? ⟨sb, off + j, none⟩ = some (.int .i64 (q j)) := by
  obtain ⟨sb, off, cap, hv, h0⟩ := h.at 0 (by omega)
  refine ⟨sb, off, cap, hv, fun j hj => ?_⟩
  obtain ⟨sb', off', cap', hv', h1⟩ := h.at j hj
  rw [hv] at hv'
  simp only [Value.slice.injEq, Option.some.injEq, Addr.mk.injEq, and_true] at hv'
  obtain ⟨⟨rfl, rfl⟩, -, rfl⟩ := hv'
  exact h1

end Go.Proofs.YthaekjdnaaikfaaDoor
