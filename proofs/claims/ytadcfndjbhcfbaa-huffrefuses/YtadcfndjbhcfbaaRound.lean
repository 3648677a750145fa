/- A range over a function whose rounds never leave early: what the statement does, what one call of yield does. No program. -/
import Derived.RangeFuncNested
import Derived.RangeFuncLeaves
import Derived.TacticsIn
import Derived.Test.YtadcfndjbhcfbaaMem
namespace Go.Proofs.Ytadcfndjbhcfbaa
open Go.RowKit

theorem But.putObj {S : Nat → Prop} {a w : World} (h : But S a w) {l : Nat} (hl : l < a.heap.size → S l) (o : Obj) : But S a (w.putObj l o) :=
  ⟨h.os, h.tape, h.output, by rw [World.putObj_size]; exact h.size, fun k hk hs => (World.putObj_heap_other (fun e => hs (by rw [e] at hk ⊢; exact hl hk))).trans (h.block k hk hs)⟩

section
variable {P : Program} {n : Nat}

/-- One call of yield, whose round runs off its end. -/
theorem yield_round {l : Nat} {r : Loop} {args : Array Value} {W : World} {R : World → Prop} (hl : W.heap[l]? = some (.loop r)) (hs : r.state = .ready) (hp : r.pending = none) (hn : args.size = r.params.size)
    (h : r.assign.wpIn (Fence.wide.inRound l) n P (Exit.then (fun a' W' => W'.heap[l]? = some (.loop r) ∧
        r.body.wpIn (Fence.wide.inRound l) n P (fun e _ W3 => e = .normal ∧ W3.heap[l]? = some (.loop { r with state := .busy }) ∧ R (W3.putObj l (.loop r))) a' (W'.putObj l (.loop { r with state := .busy }))) (fun _ _ _ => False))
      { tmps := (r.params.zip args).foldl (fun t (p, v) => t.setIfInBounds p v) r.tmps, defers := [] } W) :
    YieldAt Fence.wide n P l args W fun e W' => e = .returned (.bool true) ∧ R W' := by
  refine ⟨r.fn, _, r.assign, r.body, run_yield hl hn, roundIn_of_wpIn trivial (wpIn_mono h ?_)⟩
  intro e a' W' hq
  cases e with
  | normal =>
    obtain ⟨hl', hb⟩ := hq
    refine ⟨_, run_beginRound hl' hs, wpIn_mono hb ?_⟩
    rintro e a3 W3 ⟨rfl, hl3, hR⟩
    have := run_endRound (P := P) none hl3
    refine ⟨_, _, this, rfl, ?_⟩
    have e : ({ { r with state := LoopState.busy } with state := if (none : Option Code).isNone then .ready else .done, pending := none } : Loop) = r := by
      cases r; simp_all
    rw [e]
    exact hR
  | _ => exact hq

/-- The statement, outermost. -/
theorem range_outer {g : Operand} {ps : Array Tmp} {assign body : Code} {Q : Exit → Act → World → Prop} {a : Act} {w : World} {gf : Nat} {lb : Array Value}
    (hg : a.eval g = .func (.func gf) #[] lb) (eg : ∀ args w, (callFunc gf args).run P w = .ok (.enter gf args) w)
    (h : ∀ r : Loop, r.state = .ready → r.pending = none → r.tmps = a.tmps → r.params = ps → r.assign = assign → r.body = body →
      CallsIn Fence.wide (n - 1) P gf (#[.func (.yield (w.heap.size + 1)) #[] #[]] ++ lb) ((w.alloc (.deferred (some []))).alloc (.loop r)) fun e W' =>
        (∃ v, e = .returned v) ∧ W'.heap[w.heap.size + 1]? = some (.loop r) ∧
          Q .normal { a with defers := { target := .collected w.heap.size, args := #[] } :: a.defers } (W'.putObj (w.heap.size + 1) (.loop { r with state := .exhausted }))) :
    (Code.rangeFunc g ps assign body).wpIn Fence.wide n P Q a w := by
  refine wpIn_rangeFunc ?_
  intro fn hfn
  obtain ⟨r, hr⟩ : ∃ r : Loop, r = { state := .ready, pending := none, fn := fn, tmps := a.tmps, params := ps, assign := assign, body := body, defers := w.heap.size } := ⟨_, rfl⟩
  have hen : (Instr.enterLoop fn a.tmps ps assign body none).run P w = .ok (w.heap.size + 1, [{ target := .collected w.heap.size, args := #[] }]) ((w.alloc (.deferred (some []))).alloc (.loop r)) := by rw [hr]; exact run_enterLoop_outer _ _ _ _ _
  refine ⟨w.heap.size + 1, [{ target := .collected w.heap.size, args := #[] }], (w.alloc (.deferred (some []))).alloc (.loop r), { target := .fn (.func gf) lb, args := #[.func (.yield (w.heap.size + 1)) #[] #[]] }, (w.alloc (.deferred (some []))).alloc (.loop r), gf,
    #[.func (.yield (w.heap.size + 1)) #[] #[]] ++ lb, (w.alloc (.deferred (some []))).alloc (.loop r), hen, ?_, fun _ _ => trivial, ?_, fun q => (by cases q), ?_⟩
  · simp only [resolve, hg]
    simp [go_sem]
  · simp [invoke, go_sem, eg]
  · refine (h r (by rw [hr]) (by rw [hr]) (by rw [hr]) (by rw [hr]) (by rw [hr]) (by rw [hr])).mono ?_
    rintro e W' ⟨⟨v, rfl⟩, hl, hQ⟩
    exact ⟨none, _, by have := run_endLoop (P := P) hl (by rw [hr]; simp); rw [this, hr], hQ⟩

/-- The statement within a round of l₀. -/
theorem range_inner {l₀ : Nat} {r₀ : Loop} {g : Operand} {ps : Array Tmp} {assign body : Code} {Q : Exit → Act → World → Prop} {a : Act} {w : World} {gf : Nat} {lb : Array Value} (hl₀ : w.heap[l₀]? = some (.loop r₀))
    (hg : a.eval g = .func (.func gf) #[] lb) (eg : ∀ args w, (callFunc gf args).run P w = .ok (.enter gf args) w)
    (h : ∀ r : Loop, r.state = .ready → r.pending = none → r.tmps = a.tmps → r.params = ps → r.assign = assign → r.body = body →
      CallsIn Fence.wide (n - 1) P gf (#[.func (.yield w.heap.size) #[] #[]] ++ lb) (w.alloc (.loop r)) fun e W' =>
        (∃ v, e = .returned v) ∧ W'.heap[w.heap.size]? = some (.loop r) ∧ Q .normal a (W'.putObj w.heap.size (.loop { r with state := .exhausted }))) :
    (Code.rangeFunc g ps assign body).wpIn (Fence.wide.inRound l₀) n P Q a w := by
  refine wpIn_rangeFunc ?_
  intro fn hfn
  obtain ⟨r, hr⟩ : ∃ r : Loop, r = { state := .ready, pending := none, fn := fn, tmps := a.tmps, params := ps, assign := assign, body := body, defers := r₀.defers } := ⟨_, rfl⟩
  have hen : (Instr.enterLoop fn a.tmps ps assign body (some l₀)).run P w = .ok (w.heap.size, []) (w.alloc (.loop r)) := by rw [hr]; exact run_enterLoop_inner hl₀ _ _ _ _ _
  refine ⟨w.heap.size, [], w.alloc (.loop r), { target := .fn (.func gf) lb, args := #[.func (.yield (w.heap.size)) #[] #[]] }, w.alloc (.loop r), gf,
    #[.func (.yield (w.heap.size)) #[] #[]] ++ lb, w.alloc (.loop r), hen, ?_, fun _ _ => trivial, ?_, fun q => (by cases q), ?_⟩
  · simp only [resolve, hg]
    simp [go_sem]
  · simp [invoke, go_sem, eg]
  · refine CallsIn.mono (CallsIn.inRound l₀ (h r (by rw [hr]) (by rw [hr]) (by rw [hr]) (by rw [hr]) (by rw [hr]) (by rw [hr]))) ?_
    rintro e W' ⟨⟨v, rfl⟩, hl, hQ⟩
    exact ⟨none, _, by have := run_endLoop (P := P) hl (by rw [hr]; simp); rw [this, hr], hQ⟩
end

end Go.Proofs.Ytadcfndjbhcfbaa
