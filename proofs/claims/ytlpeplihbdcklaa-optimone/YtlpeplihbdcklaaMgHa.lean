import Derived.RangeFuncNested
import Derived.RangeFuncLeaves
import Derived.TacticsIn
import Derived.Test.YtlpeplihbdcklaaMem
import Derived.Test.YtlpeplihbdcklaaKeep
import Derived.Test.YtlpeplihbdcklaaHuCode
import Derived.BigFrameIn
import Derived.Deep.MidRow
import Derived.Test.YtlpeplihbdcklaaPlMid
import Derived.Test.YtlpeplihbdcklaaHu2
import Derived.Test.YtlpeplihbdcklaaHuArg
import Derived.Laws.BytesString
import Derived.Laws.Cells
import Derived.Laws.StructEq
import Derived.Test.YtlpeplihbdcklaaHu4
import Derived.Test.YtlpeplihbdcklaaTill
import Derived.Test.YtlpeplihbdcklaaSecNum
import Derived.Test.YtlpeplihbdcklaaView
import Derived.Test.YtlpeplihbdcklaaBlk64
import Derived.RangeFuncBound
import Derived.Shelf.Abstract
import Derived.Shelf.RegionOpen
import Derived.OwnWalkIn
import Derived.TacticsInMore
import Derived.LoopNIn
import Derived.LoopIn

/- A range over a function whose rounds never leave early: what the statement does, what one call of yield does. No program. -/
namespace Go.Proofs.Ytlpeplihbdcklaa
open Go.RowKit

theorem But.putObj {S : Nat → Prop} {a w : World} (h : But S a w) {l : Nat} (hl : l < a.heap.size → S l) (o : Obj) : But S a (w.putObj l o) :=
  ⟨h.os, h.tape, h.output, by rw [World.putObj_size]; exact h.size, fun k hk hs => (World.putObj_heap_other (fun e => hs (by rw [e] at hk ⊢; exact hl hk))).trans (h.block k hk hs)⟩

section
variable {P : Program} {n : Nat}

/-- One call of yield, whose round runs off its end. -/
theorem yield_round {l : Nat} {r : Loop} {args : Array Value} {W : World} {R : World → Prop} (hl : W.heap[l]? = some (.loop r)) (hs : r.state = .ready) (hp : r.pending = none) (hn : args.size = r.params.size)
    (h : r.assign.wpIn (Fence.wide.inRound l) n P (Exit.then (fun a' W' => W'.heap[l]? = some (.loop r) ∧
        r.body.wpIn (Fence.wide.inRound l) n P (fun e _ W3 => e = .normal ∧ W3.heap[l]? = some (.loop { r with state := .busy }) ∧ R (W3.putObj l (.loop r))) a' (W'.putObj l (.loop { r with state := .busy }))) (fun _ _ _ => False))
      { tmps := (r.params.zip args).foldl (fun t (p, v) => t.setIfInBounds p v) r.tmps, defers := [] } W) :
    YieldAt Fence.wide n P l args W fun e W' => e = .returned (.bool true) ∧ R W' := by
  refine ⟨r.fn, _, r.assign, r.body, run_yield hl hn, roundIn_of_wpIn trivial (wpIn_mono h ?_)⟩
  intro e a' W' hq
  cases e with
  | normal =>
    obtain ⟨hl', hb⟩ := hq
    refine ⟨_, run_beginRound hl' hs, wpIn_mono hb ?_⟩
    rintro e a3 W3 ⟨rfl, hl3, hR⟩
    have := run_endRound (P := P) none hl3
    refine ⟨_, _, this, rfl, ?_⟩
    have e : ({ { r with state := LoopState.busy } with state := if (none : Option Code).isNone then .ready else .done, pending := none } : Loop) = r := by
      cases r; simp_all
    rw [e]
    exact hR
  | _ => exact hq

/-- The statement, outermost. -/
theorem range_outer {g : Operand} {ps : Array Tmp} {assign body : Code} {Q : Exit → Act → World → Prop} {a : Act} {w : World} {gf : Nat} {lb : Array Value}
    (hg : a.eval g = .func (.func gf) #[] lb) (eg : ∀ args w, (callFunc gf args).run P w = .ok (.enter gf args) w)
    (h : ∀ r : Loop, r.state = .ready → r.pending = none → r.tmps = a.tmps → r.params = ps → r.assign = assign → r.body = body →
      CallsIn Fence.wide (n - 1) P gf (#[.func (.yield (w.heap.size + 1)) #[] #[]] ++ lb) ((w.alloc (.deferred (some []))).alloc (.loop r)) fun e W' =>
        (∃ v, e = .returned v) ∧ W'.heap[w.heap.size + 1]? = some (.loop r) ∧
          Q .normal { a with defers := { target := .collected w.heap.size, args := #[] } :: a.defers } (W'.putObj (w.heap.size + 1) (.loop { r with state := .exhausted }))) :
    (Code.rangeFunc g ps assign body).wpIn Fence.wide n P Q a w := by
  refine wpIn_rangeFunc ?_
  intro fn hfn
  obtain ⟨r, hr⟩ : ∃ r : Loop, r = { state := .ready, pending := none, fn := fn, tmps := a.tmps, params := ps, assign := assign, body := body, defers := w.heap.size } := ⟨_, rfl⟩
  have hen : (Instr.enterLoop fn a.tmps ps assign body none).run P w = .ok (w.heap.size + 1, [{ target := .collected w.heap.size, args := #[] }]) ((w.alloc (.deferred (some []))).alloc (.loop r)) := by rw [hr]; exact run_enterLoop_outer _ _ _ _ _
  refine ⟨w.heap.size + 1, [{ target := .collected w.heap.size, args := #[] }], (w.alloc (.deferred (some []))).alloc (.loop r), { target := .fn (.func gf) lb, args := #[.func (.yield (w.heap.size + 1)) #[] #[]] }, (w.alloc (.deferred (some []))).alloc (.loop r), gf,
    #[.func (.yield (w.heap.size + 1)) #[] #[]] ++ lb, (w.alloc (.deferred (some []))).alloc (.loop r), hen, ?_, fun _ _ => trivial, ?_, fun q => (by cases q), ?_⟩
  · simp only [resolve, hg]
    simp [go_sem]
  · simp [invoke, go_sem, eg]
  · refine (h r (by rw [hr]) (by rw [hr]) (by rw [hr]) (by rw [hr]) (by rw [hr]) (by rw [hr])).mono ?_
    rintro e W' ⟨⟨v, rfl⟩, hl, hQ⟩
    exact ⟨none, _, by have := run_endLoop (P := P) hl (by rw [hr]; simp); rw [this, hr], hQ⟩

/-- The statement within a round of l₀. -/
theorem range_inner {l₀ : Nat} {r₀ : Loop} {g : Operand} {ps : Array Tmp} {assign body : Code} {Q : Exit → Act → World → Prop} {a : Act} {w : World} {gf : Nat} {lb : Array Value} (hl₀ : w.heap[l₀]? = some (.loop r₀))
    (hg : a.eval g = .func (.func gf) #[] lb) (eg : ∀ args w, (callFunc gf args).run P w = .ok (.enter gf args) w)
    (h : ∀ r : Loop, r.state = .ready → r.pending = none → r.tmps = a.tmps → r.params = ps → r.assign = assign → r.body = body →
      CallsIn Fence.wide (n - 1) P gf (#[.func (.yield w.heap.size) #[] #[]] ++ lb) (w.alloc (.loop r)) fun e W' =>
        (∃ v, e = .returned v) ∧ W'.heap[w.heap.size]? = some (.loop r) ∧ Q .normal a (W'.putObj w.heap.size (.loop { r with state := .exhausted }))) :
    (Code.rangeFunc g ps assign body).wpIn (Fence.wide.inRound l₀) n P Q a w := by
  refine wpIn_rangeFunc ?_
  intro fn hfn
  obtain ⟨r, hr⟩ : ∃ r : Loop, r = { state := .ready, pending := none, fn := fn, tmps := a.tmps, params := ps, assign := assign, body := body, defers := r₀.defers } := ⟨_, rfl⟩
  have hen : (Instr.enterLoop fn a.tmps ps assign body (some l₀)).run P w = .ok (w.heap.size, []) (w.alloc (.loop r)) := by rw [hr]; exact run_enterLoop_inner hl₀ _ _ _ _ _
  refine ⟨w.heap.size, [], w.alloc (.loop r), { target := .fn (.func gf) lb, args := #[.func (.yield (w.heap.size)) #[] #[]] }, w.alloc (.loop r), gf,
    #[.func (.yield (w.heap.size)) #[] #[]] ++ lb, w.alloc (.loop r), hen, ?_, fun _ _ => trivial, ?_, fun q => (by cases q), ?_⟩
  · simp only [resolve, hg]
    simp [go_sem]
  · simp [invoke, go_sem, eg]
  · refine CallsIn.mono (CallsIn.inRound l₀ (h r (by rw [hr]) (by rw [hr]) (by rw [hr]) (by rw [hr]) (by rw [hr]) (by rw [hr]))) ?_
    rintro e W' ⟨⟨v, rfl⟩, hl, hQ⟩
    exact ⟨none, _, by have := run_endLoop (P := P) hl (by rw [hr]; simp); rw [this, hr], hQ⟩
end

end Go.Proofs.Ytlpeplihbdcklaa

/- A range over a function whose rounds may leave early by a return: what one call of yield does, what the statement does, over any iterator. No program. -/
namespace Go.Proofs.Ytlpeplihbdcklaa
open Go.RowKit

theorem heap_lt {w : World} {k : Nat} {x : Obj} (h : w.heap[k]? = some x) : k < w.heap.size := (Array.getElem?_eq_some_iff.1 h).1

/-- Function gf, with what it has caught, yields N times, the i-th time args i, while I holds; it ends where a round says so. Its rounds turn nothing that it has made. -/
def IterS (P : Program) (gf : Nat) (lb : Array Value) (N : Nat) (args : Nat → Array Value) (I : World → Prop) : Prop :=
  ∀ (n lo : Nat) (W0 : World) (J : Nat → World → Prop) (D : World → Prop),
    (∀ i W W', J i W → But (fun k => W0.heap.size ≤ k) W W' → J i W') → (∀ W W', D W → But (fun k => W0.heap.size ≤ k) W W' → D W') → (∀ i W, J i W → I W) →
    (∀ i W, i < N → W0.heap.size ≤ W.heap.size → J i W → YieldAt Fence.wide (n - 1) P lo (args i) W fun e W' =>
      But (fun k => k < W0.heap.size) W W' ∧ ((e = .returned (.bool true) ∧ J (i + 1) W') ∨ (e = .returned (.bool false) ∧ D W'))) → J 0 W0 →
    CallsIn Fence.wide n P gf (#[.func (.yield lo) #[] #[]] ++ lb) W0 fun e W' => (∃ v, e = .returned v) ∧ (J N W' ∨ D W')

section
variable {P : Program} {n : Nat}

/-- One call of yield, whose round runs off its end, or returns. -/
theorem yield_leave {l : Nat} {r : Loop} {args : Array Value} {W : World} {R D : World → Prop} (hl : W.heap[l]? = some (.loop r)) (hs : r.state = .ready) (hp : r.pending = none) (hn : args.size = r.params.size)
    (h : r.assign.wpIn (Fence.wide.inRound l) n P (Exit.then (fun a' W' => W'.heap[l]? = some (.loop r) ∧
        r.body.wpIn (Fence.wide.inRound l) n P (fun e _ W3 => W3.heap[l]? = some (.loop { r with state := .busy }) ∧
          ((e = .normal ∧ R (W3.putObj l (.loop r))) ∨ (e = .ret ∧ D (W3.putObj l (.loop { r with state := .done, pending := some .ret }))))) a' (W'.putObj l (.loop { r with state := .busy }))) (fun _ _ _ => False))
      { tmps := (r.params.zip args).foldl (fun t (p, v) => t.setIfInBounds p v) r.tmps, defers := [] } W) :
    YieldAt Fence.wide n P l args W fun e W' => (e = .returned (.bool true) ∧ R W') ∨ (e = .returned (.bool false) ∧ D W') := by
  refine ⟨r.fn, _, r.assign, r.body, run_yield hl hn, roundIn_of_wpIn trivial (wpIn_mono h ?_)⟩
  intro e a' W' hq
  cases e with
  | normal =>
    obtain ⟨hl', hb⟩ := hq
    refine ⟨_, run_beginRound hl' hs, wpIn_mono hb ?_⟩
    rintro e a3 W3 ⟨hl3, (⟨rfl, hR⟩ | ⟨rfl, hD⟩)⟩
    · refine ⟨_, _, run_endRound (P := P) none hl3, .inl ⟨rfl, ?_⟩⟩
      have e : ({ { r with state := LoopState.busy } with state := if (none : Option Code).isNone then .ready else .done, pending := none } : Loop) = r := by
        cases r; simp_all
      rw [e]
      exact hR
    · exact ⟨_, _, run_endRound (P := P) (some .ret) hl3, .inr ⟨rfl, hD⟩⟩
  | _ => exact hq

/-- The statement, outermost. -/
theorem range_leave {g : Operand} {ps : Array Tmp} {assign body : Code} {Q : Exit → Act → World → Prop} {a : Act} {w : World} {gf : Nat} {lb : Array Value}
    (hg : a.eval g = .func (.func gf) #[] lb) (eg : ∀ args w, (callFunc gf args).run P w = .ok (.enter gf args) w)
    (h : ∀ r : Loop, r.state = .ready → r.pending = none → r.tmps = a.tmps → r.params = ps → r.assign = assign → r.body = body →
      CallsIn Fence.wide (n - 1) P gf (#[.func (.yield (w.heap.size + 1)) #[] #[]] ++ lb) ((w.alloc (.deferred (some []))).alloc (.loop r)) fun e W' =>
        (∃ v, e = .returned v) ∧ ((W'.heap[w.heap.size + 1]? = some (.loop r) ∧
          Q .normal { a with defers := { target := .collected w.heap.size, args := #[] } :: a.defers } (W'.putObj (w.heap.size + 1) (.loop { r with state := .exhausted }))) ∨
          (W'.heap[w.heap.size + 1]? = some (.loop { r with state := .done, pending := some .ret }) ∧
          Q .ret { a with defers := { target := .collected w.heap.size, args := #[] } :: a.defers } (W'.putObj (w.heap.size + 1) (.loop { r with state := .exhausted, pending := some .ret }))))) :
    (Code.rangeFunc g ps assign body).wpIn Fence.wide n P Q a w := by
  refine wpIn_rangeFunc ?_
  intro fn hfn
  obtain ⟨r, hr⟩ : ∃ r : Loop, r = { state := .ready, pending := none, fn := fn, tmps := a.tmps, params := ps, assign := assign, body := body, defers := w.heap.size } := ⟨_, rfl⟩
  have hen : (Instr.enterLoop fn a.tmps ps assign body none).run P w = .ok (w.heap.size + 1, [{ target := .collected w.heap.size, args := #[] }]) ((w.alloc (.deferred (some []))).alloc (.loop r)) := by rw [hr]; exact run_enterLoop_outer _ _ _ _ _
  refine ⟨w.heap.size + 1, [{ target := .collected w.heap.size, args := #[] }], (w.alloc (.deferred (some []))).alloc (.loop r), { target := .fn (.func gf) lb, args := #[.func (.yield (w.heap.size + 1)) #[] #[]] }, (w.alloc (.deferred (some []))).alloc (.loop r), gf,
    #[.func (.yield (w.heap.size + 1)) #[] #[]] ++ lb, (w.alloc (.deferred (some []))).alloc (.loop r), hen, ?_, fun _ _ => trivial, ?_, fun q => (by cases q), ?_⟩
  · simp only [resolve, hg]
    simp [go_sem]
  · simp [invoke, go_sem, eg]
  · refine (h r (by rw [hr]) (by rw [hr]) (by rw [hr]) (by rw [hr]) (by rw [hr]) (by rw [hr])).mono ?_
    rintro e W' ⟨⟨v, rfl⟩, (⟨hl, hQ⟩ | ⟨hl, hQ⟩)⟩
    · exact ⟨none, _, by have := run_endLoop (P := P) hl (by rw [hr]; simp); rw [this, hr], hQ⟩
    · exact ⟨some .ret, _, by have := run_endLoop (P := P) hl (by simp); rw [this], wpIn_ret hQ⟩

end

section
variable {P : Program} {gf : Nat} {lb : Array Value} {N : Nat} {args : Nat → Array Value} {I : World → Prop}

set_option maxHeartbeats 1600000 in
/-- Such a range, outermost. T: the blocks of old memory that its rounds may turn; J: what they hold after i rounds; D: what they hold where a round has returned. -/
theorem range_till {T : Nat → Prop} {w : World} {n : Nat} {gop : Operand} {ps : Array Tmp} {assign body : Code} {Q : Exit → Act → World → Prop} {a : Act} (J : Nat → World → Prop) (D : World → Prop) (hI : IterS P gf lb N args I)
    (hg : a.eval gop = .func (.func gf) #[] lb) (eg : ∀ args w, (callFunc gf args).run P w = .ok (.enter gf args) w) (hps : ∀ i, (args i).size = ps.size)
    (hIT : ∀ i W, But T w W → J i W → I W) (hT : ∀ k, T k → k < w.heap.size)
    (hJ : ∀ i W W', J i W → But (fun k => w.heap.size ≤ k) W W' → J i W') (hD : ∀ W W', D W → But (fun k => w.heap.size ≤ k) W W' → D W') (hJ0 : J 0 w)
    (hround : ∀ lo i W K, w.heap.size + 1 = lo → lo < W.heap.size → i < N → But T w W → J i W →
      (∀ a' W', But Nowhere W W' → (∀ U, But (fun k => k = lo) W' U → (∃ r', U.heap[lo]? = some (.loop r')) → But T w U → J i U →
          body.wpIn (Fence.wide.inRound lo) (n - 1 - 1) P (fun e _ W3 => But T U W3 ∧ ((e = .normal ∧ J (i + 1) W3) ∨ (e = .ret ∧ D W3))) a' U) → K a' W') →
      assign.wpIn (Fence.wide.inRound lo) (n - 1 - 1) P (Exit.then K (fun _ _ _ => False)) { tmps := (ps.zip (args i)).foldl (fun t (p, v) => t.setIfInBounds p v) a.tmps, defers := [] } W)
    (hdone : ∀ W', But T w W' → J N W' → W'.heap[w.heap.size]? = some (.deferred (some [])) → w.heap.size < W'.heap.size → Q .normal { a with defers := { target := .collected w.heap.size, args := #[] } :: a.defers } W')
    (hstop : ∀ W', But T w W' → D W' → W'.heap[w.heap.size]? = some (.deferred (some [])) → w.heap.size < W'.heap.size → Q .ret { a with defers := { target := .collected w.heap.size, args := #[] } :: a.defers } W') :
    (Code.rangeFunc gop ps assign body).wpIn Fence.wide n P Q a w := by
  refine range_leave hg eg ?_
  intro r hs hp ht hpa has hbo
  subst hpa has hbo
  rw [← ht] at hround
  have e0 : But Nowhere w ((w.alloc (.deferred (some []))).alloc (.loop r)) := ((But.refl _ _).alloc _).alloc _
  have hz : ((w.alloc (.deferred (some []))).alloc (.loop r)).heap.size = w.heap.size + 2 := by simp
  have hD0 : ((w.alloc (.deferred (some []))).alloc (.loop r)).heap[w.heap.size]? = some (.deferred (some [])) := by rw [Below.heap_alloc _ _ _ (by simp)]; exact heap_alloc_new w _
  have hL0 : ((w.alloc (.deferred (some []))).alloc (.loop r)).heap[w.heap.size + 1]? = some (.loop r) := by
    have := heap_alloc_new (w.alloc (.deferred (some []))) (.loop r)
    rwa [World.size_alloc] at this
  revert e0 hz hD0 hL0
  generalize (w.alloc (.deferred (some []))).alloc (.loop r) = w0
  intro e0 hz hD0 hL0
  refine (hI _ _ _ (fun i W => J i W ∧ W.heap[w.heap.size + 1]? = some (.loop r) ∧ But T w W ∧ W.heap[w.heap.size]? = some (.deferred (some [])))
    (fun W => D W ∧ W.heap[w.heap.size + 1]? = some (.loop { r with state := .done, pending := some .ret }) ∧ But T w W ∧ W.heap[w.heap.size]? = some (.deferred (some []))) ?_ ?_ ?_ ?_
    ⟨hJ 0 _ _ hJ0 (e0.mono (fun _ _ f => f.elim)), hL0, e0.mono (fun _ _ f => f.elim), hD0⟩).mono ?_
  · rintro i W W' ⟨hj, hl, hb, hd⟩ hb2
    exact ⟨hJ i _ _ hj (hb2.mono (fun k _ q => by omega)), (hb2.block _ (heap_lt hl) (by omega)).trans hl, hb.step hb2 (fun k hk q => by omega), (hb2.block _ (heap_lt hd) (by omega)).trans hd⟩
  · rintro W W' ⟨hj, hl, hb, hd⟩ hb2
    exact ⟨hD _ _ hj (hb2.mono (fun k _ q => by omega)), (hb2.block _ (heap_lt hl) (by omega)).trans hl, hb.step hb2 (fun k hk q => by omega), (hb2.block _ (heap_lt hd) (by omega)).trans hd⟩
  · rintro i W ⟨hj, hl, hb, hd⟩
    exact hIT i W hb hj
  · rintro i W hi hW ⟨hj, hl, hb, hd⟩
    have key : YieldAt Fence.wide (n - 1 - 1) P (w.heap.size + 1) (args i) W fun e W' => (e = .returned (.bool true) ∧ (But (fun k => k < w0.heap.size) W W' ∧ J (i + 1) W' ∧ W'.heap[w.heap.size + 1]? = some (.loop r) ∧ But T w W' ∧ W'.heap[w.heap.size]? = some (.deferred (some [])))) ∨
        (e = .returned (.bool false) ∧ (But (fun k => k < w0.heap.size) W W' ∧ D W' ∧ W'.heap[w.heap.size + 1]? = some (.loop { r with state := .done, pending := some .ret }) ∧ But T w W' ∧ W'.heap[w.heap.size]? = some (.deferred (some [])))) := by
      refine yield_leave hl hs hp (hps i) ?_
      refine hround _ i W _ rfl (heap_lt hl) hi hb hj ?_
      intro a' W' hb1 hbody
      have hl' : W'.heap[w.heap.size + 1]? = some (.loop r) := (hb1.block _ (heap_lt hl) (not_nowhere _)).trans hl
      refine ⟨hl', ?_⟩
      have bU : But (fun k => k = w.heap.size + 1) W' (W'.putObj (w.heap.size + 1) (.loop { r with state := .busy })) := But.putObj (S := fun k => k = w.heap.size + 1) (But.refl _ _) (fun _ => rfl) _
      have bWU : But (fun k => k = w.heap.size + 1) W (W'.putObj (w.heap.size + 1) (.loop { r with state := .busy })) := (hb1.mono (fun _ _ f => f.elim)).step bU (fun _ _ f => f)
      have bwU : But T w (W'.putObj (w.heap.size + 1) (.loop { r with state := .busy })) := hb.step bWU (fun k hk q => by omega)
      have hlU : (W'.putObj (w.heap.size + 1) (.loop { r with state := .busy })).heap[w.heap.size + 1]? = some (.loop { r with state := .busy }) := World.putObj_heap_same (heap_lt hl')
      have hdU : (W'.putObj (w.heap.size + 1) (.loop { r with state := .busy })).heap[w.heap.size]? = some (.deferred (some [])) := (bWU.block _ (heap_lt hd) (fun q => by omega)).trans hd
      refine wpIn_mono (hbody _ bU ⟨_, hlU⟩ bwU (hJ i _ _ hj (bWU.mono (fun k _ q => by omega)))) ?_
      rintro e _ W3 ⟨h3, j3⟩
      have hl3 : W3.heap[w.heap.size + 1]? = some (.loop { r with state := .busy }) := (h3.block _ (heap_lt hlU) (fun f => by have := hT _ f; omega)).trans hlU
      have hd3 : W3.heap[w.heap.size]? = some (.deferred (some [])) := (h3.block _ (heap_lt hdU) (fun f => by have := hT _ f; omega)).trans hdU
      have fin : ∀ x, But (fun k => k = w.heap.size + 1) W3 (W3.putObj (w.heap.size + 1) x) ∧ But (fun k => k < w0.heap.size) W (W3.putObj (w.heap.size + 1) x) ∧ (W3.putObj (w.heap.size + 1) x).heap[w.heap.size + 1]? = some x ∧ But T w (W3.putObj (w.heap.size + 1) x) ∧ (W3.putObj (w.heap.size + 1) x).heap[w.heap.size]? = some (.deferred (some [])) := fun x => by
        have b3 : But (fun k => k = w.heap.size + 1) W3 (W3.putObj (w.heap.size + 1) x) := But.putObj (S := fun k => k = w.heap.size + 1) (But.refl _ _) (fun _ => rfl) _
        refine ⟨b3, ?_, World.putObj_heap_same (heap_lt hl3), (bwU.trans h3).step b3 (fun k hk q => by omega), (b3.block _ (heap_lt hd3) (fun q => by omega)).trans hd3⟩
        exact ((bWU.mono (T := fun k => k < w0.heap.size) (fun k _ q => by omega)).step h3 (fun k _ q => by have := hT _ q; omega)).step b3 (fun k _ q => by omega)
      refine ⟨hl3, ?_⟩
      rcases j3 with ⟨rfl, j3⟩ | ⟨rfl, j3⟩
      · obtain ⟨b3, f1, f2, f3, f4⟩ := fin (.loop r)
        exact .inl ⟨rfl, f1, hJ _ _ _ j3 (b3.mono (fun k _ q => by omega)), f2, f3, f4⟩
      · obtain ⟨b3, f1, f2, f3, f4⟩ := fin (.loop { r with state := .done, pending := some .ret })
        exact .inr ⟨rfl, f1, hD _ _ j3 (b3.mono (fun k _ q => by omega)), f2, f3, f4⟩
    obtain ⟨fn, tmps, assign, body, hy, hR⟩ := key
    refine ⟨fn, tmps, assign, body, hy, hR.mono ?_⟩
    rintro e W' (⟨rfl, h1, h2⟩ | ⟨rfl, h1, h2⟩)
    · exact ⟨h1, .inl ⟨rfl, h2⟩⟩
    · exact ⟨h1, .inr ⟨rfl, h2⟩⟩
  · have fin : ∀ (W' : World) x, But T w W' → W'.heap[w.heap.size + 1]? = some x → W'.heap[w.heap.size]? = some (.deferred (some [])) → ∀ y, But (fun k => w.heap.size ≤ k) W' (W'.putObj (w.heap.size + 1) y) ∧ But T w (W'.putObj (w.heap.size + 1) y) ∧ (W'.putObj (w.heap.size + 1) y).heap[w.heap.size]? = some (.deferred (some [])) ∧ w.heap.size < (W'.putObj (w.heap.size + 1) y).heap.size := fun W' x hb hl hd y => by
      have b3 : But (fun k => k = w.heap.size + 1) W' (W'.putObj (w.heap.size + 1) y) := But.putObj (S := fun k => k = w.heap.size + 1) (But.refl _ _) (fun _ => rfl) _
      have := b3.size
      have := heap_lt hd
      exact ⟨b3.mono (fun k _ q => by omega), hb.step b3 (fun k hk q => by omega), (b3.block _ (heap_lt hd) (fun q => by omega)).trans hd, by omega⟩
    rintro e W' ⟨he, (⟨hj, hl, hb, hd⟩ | ⟨hj, hl, hb, hd⟩)⟩
    · obtain ⟨f1, f2, f3, f4⟩ := fin W' _ hb hl hd (.loop { r with state := .exhausted })
      exact ⟨he, .inl ⟨hl, hdone _ f2 (hJ _ _ _ hj f1) f3 f4⟩⟩
    · obtain ⟨f1, f2, f3, f4⟩ := fin W' _ hb hl hd (.loop { r with state := .exhausted, pending := some .ret })
      exact ⟨he, .inr ⟨hl, hstop _ f2 (hD _ _ hj f1) f3 f4⟩⟩
end

end Go.Proofs.Ytlpeplihbdcklaa

/- Codes as they are laid, of counts that are none below 0 and none above 255. No program. -/
namespace Go.Proofs.Ytlpeplihbdcklaa
set_option linter.unusedVariables false

/-- Counts that may stand in a header. -/
def Cnt (c : Nat → Int) : Prop := ∀ i, i < 16 → 0 ≤ c i ∧ c i ≤ 255

theorem OkC.counts {c : Nat → Int} (h : OkC c 16) : Cnt c := fun i hi => ⟨(h i hi).1, (h i hi).2.1⟩

theorem Cnt.mono {c : Nat → Int} (h : Cnt c) : ∀ (m k : Nat), m ≤ k → k ≤ 16 → cnt c m ≤ cnt c k := by
  intro m k hmk
  induction k with
  | zero => intro _; obtain rfl : m = 0 := by omega
            exact Int.le_refl _
  | succ k ih =>
    intro hk
    by_cases e : m = k + 1
    · subst e; exact Int.le_refl _
    · have := ih (by omega) (by omega)
      have := (h k (by omega)).1
      show cnt c m ≤ cnt c k + c k
      omega

theorem Cnt.pos {c : Nat → Int} (h : Cnt c) (m : Nat) (hm : m ≤ 16) : 0 ≤ cnt c m := h.mono 0 m (by omega) hm

theorem Cnt.most {c : Nat → Int} (h : Cnt c) : ∀ m, m ≤ 16 → cnt c m ≤ 255 * m := by
  intro m
  induction m with
  | zero => intro _; show (0 : Int) ≤ _; omega
  | succ m ih => intro hm; have := ih (by omega); have := (h m (by omega)).2; show cnt c m + c m ≤ _; omega

theorem Cnt.endPos {c : Nat → Int} (h : Cnt c) : ∀ m, m ≤ 16 → 0 ≤ endC c m := by
  intro m
  induction m with
  | zero => intro _; exact Int.le_refl _
  | succ m ih => intro hm; have := ih (by omega); have := (h m (by omega)).1; show 0 ≤ 2 * endC c m + c m; omega

theorem Cnt.endMost {c : Nat → Int} (h : Cnt c) : ∀ m, m ≤ 16 → endC c m ≤ 255 * (2 ^ m - 1) := by
  intro m
  induction m with
  | zero => intro _; show (0 : Int) ≤ _; decide
  | succ m ih => intro hm; have := ih (by omega); have := (h m (by omega)).2; show 2 * endC c m + c m ≤ _; rw [Int.pow_succ]; omega

theorem Cnt.endSmall {c : Nat → Int} (h : Cnt c) (m : Nat) (hm : m ≤ 16) : 0 ≤ endC c m ∧ endC c m ≤ 20000000 := by
  have h1 := h.endPos m hm
  have h2 := h.endMost m hm
  have h3 : (2 : Int) ^ m ≤ 65536 := by
    have := Nat.pow_le_pow_right (n := 2) (by decide) hm
    have e : (2 : Nat) ^ 16 = 65536 := by decide
    rw [e] at this
    have e2 : ((2 ^ m : Nat) : Int) = (2 : Int) ^ m := by simp
    omega
  omega

theorem Cnt.lenF {c : Nat → Int} (h : Cnt c) (n : Nat) (k : Int) (hk : 0 ≤ k ∧ k < c n) : ∀ m, n < m → m ≤ 16 → lenF c m (cnt c n + k) = n := by
  intro m
  induction m with
  | zero => intro h0; omega
  | succ m ih =>
    intro h1 h2
    show (if cnt c (m + 1) ≤ cnt c n + k then m + 1 else Proofs.Ytlpeplihbdcklaa.lenF c m (cnt c n + k)) = n
    have h3 := h.mono (n + 1) (m + 1) (by omega) h2
    have h4 : cnt c (n + 1) = cnt c n + c n := rfl
    rw [if_neg (by omega)]
    by_cases e : n = m
    · subst e
      cases n with
      | zero => rfl
      | succ q =>
        show (if cnt c (q + 1) ≤ cnt c (q + 1) + k then q + 1 else Proofs.Ytlpeplihbdcklaa.lenF c q (cnt c (q + 1) + k)) = q + 1
        rw [if_pos (by omega)]
    · exact ih (by omega) (by omega)

/-- At count k of length n + 1. -/
theorem Cnt.at {c : Nat → Int} (h : Cnt c) (n : Nat) (hn : n < 16) (k : Int) (hk : 0 ≤ k ∧ k < c n) (p : Nat) (hp : (p : Int) = cnt c n + k) : lenP c p = n + 1 ∧ numP c p = codeV c n k := by
  unfold lenP numP len0
  rw [hp, h.lenF n k hk 16 hn (Nat.le_refl _)]
  exact ⟨rfl, by rw [show cnt c n + k - cnt c n = k by omega]⟩

theorem cnt_place (c : Nat → Int) : ∀ (N : Nat), N ≤ 16 → ∀ p : Int, 0 ≤ p → p < cnt c N → ∃ n k, n < N ∧ 0 ≤ k ∧ k < c n ∧ p = cnt c n + k := by
  intro N
  induction N with
  | zero => intro _ p h0 h1; have : cnt c 0 = 0 := rfl; omega
  | succ N ih =>
    intro hN p h0 h1
    by_cases e : p < cnt c N
    · obtain ⟨n, k, h2, h3, h4, h5⟩ := ih (by omega) p h0 e
      exact ⟨n, k, by omega, h3, h4, h5⟩
    · have : cnt c (N + 1) = cnt c N + c N := rfl
      exact ⟨N, p - cnt c N, by omega, by omega, by omega, by omega⟩

/-- Where the p-th code stands. -/
theorem Cnt.place {c : Nat → Int} (h : Cnt c) (p : Nat) (hp : (p : Int) < cnt c 16) : ∃ n k, n < 16 ∧ 0 ≤ k ∧ k < c n ∧ (p : Int) = cnt c n + k ∧ lenP c p = n + 1 ∧ numP c p = codeV c n k := by
  obtain ⟨n, k, h1, h2, h3, h4⟩ := cnt_place c 16 (Nat.le_refl _) p (by omega) hp
  have := h.at n h1 k ⟨h2, h3⟩ p h4
  exact ⟨n, k, h1, h2, h3, h4, this.1, this.2⟩

/-- A code's length and number, whatever the counts. -/
theorem Cnt.small {c : Nat → Int} (h : Cnt c) (p : Nat) (hp : (p : Int) < cnt c 16) : 1 ≤ lenP c p ∧ lenP c p ≤ 16 ∧ 0 ≤ numP c p ∧ numP c p ≤ 50000000 := by
  obtain ⟨n, k, h1, h2, h3, h4, h5, h6⟩ := h.place p hp
  have e := h.endSmall n (by omega)
  have := (h n h1).2
  rw [h5, h6]
  unfold codeV
  omega

/-- Counts may be just where each code is below the ones of its length. -/
theorem Cnt.below {c : Nat → Int} (h : Cnt c) : OkC c 16 ↔ ∀ p : Nat, (p : Int) < cnt c 16 → numP c p < 2 ^ lenP c p - 1 := by
  constructor
  · intro ho p hp
    obtain ⟨n, k, h1, h2, h3, h4, h5, h6⟩ := h.place p hp
    rw [h5, h6]
    exact (codeV_in ho h1 ⟨h2, h3⟩).2
  · intro hp i hi
    refine ⟨(h i hi).1, (h i hi).2, fun hc => ?_⟩
    have e0 := h.pos i (by omega)
    have e1 := h.mono (i + 1) 16 (by omega) (Nat.le_refl _)
    have e2 : cnt c (i + 1) = cnt c i + c i := rfl
    have e3 : endC c (i + 1) = 2 * endC c i + c i := rfl
    have hN : (((cnt c i + (c i - 1)).toNat : Nat) : Int) = cnt c i + (c i - 1) := by omega
    have h1 := hp (cnt c i + (c i - 1)).toNat (by omega)
    obtain ⟨q1, q2⟩ := h.at i hi (c i - 1) ⟨by omega, by omega⟩ _ hN
    rw [q1, q2] at h1
    unfold codeV at h1
    omega

end Go.Proofs.Ytlpeplihbdcklaa

/- Values of many cells, read and laid at once, inside a fence. No program. -/
namespace Go.Proofs.Ytlpeplihbdcklaa
open Go.ChangeShapes Go.WideShapes Go.ChangeAt Go.RowKit

section
variable {F : Fence} {n : Nat} {P : Program} {ops : Array Oper} {rest : List Oper} {op : Oper} {a : Act} {w : World} {Q : Exit → Act → World → Prop}

theorem wpListIn_load_mid (hgd : op.guard = none) (ty : TypeId) (x : Operand) (ho : op.op = .load ty x)
    (b o : Nat) (hx : a.eval x = .pointer (some ⟨b, o, none⟩)) (cs : List Value) (d : TypeDesc) (hc : w.rangeAt b o cs)
    (hu : P.underlying ty = some d) (hd : d.isRow = true) (hi : (P.info? ty).map (·.size) = some cs.length)
    (h : wpListIn F n P ops Q rest (a.put op.dst (.agg cs.toArray)) w) : wpListIn F n P ops Q (op :: rest) a w :=
  BigFrame.wpListIn_want (by simp [Region.wanted, hgd]) fun K hK => by
    refine ⟨fun f hf => ?_, ?_⟩
    · simp [Oper.about, ho] at hf
    · rw [Oper.semAt_eq _ _ _ (by simp [ho])]
      unfold execOp
      simp only [ho, hx, Instr.loadAt, Instr.sureAddr, Sem.run_bind, Sem.run_pure, Result.andThen_ok, run_loadVar_mid w b o ty cs d hc hu hd hi]
      exact hK _ _ h

theorem wpListIn_store_mid (hgd : op.guard = none) (ty : TypeId) (x y : Operand) (ho : op.op = .store ty x y)
    (b o : Nat) (cells : Array Value) (hx : a.eval x = .pointer (some ⟨b, o, none⟩)) (hy : a.eval y = .agg cells)
    (ht : w.there b o cells.size) (hi : (P.info? ty).map (·.size) = some cells.size) (h1 : cells.all (·.oneCell') = true)
    (h : wpListIn F n P ops Q rest (a.put op.dst undef) (w.setCells b o cells.toList)) : wpListIn F n P ops Q (op :: rest) a w :=
  BigFrame.wpListIn_want (by simp [Region.wanted, hgd]) fun K hK => by
    refine ⟨fun f hf => ?_, ?_⟩
    · simp [Oper.about, ho] at hf
    · rw [Oper.semAt_eq _ _ _ (by simp [ho])]
      unfold execOp
      simp only [ho, hx, hy, Instr.storeAt, Instr.sureAddr, Sem.run_bind, Sem.run_pure, Result.andThen_ok, run_storeVar_mid w b o ty cells ht hi h1]
      exact hK _ _ h
end

end Go.Proofs.Ytlpeplihbdcklaa

/- What the document's Find of layer 10 answers. -/
namespace Go.Proofs.Ytlpeplihbdcklaa
set_option linter.unusedVariables false
open Go.ChangeShapes Go.WideShapes Go.ChangeAt Go.RowKit

end Go.Proofs.Ytlpeplihbdcklaa

/- What the document's Same of layer 10 answers of two tables of the same numbers. -/
namespace Go.Proofs.Ytlpeplihbdcklaa
set_option linter.unusedVariables false
open Go.ChangeShapes Go.WideShapes Go.ChangeAt Go.RowKit

/-- The text of these bytes. -/
def strOf (l : List Int) : ByteArray := l.foldl (fun r n => r.push (UInt8.ofNat n.toNat)) ByteArray.empty

theorem conv_bytes (W : World) (v : Value) (l : List Int) (hne : l ≠ []) (h : View W .u8 v l) : (convert 23 9 v).run Try.prog W = .ok (.string (strOf l)) W := by
  obtain ⟨ao, cap, rfl, h⟩ := h
  obtain ⟨b, off, rfl, hb, hc⟩ := h hne
  rw [run_convert_bytes_string W 23 9 5 _ _ _ Try.underlying23 Try.underlying5 Try.underlying9]
  refine run_bytesToString W _ _ _ l ?_
  have := run_loadCells_list (P := Try.prog) (w := W) ⟨b, off, none⟩ (ints .u8 l) (fun j v hj => by
    have hj' : j < l.length := by
      have := (List.getElem?_eq_some_iff.1 hj).1
      rwa [ints_length] at this
    rw [ints_at _ _ _ hj'] at hj
    rw [Addr.add_lit, hc j hj', ← hj])
  rw [ints_length] at this
  exact this

theorem equal_sixteen (f : Nat → Int) (w : World) : (Op.equalIn 10000 28 (.agg (tab .i64 16 f).toArray) (.agg (tab .i64 16 f).toArray)).run Try.prog w = .ok true w := by
  have h := run_equalIn_nums w 9998 28 3 16 Try.underlying28 Try.underlying3 sizeOf_int ((List.range 16).map f) ((List.range 16).map f) (by simp) (by simp)
  rw [beq_self_eq_true, ← nums_tab] at h
  exact h

theorem tbl_range {W : World} {b : Nat} {t : TypeId} {c : Nat → Int} {pv : Value} (h : Cells W b t (tbl c pv)) : W.rangeAt b 0 (tab .i64 16 c) := fun j v hv => by
  have hj : j < 16 := by have := (List.getElem?_eq_some_iff.1 hv).1; rwa [tab_length] at this
  rw [tab_at _ _ _ _ hj] at hv
  rw [Nat.zero_add, h.cnt j hj, ← hv]

set_option maxHeartbeats 3200000 in
set_option maxRecDepth 100000 in
theorem refSame_yes (c : Nat → Int) (pv pv' : Value) (l : List Int) (hne : l ≠ []) (w : World) (hv : View w .u8 pv l) (hv' : View w .u8 pv' l) : Calls Try.prog 19 #[.agg (tbl c pv).toArray, .agg (tbl c pv').toArray] w fun e w' => e = .returned (.bool true) ∧ But Nowhere w w' := by
  have hu := Try.underlying28
  have hi : (Try.prog.info? 28).map (·.size) = some (tab .i64 16 c).length := by rw [tab_length]; kernel_rfl
  have kk := ((Keep.start w).made 30 (tbl c pv)).made 30 (tbl c pv')
  simp only [World.size_alloc] at kk
  have hE : ∀ V, (Op.equalIn 10000 28 (.agg (tab .i64 16 c).toArray) (.agg (tab .i64 16 c).toArray)).run Try.prog V = .ok true V := equal_sixteen c
  have c1 := conv_bytes _ pv l hne (hv.but kk.but)
  have c2 := conv_bytes _ pv' l hne (hv'.but kk.but)
  have t1 := (kk.get (b := w.heap.size) (t := 30) (c := tbl c pv) (by simp)).vals
  have t2 := (kk.get (b := w.heap.size + 1) (t := 30) (c := tbl c pv') (by simp)).vals
  have r1 := tbl_range (kk.get (b := w.heap.size) (t := 30) (c := tbl c pv) (by simp))
  have r2 := tbl_range (kk.get (b := w.heap.size + 1) (t := 30) (c := tbl c pv') (by simp))
  have HB : Hid _ := kk.but
  clear hv hv' kk
  go_enter Try.func19, Try.ntmps19
  go_wp2_with (first | (refine wpList_load_mid rfl 28 (.tmp 5) rfl (w.heap.size) 0 rfl (tab .i64 16 c) _ ?_ hu rfl hi ?_; exact r1) | (refine wpList_load_mid rfl 28 (.tmp 7) rfl (w.heap.size + 1) 0 rfl (tab .i64 16 c) _ ?_ hu rfl hi ?_; exact r2))
  go_ret
  exact ⟨rfl, HB.out⟩

end Go.Proofs.Ytlpeplihbdcklaa

/- All codes, as one value: a place of them; two that are the same. -/
namespace Go.Proofs.Ytlpeplihbdcklaa
set_option linter.unusedVariables false
open Go.ChangeShapes Go.WideShapes Go.ChangeAt Go.RowKit

theorem isAggC (w : World) : (isAgg 34).run Try.prog w = .ok true w := by
  have h := Try.underlying34
  simp [isAgg, run_underlying h, go_sem]

theorem sizeOfC (w : World) : (sizeOf 34).run Try.prog w = .ok 2 w := by
  have h : (Try.prog.info? 34).isSome = true := by kernel_rfl
  obtain ⟨i, hi⟩ := Option.isSome_iff_exists.1 h
  have hc : Try.prog.cellsOf 34 = 2 := by kernel_rfl
  rw [run_sizeOf w hi, hc]

theorem tab_two (n : Nat) (f : Nat → Int) (k : Nat) (hk : k + 1 < n) : List.take 2 (List.drop k (tab .i64 n f)) = [.int .i64 (f k), .int .i64 (f (k + 1))] := by
  have hl : k < (tab .i64 n f).length := by rw [tab_length]; omega
  have hl2 : k + 1 < (tab .i64 n f).length := by rw [tab_length]; omega
  have h := tab_at .i64 n f k (by omega)
  have h2 := tab_at .i64 n f (k + 1) hk
  rw [List.getElem?_eq_getElem hl] at h
  rw [List.getElem?_eq_getElem hl2] at h2
  rw [List.drop_eq_getElem_cons hl, List.take_succ_cons, List.drop_eq_getElem_cons hl2, List.take_succ_cons, List.take_zero, Option.some.inj h, Option.some.inj h2]

theorem part_code (f : Nat → Int) (k : Nat) (hk : k < 256) (w : World) : (part 34 (tab .i64 512 f).toArray (k * 2)).run Try.prog w = .ok (.agg #[.int .i64 (f (k * 2)), .int .i64 (f (k * 2 + 1))]) w := by
  have ha := tab_two 512 f (k * 2) (by omega)
  have hA := isAggC
  have hS := sizeOfC
  simp [part, hA, hS, ha, go_sem]

theorem index_code (f : Nat → Int) (k : Nat) (hk : k < 256) (w : World) : (Instr.index 35 (.agg (tab .i64 512 f).toArray) (.int .i64 (k : Int))).run Try.prog w = .ok (.agg #[.int .i64 (f (k * 2)), .int .i64 (f (k * 2 + 1))]) w := by
  have h := Try.underlying35
  have h0 : 0 ≤ (k : Int) ∧ (k : Int) < ((256 : Nat) : Int) := by omega
  have hp := part_code f k hk w
  have hS := sizeOfC
  simp [Instr.index, run_underlying h, asIntOf, h0, hS, hk, part, go_sem]
  exact tab_two 512 f (k * 2) (by omega)

theorem equal_code (a b : Int) (d : Nat) (w : World) : (Op.equalIn (d + 3) 34 (.agg #[.int .i64 a, .int .i64 b]) (.agg #[.int .i64 a, .int .i64 b])).run Try.prog w = .ok true w := by
  rw [run_equalIn_struct w (d + 2) 34 _ _ (by kernel_rfl) (by kernel_rfl)]
  have hf : (Try.prog.fieldsOf 34).toList = [{ name := "N", type := 3, offset := 0, embedded := false, tag := "", pkgPath := "", byteOffset := 0 }, { name := "V", type := 3, offset := 1, embedded := false, tag := "", pkgPath := "", byteOffset := 8 }] := by kernel_rfl
  rw [hf]
  have he := Try.underlying3
  have p0 : (part 3 #[.int .i64 a, .int .i64 b] 0).run Try.prog w = .ok (.int .i64 a) w := by simp [part, isAgg, run_underlying he]
  have p1 : (part 3 #[.int .i64 a, .int .i64 b] 1).run Try.prog w = .ok (.int .i64 b) w := by simp [part, isAgg, run_underlying he]
  have e0 := run_equalIn_int w (d + 1) 3 .i64 .i64 a a he
  have e1 := run_equalIn_int w (d + 1) 3 .i64 .i64 b b he
  simp [Op.eqFields, p0, p1, e0, e1]

theorem equal_codes (f : Nat → Int) (w : World) : (Op.equalIn 10000 35 (.agg (tab .i64 512 f).toArray) (.agg (tab .i64 512 f).toArray)).run Try.prog w = .ok true w := by
  have ht := Try.underlying35
  have hsz := sizeOfC
  rw [show (10000 : Nat) = 9999 + 1 from rfl, Op.equalIn]
  simp only [Sem.run_bind, run_underlying ht, Result.andThen_ok, hsz, Std.Legacy.Range.forIn_eq_forIn_range', Std.Legacy.Range.size, Nat.sub_zero, Nat.add_sub_cancel, Nat.div_one]
  have hl : ∀ i ∈ List.range' 0 256 1, i < 256 := fun i hi => by simpa using (List.mem_range'_1.1 hi).2
  generalize List.range' 0 256 1 = l at hl ⊢
  induction l with
  | nil => simp
  | cons i l ih =>
    have hi : i < 256 := hl i (by simp)
    have px := part_code f i hi w
    have pe := equal_code (f (i * 2)) (f (i * 2 + 1)) 9996 w
    simp only [List.forIn_cons, Sem.run_bind, px, pe, Result.andThen_ok]
    simp only [Bool.not_true, Bool.false_eq_true, if_false, Sem.run_pure, Result.andThen_ok]
    exact ih fun j hj => hl j (by simp [hj])

end Go.Proofs.Ytlpeplihbdcklaa

/- The law's codes and finds of layer 10, over what package huff is to answer. -/
namespace Go.Proofs.Ytlpeplihbdcklaa
set_option linter.unusedVariables false
open Go.ChangeShapes Go.WideShapes Go.ChangeAt Go.RowKit

/-- Three operations may come. -/
theorem Walk.three {P : Program} {ops : Array Oper} {Q : Exit → Act → World → Prop} {md : Region.Mode} {S R : World → Prop} {k m f i j l : Nat} {oi oj ol : Oper} {L : Array Bool} {a : Act} {w : World} (hr : Region.ready md ops L = [i, j, l]) (ho : ops[i]? = some oi) (hp : ops[j]? = some oj) (hq : ops[l]? = some ol)
    (h : ∀ K : Act → World → Prop, Shut (∀ a w, Till S R k m (L.setIfInBounds i true) w → Walk P md ops Q S R k m f (L.setIfInBounds i true) a w → K a w) → if Region.wanted oi (yielded ops a.tmps) = true then Oper.wp P oi a w K Q else K (a.put oi.dst undef) w)
    (g : ∀ K : Act → World → Prop, Shut (∀ a w, Till S R k m (L.setIfInBounds j true) w → Walk P md ops Q S R k m f (L.setIfInBounds j true) a w → K a w) → if Region.wanted oj (yielded ops a.tmps) = true then Oper.wp P oj a w K Q else K (a.put oj.dst undef) w)
    (g2 : ∀ K : Act → World → Prop, Shut (∀ a w, Till S R k m (L.setIfInBounds l true) w → Walk P md ops Q S R k m f (L.setIfInBounds l true) a w → K a w) → if Region.wanted ol (yielded ops a.tmps) = true then Oper.wp P ol a w K Q else K (a.put ol.dst undef) w) :
    Walk P md ops Q S R k m (f + 1) L a w := fun hc ht => by
  refine ⟨fun h0 => (by rw [hr] at h0; cases h0), fun n hn => ?_⟩
  have hc' : Shutd md ops (L.setIfInBounds n true) := hc.set hn
  rw [hr] at hn
  simp only [List.mem_cons, List.not_mem_nil, or_false] at hn
  rcases hn with rfl | rfl | rfl
  · exact wpOp_step ho (fun K hK => h K (fun a w ht' hw => hK a w ⟨ht', hw hc' ht'⟩))
  · exact wpOp_step hp (fun K hK => g K (fun a w ht' hw => hK a w ⟨ht', hw hc' ht'⟩))
  · exact wpOp_step hq (fun K hK => g2 K (fun a w ht' hw => hK a w ⟨ht', hw hc' ht'⟩))

end Go.Proofs.Ytlpeplihbdcklaa

/- The law's tells of layer 10, over what package huff is to answer. -/
namespace Go.Proofs.Ytlpeplihbdcklaa
set_option linter.unusedVariables false
open Go.ChangeShapes Go.WideShapes Go.ChangeAt Go.RowKit

/-- The code of any number; 0, 0 of those that are no byte. -/
def codNI (c : Nat → Int) (l : List Int) (b : Int) : Int := if 0 ≤ b ∧ b ≤ 255 then codN c l b.toNat else 0
def codVI (c : Nat → Int) (l : List Int) (b : Int) : Int := if 0 ≤ b ∧ b ≤ 255 then codV c l b.toNat else 0

end Go.Proofs.Ytlpeplihbdcklaa

/- The law's known of layer 10, over what package huff is to answer. -/
namespace Go.Proofs.Ytlpeplihbdcklaa
set_option linter.unusedVariables false
open Go.ChangeShapes Go.WideShapes Go.ChangeAt Go.RowKit

def SpecStandard (T : World → Prop) : Prop := ∀ (a b : Int) (w : World) (ht : T w), Calls Try.prog 18 #[.int .i64 a, .int .i64 b] w fun e w' => ∃ pv, e = .returned (.agg (tbl (stdc (stdIx a b)) pv).toArray) ∧ View w' .u8 pv (stdL (stdIx a b)) ∧ But Nowhere w w'

theorem stdc_in : ∀ i, i < 4 → ∀ j, j < 16 → 0 ≤ stdc i j ∧ stdc i j ≤ 255 := by decide +kernel
theorem stdc_i64 (i : Nat) (h : i < 4) (j : Nat) (hj : j < 16) : I64 (stdc i j) := by have := stdc_in i h j hj; exact ⟨by omega, by omega⟩
theorem stdL_length : ∀ i, i < 4 → (stdL i).length ≤ 162 ∧ stdL i ≠ [] := by decide +kernel

theorem stdN_len : ∀ i, i < 4 → stdN i = (stdL i).length := by decide +kernel
theorem std_view (i : Nat) (hi : i < 4) {W : World} {g : Nat} {t : TypeId} (h : Cells W g t (ints .u8 (stdL i))) : View W .u8 (.slice (some ⟨g, 0, none⟩) (stdN i) (stdN i)) (stdL i) := by
  rw [stdN_len i hi]
  refine ⟨some ⟨g, 0, none⟩, _, rfl, fun _ => ⟨g, 0, rfl, h.lt, fun j hj => ?_⟩⟩
  rw [Nat.zero_add, h.at, ints_at _ _ _ hj]

def twoC (j : Nat) : Int := if j = 0 then 2 else 0

end Go.Proofs.Ytlpeplihbdcklaa

/- A region that draws its order, in a round or in an iterator: the call of yield may stand in it. No program. -/
namespace Go.Proofs.Ytlpeplihbdcklaa
open Go.RowKit

section
variable {ρ : Option Nat} {P : Program} {ops : Array Oper} {Q : Exit → Act → World → Prop} {md : Region.Mode} {S R : World → Prop} {k m n : Nat}

theorem noDefer_spec (hd : noDefer ops = true) {i : Nat} {o : Oper} (hi : ops[i]? = some o) : ∀ c, o.op ≠ .defer c := fun c e => by
  have := Array.all_eq_true_iff_forall_mem.1 hd o (Array.mem_of_getElem? hi)
  simp [e] at this

theorem YieldsIf.wpOpR (hd : noDefer ops = true) {i : Nat} {o : Oper} {v : Value} {a : Act} (hi : ops[i]? = some o) (hy : YieldsIf P ops S o v a)
    {K : Act → World → Prop} {w : World} (hS : S w) (h : K (a.put o.dst v) w) : wpOpIn (Wide ρ) n P ops Q i K a w := by
  unfold Go.wpOpIn
  simp only [hi]
  rcases hy with ⟨hw, hv⟩ | ⟨hw, rfl⟩
  · simp only [hw, if_true, Oper.wpIn, semAt_any ρ _ o (noDefer_spec hd hi), hv w hS, Oper.uponIn]; exact ⟨fun _ _ => trivial, h⟩
  · simp only [hw, Bool.false_eq_true, if_false]; exact ⟨fun _ _ => trivial, h⟩

theorem wpOpR_putIf (hd : noDefer ops = true) {j : Nat} {oi oj : Oper} {v : Value} (hj : ops[j]? = some oj) (hap : oi.apart ops oj = true)
    (hsi : ∀ cs b, oi.op ≠ .select cs b) (hsj : ∀ cs b, oj.op ≠ .select cs b)
    (hQ : ∀ c a w, Q (.panic c) (a.put oi.dst v) w → Q (.panic c) a w) {K : Act → World → Prop} {a : Act} {w : World}
    (hy : YieldsIf P ops S oi v a) (h : wpOpIn (Wide ρ) n P ops Q j K (a.put oi.dst v) w) :
    wpOpIn (Wide ρ) n P ops Q j (fun a' w' => YieldsIf P ops S oi v a' ∧ K (a'.put oi.dst v) w') a w := by
  obtain ⟨h1, h2, h3⟩ := Oper.apart_spec hap
  have keep : ∀ (a : Act), YieldsIf P ops S oi v a → ∀ u, YieldsIf P ops S oi v (a.put oj.dst u) := fun a hy u =>
    hy.of_same (execOp_put oi hsi a oj.dst u h3) (wanted_put oi a oj.dst u h3)
  have keepD : ∀ d, YieldsIf P ops S oi v { a with defers := d :: a.defers } := fun d => hy.of_same rfl rfl
  have hno := noDefer_spec hd hj
  unfold wpOpIn at *
  simp only [hj] at *
  rw [wanted_put oj a oi.dst v h1] at h
  split
  · rename_i hw
    simp only [hw, if_true] at h
    unfold Oper.wpIn at *
    refine ⟨fun _ _ => trivial, ?_⟩
    have h := h.2
    rw [show (Wide ρ).round = ρ from rfl, semAt_any ρ _ oj hno, execOp_put oj hsj a oi.dst v h1] at h
    rw [show (Wide ρ).round = ρ from rfl, semAt_any ρ _ oj hno]
    generalize (execOp a.eval oj).run P w = r at *
    cases r with
    | ok x w' =>
      cases x <;> simp only [Oper.uponIn] at h ⊢
      case value u => exact ⟨keep a hy u, by rw [← Act.put_comm a v u h2]; exact h⟩
      case skip => exact ⟨keep a hy _, by rw [← Act.put_comm a v undef h2]; exact h⟩
      case defer d =>
        refine ⟨keep _ (keepD d) _, ?_⟩
        rw [← Act.put_comm _ v undef h2, ← Act.put_defers]
        exact h
      case enter f args =>
        refine ⟨h.1, CallsIn.mono h.2 fun e w'' he => ?_⟩
        cases e with
        | returned u => exact ⟨keep a hy u, by rw [← Act.put_comm a v u h2]; exact he⟩
        | panicked c => exact hQ _ _ _ he
        | outgrown => exact he
      case row row args => exact ⟨h.1, RowsIn.mono h.2 fun u w'' he => ⟨keep a hy u, by rw [← Act.put_comm a v u h2]; exact he⟩⟩
      case round l f tmps assign body =>
        refine ⟨h.1, RoundIn.mono h.2 fun e w'' he => ?_⟩
        cases e with
        | returned u => exact ⟨keep a hy u, by rw [← Act.put_comm a v u h2]; exact he⟩
        | panicked c => exact hQ _ _ _ he
        | outgrown => exact he
    | halt x w' =>
      cases x <;> simp only [Oper.uponIn] at h ⊢
      case panic u => exact hQ _ _ _ h
  · rename_i hw
    simp only [hw] at h
    exact ⟨fun _ _ => trivial, keep a hy _, by rw [← Act.put_comm a v undef h2]; exact h.2⟩

def wpTillR (ρ : Option Nat) (n : Nat) (P : Program) (md : Region.Mode) (ops : Array Oper) (Q : Exit → Act → World → Prop) (S R : World → Prop) (k m : Nat) : Nat → Array Bool → Act → World → Prop
  | 0, L, a, w => Region.ready md ops L = [] ∧ Q .normal a w
  | f + 1, L, a, w => (Region.ready md ops L = [] → Q .normal a w) ∧
    ∀ i ∈ Region.ready md ops L, wpOpIn (Wide ρ) n P ops Q i (fun a' w' => Till S R k m (L.setIfInBounds i true) w' ∧ wpTillR ρ n P md ops Q S R k m f (L.setIfInBounds i true) a' w') a w

theorem wpAnyR_of_till : ∀ (f : Nat) (L : Array Bool) (a : Act) (w : World), wpTillR ρ n P md ops Q S R k m f L a w → wpAnyIn (Wide ρ) n P md ops Q f L a w
  | 0, _, _, _, h => h
  | f + 1, _, _, _, h => ⟨h.1, fun i hi => wpOpIn_mono (fun a' w' h' => wpAnyR_of_till f _ a' w' h'.2) (h.2 i hi)⟩

theorem wpTillR_first (hd : noDefer ops = true) {i : Nat} {oi : Oper} {v : Value} (hi : ops[i]? = some oi) (hk : i ≠ k) (hm : i ≠ m) (hsel : ∀ (j : Nat) (o : Oper) cs b, ops[j]? = some o → o.op ≠ .select cs b)
    (hQ : ∀ c a w, Q (.panic c) (a.put oi.dst v) w → Q (.panic c) a w) : ∀ (f : Nat) (L : Array Bool) (a : Act) (w : World),
      (∀ j oj, ops[j]? = some oj → j ≠ i → L.getD j true = false → (∀ e ∈ oj.after, Region.binds md e = true → e.on ≠ i) → oi.apart ops oj = true) →
      i ∈ Region.ready md ops L → Shutd md ops L → YieldsIf P ops (Can1 md ops S R k m i) oi v a → Till S R k m L w →
      wpTillR ρ n P md ops Q S R k m f (L.setIfInBounds i true) (a.put oi.dst v) w → wpTillR ρ n P md ops Q S R k m (f + 1) L a w := by
  have now : ∀ (L : Array Bool) (w : World), L.getD i true = false → Shutd md ops L → Till S R k m L w → Can1 md ops S R k m i w :=
    fun L w h0 hc ht => ⟨fun hw => ht.1 (hc.notYet hw h0), fun hw => ht.2 (hc.notYet hw h0)⟩
  intro f
  induction f with
  | zero =>
    intro L a w _ hr hc hy ht H
    refine ⟨fun h => (by rw [h] at hr; cases hr), fun j hj => ?_⟩
    by_cases e : j = i
    · subst e; exact YieldsIf.wpOpR hd hi hy (now L w (mem_ready.1 hr).1 hc ht) ⟨(Till.drop hk hm).2 ht, H⟩
    · exact absurd (H.1 ▸ ready_mono hj e) (by simp)
  | succ f ih =>
    intro L a w hfree hr hc hy ht H
    refine ⟨fun h => (by rw [h] at hr; cases hr), fun j hj => ?_⟩
    by_cases e : j = i
    · subst e; exact YieldsIf.wpOpR hd hi hy (now L w (mem_ready.1 hr).1 hc ht) ⟨(Till.drop hk hm).2 ht, H⟩
    · obtain ⟨hun, oj, hoj, hall⟩ := mem_ready.1 hj
      have hnot : ∀ e ∈ oj.after, Region.binds md e = true → e.on ≠ i := fun x hx hb q => by
        have h1 := hall x hx hb
        rw [q, getD_both (mem_ready.1 hr).1] at h1
        cases h1
      have h2 := wpOpR_putIf hd hoj (hfree j oj hoj e hun hnot) (fun cs b => hsel i oi cs b hi) (fun cs b => hsel j oj cs b hoj) hQ hy (H.2 j (ready_mono hj e))
      refine wpOpIn_mono (fun a' w' h3 => ?_) h2
      obtain ⟨hy', ht', H'⟩ := h3
      rw [Array.setIfInBounds_comm _ _ (Ne.symm e)] at ht' H'
      replace ht' := (Till.drop hk hm).1 ht'
      refine ⟨ht', ih _ a' w' (fun q oq hq hqi hqu hqn => hfree q oq hq hqi ?_ hqn) (ready_mono hr (Ne.symm e)) (hc.set hj) hy' ht' H'⟩
      by_cases eq : j = q
      · subst eq; exact hun
      · rw [getD_set_ne true eq] at hqu; exact hqu

/-- The walk's own form. -/
def WalkR (ρ : Option Nat) (n : Nat) (P : Program) (md : Region.Mode) (ops : Array Oper) (Q : Exit → Act → World → Prop) (S R : World → Prop) (k m f : Nat) (L : Array Bool) (a : Act) (w : World) : Prop :=
  Shutd md ops L → Till S R k m L w → wpTillR ρ n P md ops Q S R k m f L a w

theorem WalkR.take (hd : noDefer ops = true) {f i : Nat} {oi : Oper} {v : Value} {L : Array Bool} {a : Act} {w : World} (hi : ops[i]? = some oi) (hne : (i != k && i != m) = true) (hs : Region.noSelect ops = true) (hf : Region.free md ops L i = true)
    (hr : (Region.ready md ops L).contains i = true) (hQ : ∀ c a w, Q (.panic c) (a.put oi.dst v) w → Q (.panic c) a w) (hy : YieldsIf P ops (Can1 md ops S R k m i) oi v a)
    (h : WalkR ρ n P md ops Q S R k m f (L.setIfInBounds i true) (a.put oi.dst v) w) : WalkR ρ n P md ops Q S R k m (f + 1) L a w := fun hc ht => by
  simp only [Bool.and_eq_true, bne_iff_ne] at hne
  have hr' : i ∈ Region.ready md ops L := by simpa using hr
  exact wpTillR_first hd hi hne.1 hne.2 (Region.noSelect_spec hs) hQ f L a w (Region.free_spec hi hf) hr' hc hy ht (h (hc.set hr') ((Till.drop hne.1 hne.2).2 ht))

theorem WalkR.go {l f i : Nat} {o : Oper} {L : Array Bool} {a : Act} {w : World} (hr : Region.ready md ops L = [i]) (ho : ops[i]? = some o)
    (h : ∀ K : Act → World → Prop, Shut (∀ a w, Till S R k m (L.setIfInBounds i true) w → WalkR (some l) n P md ops Q S R k m f (L.setIfInBounds i true) a w → K a w) → if Region.wanted o (yielded ops a.tmps) = true then Oper.wpIn (Fence.wide.inRound l) n P o a w K Q else K (a.put o.dst undef) w) :
    WalkR (some l) n P md ops Q S R k m (f + 1) L a w := fun hc ht => by
  refine ⟨fun h0 => (by rw [hr] at h0; cases h0), fun j hj => ?_⟩
  rw [hr] at hj
  simp only [List.mem_singleton] at hj
  subst hj
  have hc' : Shutd md ops (L.setIfInBounds j true) := hc.set (by rw [hr]; simp)
  refine wpOpIn_step ho (fun K hK => ?_)
  have := h K (fun a w ht' hw => hK a w ⟨ht', hw hc' ht'⟩)
  split at this
  · rename_i hw; rw [if_pos hw]; exact this
  · rename_i hw; rw [if_neg hw]; exact ⟨fun _ _ => trivial, this⟩

theorem WalkR.done {L : Array Bool} {a : Act} {w : World} (hr : Region.ready md ops L = []) (h : Q .normal a w) : ∀ f, WalkR ρ n P md ops Q S R k m f L a w
  | 0 => fun _ _ => ⟨hr, h⟩
  | _ + 1 => fun _ _ => ⟨fun _ => h, by rw [hr]; simp⟩

/-- The beginning, in a round. -/
theorem round_region_walk {l n id : Nat} {a : Act} {w : World} (hm : P.follows .mixedOrders = true) (hS : S w.drew) (hR : R w.drew) (h : WalkR (some l) n P .any ops Q S R k m ops.size (Array.replicate ops.size false) a w.drew) : (Code.region id ops true).wpIn (Fence.wide.inRound l) n P Q a w :=
  wpIn_region_any hm (wpAnyR_of_till _ _ _ _ (h (.start _ _) ⟨fun _ => hS, fun _ => hR⟩))
end

end Go.Proofs.Ytlpeplihbdcklaa

/- What Look of package scan answers. -/
namespace Go.Proofs.Ytlpeplihbdcklaa
set_option linter.unusedVariables false
open Go.ChangeShapes Go.WideShapes Go.ChangeAt Go.RowKit

/-- A variable in a block of its own. -/
def Box (w : World) (b : Nat) (t : TypeId) (v : Value) : Prop := w.heap[b]? = some (.cells #[v] t (0, 0))

theorem Box.lt {w : World} {b : Nat} {t : TypeId} {v : Value} (h : Box w b t v) : b < w.heap.size := (Array.getElem?_eq_some_iff.1 h).1
theorem Box.cell {w : World} {b : Nat} {t : TypeId} {v : Value} (h : Box w b t v) : w.cell? ⟨b, 0, none⟩ = some v := by rw [cell_of_row w b 0 _ _ _ h]; rfl
theorem Box.frozen {w : World} {b : Nat} {t : TypeId} {v : Value} (h : Box w b t v) : w.frozen? ⟨b, 0, none⟩ = false := by
  unfold Box at h
  simp [World.frozen?, h]
theorem Box.but {S : Nat → Prop} {w w' : World} {b : Nat} {t : TypeId} {v : Value} (h : Box w b t v) (hb : But S w w') (hs : ¬ S b) : Box w' b t v := (hb.block b h.lt hs).trans h
theorem Box.set {w : World} {b : Nat} {t : TypeId} {v : Value} (h : Box w b t v) (u : Value) : Box (w.setCell ⟨b, 0, none⟩ u) b t u := heap_setCell_one h
theorem Box.new (w : World) (t : TypeId) (v : Value) : Box (w.alloc (.cells #[v] t)) w.heap.size t v := heap_alloc_new w _
theorem Box.drew {w : World} {b : Nat} {t : TypeId} {v : Value} (h : Box w b t v) : Box w.drew b t v := h
theorem Box.alloc {w : World} {b : Nat} {t : TypeId} {v : Value} (h : Box w b t v) (o : Obj) : Box (w.alloc o) b t v := h.but ((But.refl Nowhere w).alloc o) (not_nowhere _)
theorem Box.far {w : World} {b c : Nat} {t : TypeId} {v : Value} (h : Box w b t v) (hn : b ≠ c) (j : Nat) (u : Value) : Box (w.setCell ⟨c, j, none⟩ u) b t v := h.but (But.setCell (S := fun x => x = c) (But.refl _ w) (p := ⟨c, j, none⟩) (fun _ => rfl) u) hn

/-- The word at a place; 0 where there is none. -/
def word (l : List Int) (i : Int) : Int := if 0 ≤ i then l[i.toNat]?.getD 0 else 0
/-- The words, one of them laid. -/
def lay (l : List Int) (i n : Int) : List Int := if 0 ≤ i then l.set i.toNat n else l
/-- What is seen of it. -/
def seenAt (l : List Int) (i : Int) : List Ev := if 0 ≤ i ∧ i < l.length then [(1, i)] else []

theorem lay_length (l : List Int) (i n : Int) : (lay l i n).length = l.length := by unfold lay; split <;> simp
theorem word_at (l : List Int) (k : Nat) (h : k < l.length) : word l k = l[k] := by simp [word, h]
theorem word_out (l : List Int) (i : Int) (h : i < 0 ∨ l.length ≤ i) : word l i = 0 := by
  unfold word
  split
  · rw [List.getElem?_eq_none (by omega)]; rfl
  · rfl
theorem lay_at (l : List Int) (k : Nat) (n : Int) : lay l k n = l.set k n := by simp [lay]
theorem lay_out (l : List Int) (i n : Int) (h : i < 0 ∨ l.length ≤ i) : lay l i n = l := by
  unfold lay
  split
  · rw [List.set_eq_of_length_le (by omega)]
  · rfl
theorem seenAt_in (l : List Int) (i : Int) (h0 : 0 ≤ i) (h1 : i < l.length) : seenAt l i = [(1, i)] := by simp [seenAt, h0, h1]
theorem seenAt_out (l : List Int) (i : Int) (h : i < 0 ∨ l.length ≤ i) : seenAt l i = [] := by
  unfold seenAt
  rw [if_neg (by omega)]

def I64s (l : List Int) : Prop := ∀ x ∈ l, I64 x

/-- What is gathered over a window. -/
def acc (f : Int → Int → Int → Int) (l : List Int) (A : Int) : Nat → Int
  | 0 => 0
  | k + 1 => f (A + k) (word l (A + k)) (acc f l A k)

/-- What Load picks, what Store lays. -/
def ldF (a : Int) (i x y : Int) : Int := if a = i then x else y
def stF (a s : Int) (i x : Int) : Int := if a = i then s else x

theorem word_in {l : List Int} (h : I64s l) (i : Int) : I64 (word l i) := by
  unfold word
  split
  · cases e : l[i.toNat]? with
    | none => show I64 0; omega
    | some x => exact h x (List.mem_of_getElem? e)
  · omega

theorem acc_in {f : Int → Int → Int → Int} (l : List Int) (A : Int) (k : Nat) (h : I64s l) (hf : ∀ i x y, I64 x → I64 y → I64 (f i x y)) : I64 (acc f l A k) := by
  induction k with
  | zero => show I64 0; omega
  | succ k ih => exact hf _ _ _ (word_in h _) ih

theorem sel_here (a i x y : Int) (hx : I64 x) (hy : I64 y) : selF (eqM a i) x y = ldF a i x y := selF_mask _ _ _ hx hy

theorem acc_ld (a : Int) (l : List Int) (A : Int) (k : Nat) : acc (ldF a) l A k = if A ≤ a ∧ a < A + k then word l a else 0 := by
  induction k with
  | zero => rw [if_neg (by omega)]; rfl
  | succ k ih =>
    rw [acc, ih]
    unfold ldF
    by_cases e : a = A + k
    · rw [if_pos e, if_pos (by omega), e]
    · rw [if_neg e]
      by_cases c : A ≤ a ∧ a < A + k
      · rw [if_pos c, if_pos (by omega)]
      · rw [if_neg c, if_neg (by omega)]

end Go.Proofs.Ytlpeplihbdcklaa

/- The codes as the program lays them, by rising lengths: laid. -/
namespace Go.Proofs.Ytlpeplihbdcklaa
set_option linter.unusedVariables false
open Go.ChangeShapes Go.WideShapes Go.ChangeAt Go.RowKit Go.Shelf

theorem wide_fn (k : Nat) : Fence.wide.fn k = True := rfl
theorem wide_depth : Fence.wide.depth = none := rfl

attribute [local go_sem] Oper.semAt_some wide_fn wide_depth Fence.inRound_fn Fence.inRound_depth

/-- A place, and its code. -/
abbrev codeA (c : Nat → Int) (p : Nat) : Value := .agg #[.int .i64 ((lenP c p : Nat) : Int), .int .i64 (numP c p)]

theorem laid_any (c : Nat → Int) (w : World) : Calls Try.prog 47 #[.agg (tab .i64 16 c).toArray] w fun e w' => ∃ b, e = .returned (.func (.func 57) #[] #[.pointer (some ⟨b, 0, none⟩)]) ∧ Keep w w' [(b, 28, tab .i64 16 c)] := by
  have kk := (Keep.start w).made 28 (tab .i64 16 c)
  go_enter Try.func47, Try.ntmps47
  go_wp2_with fail
  go_ret
  exact ⟨_, rfl, kk⟩

theorem index_sixteen (f : Nat → Int) (k : Nat) (hk : k < 16) (w : World) : (Instr.index 28 (.agg (tab .i64 16 f).toArray) (.int .i64 (k : Int))).run Try.prog w = .ok (.int .i64 (f k)) w := by
  have h := Try.underlying28
  have he := Try.underlying3
  have hp := tab_at .i64 16 f k hk
  simp [Instr.index, run_underlying h, asIntOf, hk, part, isAgg, run_underlying he, hp, go_sem]

set_option maxHeartbeats 3200000 in
set_option maxRecDepth 100000 in
theorem laid1_iter (c : Nat → Int) (hc : Cnt c) (cb : Nat) :
    IterS Try.prog 57 #[.pointer (some ⟨cb, 0, none⟩)] (cnt c 16).toNat
      (fun p => #[.int .i64 p, codeA c p]) (fun W => Cells W cb 28 (tab .i64 16 c)) := by
  intro n lo W J D HJ HD HI HY hJ0
  have hu := Try.underlying28
  have hi16 : (Try.prog.info? 28).map (·.size) = some (tab .i64 16 c).length := by rw [tab_length]; kernel_rfl
  have hmx : Try.prog.follows .mixedOrders = true := by kernel_rfl
  have hC : W.rangeAt cb 0 (tab .i64 16 c) := by
    intro j v hv
    have hj : j < 16 := by have := (List.getElem?_eq_some_iff.1 hv).1; rwa [tab_length] at this
    rw [tab_at _ _ _ _ hj] at hv
    rw [Nat.zero_add, (HI 0 W hJ0).cell j hj, ← hv]
  have hTot := hc.most 16 (Nat.le_refl _)
  have hIx := fun k hk V => index_sixteen c k hk V
  obtain ⟨W0, hW0⟩ : ∃ W0, W0 = W := ⟨_, rfl⟩
  have hz0 : W0.heap.size ≤ W.heap.size := by rw [hW0]; exact Nat.le_refl _
  rw [← hW0] at HJ HD HY
  clear hW0
  refine callsIn_of_wp Try.func57 rfl trivial ?_ rfl
  simp only [Try.ntmps57, List.size_toArray, List.length_cons, List.length_nil, Nat.reduceAdd, Nat.reduceSub, Array.replicate_succ, Array.replicate_zero, List.push_toArray, List.append_toArray, List.nil_append, List.cons_append]
  gi_wp2_with (refine wpListIn_load_mid rfl 28 (.tmp 1) rfl cb 0 rfl (tab .i64 16 c) _ ?_ hu rfl hi16 ?_; exact hC)
  clear hC hi16 hu
  gi_loopw [3, 4, 8] (fun p x i wr => ∃ (k : Nat), k ≤ 16 ∧ i = .int .i64 k ∧ p = .int .i64 (cnt c k) ∧ x = .int .i64 (2 * endC c k) ∧ W0.heap.size ≤ wr.heap.size ∧ J (cnt c k).toNat wr) (fun _ _ i _ => (16 - intOf i).toNat)
  case atStart => exact ⟨0, Nat.zero_le _, by simp, rfl, rfl, hz0, hJ0⟩
  case round =>
    clear hJ0 hz0
    obtain ⟨k, hk, rfl, rfl, rfl, hz, hj⟩ := hrel
    by_cases hlt : (k : Int) < 16
    · have hkN : k < 16 := by omega
      have i0 : (0 : Int) ≤ (k : Int) := by omega
      have hx := hIx k hkN
      have q1 := hc k hkN
      have q2 := hc.endSmall k (by omega)
      have q3 := hc.pos k (by omega)
      have q4 := hc.most k (by omega)
      have hs1 : endC c (k + 1) = 2 * endC c k + c k := rfl
      have hs2 : cnt c (k + 1) = cnt c k + c k := rfl
      have hm16 := hc.mono (k + 1) 16 (by omega) (Nat.le_refl _)
      have HAT : Hid (∀ m : Nat, (m : Int) < c k → ∃ p : Nat, (p : Int) = cnt c k + m ∧ p < (cnt c 16).toNat ∧ lenP c p = k + 1 ∧ numP c p = 2 * endC c k + m) := fun m hm => by
        have := hc.at k hkN m ⟨by omega, hm⟩ (cnt c k + m).toNat (by omega)
        exact ⟨(cnt c k + m).toNat, by omega, by omega, this.1, this.2⟩
      obtain ⟨x, hxk⟩ : ∃ x, c k = x := ⟨_, rfl⟩
      obtain ⟨E, hE⟩ : ∃ x, endC c k = x := ⟨_, rfl⟩
      obtain ⟨N, hN⟩ : ∃ x, cnt c k = x := ⟨_, rfl⟩
      rw [hxk] at hx hs1 hs2 HAT q1
      rw [hE] at hs1 HAT q2 ⊢
      rw [hN] at hs2 HAT q3 q4 hj ⊢
      have HS : Hid _ := And.intro hs1 hs2
      clear hs1 hs2 hxk hE hN hIx
      gi_wp2
      gi_loopw [3, 4, 13] (fun p v i wr => ∃ (m : Nat), (m : Int) ≤ x ∧ i = .int .i64 m ∧ p = .int .i64 (N + m) ∧ v = .int .i64 (2 * E + m) ∧ W0.heap.size ≤ wr.heap.size ∧ J (N + m).toNat wr) (fun _ _ i _ => (x - intOf i).toNat)
      case atStart => exact ⟨0, by omega, by simp, by simp, by simp, hz, by simpa using hj⟩
      case round =>
        clear hj hz
        obtain ⟨m, hm, rfl, rfl, rfl, hz, hj⟩ := hrel
        by_cases hlm : (m : Int) < x
        · obtain ⟨p, p1, p2, p3, p4⟩ := HAT.out m hlm
          rw [← p1, Int.toNat_natCast] at hj
          obtain ⟨fn, tmps, assign, body, hy, hR⟩ := HY p _ p2 hz hj
          rw [← p1, ← p4]
          have hk1 : ((lenP c p : Nat) : Int) = (k : Int) + 1 := by rw [p3]; simp
          have hr1 : numP c p + 1 = 2 * E + ((m + 1 : Nat) : Int) := by rw [p4]; push_cast; omega
          have hb0 : 0 ≤ numP c p ∧ numP c p ≤ 50000000 := by rw [p4]; omega
          have hbp : (p : Int) ≤ 5000 := by omega
          unfold codeA at hy
          rw [hk1] at hy
          have HP : Hid _ := And.intro p1 hr1
          clear p1 p2 p3 p4 hj hr1
          gi_wp2
          refine hR.mono ?_
          rintro e W4 ⟨hbW, (⟨rfl, j4⟩ | ⟨rfl, d4⟩)⟩
          · have hz4 : W0.heap.size ≤ W4.heap.size := Nat.le_trans hz hbW.size
            clear hy hR hbW
            gi_wp2
            go_roundw
            case rel => exact ⟨m + 1, by omega, by go_num, by rw [HP.out.1]; go_num, by rw [HP.out.2], hz4, by have := HP.out.1; rw [show (N + ((m + 1 : Nat) : Int)).toNat = p + 1 by omega]; exact j4⟩
            case measure => simp [intOf]; omega
          · clear hy hR
            gi_wp2
            try simp only [Exit.inBlock, Exit.then]
            exact bodyPost_ret (results_none rfl _ _ _) rfl ⟨⟨_, rfl⟩, .inr d4⟩
        · obtain rfl : (m : Int) = x := by omega
          gi_wp2
          go_roundw
          case rel => exact ⟨k + 1, by omega, by go_num, by rw [HS.out.2], by rw [HS.out.1]; go_num, hz, by rw [HS.out.2]; exact hj⟩
          case measure => simp [intOf]; omega
    · obtain rfl : k = 16 := by omega
      gi_wp2
      go_end0
      exact ⟨⟨_, rfl⟩, .inl hj⟩

end Go.Proofs.Ytlpeplihbdcklaa

/- What the program's Check asks: how many values there are, and that none comes twice. -/
namespace Go.Proofs.Ytlpeplihbdcklaa
set_option linter.unusedVariables false
open Go.ChangeShapes Go.WideShapes Go.ChangeAt Go.RowKit

/-- 256 yes and no. -/
def flags (g : Nat → Bool) : List Value := (List.range 256).map fun j => .bool (g j)
theorem flags_length (g : Nat → Bool) : (flags g).length = 256 := by simp [flags]
theorem flags_at (g : Nat → Bool) (j : Nat) (h : j < 256) : (flags g)[j]? = some (.bool (g j)) := by simp [flags, h]
theorem flags_set (g : Nat → Bool) (v : Nat) (b : Bool) : (flags g).set v (.bool b) = flags (fun j => if j = v then b else g j) := by
  apply List.ext_getElem?
  intro j
  rw [List.getElem?_set]
  by_cases hj : j < 256
  · rw [flags_at _ _ hj, flags_length]
    by_cases e : v = j
    · subst e; rw [flags_at _ _ hj]; simp [hj]
    · rw [if_neg e, flags_at _ _ hj, if_neg (Ne.symm e)]
  · rw [flags_length, List.getElem?_eq_none (by rw [flags_length]; omega), List.getElem?_eq_none (by rw [flags_length]; omega)]
    split <;> (try split) <;> (try rfl) <;> omega
theorem flags_congr (g h : Nat → Bool) (e : ∀ j, j < 256 → g j = h j) : flags g = flags h := by
  unfold flags
  apply List.map_congr_left
  intro j hj
  rw [e j (by simpa using hj)]

set_option maxRecDepth 100000 in
theorem zeroFlags : ∀ (W : World), (zeroValue 75).run Try.prog W = .ok (.agg (flags (fun _ => false)).toArray) W :=
  (zero_of_info (n := 256) (by kernel_rfl)).1

/-- Counts that may be, and as many values. -/
def cntB (c : Nat → Int) (l : List Int) : Bool := (List.range 16).all (fun i => decide (0 ≤ c i ∧ c i ≤ 255)) && (decide (cnt c 16 = l.length) && decide (l.length ≤ 256))
theorem cntB_iff (c : Nat → Int) (l : List Int) : cntB c l = true ↔ Cnt c ∧ cnt c 16 = l.length ∧ l.length ≤ 256 := by
  unfold cntB Cnt
  simp only [Bool.and_eq_true, List.all_eq_true, List.mem_range, decide_eq_true_eq]
theorem cntB_yes {c : Nat → Int} {l : List Int} (h : Cnt c ∧ cnt c 16 = l.length ∧ l.length ≤ 256) : true = cntB c l := ((cntB_iff c l).2 h).symm
theorem cntB_no {c : Nat → Int} {l : List Int} (h : ¬ (Cnt c ∧ cnt c 16 = l.length ∧ l.length ≤ 256)) : false = cntB c l := by
  cases e : cntB c l
  · rfl
  · exact absurd ((cntB_iff c l).1 e) h

set_option maxHeartbeats 1600000 in
set_option maxRecDepth 100000 in
theorem isCounted_any (c : Nat → Int) (pv : Value) (l : List Int) (hI : ∀ j, j < 16 → I64 (c j)) (w : World) (hv : View w .u8 pv l) (hl : l.length ≤ 140737488355328) : Calls Try.prog 28 #[.agg (tbl c pv).toArray] w fun e w' => e = .returned (.bool (cntB c l)) ∧ But Nowhere w w' := by
  obtain ⟨ao, cap, rfl⟩ := hv.slice
  clear hv
  have hu := Try.underlying28
  have hi16 : (Try.prog.info? 28).map (·.size) = some (tab .i64 16 c).length := by rw [tab_length]; kernel_rfl
  have hIx := fun k hk V => index_sixteen c k hk V
  have kk := (Keep.start w).made 30 (tbl c (.slice ao l.length cap))
  go_enter Try.func28, Try.ntmps28
  have hR := tbl_range kk.head
  go_wp2_with (refine wpList_load_mid rfl 28 (.tmp 6) rfl (w.heap.size) 0 rfl (tab .i64 16 c) _ ?_ hu rfl hi16 ?_; exact hR)
  clear hR hu hi16
  revert kk
  generalize w.alloc (.cells (tbl c (.slice ao l.length cap)).toArray 30) = W1
  intro kk
  go_loopw [3, 8] (fun s i V => ∃ k : Nat, k ≤ 16 ∧ i = .int .i64 k ∧ s = .int .i64 (cnt c k) ∧ (∀ j, j < k → 0 ≤ c j ∧ c j ≤ 255) ∧ -100000 ≤ cnt c k ∧ cnt c k ≤ 255 * k ∧ Keep w V [(w.heap.size, 30, tbl c (.slice ao l.length cap))]) (fun _ i _ => 16 - (intOf i).toNat)
  case atStart => exact ⟨0, Nat.zero_le _, rfl, rfl, fun i hi => by omega, by show (-100000 : Int) ≤ 0; omega, by show (0 : Int) ≤ _; omega, kk⟩
  case round =>
    clear kk
    obtain ⟨k, hk, rfl, rfl, hc, hlo, hhi, kk⟩ := hrel
    have HC : Hid (∀ j, j < k → 0 ≤ c j ∧ c j ≤ 255) := hc
    clear hc
    by_cases hlt : (k : Int) < 16
    · have hkN : k < 16 := by omega
      have hx := hIx k hkN
      have hIk := hI k hkN
      have hs2 : cnt c (k + 1) = cnt c k + c k := rfl
      obtain ⟨x, hxk⟩ : ∃ x, c k = x := ⟨_, rfl⟩
      rw [hxk] at hx hs2 hIk
      have HX : Hid (c k = x) := hxk
      clear hIx hxk
      by_cases a : x < 0
      · have HB : Hid _ := kk.but
        clear kk
        go_wp2_with fail
        go_ret
        rw [← cntB_no (fun h => by have := (h.1 k hkN).1; rw [HX.out] at this; omega)]
        exact ⟨rfl, HB.out⟩
      · by_cases b : 255 < x
        · have HB : Hid _ := kk.but
          clear kk
          go_wp2_with fail
          go_ret
          rw [← cntB_no (fun h => by have := (h.1 k hkN).2; rw [HX.out] at this; omega)]
          exact ⟨rfl, HB.out⟩
        · have HS : Hid _ := hs2
          clear hs2
          obtain ⟨N, hN⟩ : ∃ N, cnt c k = N := ⟨_, rfl⟩
          rw [hN] at HS hlo hhi ⊢
          clear hN
          have hN2 : N ≤ 5000 := by omega
          go_wp2_with fail
          go_roundw
          case rel => exact ⟨k + 1, by omega, by go_num, by rw [HS.out], fun j hj => by
              by_cases e : j = k
              · subst e; rw [HX.out]; omega
              · exact HC.out j (by omega), by rw [HS.out]; omega, by rw [HS.out]; omega, kk⟩
          case measure => simp [intOf]; omega
    · obtain rfl : k = 16 := by omega
      have c16 := kk.head.vals
      have HB : Hid _ := kk.but
      obtain ⟨N, hN⟩ : ∃ N, cnt c 16 = N := ⟨_, rfl⟩
      rw [hN] at hlo hhi ⊢
      have HN : Hid (cnt c 16 = N) := hN
      clear kk hIx hN
      by_cases a : N = (l.length : Int)
      · subst a
        by_cases b : (l.length : Int) ≤ 256
        · go_wp2_with fail
          go_ret
          rw [← cntB_yes ⟨HC.out, HN.out, by omega⟩]
          exact ⟨rfl, HB.out⟩
        · go_wp2_with fail
          go_ret
          rw [← cntB_no (fun h => by omega)]
          exact ⟨rfl, HB.out⟩
      · go_wp2_with fail
        go_ret
        rw [← cntB_no (fun h => absurd (HN.out.symm.trans h.2.1) a)]
        exact ⟨rfl, HB.out⟩

set_option maxHeartbeats 3200000 in
set_option maxRecDepth 100000 in
theorem isOnce_any (pv : Value) (l : List Int) (w : World) (hv : View w .u8 pv l) (hx : ∀ x ∈ l, 0 ≤ x ∧ x ≤ 255) (hl : l.length ≤ 140737488355328) : Calls Try.prog 29 #[pv] w fun e w' => e = .returned (.bool (decide l.Nodup)) ∧ But Nowhere w w' := by
  have HV : Hid (View w .u8 pv l) := hv
  obtain ⟨ao, cap, rfl⟩ := hv.slice
  clear hv
  have hz := zeroFlags
  have kk := (Keep.start w).made 75 (flags (fun _ => false))
  go_enter Try.func29, Try.ntmps29
  go_wp2_with fail
  clear hz
  revert kk
  generalize w.alloc (.cells (flags (fun _ => false)).toArray 75) = W1
  intro kk
  rw [show flags (fun _ => false) = flags (fun v => decide ((v : Int) ∈ l.take 0)) from flags_congr _ _ (fun j _ => by simp)] at kk
  go_loopw [8] (fun i V => ∃ k : Nat, k ≤ l.length ∧ i = .int .i64 k ∧ (l.take k).Nodup ∧ Keep w V [(w.heap.size, 75, flags (fun v => decide ((v : Int) ∈ l.take k)))]) (fun i _ => l.length - (intOf i).toNat)
  case atStart => exact ⟨0, Nat.zero_le _, rfl, by simp, kk⟩
  case round =>
    clear kk
    obtain ⟨k, hk, rfl, hnd, kk⟩ := hrel
    by_cases hlt : (k : Int) < (l.length : Int)
    · have hkN : k < l.length := by omega
      have hVc := HV.out.but kk.but
      obtain ⟨-, vb, off, hao, -, e1⟩ := hVc.at k hkN
      clear hVc
      obtain ⟨x, hxe⟩ : ∃ x : Nat, l[k] = (x : Int) := ⟨(l[k]).toNat, by have := hx _ (List.getElem_mem hkN); omega⟩
      have hx255 : x < 256 := by have := hx _ (List.getElem_mem hkN); omega
      rw [hxe] at e1
      have hcell := (kk.head.at x).trans (flags_at _ x hx255)
      have htk : l.take (k + 1) = l.take k ++ [(x : Int)] := by rw [List.take_succ_eq_append_getElem hkN, hxe]
      have hxI : (x : Int) < 256 := by omega
      by_cases hm : (x : Int) ∈ l.take k
      · have hno : ¬ l.Nodup := fun h => by
          have := h.sublist (List.take_sublist (k + 1) l)
          rw [htk] at this
          exact (List.nodup_append.1 this).2.2 _ hm _ (by simp) rfl
        rw [decide_eq_true hm] at hcell
        have HB : Hid _ := And.intro hno kk.but
        clear kk hnd hm hno htk hxe hx
        subst hao
        go_wp2_with fail
        go_ret
        rw [decide_eq_false HB.out.1]
        exact ⟨rfl, HB.out.2⟩
      · rw [decide_eq_false hm] at hcell
        have hfr := kk.head.frozen x
        have k2 := kk.set x (.bool true)
        rw [flags_set] at k2
        have HB : Hid (Keep w _ _ ∧ (l.take (k + 1)).Nodup) := ⟨k2, by
          rw [htk, List.nodup_append]
          exact ⟨hnd, by simp, fun a ha b hb e => by simp at hb; subst hb; subst e; exact hm ha⟩⟩
        have HE : Hid (flags (fun j => if j = x then true else decide ((j : Int) ∈ l.take k)) = flags (fun v => decide ((v : Int) ∈ l.take (k + 1)))) := by
          refine flags_congr _ _ (fun j _ => ?_)
          rw [htk]
          by_cases e : j = x
          · subst e; simp
          · rw [if_neg e]
            have : ¬ (j : Int) = (x : Int) := by omega
            simp [this]
        clear kk k2 hnd hm htk hxe hx
        subst hao
        go_wp2_with fail
        go_roundw
        case rel => exact ⟨k + 1, by omega, by go_num, HB.out.2, by rw [← HE.out]; exact HB.out.1⟩
        case measure => simp [intOf]; omega
    · obtain rfl : k = l.length := by omega
      rw [List.take_length] at hnd
      have HB : Hid _ := And.intro hnd kk.but
      clear kk hnd
      go_wp2_with fail
      go_ret
      rw [decide_eq_true HB.out.1]
      exact ⟨rfl, HB.out.2⟩

end Go.Proofs.Ytlpeplihbdcklaa
