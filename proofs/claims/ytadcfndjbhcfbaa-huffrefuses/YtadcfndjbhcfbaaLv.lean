/- A range over a function whose rounds may leave early by a return: what one call of yield does, what the statement does, over any iterator. No program. -/
import Derived.RangeFuncNested
import Derived.RangeFuncLeaves
import Derived.TacticsIn
import Derived.Test.YtadcfndjbhcfbaaRound
import Derived.Test.YtadcfndjbhcfbaaKeep
namespace Go.Proofs.Ytadcfndjbhcfbaa
open Go.RowKit

theorem heap_lt {w : World} {k : Nat} {x : Obj} (h : w.heap[k]? = some x) : k < w.heap.size := (Array.getElem?_eq_some_iff.1 h).1

/-- Function gf, with what it has caught, yields N times, the i-th time args i, while I holds; it ends where a round says so. Its rounds turn nothing that it has made. -/
def IterS (P : Program) (gf : Nat) (lb : Array Value) (N : Nat) (args : Nat → Array Value) (I : World → Prop) : Prop :=
  ∀ (n lo : Nat) (W0 : World) (J : Nat → World → Prop) (D : World → Prop),
    (∀ i W W', J i W → But (fun k => W0.heap.size ≤ k) W W' → J i W') → (∀ W W', D W → But (fun k => W0.heap.size ≤ k) W W' → D W') → (∀ i W, J i W → I W) →
    (∀ i W, i < N → W0.heap.size ≤ W.heap.size → J i W → YieldAt Fence.wide (n - 1) P lo (args i) W fun e W' =>
      But (fun k => k < W0.heap.size) W W' ∧ ((e = .returned (.bool true) ∧ J (i + 1) W') ∨ (e = .returned (.bool false) ∧ D W'))) → J 0 W0 →
    CallsIn Fence.wide n P gf (#[.func (.yield lo) #[] #[]] ++ lb) W0 fun e W' => (∃ v, e = .returned v) ∧ (J N W' ∨ D W')

section
variable {P : Program} {n : Nat}

/-- One call of yield, whose round runs off its end, or returns. -/
theorem yield_leave {l : Nat} {r : Loop} {args : Array Value} {W : World} {R D : World → Prop} (hl : W.heap[l]? = some (.loop r)) (hs : r.state = .ready) (hp : r.pending = none) (hn : args.size = r.params.size)
    (h : r.assign.wpIn (Fence.wide.inRound l) n P (Exit.then (fun a' W' => W'.heap[l]? = some (.loop r) ∧
        r.body.wpIn (Fence.wide.inRound l) n P (fun e _ W3 => W3.heap[l]? = some (.loop { r with state := .busy }) ∧
          ((e = .normal ∧ R (W3.putObj l (.loop r))) ∨ (e = .ret ∧ D (W3.putObj l (.loop { r with state := .done, pending := some .ret }))))) a' (W'.putObj l (.loop { r with state := .busy }))) (fun _ _ _ => False))
      { tmps := (r.params.zip args).foldl (fun t (p, v) => t.setIfInBounds p v) r.tmps, defers := [] } W) :
    YieldAt Fence.wide n P l args W fun e W' => (e = .returned (.bool true) ∧ R W') ∨ (e = .returned (.bool false) ∧ D W') := by
  refine ⟨r.fn, _, r.assign, r.body, run_yield hl hn, roundIn_of_wpIn trivial (wpIn_mono h ?_)⟩
  intro e a' W' hq
  cases e with
  | normal =>
    obtain ⟨hl', hb⟩ := hq
    refine ⟨_, run_beginRound hl' hs, wpIn_mono hb ?_⟩
    rintro e a3 W3 ⟨hl3, (⟨rfl, hR⟩ | ⟨rfl, hD⟩)⟩
    · refine ⟨_, _, run_endRound (P := P) none hl3, .inl ⟨rfl, ?_⟩⟩
      have e : ({ { r with state := LoopState.busy } with state := if (none : Option Code).isNone then .ready else .done, pending := none } : Loop) = r := by
        cases r; simp_all
      rw [e]
      exact hR
    · exact ⟨_, _, run_endRound (P := P) (some .ret) hl3, .inr ⟨rfl, hD⟩⟩
  | _ => exact hq

/-- The statement, outermost. -/
theorem range_leave {g : Operand} {ps : Array Tmp} {assign body : Code} {Q : Exit → Act → World → Prop} {a : Act} {w : World} {gf : Nat} {lb : Array Value}
    (hg : a.eval g = .func (.func gf) #[] lb) (eg : ∀ args w, (callFunc gf args).run P w = .ok (.enter gf args) w)
    (h : ∀ r : Loop, r.state = .ready → r.pending = none → r.tmps = a.tmps → r.params = ps → r.assign = assign → r.body = body →
      CallsIn Fence.wide (n - 1) P gf (#[.func (.yield (w.heap.size + 1)) #[] #[]] ++ lb) ((w.alloc (.deferred (some []))).alloc (.loop r)) fun e W' =>
        (∃ v, e = .returned v) ∧ ((W'.heap[w.heap.size + 1]? = some (.loop r) ∧
          Q .normal { a with defers := { target := .collected w.heap.size, args := #[] } :: a.defers } (W'.putObj (w.heap.size + 1) (.loop { r with state := .exhausted }))) ∨
          (W'.heap[w.heap.size + 1]? = some (.loop { r with state := .done, pending := some .ret }) ∧
          Q .ret { a with defers := { target := .collected w.heap.size, args := #[] } :: a.defers } (W'.putObj (w.heap.size + 1) (.loop { r with state := .exhausted, pending := some .ret }))))) :
    (Code.rangeFunc g ps assign body).wpIn Fence.wide n P Q a w := by
  refine wpIn_rangeFunc ?_
  intro fn hfn
  obtain ⟨r, hr⟩ : ∃ r : Loop, r = { state := .ready, pending := none, fn := fn, tmps := a.tmps, params := ps, assign := assign, body := body, defers := w.heap.size } := ⟨_, rfl⟩
  have hen : (Instr.enterLoop fn a.tmps ps assign body none).run P w = .ok (w.heap.size + 1, [{ target := .collected w.heap.size, args := #[] }]) ((w.alloc (.deferred (some []))).alloc (.loop r)) := by rw [hr]; exact run_enterLoop_outer _ _ _ _ _
  refine ⟨w.heap.size + 1, [{ target := .collected w.heap.size, args := #[] }], (w.alloc (.deferred (some []))).alloc (.loop r), { target := .fn (.func gf) lb, args := #[.func (.yield (w.heap.size + 1)) #[] #[]] }, (w.alloc (.deferred (some []))).alloc (.loop r), gf,
    #[.func (.yield (w.heap.size + 1)) #[] #[]] ++ lb, (w.alloc (.deferred (some []))).alloc (.loop r), hen, ?_, fun _ _ => trivial, ?_, fun q => (by cases q), ?_⟩
  · simp only [resolve, hg]
    simp [go_sem]
  · simp [invoke, go_sem, eg]
  · refine (h r (by rw [hr]) (by rw [hr]) (by rw [hr]) (by rw [hr]) (by rw [hr]) (by rw [hr])).mono ?_
    rintro e W' ⟨⟨v, rfl⟩, (⟨hl, hQ⟩ | ⟨hl, hQ⟩)⟩
    · exact ⟨none, _, by have := run_endLoop (P := P) hl (by rw [hr]; simp); rw [this, hr], hQ⟩
    · exact ⟨some .ret, _, by have := run_endLoop (P := P) hl (by simp); rw [this], wpIn_ret hQ⟩

end

section
variable {P : Program} {gf : Nat} {lb : Array Value} {N : Nat} {args : Nat → Array Value} {I : World → Prop}

set_option maxHeartbeats 1600000 in
/-- Such a range, outermost. T: the blocks of old memory that its rounds may turn; J: what they hold after i rounds; D: what they hold where a round has returned. -/
theorem range_till {T : Nat → Prop} {w : World} {n : Nat} {gop : Operand} {ps : Array Tmp} {assign body : Code} {Q : Exit → Act → World → Prop} {a : Act} (J : Nat → World → Prop) (D : World → Prop) (hI : IterS P gf lb N args I)
    (hg : a.eval gop = .func (.func gf) #[] lb) (eg : ∀ args w, (callFunc gf args).run P w = .ok (.enter gf args) w) (hps : ∀ i, (args i).size = ps.size)
    (hIT : ∀ i W, But T w W → J i W → I W) (hT : ∀ k, T k → k < w.heap.size)
    (hJ : ∀ i W W', J i W → But (fun k => w.heap.size ≤ k) W W' → J i W') (hD : ∀ W W', D W → But (fun k => w.heap.size ≤ k) W W' → D W') (hJ0 : J 0 w)
    (hround : ∀ lo i W K, w.heap.size + 1 = lo → lo < W.heap.size → i < N → But T w W → J i W →
      (∀ a' W', But Nowhere W W' → (∀ U, But (fun k => k = lo) W' U → (∃ r', U.heap[lo]? = some (.loop r')) → But T w U → J i U →
          body.wpIn (Fence.wide.inRound lo) (n - 1 - 1) P (fun e _ W3 => But T U W3 ∧ ((e = .normal ∧ J (i + 1) W3) ∨ (e = .ret ∧ D W3))) a' U) → K a' W') →
      assign.wpIn (Fence.wide.inRound lo) (n - 1 - 1) P (Exit.then K (fun _ _ _ => False)) { tmps := (ps.zip (args i)).foldl (fun t (p, v) => t.setIfInBounds p v) a.tmps, defers := [] } W)
    (hdone : ∀ W', But T w W' → J N W' → W'.heap[w.heap.size]? = some (.deferred (some [])) → w.heap.size < W'.heap.size → Q .normal { a with defers := { target := .collected w.heap.size, args := #[] } :: a.defers } W')
    (hstop : ∀ W', But T w W' → D W' → W'.heap[w.heap.size]? = some (.deferred (some [])) → w.heap.size < W'.heap.size → Q .ret { a with defers := { target := .collected w.heap.size, args := #[] } :: a.defers } W') :
    (Code.rangeFunc gop ps assign body).wpIn Fence.wide n P Q a w := by
  refine range_leave hg eg ?_
  intro r hs hp ht hpa has hbo
  subst hpa has hbo
  rw [← ht] at hround
  have e0 : But Nowhere w ((w.alloc (.deferred (some []))).alloc (.loop r)) := ((But.refl _ _).alloc _).alloc _
  have hz : ((w.alloc (.deferred (some []))).alloc (.loop r)).heap.size = w.heap.size + 2 := by simp
  have hD0 : ((w.alloc (.deferred (some []))).alloc (.loop r)).heap[w.heap.size]? = some (.deferred (some [])) := by rw [Below.heap_alloc _ _ _ (by simp)]; exact heap_alloc_new w _
  have hL0 : ((w.alloc (.deferred (some []))).alloc (.loop r)).heap[w.heap.size + 1]? = some (.loop r) := by
    have := heap_alloc_new (w.alloc (.deferred (some []))) (.loop r)
    rwa [World.size_alloc] at this
  revert e0 hz hD0 hL0
  generalize (w.alloc (.deferred (some []))).alloc (.loop r) = w0
  intro e0 hz hD0 hL0
  refine (hI _ _ _ (fun i W => J i W ∧ W.heap[w.heap.size + 1]? = some (.loop r) ∧ But T w W ∧ W.heap[w.heap.size]? = some (.deferred (some [])))
    (fun W => D W ∧ W.heap[w.heap.size + 1]? = some (.loop { r with state := .done, pending := some .ret }) ∧ But T w W ∧ W.heap[w.heap.size]? = some (.deferred (some []))) ?_ ?_ ?_ ?_
    ⟨hJ 0 _ _ hJ0 (e0.mono (fun _ _ f => f.elim)), hL0, e0.mono (fun _ _ f => f.elim), hD0⟩).mono ?_
  · rintro i W W' ⟨hj, hl, hb, hd⟩ hb2
    exact ⟨hJ i _ _ hj (hb2.mono (fun k _ q => by omega)), (hb2.block _ (heap_lt hl) (by omega)).trans hl, hb.step hb2 (fun k hk q => by omega), (hb2.block _ (heap_lt hd) (by omega)).trans hd⟩
  · rintro W W' ⟨hj, hl, hb, hd⟩ hb2
    exact ⟨hD _ _ hj (hb2.mono (fun k _ q => by omega)), (hb2.block _ (heap_lt hl) (by omega)).trans hl, hb.step hb2 (fun k hk q => by omega), (hb2.block _ (heap_lt hd) (by omega)).trans hd⟩
  · rintro i W ⟨hj, hl, hb, hd⟩
    exact hIT i W hb hj
  · rintro i W hi hW ⟨hj, hl, hb, hd⟩
    have key : YieldAt Fence.wide (n - 1 - 1) P (w.heap.size + 1) (args i) W fun e W' => (e = .returned (.bool true) ∧ (But (fun k => k < w0.heap.size) W W' ∧ J (i + 1) W' ∧ W'.heap[w.heap.size + 1]? = some (.loop r) ∧ But T w W' ∧ W'.heap[w.heap.size]? = some (.deferred (some [])))) ∨
        (e = .returned (.bool false) ∧ (But (fun k => k < w0.heap.size) W W' ∧ D W' ∧ W'.heap[w.heap.size + 1]? = some (.loop { r with state := .done, pending := some .ret }) ∧ But T w W' ∧ W'.heap[w.heap.size]? = some (.deferred (some [])))) := by
      refine yield_leave hl hs hp (hps i) ?_
      refine hround _ i W _ rfl (heap_lt hl) hi hb hj ?_
      intro a' W' hb1 hbody
      have hl' : W'.heap[w.heap.size + 1]? = some (.loop r) := (hb1.block _ (heap_lt hl) (not_nowhere _)).trans hl
      refine ⟨hl', ?_⟩
      have bU : But (fun k => k = w.heap.size + 1) W' (W'.putObj (w.heap.size + 1) (.loop { r with state := .busy })) := But.putObj (S := fun k => k = w.heap.size + 1) (But.refl _ _) (fun _ => rfl) _
      have bWU : But (fun k => k = w.heap.size + 1) W (W'.putObj (w.heap.size + 1) (.loop { r with state := .busy })) := (hb1.mono (fun _ _ f => f.elim)).step bU (fun _ _ f => f)
      have bwU : But T w (W'.putObj (w.heap.size + 1) (.loop { r with state := .busy })) := hb.step bWU (fun k hk q => by omega)
      have hlU : (W'.putObj (w.heap.size + 1) (.loop { r with state := .busy })).heap[w.heap.size + 1]? = some (.loop { r with state := .busy }) := World.putObj_heap_same (heap_lt hl')
      have hdU : (W'.putObj (w.heap.size + 1) (.loop { r with state := .busy })).heap[w.heap.size]? = some (.deferred (some [])) := (bWU.block _ (heap_lt hd) (fun q => by omega)).trans hd
      refine wpIn_mono (hbody _ bU ⟨_, hlU⟩ bwU (hJ i _ _ hj (bWU.mono (fun k _ q => by omega)))) ?_
      rintro e _ W3 ⟨h3, j3⟩
      have hl3 : W3.heap[w.heap.size + 1]? = some (.loop { r with state := .busy }) := (h3.block _ (heap_lt hlU) (fun f => by have := hT _ f; omega)).trans hlU
      have hd3 : W3.heap[w.heap.size]? = some (.deferred (some [])) := (h3.block _ (heap_lt hdU) (fun f => by have := hT _ f; omega)).trans hdU
      have fin : ∀ x, But (fun k => k = w.heap.size + 1) W3 (W3.putObj (w.heap.size + 1) x) ∧ But (fun k => k < w0.heap.size) W (W3.putObj (w.heap.size + 1) x) ∧ (W3.putObj (w.heap.size + 1) x).heap[w.heap.size + 1]? = some x ∧ But T w (W3.putObj (w.heap.size + 1) x) ∧ (W3.putObj (w.heap.size + 1) x).heap[w.heap.size]? = some (.deferred (some [])) := fun x => by
        have b3 : But (fun k => k = w.heap.size + 1) W3 (W3.putObj (w.heap.size + 1) x) := But.putObj (S := fun k => k = w.heap.size + 1) (But.refl _ _) (fun _ => rfl) _
        refine ⟨b3, ?_, World.putObj_heap_same (heap_lt hl3), (bwU.trans h3).step b3 (fun k hk q => by omega), (b3.block _ (heap_lt hd3) (fun q => by omega)).trans hd3⟩
        exact ((bWU.mono (T := fun k => k < w0.heap.size) (fun k _ q => by omega)).step h3 (fun k _ q => by have := hT _ q; omega)).step b3 (fun k _ q => by omega)
      refine ⟨hl3, ?_⟩
      rcases j3 with ⟨rfl, j3⟩ | ⟨rfl, j3⟩
      · obtain ⟨b3, f1, f2, f3, f4⟩ := fin (.loop r)
        exact .inl ⟨rfl, f1, hJ _ _ _ j3 (b3.mono (fun k _ q => by omega)), f2, f3, f4⟩
      · obtain ⟨b3, f1, f2, f3, f4⟩ := fin (.loop { r with state := .done, pending := some .ret })
        exact .inr ⟨rfl, f1, hD _ _ j3 (b3.mono (fun k _ q => by omega)), f2, f3, f4⟩
    obtain ⟨fn, tmps, assign, body, hy, hR⟩ := key
    refine ⟨fn, tmps, assign, body, hy, hR.mono ?_⟩
    rintro e W' (⟨rfl, h1, h2⟩ | ⟨rfl, h1, h2⟩)
    · exact ⟨h1, .inl ⟨rfl, h2⟩⟩
    · exact ⟨h1, .inr ⟨rfl, h2⟩⟩
  · have fin : ∀ (W' : World) x, But T w W' → W'.heap[w.heap.size + 1]? = some x → W'.heap[w.heap.size]? = some (.deferred (some [])) → ∀ y, But (fun k => w.heap.size ≤ k) W' (W'.putObj (w.heap.size + 1) y) ∧ But T w (W'.putObj (w.heap.size + 1) y) ∧ (W'.putObj (w.heap.size + 1) y).heap[w.heap.size]? = some (.deferred (some [])) ∧ w.heap.size < (W'.putObj (w.heap.size + 1) y).heap.size := fun W' x hb hl hd y => by
      have b3 : But (fun k => k = w.heap.size + 1) W' (W'.putObj (w.heap.size + 1) y) := But.putObj (S := fun k => k = w.heap.size + 1) (But.refl _ _) (fun _ => rfl) _
      have := b3.size
      have := heap_lt hd
      exact ⟨b3.mono (fun k _ q => by omega), hb.step b3 (fun k hk q => by omega), (b3.block _ (heap_lt hd) (fun q => by omega)).trans hd, by omega⟩
    rintro e W' ⟨he, (⟨hj, hl, hb, hd⟩ | ⟨hj, hl, hb, hd⟩)⟩
    · obtain ⟨f1, f2, f3, f4⟩ := fin W' _ hb hl hd (.loop { r with state := .exhausted })
      exact ⟨he, .inl ⟨hl, hdone _ f2 (hJ _ _ _ hj f1) f3 f4⟩⟩
    · obtain ⟨f1, f2, f3, f4⟩ := fin W' _ hb hl hd (.loop { r with state := .exhausted, pending := some .ret })
      exact ⟨he, .inr ⟨hl, hstop _ f2 (hD _ _ hj f1) f3 f4⟩⟩
end

end Go.Proofs.Ytadcfndjbhcfbaa
