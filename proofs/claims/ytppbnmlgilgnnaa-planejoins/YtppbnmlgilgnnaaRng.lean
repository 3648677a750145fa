/- A range over any function that yields so many times and keeps old memory: outermost, or in a round of another. No program. -/
import Derived.RangeFuncNested
import Derived.RangeFuncLeaves
import Derived.TacticsIn
import Derived.Test.YtppbnmlgilgnnaaRound
import Derived.Test.YtppbnmlgilgnnaaKeep
namespace Go.Proofs.Ytppbnmlgilgnnaa
open Go.RowKit

theorem size_of_heap {w : World} {k : Nat} {x : Obj} (h : w.heap[k]? = some x) : k < w.heap.size := (Array.getElem?_eq_some_iff.1 h).1

/-- Function gf, with what it has caught, yields N times, the i-th time args i, while I holds. -/
def Iter (P : Program) (gf : Nat) (lb : Array Value) (N : Nat) (args : Nat → Array Value) (I : World → Prop) : Prop :=
  ∀ (n lo : Nat) (W : World) (J : Nat → World → Prop), (∀ i W W', J i W → But Nowhere W W' → J i W') → (∀ i W, J i W → I W) →
    (∀ i W, i < N → J i W → YieldAt Fence.wide (n - 1) P lo (args i) W fun e W' => e = .returned (.bool true) ∧ J (i + 1) W') → J 0 W →
    CallsIn Fence.wide n P gf (#[.func (.yield lo) #[] #[]] ++ lb) W fun e W' => (∃ v, e = .returned v) ∧ J N W'

section
variable {P : Program} {gf : Nat} {lb : Array Value} {N : Nat} {args : Nat → Array Value} {I : World → Prop}

set_option maxHeartbeats 1600000 in
/-- Such a range in a round of l₀. T: the blocks that its rounds may turn; J: what they hold. -/
theorem range_in {T : Nat → Prop} {w : World} {n l₀ : Nat} {r₀ : Loop} {gop : Operand} {ps : Array Tmp} {assign body : Code} {Q : Exit → Act → World → Prop} {a : Act} (J : Nat → World → Prop) (hI : Iter P gf lb N args I)
    (hl₀ : w.heap[l₀]? = some (.loop r₀))
    (hg : a.eval gop = .func (.func gf) #[] lb) (eg : ∀ args w, (callFunc gf args).run P w = .ok (.enter gf args) w) (hps : ∀ i, (args i).size = ps.size)
    (hIT : ∀ W, But T w W → I W) (hT : ∀ k, T k → k < w.heap.size)
    (hJ : ∀ i W W', J i W → (∀ k, T k → W'.heap[k]? = W.heap[k]?) → J i W') (hJ0 : J 0 w)
    (hround : ∀ lo i W K, w.heap.size = lo → lo < W.heap.size → i < N → But T w W → J i W →
      (∀ a' W', But Nowhere W W' → (∀ U, But (fun k => k = lo) W' U → (∃ r', U.heap[lo]? = some (.loop r')) → But T w U → J i U →
          body.wpIn (Fence.wide.inRound lo) (n - 1 - 1) P (fun e _ W3 => e = .normal ∧ But T U W3 ∧ J (i + 1) W3) a' U) → K a' W') →
      assign.wpIn (Fence.wide.inRound lo) (n - 1 - 1) P (Exit.then K (fun _ _ _ => False)) { tmps := (ps.zip (args i)).foldl (fun t (p, v) => t.setIfInBounds p v) a.tmps, defers := [] } W)
    (hdone : ∀ W', But T w W' → J N W' → Q .normal a W') :
    (Code.rangeFunc gop ps assign body).wpIn (Fence.wide.inRound l₀) n P Q a w := by
  refine range_inner hl₀ hg eg ?_
  intro r hs hp ht hpa has hbo
  subst hpa has hbo
  rw [← ht] at hround
  have e0 : But Nowhere w (w.alloc (.loop r)) := (But.refl _ _).alloc _
  have hz : (w.alloc (.loop r)).heap.size = w.heap.size + 1 := by simp
  have hL0 : (w.alloc (.loop r)).heap[w.heap.size]? = some (.loop r) := heap_alloc_new w _
  revert e0 hz hL0
  generalize w.alloc (.loop r) = w0
  intro e0 hz hL0
  refine (hI _ _ _ (fun i W => J i W ∧ W.heap[w.heap.size]? = some (.loop r) ∧ But T w W) ?_ ?_ ?_
    ⟨hJ 0 _ _ hJ0 (fun k hk => e0.block k (hT k hk) (not_nowhere _)), hL0, e0.mono (fun _ _ f => f.elim)⟩).mono ?_
  · rintro i W W' ⟨hj, hl, hb⟩ hb2
    have := hb.size
    exact ⟨hJ i _ _ hj (fun k hk => hb2.block k (by have := hT k hk; omega) (not_nowhere _)), (hb2.block _ (size_of_heap hl) (not_nowhere _)).trans hl, hb.step hb2 (fun _ _ f => f.elim)⟩
  · rintro i W ⟨hj, hl, hb⟩
    exact hIT W hb
  · rintro i W hi ⟨hj, hl, hb⟩
    refine yield_round hl hs hp (hps i) ?_
    refine hround _ i W _ rfl (size_of_heap hl) hi hb hj ?_
    intro a' W' hb1 hbody
    have hl' : W'.heap[w.heap.size]? = some (.loop r) := (hb1.block _ (size_of_heap hl) (not_nowhere _)).trans hl
    refine ⟨hl', ?_⟩
    have bU : But (fun k => k = w.heap.size) W' (W'.putObj w.heap.size (.loop { r with state := .busy })) := But.putObj (S := fun k => k = w.heap.size) (But.refl _ _) (fun _ => rfl) _
    have bWU : But (fun k => k = w.heap.size) W (W'.putObj w.heap.size (.loop { r with state := .busy })) := (hb1.mono (fun _ _ f => f.elim)).step bU (fun _ _ f => f)
    have bwU : But T w (W'.putObj w.heap.size (.loop { r with state := .busy })) := hb.step bWU (fun k hk q => by omega)
    have hlU : (W'.putObj w.heap.size (.loop { r with state := .busy })).heap[w.heap.size]? = some (.loop { r with state := .busy }) := World.putObj_heap_same (size_of_heap hl')
    refine wpIn_mono (hbody _ bU ⟨_, hlU⟩ bwU (hJ i _ _ hj (fun k hk => bWU.block k (by have := hT k hk; have := hb.size; omega) (fun q => by have := hT k hk; omega)))) ?_
    rintro e _ W3 ⟨rfl, h3, j3⟩
    have hl3 : W3.heap[w.heap.size]? = some (.loop { r with state := .busy }) := (h3.block _ (size_of_heap hlU) (fun f => by have := hT _ f; omega)).trans hlU
    refine ⟨rfl, hl3, ?_⟩
    have b3 : But (fun k => k = w.heap.size) W3 (W3.putObj w.heap.size (.loop r)) := But.putObj (S := fun k => k = w.heap.size) (But.refl _ _) (fun _ => rfl) _
    exact ⟨hJ _ _ _ j3 (fun k hk => World.putObj_heap_other (fun q => by have := hT k hk; omega)), World.putObj_heap_same (size_of_heap hl3), (bwU.trans h3).step b3 (fun k hk q => by omega)⟩
  · rintro e W' ⟨he, hj, hl, hb⟩
    refine ⟨he, hl, hdone _ ?_ (hJ _ _ _ hj (fun k hk => World.putObj_heap_other (fun q => by have := hT k hk; omega)))⟩
    exact hb.step (But.putObj (S := fun k => k = w.heap.size) (But.refl _ _) (fun _ => rfl) _) (fun k hk q => by omega)

set_option maxHeartbeats 1600000 in
/-- Such a range, outermost. -/
theorem range_out {T : Nat → Prop} {w : World} {n : Nat} {gop : Operand} {ps : Array Tmp} {assign body : Code} {Q : Exit → Act → World → Prop} {a : Act} (J : Nat → World → Prop) (hI : Iter P gf lb N args I)
    (hg : a.eval gop = .func (.func gf) #[] lb) (eg : ∀ args w, (callFunc gf args).run P w = .ok (.enter gf args) w) (hps : ∀ i, (args i).size = ps.size)
    (hIT : ∀ W, But T w W → I W) (hT : ∀ k, T k → k < w.heap.size)
    (hJ : ∀ i W W', J i W → (∀ k, T k → W'.heap[k]? = W.heap[k]?) → J i W') (hJ0 : J 0 w)
    (hround : ∀ lo i W K, w.heap.size + 1 = lo → lo < W.heap.size → i < N → But T w W → J i W →
      (∀ a' W', But Nowhere W W' → (∀ U, But (fun k => k = lo) W' U → (∃ r', U.heap[lo]? = some (.loop r')) → But T w U → J i U →
          body.wpIn (Fence.wide.inRound lo) (n - 1 - 1) P (fun e _ W3 => e = .normal ∧ But T U W3 ∧ J (i + 1) W3) a' U) → K a' W') →
      assign.wpIn (Fence.wide.inRound lo) (n - 1 - 1) P (Exit.then K (fun _ _ _ => False)) { tmps := (ps.zip (args i)).foldl (fun t (p, v) => t.setIfInBounds p v) a.tmps, defers := [] } W)
    (hdone : ∀ W', But T w W' → J N W' → W'.heap[w.heap.size]? = some (.deferred (some [])) → w.heap.size < W'.heap.size → Q .normal { a with defers := { target := .collected w.heap.size, args := #[] } :: a.defers } W') :
    (Code.rangeFunc gop ps assign body).wpIn Fence.wide n P Q a w := by
  refine range_outer hg eg ?_
  intro r hs hp ht hpa has hbo
  subst hpa has hbo
  rw [← ht] at hround
  have e0 : But Nowhere w ((w.alloc (.deferred (some []))).alloc (.loop r)) := ((But.refl _ _).alloc _).alloc _
  have hz : ((w.alloc (.deferred (some []))).alloc (.loop r)).heap.size = w.heap.size + 2 := by simp
  have hD0 : ((w.alloc (.deferred (some []))).alloc (.loop r)).heap[w.heap.size]? = some (.deferred (some [])) := by rw [Below.heap_alloc _ _ _ (by simp)]; exact heap_alloc_new w _
  have hL0 : ((w.alloc (.deferred (some []))).alloc (.loop r)).heap[w.heap.size + 1]? = some (.loop r) := by
    have := heap_alloc_new (w.alloc (.deferred (some []))) (.loop r)
    rwa [World.size_alloc] at this
  revert e0 hz hD0 hL0
  generalize (w.alloc (.deferred (some []))).alloc (.loop r) = w0
  intro e0 hz hD0 hL0
  refine (hI _ _ _ (fun i W => J i W ∧ W.heap[w.heap.size + 1]? = some (.loop r) ∧ But T w W ∧ W.heap[w.heap.size]? = some (.deferred (some []))) ?_ ?_ ?_
    ⟨hJ 0 _ _ hJ0 (fun k hk => e0.block k (hT k hk) (not_nowhere _)), hL0, e0.mono (fun _ _ f => f.elim), hD0⟩).mono ?_
  · rintro i W W' ⟨hj, hl, hb, hd⟩ hb2
    have := hb.size
    exact ⟨hJ i _ _ hj (fun k hk => hb2.block k (by have := hT k hk; omega) (not_nowhere _)), (hb2.block _ (size_of_heap hl) (not_nowhere _)).trans hl, hb.step hb2 (fun _ _ f => f.elim), (hb2.block _ (size_of_heap hd) (not_nowhere _)).trans hd⟩
  · rintro i W ⟨hj, hl, hb, hd⟩
    exact hIT W hb
  · rintro i W hi ⟨hj, hl, hb, hd⟩
    refine yield_round hl hs hp (hps i) ?_
    refine hround _ i W _ rfl (size_of_heap hl) hi hb hj ?_
    intro a' W' hb1 hbody
    have hl' : W'.heap[w.heap.size + 1]? = some (.loop r) := (hb1.block _ (size_of_heap hl) (not_nowhere _)).trans hl
    refine ⟨hl', ?_⟩
    have bU : But (fun k => k = w.heap.size + 1) W' (W'.putObj (w.heap.size + 1) (.loop { r with state := .busy })) := But.putObj (S := fun k => k = w.heap.size + 1) (But.refl _ _) (fun _ => rfl) _
    have bWU : But (fun k => k = w.heap.size + 1) W (W'.putObj (w.heap.size + 1) (.loop { r with state := .busy })) := (hb1.mono (fun _ _ f => f.elim)).step bU (fun _ _ f => f)
    have bwU : But T w (W'.putObj (w.heap.size + 1) (.loop { r with state := .busy })) := hb.step bWU (fun k hk q => by omega)
    have hlU : (W'.putObj (w.heap.size + 1) (.loop { r with state := .busy })).heap[w.heap.size + 1]? = some (.loop { r with state := .busy }) := World.putObj_heap_same (size_of_heap hl')
    have hdU : (W'.putObj (w.heap.size + 1) (.loop { r with state := .busy })).heap[w.heap.size]? = some (.deferred (some [])) := (bWU.block _ (size_of_heap hd) (fun q => by omega)).trans hd
    refine wpIn_mono (hbody _ bU ⟨_, hlU⟩ bwU (hJ i _ _ hj (fun k hk => bWU.block k (by have := hT k hk; have := hb.size; omega) (fun q => by have := hT k hk; omega)))) ?_
    rintro e _ W3 ⟨rfl, h3, j3⟩
    have hl3 : W3.heap[w.heap.size + 1]? = some (.loop { r with state := .busy }) := (h3.block _ (size_of_heap hlU) (fun f => by have := hT _ f; omega)).trans hlU
    have hd3 : W3.heap[w.heap.size]? = some (.deferred (some [])) := (h3.block _ (size_of_heap hdU) (fun f => by have := hT _ f; omega)).trans hdU
    refine ⟨rfl, hl3, ?_⟩
    have b3 : But (fun k => k = w.heap.size + 1) W3 (W3.putObj (w.heap.size + 1) (.loop r)) := But.putObj (S := fun k => k = w.heap.size + 1) (But.refl _ _) (fun _ => rfl) _
    exact ⟨hJ _ _ _ j3 (fun k hk => World.putObj_heap_other (fun q => by have := hT k hk; omega)), World.putObj_heap_same (size_of_heap hl3), (bwU.trans h3).step b3 (fun k hk q => by omega), (b3.block _ (size_of_heap hd3) (fun q => by omega)).trans hd3⟩
  · rintro e W' ⟨he, hj, hl, hb, hd⟩
    have b3 : But (fun k => k = w.heap.size + 1) W' (W'.putObj (w.heap.size + 1) (.loop { r with state := .exhausted })) := But.putObj (S := fun k => k = w.heap.size + 1) (But.refl _ _) (fun _ => rfl) _
    refine ⟨he, hl, hdone _ (hb.step b3 (fun k hk q => by omega)) (hJ _ _ _ hj (fun k hk => World.putObj_heap_other (fun q => by have := hT k hk; omega))) ((b3.block _ (size_of_heap hd) (fun q => by omega)).trans hd) ?_⟩
    have := b3.size
    have := size_of_heap hd
    omega
end

end Go.Proofs.Ytppbnmlgilgnnaa
