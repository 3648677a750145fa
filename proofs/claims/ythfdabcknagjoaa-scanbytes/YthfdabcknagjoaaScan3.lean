/- A range over a window, in a function: what its rounds owe, what stands behind it. -/
import Derived.Test.YthfdabcknagjoaaScan2
namespace Go.Proofs.Ythfdabcknagjoaa
open Go.ChangeShapes Go.WideShapes Go.ChangeAt Go.RowKit Go.Shelf

section
variable {T T' : Nat → Prop} {w0 w1 W W' : World} {o : Option Nat} {b g : Nat} {v0 v v' : Value} {es fs : List Ev} {l m : List Int}

/-- Scanned on from a later world. -/
theorem Scn.join (h : Scn T w0 W o b g v0 v es l) (k : Scn T' W W' o b g v v' fs m) (hT : ∀ x, T' x → x < w0.heap.size → T x) : Scn T w0 W' o b g v0 v' fs m :=
  ⟨k.bf, k.rc, k.ob, k.og, h.mv.trans h.but.size k.mv, h.but.step k.but (fun _ hi f => f.elim (fun q => .inl (h.mv.foot_back hi q)) (fun q => .inr (q.imp id (fun q => hT _ q hi)))), h.tb, h.tg, h.tf⟩

theorem Scn.lift (h : Scn T w0 W o b g v0 v es l) : Scn T W W o b g v v es l :=
  .start h.bf h.rc h.ob h.og h.tb h.tg (fun k hk => ⟨Nat.lt_of_lt_of_le (h.tf k hk).1 h.but.size, h.off hk⟩)

theorem Scn.less (h : Scn T w0 W o b g v0 v es l) (hT : ∀ x, T' x → T x) (hB : But (fun k => FootO o v0 k ∨ k = g ∨ T' k) w0 W) : Scn T' w0 W o b g v0 v es l :=
  ⟨h.bf, h.rc, h.ob, h.og, h.mv, hB, fun f => h.tb (hT _ f), fun f => h.tg (hT _ f), fun k hk => h.tf k (hT _ hk)⟩
end

/-- What a round leaves, from U on: blocks from N on are its own. -/
structure Scw (T : Nat → Prop) (N : Nat) (U W : World) (o : Option Nat) (b g : Nat) (v v' : Value) (es : List Ev) (l : List Int) : Prop where
  bf : Bf W b g (ptr o) l
  rc : RcO W o v' es
  mv : v'.ownBlock = v.ownBlock ∨ ∀ x, v'.ownBlock = some x → N ≤ x
  but : But (fun k => FootO o v k ∨ k = g ∨ T k ∨ N ≤ k) U W

theorem Scn.scw {T : Nat → Prop} {U W : World} {o : Option Nat} {b g : Nat} {v v' : Value} {es : List Ev} {l : List Int} {N : Nat} (h : Scn T U W o b g v v' es l) (hN : N ≤ U.heap.size) : Scw T N U W o b g v v' es l :=
  ⟨h.bf, h.rc, h.mv.imp id (fun e x hx => Nat.le_trans hN (e x hx)), h.but.mono (fun _ _ f => f.imp id (fun q => q.imp id .inl))⟩

theorem size_lt_of {w : World} {k : Nat} {x : Obj} (h : w.heap[k]? = some x) : k < w.heap.size := (Array.getElem?_eq_some_iff.1 h).1

set_option maxHeartbeats 1600000 in
set_option maxRecDepth 100000 in
/-- A range over a window whose rounds never leave early. J: what the function's own blocks, those of T, hold between two rounds. -/
theorem scan_range {T : Nat → Prop} {w : World} {o : Option Nat} {b g : Nat} {v0 : Value} {es : List Ev} {l : List Int} {n bx tx fx : Nat} {A B : Int} {gop : Operand} {ps : Array Tmp} {assign body : Code} {Q : Exit → Act → World → Prop} {a : Act}
    (esf : Nat → List Ev) (lf : Nat → List Int) (J : Nat → World → Prop)
    (hg : a.eval gop = .func (.func 75) #[] #[.pointer (some ⟨bx, 0, none⟩), .pointer (some ⟨tx, 0, none⟩), .pointer (some ⟨fx, 0, none⟩)])
    (hps : ps.size = 2)
    (h0 : Scn T w w o b g v0 v0 es l)
    (hbx : Box w bx 40 (.pointer (some ⟨b, 0, none⟩))) (htx : Box w tx 3 (.int .i64 B)) (hfx : Box w fx 3 (.int .i64 A))
    (nbx : ¬ FootO o v0 bx ∧ bx ≠ g ∧ ¬ T bx) (ntx : ¬ FootO o v0 tx ∧ tx ≠ g ∧ ¬ T tx) (nfx : ¬ FootO o v0 fx ∧ fx ≠ g ∧ ¬ T fx)
    (hA : 0 ≤ A) (hB : B ≤ l.length) (hAL : A ≤ l.length) (hB0 : 0 ≤ B) (hlf : ∀ i, (lf i).length = l.length) (hl0 : lf 0 = l) (hes : es.length ≤ 999998) (hesf : ∀ i, i ≤ (B - A).toNat → (esf i).length ≤ 999998) (hbr : esf 0 = more o es [(2, max (B - A) 0)])
    (hJ : ∀ i W W', J i W → (∀ k, T k → W'.heap[k]? = W.heap[k]?) → J i W') (hJ0 : J 0 w)
    (hround : ∀ lo i v W r K, w.heap.size + 1 = lo → lo < W.heap.size → i < (B - A).toNat → W.heap[lo]? = some (.loop r) → Moved w v0 v → But (fun k => FootO o v0 k ∨ k = g ∨ T k) w W → Scn T W W o b g v v (more o (esf i) [(1, A + i)]) (lf i) → J i W →
      (∀ a' W', But Nowhere W W' → (∀ U, But (fun k => k = lo) W' U → (∃ r', U.heap[lo]? = some (.loop r')) → But (fun k => FootO o v0 k ∨ k = g ∨ T k) w U → Scn T U U o b g v v (more o (esf i) [(1, A + i)]) (lf i) → J i U →
          body.wpIn (Fence.wide.inRound lo) (n - 1 - 1) Try.prog (fun e _ W3 => e = .normal ∧ ∃ v', Scw T W.heap.size U W3 o b g v v' (esf (i + 1)) (lf (i + 1)) ∧ J (i + 1) W3) a' U) → K a' W') →
      assign.wpIn (Fence.wide.inRound lo) (n - 1 - 1) Try.prog (Exit.then K (fun _ _ _ => False)) { tmps := (ps.zip #[.int .i64 (A + i), S64 (word (lf i) (A + i))]).foldl (fun t (p, v) => t.setIfInBounds p v) a.tmps, defers := [] } W)
    (hdone : ∀ v' W', Scn T w W' o b g v0 v' (esf (B - A).toNat) (lf (B - A).toNat) → J (B - A).toNat W' → W'.heap[w.heap.size]? = some (.deferred (some [])) →
      Q .normal { a with defers := { target := .collected w.heap.size, args := #[] } :: a.defers } W') :
    (Code.rangeFunc gop ps assign body).wpIn Fence.wide n Try.prog Q a w := by
  refine range_outer hg (enters_of Try.func75 (by kernel_rfl) rfl) ?_
  intro r hs hp ht hpa has hbo
  subst hpa has hbo
  rw [← ht] at hround
  have hlt : ∀ k, T k → k < w.heap.size := fun k hk => (h0.tf k hk).1
  have e0 : But Nowhere w ((w.alloc (.deferred (some []))).alloc (.loop r)) := ((But.refl _ _).alloc _).alloc _
  have hz : ((w.alloc (.deferred (some []))).alloc (.loop r)).heap.size = w.heap.size + 2 := by simp
  have hD0 : ((w.alloc (.deferred (some []))).alloc (.loop r)).heap[w.heap.size]? = some (.deferred (some [])) := by rw [Below.heap_alloc _ _ _ (by simp)]; exact heap_alloc_new w _
  have hL0 : ((w.alloc (.deferred (some []))).alloc (.loop r)).heap[w.heap.size + 1]? = some (.loop r) := by
    have := heap_alloc_new (w.alloc (.deferred (some []))) (.loop r)
    rwa [World.size_alloc] at this
  revert e0 hz hD0 hL0
  generalize (w.alloc (.deferred (some []))).alloc (.loop r) = w0
  intro e0 hz hD0 hL0
  have nf : ∀ k, w.heap.size ≤ k → ¬ FootO o v0 k := fun k hk f => by have := h0.rc.foot_lt f; omega
  have ng : g < w.heap.size := h0.bf.row.lt
  have nb : b < w.heap.size := h0.bf.lt
  have hs1 : Scn (fun k => T k ∨ k = w.heap.size + 1) w0 w0 o b g v0 v0 es (lf 0) := by
    rw [hl0]
    refine .start (h0.bf.but e0 (not_nowhere _) (not_nowhere _)) (h0.rc.but e0 (fun _ _ f => f)) h0.ob h0.og (fun f => f.elim h0.tb (fun q => by omega)) (fun f => f.elim h0.tg (fun q => by omega)) (fun k hk => ?_)
    rcases hk with hk | rfl
    · exact ⟨by have := hlt k hk; omega, (h0.tf k hk).2⟩
    · exact ⟨by omega, nf _ (by omega)⟩
  have lt_of : ∀ {k t u}, Box w k t u → k < w.heap.size := fun h => h.lt
  refine (window1_in (T := fun k => T k ∨ k = w.heap.size + 1) (w0 := w0) (W := w0) (v0 := v0) (v := v0) (L := l.length) esf lf (fun i W => J i W ∧ W.heap[w.heap.size + 1]? = some (.loop r))
    (hbx.but e0 (not_nowhere _)) (htx.but e0 (not_nowhere _)) (hfx.but e0 (not_nowhere _))
    ⟨nbx.1, nbx.2.1, fun f => f.elim nbx.2.2 (fun q => by have := hbx.lt; omega)⟩ ⟨ntx.1, ntx.2.1, fun f => f.elim ntx.2.2 (fun q => by have := htx.lt; omega)⟩ ⟨nfx.1, nfx.2.1, fun f => f.elim nfx.2.2 (fun q => by have := hfx.lt; omega)⟩
    hA hB hAL hB0 h0.bf.small hlf hes hesf ?_ ?_ hs1 hbr ⟨hJ 0 _ _ hJ0 (fun k hk => e0.block k (hlt k hk) (not_nowhere _)), hL0⟩).mono ?_
  · rintro i v es' l' W W' hS ⟨hj, hl⟩ hb
    have lw := Nat.le_trans (Nat.le_of_eq hz.symm) hS.but.size
    refine ⟨hJ i _ _ hj (fun k hk => hb.block k (by have := hlt k hk; omega) (hS.off (.inl hk))), (hb.block _ (size_lt_of hl) (hS.off (.inr rfl))).trans hl⟩
  · rintro i v W hi hS ⟨hj, hl⟩
    refine yield_round hl hs hp (by rw [hps]; rfl) ?_
    have lw := Nat.le_trans (Nat.le_of_eq hz.symm) hS.but.size
    have bW : But (fun k => FootO o v0 k ∨ k = g ∨ T k) w W := (e0.mono (fun _ _ f => f.elim)).step hS.but (fun k hk f => f.imp id (fun q => q.imp id (fun q => q.elim id (fun q => by omega))))
    have sW : Scn T W W o b g v v (more o (esf i) [(1, A + i)]) (lf i) := .start hS.bf hS.rc hS.ob hS.og h0.tb h0.tg (fun k hk => ⟨by have := hlt k hk; omega, hS.off (.inl hk)⟩)
    refine hround _ i v W r _ rfl (by omega) hi hl (hS.mv.imp id (fun e x hx => by have := e x hx; omega)) bW sW hj ?_
    intro a' W' hb hbody
    have hl' : W'.heap[w.heap.size + 1]? = some (.loop r) := (hb.block _ (size_lt_of hl) (not_nowhere _)).trans hl
    refine ⟨hl', ?_⟩
    have bU : But (fun k => k = w.heap.size + 1) W' (W'.putObj (w.heap.size + 1) (.loop { r with state := .busy })) := But.putObj (S := fun k => k = w.heap.size + 1) (But.refl _ _) (fun _ => rfl) _
    have bWU : But (fun k => k = w.heap.size + 1) W (W'.putObj (w.heap.size + 1) (.loop { r with state := .busy })) := (hb.mono (fun _ _ f => f.elim)).step bU (fun _ _ f => f)
    have sU : Scn (fun k => T k ∨ k = w.heap.size + 1) w0 (W'.putObj (w.heap.size + 1) (.loop { r with state := .busy })) o b g v0 v (more o (esf i) [(1, A + i)]) (lf i) := hS.own (bWU.mono (fun _ _ f => .inr f))
    have jU : J i (W'.putObj (w.heap.size + 1) (.loop { r with state := .busy })) := hJ i _ _ hj (fun k hk => bWU.block k (by have := hlt k hk; omega) (fun q => by have := hlt k hk; omega))
    have hlU : (W'.putObj (w.heap.size + 1) (.loop { r with state := .busy })).heap[w.heap.size + 1]? = some (.loop { r with state := .busy }) := World.putObj_heap_same (size_lt_of hl')
    refine wpIn_mono (hbody _ bU ⟨_, hlU⟩ (bW.step bWU (fun k hk q => by omega)) (.start sU.bf sU.rc sU.ob sU.og h0.tb h0.tg (fun k hk => ⟨by have := hlt k hk; have := bWU.size; omega, hS.off (.inl hk)⟩)) jU) ?_
    rintro e _ W3 ⟨rfl, v', h3, j3⟩
    have hl3 : W3.heap[w.heap.size + 1]? = some (.loop { r with state := .busy }) := by
      refine (h3.but.block _ (size_lt_of hlU) ?_).trans hlU
      rintro (f | f | f)
      · exact hS.off (.inr rfl) f
      · omega
      · rcases f with f | f
        · have := hlt _ f; omega
        · omega
    refine ⟨rfl, hl3, ?_⟩
    have mv3 : Moved W v v' := h3.mv
    have h3' : Scn (fun k => T k ∨ k = w.heap.size + 1) w0 W3 o b g v0 v' (esf (i + 1)) (lf (i + 1)) :=
      ⟨h3.bf, h3.rc, mv3.foot (by omega) hS.ob, mv3.foot (by omega) hS.og, hS.mv.trans hS.but.size mv3, sU.but.step h3.but (fun k hk f => f.elim (fun q => .inl (hS.mv.foot_back hk q)) (fun q => .inr (q.imp id (fun q => q.elim .inl (fun q => by omega))))), hS.tb, hS.tg, hS.tf⟩
    have b3 : But (fun k => k = w.heap.size + 1) W3 (W3.putObj (w.heap.size + 1) (.loop r)) := But.putObj (S := fun k => k = w.heap.size + 1) (But.refl _ _) (fun _ => rfl) _
    refine ⟨v', h3'.own (b3.mono (fun _ _ f => .inr f)), hJ _ _ _ j3 (fun k hk => World.putObj_heap_other (fun q => by have := hlt k hk; omega)), World.putObj_heap_same (size_lt_of hl3)⟩
  · rintro e W' ⟨he, v', h3, j3, hl3⟩
    refine ⟨he, hl3, hdone v' _ ?_ (hJ _ _ _ j3 (fun k hk => World.putObj_heap_other (fun q => by have := hlt k hk; omega))) ?_⟩
    · have b3 : But (fun k => k = w.heap.size + 1) W' (W'.putObj (w.heap.size + 1) (.loop { r with state := .exhausted })) := But.putObj (S := fun k => k = w.heap.size + 1) (But.refl _ _) (fun _ => rfl) _
      have h4 := h3.own (b3.mono (fun _ _ f => .inr f))
      exact ⟨h4.bf, h4.rc, h4.ob, h4.og, h4.mv.imp id (fun e x hx => by have := e x hx; omega), (e0.mono (fun _ _ f => f.elim)).step h4.but (fun k hk f => f.imp id (fun q => q.imp id (fun q => q.elim id (fun q => by omega)))), h0.tb, h0.tg, h0.tf⟩
    · rw [World.putObj_heap_other (by omega)]
      refine (h3.but.block _ (by omega) ?_).trans hD0
      rintro (f | f | f | f)
      · exact nf _ (Nat.le_refl _) f
      · omega
      · have := hlt _ f; omega
      · omega

set_option maxHeartbeats 1600000 in
set_option maxRecDepth 100000 in
/-- A range over a spread, in a round, whose rounds never leave early. -/
theorem spread_range {T : Nat → Prop} {w : World} {n l₀ nb ab : Nat} {r₀ : Loop} {x C : Int} {gop : Operand} {ps : Array Tmp} {assign body : Code} {Q : Exit → Act → World → Prop} {a : Act} (J : Nat → World → Prop)
    (hl₀ : w.heap[l₀]? = some (.loop r₀))
    (hg : a.eval gop = .func (.func 80) #[] #[.pointer (some ⟨nb, 0, none⟩), .pointer (some ⟨ab, 0, none⟩)]) (hps : ps.size = 2)
    (hnb : Box w nb 3 (.int .i64 C)) (hab : Box w ab 29 (.int .i64 x)) (tnb : ¬ T nb) (tab : ¬ T ab) (h0 : 0 ≤ C) (h8 : C ≤ 8) (hT : ∀ k, T k → k < w.heap.size)
    (hJ : ∀ i W W', J i W → (∀ k, T k → W'.heap[k]? = W.heap[k]?) → J i W') (hJ0 : J 0 w)
    (hround : ∀ lo i W K, w.heap.size = lo → lo < W.heap.size → i < C.toNat → But T w W → J i W →
      (∀ a' W', But Nowhere W W' → (∀ U, But (fun k => k = lo) W' U → But T w U → J i U →
          body.wpIn (Fence.wide.inRound lo) (n - 1 - 1) Try.prog (fun e _ W3 => e = .normal ∧ But T U W3 ∧ J (i + 1) W3) a' U) → K a' W') →
      assign.wpIn (Fence.wide.inRound lo) (n - 1 - 1) Try.prog (Exit.then K (fun _ _ _ => False)) { tmps := (ps.zip #[S64 (wrap64 (x + i)), .int .i64 (8 * (C - 1 - i))]).foldl (fun t (p, v) => t.setIfInBounds p v) a.tmps, defers := [] } W)
    (hdone : ∀ W', But T w W' → J C.toNat W' → Q .normal a W') :
    (Code.rangeFunc gop ps assign body).wpIn (Fence.wide.inRound l₀) n Try.prog Q a w := by
  refine range_inner hl₀ hg (enters_of Try.func80 (by kernel_rfl) rfl) ?_
  intro r hs hp ht hpa has hbo
  subst hpa has hbo
  rw [← ht] at hround
  have e0 : But Nowhere w (w.alloc (.loop r)) := (But.refl _ _).alloc _
  have hz : (w.alloc (.loop r)).heap.size = w.heap.size + 1 := by simp
  have hL0 : (w.alloc (.loop r)).heap[w.heap.size]? = some (.loop r) := heap_alloc_new w _
  revert e0 hz hL0
  generalize w.alloc (.loop r) = w0
  intro e0 hz hL0
  have ln := hnb.lt
  have la := hab.lt
  refine (spread1_in (a := x) (C := C) (nb := nb) (ab := ab) (fun i W => J i W ∧ W.heap[w.heap.size]? = some (.loop r) ∧ But T w W) h0 h8 ?_ ?_ ?_
    ⟨hJ 0 _ _ hJ0 (fun k hk => e0.block k (hT k hk) (not_nowhere _)), hL0, e0.mono (fun _ _ f => f.elim)⟩).mono ?_
  · rintro i W W' ⟨hj, hl, hb⟩ hb2
    have := hb.size
    exact ⟨hJ i _ _ hj (fun k hk => hb2.block k (by have := hT k hk; omega) (not_nowhere _)), (hb2.block _ (size_lt_of hl) (not_nowhere _)).trans hl, hb.step hb2 (fun _ _ f => f.elim)⟩
  · rintro i W ⟨hj, hl, hb⟩
    exact ⟨hnb.but hb tnb, hab.but hb tab⟩
  · rintro i W hi ⟨hj, hl, hb⟩
    refine yield_round hl hs hp (by rw [hps]; rfl) ?_
    refine hround _ i W _ rfl (size_lt_of hl) hi hb hj ?_
    intro a' W' hb1 hbody
    have hl' : W'.heap[w.heap.size]? = some (.loop r) := (hb1.block _ (size_lt_of hl) (not_nowhere _)).trans hl
    refine ⟨hl', ?_⟩
    have bU : But (fun k => k = w.heap.size) W' (W'.putObj w.heap.size (.loop { r with state := .busy })) := But.putObj (S := fun k => k = w.heap.size) (But.refl _ _) (fun _ => rfl) _
    have bWU : But (fun k => k = w.heap.size) W (W'.putObj w.heap.size (.loop { r with state := .busy })) := (hb1.mono (fun _ _ f => f.elim)).step bU (fun _ _ f => f)
    have bwU : But T w (W'.putObj w.heap.size (.loop { r with state := .busy })) := hb.step bWU (fun k hk q => by omega)
    have hlU : (W'.putObj w.heap.size (.loop { r with state := .busy })).heap[w.heap.size]? = some (.loop { r with state := .busy }) := World.putObj_heap_same (size_lt_of hl')
    refine wpIn_mono (hbody _ bU bwU (hJ i _ _ hj (fun k hk => bWU.block k (by have := hT k hk; have := hb.size; omega) (fun q => by have := hT k hk; omega)))) ?_
    rintro e _ W3 ⟨rfl, h3, j3⟩
    have hl3 : W3.heap[w.heap.size]? = some (.loop { r with state := .busy }) := (h3.block _ (size_lt_of hlU) (fun f => by have := hT _ f; omega)).trans hlU
    refine ⟨rfl, hl3, ?_⟩
    have b3 : But (fun k => k = w.heap.size) W3 (W3.putObj w.heap.size (.loop r)) := But.putObj (S := fun k => k = w.heap.size) (But.refl _ _) (fun _ => rfl) _
    exact ⟨hJ _ _ _ j3 (fun k hk => World.putObj_heap_other (fun q => by have := hT k hk; omega)), World.putObj_heap_same (size_lt_of hl3), (bwU.trans h3).step b3 (fun k hk q => by omega)⟩
  · rintro e W' ⟨he, hj, hl, hb⟩
    refine ⟨he, hl, hdone _ ?_ (hJ _ _ _ hj (fun k hk => World.putObj_heap_other (fun q => by have := hT k hk; omega)))⟩
    exact hb.step (But.putObj (S := fun k => k = w.heap.size) (But.refl _ _) (fun _ => rfl) _) (fun k hk q => by omega)

end Go.Proofs.Ythfdabcknagjoaa
