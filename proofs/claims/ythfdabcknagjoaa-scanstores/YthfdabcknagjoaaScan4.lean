/- What Load and Store of package scan do. -/
import Derived.Test.YthfdabcknagjoaaScan3
namespace Go.Proofs.Ythfdabcknagjoaa
open Go.ChangeShapes Go.WideShapes Go.ChangeAt Go.RowKit Go.Shelf

attribute [local go_sem] Oper.semAt_some wide_fn wide_depth Fence.inRound_fn Fence.inRound_depth

/-- The events of k places from A on, c of each. -/
def rep (c : Nat) (A : Int) : Nat → List Ev
  | 0 => []
  | k + 1 => rep c A k ++ List.replicate c (1, A + k)

theorem rep_length (c : Nat) (A : Int) (k : Nat) : (rep c A k).length = c * k := by
  induction k with
  | zero => rfl
  | succ k ih => simp [rep, ih, Nat.mul_succ]

/-- What is seen of a window. -/
def scanE (c : Nat) (A B : Int) (k : Nat) : List Ev := (2, max (B - A) 0) :: rep c A k

theorem scanE_length (c : Nat) (A B : Int) (k : Nat) : (scanE c A B k).length = c * k + 1 := by simp [scanE, rep_length]
theorem scanE_succ (c : Nat) (A B : Int) (k : Nat) : scanE c A B (k + 1) = scanE c A B k ++ List.replicate c (1, A + k) := by simp [scanE, rep]

/-- What is gathered over a window. -/
def acc (f : Int → Int → Int → Int) (l : List Int) (A : Int) : Nat → Int
  | 0 => 0
  | k + 1 => f (A + k) (word l (A + k)) (acc f l A k)

/-- The words, those of a window laid anew. -/
def upd (f : Int → Int → Int) (l : List Int) (A : Int) : Nat → List Int
  | 0 => l
  | k + 1 => lay (upd f l A k) (A + k) (f (A + k) (word (upd f l A k) (A + k)))

theorem upd_length (f : Int → Int → Int) (l : List Int) (A : Int) (k : Nat) : (upd f l A k).length = l.length := by
  induction k with
  | zero => rfl
  | succ k ih => simp [upd, lay_length, ih]

def I64s (l : List Int) : Prop := ∀ x ∈ l, I64 x

theorem word_in {l : List Int} (h : I64s l) (i : Int) : I64 (word l i) := by
  unfold word
  split
  · cases e : l[i.toNat]? with
    | none => show I64 0; omega
    | some x => exact h x (List.mem_of_getElem? e)
  · omega

theorem lay_in {l : List Int} (h : I64s l) (i n : Int) (hn : I64 n) : I64s (lay l i n) := by
  unfold lay
  split
  · intro x hx
    rcases List.mem_or_eq_of_mem_set hx with q | q
    · exact h x q
    · exact q ▸ hn
  · exact h

theorem acc_in {f : Int → Int → Int → Int} (l : List Int) (A : Int) (k : Nat) (h : I64s l) (hf : ∀ i x y, I64 x → I64 y → I64 (f i x y)) : I64 (acc f l A k) := by
  induction k with
  | zero => show I64 0; omega
  | succ k ih => exact hf _ _ _ (word_in h _) ih

theorem upd_in {f : Int → Int → Int} (l : List Int) (A : Int) (k : Nat) (h : I64s l) (hf : ∀ i x, I64 x → I64 (f i x)) : I64s (upd f l A k) := by
  induction k with
  | zero => exact h
  | succ k ih => exact lay_in ih _ _ (hf _ _ (word_in ih _))

/-- What Load picks, what Store lays. -/
def ldF (a : Int) (i x y : Int) : Int := if a = i then x else y
def stF (a s : Int) (i x : Int) : Int := if a = i then s else x

theorem sel_here (a i x y : Int) (hx : I64 x) (hy : I64 y) : selF (eqM a i) x y = ldF a i x y := selF_mask _ _ _ hx hy

theorem clip_bounds (a : Int) (n : Nat) : 0 ≤ clipF a 0 n ∧ clipF a 0 n ≤ n := by unfold clipF; split <;> (try split) <;> omega

theorem RcO.not_deferred {w : World} {o : Option Nat} {v : Value} {es : List Ev} {k : Nat} {x : Option (List Deferred)} (h : RcO w o v es) (hd : w.heap[k]? = some (.deferred x)) : ¬ FootO o v k := by
  rintro ⟨b, rfl, hf⟩
  rcases h with ⟨e, -⟩ | ⟨b', e, hr⟩
  · cases e
  · cases e
    rcases hf with rfl | hf
    · rw [hr.at_] at hd; cases hd
    · rcases hr.evs.2 with ⟨h1, _⟩ | ⟨g, cap, cur, rfl, _, hg, _⟩
      · rw [h1] at hf; cases hf
      · simp [Value.ownBlock] at hf; subst hf; rw [hg] at hd; cases hd

/-- The function ends: S, blocks of its own, turn. -/
theorem Scn.close {T S : Nat → Prop} {w w0 W W' : World} {o : Option Nat} {b g : Nat} {v0 v : Value} {es : List Ev} {l : List Int} (h : Scn T w0 W o b g v0 v es l) (hw : But Nowhere w w0) (hT : ∀ k, T k → w.heap.size ≤ k) (hb : But S W W') (hS : ∀ k, S k → w.heap.size ≤ k ∧ ¬ FootO o v k ∧ k ≠ b ∧ k ≠ g) : Scn (fun _ => False) w W' o b g v0 v es l :=
  ⟨h.bf.but hb (fun f => (hS _ f).2.2.1 rfl) (fun f => (hS _ f).2.2.2 rfl), h.rc.but hb (fun k hk f => (hS k f).2.1 hk), h.ob, h.og, h.mv.imp id (fun e x hx => Nat.le_trans hw.size (e x hx)),
    ((hw.mono (fun _ _ f => f.elim)).step h.but (fun k hk f => f.imp id (fun q => q.imp id (fun q => by have := hT k q; omega)))).step hb (fun k hk f => by have := (hS k f).1; omega), id, id, fun _ f => f.elim⟩

theorem Scn.laidO {T : Nat → Prop} {w0 W : World} {o : Option Nat} {b g : Nat} {v0 v : Value} {es : List Ev} {l : List Int} (h : Scn T w0 W o b g v0 v es l) (hr : Row w0 g 29 .i64 l) {w : World} (hw : But Nowhere w w0) (hT : ∀ k, T k → w.heap.size ≤ k) : LaidO w W o v0 es := by
  refine ⟨v, h.rc, h.mv.imp id (fun e x hx => Nat.le_trans hw.size (e x hx)), ?_⟩
  have hb : But (fun k => FootO o v0 k ∨ T k) w0 W := ⟨h.but.os, h.but.tape, h.but.output, h.but.size, fun k hk hs => by
    by_cases e : k = g
    · rw [e]; exact h.bf.row.trans hr.symm
    · exact h.but.block k hk (fun f => f.elim (fun q => hs (.inl q)) (fun f => f.elim e (fun q => hs (.inr q))))⟩
  exact (hw.mono (fun _ _ f => f.elim)).step hb (fun k hk f => f.elim id (fun q => by have := hT k q; omega))

theorem Scn.setO {T : Nat → Prop} {w0 W : World} {o : Option Nat} {b g : Nat} {v0 v : Value} {es : List Ev} {l : List Int} (h : Scn T w0 W o b g v0 v es l) {w : World} (hw : But Nowhere w w0) (hT : ∀ k, T k → w.heap.size ≤ k) : SetO w W b g o v0 es l :=
  ⟨v, h.rc, h.mv.imp id (fun e x hx => Nat.le_trans hw.size (e x hx)), h.bf, (hw.mono (fun _ _ f => f.elim)).step h.but (fun k hk f => f.imp id (fun q => q.elim id (fun q => by have := hT k q; omega)))⟩

set_option maxHeartbeats 6400000 in
set_option maxRecDepth 100000 in
theorem load_o {w : World} {b g : Nat} {o : Option Nat} {v : Value} {es : List Ev} {l : List Int} (h : Bf w b g (ptr o) l) (hr : RcO w o v es) (hb : ¬ FootO o v b) (hg : ¬ FootO o v g) (hI : I64s l) (hl : es.length + 3 * l.length ≤ 900000) (a f u : Int) (ha : I64 a) :
    Calls Try.prog 23 #[.pointer (some ⟨b, 0, none⟩), S64 a, .int .i64 f, .int .i64 u] w
      fun e w' => e = .returned (S64 (acc (ldF a) l (clipF f 0 l.length) (clipF u 0 l.length - clipF f 0 l.length).toNat)) ∧ LaidO w w' o v (more o es (scanE 1 (clipF f 0 l.length) (clipF u 0 l.length) (clipF u 0 l.length - clipF f 0 l.length).toNat)) := by
  obtain ⟨cA0, cA1⟩ := clip_bounds f l.length
  obtain ⟨cB0, cB1⟩ := clip_bounds u l.length
  have HW := fun (w : World) (h : Bf w b g (ptr o) l) => window_some h f u
  revert cA0 cA1 cB0 cB1 HW
  generalize clipF f 0 l.length = A
  generalize clipF u 0 l.length = B
  intro cA0 cA1 cB0 cB1 HW
  refine (callsIn_wide (n := 3)).1 ?_
  refine callsIn_of_wp_marks Try.func23 rfl trivial ?_ rfl
  simp only [Try.ntmps23, List.size_toArray, List.length_cons, List.length_nil, Nat.reduceAdd, Nat.reduceSub, Array.replicate_succ, Array.replicate_zero, List.push_toArray, List.append_toArray, List.nil_append, List.cons_append]
  gi_wp2_with (gi_at_call 15; refine (callsIn_wide.2 (of_at _ _)).mono ?_; rintro e w' ⟨rfl, rfl⟩)
  have b0 : But Nowhere w ((((w.alloc (.cells #[.int .i64 a] 29)).alloc (.cells #[.int .i64 0] 29)).alloc (cell1 0)).alloc (.cells #[.int .i64 0] 29)) := ((((But.refl _ _).alloc _).alloc _).alloc _).alloc _
  have H4 := h.but b0 (not_nowhere _) (not_nowhere _)
  have bA := (((Box.new w 29 (.int .i64 a)).alloc (.cells #[.int .i64 0] 29)).alloc (cell1 0)).alloc (.cells #[.int .i64 0] 29)
  have bR := ((Box.new (w.alloc (.cells #[.int .i64 a] 29)) 29 (.int .i64 0)).alloc (cell1 0)).alloc (.cells #[.int .i64 0] 29)
  have bF := Box.new (((w.alloc (.cells #[.int .i64 a] 29)).alloc (.cells #[.int .i64 0] 29)).alloc (cell1 0)) 29 (.int .i64 0)
  refine (callsIn_wide.2 (HW _ H4)).mono ?_
  rintro e w1 ⟨rfl, hbx, hfx, htx, b1, z1⟩
  simp only [World.size_alloc] at hbx hfx htx z1 bR bF
  replace bA := bA.but b1 (not_nowhere _)
  replace bR := bR.but b1 (not_nowhere _)
  replace bF := bF.but b1 (not_nowhere _)
  have bw := b0.trans b1
  clear b0 b1 H4 HW
  gi_wp2_with fail
  have nf : ∀ k, w.heap.size ≤ k → ¬ FootO o v k := fun k hk q => by have := hr.foot_lt q; omega
  have lg := h.row.lt
  have lb := h.lt
  refine scan_range (T := fun k => k = w.heap.size + 1 + 1 + 1) (b := b) (g := g) (o := o) (v0 := v) (es := es) (l := l) (fun i => more o es (scanE 1 A B i)) (fun _ => l) (fun i W => Box W (w.heap.size + 1 + 1 + 1) 29 (.int .i64 (acc (ldF a) l A i))) rfl rfl
    (.start (h.but bw (not_nowhere _) (not_nowhere _)) (hr.but bw (fun _ _ f => f)) hb hg (by omega) (by omega) (by rintro k rfl; exact ⟨by omega, nf _ (by omega)⟩)) hbx htx hfx
    ⟨nf _ (by omega), by omega, by omega⟩ ⟨nf _ (by omega), by omega, by omega⟩ ⟨nf _ (by omega), by omega, by omega⟩
    cA0 cB1 cA1 cB0 (fun _ => rfl) rfl (by omega) (fun i hi => by have := more_le o es (scanE 1 A B i); rw [scanE_length] at this; omega) (by simp [scanE, rep]) (fun i W W' hj hk => (hk _ rfl).trans hj) bF ?_ ?_
  · intro lo i v1 W r K hlo hlt hi hlr hmv hbW hS hJ hK
    gi_wp2_with fail
    refine hK _ _ ((But.refl _ _).alloc _) ?_
    clear hS hJ hlr hK hbW
    intro U hU hlU hbU hS hJ
    have lw : W.heap.size ≤ U.heap.size := by have := hU.size; simp only [World.size_alloc] at this; omega
    have cF := hJ.drew.cell
    have fF := hJ.drew.frozen
    have cA := (bA.but hbU (fun q => q.elim (nf _ (by omega)) (fun q => q.elim (fun q => by omega) (fun q => by omega)))).drew.cell
    have cW := ((Box.new W 29 (.int .i64 (word l (A + i)))).but hU (by omega)).drew.cell
    have iW := word_in hI (A + i)
    have iA := acc_in (f := ldF a) l A i hI (fun i x y hx hy => by unfold ldF; split <;> assumption)
    have HF : Hid (∀ W3, But Nowhere U W3 → ∃ v', Scw (fun k => k = w.heap.size + 1 + 1 + 1) W.heap.size U (W3.setCell ⟨w.heap.size + 1 + 1 + 1, 0, none⟩ (.int .i64 (selF (eqM a (A + i)) (word l (A + i)) (acc (ldF a) l A i)))) o b g v1 v' (more o es (scanE 1 A B (i + 1))) l ∧ Box (W3.setCell ⟨w.heap.size + 1 + 1 + 1, 0, none⟩ (.int .i64 (selF (eqM a (A + i)) (word l (A + i)) (acc (ldF a) l A i)))) (w.heap.size + 1 + 1 + 1) 29 (.int .i64 (acc (ldF a) l A (i + 1)))) := by
      intro W3 h3
      refine ⟨v1, ?_, ?_⟩
      · refine Scn.scw ?_ lw
        rw [scanE_succ, ← more_more]
        exact (hS.step h3).own (But.setCell (S := fun k => k = w.heap.size + 1 + 1 + 1) (But.refl _ _) (fun _ => rfl) _)
      · rw [sel_here _ _ _ _ iW iA]
        exact (hJ.but h3 (not_nowhere _)).set _
    have iI : I64 (A + i) := by omega
    clear hS hJ iW iA hl hlU cB0 cB1 cA0 cA1 hi
    gi_wp2_with fail
    refine round_region_till (S := fun x => x.cell? ⟨w.heap.size, 0, none⟩ = some (.int .i64 a) ∧ x.cell? ⟨W.heap.size, 0, none⟩ = some (.int .i64 (word l (A + i))) ∧ x.cell? ⟨w.heap.size + 1 + 1 + 1, 0, none⟩ = some (.int .i64 (acc (ldF a) l A i))) (R := fun _ => True) (k := 6) (m := 100) (by kernel_rfl) (by kernel_rfl) (by rintro ⟨_, _, ⟨q, _⟩⟩; cases q) ⟨cA, cW, cF⟩ trivial ?_
    (refine Walk.take (i := 0) (oi := { dst := some 19, op := Op.load 29 (Operand.tmp 5), type := 29, pos := "scan.go:27", after := #[], guard := none }) (v := ?_) rfl (by kernel_rfl) (by kernel_rfl) (by kernel_rfl) (by kernel_rfl) (fun _ _ _ h => h) (Or.inl ⟨by rfl, ?_⟩) ?_; rotate_left; (intro w hw; have hS1 := hw.1 (by kernel_rfl); clear hw; (try dsimp only at hS1); (try go_split_ands); go_simp; try (with_reducible rfl)); simp only [Act.put, List.setIfInBounds_toArray, List.set_cons_zero, List.set_cons_succ])
    (refine Walk.take (i := 1) (oi := { dst := some 20, op := Op.move (Operand.tmp 10), type := 3, pos := "scan.go:27", after := #[], guard := none }) (v := ?_) rfl (by kernel_rfl) (by kernel_rfl) (by kernel_rfl) (by kernel_rfl) (fun _ _ _ h => h) (Or.inl ⟨by rfl, ?_⟩) ?_; rotate_left; (intro w hw; have hS1 := hw.1 (by kernel_rfl); clear hw; (try dsimp only at hS1); (try go_split_ands); go_simp; try (with_reducible rfl)); simp only [Act.put, List.setIfInBounds_toArray, List.set_cons_zero, List.set_cons_succ])
    (refine Walk.take (i := 3) (oi := { dst := some 22, op := Op.load 29 (Operand.tmp 11), type := 29, pos := "scan.go:27", after := #[], guard := none }) (v := ?_) rfl (by kernel_rfl) (by kernel_rfl) (by kernel_rfl) (by kernel_rfl) (fun _ _ _ h => h) (Or.inl ⟨by rfl, ?_⟩) ?_; rotate_left; (intro w hw; have hS1 := hw.1 (by kernel_rfl); clear hw; (try dsimp only at hS1); (try go_split_ands); go_simp; try (with_reducible rfl)); simp only [Act.put, List.setIfInBounds_toArray, List.set_cons_zero, List.set_cons_succ])
    (refine Walk.take (i := 4) (oi := { dst := some 23, op := Op.load 29 (Operand.tmp 9), type := 29, pos := "scan.go:27", after := #[], guard := none }) (v := ?_) rfl (by kernel_rfl) (by kernel_rfl) (by kernel_rfl) (by kernel_rfl) (fun _ _ _ h => h) (Or.inl ⟨by rfl, ?_⟩) ?_; rotate_left; (intro w hw; have hS1 := hw.1 (by kernel_rfl); clear hw; (try dsimp only at hS1); (try go_split_ands); go_simp; try (with_reducible rfl)); simp only [Act.put, List.setIfInBounds_toArray, List.set_cons_zero, List.set_cons_succ])
    (refine Walk.go (i := 2) (o := { dst := some 21, op := Op.call { callee := Callee.value (Operand.func 41), args := #[Operand.tmp 19, Operand.tmp 20], argTypes := #[29, 3] }, type := 29, pos := "scan.go:27", after := #[{ on := 0, ground := Ground.data }, { on := 1, ground := Ground.data }], guard := none }) (by kernel_rfl) rfl (fun K hK => ?_); go_simp; ((go_at_call 41; refine (here_any _ _ _ ha iI).mono ?_; rintro e w2 ⟨rfl, b2⟩; replace cA := b2.keeps (not_nowhere _) cA; replace cW := b2.keeps (not_nowhere _) cW; replace fF := b2.thaws (not_nowhere _) cF fF; replace cF := b2.keeps (not_nowhere _) cF)); refine hK.out _ _ (⟨fun _ => ⟨cA, cW, cF⟩, fun _ => trivial⟩) ?_; clear hK K; try simp only [Act.put, List.setIfInBounds_toArray, List.set_cons_zero, List.set_cons_succ])
    (refine Walk.go (i := 5) (o := { dst := some 24, op := Op.call { callee := Callee.value (Operand.func 40), args := #[Operand.tmp 21, Operand.tmp 22, Operand.tmp 23], argTypes := #[29, 29, 29] }, type := 29, pos := "scan.go:27", after := #[{ on := 2, ground := Ground.data }, { on := 3, ground := Ground.data }, { on := 4, ground := Ground.data }, { on := 2, ground := Ground.chain }], guard := none }) (by kernel_rfl) rfl (fun K hK => ?_); go_simp; ((go_at_call 40; refine (select_any _ _ _ _).mono ?_; rintro e w3 ⟨rfl, b3⟩; replace cA := b3.keeps (not_nowhere _) cA; replace cW := b3.keeps (not_nowhere _) cW; replace fF := b3.thaws (not_nowhere _) cF fF; replace cF := b3.keeps (not_nowhere _) cF)); refine hK.out _ _ (⟨fun _ => ⟨cA, cW, cF⟩, fun _ => trivial⟩) ?_; clear hK K; try simp only [Act.put, List.setIfInBounds_toArray, List.set_cons_zero, List.set_cons_succ])
    (refine Walk.go (i := 6) (o := { dst := none, op := Op.store 29 (Operand.tmp 9) (Operand.tmp 24), type := 0, pos := "scan.go:27", after := #[{ on := 5, ground := Ground.data }, { on := 5, ground := Ground.chain }, { on := 0, ground := Ground.phase }, { on := 1, ground := Ground.phase }, { on := 2, ground := Ground.phase }, { on := 3, ground := Ground.phase }, { on := 4, ground := Ground.phase }, { on := 5, ground := Ground.phase }], guard := none }) (by kernel_rfl) rfl (fun K hK => ?_); go_simp; (skip); refine hK.out _ _ (⟨fun q => absurd q (by decide), fun _ => trivial⟩) ?_; clear hK K; try simp only [Act.put, List.setIfInBounds_toArray, List.set_cons_zero, List.set_cons_succ])
    refine Walk.done (by kernel_rfl) ?_ _
    have HH := HF.out _ ((But.refl Nowhere U).drew.trans (b2.trans b3))
    gi_wp2_with fail

  · intro v1 W' hS hJ hD
    have cF := hJ.cell
    have bR' := hS.box bR (nf _ (by omega)) (by omega) (by omega)
    have cR := bR'.cell
    have fR := bR'.frozen
    gi_wp2_with fail
    have hD2 : (W'.setCell ⟨w.heap.size + 1, 0, none⟩ (.int .i64 (acc (ldF a) l A (B - A).toNat))).heap[w1.heap.size]? = some (.deferred (some [])) := (Below.heap_setCell _ _ _ _ (by simp; omega)).trans hD
    refine ⟨by simp, .inl ⟨_, _, rfl, run_takeDeferred hD2, ?_⟩⟩
    refine ⟨_, results_sec rfl _ _ _ _ rfl ?_, rfl, ?_⟩
    · exact (World.cell?_of_block (World.putObj_heap_other (by simp; omega))).trans (cell_set cR)
    · refine Scn.laidO (Scn.close (S := fun k => k = w.heap.size + 1 ∨ k = w1.heap.size) hS bw (by rintro k rfl; omega) ?_ ?_) h.row (But.refl _ _) (fun _ q => q.elim)
      · exact (But.setCell (But.refl _ _) (fun _ => .inl rfl) _).putObj (fun _ => .inr rfl) _
      · rintro k (rfl | rfl)
        · exact ⟨by omega, hS.mv.foot (by omega) (nf _ (by omega)), by omega, by omega⟩
        · exact ⟨by omega, hS.rc.not_deferred hD, by omega, by omega⟩

set_option maxHeartbeats 6400000 in
set_option maxRecDepth 100000 in
theorem store_o {w : World} {b g : Nat} {o : Option Nat} {v : Value} {es : List Ev} {l : List Int} (h : Bf w b g (ptr o) l) (hr : RcO w o v es) (hb : ¬ FootO o v b) (hg : ¬ FootO o v g) (hI : I64s l) (hl : es.length + 3 * l.length ≤ 900000) (a s f u : Int) (ha : I64 a) (hs : I64 s) :
    Calls Try.prog 24 #[.pointer (some ⟨b, 0, none⟩), S64 a, S64 s, .int .i64 f, .int .i64 u] w
      fun e w' => e = .returned (.tuple #[]) ∧ SetO w w' b g o v (more o es (scanE 2 (clipF f 0 l.length) (clipF u 0 l.length) (clipF u 0 l.length - clipF f 0 l.length).toNat)) (upd (stF a s) l (clipF f 0 l.length) (clipF u 0 l.length - clipF f 0 l.length).toNat) := by
  obtain ⟨cA0, cA1⟩ := clip_bounds f l.length
  obtain ⟨cB0, cB1⟩ := clip_bounds u l.length
  have HW := fun (w : World) (h : Bf w b g (ptr o) l) => window_some h f u
  revert cA0 cA1 cB0 cB1 HW
  generalize clipF f 0 l.length = A
  generalize clipF u 0 l.length = B
  intro cA0 cA1 cB0 cB1 HW
  refine (callsIn_wide (n := 3)).1 ?_
  refine callsIn_of_wp_marks Try.func24 rfl trivial ?_ rfl
  simp only [Try.ntmps24, List.size_toArray, List.length_cons, List.length_nil, Nat.reduceAdd, Nat.reduceSub, Array.replicate_succ, Array.replicate_zero, List.push_toArray, List.append_toArray, List.nil_append, List.cons_append]
  gi_wp2_with fail
  have b0 : But Nowhere w (((w.alloc (.cells #[.pointer (some ⟨b, 0, none⟩)] 40)).alloc (.cells #[.int .i64 a] 29)).alloc (.cells #[.int .i64 s] 29)) := (((But.refl _ _).alloc _).alloc _).alloc _
  have H4 := h.but b0 (not_nowhere _) (not_nowhere _)
  have bB := ((Box.new w 40 (.pointer (some ⟨b, 0, none⟩))).alloc (.cells #[.int .i64 a] 29)).alloc (.cells #[.int .i64 s] 29)
  have bA := (Box.new (w.alloc (.cells #[.pointer (some ⟨b, 0, none⟩)] 40)) 29 (.int .i64 a)).alloc (.cells #[.int .i64 s] 29)
  have bS := Box.new ((w.alloc (.cells #[.pointer (some ⟨b, 0, none⟩)] 40)).alloc (.cells #[.int .i64 a] 29)) 29 (.int .i64 s)
  refine (callsIn_wide.2 (HW _ H4)).mono ?_
  rintro e w1 ⟨rfl, hbx, hfx, htx, b1, z1⟩
  simp only [World.size_alloc] at hbx hfx htx z1 bA bS
  replace bB := bB.but b1 (not_nowhere _)
  replace bA := bA.but b1 (not_nowhere _)
  replace bS := bS.but b1 (not_nowhere _)
  have bw := b0.trans b1
  clear b0 b1 H4 HW
  gi_wp2_with fail
  have nf : ∀ k, w.heap.size ≤ k → ¬ FootO o v k := fun k hk q => by have := hr.foot_lt q; omega
  have lg := h.row.lt
  have lb := h.lt
  refine scan_range (T := fun _ => False) (b := b) (g := g) (o := o) (v0 := v) (es := es) (l := l) (fun i => more o es (scanE 2 A B i)) (fun i => upd (stF a s) l A i) (fun _ _ => True) rfl rfl
    (.start (h.but bw (not_nowhere _) (not_nowhere _)) (hr.but bw (fun _ _ f => f)) hb hg id id (fun _ q => q.elim)) hbx htx hfx
    ⟨nf _ (by omega), by omega, id⟩ ⟨nf _ (by omega), by omega, id⟩ ⟨nf _ (by omega), by omega, id⟩
    cA0 cB1 cA1 cB0 (fun _ => upd_length _ _ _ _) rfl (by omega) (fun i hi => by have := more_le o es (scanE 2 A B i); rw [scanE_length] at this; omega) (by simp [scanE, rep]) (fun _ _ _ _ _ => trivial) trivial ?_ ?_
  · intro lo i v1 W r K hlo hlt hi hlr hmv hbW hS hJ hK
    gi_wp2_with fail
    refine hK _ _ ((But.refl _ _).alloc _) ?_
    have fW : ¬ FootO o v1 W.heap.size := fun q => by have := hS.rc.foot_lt q; omega
    clear hS hJ hlr hK hbW
    intro U hU hlU hbU hS hJ
    have off : ∀ k, w.heap.size ≤ k → ¬ (FootO o v k ∨ k = g ∨ False) := fun k hk q => q.elim (nf _ hk) (fun q => q.elim (fun q => by omega) id)
    have lw := hU.size
    simp only [World.size_alloc] at lw
    have b0 := bB.but hbU (off _ (by omega))
    have b1 := bA.but hbU (off _ (by omega))
    have b2 := bS.but hbU (off _ (by omega))
    have b3 := (Box.new W 29 (.int .i64 (word (upd (stF a s) l A i) (A + i)))).but hU (by omega)
    have cB := b0.drew.cell
    have cA := b1.drew.cell
    have cS := b2.drew.cell
    have cW := b3.drew.cell
    have iL := upd_in (f := stF a s) l A i hI (fun i x hx => by unfold stF; split <;> assumption)
    have iW := word_in iL (A + i)
    have hle : (more o (more o es (scanE 2 A B i)) [(1, A + i)]).length ≤ 1000000 := by
      have h1 := more_le o (more o es (scanE 2 A B i)) [(1, A + i)]
      have h2 := more_le o es (scanE 2 A B i)
      rw [scanE_length] at h2
      simp only [List.length_singleton] at h1
      omega
    have HS : Hid (∀ W3, But Nowhere U W3 → Scn (fun _ => False) U W3 o b g v1 v1 (more o (more o es (scanE 2 A B i)) [(1, A + i)]) (upd (stF a s) l A i)) := fun W3 h3 => hS.step h3
    have HF : Hid (∀ W3 W4, But Nowhere U W3 → SetO W3 W4 b g o v1 (more o (more o (more o es (scanE 2 A B i)) [(1, A + i)]) (seenAt (upd (stF a s) l A i) (A + i))) (lay (upd (stF a s) l A i) (A + i) (selF (eqM a (A + i)) s (word (upd (stF a s) l A i) (A + i)))) →
        (W4.cell? ⟨w.heap.size, 0, none⟩ = some (.pointer (some ⟨b, 0, none⟩)) ∧ W4.cell? ⟨w.heap.size + 1, 0, none⟩ = some (.int .i64 a) ∧ W4.cell? ⟨w.heap.size + 1 + 1, 0, none⟩ = some (.int .i64 s) ∧ W4.cell? ⟨W.heap.size, 0, none⟩ = some (.int .i64 (word (upd (stF a s) l A i) (A + i)))) ∧
        ∃ v', Scw (fun _ => False) W.heap.size U W4 o b g v1 v' (more o es (scanE 2 A B (i + 1))) (upd (stF a s) l A (i + 1)) ∧ True) := by
      intro W3 W4 h3 h4
      have hS3 := hS.step h3
      obtain ⟨v', s4, b4⟩ := hS3.set h4
      have n1 : ∀ {k t u}, Box w1 k t u → w.heap.size ≤ k → ¬ (FootO o v1 k ∨ k = g) := fun {k _ _} hk hle q => q.elim (hmv.foot hk.lt (nf k hle)) (fun q => by omega)
      have n2 : ¬ (FootO o v1 W.heap.size ∨ W.heap.size = g) := fun q => q.elim fW (fun q => by omega)
      refine ⟨⟨((b0.but h3 (not_nowhere _)).but b4 (n1 bB (by omega))).cell, ((b1.but h3 (not_nowhere _)).but b4 (n1 bA (by omega))).cell, ((b2.but h3 (not_nowhere _)).but b4 (n1 bS (by omega))).cell, ((b3.but h3 (not_nowhere _)).but b4 n2).cell⟩, v', ?_, trivial⟩
      have e1 := seenAt_nat (upd (stF a s) l A i) A i cA0 (by rw [upd_length]; omega)
      rw [e1, more_more, more_more] at s4
      rw [scanE_succ]
      have e2 : upd (stF a s) l A (i + 1) = lay (upd (stF a s) l A i) (A + i) (selF (eqM a (A + i)) s (word (upd (stF a s) l A i) (A + i))) := by
        rw [sel_here _ _ _ _ hs iW]; rfl
      rw [e2]
      exact s4.scw (by omega)
    have iI : I64 (A + i) := by omega
    clear hS hJ iW iL hl hlU cB0 cB1 cA0 cA1 hi b0 b1 b2 b3 hU
    gi_wp2_with fail
    refine round_region_till (S := fun x => x.cell? ⟨w.heap.size, 0, none⟩ = some (.pointer (some ⟨b, 0, none⟩)) ∧ x.cell? ⟨w.heap.size + 1, 0, none⟩ = some (.int .i64 a) ∧ x.cell? ⟨w.heap.size + 1 + 1, 0, none⟩ = some (.int .i64 s) ∧ x.cell? ⟨W.heap.size, 0, none⟩ = some (.int .i64 (word (upd (stF a s) l A i) (A + i)))) (R := fun _ => True) (k := 100) (m := 100) (by kernel_rfl) (by kernel_rfl) (by rintro ⟨_, _, ⟨q, _⟩⟩; cases q) ⟨cB, cA, cS, cW⟩ trivial ?_
    (refine Walk.take (i := 0) (oi := { dst := some 18, op := Op.load 40 (Operand.tmp 5), type := 40, pos := "scan.go:35", after := #[], guard := none }) (v := ?_) rfl (by kernel_rfl) (by kernel_rfl) (by kernel_rfl) (by kernel_rfl) (fun _ _ _ h => h) (Or.inl ⟨by rfl, ?_⟩) ?_; rotate_left; (intro w hw; have hS1 := hw.1 (by kernel_rfl); clear hw; (try dsimp only at hS1); (try go_split_ands); go_simp; try (with_reducible rfl)); simp only [Act.put, List.setIfInBounds_toArray, List.set_cons_zero, List.set_cons_succ])
    (refine Walk.take (i := 1) (oi := { dst := some 19, op := Op.move (Operand.tmp 10), type := 3, pos := "scan.go:35", after := #[], guard := none }) (v := ?_) rfl (by kernel_rfl) (by kernel_rfl) (by kernel_rfl) (by kernel_rfl) (fun _ _ _ h => h) (Or.inl ⟨by rfl, ?_⟩) ?_; rotate_left; (intro w hw; have hS1 := hw.1 (by kernel_rfl); clear hw; (try dsimp only at hS1); (try go_split_ands); go_simp; try (with_reducible rfl)); simp only [Act.put, List.setIfInBounds_toArray, List.set_cons_zero, List.set_cons_succ])
    (refine Walk.take (i := 2) (oi := { dst := some 20, op := Op.load 29 (Operand.tmp 6), type := 29, pos := "scan.go:35", after := #[], guard := none }) (v := ?_) rfl (by kernel_rfl) (by kernel_rfl) (by kernel_rfl) (by kernel_rfl) (fun _ _ _ h => h) (Or.inl ⟨by rfl, ?_⟩) ?_; rotate_left; (intro w hw; have hS1 := hw.1 (by kernel_rfl); clear hw; (try dsimp only at hS1); (try go_split_ands); go_simp; try (with_reducible rfl)); simp only [Act.put, List.setIfInBounds_toArray, List.set_cons_zero, List.set_cons_succ])
    (refine Walk.take (i := 3) (oi := { dst := some 21, op := Op.move (Operand.tmp 10), type := 3, pos := "scan.go:35", after := #[], guard := none }) (v := ?_) rfl (by kernel_rfl) (by kernel_rfl) (by kernel_rfl) (by kernel_rfl) (fun _ _ _ h => h) (Or.inl ⟨by rfl, ?_⟩) ?_; rotate_left; (intro w hw; have hS1 := hw.1 (by kernel_rfl); clear hw; (try dsimp only at hS1); (try go_split_ands); go_simp; try (with_reducible rfl)); simp only [Act.put, List.setIfInBounds_toArray, List.set_cons_zero, List.set_cons_succ])
    (refine Walk.take (i := 5) (oi := { dst := some 23, op := Op.load 29 (Operand.tmp 7), type := 29, pos := "scan.go:35", after := #[], guard := none }) (v := ?_) rfl (by kernel_rfl) (by kernel_rfl) (by kernel_rfl) (by kernel_rfl) (fun _ _ _ h => h) (Or.inl ⟨by rfl, ?_⟩) ?_; rotate_left; (intro w hw; have hS1 := hw.1 (by kernel_rfl); clear hw; (try dsimp only at hS1); (try go_split_ands); go_simp; try (with_reducible rfl)); simp only [Act.put, List.setIfInBounds_toArray, List.set_cons_zero, List.set_cons_succ])
    (refine Walk.take (i := 6) (oi := { dst := some 24, op := Op.load 29 (Operand.tmp 11), type := 29, pos := "scan.go:35", after := #[], guard := none }) (v := ?_) rfl (by kernel_rfl) (by kernel_rfl) (by kernel_rfl) (by kernel_rfl) (fun _ _ _ h => h) (Or.inl ⟨by rfl, ?_⟩) ?_; rotate_left; (intro w hw; have hS1 := hw.1 (by kernel_rfl); clear hw; (try dsimp only at hS1); (try go_split_ands); go_simp; try (with_reducible rfl)); simp only [Act.put, List.setIfInBounds_toArray, List.set_cons_zero, List.set_cons_succ])
    (refine Walk.go (i := 4) (o := { dst := some 22, op := Op.call { callee := Callee.value (Operand.func 41), args := #[Operand.tmp 20, Operand.tmp 21], argTypes := #[29, 3] }, type := 29, pos := "scan.go:35", after := #[{ on := 2, ground := Ground.data }, { on := 3, ground := Ground.data }], guard := none }) (by kernel_rfl) rfl (fun K hK => ?_); go_simp; ((go_at_call 41; refine (here_any _ _ _ ha iI).mono ?_; rintro e w2 ⟨rfl, b2⟩; replace cB := b2.keeps (not_nowhere _) cB; replace cA := b2.keeps (not_nowhere _) cA; replace cS := b2.keeps (not_nowhere _) cS; replace cW := b2.keeps (not_nowhere _) cW)); refine hK.out _ _ (⟨fun _ => ⟨cB, cA, cS, cW⟩, fun _ => trivial⟩) ?_; clear hK K; try simp only [Act.put, List.setIfInBounds_toArray, List.set_cons_zero, List.set_cons_succ])
    (refine Walk.go (i := 7) (o := { dst := some 25, op := Op.call { callee := Callee.value (Operand.func 40), args := #[Operand.tmp 22, Operand.tmp 23, Operand.tmp 24], argTypes := #[29, 29, 29] }, type := 29, pos := "scan.go:35", after := #[{ on := 4, ground := Ground.data }, { on := 5, ground := Ground.data }, { on := 6, ground := Ground.data }, { on := 4, ground := Ground.chain }], guard := none }) (by kernel_rfl) rfl (fun K hK => ?_); go_simp; ((go_at_call 40; refine (select_any _ _ _ _).mono ?_; rintro e w3 ⟨rfl, b3⟩; replace cB := b3.keeps (not_nowhere _) cB; replace cA := b3.keeps (not_nowhere _) cA; replace cS := b3.keeps (not_nowhere _) cS; replace cW := b3.keeps (not_nowhere _) cW; have SS := HS.out w3 ((But.refl Nowhere U).drew.trans (b2.trans b3)))); refine hK.out _ _ (⟨fun _ => ⟨cB, cA, cS, cW⟩, fun _ => trivial⟩) ?_; clear hK K; try simp only [Act.put, List.setIfInBounds_toArray, List.set_cons_zero, List.set_cons_succ])
    (refine Walk.go (i := 8) (o := { dst := some 26, op := Op.call { callee := Callee.value (Operand.func 52), args := #[Operand.tmp 18, Operand.tmp 19, Operand.tmp 25], argTypes := #[40, 3, 29] }, type := 0, pos := "scan.go:35", after := #[{ on := 0, ground := Ground.data }, { on := 1, ground := Ground.data }, { on := 7, ground := Ground.data }, { on := 7, ground := Ground.chain }], guard := none }) (by kernel_rfl) rfl (fun K hK => ?_); go_simp; ((go_at_call 52; refine (set_o SS.bf SS.rc SS.ob SS.og hle _ _).mono ?_; rintro e w4 ⟨rfl, hset⟩; have HH := HF.out w3 w4 ((But.refl Nowhere U).drew.trans (b2.trans b3)) hset; obtain ⟨⟨cB, cA, cS, cW⟩, HH⟩ := HH)); refine hK.out _ _ (⟨fun _ => ⟨cB, cA, cS, cW⟩, fun _ => trivial⟩) ?_; clear hK K; try simp only [Act.put, List.setIfInBounds_toArray, List.set_cons_zero, List.set_cons_succ])
    refine Walk.done (by kernel_rfl) ?_ _
    gi_wp2_with fail
    obtain ⟨v9, h9, -⟩ := HH
    first | exact ⟨rfl, v9, h9, trivial⟩ | exact ⟨v9, h9⟩ | exact ⟨rfl, v9, h9⟩
  · intro v1 W' hS hJ hD
    gi_wp2_with fail
    refine ⟨by simp, .inl ⟨_, _, rfl, run_takeDeferred hD, ?_⟩⟩
    refine ⟨_, results_none rfl _ _ _, rfl, ?_⟩
    refine Scn.setO (Scn.close (S := fun k => k = w1.heap.size) hS bw (fun _ q => q.elim) (But.putObj (S := fun k => k = w1.heap.size) (But.refl _ _) (fun _ => rfl) _) ?_) (But.refl _ _) (fun _ q => q.elim)
    rintro k rfl
    exact ⟨by omega, hS.rc.not_deferred hD, by omega, by omega⟩

end Go.Proofs.Ythfdabcknagjoaa
