/- What the document's own answers of layer 4 (Get, Set, Open, Same) tell. -/
import Derived.Test.YthfdabcknagjoaaBufLaw
import Derived.Test.YthfdabcknagjoaaRef
namespace Go.Proofs.Ythfdabcknagjoaa
open Go.ChangeShapes Go.WideShapes Go.ChangeAt Go.RowKit

/-- v is a list of these numbers, in a block of its own, or none. -/
abbrev Nums (w : World) (v : Value) (l : List Int) : Prop := w.ownsRow 0 3 1 v l.length (ints .i64 l)

theorem Nums.set {w : World} {g cap : Nat} {l : List Int} (h : Nums w (.slice (some ⟨g, 0, none⟩) l.length cap) l) (k : Nat) (n : Int) : Nums (w.setCell ⟨g, k, none⟩ (.int .i64 n)) (.slice (some ⟨g, 0, none⟩) l.length cap) (l.set k n) := by
  rcases h.2 with ⟨e, -⟩ | ⟨g', cap', cur, e, hb, hg, hl, hm, hs, hx⟩
  · cases e
  cases e
  refine ⟨by simp [ints_length], .inr ⟨g, cap, cur.setIfInBounds k (.int .i64 n), by simp, hb, ?_, by simpa using hl, hm, by simpa using hs, ?_⟩⟩
  · simp [World.setCell, Array.getElem?_modify, hg]
  · rw [ints_set, ← hx, List.length_set, Array.toList_setIfInBounds, List.take_set]

theorem Nums.form {w : World} {v : Value} {l : List Int} (h : Nums w v l) (hn : l ≠ []) : ∃ g cap, v = .slice (some ⟨g, 0, none⟩) l.length cap ∧ g < w.heap.size ∧ ∀ j (hj : j < l.length), w.cell? ⟨g, j, none⟩ = some (.int .i64 l[j]) ∧ w.frozen? ⟨g, j, none⟩ = false := by
  have hv := View.of_owns h
  rcases h.2 with ⟨-, e⟩ | ⟨g, cap, cur, rfl, _, hg, hl, hm, _⟩
  · exact absurd (List.eq_nil_of_length_eq_zero e) hn
  · refine ⟨g, cap, rfl, (Array.getElem?_eq_some_iff.1 hg).1, fun j hj => ⟨?_, by simp [World.frozen?, hg]⟩⟩
    obtain ⟨-, b, off, e, -, hc⟩ := hv.at j hj
    cases e
    rw [Nat.zero_add] at hc
    exact hc

theorem results_T {fn : Func} {p : Tmp} (h : fn.results = #[.cell p 43]) (tmps : Array Value) (w : World) (g : Nat) (x y : Value) (hp : tmps.getD p undef = .pointer (some ⟨g, 0, none⟩)) (hg : w.cell? ⟨g, 0, none⟩ = some x) (hg1 : w.cell? ⟨g, 1, none⟩ = some y) :
    (results fn tmps).run Try.prog w = .ok (.agg #[x, y]) w := by
  have hu := Try.underlying43
  have h2 := Try.underlying22
  have h3 := Try.underlying41
  have hp' : tmps[p]?.getD undef = .pointer (some ⟨g, 0, none⟩) := by simpa using hp
  simp only [results, h]
  go_simp

theorem results_TI {fn : Func} {p q : Tmp} (h : fn.results = #[.cell p 43, .tmp q]) (tmps : Array Value) (w : World) (g : Nat) (a x y : Value) (hq : tmps.getD q undef = a) (hp : tmps.getD p undef = .pointer (some ⟨g, 0, none⟩)) (hg : w.cell? ⟨g, 0, none⟩ = some x) (hg1 : w.cell? ⟨g, 1, none⟩ = some y) :
    (results fn tmps).run Try.prog w = .ok (.tuple #[.agg #[x, y], a]) w := by
  have hu := Try.underlying43
  have h2 := Try.underlying22
  have h3 := Try.underlying41
  have hp' : tmps[p]?.getD undef = .pointer (some ⟨g, 0, none⟩) := by simpa using hp
  have hq' : tmps[q]?.getD undef = a := by simpa using hq
  simp only [results, h]
  go_simp

/-- The list may have been laid anew, in new memory. -/
def Anew (w : World) (v v' : Value) : Prop := v' = v ∨ ∀ k, v'.ownBlock = some k → w.heap.size ≤ k

/-- A record of numbers and events. -/
abbrev TT (x y : Value) : Obj := .cells #[x, y] 43

set_option maxHeartbeats 1600000 in
set_option maxRecDepth 100000 in
theorem refGet_any {w : World} {x y : Value} {l : List Int} {es : List Ev} (hx : Nums w x l) (hy : Evs w y es) (hl : es.length ≤ 1000000) (hs : l.length ≤ 1000000) (i : Int) : Calls Try.prog 65 #[.agg #[x, y], .int .i64 i] w
    fun e w' => ∃ y', e = .returned (.tuple #[.agg #[x, y'], .int .i64 (word l i)]) ∧ Evs w' y' (es ++ seenAt l i) ∧ Anew w y y' ∧ But Nowhere w w' := by
  obtain ⟨xo, xc, rfl⟩ := (View.of_owns hx).slice
  obtain ⟨yo, yc, rfl⟩ := hy.slice
  have b0 := ((But.refl Nowhere w).alloc (TT (.slice xo l.length xc) (.slice yo es.length yc))).alloc (TT (.slice none 0 0) (.slice none 0 0))
  by_cases hin : 0 ≤ i ∧ i < l.length
  · obtain ⟨h0, h1⟩ := hin
    obtain ⟨k, rfl⟩ : ∃ k : Nat, i = (k : Int) := ⟨i.toNat, by omega⟩
    have hk : k < l.length := by omega
    rw [seenAt_in l _ h0 h1, word_at l k hk]
    have hne : l ≠ [] := by intro e; subst e; simp at hk
    obtain ⟨g, cap, e, hg, hcs⟩ := hx.form hne
    cases e
    have n1 : ¬ (k : Int) < 0 := by omega
    have n2 : decide ((l.length : Int) ≤ (k : Int)) = false := by simp; omega
    go_enter Try.func65, Try.ntmps65
    go_wp2_with fail
    refine (refAdd_any _ _ _ _ _ (b0.owns hy (fun _ _ f => f)) hl).mono ?_
    rintro e w2 ⟨y', rfl, hy', hn, b2⟩
    obtain ⟨yo', yc', rfl⟩ := hy'.slice
    have kA := b2.keeps (p := ⟨w.heap.size, 0, none⟩) (v := .slice (some ⟨g, 0, none⟩) l.length xc) (not_nowhere _) (by go_simp)
    have kB := b2.keeps (p := ⟨w.heap.size, 1, none⟩) (v := .slice yo es.length yc) (not_nowhere _) (by go_simp)
    have fB := b2.thaws (p := ⟨w.heap.size, 1, none⟩) (v := .slice yo es.length yc) (not_nowhere _) (by go_simp) (by go_simp)
    have kC := b2.keeps (p := ⟨w.heap.size + 1, 0, none⟩) (v := .slice none 0 0) (not_nowhere _) (by go_simp)
    have fC := b2.thaws (p := ⟨w.heap.size + 1, 0, none⟩) (v := .slice none 0 0) (not_nowhere _) (by go_simp) (by go_simp)
    have kD := b2.keeps (p := ⟨w.heap.size + 1, 1, none⟩) (v := .slice none 0 0) (not_nowhere _) (by go_simp)
    have fD := b2.thaws (p := ⟨w.heap.size + 1, 1, none⟩) (v := .slice none 0 0) (not_nowhere _) (by go_simp) (by go_simp)
    have kE := (b0.trans b2).keeps (not_nowhere _) (hcs k hk).1
    have nE : g ≠ w.heap.size := by omega
    have nE2 : g ≠ w.heap.size + 1 := by omega
    obtain ⟨m, hm⟩ : ∃ m, (es ++ [((1 : Int), (k : Int))]).length = m := ⟨_, rfl⟩
    have hyn : ∀ q, (Value.slice yo' m yc').ownBlock = some q → w.heap.size + 1 < q := fun q hq => by rw [hm] at hn; have := hn q hq; simp at this; omega
    have b3 : But (fun q => q = w.heap.size) w2 (w2.setCell ⟨w.heap.size, 1, none⟩ (.slice yo' m yc')) := But.setCell (S := fun q => q = w.heap.size) (But.refl _ _) (fun _ => rfl) _
    have hfin : ∀ W, But (fun q => q = w.heap.size + 1) (w2.setCell ⟨w.heap.size, 1, none⟩ (.slice yo' m yc')) W → Evs W (.slice yo' m yc') (es ++ [((1 : Int), (k : Int))]) ∧ Anew w (.slice yo es.length yc) (.slice yo' m yc') ∧ But Nowhere w W := fun W hW => by
      rw [hm] at hy'
      refine ⟨hW.owns (b3.owns hy' (fun q hq e => by have := hyn q hq; omega)) (fun q hq e => by have := hyn q hq; omega), .inr (fun q hq => by have := hyn q hq; omega), ?_⟩
      exact ((b0.trans b2).step b3 (fun q hq e => by omega)).step hW (fun q hq e => by omega)
    have HF : Hid (∀ W, But (fun q => q = w.heap.size + 1) (w2.setCell ⟨w.heap.size, 1, none⟩ (.slice yo' m yc')) W → Evs W (.slice yo' m yc') (es ++ [((1 : Int), (k : Int))]) ∧ Anew w (.slice yo es.length yc) (.slice yo' m yc') ∧ But Nowhere w W) := hfin
    have jA : (w2.setCell ⟨w.heap.size, 1, none⟩ (.slice yo' m yc')).cell? ⟨w.heap.size, 0, none⟩ = some (.slice (some ⟨g, 0, none⟩) l.length xc) := by go_simp
    have jB : (w2.setCell ⟨w.heap.size, 1, none⟩ (.slice yo' m yc')).cell? ⟨w.heap.size, 1, none⟩ = some (.slice yo' m yc') := by go_simp
    have nCw : ¬ (w.heap.size + 1 = w.heap.size) := by omega
    have jC := b3.keeps nCw kC
    have jFC := b3.thaws nCw kC fC
    have jD := b3.keeps nCw kD
    have jFD := b3.thaws nCw kD fD
    have jE := b3.keeps nE kE
    rw [hm]
    go_wp2_with fail
    clear kA kB kC kD kE fB fC fD hfin b3 hyn hn hy' b2 b0 hx hy hcs hm
    generalize w2.setCell ⟨w.heap.size, 1, none⟩ (.slice yo' m yc') = W3 at *
    go_region
    all_goals
      go_wp2_with fail
      refine bodyPost_ret (results_TI rfl _ _ (w.heap.size + 1) _ _ _ rfl rfl (by go_simp) (by go_simp)) rfl ⟨_, rfl, HF.out _ ?_⟩
      exact (But.setCell (S := fun q => q = w.heap.size + 1) (But.setCell (S := fun q => q = w.heap.size + 1) (But.refl _ _) (fun _ => rfl) _) (fun _ => rfl) _).drew
  · have hout : i < 0 ∨ l.length ≤ i := by omega
    rw [seenAt_out l i hout, word_out l i hout, List.append_nil]
    have b1 := ((But.refl Nowhere w).alloc (TT (.slice xo l.length xc) (.slice yo es.length yc))).alloc (TT (.slice xo l.length xc) (.slice yo es.length yc))
    have hy1 := b1.owns hy (fun _ _ f => f)
    have HY : Hid (Evs _ (.slice yo es.length yc) es) := hy1
    clear hy1 hx hy hin b0
    go_enter Try.func65, Try.ntmps65
    rcases (show i < 0 ∨ (¬ i < 0 ∧ decide ((l.length : Int) ≤ i) = true) by
      rcases hout with h | h
      · exact .inl h
      · exact .inr ⟨by omega, by simpa using h⟩) with h1 | ⟨h1, h2⟩
    all_goals
      clear hout
      go_wp2_with fail
      exact bodyPost_ret (results_TI rfl _ _ (w.heap.size + 1) _ _ _ rfl rfl (by go_simp) (by go_simp)) rfl ⟨_, rfl, HY.out, .inl rfl, b1⟩

set_option maxHeartbeats 1600000 in
set_option maxRecDepth 100000 in
theorem refSet_any {w : World} {x y : Value} {l : List Int} {es : List Ev} (hx : Nums w x l) (hy : Evs w y es) (hl : es.length ≤ 1000000) (hs : l.length ≤ 1000000) (i n : Int) : Calls Try.prog 67 #[.agg #[x, y], .int .i64 i, .int .i64 n] w
    fun e w' => ∃ x' y', e = .returned (.agg #[x', y']) ∧ Nums w' x' (lay l i n) ∧ Evs w' y' (es ++ seenAt l i) ∧ Anew w x x' ∧ Anew w y y' ∧ But Nowhere w w' := by
  obtain ⟨xo, xc, rfl⟩ := (View.of_owns hx).slice
  obtain ⟨yo, yc, rfl⟩ := hy.slice
  have b0 := ((But.refl Nowhere w).alloc (TT (.slice xo l.length xc) (.slice yo es.length yc))).alloc (TT (.slice none 0 0) (.slice none 0 0))
  by_cases hin : 0 ≤ i ∧ i < l.length
  · obtain ⟨h0, h1⟩ := hin
    obtain ⟨k, rfl⟩ : ∃ k : Nat, i = (k : Int) := ⟨i.toNat, by omega⟩
    have hk : k < l.length := by omega
    rw [seenAt_in l _ h0 h1, lay_at]
    have hne : l ≠ [] := by intro e; subst e; simp at hk
    have n1 : ¬ (k : Int) < 0 := by omega
    have n2 : decide ((l.length : Int) ≤ (k : Int)) = false := by simp; omega
    obtain ⟨x', w2, hrun, x1, x2, b2⟩ := append_ints ((View.of_owns hx).but b0) hs
    obtain ⟨g, cap, rfl, hg, hcs⟩ := Nums.form x1 hne
    obtain ⟨c1, f1⟩ := hcs k hk
    have hgn : w.heap.size + 1 < g := by have := x2 g rfl; simp at this; omega
    have kA := b2.keeps (p := ⟨w.heap.size, 0, none⟩) (v := .slice xo l.length xc) (not_nowhere _) (by go_simp)
    have fA := b2.thaws (p := ⟨w.heap.size, 0, none⟩) (v := .slice xo l.length xc) (not_nowhere _) (by go_simp) (by go_simp)
    have kB := b2.keeps (p := ⟨w.heap.size, 1, none⟩) (v := .slice yo es.length yc) (not_nowhere _) (by go_simp)
    have fB := b2.thaws (p := ⟨w.heap.size, 1, none⟩) (v := .slice yo es.length yc) (not_nowhere _) (by go_simp) (by go_simp)
    have kC := b2.keeps (p := ⟨w.heap.size + 1, 0, none⟩) (v := .slice none 0 0) (not_nowhere _) (by go_simp)
    have fC := b2.thaws (p := ⟨w.heap.size + 1, 0, none⟩) (v := .slice none 0 0) (not_nowhere _) (by go_simp) (by go_simp)
    have kD := b2.keeps (p := ⟨w.heap.size + 1, 1, none⟩) (v := .slice none 0 0) (not_nowhere _) (by go_simp)
    have fD := b2.thaws (p := ⟨w.heap.size + 1, 1, none⟩) (v := .slice none 0 0) (not_nowhere _) (by go_simp) (by go_simp)
    have nE : g ≠ w.heap.size := by omega
    have nE2 : g ≠ w.heap.size + 1 := by omega
    go_enter Try.func67, Try.ntmps67
    go_wp2_with (at_builtin; refine wpList_append_run rfl _ _ _ rfl _ _ (by rfl) (by rfl) _ _ hrun ?_)
    have b4 : But (fun q => q = w.heap.size ∨ q = g) w2 ((w2.setCell ⟨g, k, none⟩ (.int .i64 n)).setCell ⟨w.heap.size, 0, none⟩ (.slice (some ⟨g, 0, none⟩) l.length cap)) :=
      But.setCell (S := fun q => q = w.heap.size ∨ q = g) (But.setCell (S := fun q => q = w.heap.size ∨ q = g) (But.refl _ _) (fun _ => .inr rfl) _) (fun _ => .inl rfl) _
    have hy4 := b4.owns ((b0.trans b2).owns hy (fun _ _ f => f)) (fun q hq e => by have := (World.ownsRow.lt hy q hq).2; omega)
    have hx4 : Nums ((w2.setCell ⟨g, k, none⟩ (.int .i64 n)).setCell ⟨w.heap.size, 0, none⟩ (.slice (some ⟨g, 0, none⟩) l.length cap)) (.slice (some ⟨g, 0, none⟩) l.length cap) (l.set k n) :=
      (But.setCell (S := fun q => q = w.heap.size) (But.refl _ _) (fun _ => rfl) _).owns (Nums.set x1 k n) (fun q hq e => by simp [Value.ownBlock] at hq; omega)
    have g4 : But Nowhere w ((w2.setCell ⟨g, k, none⟩ (.int .i64 n)).setCell ⟨w.heap.size, 0, none⟩ (.slice (some ⟨g, 0, none⟩) l.length cap)) := (b0.trans b2).step b4 (fun q hq e => by omega)
    have s4 : w.heap.size + 1 + 1 ≤ ((w2.setCell ⟨g, k, none⟩ (.int .i64 n)).setCell ⟨w.heap.size, 0, none⟩ (.slice (some ⟨g, 0, none⟩) l.length cap)).heap.size := by have := b4.size; have := b2.size; simp at *; omega
    have nC : ¬ (w.heap.size + 1 = w.heap.size ∨ w.heap.size + 1 = g) := by omega
    replace fC := b4.thaws nC kC fC
    replace kC := b4.keeps nC kC
    replace fD := b4.thaws nC kD fD
    replace kD := b4.keeps nC kD
    have nE3 : w.heap.size ≠ g := by omega
    have jA : ((w2.setCell ⟨g, k, none⟩ (.int .i64 n)).setCell ⟨w.heap.size, 0, none⟩ (.slice (some ⟨g, 0, none⟩) l.length cap)).cell? ⟨w.heap.size, 0, none⟩ = some (.slice (some ⟨g, 0, none⟩) l.length cap) := by go_simp
    have jB : ((w2.setCell ⟨g, k, none⟩ (.int .i64 n)).setCell ⟨w.heap.size, 0, none⟩ (.slice (some ⟨g, 0, none⟩) l.length cap)).cell? ⟨w.heap.size, 1, none⟩ = some (.slice yo es.length yc) := by go_simp
    have jFB : ((w2.setCell ⟨g, k, none⟩ (.int .i64 n)).setCell ⟨w.heap.size, 0, none⟩ (.slice (some ⟨g, 0, none⟩) l.length cap)).frozen? ⟨w.heap.size, 1, none⟩ = false := by go_simp
    clear kA fA kB fB c1 f1 hcs hrun x1 x2 b4 b2 b0 hx hy hg
    generalize (w2.setCell ⟨g, k, none⟩ (.int .i64 n)).setCell ⟨w.heap.size, 0, none⟩ (.slice (some ⟨g, 0, none⟩) l.length cap) = W4 at *
    refine (refAdd_any _ _ _ _ _ hy4 hl).mono ?_
    rintro e w5 ⟨y', rfl, hy', hn, b5⟩
    obtain ⟨yo', yc', rfl⟩ := hy'.slice
    replace hx4 := b5.owns hx4 (fun _ _ f => f)
    replace g4 := g4.trans b5
    replace fC := b5.thaws (not_nowhere _) kC fC
    replace kC := b5.keeps (not_nowhere _) kC
    replace fD := b5.thaws (not_nowhere _) kD fD
    replace kD := b5.keeps (not_nowhere _) kD
    replace jA := b5.keeps (not_nowhere _) jA
    replace jFB := b5.thaws (not_nowhere _) jB jFB
    replace jB := b5.keeps (not_nowhere _) jB
    obtain ⟨m, hm⟩ : ∃ m, (es ++ [((1 : Int), (k : Int))]).length = m := ⟨_, rfl⟩
    rw [hm] at hn hy' ⊢
    have hyn : ∀ q, (Value.slice yo' m yc').ownBlock = some q → w.heap.size + 1 < q := fun q hq => by have := hn q hq; omega
    have hfin : ∀ W, But (fun q => q = w.heap.size ∨ q = w.heap.size + 1) w5 W → Nums W (.slice (some ⟨g, 0, none⟩) l.length cap) (l.set k n) ∧ Evs W (.slice yo' m yc') (es ++ [((1 : Int), (k : Int))]) ∧ Anew w (.slice xo l.length xc) (.slice (some ⟨g, 0, none⟩) l.length cap) ∧ Anew w (.slice yo es.length yc) (.slice yo' m yc') ∧ But Nowhere w W := fun W hW => by
      refine ⟨hW.owns hx4 (fun q hq e => by simp [Value.ownBlock] at hq; omega), hW.owns hy' (fun q hq e => by have := hyn q hq; omega), .inr (fun q hq => by simp [Value.ownBlock] at hq; omega), .inr (fun q hq => by have := hyn q hq; omega), g4.step hW (fun q hq e => by omega)⟩
    have HF : Hid (∀ W, But (fun q => q = w.heap.size ∨ q = w.heap.size + 1) w5 W → Nums W (.slice (some ⟨g, 0, none⟩) l.length cap) (l.set k n) ∧ Evs W (.slice yo' m yc') (es ++ [((1 : Int), (k : Int))]) ∧ Anew w (.slice xo l.length xc) (.slice (some ⟨g, 0, none⟩) l.length cap) ∧ Anew w (.slice yo es.length yc) (.slice yo' m yc') ∧ But Nowhere w W) := hfin
    clear hfin hyn hm hn hy' hx4 hy4 g4 b5 s4
    go_wp2_with fail
    refine bodyPost_ret (results_T rfl _ _ (w.heap.size + 1) _ _ rfl (by go_simp) (by go_simp)) rfl ⟨_, _, rfl, HF.out _ ?_⟩
    exact But.setCell (S := fun q => q = w.heap.size ∨ q = w.heap.size + 1) (But.setCell (S := fun q => q = w.heap.size ∨ q = w.heap.size + 1) (But.setCell (S := fun q => q = w.heap.size ∨ q = w.heap.size + 1) (But.refl _ _) (fun _ => .inl rfl) _) (fun _ => .inr rfl) _) (fun _ => .inr rfl) _
  · have hout : i < 0 ∨ l.length ≤ i := by omega
    rw [seenAt_out l i hout, lay_out l i n hout, List.append_nil]
    have b1 := ((But.refl Nowhere w).alloc (TT (.slice xo l.length xc) (.slice yo es.length yc))).alloc (TT (.slice xo l.length xc) (.slice yo es.length yc))
    have hy1 := b1.owns hy (fun _ _ f => f)
    have HY : Hid (Evs _ (.slice yo es.length yc) es) := hy1
    have hx1 := b1.owns hx (fun _ _ f => f)
    have HX : Hid (Nums _ (.slice xo l.length xc) l) := hx1
    clear hy1 hx1 hx hy hin b0
    go_enter Try.func67, Try.ntmps67
    rcases (show i < 0 ∨ (¬ i < 0 ∧ decide ((l.length : Int) ≤ i) = true) by
      rcases hout with h | h
      · exact .inl h
      · exact .inr ⟨by omega, by simpa using h⟩) with h1 | ⟨h1, h2⟩
    all_goals
      clear hout
      go_wp2_with fail
      exact bodyPost_ret (results_T rfl _ _ (w.heap.size + 1) _ _ rfl (by go_simp) (by go_simp)) rfl ⟨_, _, rfl, HX.out, HY.out, .inl rfl, .inl rfl, b1⟩

/-- What the loop of Open has reached: t and its result lie in two new blocks. -/
structure Opening (w W : World) (x y y' : Value) (es : List Ev) : Prop where
  c0 : W.cell? ⟨w.heap.size, 0, none⟩ = some x
  c1 : W.cell? ⟨w.heap.size, 1, none⟩ = some y'
  f1 : W.frozen? ⟨w.heap.size, 1, none⟩ = false
  d0 : W.cell? ⟨w.heap.size + 1, 0, none⟩ = some (.slice none 0 0)
  g0 : W.frozen? ⟨w.heap.size + 1, 0, none⟩ = false
  d1 : W.cell? ⟨w.heap.size + 1, 1, none⟩ = some (.slice none 0 0)
  g1 : W.frozen? ⟨w.heap.size + 1, 1, none⟩ = false
  evs : Evs W y' es
  off : ∀ q, y'.ownBlock = some q → q ≠ w.heap.size ∧ q ≠ w.heap.size + 1
  anew : Anew w y y'
  size : w.heap.size + 1 + 1 ≤ W.heap.size
  but : But Nowhere w W

theorem Opening.step {w W W2 : World} {x y y' z : Value} {es fs : List Ev} (h : Opening w W x y y' es) (hz : Evs W2 z fs) (hn : ∀ q, z.ownBlock = some q → W.heap.size ≤ q) (hb : But Nowhere W W2) : Opening w (W2.setCell ⟨w.heap.size, 1, none⟩ z) x y z fs := by
  have c1 := hb.keeps (not_nowhere _) h.c1
  have c0 := hb.keeps (not_nowhere _) h.c0
  have f1 := hb.thaws (not_nowhere _) h.c1 h.f1
  have b3 : But (fun q => q = w.heap.size) W2 (W2.setCell ⟨w.heap.size, 1, none⟩ z) := But.setCell (S := fun q => q = w.heap.size) (But.refl _ _) (fun _ => rfl) _
  have nC : ¬ (w.heap.size + 1 = w.heap.size) := by omega
  have hs := h.size
  refine ⟨by go_simp, cell_set c1, by go_simp, b3.keeps nC (hb.keeps (not_nowhere _) h.d0), b3.thaws nC (hb.keeps (not_nowhere _) h.d0) (hb.thaws (not_nowhere _) h.d0 h.g0), b3.keeps nC (hb.keeps (not_nowhere _) h.d1), b3.thaws nC (hb.keeps (not_nowhere _) h.d1) (hb.thaws (not_nowhere _) h.d1 h.g1), b3.owns hz (fun q hq e => by have := hn q hq; omega), fun q hq => by have := hn q hq; omega, .inr (fun q hq => by have := hn q hq; omega), ?_, (h.but.trans hb).step b3 (fun q hq e => by omega)⟩
  have := b3.size
  have := hb.size
  omega

end Go.Proofs.Ythfdabcknagjoaa
