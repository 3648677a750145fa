/- The helpers of layer 4's laws: the chapter's example, a buffer of numbers. -/
import Derived.Test.YthfdabcknagjoaaBuf3
import Derived.Test.YthfdabcknagjoaaRead
import Derived.Maps.AppendAt
namespace Go.Proofs.Ythfdabcknagjoaa
open Go.ChangeShapes Go.WideShapes Go.ChangeAt Go.RowKit

/-- A recorder and a buffer that records with it, both made behind w0. -/
structure Bo (w0 w : World) (o : Nat) (v : Value) (es : List Ev) (b g : Nat) (l : List Int) : Prop where
  rc : Rec w o v es
  bf : Bf w b g (ptr (some o)) l
  offb : ¬ Foot o v b
  offg : ¬ Foot o v g
  newr : ∀ k, Foot o v k → w0.heap.size ≤ k
  newb : w0.heap.size ≤ b
  newg : w0.heap.size ≤ g
  but : But Nowhere w0 w

/-- Its blocks. -/
def FootB (o : Nat) (v : Value) (b g : Nat) : Nat → Prop := fun k => Foot o v k ∨ k = b ∨ k = g

theorem Bo.rcO {w0 w : World} {o : Nat} {v : Value} {es : List Ev} {b g : Nat} {l : List Int} (h : Bo w0 w o v es b g l) : RcO w (some o) v es := .inr ⟨o, rfl, h.rc⟩
theorem footO_some {o : Nat} {v : Value} {k : Nat} : FootO (some o) v k ↔ Foot o v k := ⟨fun ⟨b, e, h⟩ => by cases e; exact h, fun h => ⟨o, rfl, h⟩⟩
theorem Bo.ob {w0 w : World} {o : Nat} {v : Value} {es : List Ev} {b g : Nat} {l : List Int} (h : Bo w0 w o v es b g l) : ¬ FootO (some o) v b := fun f => h.offb (footO_some.1 f)
theorem Bo.og {w0 w : World} {o : Nat} {v : Value} {es : List Ev} {b g : Nat} {l : List Int} (h : Bo w0 w o v es b g l) : ¬ FootO (some o) v g := fun f => h.offg (footO_some.1 f)
theorem Bo.lt {w0 w : World} {o : Nat} {v : Value} {es : List Ev} {b g : Nat} {l : List Int} (h : Bo w0 w o v es b g l) {k : Nat} (hk : FootB o v b g k) : k < w.heap.size := by
  rcases hk with hk | rfl | rfl
  · exact h.rc.foot_lt hk
  · exact h.bf.lt
  · exact h.bf.row.lt
theorem Bo.new {w0 w : World} {o : Nat} {v : Value} {es : List Ev} {b g : Nat} {l : List Int} (h : Bo w0 w o v es b g l) {k : Nat} (hk : FootB o v b g k) : w0.heap.size ≤ k := by
  rcases hk with hk | rfl | rfl
  · exact h.newr _ hk
  · exact h.newb
  · exact h.newg

/-- Something else turned, or was made. -/
theorem Bo.butS {S : Nat → Prop} {w0 w w' : World} {o : Nat} {v : Value} {es : List Ev} {b g : Nat} {l : List Int} (h : Bo w0 w o v es b g l) (hb : But S w w') (hs : ∀ k, FootB o v b g k → ¬ S k) (hn : ∀ k, k < w0.heap.size → ¬ S k) : Bo w0 w' o v es b g l :=
  ⟨h.rc.but hb (fun k hk => hs k (.inl hk)), h.bf.but hb (hs _ (.inr (.inl rfl))) (hs _ (.inr (.inr rfl))), h.offb, h.offg, h.newr, h.newb, h.newg, h.but.step hb (fun i hi f => (hn i hi f).elim)⟩

theorem Bo.step {w0 w w' : World} {o : Nat} {v : Value} {es : List Ev} {b g : Nat} {l : List Int} (h : Bo w0 w o v es b g l) (hb : But Nowhere w w') : Bo w0 w' o v es b g l := h.butS hb (fun _ _ f => f) (fun _ _ f => f)

theorem Bo.back {w00 w0 w : World} {o : Nat} {v : Value} {es : List Ev} {b g : Nat} {l : List Int} (h : Bo w0 w o v es b g l) (hb : But Nowhere w00 w0) : Bo w00 w o v es b g l :=
  ⟨h.rc, h.bf, h.offb, h.offg, fun k hk => Nat.le_trans hb.size (h.newr k hk), Nat.le_trans hb.size h.newb, Nat.le_trans hb.size h.newg, hb.trans h.but⟩

theorem Moved.footB {w : World} {o b g : Nat} {v v' : Value} (h : Moved w v v') {k : Nat} (hk : k < w.heap.size) (hf : ¬ FootB o v b g k) : ¬ FootB o v' b g k := by
  rintro (f | f)
  · exact h.foot (o := some o) hk (fun q => hf (.inl (footO_some.1 q))) (footO_some.2 f)
  · exact hf (.inr f)

/-- A word was got, or told: only the recorder has turned. -/
theorem Bo.laid {w0 w w' : World} {o : Nat} {v : Value} {es fs : List Ev} {b g : Nat} {l : List Int} (h : Bo w0 w o v es b g l) (hl : LaidO w w' (some o) v fs) :
    ∃ v', Bo w0 w' o v' fs b g l ∧ Moved w v v' ∧ But (FootB o v b g) w w' := by
  obtain ⟨v', h1, h2, h3⟩ := hl
  rcases h1 with ⟨e, -⟩ | ⟨o', e, hr⟩
  · cases e
  cases e
  refine ⟨v', ⟨hr, h.bf.but h3 h.ob h.og, fun f => h2.foot h.bf.lt h.ob (footO_some.2 f), fun f => h2.foot h.bf.row.lt h.og (footO_some.2 f), fun k hk => ?_, h.newb, h.newg, h.but.step h3 (fun i hi f => ?_)⟩, h2, h3.mono (fun k _ f => .inl (footO_some.1 f))⟩
  · rcases Nat.lt_or_ge k w.heap.size with hlt | hge
    · exact h.newr k (footO_some.1 (h2.foot_back hlt (footO_some.2 hk)))
    · exact Nat.le_trans h.but.size hge
  · have := h.newr i (footO_some.1 f); omega

/-- A word was laid. -/
theorem Bo.set {w0 w w' : World} {o : Nat} {v : Value} {es fs : List Ev} {b g : Nat} {l m : List Int} (h : Bo w0 w o v es b g l) (hl : SetO w w' b g (some o) v fs m) :
    ∃ v', Bo w0 w' o v' fs b g m ∧ Moved w v v' ∧ But (FootB o v b g) w w' := by
  obtain ⟨v', h1, h2, h3, h4⟩ := hl
  rcases h1 with ⟨e, -⟩ | ⟨o', e, hr⟩
  · cases e
  cases e
  refine ⟨v', ⟨hr, h3, fun f => h2.foot h.bf.lt h.ob (footO_some.2 f), fun f => h2.foot h.bf.row.lt h.og (footO_some.2 f), fun k hk => ?_, h.newb, h.newg, h.but.step h4 (fun i hi f => ?_)⟩, h2, h4.mono (fun k _ f => f.elim (fun q => .inl (footO_some.1 q)) (fun q => .inr (.inr q)))⟩
  · rcases Nat.lt_or_ge k w.heap.size with hlt | hge
    · exact h.newr k (footO_some.1 (h2.foot_back hlt (footO_some.2 hk)))
    · exact Nat.le_trans h.but.size hge
  · rcases f with f | f
    · have := h.newr i (footO_some.1 f); omega
    · have := h.newg; omega

/-- A buffer made with a recorder that was made just now. -/
theorem Bo.start {w0 w1 w2 : World} {o : Nat} {v : Value} {es : List Ev} {b g : Nat} {l : List Int} (h : Own w0 w1 o v es) (m : Made w1 w2 b g (ptr (some o)) l) : Bo w0 w2 o v es b g l :=
  ⟨h.rcd.but m.but (fun _ _ f => f), m.bf, fun f => by have := h.rcd.foot_lt f; have := m.newb; omega, fun f => by have := h.rcd.foot_lt f; have := m.newg; omega, h.new, Nat.le_trans h.but.size m.newb, Nat.le_trans h.but.size m.newg, h.but.trans m.but⟩

theorem Bo.get {w0 w : World} {o : Nat} {v : Value} {es : List Ev} {b g : Nat} {l : List Int} (h : Bo w0 w o v es b g l) (hl : es.length ≤ 1000000) (i : Int) :
    Calls Try.prog 77 #[.pointer (some ⟨b, 0, none⟩), .int .i64 i] w fun e w' => e = .returned (S64 (word l i)) ∧ ∃ v', Bo w0 w' o v' (es ++ seenAt l i) b g l ∧ Moved w v v' ∧ But (FootB o v b g) w w' :=
  (get_o h.bf h.rcO h.ob h.og hl i).mono fun _ _ ⟨he, hL⟩ => ⟨he, h.laid hL⟩

theorem Bo.setAt {w0 w : World} {o : Nat} {v : Value} {es : List Ev} {b g : Nat} {l : List Int} (h : Bo w0 w o v es b g l) (hl : es.length ≤ 1000000) (i n : Int) :
    Calls Try.prog 52 #[.pointer (some ⟨b, 0, none⟩), .int .i64 i, S64 n] w fun e w' => e = .returned (.tuple #[]) ∧ ∃ v', Bo w0 w' o v' (es ++ seenAt l i) b g (lay l i n) ∧ Moved w v v' ∧ But (FootB o v b g) w w' :=
  (set_o h.bf h.rcO h.ob h.og hl i n).mono fun _ _ ⟨he, hL⟩ => ⟨he, h.set hL⟩

theorem View.news {w : World} {k : IntKind} {b off : Nat} {l : List Int} (hc : ∀ i (hi : i < l.length), w.cell? ⟨b, off + i, none⟩ = some (.int k l[i])) : ∀ j u, (ints k l)[j]? = some u → w.cell? ((⟨b, off, none⟩ : Addr).add j) = some u := by
  intro j u hj
  have hl := (List.getElem?_eq_some_iff.1 hj).1
  rw [ints_length] at hl
  rw [ints_at _ _ _ hl] at hj
  rw [← hj, Addr.add_lit]
  exact hc j hl

/-- A copy of a list of numbers, in new memory. -/
def Copied (w w' : World) (t : TypeId) (v : Value) (l : List Int) : Prop := w'.ownsRow 0 t 1 v l.length (ints .i64 l) ∧ (∀ x, v.ownBlock = some x → w.heap.size ≤ x) ∧ But Nowhere w w'

theorem append_ints {w : World} {v : Value} {l : List Int} (h : View w .i64 v l) (hl : l.length ≤ 1000000) :
    ∃ v' w', (Builtin.append_ #[22, 22] 22 #[.slice none 0 0, v]).run Try.prog w = .ok v' w' ∧ Copied w w' 3 v' l := by
  obtain ⟨i0, hi0, hz0, hz1, hz2⟩ := info_parts Try.infoInts
  have hu := Try.underlying22
  obtain ⟨ao, cap, rfl, h⟩ := h
  by_cases hn : l = []
  · subst hn
    refine ⟨.slice none 0 0, w, ?_, World.ownsRow_nil _ _ _ _, by simp [Value.ownBlock], But.refl _ _⟩
    have hl0 : ∀ (x : Addr), (loadCells x 0).run Try.prog w = .ok #[] w := fun x => by simpa using run_loadCells_list (P := Try.prog) w x [] (by simp)
    cases ao <;> simp [Builtin.append_, run_underlying hu, sizeOf, typeInfo, hi0, Builtin.lenOf, Builtin.firstCells, hl0]
  · obtain ⟨b, off, rfl, hlt, hc⟩ := h hn
    obtain ⟨v', w', hr, h2, h3, -, h5⟩ := run_append_own_at (P := Try.prog) w 0 22 22 3 i0 _ 1 8 hu hi0 hz0 hz1 hz2 rfl (by omega) (.slice none 0 0) 0 [] (World.ownsRow_nil _ _ _ _) ⟨b, off, none⟩ l.length cap (ints .i64 l) (by simp [ints_length]) (View.news hc) (ints_one _ _) (by unfold maxLen; omega) (by omega) (by omega)
    refine ⟨v', w', hr, by simpa using h2, fun x hx => ?_, (But.refl _ _).grown h3 (fun k hk => by simp [Value.ownBlock] at hk)⟩
    rcases h5 with e | e
    · rw [e] at hx; simp [Value.ownBlock] at hx
    · rw [e] at hx; simp at hx; omega

theorem Evs.slice {w : World} {v : Value} {es : List Ev} (h : Evs w v es) : ∃ a cap, v = .slice a es.length cap := by
  rcases h.form with ⟨rfl, rfl⟩ | ⟨g, cap, rfl, -⟩
  · exact ⟨none, 0, rfl⟩
  · exact ⟨_, _, rfl⟩

/-- At an append whose run is known. -/
theorem wpList_append_run {P : Program} {w : World} {ops : Array Oper} {rest : List Oper} {o : Oper} {a : Act} {Q : Exit → Act → World → Prop} (hgd : o.guard = none) (s x : Operand) (t : TypeId)
    (ho : o.op = .call { callee := .builtin .append, args := #[s, x], argTypes := #[t, t] }) (v u : Value) (hs : a.eval s = v) (hx : a.eval x = u) (v' : Value) (w' : World)
    (hr : (Builtin.append_ #[t, t] o.type #[v, u]).run P w = .ok v' w') (h : wpList P ops Q rest (a.put o.dst v') w') : wpList P ops Q (o :: rest) a w := by
  refine wpList_plain hgd fun K hK => ?_
  unfold Oper.wp execOp
  simp only [ho, resolve, invoke, builtin, Sem.run_bind, Sem.run_pure, Result.andThen_ok, List.map_toArray, List.map_cons, List.map_nil, hs, hx, hr]
  exact hK _ _ h

/-- One word more. -/
theorem push_sec {w w1 : World} {s : Value} {l : List Int} (n : Int) (h : Copied w w1 29 s l) (hl : l.length ≤ 1000000) :
    ∃ s' w2, (Builtin.append_ #[58, 58] 58 #[s, .slice (some ⟨w1.heap.size, 0, none⟩) 1 1]).run Try.prog (w1.alloc (.cells #[.int .i64 n] 29)) = .ok s' w2 ∧ Copied w w2 29 s' (l ++ [n]) := by
  obtain ⟨i0, hi0, hz0, hz1, hz2⟩ := info_parts Try.infoSecs
  obtain ⟨h1, h2, h3⟩ := h
  obtain ⟨v', w', hr, k2, k3, -, k5⟩ := run_append_own_at (P := Try.prog) (w1.alloc (.cells #[.int .i64 n] 29)) 0 58 58 29 i0 _ 1 8 Try.underlying58 hi0 hz0 hz1 hz2 rfl (by omega) s l.length (ints .i64 l) (h1.alloc _) ⟨w1.heap.size, 0, none⟩ 1 1 [.int .i64 n] rfl
    (World.news_of_block (cs := #[.int .i64 n]) (t := 29) (fr := (0, 0)) (heap_alloc_new w1 _)) (by simp [Value.oneCell']) (by unfold maxLen; omega) (by omega) (by omega)
  refine ⟨v', w', hr, by simpa [ints] using k2, fun x hx => ?_, (h3.alloc _).grown k3 (fun k hk hlt => by have := h2 k hk; omega)⟩
  rcases k5 with e | e
  · exact h2 x (by rw [← e]; exact hx)
  · rw [e] at hx
    simp at hx
    have := h3.size
    omega

theorem Copied.but {w w1 w2 : World} {t : TypeId} {s : Value} {l : List Int} (h : Copied w w1 t s l) (hb : But Nowhere w1 w2) : Copied w w2 t s l := ⟨hb.owns h.1 (fun _ _ f => f), h.2.1, h.2.2.trans hb⟩

theorem Copied.view {w w1 : World} {t : TypeId} {s : Value} {l : List Int} (h : Copied w w1 t s l) : View w1 .i64 s l := View.of_owns h.1

/-- Where a word of it lies. -/
theorem Copied.slot {w w1 : World} {t : TypeId} {s : Value} {l : List Int} (h : Copied w w1 t s l) (hn : l ≠ []) : ∃ g cap, s = .slice (some ⟨g, 0, none⟩) l.length cap ∧ g < w1.heap.size ∧ w.heap.size ≤ g ∧ ∀ j (hj : j < l.length), w1.cell? ⟨g, j, none⟩ = some (.int .i64 l[j]) ∧ w1.frozen? ⟨g, j, none⟩ = false := by
  obtain ⟨h1, h2, h3⟩ := h
  have hv := View.of_owns h1
  rcases h1.2 with ⟨-, e⟩ | ⟨g, cap, cur, rfl, _, hg, hl, hm, _⟩
  · exact absurd (List.eq_nil_of_length_eq_zero e) hn
  · refine ⟨g, cap, rfl, (Array.getElem?_eq_some_iff.1 hg).1, h2 g rfl, fun j hj => ⟨?_, by simp [World.frozen?, hg]⟩⟩
    obtain ⟨-, b, off, e, -, hc⟩ := hv.at j hj
    cases e
    rw [Nat.zero_add] at hc
    exact hc

theorem results_of {fn : Func} {p q : Tmp} (h : fn.results = #[.tmp q, .cell p 43]) (tmps : Array Value) (w : World) (g : Nat) (a x y : Value) (hq : tmps.getD q undef = a) (hp : tmps.getD p undef = .pointer (some ⟨g, 0, none⟩)) (hg : w.cell? ⟨g, 0, none⟩ = some x) (hg1 : w.cell? ⟨g, 1, none⟩ = some y) :
    (results fn tmps).run Try.prog w = .ok (.tuple #[a, .agg #[x, y]]) w := by
  have hu := Try.underlying43
  have h2 := Try.underlying22
  have h3 := Try.underlying41
  have hp' : tmps[p]?.getD undef = .pointer (some ⟨g, 0, none⟩) := by simpa using hp
  have hq' : tmps[q]?.getD undef = a := by simpa using hq
  simp only [results, h]
  go_simp

/-- A record of the document's own answer: numbers and events, in memory apart from all old. -/
structure Tt (w0 w : World) (x y : Value) (l : List Int) (es : List Ev) : Prop where
  nums : w.ownsRow 0 3 1 x l.length (ints .i64 l)
  evs : Evs w y es
  newx : ∀ k, x.ownBlock = some k → w0.heap.size ≤ k
  newy : ∀ k, y.ownBlock = some k → w0.heap.size ≤ k

end Go.Proofs.Ythfdabcknagjoaa
