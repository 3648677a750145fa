import Derived.Test.YtlpeplihbdcklaaMgT
import Derived.Test.YtlpeplihbdcklaaMgC
import Derived.Lib.SliceRun
import Derived.Test.YtlpeplihbdcklaaMgA
import Derived.Laws.IdiomCopy

/- slices.Clone; Sizes, the program's. -/
namespace Go.Proofs.Ytlpeplihbdcklaa
set_option linter.unusedVariables false
open Go.ChangeShapes Go.WideShapes Go.ChangeAt Go.RowKit

set_option maxHeartbeats 1600000 in
set_option maxRecDepth 100000 in
theorem clone_any (b n cap : Nat) (T : TypeId) (f : Nat → Int) (h0 : 0 < n) (hn : n ≤ 257) (w : World) (hc : Cells w b T (tab .i64 257 f)) :
    Calls Try.prog 32 #[.slice (some ⟨b, 0, none⟩) n cap] w fun e w' => ∃ g c, e = .returned (.slice (some ⟨g, 0, none⟩) n c) ∧ View w' .i64 (.slice (some ⟨g, 0, none⟩) n c) ((List.range n).map f) ∧ But Nowhere w w' := by
  have qT : ∀ (w : World) (a : Option Addr) (n c n' c' : Nat), (binOp .eql 22 (.slice a n c) (.slice none n' c')).run Try.prog w = .ok (.bool a.isNone) w := fun w a n c n' c' => Lib.run_eql_slice_nil w _ _ a n c n' c' Try.underlying22
  have L0 : Lst w (w.alloc (.cells #[] 3)) 3 1 (.slice (some ⟨w.heap.size, 0, none⟩) 0 0) 0 [] :=
    ⟨⟨rfl, .inr ⟨w.heap.size, 0, #[], rfl, Nat.zero_le _, heap_alloc_new w _, Nat.le_refl _, by unfold maxLen; omega, rfl, by simp⟩⟩, fun x hx => by simp [Value.ownBlock] at hx; omega, (But.refl _ w).alloc _⟩
  have hc1 := hc.but ((But.refl Nowhere w).alloc (.cells #[] 3)) (not_nowhere _)
  obtain ⟨g, c, w2, hr, L2⟩ := L0.moreC (P := Try.prog) Try.elemI ⟨b, 0, none⟩ n cap (tab .i64 n f) (by rw [tab_length]; omega) (fun j u hj => by
    have hjn : j < n := by have := (List.getElem?_eq_some_iff.1 hj).1; rwa [tab_length] at this
    rw [tab_at _ _ _ _ hjn] at hj
    rw [Addr.add_lit, Nat.zero_add, hc1.cell j (by omega), ← hj]) (tab_one _ _ _) h0 (by omega) (by omega)
  rw [Nat.zero_add] at hr L2
  rw [List.nil_append] at L2
  go_enter Try.func32, Try.ntmps32
  go_wp2_with (refine wpList_append_run rfl (.tmp 5) (.tmp 6) 22 rfl (.slice (some ⟨w.heap.size, 0, none⟩) 0 0) (.slice (some ⟨b, 0, none⟩) n cap) rfl rfl _ w2 hr ?_)
  go_ret
  obtain ⟨R, kk⟩ := L2.keep
  exact ⟨g, c, rfl, kk.head.viewA, L2.but⟩

/-- A new array. -/
theorem new257 (y : World) (f : Nat → Int) : Cells ((y.alloc (.cells (tab .i64 257 (fun _ => 0)).toArray 47)).setCells y.heap.size 0 (tab .i64 257 f)) y.heap.size 47 (tab .i64 257 f) ∧ But Nowhere y ((y.alloc (.cells (tab .i64 257 (fun _ => 0)).toArray 47)).setCells y.heap.size 0 (tab .i64 257 f)) :=
  ⟨(Cells.new y 47 (tab .i64 257 (fun _ => 0))).layAll f, ((But.refl _ _).alloc _).setCells _ (fun q => by omega) 0⟩

set_option maxHeartbeats 1600000 in
set_option maxRecDepth 100000 in
theorem sizes_any (ao : Option Addr) (cap : Nat) (l : List Int) (hI : ∀ x ∈ l, I64 x) (hl : l.length ≤ 140737488355328) (hcap : l.length ≤ cap) (w : World) (hv : View w .i64 (.slice ao l.length cap) l) :
    Calls Try.prog 15 #[.slice ao l.length cap] w fun e w' => ∃ g c, e = .returned (.slice (some ⟨g, 0, none⟩) 256 c) ∧ View w' .i64 (.slice (some ⟨g, 0, none⟩) 256 c) ((List.range 256).map (fun i => ((szF (wtF l) i : Nat) : Int))) ∧ But Nowhere w w' := by
  have hu := Try.underlying47
  have hA : Try.prog.arrayLen 47 = 257 := by kernel_rfl
  go_enter Try.func15, Try.ntmps15
  go_upto_region 2 with (first
    | (go_at_call 22; refine (counted_any ao cap l hI hl hcap _ hv).mono ?_; rintro e y1 ⟨rfl, d1⟩)
    | (go_at_call 23; refine (grown_any (wtF l) (wtF_wt l) (fun i hi => (wtF_bd l i).2) _).mono ?_; rintro e y2 ⟨rfl, d2⟩; have kk := (((Keep.start y2).made 47 (tab .i64 257 (fun _ => 0)))); have hth := (kk.head.there 0 (tab .i64 257 (fun i => ((szF (wtF l) i : Nat) : Int))).toArray.size (by rw [List.size_toArray, tab_length, tab_length]; omega)); have hz := zero257)
    | (refine wpList_store_mid rfl 47 (.tmp 3) (.tmp 6) rfl y2.heap.size 0 (tab .i64 257 (fun i => ((szF (wtF l) i : Nat) : Int))).toArray rfl rfl ?_ (infoB257 _) (tab_all _ _ _) ?_; exact hth))
  obtain ⟨nc, nb⟩ := new257 y2 (fun i => ((szF (wtF l) i : Nat) : Int))
  have HB : Hid (But Nowhere w y2) := d1.trans d2
  clear kk hth hz d1 d2
  revert nc nb
  obtain ⟨G, hG⟩ : ∃ n, y2.heap.size = n := ⟨_, rfl⟩
  rw [hG]
  generalize (y2.alloc (.cells (tab .i64 257 (fun _ => 0)).toArray 47)).setCells G 0 (tab .i64 257 (fun i => ((szF (wtF l) i : Nat) : Int))) = V
  intro nc nb
  try simp only [Act.put]
  go_wp2_with (go_at_call 32; refine (clone_any G 256 257 _ _ (by omega) (by omega) _ nc).mono ?_; rintro e y3 ⟨g, c, rfl, hv3, d3⟩)
  go_ret
  exact ⟨g, c, rfl, hv3, (HB.out.trans nb).trans d3⟩

end Go.Proofs.Ytlpeplihbdcklaa

/- Counts of the table, as the program makes them. No program. -/
namespace Go.Proofs.Ytlpeplihbdcklaa
set_option linter.unusedVariables false

theorem anyTo_cut {l : Nat → Int} {m : Nat} : ∀ {n : Nat}, m ≤ n → (∀ s, m < s → s ≤ n → l s = 0) → anyTo l n = anyTo l m
  | 0, h, _ => by obtain rfl : m = 0 := by omega
                  rfl
  | n + 1, h, h0 => by
    by_cases e : m = n + 1
    · subst e; rfl
    · rw [anyTo_zero l (n + 1) (by omega) (h0 (n + 1) (by omega) (Nat.le_refl _)), Nat.add_sub_cancel]
      exact anyTo_cut (by omega) (fun s h1 h2 => h0 s h1 (by omega))

/-- What the counts of a table are made of. -/
theorem best_counts {W : Nat → Int} (h : Wt W) : Sd (tally W (szF W) 257) 256 ∧ (∀ s, s < 257 → -1000000 ≤ cutAll 240 (tally W (szF W) 257) s ∧ cutAll 240 (tally W (szF W) 257) s ≤ 1000000) ∧
    ∀ j, j < 16 → upd (cutAll 240 (tally W (szF W) 257)) (anyTo (cutAll 240 (tally W (szF W) 257)) 256) (cutAll 240 (tally W (szF W) 257) (anyTo (cutAll 240 (tally W (szF W) 257)) 256) - 1) (j + 1) = tabC (szF W) j := by
  by_cases hx : ∃ v, v < 256 ∧ 0 < W v
  · obtain ⟨v, hv, hw⟩ := hx
    have e : tally W (szF W) 257 = cntF (szF W) 257 := by
      funext s
      unfold tally cntF
      refine sm_congr (fun i hi => ?_)
      have := size_iff h hv hw i hi
      by_cases q : 0 < W i
      · by_cases r : szF W i = s
        · rw [if_pos ⟨q, r⟩, if_pos ⟨this.2 q, r⟩]
        · rw [if_neg (fun c => r c.2), if_neg (fun c => r c.2)]
      · rw [if_neg (fun c => q c.1), if_neg (fun c => q (this.1 c.1))]
    have F := full_start h hv hw
    have hz : ∀ s, 256 < s → cntF (szF W) 257 s = 0 := fun s hs => sm_zero (fun i _ => by
      have := sizes_256 h i
      rw [if_neg (by omega)])
    have F2 : Full (cntF (szF W) 257) 256 (many (szF W) 257) := ⟨F.pos, F.zero, fun s h1 h2 => hz s h1, F.kraft, F.total⟩
    have hm := (many_le (szF W) 257).2
    have FC := F2.cutAll hm 240 (by omega)
    have eL : lenL (szF W) = cutAll 240 (cntF (szF W) 257) := by
      unfold lenL
      rw [show 243 = 259 - 16 from rfl, cutAll_step _ 259 (by omega), cutAt_zero (by rw [hz 259 (by omega)]; omega), show 259 - 1 - 16 = 258 - 16 from rfl, cutAll_step _ 258 (by omega), cutAt_zero (by rw [hz 258 (by omega)]; omega), show 258 - 1 - 16 = 257 - 16 from rfl, cutAll_step _ 257 (by omega), cutAt_zero (by rw [hz 257 (by omega)]; omega)]
    rw [e, ← eL]
    rw [← eL] at FC
    refine ⟨.inl ⟨_, hm, F2⟩, fun s hs => ?_, fun j hj => ?_⟩
    · have := Gd.bd (i := 16) (.inl ⟨_, hm, FC⟩) s (by omega)
      omega
    · have ht : anyTo (lenL (szF W)) 256 = topL (szF W) := anyTo_cut (by omega) (fun s h1 h2 => FC.top s h1 (by omega))
      rw [ht]
      unfold upd tabC
      by_cases q : j + 1 = topL (szF W)
      · rw [if_pos q, if_pos q, q]
      · rw [if_neg q, if_neg q]
  · have hn : ∀ v, v < 256 → ¬ 0 < W v := fun v hv hw => hx ⟨v, hv, hw⟩
    have z0 := size_all_none h hn
    have e : ∀ s, tally W (szF W) 257 s = if s = 0 then 1 else 0 := fun s => by
      unfold tally
      rw [← sm_at (show 256 < 257 by omega) (if s = 0 then (1 : Int) else 0)]
      refine sm_congr (fun i hi => ?_)
      by_cases q : i = 256
      · subst q
        rw [if_pos rfl, z0 256 (by omega), h.one]
        by_cases r : s = 0
        · subst r; rfl
        · rw [if_neg (by omega), if_neg r]
      · rw [if_neg q, if_neg (fun c => hn i (by omega) c.1)]
    have eC : cutAll 240 (tally W (szF W) 257) = tally W (szF W) 257 := cutAll_none 240 _ (fun s h1 h2 => by rw [e s, if_neg (by omega)]; omega)
    have e0 : cntF (szF W) 257 = fun _ => 0 := by
      funext s
      exact sm_zero (fun i hi => by rw [z0 i hi, if_neg (by omega)])
    have eL : lenL (szF W) = fun _ => 0 := by
      unfold lenL
      rw [e0]
      exact cutAll_none 243 _ (fun s h1 h2 => Int.le_refl _)
    have any0 : ∀ (f : Nat → Int) (k : Nat), (∀ s, 0 < s → f s = 0) → anyTo f k = 0 := fun f k hf => anyTo_cut (Nat.zero_le _) (fun s h1 _ => hf s h1)
    rw [eC]
    refine ⟨.inr ⟨by rw [e 0]; decide, fun s hs => by rw [e s, if_neg (by omega)]⟩, fun s hs => by rw [e s]; split <;> omega, fun j hj => ?_⟩
    rw [any0 _ 256 (fun s hs => by rw [e s, if_neg (by omega)])]
    unfold upd tabC topL
    rw [eL, any0 _ 16 (fun _ _ => rfl), if_neg (by omega), if_neg (by omega), e (j + 1), if_neg (by omega)]

end Go.Proofs.Ytlpeplihbdcklaa

/- The table, the program's. -/
namespace Go.Proofs.Ytlpeplihbdcklaa
set_option linter.unusedVariables false
open Go.ChangeShapes Go.WideShapes Go.ChangeAt Go.RowKit

theorem zeroTbl : ∀ (W : World), (zeroValue 30).run Try.prog W = .ok (.agg (tbl (fun _ => 0) (.slice none 0 0)).toArray) W :=
  (zero_of_info (n := 17) (by kernel_rfl)).1

/-- At a copy whose run is known, in a region that draws. -/
theorem wp_copy_at {P : Program} {w : World} {o : Oper} {a : Act} {K : Act → World → Prop} {Q : Exit → Act → World → Prop} (s x : Operand) (t : TypeId)
    (ho : o.op = .call { callee := .builtin .copy, args := #[s, x], argTypes := #[t, t] }) (v u : Value) (hs : a.eval s = v) (hx : a.eval x = u) (v' : Value) (w' : World)
    (hr : (Builtin.copy_ #[t, t] o.type #[v, u]).run P w = .ok v' w') (h : K (a.put o.dst v') w') : o.wp P a w K Q := by
  unfold Oper.wp execOp
  simp only [ho, resolve, invoke, builtin, Sem.run_bind, Sem.run_pure, Result.andThen_ok, List.map_toArray, List.map_cons, List.map_nil, hs, hx, hr]
  exact h

/-- The first cells of a block laid anew. -/
theorem Cells.layPre {t : TypeId} {b : Nat} (R : List Value) : ∀ (m : List Value) {W : World} (pre old : List Value) (_ : Cells W b t (pre ++ old ++ R)) (_ : m.length = old.length), Cells (W.setCells b pre.length m) b t (pre ++ m ++ R)
  | [], W, pre, [], h, _ => h
  | v :: m, W, pre, r :: old, h, hl => by
    have h1 := h.set pre.length v
    have e : (pre ++ r :: old ++ R).set pre.length v = (pre ++ [v]) ++ old ++ R := by simp
    rw [e] at h1
    have h2 := Cells.layPre R m (pre ++ [v]) old h1 (by simpa using hl)
    rw [show (pre ++ [v]).length = pre.length + 1 by simp] at h2
    have e2 : pre ++ [v] ++ m ++ R = pre ++ v :: m ++ R := by simp
    rw [e2] at h2
    exact h2
theorem Keep.layTbl {w W : World} {l : List Bk} {b : Nat} {t : TypeId} {c : Nat → Int} {pv : Value} (h : Keep w W ((b, t, tbl c pv) :: l)) (g : Nat → Int) : Keep w (W.setCells b 0 (tab .i64 16 g)) ((b, t, tbl g pv) :: l) := by
  have hp := List.pairwise_cons.1 h.apart
  have hS : But (fun x => x = b) W (W.setCells b 0 (tab .i64 16 g)) := But.setCells (S := fun x => x = b) _ (But.refl _ _) (fun _ => rfl) 0
  refine ⟨But.setCells _ h.but (fun q => by have := h.new (b, t, tbl c pv) (by simp); simp at this q; omega) 0, fun x hx => ?_, fun x hx => ?_, List.pairwise_cons.2 ⟨hp.1, hp.2⟩⟩
  · rcases List.mem_cons.1 hx with rfl | hx
    · exact h.new (b, t, tbl c pv) (by simp)
    · exact h.new x (by simp [hx])
  · rcases List.mem_cons.1 hx with rfl | hx
    · exact Cells.layPre [pv] (tab .i64 16 g) [] (tab .i64 16 c) h.head (by rw [tab_length, tab_length])
    · exact (h.holds x (by simp [hx])).but hS (Ne.symm (hp.1 x hx))
theorem tbl_set16 (c : Nat → Int) (pv u : Value) : (tbl c pv).set 16 u = tbl c u := by
  unfold tbl
  rw [List.set_append_right _ _ (by rw [tab_length]; omega), tab_length]
  rfl
theorem Cells.layTab {W : World} {b : Nat} {t : TypeId} {c d : Nat → Int} {pv qv : Value} (h : Cells W b t (tbl c pv)) : Cells (W.setCells b 0 (tbl d qv)) b t (tbl d qv) := by
  have := Cells.layPre [] (tbl d qv) [] (tbl c pv) (by simpa using h) (by rw [tbl_length, tbl_length])
  simpa using this

set_option maxHeartbeats 6400000 in
set_option maxRecDepth 100000 in
theorem best_any (ao : Option Addr) (cap : Nat) (l : List Int) (hI : ∀ x ∈ l, I64 x) (hl : l.length ≤ 140737488355328) (hcap : l.length ≤ cap) (w : World) (hv : View w .i64 (.slice ao l.length cap) l) :
    Calls Try.prog 11 #[.slice ao l.length cap] w fun e w' => ∃ pv, e = .returned (.agg (tbl (tabC (szF (wtF l))) pv).toArray) ∧ View w' .u8 pv (tabV (szF (wtF l))) ∧ But Nowhere w w' := by
  have hu := Try.underlying47
  have huT := Try.underlying30
  have hA : Try.prog.arrayLen 47 = 257 := by kernel_rfl
  have hA2 : Try.prog.arrayLen 28 = 16 := by kernel_rfl
  have hz := zero257
  have hzT := zeroTbl
  obtain ⟨bc1, bc2, bc3⟩ := best_counts (wtF_wt l)
  have hz256 : ∀ i, i < 257 → szF (wtF l) i ≤ 256 := fun i _ => sizes_256 (wtF_wt l) i
  have kk := (Keep.start w).made 30 (tbl (fun _ => 0) (.slice none 0 0))
  have hv1 := hv.but kk.but
  go_enter Try.func11, Try.ntmps11
  go_upto_region 2 with (first
    | (go_at_call 22; refine (counted_any ao cap l hI hl hcap _ hv1).mono ?_; rintro e y1 ⟨rfl, d1⟩; replace kk := kk.step d1)
    | (refine wpList_store_mid rfl 47 (.tmp 3) (.tmp 8) rfl y1.heap.size 0 (tab .i64 257 (wtF l)).toArray rfl rfl ?_ (infoB257 _) (tab_all _ _ _) ?_; exact (Cells.new y1 47 (tab .i64 257 (fun _ => 0))).there 0 (tab .i64 257 (wtF l)).toArray.size (by rw [List.size_toArray, tab_length, tab_length]; omega)))
  replace kk := (kk.made 47 (tab .i64 257 (fun _ => 0))).layAll (wtF l)
  revert kk
  obtain ⟨B3, hB3⟩ : ∃ n, y1.heap.size = n := ⟨_, rfl⟩
  rw [hB3]
  clear hB3
  generalize (y1.alloc (.cells (tab .i64 257 (fun _ => 0)).toArray 47)).setCells B3 0 (tab .i64 257 (wtF l)) = VB3
  intro kk
  try simp only [Act.put]
  go_upto_region 3 with (first
    | (refine wpList_load_mid rfl 47 (.tmp 3) rfl B3 0 rfl (tab .i64 257 (wtF l)) _ ?_ hu rfl (info257 _) ?_; exact (kk.get (b := B3) (t := 47) (c := tab .i64 257 (wtF l)) (by simp)).all)
    | (go_at_call 23; refine (grown_any (wtF l) (wtF_wt l) (fun i hi => (wtF_bd l i).2) _).mono ?_; rintro e y2 ⟨rfl, d2⟩; replace kk := kk.step d2)
    | (refine wpList_store_mid rfl 47 (.tmp 4) (.tmp 10) rfl y2.heap.size 0 (tab .i64 257 (fun i => ((szF (wtF l) i : Nat) : Int))).toArray rfl rfl ?_ (infoB257 _) (tab_all _ _ _) ?_; exact (Cells.new y2 47 (tab .i64 257 (fun _ => 0))).there 0 (tab .i64 257 (fun i => ((szF (wtF l) i : Nat) : Int))).toArray.size (by rw [List.size_toArray, tab_length, tab_length]; omega)))
  replace kk := (kk.made 47 (tab .i64 257 (fun _ => 0))).layAll (fun i => ((szF (wtF l) i : Nat) : Int))
  revert kk
  obtain ⟨B4, hB4⟩ : ∃ n, y2.heap.size = n := ⟨_, rfl⟩
  rw [hB4]
  clear hB4
  generalize (y2.alloc (.cells (tab .i64 257 (fun _ => 0)).toArray 47)).setCells B4 0 (tab .i64 257 (fun i => ((szF (wtF l) i : Nat) : Int))) = VB4
  intro kk
  try simp only [Act.put]
  obtain ⟨C, hC⟩ : ∃ C, cutAll 240 (tally (wtF l) (szF (wtF l)) 257) = C := ⟨_, rfl⟩
  go_upto_region 4 with (first
    | (refine wpList_load_mid rfl 47 (.tmp 3) rfl B3 0 rfl (tab .i64 257 (wtF l)) _ ?_ hu rfl (info257 _) ?_; exact (kk.get (b := B3) (t := 47) (c := tab .i64 257 (wtF l)) (by simp)).all)
    | (refine wpList_load_mid rfl 47 (.tmp 4) rfl B4 0 rfl (tab .i64 257 (fun i => ((szF (wtF l) i : Nat) : Int))) _ ?_ hu rfl (info257 _) ?_; exact (kk.get (b := B4) (t := 47) (c := tab .i64 257 (fun i => ((szF (wtF l) i : Nat) : Int))) (by simp)).all)
    | (go_at_call 26; refine (tallied_any (wtF l) (szF (wtF l)) (fun i hi => by have := hz256 i hi; omega) _).mono ?_; rintro e y3 ⟨rfl, d3⟩; replace kk := kk.step d3)
    | (go_at_call 25; refine (shortened_any _ bc1 _).mono ?_; rw [hC]; rintro e y4 ⟨rfl, d4⟩; replace kk := kk.step d4)
    | (go_at_call 24; refine (told257_any C (by rw [← hC]; exact bc2) _).mono ?_; rintro e y5 ⟨rfl, d5⟩; replace kk := kk.step d5)
    | (refine wpList_store_mid rfl 47 (.tmp 5) (.tmp 15) rfl y5.heap.size 0 (tab .i64 257 (upd C (anyTo C 256) (C (anyTo C 256) - 1))).toArray rfl rfl ?_ (infoB257 _) (tab_all _ _ _) ?_; exact (Cells.new y5 47 (tab .i64 257 (fun _ => 0))).there 0 (tab .i64 257 (upd C (anyTo C 256) (C (anyTo C 256) - 1))).toArray.size (by rw [List.size_toArray, tab_length, tab_length]; omega)))
  replace kk := (kk.made 47 (tab .i64 257 (fun _ => 0))).layAll (upd C (anyTo C 256) (C (anyTo C 256) - 1))
  revert kk
  obtain ⟨B5, hB5⟩ : ∃ n, y5.heap.size = n := ⟨_, rfl⟩
  rw [hB5]
  clear hB5
  generalize (y5.alloc (.cells (tab .i64 257 (fun _ => 0)).toArray 47)).setCells B5 0 (tab .i64 257 (upd C (anyTo C 256) (C (anyTo C 256) - 1))) = VB5
  intro kk
  try simp only [Act.put]
  rw [hC] at bc3
  obtain ⟨F, hF⟩ : ∃ F, upd C (anyTo C 256) (C (anyTo C 256) - 1) = F := ⟨_, rfl⟩
  rw [hF] at kk bc3
  go_upto_region 5 with fail
  replace kk := kk.made 30 (tbl (fun _ => 0) (.slice none 0 0))
  revert kk
  obtain ⟨B6, hB6⟩ : ∃ n, VB5.heap.size = n := ⟨_, rfl⟩
  rw [hB6]
  clear hB6
  generalize VB5.alloc (.cells (tbl (fun _ => 0) (.slice none 0 0)).toArray 30) = V6
  intro kk
  replace kk := kk.drew
  have hcp : (Builtin.copy_ #[22, 22] 3 #[.slice (some ⟨B6, 0, none⟩) 16 16, .slice (some ⟨B5, 1, none⟩) 256 256]).run Try.prog V6.drew = .ok (goInt 16) (V6.drew.setCells B6 0 (tab .i64 16 (fun j => F (j + 1)))) := by
    have k5 := kk.get (b := B5) (t := 47) (c := tab .i64 257 F) (by simp)
    have h := run_copy_cells (P := Try.prog) V6.drew 22 22 3 3 B6 0 16 16 ⟨B5, 1, none⟩ 256 256 (tab .i64 16 (fun j => F (j + 1))) Try.underlying22 (by kernel_rfl) (by rw [tab_length]; rfl) (fun j v hj => by
      have hjn : j < 16 := by have := (List.getElem?_eq_some_iff.1 hj).1; rwa [tab_length] at this
      rw [tab_at _ _ _ _ hjn] at hj
      rw [Addr.add_lit, k5.cell (1 + j) (by omega), ← hj, Nat.add_comm 1 j]) (fun j hj => by
      rw [tab_length] at hj
      rw [Nat.zero_add, kk.head.cnt j hj]; rfl) (fun j hj => kk.head.frozen _) (tab_one _ _ _)
    rw [tab_length] at h
    exact h
  refine wp_region_till (S := fun V => True) (R := fun _ => True) (k := 100) (m := 100) (by kernel_rfl) trivial trivial ?_
  (refine Walk.take (i := 0) (oi := { dst := some 16, op := Op.fieldAddr 30 (Operand.tmp 6) 0, type := 0, pos := "optim.go:32", after := #[], guard := none }) (v := ?_) rfl (by kernel_rfl) (by kernel_rfl) (by kernel_rfl) (by kernel_rfl) (fun _ _ _ h => h) (Or.inl ⟨by rfl, ?_⟩) ?_; rotate_left; (intro w hw; clear hw; (try go_split_ands); go_simp; try (with_reducible rfl)); simp only [Act.put, List.setIfInBounds_toArray, List.set_cons_zero, List.set_cons_succ])
  (refine Walk.take (i := 1) (oi := { dst := some 17, op := Op.slice 28 (Operand.tmp 16) none none none, type := 22, pos := "optim.go:32", after := #[{ on := 0, ground := Ground.data }], guard := none }) (v := ?_) rfl (by kernel_rfl) (by kernel_rfl) (by kernel_rfl) (by kernel_rfl) (fun _ _ _ h => h) (Or.inl ⟨by rfl, ?_⟩) ?_; rotate_left; (intro w hw; clear hw; (try go_split_ands); go_simp; try (with_reducible rfl)); simp only [Act.put, List.setIfInBounds_toArray, List.set_cons_zero, List.set_cons_succ])
  (refine Walk.take (i := 2) (oi := { dst := some 18, op := Op.slice 47 (Operand.tmp 5) (some (Operand.const (Value.int IntKind.i64 1))) none none, type := 22, pos := "optim.go:32", after := #[], guard := none }) (v := ?_) rfl (by kernel_rfl) (by kernel_rfl) (by kernel_rfl) (by kernel_rfl) (fun _ _ _ h => h) (Or.inl ⟨by rfl, ?_⟩) ?_; rotate_left; (intro w hw; clear hw; (try go_split_ands); go_simp; try (with_reducible rfl)); simp only [Act.put, List.setIfInBounds_toArray, List.set_cons_zero, List.set_cons_succ])
  (refine Walk.go (i := 3) (o := { dst := some 19, op := Op.call { callee := Callee.builtin Builtin.copy, args := #[Operand.tmp 17, Operand.tmp 18], argTypes := #[22, 22] }, type := 3, pos := "optim.go:32", after := #[{ on := 1, ground := Ground.data }, { on := 2, ground := Ground.data }], guard := none }) (by kernel_rfl) rfl (fun K hK => ?_); refine wp_copy_at (.tmp 17) (.tmp 18) 22 rfl _ _ rfl rfl _ _ hcp ?_; refine hK.out _ _ (⟨fun _ => trivial, fun _ => trivial⟩) ?_; clear hK K; try simp only [Act.put, List.setIfInBounds_toArray, List.set_cons_zero, List.set_cons_succ])
  refine Walk.done (by kernel_rfl) ?_ _
  replace kk := kk.layTbl (fun j => F (j + 1))
  revert kk
  generalize V6.drew.setCells B6 0 (tab .i64 16 (fun j => F (j + 1))) = V7
  intro kk
  have hiT : ∀ c v, (Try.prog.info? 30).map (·.size) = some (tbl c v).length := fun c v => by rw [tbl_length]; kernel_rfl
  have hiB : ∀ c v, (Try.prog.info? 30).map (·.size) = some (tbl c v).toArray.size := fun c v => by rw [List.size_toArray, tbl_length]; kernel_rfl
  have hB6 := kk.head.lt
  have hW7 := kk.but.size
  have hwT := (kk.get (b := w.heap.size) (t := 30) (c := tbl (fun _ => 0) (.slice none 0 0)) (by simp)).lt
  have hnB : w.heap.size ≠ B6 := fun e => by have := List.pairwise_cons.1 kk.apart; exact (this.1 (w.heap.size, 30, tbl (fun _ => 0) (.slice none 0 0)) (by simp)) e.symm
  go_upto_region 7 with (first
    | (refine wpList_load_mid rfl 47 (.tmp 4) rfl B4 0 rfl (tab .i64 257 (fun i => ((szF (wtF l) i : Nat) : Int))) _ ?_ hu rfl (info257 _) ?_; exact (kk.get (b := B4) (t := 47) (c := tab .i64 257 (fun i => ((szF (wtF l) i : Nat) : Int))) (by simp)).all)
    | (go_at_call 27; refine (ordered_any (szF (wtF l)) hz256 _).mono ?_; rintro e y6 ⟨pv, rfl, hv6, hnew, d6⟩; obtain ⟨po, pc, rfl⟩ := hv6.slice; replace kk := kk.step d6; have c16 := kk.head.vals; have f16 := kk.head.frozen 16))
  obtain ⟨pv, hpv⟩ : ∃ pv : Value, .slice po (tabV (szF (wtF l))).length pc = pv := ⟨_, rfl⟩
  rw [hpv] at hv6 hnew
  have hoff : ∀ k, k < V7.heap.size → Off (fun x => x = k) pv := fun k hk b off sp n c e _ q => by have := hnew b off sp n c e; omega
  replace kk := kk.set 16 (.slice po (tabV (szF (wtF l))).length pc)
  rw [tbl_set16] at kk
  have hv7 := hv6.butS (But.setCell (S := fun x => x = B6) (But.refl _ y6) (p := ⟨B6, 16, none⟩) (fun _ => rfl) (.slice po (tabV (szF (wtF l))).length pc)) (hoff B6 hB6)
  revert kk hv7
  rw [hpv]
  generalize y6.setCell ⟨B6, 16, none⟩ pv = V8
  intro kk hv7
  try simp only [Act.put]
  have ht : tbl (fun j => F (j + 1)) pv = tbl (tabC (szF (wtF l))) pv := by unfold tbl; rw [tab_congr _ _ _ _ (fun j hj => bc3 j hj)]
  rw [ht] at kk
  have hr := kk.head.all
  have kT := kk.get (b := w.heap.size) (t := 30) (c := tbl (fun _ => 0) (.slice none 0 0)) (by simp)
  have hth := kT.there 0 (tbl (tabC (szF (wtF l))) pv).toArray.size (by rw [List.size_toArray, tbl_length, tbl_length]; omega)
  have hal : (tbl (tabC (szF (wtF l))) pv).toArray.all (·.oneCell') = true := by rw [← hpv]; exact tbl_all _ _ _ _
  have HF : Hid (Cells (V8.setCells w.heap.size 0 (tbl (tabC (szF (wtF l))) pv)) w.heap.size 30 (tbl (tabC (szF (wtF l))) pv) ∧ View (V8.setCells w.heap.size 0 (tbl (tabC (szF (wtF l))) pv)) .u8 pv (tabV (szF (wtF l))) ∧ But Nowhere w (V8.setCells w.heap.size 0 (tbl (tabC (szF (wtF l))) pv))) :=
    ⟨kT.layTab, hv7.butS ((But.refl (fun x => x = w.heap.size) V8).setCells _ (fun _ => rfl) 0) (hoff w.heap.size hwT), kk.but.setCells _ (fun q => by omega) 0⟩
  clear kk kT hv7 hv6 bc1 bc2 bc3
  go_wp2_with (first | (refine wpList_load_mid rfl 30 (.tmp 6) rfl B6 0 rfl (tbl (tabC (szF (wtF l))) pv) _ ?_ huT rfl (hiT _ _) ?_; exact hr) | (refine wpList_store_mid rfl 30 (.tmp 2) (.tmp 23) rfl w.heap.size 0 (tbl (tabC (szF (wtF l))) pv).toArray rfl rfl ?_ (hiB _ _) hal ?_; exact hth))
  exact bodyPost_ret (results_cells rfl HF.out.1 huT rfl (hiT _ _) _ rfl) rfl ⟨pv, rfl, HF.out.2.1, HF.out.2.2⟩

end Go.Proofs.Ytlpeplihbdcklaa
