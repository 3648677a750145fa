import Derived.Test.YtppbnmlgilgnnaaLst
import Derived.Great.BuildSlice
import Derived.Test.YtppbnmlgilgnnaaMgD

/- A list literal of one element, of any size. No program. -/
namespace Go.Proofs.Ytppbnmlgilgnnaa
open Go.ChangeShapes Go.WideShapes Go.ChangeAt Go.RowKit

theorem fill_one {s : Nat} (hs : 0 < s) (v : Value) (news : List Value) (hv : v.cells = news.toArray) (hl : news.length = s) (cells : Array Value) (hc : cells.size = s) :
    Instr.fill (fun i => some (i * s, s)) cells [(0, v)] = some news.toArray := by
  obtain ⟨r, hr, hsz, hk⟩ := Great.fill_dense hs [v] 0 cells (by simp [hv, hl]) (by simp [hc])
  have e : ([v].zipIdx 0).map (fun x => (x.2, x.1)) = [(0, v)] := rfl
  rw [e] at hr
  rw [hr]
  congr 1
  apply Array.ext_getElem?
  intro k
  rw [hk k]
  simp only [List.length_singleton, Nat.zero_mul, Nat.zero_add, Nat.one_mul]
  by_cases h : k < s
  · rw [if_pos ⟨Nat.zero_le _, h⟩, Nat.div_eq_of_lt h, Nat.mod_eq_of_lt h]
    simp [hv]
  · rw [if_neg (by omega), Array.getElem?_eq_none (by omega), List.getElem?_toArray, List.getElem?_eq_none (by omega)]

/-- The literal of one element, in a region that draws. -/
theorem wp_build_one {P : Program} {st t : TypeId} {z : Value} {size bytes : Nat} (E : ElemInfo P st t z size bytes) {w : World} {o : Oper} {a : Act} {K : Act → World → Prop} {Q : Exit → Act → World → Prop} (x : Operand)
    (ho : o.op = .buildSlice st 1 #[(0, x)]) (v : Value) (hx : a.eval x = v) (news : List Value) (hv : v.cells = news.toArray) (hl : news.length = size) (hsm : size ≤ 100000) (B : Nat) (hB : w.heap.size = B)
    (h : K (a.put o.dst (.slice (some ⟨B, 0, none⟩) 1 1)) (w.alloc (.cells news.toArray t))) : o.wp P a w K Q := by
  subst hB
  obtain ⟨i0, hi0, hz0, hz1, hz2⟩ := info_parts E.info
  have hp := E.pos
  refine wp_buildSlice st t 1 #[(0, x)] ho news.toArray i0 z E.under hi0 hz0 (by rw [hz1]; omega) (by rw [hz1]; omega) ?_ h
  rw [hz1]
  simp only [List.map_toArray, List.map_cons, List.map_nil, hx]
  exact fill_one hp v news hv hl _ (by simp)

end Go.Proofs.Ytppbnmlgilgnnaa

/- The law's hidden: secrets of blocks, wherever they lie. -/
namespace Go.Proofs.Ytppbnmlgilgnnaa
open Go.ChangeShapes Go.WideShapes Go.ChangeAt Go.RowKit

theorem wpList_build_one {P : Program} {st t : TypeId} {z : Value} {size bytes : Nat} (E : ElemInfo P st t z size bytes) {w : World} {ops : Array Oper} {rest : List Oper} {o : Oper} {a : Act} {Q : Exit → Act → World → Prop} (hgd : o.guard = none) (x : Operand)
    (ho : o.op = .buildSlice st 1 #[(0, x)]) (v : Value) (hx : a.eval x = v) (news : List Value) (hv : v.cells = news.toArray) (hl : news.length = size) (hsm : size ≤ 100000) (B : Nat) (hB : w.heap.size = B)
    (h : wpList P ops Q rest (a.put o.dst (.slice (some ⟨B, 0, none⟩) 1 1)) (w.alloc (.cells news.toArray t))) : wpList P ops Q (o :: rest) a w :=
  wpList_plain hgd fun _ hK => wp_build_one E x ho v hx news hv hl hsm B hB (hK _ _ h)

theorem tab_more' (F : Nat → Int) (n : Nat) : tab .i64 (n * 64) F ++ tab .i64 64 (fun k => F (n * 64 + k)) = tab .i64 ((n + 1) * 64) F := by
  unfold tab
  rw [Nat.add_mul, Nat.one_mul, List.range_add, List.map_append, List.map_map]
  rfl

theorem Try.elem64S : ElemInfo Try.prog 69 59 (.agg (List.replicate 64 (Value.int .i64 0)).toArray) 64 512 := ⟨Try.underlying69, by kernel_rfl, rfl, by omega⟩
theorem Try.elemRowS : ElemInfo Try.prog 38 69 (.slice none 0 0) 1 24 := ⟨Try.underlying38, by kernel_rfl, rfl, by omega⟩

/-- Rows, none of which lies where the list of them does. -/
structure RwA (V : World) (o : Value) (xs : List Value) (n : Nat) (L : Nat → Nat) (F : Nat → Nat → Int) : Prop where
  len : xs.length = n
  row : ∀ k, k < n → ∃ u, xs[k]? = some u ∧ RowAt V u (L k) (F k) ∧ ∀ x, u.ownBlock = some x → x < V.heap.size ∧ o.ownBlock ≠ some x

theorem RwA.but {V V' : World} {o : Value} {xs : List Value} {n : Nat} {L : Nat → Nat} {F : Nat → Nat → Int} (h : RwA V o xs n L F) (hb : But Nowhere V V') : RwA V' o xs n L F :=
  ⟨h.len, fun k hk => by
    obtain ⟨u, h1, h2, h3⟩ := h.row k hk
    exact ⟨u, h1, h2.but hb, fun x hx => ⟨Nat.lt_of_lt_of_le (h3 x hx).1 hb.size, (h3 x hx).2⟩⟩⟩

theorem RowAt.butS {S : Nat → Prop} {W W' : World} {u : Value} {n : Nat} {f : Nat → Int} (h : RowAt W u n f) (hb : But S W W') (hs : ∀ x, u.ownBlock = some x → ¬ S x) : RowAt W' u n f := by
  obtain ⟨ro, c, e, h⟩ := h
  refine ⟨ro, c, e, fun hn => ?_⟩
  obtain ⟨g, o, e2, h2⟩ := h hn
  subst e2
  subst e
  exact ⟨g, o, rfl, fun j hj => hb.keeps (p := ⟨g, o + j, none⟩) (hs g rfl) (h2 j hj)⟩

theorem RwA.push {V V' : World} {o o' : Value} {xs : List Value} {n : Nat} {L : Nat → Nat} {F : Nat → Nat → Int} (h : RwA V o xs n L F) (u : Value) (hu : RowAt V u (L n) (F n)) (hx : ∀ x, u.ownBlock = some x → x < V.heap.size ∧ o.ownBlock ≠ some x)
    (hb : But (fun k => o.ownBlock = some k) V V') (g4 : Nat) (ho' : o'.ownBlock = some g4) (h4 : o.ownBlock = some g4 ∨ V.heap.size ≤ g4) : RwA V' o' (xs ++ [u]) (n + 1) L F := by
  have hn' : ∀ x, x < V.heap.size → o.ownBlock ≠ some x → o'.ownBlock ≠ some x := fun x hx hne e => by
    rw [ho'] at e
    have e : g4 = x := by injection e
    subst e
    rcases h4 with h4 | h4
    · exact hne h4
    · omega
  refine ⟨by simp [h.len], fun k hk => ?_⟩
  by_cases hkn : k < n
  · obtain ⟨u, h1, h2, h3⟩ := h.row k hkn
    exact ⟨u, by rw [List.getElem?_append_left (by rw [h.len]; exact hkn)]; exact h1, h2.butS hb (fun x hx => (h3 x hx).2), fun x hx => ⟨Nat.lt_of_lt_of_le (h3 x hx).1 hb.size, hn' x (h3 x hx).1 (h3 x hx).2⟩⟩
  · obtain rfl : k = n := by omega
    exact ⟨u, by rw [List.getElem?_append_right (by rw [h.len]; omega), h.len, Nat.sub_self]; rfl, hu.butS hb (fun x h => (hx x h).2), fun x h => ⟨Nat.lt_of_lt_of_le (hx x h).1 hb.size, hn' x (hx x h).1 (hx x h).2⟩⟩

theorem RwA.ba {w V : World} {t : TypeId} {o : Value} {xs : List Value} {n : Nat} {L : Nat → Nat} {F : Nat → Nat → Int} (h : RwA V o xs n L F) (LL : Lst w V t 1 o n xs) : BA V o n L F := by
  obtain ⟨a, cap, rfl⟩ := LL.slice
  refine ⟨a, cap, rfl, fun hn => ?_⟩
  obtain ⟨go, cap', e, -, -, -, h4, -⟩ := LL.at hn
  simp only [Value.slice.injEq] at e
  obtain ⟨rfl, -, rfl⟩ := e
  refine ⟨go, 0, rfl, fun i hi => ?_⟩
  obtain ⟨u, h1, h2, -⟩ := h.row i hi
  exact ⟨u, by rw [Nat.zero_add]; exact h4 i _ h1, h2⟩

/-- A row made by append. -/
theorem Lst.rowAt {w V : World} {t : TypeId} {o : Value} {n : Nat} {f : Nat → Int} (LL : Lst w V t 64 o n (tab .i64 (n * 64) f)) : RowAt V o n f := by
  obtain ⟨a, cap, rfl⟩ := LL.slice
  refine ⟨a, cap, rfl, fun hn => ?_⟩
  obtain ⟨g, cap', e, -, -, -, h4, -⟩ := LL.at hn
  simp only [Value.slice.injEq] at e
  obtain ⟨rfl, -, rfl⟩ := e
  exact ⟨g, 0, rfl, fun j hj => by rw [Nat.zero_add]; exact h4 j _ (tab_at _ _ _ _ hj)⟩

theorem Cells.of_eqL' {W : World} {b : Nat} {t : TypeId} {l l' : List Value} (h : Cells W b t l) (e : l = l') : Cells W b t l' := e ▸ h

theorem Cells.layL' {W : World} {t : TypeId} {k : IntKind} {b m : Nat} {f : Nat → Int} (h : Cells W b t (tab k m f)) (g : Nat → Int) (L : List Value) (e : L = tab k m g) : Cells (W.setCells b 0 L) b t (tab k m g) := by subst e; exact h.layAll g

set_option maxHeartbeats 6400000 in
set_option maxRecDepth 100000 in
theorem hidden_any (v : Value) (N : Nat) (L : Nat → Nat) (F : Nat → Nat → Int) (w : World) (h : BA w v N L F) (hN : N ≤ 1000000) (hL : ∀ i, i < N → L i ≤ 1000000) : Calls Try.prog 13 #[v] w fun e w' => (∃ v', e = .returned v' ∧ BA w' v' N L F) ∧ But Nowhere w w' := by
  have huA := Try.underlying59
  have ZL : Hid ((Value.int .i64 0 :: Value.int .i64 0 :: Value.int .i64 0 :: Value.int .i64 0 :: Value.int .i64 0 :: Value.int .i64 0 :: Value.int .i64 0 :: Value.int .i64 0 :: Value.int .i64 0 :: Value.int .i64 0 :: Value.int .i64 0 :: Value.int .i64 0 :: Value.int .i64 0 :: Value.int .i64 0 :: Value.int .i64 0 :: Value.int .i64 0 :: Value.int .i64 0 :: Value.int .i64 0 :: Value.int .i64 0 :: Value.int .i64 0 :: Value.int .i64 0 :: Value.int .i64 0 :: Value.int .i64 0 :: Value.int .i64 0 :: Value.int .i64 0 :: Value.int .i64 0 :: Value.int .i64 0 :: Value.int .i64 0 :: Value.int .i64 0 :: Value.int .i64 0 :: Value.int .i64 0 :: Value.int .i64 0 :: Value.int .i64 0 :: Value.int .i64 0 :: Value.int .i64 0 :: Value.int .i64 0 :: Value.int .i64 0 :: Value.int .i64 0 :: Value.int .i64 0 :: Value.int .i64 0 :: Value.int .i64 0 :: Value.int .i64 0 :: Value.int .i64 0 :: Value.int .i64 0 :: Value.int .i64 0 :: Value.int .i64 0 :: Value.int .i64 0 :: Value.int .i64 0 :: Value.int .i64 0 :: Value.int .i64 0 :: Value.int .i64 0 :: Value.int .i64 0 :: Value.int .i64 0 :: Value.int .i64 0 :: Value.int .i64 0 :: Value.int .i64 0 :: Value.int .i64 0 :: Value.int .i64 0 :: Value.int .i64 0 :: Value.int .i64 0 :: Value.int .i64 0 :: Value.int .i64 0 :: Value.int .i64 0 :: Value.int .i64 0 :: []) = tab .i64 64 (fun _ => 0)) := zeros64
  obtain ⟨ao, vcap, rfl, h0⟩ := h
  go_enter Try.func13, Try.ntmps13
  go_wp2_with fail
  go_loopw [3, 4] (fun o j V => ∃ k : Nat, k ≤ N ∧ j = .int .i64 k ∧ ∃ xs, Lst w V 69 1 o k xs ∧ RwA V o xs k L F) (fun _ j _ => N - (intOf j).toNat)
  case atStart => exact ⟨0, Nat.zero_le _, rfl, [], Lst.start _ _ _, ⟨rfl, fun k hk => absurd hk (by omega)⟩⟩
  case round =>
    obtain ⟨i, hi, rfl, xs, LL, RW⟩ := hrel
    obtain ⟨po, pc, rfl⟩ := LL.slice
    by_cases hlt : i < N
    · have i0 : (0 : Int) ≤ (i : Int) := by omega
      have i1 : (i : Int) < (N : Int) := by omega
      obtain ⟨go, off, rfl, hrow⟩ := h0 (by omega)
      obtain ⟨u, hu1, ro, cm, rfl, hu2⟩ := hrow i hlt
      obtain ⟨n, hn⟩ : ∃ n, L i = n := ⟨_, rfl⟩
      have hn6 : n ≤ 1000000 := by rw [← hn]; exact hL i hlt
      have HLn : Hid (L i = n) := hn
      rw [hn] at hu1 hu2
      obtain ⟨f, hf⟩ : ∃ f, F i = f := ⟨_, rfl⟩
      have HFf : Hid (F i = f) := hf
      rw [hf] at hu2
      have bw := LL.but
      have HW : Hid _ := And.intro LL RW
      clear hn hf hrow h0 LL RW
      obtain ⟨w0, rfl⟩ : ∃ z, z = wr := ⟨_, rfl⟩
      go_wp2_with fail
      go_loopw [5, 6] (fun o j V => ∃ k : Nat, k ≤ n ∧ j = .int .i64 k ∧ Lst w0 V 59 64 o k (tab .i64 (k * 64) f)) (fun _ j _ => n - (intOf j).toNat)
      case atStart => exact ⟨0, Nat.zero_le _, rfl, Lst.start _ _ _⟩
      case round =>
        obtain ⟨k, hk, rfl, LR⟩ := hrel
        obtain ⟨qo, qc, rfl⟩ := LR.slice
        obtain ⟨w2, rfl⟩ : ∃ z, z = wr := ⟨_, rfl⟩
        have bV : But Nowhere w w2 := bw.trans LR.but
        have hcell := bV.keeps (not_nowhere _) hu1
        by_cases hlk : k < n
        · have k0 : (0 : Int) ≤ (k : Int) := by omega
          have k1 : (k : Int) < (n : Int) := by omega
          obtain ⟨gm, om, rfl, hu3⟩ := hu2 (by omega)
          obtain ⟨fr, hfr⟩ : ∃ fr, fr = fun j => f (k * 64 + j) := ⟨_, rfl⟩
          have HFR : Hid (fr = fun j => f (k * 64 + j)) := hfr
          have HNUM : Hid (∀ j, j < 64 → w.cell? ⟨gm, om + k * 64 + j, none⟩ = some (.int .i64 (fr j))) := fun j hj => by
            have : (k + 1) * 64 ≤ n * 64 := Nat.mul_le_mul_right 64 hlk
            rw [hfr, Nat.add_assoc]; exact hu3 (k * 64 + j) (by omega)
          have C1 := (Cells.new w2 59 (Value.int .i64 0 :: Value.int .i64 0 :: Value.int .i64 0 :: Value.int .i64 0 :: Value.int .i64 0 :: Value.int .i64 0 :: Value.int .i64 0 :: Value.int .i64 0 :: Value.int .i64 0 :: Value.int .i64 0 :: Value.int .i64 0 :: Value.int .i64 0 :: Value.int .i64 0 :: Value.int .i64 0 :: Value.int .i64 0 :: Value.int .i64 0 :: Value.int .i64 0 :: Value.int .i64 0 :: Value.int .i64 0 :: Value.int .i64 0 :: Value.int .i64 0 :: Value.int .i64 0 :: Value.int .i64 0 :: Value.int .i64 0 :: Value.int .i64 0 :: Value.int .i64 0 :: Value.int .i64 0 :: Value.int .i64 0 :: Value.int .i64 0 :: Value.int .i64 0 :: Value.int .i64 0 :: Value.int .i64 0 :: Value.int .i64 0 :: Value.int .i64 0 :: Value.int .i64 0 :: Value.int .i64 0 :: Value.int .i64 0 :: Value.int .i64 0 :: Value.int .i64 0 :: Value.int .i64 0 :: Value.int .i64 0 :: Value.int .i64 0 :: Value.int .i64 0 :: Value.int .i64 0 :: Value.int .i64 0 :: Value.int .i64 0 :: Value.int .i64 0 :: Value.int .i64 0 :: Value.int .i64 0 :: Value.int .i64 0 :: Value.int .i64 0 :: Value.int .i64 0 :: Value.int .i64 0 :: Value.int .i64 0 :: Value.int .i64 0 :: Value.int .i64 0 :: Value.int .i64 0 :: Value.int .i64 0 :: Value.int .i64 0 :: Value.int .i64 0 :: Value.int .i64 0 :: Value.int .i64 0 :: Value.int .i64 0 :: Value.int .i64 0 :: [])).of_eqL' ZL.out
          obtain ⟨XB, hXB⟩ : ∃ b, w2.heap.size = b := ⟨_, rfl⟩
          have hwX : w.heap.size ≤ XB := by have := bV.size; omega
          have hgo := World.block_lt_of_cell? w _ hu1
          have hgm := World.block_lt_of_cell? w _ (hu3 0 (by omega))
          dsimp only at hgo hgm
          rw [hXB] at C1
          have HTH : Hid _ := C1.there 0 64 (by rw [tab_length]; omega)
          have HG3 : Hid _ := And.intro (C1.layL' (fun _ => 0) (Value.int .i64 0 :: Value.int .i64 0 :: Value.int .i64 0 :: Value.int .i64 0 :: Value.int .i64 0 :: Value.int .i64 0 :: Value.int .i64 0 :: Value.int .i64 0 :: Value.int .i64 0 :: Value.int .i64 0 :: Value.int .i64 0 :: Value.int .i64 0 :: Value.int .i64 0 :: Value.int .i64 0 :: Value.int .i64 0 :: Value.int .i64 0 :: Value.int .i64 0 :: Value.int .i64 0 :: Value.int .i64 0 :: Value.int .i64 0 :: Value.int .i64 0 :: Value.int .i64 0 :: Value.int .i64 0 :: Value.int .i64 0 :: Value.int .i64 0 :: Value.int .i64 0 :: Value.int .i64 0 :: Value.int .i64 0 :: Value.int .i64 0 :: Value.int .i64 0 :: Value.int .i64 0 :: Value.int .i64 0 :: Value.int .i64 0 :: Value.int .i64 0 :: Value.int .i64 0 :: Value.int .i64 0 :: Value.int .i64 0 :: Value.int .i64 0 :: Value.int .i64 0 :: Value.int .i64 0 :: Value.int .i64 0 :: Value.int .i64 0 :: Value.int .i64 0 :: Value.int .i64 0 :: Value.int .i64 0 :: Value.int .i64 0 :: Value.int .i64 0 :: Value.int .i64 0 :: Value.int .i64 0 :: Value.int .i64 0 :: Value.int .i64 0 :: Value.int .i64 0 :: Value.int .i64 0 :: Value.int .i64 0 :: Value.int .i64 0 :: Value.int .i64 0 :: Value.int .i64 0 :: Value.int .i64 0 :: Value.int .i64 0 :: Value.int .i64 0 :: Value.int .i64 0 :: Value.int .i64 0 :: Value.int .i64 0 :: Value.int .i64 0 :: []) ZL.out) (But.setCells (S := Nowhere) (b := XB) (Value.int .i64 0 :: Value.int .i64 0 :: Value.int .i64 0 :: Value.int .i64 0 :: Value.int .i64 0 :: Value.int .i64 0 :: Value.int .i64 0 :: Value.int .i64 0 :: Value.int .i64 0 :: Value.int .i64 0 :: Value.int .i64 0 :: Value.int .i64 0 :: Value.int .i64 0 :: Value.int .i64 0 :: Value.int .i64 0 :: Value.int .i64 0 :: Value.int .i64 0 :: Value.int .i64 0 :: Value.int .i64 0 :: Value.int .i64 0 :: Value.int .i64 0 :: Value.int .i64 0 :: Value.int .i64 0 :: Value.int .i64 0 :: Value.int .i64 0 :: Value.int .i64 0 :: Value.int .i64 0 :: Value.int .i64 0 :: Value.int .i64 0 :: Value.int .i64 0 :: Value.int .i64 0 :: Value.int .i64 0 :: Value.int .i64 0 :: Value.int .i64 0 :: Value.int .i64 0 :: Value.int .i64 0 :: Value.int .i64 0 :: Value.int .i64 0 :: Value.int .i64 0 :: Value.int .i64 0 :: Value.int .i64 0 :: Value.int .i64 0 :: Value.int .i64 0 :: Value.int .i64 0 :: Value.int .i64 0 :: Value.int .i64 0 :: Value.int .i64 0 :: Value.int .i64 0 :: Value.int .i64 0 :: Value.int .i64 0 :: Value.int .i64 0 :: Value.int .i64 0 :: Value.int .i64 0 :: Value.int .i64 0 :: Value.int .i64 0 :: Value.int .i64 0 :: Value.int .i64 0 :: Value.int .i64 0 :: Value.int .i64 0 :: Value.int .i64 0 :: Value.int .i64 0 :: Value.int .i64 0 :: Value.int .i64 0 :: Value.int .i64 0 :: []) ((But.refl Nowhere w2).alloc (.cells (Value.int .i64 0 :: Value.int .i64 0 :: Value.int .i64 0 :: Value.int .i64 0 :: Value.int .i64 0 :: Value.int .i64 0 :: Value.int .i64 0 :: Value.int .i64 0 :: Value.int .i64 0 :: Value.int .i64 0 :: Value.int .i64 0 :: Value.int .i64 0 :: Value.int .i64 0 :: Value.int .i64 0 :: Value.int .i64 0 :: Value.int .i64 0 :: Value.int .i64 0 :: Value.int .i64 0 :: Value.int .i64 0 :: Value.int .i64 0 :: Value.int .i64 0 :: Value.int .i64 0 :: Value.int .i64 0 :: Value.int .i64 0 :: Value.int .i64 0 :: Value.int .i64 0 :: Value.int .i64 0 :: Value.int .i64 0 :: Value.int .i64 0 :: Value.int .i64 0 :: Value.int .i64 0 :: Value.int .i64 0 :: Value.int .i64 0 :: Value.int .i64 0 :: Value.int .i64 0 :: Value.int .i64 0 :: Value.int .i64 0 :: Value.int .i64 0 :: Value.int .i64 0 :: Value.int .i64 0 :: Value.int .i64 0 :: Value.int .i64 0 :: Value.int .i64 0 :: Value.int .i64 0 :: Value.int .i64 0 :: Value.int .i64 0 :: Value.int .i64 0 :: Value.int .i64 0 :: Value.int .i64 0 :: Value.int .i64 0 :: Value.int .i64 0 :: Value.int .i64 0 :: Value.int .i64 0 :: Value.int .i64 0 :: Value.int .i64 0 :: Value.int .i64 0 :: Value.int .i64 0 :: Value.int .i64 0 :: Value.int .i64 0 :: Value.int .i64 0 :: Value.int .i64 0 :: Value.int .i64 0 :: Value.int .i64 0 :: Value.int .i64 0 :: []).toArray 59)) (fun q => by omega) 0)
          have HZ : Hid _ := And.intro (show (Try.prog.info? 59).map (·.size) = some 64 by kernel_rfl) (show (Value.int .i64 0 :: Value.int .i64 0 :: Value.int .i64 0 :: Value.int .i64 0 :: Value.int .i64 0 :: Value.int .i64 0 :: Value.int .i64 0 :: Value.int .i64 0 :: Value.int .i64 0 :: Value.int .i64 0 :: Value.int .i64 0 :: Value.int .i64 0 :: Value.int .i64 0 :: Value.int .i64 0 :: Value.int .i64 0 :: Value.int .i64 0 :: Value.int .i64 0 :: Value.int .i64 0 :: Value.int .i64 0 :: Value.int .i64 0 :: Value.int .i64 0 :: Value.int .i64 0 :: Value.int .i64 0 :: Value.int .i64 0 :: Value.int .i64 0 :: Value.int .i64 0 :: Value.int .i64 0 :: Value.int .i64 0 :: Value.int .i64 0 :: Value.int .i64 0 :: Value.int .i64 0 :: Value.int .i64 0 :: Value.int .i64 0 :: Value.int .i64 0 :: Value.int .i64 0 :: Value.int .i64 0 :: Value.int .i64 0 :: Value.int .i64 0 :: Value.int .i64 0 :: Value.int .i64 0 :: Value.int .i64 0 :: Value.int .i64 0 :: Value.int .i64 0 :: Value.int .i64 0 :: Value.int .i64 0 :: Value.int .i64 0 :: Value.int .i64 0 :: Value.int .i64 0 :: Value.int .i64 0 :: Value.int .i64 0 :: Value.int .i64 0 :: Value.int .i64 0 :: Value.int .i64 0 :: Value.int .i64 0 :: Value.int .i64 0 :: Value.int .i64 0 :: Value.int .i64 0 :: Value.int .i64 0 :: Value.int .i64 0 :: Value.int .i64 0 :: Value.int .i64 0 :: Value.int .i64 0 :: Value.int .i64 0 :: Value.int .i64 0 :: []).toArray.all (·.oneCell') = true by rw [ZL.out]; exact tab_all _ _ _)
          have HLR : Hid _ := LR
          clear C1 hfr hu2 hu3 LR
          go_wp2_with (refine wpList_store_mid rfl 59 (.tmp 7) (.tmp 24) rfl XB 0 (Value.int .i64 0 :: Value.int .i64 0 :: Value.int .i64 0 :: Value.int .i64 0 :: Value.int .i64 0 :: Value.int .i64 0 :: Value.int .i64 0 :: Value.int .i64 0 :: Value.int .i64 0 :: Value.int .i64 0 :: Value.int .i64 0 :: Value.int .i64 0 :: Value.int .i64 0 :: Value.int .i64 0 :: Value.int .i64 0 :: Value.int .i64 0 :: Value.int .i64 0 :: Value.int .i64 0 :: Value.int .i64 0 :: Value.int .i64 0 :: Value.int .i64 0 :: Value.int .i64 0 :: Value.int .i64 0 :: Value.int .i64 0 :: Value.int .i64 0 :: Value.int .i64 0 :: Value.int .i64 0 :: Value.int .i64 0 :: Value.int .i64 0 :: Value.int .i64 0 :: Value.int .i64 0 :: Value.int .i64 0 :: Value.int .i64 0 :: Value.int .i64 0 :: Value.int .i64 0 :: Value.int .i64 0 :: Value.int .i64 0 :: Value.int .i64 0 :: Value.int .i64 0 :: Value.int .i64 0 :: Value.int .i64 0 :: Value.int .i64 0 :: Value.int .i64 0 :: Value.int .i64 0 :: Value.int .i64 0 :: Value.int .i64 0 :: Value.int .i64 0 :: Value.int .i64 0 :: Value.int .i64 0 :: Value.int .i64 0 :: Value.int .i64 0 :: Value.int .i64 0 :: Value.int .i64 0 :: Value.int .i64 0 :: Value.int .i64 0 :: Value.int .i64 0 :: Value.int .i64 0 :: Value.int .i64 0 :: Value.int .i64 0 :: Value.int .i64 0 :: Value.int .i64 0 :: Value.int .i64 0 :: Value.int .i64 0 :: Value.int .i64 0 :: []).toArray rfl rfl ?_ HZ.out.1 HZ.out.2 ?_; exact HTH.out)
          obtain ⟨gX, bX⟩ := HG3.out
          clear HG3 HTH HZ
          revert gX bX
          generalize (w2.alloc (.cells (Value.int .i64 0 :: Value.int .i64 0 :: Value.int .i64 0 :: Value.int .i64 0 :: Value.int .i64 0 :: Value.int .i64 0 :: Value.int .i64 0 :: Value.int .i64 0 :: Value.int .i64 0 :: Value.int .i64 0 :: Value.int .i64 0 :: Value.int .i64 0 :: Value.int .i64 0 :: Value.int .i64 0 :: Value.int .i64 0 :: Value.int .i64 0 :: Value.int .i64 0 :: Value.int .i64 0 :: Value.int .i64 0 :: Value.int .i64 0 :: Value.int .i64 0 :: Value.int .i64 0 :: Value.int .i64 0 :: Value.int .i64 0 :: Value.int .i64 0 :: Value.int .i64 0 :: Value.int .i64 0 :: Value.int .i64 0 :: Value.int .i64 0 :: Value.int .i64 0 :: Value.int .i64 0 :: Value.int .i64 0 :: Value.int .i64 0 :: Value.int .i64 0 :: Value.int .i64 0 :: Value.int .i64 0 :: Value.int .i64 0 :: Value.int .i64 0 :: Value.int .i64 0 :: Value.int .i64 0 :: Value.int .i64 0 :: Value.int .i64 0 :: Value.int .i64 0 :: Value.int .i64 0 :: Value.int .i64 0 :: Value.int .i64 0 :: Value.int .i64 0 :: Value.int .i64 0 :: Value.int .i64 0 :: Value.int .i64 0 :: Value.int .i64 0 :: Value.int .i64 0 :: Value.int .i64 0 :: Value.int .i64 0 :: Value.int .i64 0 :: Value.int .i64 0 :: Value.int .i64 0 :: Value.int .i64 0 :: Value.int .i64 0 :: Value.int .i64 0 :: Value.int .i64 0 :: Value.int .i64 0 :: Value.int .i64 0 :: Value.int .i64 0 :: []).toArray 59)).setCells XB 0 (Value.int .i64 0 :: Value.int .i64 0 :: Value.int .i64 0 :: Value.int .i64 0 :: Value.int .i64 0 :: Value.int .i64 0 :: Value.int .i64 0 :: Value.int .i64 0 :: Value.int .i64 0 :: Value.int .i64 0 :: Value.int .i64 0 :: Value.int .i64 0 :: Value.int .i64 0 :: Value.int .i64 0 :: Value.int .i64 0 :: Value.int .i64 0 :: Value.int .i64 0 :: Value.int .i64 0 :: Value.int .i64 0 :: Value.int .i64 0 :: Value.int .i64 0 :: Value.int .i64 0 :: Value.int .i64 0 :: Value.int .i64 0 :: Value.int .i64 0 :: Value.int .i64 0 :: Value.int .i64 0 :: Value.int .i64 0 :: Value.int .i64 0 :: Value.int .i64 0 :: Value.int .i64 0 :: Value.int .i64 0 :: Value.int .i64 0 :: Value.int .i64 0 :: Value.int .i64 0 :: Value.int .i64 0 :: Value.int .i64 0 :: Value.int .i64 0 :: Value.int .i64 0 :: Value.int .i64 0 :: Value.int .i64 0 :: Value.int .i64 0 :: Value.int .i64 0 :: Value.int .i64 0 :: Value.int .i64 0 :: Value.int .i64 0 :: Value.int .i64 0 :: Value.int .i64 0 :: Value.int .i64 0 :: Value.int .i64 0 :: Value.int .i64 0 :: Value.int .i64 0 :: Value.int .i64 0 :: Value.int .i64 0 :: Value.int .i64 0 :: Value.int .i64 0 :: Value.int .i64 0 :: Value.int .i64 0 :: Value.int .i64 0 :: Value.int .i64 0 :: Value.int .i64 0 :: Value.int .i64 0 :: Value.int .i64 0 :: Value.int .i64 0 :: []) = W3
          intro gX bX
          go_loopw [8] (fun j V => ∃ t : Nat, t ≤ 64 ∧ j = .int .i64 t ∧ But (fun x => x = XB) W3 V ∧ Cells V XB 59 (tab .i64 64 (fun j => if j < t then fr j else 0))) (fun j _ => 64 - (intOf j).toNat)
          case atStart => exact ⟨0, Nat.zero_le _, rfl, But.refl _ _, by rw [tab_congr .i64 64 (fun j => if j < 0 then fr j else 0) (fun _ => 0) (fun j _ => if_neg (Nat.not_lt_zero j))]; exact gX⟩
          case round =>
            obtain ⟨t, ht, rfl, hbX, hX⟩ := hrel
            have b9 : But Nowhere w wr := (bV.trans bX).step hbX (fun k hk e => by omega)
            have hcr := b9.keeps (not_nowhere _) hu1
            by_cases ht6 : t < 64
            · have t0 : (0 : Int) ≤ (t : Int) := by omega
              have t1 : (t : Int) < 64 := by omega
              have hnum := b9.keeps (not_nowhere _) (HNUM.out t ht6)
              have HBX : Hid _ := And.intro hbX hX
              clear hbX hX gX hcell
              go_wp2_with fail
              refine (of_any _ _).mono ?_
              rintro e w4 ⟨rfl, b4⟩
              obtain ⟨hbX, hX⟩ := HBX.out
              have hX4 := hX.but b4 (not_nowhere _)
              have c9 := hX4.cell t ht6
              have f9 := hX4.frozen t
              have hX5 := hX4.set t (.int .i64 (fr t))
              rw [tab_grow .i64 64 fr (fun _ => 0) t] at hX5
              have HE : Hid _ := And.intro (But.setCell (S := fun x => x = XB) (p := ⟨XB, t, none⟩) (hbX.step b4 (fun _ _ f => f.elim)) (fun _ => rfl) (.int .i64 (fr t))) hX5
              clear HBX hbX hX hX4 hX5 b4 hcr hnum b9
              go_wp2_with fail
              go_roundw
              case rel => exact ⟨t + 1, by omega, by go_num, HE.out.1, HE.out.2⟩
              case measure => simp [intOf]; omega
            · obtain rfl : t = 64 := by omega
              rw [tab_full] at hX
              have hr1 : wr.rangeAt XB 0 (tab .i64 64 fr) := by have := hX.range 0 64 (by omega); simpa using this
              have LR1 := HLR.out.step bX
              have LR2 := LR1.stepS hbX (fun x hx e => by have := HLR.out.lt hx; omega) (fun x e => by have := HLR.out.but.size; omega)
              obtain ⟨g4, cap4, W4, hrun, L4, b4, hg4⟩ := Lst.push Try.elem64S LR2 (tab .i64 64 fr) (tab_length _ _ _) (tab_one _ _ _) (by omega) (by omega) _ rfl
              rw [HFR.out, tab_more'] at L4
              have hiA : (Try.prog.info? 59).map (·.size) = some (tab .i64 64 fr).length := by rw [tab_length]; kernel_rfl
              have HRUN : Hid _ := hrun
              have HE : Hid _ := L4
              clear hrun L4 b4 hg4 LR1 LR2 hX gX hcell hcr
              go_wp2_with (first | (refine wpList_load_mid rfl 59 (.tmp 7) rfl XB 0 rfl (tab .i64 64 fr) _ ?_ huA rfl hiA ?_; exact hr1) | (refine wpList_build_one Try.elem64S rfl (.tmp 42) rfl (.agg (tab .i64 64 fr).toArray) rfl (tab .i64 64 fr) rfl (tab_length _ _ _) (by omega) wr.heap.size rfl ?_) | (refine wpList_append_run rfl (.tmp 41) (.tmp 43) 69 rfl (.slice qo k qc) (.slice (some ⟨wr.heap.size, 0, none⟩) 1 1) rfl rfl (.slice (some ⟨g4, 0, none⟩) (k + 1) cap4) W4 HRUN.out ?_))
              go_roundw
              case rel => exact ⟨k + 1, by omega, by go_num, HE.out⟩
              case measure => simp [intOf]; omega
        · obtain rfl : k = n := by omega
          have hnew : ∀ x, (Value.slice qo k qc).ownBlock = some x → x < w2.heap.size ∧ (Value.slice po i pc).ownBlock ≠ some x := fun x hx => ⟨LR.lt hx, fun e => by have h1 := HW.out.1.lt e; have h2 := LR.new x hx; omega⟩
          have hrowV : RowAt w2 (.slice qo k qc) (L i) (F i) := by rw [HLn.out, HFf.out]; exact LR.rowAt
          obtain ⟨g4, cap4, W4, hrun, L4, b4, hg4⟩ := Lst.push Try.elemRowS (HW.out.1.step LR.but) [.slice qo k qc] rfl (by simp [Value.oneCell']) (by omega) (by omega) _ rfl
          have RW4 := (HW.out.2.but LR.but).push (o' := .slice (some ⟨g4, 0, none⟩) (i + 1) cap4) (.slice qo k qc) hrowV hnew b4 g4 rfl hg4
          have HRUN : Hid _ := hrun
          have HE : Hid _ := And.intro L4 RW4
          clear hrun L4 RW4 b4 hg4 hrowV hnew hu2 LR
          go_wp2_with (refine wpList_append_run rfl (.tmp 45) (.tmp 47) 38 rfl (.slice po i pc) (.slice (some ⟨w2.heap.size, 0, none⟩) 1 1) rfl rfl (.slice (some ⟨g4, 0, none⟩) (i + 1) cap4) W4 HRUN.out ?_)
          go_roundw
          case rel => exact ⟨i + 1, by omega, by go_num, _, HE.out.1, HE.out.2⟩
          case measure => simp [intOf]; omega
    · obtain rfl : i = N := by omega
      have HF : Hid _ := And.intro (RW.ba LL) LL.but
      clear LL RW h0
      go_wp2_with fail
      go_ret
      exact ⟨⟨_, rfl, HF.out.1⟩, HF.out.2⟩

end Go.Proofs.Ytppbnmlgilgnnaa

/- The law's Blocks: there are some, and all of them can be read. -/
namespace Go.Proofs.Ytppbnmlgilgnnaa
open Go.ChangeShapes Go.WideShapes Go.ChangeAt Go.RowKit

theorem Try.elemBlk : ElemInfo Try.prog 51 53 (.agg (List.replicate 64 (Value.int .i64 0)).toArray) 64 512 := ⟨Try.underlying51, by kernel_rfl, rfl, by omega⟩
theorem Try.elemBlks : ElemInfo Try.prog 29 51 (.slice none 0 0) 1 24 := ⟨Try.underlying29, by kernel_rfl, rfl, by omega⟩

theorem I64.small {x : Int} (h : -1000000000 ≤ x ∧ x ≤ 1000000000) : I64 x := by unfold I64; omega

theorem I64.zero : I64 0 := I64.small (by omega)

/-- All blocks of a list but the last. -/
theorem slice_front (qo : Option Addr) (n n1 qc : Nat) (h : n = n1 + 1) (hc : n ≤ qc) (w : World) : (Instr.slice 51 (.slice qo n qc) none (some (.int .i64 (n1 : Int))) none).run Try.prog w = .ok (.slice qo n1 qc) w := by
  have hi : (Try.prog.info? (Try.prog.elem 51)).map (·.size) = some 64 := by kernel_rfl
  rw [run_slice_h w _ _ _ _ (by kernel_rfl) .i64 n1 (by omega) (by omega)]
  cases hq : Try.prog.info? (Try.prog.elem 51) with
  | none => simp [hq] at hi
  | some i =>
    have h0 : ¬ qc = 0 := by omega
    simp [sizeOf, typeInfo, hq, sliced, h0]
    cases qo <;> simp [Addr.add]

/-- All lists but the first. -/
theorem slice_back (qo : Option Addr) (n n1 qc : Nat) (h : n = n1 + 1) (w : World) : (Instr.slice 29 (.slice qo n qc) (some (.int .i64 1)) none none).run Try.prog w = .ok (.slice (if qc = 1 then qo else qo.map (·.add 1)) n1 (qc - 1)) w := by
  have hi : (Try.prog.info? (Try.prog.elem 29)).map (·.size) = some 1 := by kernel_rfl
  rw [run_slice_l w _ _ _ _ (by kernel_rfl) .i64 1 (by omega) (by omega)]
  cases hq : Try.prog.info? (Try.prog.elem 29) with
  | none => simp [hq] at hi
  | some i =>
    have hs : i.size = 1 := by simpa [hq] using hi
    simp [sizeOf, typeInfo, hq, hs, sliced, h]

theorem BA.rest {W : World} {ao : Option Addr} {cap n m : Nat} {L : Nat → Nat} {F : Nat → Nat → Int} (h : BA W (.slice ao m cap) m L F) (hm : m = n + 1) (c' : Nat) (hc : m ≤ cap) : BA W (.slice (if cap = 1 then ao else ao.map (·.add 1)) n c') n (fun i => L (i + 1)) (fun i => F (i + 1)) := by
  obtain ⟨ao0, cap0, e, h⟩ := h
  simp only [Value.slice.injEq] at e
  obtain ⟨rfl, -, -⟩ := e
  refine ⟨_, c', rfl, fun hn => ?_⟩
  obtain ⟨go, off, rfl, h2⟩ := h (by omega)
  refine ⟨go, off + 1, by rw [if_neg (by omega)]; simp [Addr.add], fun i hi => ?_⟩
  obtain ⟨u, h3, h4⟩ := h2 (i + 1) (by omega)
  exact ⟨u, by rw [show off + 1 + i = off + (i + 1) by omega]; exact h3, h4⟩

theorem RowAt.less {W : World} {qo : Option Addr} {n n1 qc : Nat} {f : Nat → Int} (h : RowAt W (.slice qo n qc) n f) (hn : n1 ≤ n) : RowAt W (.slice qo n1 qc) n1 f := by
  obtain ⟨ro, c, e, h⟩ := h
  simp only [Value.slice.injEq] at e
  obtain ⟨rfl, -, rfl⟩ := e
  refine ⟨_, _, rfl, fun hp => ?_⟩
  obtain ⟨g, o, e2, h2⟩ := h (by omega)
  exact ⟨g, o, e2, fun j hj => h2 j (by omega)⟩

/-- One list more, whatever is said of it. -/
theorem RwA.pushN {V V' : World} {o o' : Value} {xs : List Value} {n : Nat} {L : Nat → Nat} {F : Nat → Nat → Int} (h : RwA V o xs n L F) (u : Value) (k : Nat) (f : Nat → Int) (hu : RowAt V u k f) (hx : ∀ x, u.ownBlock = some x → x < V.heap.size ∧ o.ownBlock ≠ some x)
    (hb : But (fun k => o.ownBlock = some k) V V') (g4 : Nat) (ho' : o'.ownBlock = some g4) (h4 : o.ownBlock = some g4 ∨ V.heap.size ≤ g4) : RwA V' o' (xs ++ [u]) (n + 1) (fun i => if i = n then k else L i) (fun i => if i = n then f else F i) := by
  have h' : RwA V o xs n (fun i => if i = n then k else L i) (fun i => if i = n then f else F i) := ⟨h.len, fun i hi => by
    obtain ⟨u, h1, h2, h3⟩ := h.row i hi
    have e : ¬ i = n := by omega
    exact ⟨u, h1, by simpa [e] using h2, h3⟩⟩
  exact h'.push u (by simpa using hu) hx hb g4 ho' h4

theorem upd_I64 {g : Nat → Int} (hg : ∀ j, I64 (g j)) (o : Nat) {v : Int} (hv : I64 v) : ∀ j, I64 (upd g o v j) := fun j => by
  unfold upd
  split
  · exact hv
  · exact hg j

set_option maxHeartbeats 6400000 in
set_option maxRecDepth 100000 in
theorem blocks_any (W H m : Int) (f : Fit W H m) (v : Value) (lc : List Int) (a : Int) (w : World) (hv : View w .u8 v lc) (hx : ∀ x ∈ lc, 0 ≤ x ∧ x ≤ 255) (hcl : lc.length ≤ 140737488355328) (hNs : (gridW W H m * gridH W H m).toNat ≤ 1000) :
    Calls Try.prog 10 #[pV W H m 50 1 0, v, .int .u8 a] w fun e w' => (∃ v' n L F, e = .returned v' ∧ BA w' v' n L F ∧ n ≤ 1000 ∧ (∀ i, L i ≤ 6) ∧ ∀ i j, I64 (F i j)) ∧ But Nowhere w w' := by
  have huA := Try.underlying53
  have ZL : Hid ((Value.int .i64 0 :: Value.int .i64 0 :: Value.int .i64 0 :: Value.int .i64 0 :: Value.int .i64 0 :: Value.int .i64 0 :: Value.int .i64 0 :: Value.int .i64 0 :: Value.int .i64 0 :: Value.int .i64 0 :: Value.int .i64 0 :: Value.int .i64 0 :: Value.int .i64 0 :: Value.int .i64 0 :: Value.int .i64 0 :: Value.int .i64 0 :: Value.int .i64 0 :: Value.int .i64 0 :: Value.int .i64 0 :: Value.int .i64 0 :: Value.int .i64 0 :: Value.int .i64 0 :: Value.int .i64 0 :: Value.int .i64 0 :: Value.int .i64 0 :: Value.int .i64 0 :: Value.int .i64 0 :: Value.int .i64 0 :: Value.int .i64 0 :: Value.int .i64 0 :: Value.int .i64 0 :: Value.int .i64 0 :: Value.int .i64 0 :: Value.int .i64 0 :: Value.int .i64 0 :: Value.int .i64 0 :: Value.int .i64 0 :: Value.int .i64 0 :: Value.int .i64 0 :: Value.int .i64 0 :: Value.int .i64 0 :: Value.int .i64 0 :: Value.int .i64 0 :: Value.int .i64 0 :: Value.int .i64 0 :: Value.int .i64 0 :: Value.int .i64 0 :: Value.int .i64 0 :: Value.int .i64 0 :: Value.int .i64 0 :: Value.int .i64 0 :: Value.int .i64 0 :: Value.int .i64 0 :: Value.int .i64 0 :: Value.int .i64 0 :: Value.int .i64 0 :: Value.int .i64 0 :: Value.int .i64 0 :: Value.int .i64 0 :: Value.int .i64 0 :: Value.int .i64 0 :: Value.int .i64 0 :: Value.int .i64 0 :: Value.int .i64 0 :: []) = tab .i64 64 (fun _ => 0)) := zeros64
  obtain ⟨-, -, g3, g4, g5, g6⟩ := f.grid
  obtain ⟨ga, hga⟩ : ∃ a, gridW W H m = a := ⟨_, rfl⟩
  obtain ⟨gb, hgb⟩ : ∃ b, gridH W H m = b := ⟨_, rfl⟩
  have HG : Hid (gridW W H m = ga ∧ gridH W H m = gb) := ⟨hga, hgb⟩
  rw [hga, hgb] at hNs
  rw [hga] at g3 g4
  rw [hgb] at g5 g6
  obtain ⟨N0, N1⟩ : 0 ≤ ga * gb ∧ ga * gb ≤ 8192 * 8192 := ⟨Int.mul_nonneg (by omega) (by omega), Int.mul_le_mul g4 g6 (by omega) (by omega)⟩
  obtain ⟨N, hN⟩ : ∃ N : Nat, (ga * gb).toNat = N := ⟨_, rfl⟩
  rw [hN] at hNs
  have hN1 : 1 ≤ N := by
    have : 1 * 1 ≤ ga * gb := Int.mul_le_mul (by omega) (by omega) (by omega) (by omega)
    omega
  have e0 : wrap64 (ga * gb) = (N : Int) := by rw [show ga * gb = (N : Int) by omega]; exact w64 _ (by omega)
  have hMN := refMany_fit m f.m
  have hM6 := (unit_pos m)
  obtain ⟨M, hM⟩ : ∃ M, (unitL m).length = M := ⟨_, rfl⟩
  rw [hM] at hMN hM6
  have HMN : Hid _ := hMN
  obtain ⟨vo, vc, rfl⟩ := hv.slice
  have kk := (Keep.start w).made 23 (pC W H m 50 1 0)
  clear hga hgb N0 N1 hN hM hMN g3 g4 g5 g6 f
  go_enter Try.func10, Try.ntmps10
  go_wp2_with fail
  refine (refGrid_any _ _ _ _ _ _ _).mono ?_
  rintro e w1 ⟨rfl, b1⟩
  rw [HG.out.1, HG.out.2]
  replace kk := kk.step b1
  clear b1
  have c2 := kk.head.at 2
  simp only [List.getElem?_cons_zero, List.getElem?_cons_succ] at c2
  go_wp2_with fail
  refine (HMN.out _).mono ?_
  rintro e w5 ⟨rfl, b5⟩
  have bw5 := (kk.step b5).but
  clear kk c2 b5
  go_wp2_with fail
  go_loopw [10, 11] (fun o j V => ∃ k : Nat, k ≤ N ∧ j = .int .i64 k ∧ ∃ xs L F, Lst w5 V 51 1 o k xs ∧ RwA V o xs k L F ∧ (∀ i, L i ≤ 6) ∧ ∀ i j, I64 (F i j)) (fun _ j _ => N - (intOf j).toNat)
  case atStart => exact ⟨0, Nat.zero_le _, rfl, [], fun _ => 0, fun _ _ => 0, Lst.start _ _ _, ⟨rfl, fun k hk => absurd hk (by omega)⟩, fun _ => Nat.zero_le _, fun _ _ => I64.zero⟩
  case round =>
    obtain ⟨i, hi, rfl, xs, L, F, LL, RW, hL6, hF6⟩ := hrel
    obtain ⟨po, pc, rfl⟩ := LL.slice
    by_cases hlt : i < N
    · have i1 : (i : Int) < (N : Int) := by omega
      have bw := bw5.trans LL.but
      have HW : Hid _ := And.intro LL (And.intro RW (And.intro hL6 hF6))
      clear LL RW hL6 hF6
      obtain ⟨w0, rfl⟩ : ∃ z, z = wr := ⟨_, rfl⟩
      go_wp2_with fail
      go_loopw [12, 13] (fun o j V => ∃ k : Nat, k ≤ M ∧ j = .int .i64 k ∧ ∃ f, Lst w0 V 53 64 o k (tab .i64 (k * 64) f) ∧ ∀ j, I64 (f j)) (fun _ j _ => M - (intOf j).toNat)
      case atStart => exact ⟨0, Nat.zero_le _, rfl, fun _ => 0, Lst.start _ _ _, fun _ => I64.zero⟩
      case round =>
        obtain ⟨k, hk, rfl, f, LR, hf6⟩ := hrel
        obtain ⟨qo, qc, rfl⟩ := LR.slice
        obtain ⟨w2, rfl⟩ : ∃ z, z = wr := ⟨_, rfl⟩
        have bV : But Nowhere w w2 := bw.trans LR.but
        by_cases hlk : k < M
        · have k1 : (k : Int) < (M : Int) := by omega
          have C1 := (Cells.new w2 53 (Value.int .i64 0 :: Value.int .i64 0 :: Value.int .i64 0 :: Value.int .i64 0 :: Value.int .i64 0 :: Value.int .i64 0 :: Value.int .i64 0 :: Value.int .i64 0 :: Value.int .i64 0 :: Value.int .i64 0 :: Value.int .i64 0 :: Value.int .i64 0 :: Value.int .i64 0 :: Value.int .i64 0 :: Value.int .i64 0 :: Value.int .i64 0 :: Value.int .i64 0 :: Value.int .i64 0 :: Value.int .i64 0 :: Value.int .i64 0 :: Value.int .i64 0 :: Value.int .i64 0 :: Value.int .i64 0 :: Value.int .i64 0 :: Value.int .i64 0 :: Value.int .i64 0 :: Value.int .i64 0 :: Value.int .i64 0 :: Value.int .i64 0 :: Value.int .i64 0 :: Value.int .i64 0 :: Value.int .i64 0 :: Value.int .i64 0 :: Value.int .i64 0 :: Value.int .i64 0 :: Value.int .i64 0 :: Value.int .i64 0 :: Value.int .i64 0 :: Value.int .i64 0 :: Value.int .i64 0 :: Value.int .i64 0 :: Value.int .i64 0 :: Value.int .i64 0 :: Value.int .i64 0 :: Value.int .i64 0 :: Value.int .i64 0 :: Value.int .i64 0 :: Value.int .i64 0 :: Value.int .i64 0 :: Value.int .i64 0 :: Value.int .i64 0 :: Value.int .i64 0 :: Value.int .i64 0 :: Value.int .i64 0 :: Value.int .i64 0 :: Value.int .i64 0 :: Value.int .i64 0 :: Value.int .i64 0 :: Value.int .i64 0 :: Value.int .i64 0 :: Value.int .i64 0 :: Value.int .i64 0 :: Value.int .i64 0 :: Value.int .i64 0 :: [])).of_eqL' ZL.out
          obtain ⟨XB, hXB⟩ : ∃ b, w2.heap.size = b := ⟨_, rfl⟩
          have hwX : w.heap.size ≤ XB := by have := bV.size; omega
          rw [hXB] at C1
          have HTH : Hid _ := C1.there 0 64 (by rw [tab_length]; omega)
          have HG3 : Hid _ := And.intro (C1.layL' (fun _ => 0) (Value.int .i64 0 :: Value.int .i64 0 :: Value.int .i64 0 :: Value.int .i64 0 :: Value.int .i64 0 :: Value.int .i64 0 :: Value.int .i64 0 :: Value.int .i64 0 :: Value.int .i64 0 :: Value.int .i64 0 :: Value.int .i64 0 :: Value.int .i64 0 :: Value.int .i64 0 :: Value.int .i64 0 :: Value.int .i64 0 :: Value.int .i64 0 :: Value.int .i64 0 :: Value.int .i64 0 :: Value.int .i64 0 :: Value.int .i64 0 :: Value.int .i64 0 :: Value.int .i64 0 :: Value.int .i64 0 :: Value.int .i64 0 :: Value.int .i64 0 :: Value.int .i64 0 :: Value.int .i64 0 :: Value.int .i64 0 :: Value.int .i64 0 :: Value.int .i64 0 :: Value.int .i64 0 :: Value.int .i64 0 :: Value.int .i64 0 :: Value.int .i64 0 :: Value.int .i64 0 :: Value.int .i64 0 :: Value.int .i64 0 :: Value.int .i64 0 :: Value.int .i64 0 :: Value.int .i64 0 :: Value.int .i64 0 :: Value.int .i64 0 :: Value.int .i64 0 :: Value.int .i64 0 :: Value.int .i64 0 :: Value.int .i64 0 :: Value.int .i64 0 :: Value.int .i64 0 :: Value.int .i64 0 :: Value.int .i64 0 :: Value.int .i64 0 :: Value.int .i64 0 :: Value.int .i64 0 :: Value.int .i64 0 :: Value.int .i64 0 :: Value.int .i64 0 :: Value.int .i64 0 :: Value.int .i64 0 :: Value.int .i64 0 :: Value.int .i64 0 :: Value.int .i64 0 :: Value.int .i64 0 :: Value.int .i64 0 :: Value.int .i64 0 :: []) ZL.out) (But.setCells (S := Nowhere) (b := XB) (Value.int .i64 0 :: Value.int .i64 0 :: Value.int .i64 0 :: Value.int .i64 0 :: Value.int .i64 0 :: Value.int .i64 0 :: Value.int .i64 0 :: Value.int .i64 0 :: Value.int .i64 0 :: Value.int .i64 0 :: Value.int .i64 0 :: Value.int .i64 0 :: Value.int .i64 0 :: Value.int .i64 0 :: Value.int .i64 0 :: Value.int .i64 0 :: Value.int .i64 0 :: Value.int .i64 0 :: Value.int .i64 0 :: Value.int .i64 0 :: Value.int .i64 0 :: Value.int .i64 0 :: Value.int .i64 0 :: Value.int .i64 0 :: Value.int .i64 0 :: Value.int .i64 0 :: Value.int .i64 0 :: Value.int .i64 0 :: Value.int .i64 0 :: Value.int .i64 0 :: Value.int .i64 0 :: Value.int .i64 0 :: Value.int .i64 0 :: Value.int .i64 0 :: Value.int .i64 0 :: Value.int .i64 0 :: Value.int .i64 0 :: Value.int .i64 0 :: Value.int .i64 0 :: Value.int .i64 0 :: Value.int .i64 0 :: Value.int .i64 0 :: Value.int .i64 0 :: Value.int .i64 0 :: Value.int .i64 0 :: Value.int .i64 0 :: Value.int .i64 0 :: Value.int .i64 0 :: Value.int .i64 0 :: Value.int .i64 0 :: Value.int .i64 0 :: Value.int .i64 0 :: Value.int .i64 0 :: Value.int .i64 0 :: Value.int .i64 0 :: Value.int .i64 0 :: Value.int .i64 0 :: Value.int .i64 0 :: Value.int .i64 0 :: Value.int .i64 0 :: Value.int .i64 0 :: Value.int .i64 0 :: Value.int .i64 0 :: Value.int .i64 0 :: []) ((But.refl Nowhere w2).alloc (.cells (Value.int .i64 0 :: Value.int .i64 0 :: Value.int .i64 0 :: Value.int .i64 0 :: Value.int .i64 0 :: Value.int .i64 0 :: Value.int .i64 0 :: Value.int .i64 0 :: Value.int .i64 0 :: Value.int .i64 0 :: Value.int .i64 0 :: Value.int .i64 0 :: Value.int .i64 0 :: Value.int .i64 0 :: Value.int .i64 0 :: Value.int .i64 0 :: Value.int .i64 0 :: Value.int .i64 0 :: Value.int .i64 0 :: Value.int .i64 0 :: Value.int .i64 0 :: Value.int .i64 0 :: Value.int .i64 0 :: Value.int .i64 0 :: Value.int .i64 0 :: Value.int .i64 0 :: Value.int .i64 0 :: Value.int .i64 0 :: Value.int .i64 0 :: Value.int .i64 0 :: Value.int .i64 0 :: Value.int .i64 0 :: Value.int .i64 0 :: Value.int .i64 0 :: Value.int .i64 0 :: Value.int .i64 0 :: Value.int .i64 0 :: Value.int .i64 0 :: Value.int .i64 0 :: Value.int .i64 0 :: Value.int .i64 0 :: Value.int .i64 0 :: Value.int .i64 0 :: Value.int .i64 0 :: Value.int .i64 0 :: Value.int .i64 0 :: Value.int .i64 0 :: Value.int .i64 0 :: Value.int .i64 0 :: Value.int .i64 0 :: Value.int .i64 0 :: Value.int .i64 0 :: Value.int .i64 0 :: Value.int .i64 0 :: Value.int .i64 0 :: Value.int .i64 0 :: Value.int .i64 0 :: Value.int .i64 0 :: Value.int .i64 0 :: Value.int .i64 0 :: Value.int .i64 0 :: Value.int .i64 0 :: Value.int .i64 0 :: Value.int .i64 0 :: []).toArray 53)) (fun q => by omega) 0)
          have HZ : Hid _ := And.intro (show (Try.prog.info? 53).map (·.size) = some 64 by kernel_rfl) (show (Value.int .i64 0 :: Value.int .i64 0 :: Value.int .i64 0 :: Value.int .i64 0 :: Value.int .i64 0 :: Value.int .i64 0 :: Value.int .i64 0 :: Value.int .i64 0 :: Value.int .i64 0 :: Value.int .i64 0 :: Value.int .i64 0 :: Value.int .i64 0 :: Value.int .i64 0 :: Value.int .i64 0 :: Value.int .i64 0 :: Value.int .i64 0 :: Value.int .i64 0 :: Value.int .i64 0 :: Value.int .i64 0 :: Value.int .i64 0 :: Value.int .i64 0 :: Value.int .i64 0 :: Value.int .i64 0 :: Value.int .i64 0 :: Value.int .i64 0 :: Value.int .i64 0 :: Value.int .i64 0 :: Value.int .i64 0 :: Value.int .i64 0 :: Value.int .i64 0 :: Value.int .i64 0 :: Value.int .i64 0 :: Value.int .i64 0 :: Value.int .i64 0 :: Value.int .i64 0 :: Value.int .i64 0 :: Value.int .i64 0 :: Value.int .i64 0 :: Value.int .i64 0 :: Value.int .i64 0 :: Value.int .i64 0 :: Value.int .i64 0 :: Value.int .i64 0 :: Value.int .i64 0 :: Value.int .i64 0 :: Value.int .i64 0 :: Value.int .i64 0 :: Value.int .i64 0 :: Value.int .i64 0 :: Value.int .i64 0 :: Value.int .i64 0 :: Value.int .i64 0 :: Value.int .i64 0 :: Value.int .i64 0 :: Value.int .i64 0 :: Value.int .i64 0 :: Value.int .i64 0 :: Value.int .i64 0 :: Value.int .i64 0 :: Value.int .i64 0 :: Value.int .i64 0 :: Value.int .i64 0 :: Value.int .i64 0 :: Value.int .i64 0 :: []).toArray.all (·.oneCell') = true by rw [ZL.out]; exact tab_all _ _ _)
          have HLR : Hid _ := And.intro LR hf6
          clear C1 LR hf6
          go_wp2_with (refine wpList_store_mid rfl 53 (.tmp 14) (.tmp 36) rfl XB 0 (Value.int .i64 0 :: Value.int .i64 0 :: Value.int .i64 0 :: Value.int .i64 0 :: Value.int .i64 0 :: Value.int .i64 0 :: Value.int .i64 0 :: Value.int .i64 0 :: Value.int .i64 0 :: Value.int .i64 0 :: Value.int .i64 0 :: Value.int .i64 0 :: Value.int .i64 0 :: Value.int .i64 0 :: Value.int .i64 0 :: Value.int .i64 0 :: Value.int .i64 0 :: Value.int .i64 0 :: Value.int .i64 0 :: Value.int .i64 0 :: Value.int .i64 0 :: Value.int .i64 0 :: Value.int .i64 0 :: Value.int .i64 0 :: Value.int .i64 0 :: Value.int .i64 0 :: Value.int .i64 0 :: Value.int .i64 0 :: Value.int .i64 0 :: Value.int .i64 0 :: Value.int .i64 0 :: Value.int .i64 0 :: Value.int .i64 0 :: Value.int .i64 0 :: Value.int .i64 0 :: Value.int .i64 0 :: Value.int .i64 0 :: Value.int .i64 0 :: Value.int .i64 0 :: Value.int .i64 0 :: Value.int .i64 0 :: Value.int .i64 0 :: Value.int .i64 0 :: Value.int .i64 0 :: Value.int .i64 0 :: Value.int .i64 0 :: Value.int .i64 0 :: Value.int .i64 0 :: Value.int .i64 0 :: Value.int .i64 0 :: Value.int .i64 0 :: Value.int .i64 0 :: Value.int .i64 0 :: Value.int .i64 0 :: Value.int .i64 0 :: Value.int .i64 0 :: Value.int .i64 0 :: Value.int .i64 0 :: Value.int .i64 0 :: Value.int .i64 0 :: Value.int .i64 0 :: Value.int .i64 0 :: Value.int .i64 0 :: Value.int .i64 0 :: []).toArray rfl rfl ?_ HZ.out.1 HZ.out.2 ?_; exact HTH.out)
          obtain ⟨gX, bX⟩ := HG3.out
          clear HG3 HTH HZ
          revert gX bX
          generalize (w2.alloc (.cells (Value.int .i64 0 :: Value.int .i64 0 :: Value.int .i64 0 :: Value.int .i64 0 :: Value.int .i64 0 :: Value.int .i64 0 :: Value.int .i64 0 :: Value.int .i64 0 :: Value.int .i64 0 :: Value.int .i64 0 :: Value.int .i64 0 :: Value.int .i64 0 :: Value.int .i64 0 :: Value.int .i64 0 :: Value.int .i64 0 :: Value.int .i64 0 :: Value.int .i64 0 :: Value.int .i64 0 :: Value.int .i64 0 :: Value.int .i64 0 :: Value.int .i64 0 :: Value.int .i64 0 :: Value.int .i64 0 :: Value.int .i64 0 :: Value.int .i64 0 :: Value.int .i64 0 :: Value.int .i64 0 :: Value.int .i64 0 :: Value.int .i64 0 :: Value.int .i64 0 :: Value.int .i64 0 :: Value.int .i64 0 :: Value.int .i64 0 :: Value.int .i64 0 :: Value.int .i64 0 :: Value.int .i64 0 :: Value.int .i64 0 :: Value.int .i64 0 :: Value.int .i64 0 :: Value.int .i64 0 :: Value.int .i64 0 :: Value.int .i64 0 :: Value.int .i64 0 :: Value.int .i64 0 :: Value.int .i64 0 :: Value.int .i64 0 :: Value.int .i64 0 :: Value.int .i64 0 :: Value.int .i64 0 :: Value.int .i64 0 :: Value.int .i64 0 :: Value.int .i64 0 :: Value.int .i64 0 :: Value.int .i64 0 :: Value.int .i64 0 :: Value.int .i64 0 :: Value.int .i64 0 :: Value.int .i64 0 :: Value.int .i64 0 :: Value.int .i64 0 :: Value.int .i64 0 :: Value.int .i64 0 :: Value.int .i64 0 :: Value.int .i64 0 :: []).toArray 53)).setCells XB 0 (Value.int .i64 0 :: Value.int .i64 0 :: Value.int .i64 0 :: Value.int .i64 0 :: Value.int .i64 0 :: Value.int .i64 0 :: Value.int .i64 0 :: Value.int .i64 0 :: Value.int .i64 0 :: Value.int .i64 0 :: Value.int .i64 0 :: Value.int .i64 0 :: Value.int .i64 0 :: Value.int .i64 0 :: Value.int .i64 0 :: Value.int .i64 0 :: Value.int .i64 0 :: Value.int .i64 0 :: Value.int .i64 0 :: Value.int .i64 0 :: Value.int .i64 0 :: Value.int .i64 0 :: Value.int .i64 0 :: Value.int .i64 0 :: Value.int .i64 0 :: Value.int .i64 0 :: Value.int .i64 0 :: Value.int .i64 0 :: Value.int .i64 0 :: Value.int .i64 0 :: Value.int .i64 0 :: Value.int .i64 0 :: Value.int .i64 0 :: Value.int .i64 0 :: Value.int .i64 0 :: Value.int .i64 0 :: Value.int .i64 0 :: Value.int .i64 0 :: Value.int .i64 0 :: Value.int .i64 0 :: Value.int .i64 0 :: Value.int .i64 0 :: Value.int .i64 0 :: Value.int .i64 0 :: Value.int .i64 0 :: Value.int .i64 0 :: Value.int .i64 0 :: Value.int .i64 0 :: Value.int .i64 0 :: Value.int .i64 0 :: Value.int .i64 0 :: Value.int .i64 0 :: Value.int .i64 0 :: Value.int .i64 0 :: Value.int .i64 0 :: Value.int .i64 0 :: Value.int .i64 0 :: Value.int .i64 0 :: Value.int .i64 0 :: Value.int .i64 0 :: Value.int .i64 0 :: Value.int .i64 0 :: Value.int .i64 0 :: Value.int .i64 0 :: []) = W3
          intro gX bX
          go_loopw [15] (fun j V => ∃ t : Nat, t ≤ 64 ∧ j = .int .i64 t ∧ But (fun x => x = XB) W3 V ∧ ∃ g, Cells V XB 53 (tab .i64 64 g) ∧ ∀ j, I64 (g j)) (fun j _ => 64 - (intOf j).toNat)
          case atStart => exact ⟨0, Nat.zero_le _, rfl, But.refl _ _, _, gX, fun _ => I64.zero⟩
          case round =>
            clear gX
            obtain ⟨t, ht, rfl, hbX, g, hX, hg6⟩ := hrel
            by_cases ht6 : t < 64
            · have t0 : (0 : Int) ≤ (t : Int) := by omega
              have t1 : (t : Int) < 64 := by omega
              have b9 : But Nowhere w wr := (bV.trans bX).step hbX (fun k hk e => by omega)
              have E1 : Hid (wrap64 ((t : Int) * 3) = (t : Int) * 3) := w64 _ (by omega)
              have E2 : Hid (wrap64 (20 * (k : Int)) = 20 * (k : Int)) := w64 _ (by omega)
              have E3 : Hid (wrap64 ((t : Int) * 3 + 20 * (k : Int)) = (t : Int) * 3 + 20 * (k : Int)) := w64 _ (by omega)
              have h61 : I64 ((t : Int) * 3 + 20 * (k : Int)) := I64.small (by omega)
              have c9 := hX.cell t ht6
              have f9 := hX.frozen t
              have hX5 := hX.set t (.int .i64 ((t : Int) * 3 + 20 * (k : Int)))
              rw [tab_set] at hX5
              have bX5 := But.setCell (S := fun x => x = XB) (p := ⟨XB, t, none⟩) hbX (fun _ => rfl) (.int .i64 ((t : Int) * 3 + 20 * (k : Int)))
              have hg7 := upd_I64 hg6 t h61
              have HE : Hid _ := And.intro bX5 (And.intro hX5 hg7)
              have HB9 : Hid (But Nowhere w (wr.setCell ⟨XB, t, none⟩ (.int .i64 ((t : Int) * 3 + 20 * (k : Int))))) := b9.setCell (p := ⟨XB, t, none⟩) (fun q => by simp at q; omega) _
              clear hX hX5 bX5 hbX hg6 hg7
              have e1 := E1.out
              have e2 := E2.out
              have e3 := E3.out
              go_upto_region 16 with fail
              clear e1 e2 e3 c9 f9 b9
              revert HE HB9
              generalize wr.setCell ⟨XB, t, none⟩ (.int .i64 ((t : Int) * 3 + 20 * (k : Int))) = V5
              intro HE HB9
              by_cases hc0 : 0 < lc.length
              · have q1 : (0 : Int) < (lc.length : Int) := by omega
                have q2 : ¬ lc.length = 0 := by omega
                have m1 : (i : Int) * (M : Int) ≤ 1000 * 6 := Int.mul_le_mul (by omega) (by omega) (by omega) (by omega)
                have m2 : 0 ≤ (i : Int) * (M : Int) := Int.mul_nonneg (by omega) (by omega)
                obtain ⟨IMv, hIM⟩ : ∃ z, (i : Int) * (M : Int) = z := ⟨_, rfl⟩
                rw [hIM] at m1 m2
                obtain ⟨qn, hqn, hql⟩ : ∃ qn : Nat, (IMv + (k : Int) + (t : Int)).tmod (lc.length : Int) = (qn : Int) ∧ qn < lc.length := by
                  have a1 : (IMv + (k : Int) + (t : Int)).tmod (lc.length : Int) = (IMv + (k : Int) + (t : Int)) % (lc.length : Int) := Int.tmod_eq_emod_of_nonneg (by omega)
                  have a2 := Int.emod_nonneg (IMv + (k : Int) + (t : Int)) (show (lc.length : Int) ≠ 0 by omega)
                  have a3 := Int.emod_lt_of_pos (IMv + (k : Int) + (t : Int)) q1
                  exact ⟨((IMv + (k : Int) + (t : Int)) % (lc.length : Int)).toNat, by rw [a1]; omega, by omega⟩
                have q3 : (0 : Int) ≤ (qn : Int) := by omega
                have q4 : (qn : Int) < (lc.length : Int) := by omega
                obtain ⟨-, vb, voff, rfl, hvl, hvc⟩ := hv.at qn hql
                replace hvc := HB9.out.keeps (not_nowhere _) hvc
                obtain ⟨b, hb⟩ : ∃ b, lc[qn] = b := ⟨_, rfl⟩
                rw [hb] at hvc
                have hb5 : 0 ≤ b ∧ b ≤ 255 := by rw [← hb]; exact hx _ (List.getElem_mem hql)
                have c10 := HE.out.2.1.cell t ht6
                have f10 := HE.out.2.1.frozen t
                have hX6 := HE.out.2.1.set t (.int .i64 (b * 2 - 100 + (t : Int)))
                rw [tab_set] at hX6
                have HE2 : Hid _ := And.intro (But.setCell (S := fun x => x = XB) (p := ⟨XB, t, none⟩) HE.out.1 (fun _ => rfl) (.int .i64 (b * 2 - 100 + (t : Int)))) (And.intro hX6 (upd_I64 HE.out.2.2 t (v := b * 2 - 100 + (t : Int)) (I64.small (by omega))))
                have R1 : Hid (wrap64 ((i : Int) * (M : Int)) = IMv) := by show wrap64 ((i : Int) * (M : Int)) = IMv; rw [hIM]; exact w64 _ (by omega)
                have R2 : Hid (wrap64 (IMv + (k : Int)) = IMv + (k : Int)) := w64 _ (by omega)
                have R3 : Hid (wrap64 (IMv + (k : Int) + (t : Int)) = IMv + (k : Int) + (t : Int)) := w64 _ (by omega)
                have R5 : Hid (wrap64 (b * 2) = b * 2) := w64 _ (by omega)
                have R6 : Hid (wrap64 (b * 2 - 100) = b * 2 - 100) := w64 _ (by omega)
                have R7 : Hid (wrap64 (b * 2 - 100 + (t : Int)) = b * 2 - 100 + (t : Int)) := w64 _ (by omega)
                clear hX6 hb hIM hql
                have r1 : ∀ _ : True, wrap64 ((i : Int) * (M : Int)) = IMv := fun _ => R1.out
                have r2 := R2.out
                have r3 := R3.out
                have r5 := R5.out
                have r6 := R6.out
                have r7 := R7.out
                go_wp2_with fail
                clear r1 r2 r3 r5 r6 r7 hqn c10
                go_roundw
                case rel => exact ⟨t + 1, by omega, by go_num, HE2.out.1, _, HE2.out.2.1, HE2.out.2.2⟩
                case measure => simp [intOf]; omega
              · have q1 : ¬ (0 : Int) < (lc.length : Int) := by omega
                have q2 : lc.length = 0 := by omega
                go_wp2_with fail
                go_roundw
                case rel => exact ⟨t + 1, by omega, by go_num, HE.out.1, _, HE.out.2.1, HE.out.2.2⟩
                case measure => simp [intOf]; omega
            · obtain rfl : t = 64 := by omega
              have hr1 : wr.rangeAt XB 0 (tab .i64 64 g) := by have := hX.range 0 64 (by omega); simpa using this
              have LR1 := HLR.out.1.step bX
              have LR2 := LR1.stepS hbX (fun x hx e => by have := HLR.out.1.lt hx; omega) (fun x e => by have := HLR.out.1.but.size; omega)
              obtain ⟨g4, cap4, W4, hrun, L4, b4, hg4⟩ := Lst.push Try.elemBlk LR2 (tab .i64 64 g) (tab_length _ _ _) (tab_one _ _ _) (by omega) (by omega) _ rfl
              have e9 : tab .i64 (k * 64) f ++ tab .i64 64 g = tab .i64 ((k + 1) * 64) (fun j => if j < k * 64 then f j else g (j - k * 64)) := by
                rw [← tab_more' (fun j => if j < k * 64 then f j else g (j - k * 64)) k, tab_congr .i64 (k * 64) f (fun j => if j < k * 64 then f j else g (j - k * 64)) (fun j hj => by rw [if_pos hj]), tab_congr .i64 64 g (fun j => (fun j => if j < k * 64 then f j else g (j - k * 64)) (k * 64 + j)) (fun j _ => by show g j = if k * 64 + j < k * 64 then f (k * 64 + j) else g (k * 64 + j - k * 64); rw [if_neg (by omega), Nat.add_sub_cancel_left])]
              rw [e9] at L4
              have h9 : ∀ j, I64 ((fun j => if j < k * 64 then f j else g (j - k * 64)) j) := fun j => by
                show I64 (if j < k * 64 then f j else g (j - k * 64))
                split
                · exact HLR.out.2 j
                · exact hg6 _
              have hiA : (Try.prog.info? 53).map (·.size) = some (tab .i64 64 g).length := by rw [tab_length]; kernel_rfl
              have HRUN : Hid _ := hrun
              have HE : Hid _ := And.intro L4 h9
              clear hrun L4 b4 hg4 LR1 LR2 hX e9 h9
              go_wp2_with (first | (refine wpList_load_mid rfl 53 (.tmp 14) rfl XB 0 rfl (tab .i64 64 g) _ ?_ huA rfl hiA ?_; exact hr1) | (refine wpList_build_one Try.elemBlk rfl (.tmp 72) rfl (.agg (tab .i64 64 g).toArray) rfl (tab .i64 64 g) rfl (tab_length _ _ _) (by omega) wr.heap.size rfl ?_) | (refine wpList_append_run rfl (.tmp 71) (.tmp 73) 51 rfl (.slice qo k qc) (.slice (some ⟨wr.heap.size, 0, none⟩) 1 1) rfl rfl (.slice (some ⟨g4, 0, none⟩) (k + 1) cap4) W4 HRUN.out ?_))
              go_roundw
              case rel => exact ⟨k + 1, by omega, by go_num, _, HE.out.1, HE.out.2⟩
              case measure => simp [intOf]; omega
        · obtain rfl : k = M := by omega
          obtain ⟨M1, hM1⟩ : ∃ M1, k = M1 + 1 := ⟨k - 1, by omega⟩
          have HM1 : Hid (k = M1 + 1) := hM1
          have hM6' : k ≤ 6 := by omega
          by_cases ha1 : a = 1
          · by_cases hi1 : i = 1
            · have t1 : (a == 1) = true := by simpa using ha1
              have t2 : ((i : Int) == 1) = true := by simp; omega
              clear hi1
              have r1 : wrap64 ((k : Int) - 1) = (M1 : Int) := by rw [show (k : Int) - 1 = (M1 : Int) by omega]; exact w64 _ (by omega)
              obtain ⟨qc0, hqc0⟩ : ∃ z : Nat, qc = z := ⟨_, rfl⟩
              have hkq : k ≤ qc := by
                obtain ⟨g, cap', e, -, -, h5, -⟩ := LR.at (by omega)
                simp only [Value.slice.injEq] at e
                omega
              have hsl := fun V => slice_front qo k M1 qc hM1 hkq V
              clear hqc0 qc0
              have hnew : ∀ x, (Value.slice qo M1 qc).ownBlock = some x → x < w2.heap.size ∧ (Value.slice po i pc).ownBlock ≠ some x := fun x hx0 => by
                have hx : (Value.slice qo k qc).ownBlock = some x := (show (Value.slice qo k qc).ownBlock = (Value.slice qo M1 qc).ownBlock by cases qo <;> rfl).trans hx0
                exact ⟨LR.lt hx, fun e => by have h1 := HW.out.1.lt e; have h2 := LR.new x hx; omega⟩
              have hrowV : RowAt w2 (.slice qo M1 qc) M1 f := LR.rowAt.less (by omega)
              obtain ⟨g4, cap4, W4, hrun, L4, b4, hg4⟩ := Lst.push Try.elemBlks (HW.out.1.step LR.but) [.slice qo M1 qc] rfl (by simp [Value.oneCell']) (by omega) (by omega) _ rfl
              have RW4 := (HW.out.2.1.but LR.but).pushN (o' := .slice (some ⟨g4, 0, none⟩) (i + 1) cap4) (.slice qo M1 qc) M1 f hrowV hnew b4 g4 rfl hg4
              have hL7 : ∀ j, (fun j => if j = i then M1 else L j) j ≤ 6 := fun j => by
                show (if j = i then M1 else L j) ≤ 6
                split
                · omega
                · exact HW.out.2.2.1 j
              have hF7 : ∀ j l, I64 ((fun j => if j = i then f else F j) j l) := fun j l => by
                show I64 ((if j = i then f else F j) l)
                split
                · exact hf6 l
                · exact HW.out.2.2.2 j l
              have HRUN : Hid _ := hrun
              have HE : Hid _ := And.intro L4 (And.intro RW4 (And.intro hL7 hF7))
              clear hrun L4 RW4 b4 hg4 hrowV hnew LR hL7 hF7
              go_wp2_with (refine wpList_append_run rfl (.tmp 85) (.tmp 87) 29 rfl (.slice po i pc) (.slice (some ⟨w2.heap.size, 0, none⟩) 1 1) rfl rfl (.slice (some ⟨g4, 0, none⟩) (i + 1) cap4) W4 HRUN.out ?_)
              go_roundw
              case rel => first | exact ⟨i + 1, by omega, by go_num, _, HE.out.1, _, _, HE.out.2.1, HE.out.2.2.1, HE.out.2.2.2⟩ | exact ⟨i + 1, by omega, by go_num, _, _, _, HE.out.1, HE.out.2.1, HE.out.2.2.1, HE.out.2.2.2⟩
              case measure => simp [intOf]; omega
            · have t1 : (a == 1) = true := by simpa using ha1
              have t2 : ((i : Int) == 1) = false := by simp; omega
              clear hM1
              have hnew : ∀ x, (Value.slice qo k qc).ownBlock = some x → x < w2.heap.size ∧ (Value.slice po i pc).ownBlock ≠ some x := fun x hx0 => by
                have hx : (Value.slice qo k qc).ownBlock = some x := (show (Value.slice qo k qc).ownBlock = (Value.slice qo k qc).ownBlock by cases qo <;> rfl).trans hx0
                exact ⟨LR.lt hx, fun e => by have h1 := HW.out.1.lt e; have h2 := LR.new x hx; omega⟩
              have hrowV : RowAt w2 (.slice qo k qc) k f := LR.rowAt.less (by omega)
              obtain ⟨g4, cap4, W4, hrun, L4, b4, hg4⟩ := Lst.push Try.elemBlks (HW.out.1.step LR.but) [.slice qo k qc] rfl (by simp [Value.oneCell']) (by omega) (by omega) _ rfl
              have RW4 := (HW.out.2.1.but LR.but).pushN (o' := .slice (some ⟨g4, 0, none⟩) (i + 1) cap4) (.slice qo k qc) k f hrowV hnew b4 g4 rfl hg4
              have hL7 : ∀ j, (fun j => if j = i then k else L j) j ≤ 6 := fun j => by
                show (if j = i then k else L j) ≤ 6
                split
                · omega
                · exact HW.out.2.2.1 j
              have hF7 : ∀ j l, I64 ((fun j => if j = i then f else F j) j l) := fun j l => by
                show I64 ((if j = i then f else F j) l)
                split
                · exact hf6 l
                · exact HW.out.2.2.2 j l
              have HRUN : Hid _ := hrun
              have HE : Hid _ := And.intro L4 (And.intro RW4 (And.intro hL7 hF7))
              clear hrun L4 RW4 b4 hg4 hrowV hnew LR hL7 hF7
              go_wp2_with (refine wpList_append_run rfl (.tmp 85) (.tmp 87) 29 rfl (.slice po i pc) (.slice (some ⟨w2.heap.size, 0, none⟩) 1 1) rfl rfl (.slice (some ⟨g4, 0, none⟩) (i + 1) cap4) W4 HRUN.out ?_)
              go_roundw
              case rel => first | exact ⟨i + 1, by omega, by go_num, _, HE.out.1, _, _, HE.out.2.1, HE.out.2.2.1, HE.out.2.2.2⟩ | exact ⟨i + 1, by omega, by go_num, _, _, _, HE.out.1, HE.out.2.1, HE.out.2.2.1, HE.out.2.2.2⟩
              case measure => simp [intOf]; omega
          · have t1 : (a == 1) = false := by simpa using ha1
            clear hM1
            have hnew : ∀ x, (Value.slice qo k qc).ownBlock = some x → x < w2.heap.size ∧ (Value.slice po i pc).ownBlock ≠ some x := fun x hx0 => by
              have hx : (Value.slice qo k qc).ownBlock = some x := (show (Value.slice qo k qc).ownBlock = (Value.slice qo k qc).ownBlock by cases qo <;> rfl).trans hx0
              exact ⟨LR.lt hx, fun e => by have h1 := HW.out.1.lt e; have h2 := LR.new x hx; omega⟩
            have hrowV : RowAt w2 (.slice qo k qc) k f := LR.rowAt.less (by omega)
            obtain ⟨g4, cap4, W4, hrun, L4, b4, hg4⟩ := Lst.push Try.elemBlks (HW.out.1.step LR.but) [.slice qo k qc] rfl (by simp [Value.oneCell']) (by omega) (by omega) _ rfl
            have RW4 := (HW.out.2.1.but LR.but).pushN (o' := .slice (some ⟨g4, 0, none⟩) (i + 1) cap4) (.slice qo k qc) k f hrowV hnew b4 g4 rfl hg4
            have hL7 : ∀ j, (fun j => if j = i then k else L j) j ≤ 6 := fun j => by
              show (if j = i then k else L j) ≤ 6
              split
              · omega
              · exact HW.out.2.2.1 j
            have hF7 : ∀ j l, I64 ((fun j => if j = i then f else F j) j l) := fun j l => by
              show I64 ((if j = i then f else F j) l)
              split
              · exact hf6 l
              · exact HW.out.2.2.2 j l
            have HRUN : Hid _ := hrun
            have HE : Hid _ := And.intro L4 (And.intro RW4 (And.intro hL7 hF7))
            clear hrun L4 RW4 b4 hg4 hrowV hnew LR hL7 hF7
            go_wp2_with (refine wpList_append_run rfl (.tmp 85) (.tmp 87) 29 rfl (.slice po i pc) (.slice (some ⟨w2.heap.size, 0, none⟩) 1 1) rfl rfl (.slice (some ⟨g4, 0, none⟩) (i + 1) cap4) W4 HRUN.out ?_)
            go_roundw
            case rel => first | exact ⟨i + 1, by omega, by go_num, _, HE.out.1, _, _, HE.out.2.1, HE.out.2.2.1, HE.out.2.2.2⟩ | exact ⟨i + 1, by omega, by go_num, _, _, _, HE.out.1, HE.out.2.1, HE.out.2.2.1, HE.out.2.2.2⟩
            case measure => simp [intOf]; omega
    · obtain rfl : i = N := by omega
      have HF : Hid (BA wr (.slice po i pc) i L F ∧ But Nowhere w wr) := And.intro (RW.ba LL) (bw5.trans LL.but)
      obtain ⟨N1', hN1'⟩ : ∃ z, i = z + 1 := ⟨i - 1, by omega⟩
      by_cases ha2 : a = 2
      · have t1 : (a == 2) = true := by simpa using ha2
        have hkq : i ≤ pc := by
          obtain ⟨g, cap', e, -, -, h5, -⟩ := LL.at (by omega)
          simp only [Value.slice.injEq] at e
          omega
        have hsl := slice_back po i N1' pc hN1' wr
        have HB : Hid _ := HF.out.1.rest hN1' (pc - 1) hkq
        obtain ⟨po2, hpo2⟩ : ∃ z, (if pc = 1 then po else po.map (·.add 1)) = z := ⟨_, rfl⟩
        obtain ⟨pc2, hpc2⟩ : ∃ z, pc - 1 = z := ⟨_, rfl⟩
        rw [hpo2, hpc2] at HB hsl
        have HN1 : Hid (N1' ≤ 1000) := by show N1' ≤ 1000; omega
        have HL : Hid _ := And.intro hL6 hF6
        clear hpo2 hpc2 LL RW hkq hN1' hL6 hF6
        go_wp2_with fail
        go_ret
        exact ⟨⟨_, rfl, _, _, _, HB.out, HN1.out, fun j => HL.out.1 (j + 1), fun j l => HL.out.2 (j + 1) l⟩, HF.out.2⟩
      · have t1 : (a == 2) = false := by simpa using ha2
        have HL : Hid _ := And.intro hL6 hF6
        clear LL RW hN1' hL6 hF6
        go_wp2_with fail
        go_ret
        first | exact ⟨⟨_, rfl, _, _, _, HF.out.1, by omega, HL.out.1, HL.out.2⟩, HF.out.2⟩ | exact ⟨⟨_, _, _, _, rfl, HF.out.1, by omega, HL.out.1, HL.out.2⟩, HF.out.2⟩

end Go.Proofs.Ytppbnmlgilgnnaa
