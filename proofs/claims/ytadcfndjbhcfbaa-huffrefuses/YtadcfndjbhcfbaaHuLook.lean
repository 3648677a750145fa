/- What Look of package scan answers. -/
import Derived.Test.YtadcfndjbhcfbaaSecNum
import Derived.Test.YtadcfndjbhcfbaaTill
import Derived.Test.YtadcfndjbhcfbaaView
import Derived.Test.YtadcfndjbhcfbaaBlk64
namespace Go.Proofs.Ytadcfndjbhcfbaa
set_option linter.unusedVariables false
open Go.ChangeShapes Go.WideShapes Go.ChangeAt Go.RowKit

/-- A variable in a block of its own. -/
def Box (w : World) (b : Nat) (t : TypeId) (v : Value) : Prop := w.heap[b]? = some (.cells #[v] t (0, 0))

theorem Box.lt {w : World} {b : Nat} {t : TypeId} {v : Value} (h : Box w b t v) : b < w.heap.size := (Array.getElem?_eq_some_iff.1 h).1
theorem Box.cell {w : World} {b : Nat} {t : TypeId} {v : Value} (h : Box w b t v) : w.cell? ⟨b, 0, none⟩ = some v := by rw [cell_of_row w b 0 _ _ _ h]; rfl
theorem Box.frozen {w : World} {b : Nat} {t : TypeId} {v : Value} (h : Box w b t v) : w.frozen? ⟨b, 0, none⟩ = false := by
  unfold Box at h
  simp [World.frozen?, h]
theorem Box.but {S : Nat → Prop} {w w' : World} {b : Nat} {t : TypeId} {v : Value} (h : Box w b t v) (hb : But S w w') (hs : ¬ S b) : Box w' b t v := (hb.block b h.lt hs).trans h
theorem Box.set {w : World} {b : Nat} {t : TypeId} {v : Value} (h : Box w b t v) (u : Value) : Box (w.setCell ⟨b, 0, none⟩ u) b t u := heap_setCell_one h
theorem Box.new (w : World) (t : TypeId) (v : Value) : Box (w.alloc (.cells #[v] t)) w.heap.size t v := heap_alloc_new w _
theorem Box.drew {w : World} {b : Nat} {t : TypeId} {v : Value} (h : Box w b t v) : Box w.drew b t v := h
theorem Box.alloc {w : World} {b : Nat} {t : TypeId} {v : Value} (h : Box w b t v) (o : Obj) : Box (w.alloc o) b t v := h.but ((But.refl Nowhere w).alloc o) (not_nowhere _)
theorem Box.far {w : World} {b c : Nat} {t : TypeId} {v : Value} (h : Box w b t v) (hn : b ≠ c) (j : Nat) (u : Value) : Box (w.setCell ⟨c, j, none⟩ u) b t v := h.but (But.setCell (S := fun x => x = c) (But.refl _ w) (p := ⟨c, j, none⟩) (fun _ => rfl) u) hn

set_option maxHeartbeats 3200000 in
set_option maxRecDepth 100000 in
theorem here_raw (a i : Int) (w : World) : Calls Try.prog 46 #[S64 a, .int .i64 i] w fun e w' => e = .returned (S64 (equalF a i)) ∧ But Nowhere w w' := by
  have kA : ((w.alloc (.cells #[.int .i64 a] 51)).alloc (.cells #[.int .i64 0] 51)).cell? ⟨w.heap.size, 0, none⟩ = some (.int .i64 a) := by go_simp
  have kR : ((w.alloc (.cells #[.int .i64 a] 51)).alloc (.cells #[.int .i64 0] 51)).cell? ⟨w.heap.size + 1, 0, none⟩ = some (.int .i64 0) := by go_simp
  have kF : ((w.alloc (.cells #[.int .i64 a] 51)).alloc (.cells #[.int .i64 0] 51)).frozen? ⟨w.heap.size + 1, 0, none⟩ = false := by go_simp
  have g0 : But Nowhere w ((w.alloc (.cells #[.int .i64 a] 51)).alloc (.cells #[.int .i64 0] 51)) := ((But.refl _ _).alloc _).alloc _
  go_enter Try.func46, Try.ntmps46
  go_wp2_with fail
  revert kA kR kF g0
  generalize (w.alloc (.cells #[.int .i64 a] 51)).alloc (.cells #[.int .i64 0] 51) = W
  intro kA kR kF g0
  go_region_held3 (fun w' => Frm W (w.heap.size + 1) w' ∧ w'.cell? ⟨w.heap.size, 0, none⟩ = some (.int .i64 a) ∧ w'.cell? ⟨w.heap.size + 1, 0, none⟩ = some (held w' ⟨w.heap.size + 1, 0, none⟩) ∧ w'.frozen? ⟨w.heap.size + 1, 0, none⟩ = false)
    ((go_split_ands; refine and_of (fun hq => ⟨hq.cell (by simp; try omega) kA, hq.held, hq.thaw⟩) ?_; first | exact Frm.start kR kF | (refine Frm.call ?_ hb; assumption) | (refine Frm.store ?_ _; assumption)))
    (first | (go_at_call 25; refine (of_any _ _).mono ?_; rintro e w' ⟨rfl, hb⟩) | (go_at_call 33; refine (equal_raw _ _ _).mono ?_; rintro e w' ⟨rfl, hb⟩))
  all_goals
    rename_i hh
    obtain ⟨q0, -⟩ := hh
    go_wp2_with fail
    exact bodyPost_ret (results_sec rfl _ _ _ _ rfl q0.got) rfl ⟨rfl, q0.out g0 (by omega)⟩

theorem here_any (a i : Int) (w : World) (ha : I64 a) (hi : I64 i) : Calls Try.prog 46 #[S64 a, .int .i64 i] w fun e w' => e = .returned (S64 (eqM a i)) ∧ But Nowhere w w' := by
  unfold eqM; rw [← equalF_eq a i ha hi]; exact here_raw a i w

/-- The word at a place; 0 where there is none. -/
def word (l : List Int) (i : Int) : Int := if 0 ≤ i then l[i.toNat]?.getD 0 else 0
/-- The words, one of them laid. -/
def lay (l : List Int) (i n : Int) : List Int := if 0 ≤ i then l.set i.toNat n else l
/-- What is seen of it. -/
def seenAt (l : List Int) (i : Int) : List Ev := if 0 ≤ i ∧ i < l.length then [(1, i)] else []

theorem lay_length (l : List Int) (i n : Int) : (lay l i n).length = l.length := by unfold lay; split <;> simp
theorem word_at (l : List Int) (k : Nat) (h : k < l.length) : word l k = l[k] := by simp [word, h]
theorem word_out (l : List Int) (i : Int) (h : i < 0 ∨ l.length ≤ i) : word l i = 0 := by
  unfold word
  split
  · rw [List.getElem?_eq_none (by omega)]; rfl
  · rfl
theorem lay_at (l : List Int) (k : Nat) (n : Int) : lay l k n = l.set k n := by simp [lay]
theorem lay_out (l : List Int) (i n : Int) (h : i < 0 ∨ l.length ≤ i) : lay l i n = l := by
  unfold lay
  split
  · rw [List.set_eq_of_length_le (by omega)]
  · rfl
theorem seenAt_in (l : List Int) (i : Int) (h0 : 0 ≤ i) (h1 : i < l.length) : seenAt l i = [(1, i)] := by simp [seenAt, h0, h1]
theorem seenAt_out (l : List Int) (i : Int) (h : i < 0 ∨ l.length ≤ i) : seenAt l i = [] := by
  unfold seenAt
  rw [if_neg (by omega)]

def I64s (l : List Int) : Prop := ∀ x ∈ l, I64 x

/-- What is gathered over a window. -/
def acc (f : Int → Int → Int → Int) (l : List Int) (A : Int) : Nat → Int
  | 0 => 0
  | k + 1 => f (A + k) (word l (A + k)) (acc f l A k)

/-- What Load picks, what Store lays. -/
def ldF (a : Int) (i x y : Int) : Int := if a = i then x else y
def stF (a s : Int) (i x : Int) : Int := if a = i then s else x

theorem word_in {l : List Int} (h : I64s l) (i : Int) : I64 (word l i) := by
  unfold word
  split
  · cases e : l[i.toNat]? with
    | none => show I64 0; omega
    | some x => exact h x (List.mem_of_getElem? e)
  · omega

theorem acc_in {f : Int → Int → Int → Int} (l : List Int) (A : Int) (k : Nat) (h : I64s l) (hf : ∀ i x y, I64 x → I64 y → I64 (f i x y)) : I64 (acc f l A k) := by
  induction k with
  | zero => show I64 0; omega
  | succ k ih => exact hf _ _ _ (word_in h _) ih

theorem sel_here (a i x y : Int) (hx : I64 x) (hy : I64 y) : selF (eqM a i) x y = ldF a i x y := selF_mask _ _ _ hx hy

theorem acc_ld (a : Int) (l : List Int) (A : Int) (k : Nat) : acc (ldF a) l A k = if A ≤ a ∧ a < A + k then word l a else 0 := by
  induction k with
  | zero => rw [if_neg (by omega)]; rfl
  | succ k ih =>
    rw [acc, ih]
    unfold ldF
    by_cases e : a = A + k
    · rw [if_pos e, if_pos (by omega), e]
    · rw [if_neg e]
      by_cases c : A ≤ a ∧ a < A + k
      · rw [if_pos c, if_pos (by omega)]
      · rw [if_neg c, if_neg (by omega)]

set_option maxHeartbeats 3200000 in
set_option maxRecDepth 100000 in
theorem look_any {w : World} {v : Value} {l : List Int} (h : View w .i64 v l) (hI : I64s l) (hl : l.length ≤ 1000) (a : Int) (ha : I64 a) : Calls Try.prog 36 #[v, S64 a] w fun e w' => e = .returned (S64 (word l a)) ∧ But Nowhere w w' := by
  have HV : Hid (View w .i64 v l) := h
  obtain ⟨ao, cap, rfl⟩ := h.slice
  clear h
  have b0 : But Nowhere w ((((w.alloc (.cells #[.int .i64 a] 51)).alloc (.cells #[.int .i64 0] 51)).alloc (cell1 0)).alloc (.cells #[.int .i64 0] 51)) := ((((But.refl _ _).alloc _).alloc _).alloc _).alloc _
  have bA := (((Box.new w 51 (.int .i64 a)).alloc (.cells #[.int .i64 0] 51)).alloc (cell1 0)).alloc (.cells #[.int .i64 0] 51)
  have bR := ((Box.new (w.alloc (.cells #[.int .i64 a] 51)) 51 (.int .i64 0)).alloc (cell1 0)).alloc (.cells #[.int .i64 0] 51)
  have bF := Box.new (((w.alloc (.cells #[.int .i64 a] 51)).alloc (.cells #[.int .i64 0] 51)).alloc (cell1 0)) 51 (.int .i64 0)
  simp only [World.size_alloc] at bR bF
  go_enter Try.func36, Try.ntmps36
  go_wp2_with (go_at_call 25; refine (of_at _ _).mono ?_; rintro e w' ⟨rfl, rfl⟩)
  revert b0 bA bR bF
  generalize (((w.alloc (.cells #[.int .i64 a] 51)).alloc (.cells #[.int .i64 0] 51)).alloc (cell1 0)).alloc (.cells #[.int .i64 0] 51) = W0
  intro b0 bA bR bF
  go_loopw [11] (fun i W => ∃ k : Nat, k ≤ l.length ∧ i = .int .i64 k ∧ But Nowhere w W ∧ Box W w.heap.size 51 (.int .i64 a) ∧ Box W (w.heap.size + 1) 51 (.int .i64 0) ∧ Box W (w.heap.size + 1 + 1 + 1) 51 (.int .i64 (acc (ldF a) l 0 k))) (fun i _ => l.length - (intOf i).toNat)
  case atStart => exact ⟨0, Nat.zero_le _, rfl, b0, bA, bR, bF⟩
  case round =>
    clear b0 bA bR bF
    obtain ⟨k, hk, rfl, hB, bA, bR, bF⟩ := hrel
    by_cases hlt : k < l.length
    · obtain ⟨-, sb, off, rfl, -, c2⟩ := (HV.out.but hB).at k hlt
      have i0 : (0 : Int) ≤ (k : Int) := by omega
      have i1 : (k : Int) < (l.length : Int) := by omega
      have cA := bA.drew.cell
      have cF := bF.drew.cell
      have fF := bF.drew.frozen
      have iW := hI _ (List.getElem_mem hlt)
      have iA := acc_in (f := ldF a) l 0 k hI (fun i x y hx hy => by unfold ldF; split <;> assumption)
      have HF : Hid (∀ W3, But Nowhere wr W3 → But Nowhere w (W3.setCell ⟨w.heap.size + 1 + 1 + 1, 0, none⟩ (.int .i64 (selF (eqM a k) l[k] (acc (ldF a) l 0 k)))) ∧ Box (W3.setCell ⟨w.heap.size + 1 + 1 + 1, 0, none⟩ (.int .i64 (selF (eqM a k) l[k] (acc (ldF a) l 0 k)))) w.heap.size 51 (.int .i64 a) ∧ Box (W3.setCell ⟨w.heap.size + 1 + 1 + 1, 0, none⟩ (.int .i64 (selF (eqM a k) l[k] (acc (ldF a) l 0 k)))) (w.heap.size + 1) 51 (.int .i64 0) ∧ Box (W3.setCell ⟨w.heap.size + 1 + 1 + 1, 0, none⟩ (.int .i64 (selF (eqM a k) l[k] (acc (ldF a) l 0 k)))) (w.heap.size + 1 + 1 + 1) 51 (.int .i64 (acc (ldF a) l 0 (k + 1)))) := by
        intro W3 h3
        refine ⟨(hB.trans h3).setCell (fun q => by exfalso; simp at q; omega) _, (bA.but h3 (not_nowhere _)).far (by omega) _ _, (bR.but h3 (not_nowhere _)).far (by omega) _ _, ?_⟩
        have := (bF.but h3 (not_nowhere _)).set (.int .i64 (selF (eqM a k) l[k] (acc (ldF a) l 0 k)))
        rw [sel_here _ _ _ _ iW iA] at this ⊢
        rw [acc, Int.zero_add, word_at l k hlt]
        exact this
      clear bA bR bF iW iA hB
      generalize acc (ldF a) l 0 k = y0 at *
      generalize l[k] = x0 at *
      go_wp2_with fail
      refine wp_region_till (S := fun x => x.cell? ⟨w.heap.size, 0, none⟩ = some (.int .i64 a) ∧ x.cell? ⟨w.heap.size + 1 + 1 + 1, 0, none⟩ = some (.int .i64 y0)) (R := fun _ => True) (k := 7) (m := 100) (by kernel_rfl) ⟨cA, cF⟩ trivial ?_
      (refine Walk.take (i := 0) (oi := { dst := some 16, op := Op.load 51 (Operand.tmp 3), type := 51, pos := "scan.go:43", after := #[], guard := none }) (v := ?_) rfl (by kernel_rfl) (by kernel_rfl) (by kernel_rfl) (by kernel_rfl) (fun _ _ _ h => h) (Or.inl ⟨by rfl, ?_⟩) ?_; rotate_left; (intro w hw; have hS1 := hw.1 (by kernel_rfl); clear hw; (try dsimp only at hS1); (try go_split_ands); go_simp; try (with_reducible rfl)); simp only [Act.put, List.setIfInBounds_toArray, List.set_cons_zero, List.set_cons_succ])
      (refine Walk.take (i := 1) (oi := { dst := some 17, op := Op.move (Operand.tmp 6), type := 3, pos := "scan.go:43", after := #[], guard := none }) (v := ?_) rfl (by kernel_rfl) (by kernel_rfl) (by kernel_rfl) (by kernel_rfl) (fun _ _ _ h => h) (Or.inl ⟨by rfl, ?_⟩) ?_; rotate_left; (intro w hw; have hS1 := hw.1 (by kernel_rfl); clear hw; (try dsimp only at hS1); (try go_split_ands); go_simp; try (with_reducible rfl)); simp only [Act.put, List.setIfInBounds_toArray, List.set_cons_zero, List.set_cons_succ])
      (refine Walk.take (i := 3) (oi := { dst := some 19, op := Op.move (Operand.tmp 7), type := 3, pos := "scan.go:43", after := #[], guard := none }) (v := ?_) rfl (by kernel_rfl) (by kernel_rfl) (by kernel_rfl) (by kernel_rfl) (fun _ _ _ h => h) (Or.inl ⟨by rfl, ?_⟩) ?_; rotate_left; (intro w hw; have hS1 := hw.1 (by kernel_rfl); clear hw; (try dsimp only at hS1); (try go_split_ands); go_simp; try (with_reducible rfl)); simp only [Act.put, List.setIfInBounds_toArray, List.set_cons_zero, List.set_cons_succ])
      (refine Walk.take (i := 5) (oi := { dst := some 21, op := Op.load 51 (Operand.tmp 5), type := 51, pos := "scan.go:43", after := #[], guard := none }) (v := ?_) rfl (by kernel_rfl) (by kernel_rfl) (by kernel_rfl) (by kernel_rfl) (fun _ _ _ h => h) (Or.inl ⟨by rfl, ?_⟩) ?_; rotate_left; (intro w hw; have hS1 := hw.1 (by kernel_rfl); clear hw; (try dsimp only at hS1); (try go_split_ands); go_simp; try (with_reducible rfl)); simp only [Act.put, List.setIfInBounds_toArray, List.set_cons_zero, List.set_cons_succ])
      (refine Walk.go (i := 2) (o := { dst := some 18, op := Op.call { callee := Callee.value (Operand.func 46), args := #[Operand.tmp 16, Operand.tmp 17], argTypes := #[51, 3] }, type := 51, pos := "scan.go:43", after := #[{ on := 0, ground := Ground.data }, { on := 1, ground := Ground.data }], guard := none }) (by kernel_rfl) rfl (fun K hK => ?_); go_simp; ((go_at_call 46; refine (here_any _ _ _ ha (by omega)).mono ?_; rintro e x2 ⟨rfl, d2⟩; replace cA := d2.keeps (not_nowhere _) cA; replace fF := d2.thaws (not_nowhere _) cF fF; replace cF := d2.keeps (not_nowhere _) cF)); refine hK.out _ _ (⟨fun _ => ⟨cA, cF⟩, fun _ => trivial⟩) ?_; clear hK K; try simp only [Act.put, List.setIfInBounds_toArray, List.set_cons_zero, List.set_cons_succ])
      (refine Walk.go (i := 4) (o := { dst := some 20, op := Op.call { callee := Callee.value (Operand.func 25), args := #[Operand.tmp 19], argTypes := #[3] }, type := 51, pos := "scan.go:43", after := #[{ on := 3, ground := Ground.data }, { on := 2, ground := Ground.chain }], guard := none }) (by kernel_rfl) rfl (fun K hK => ?_); go_simp; ((go_at_call 25; refine (of_any _ _).mono ?_; rintro e x4 ⟨rfl, d4⟩; replace cA := d4.keeps (not_nowhere _) cA; replace fF := d4.thaws (not_nowhere _) cF fF; replace cF := d4.keeps (not_nowhere _) cF)); refine hK.out _ _ (⟨fun _ => ⟨cA, cF⟩, fun _ => trivial⟩) ?_; clear hK K; try simp only [Act.put, List.setIfInBounds_toArray, List.set_cons_zero, List.set_cons_succ])
      (refine Walk.go (i := 6) (o := { dst := some 22, op := Op.call { callee := Callee.value (Operand.func 34), args := #[Operand.tmp 18, Operand.tmp 20, Operand.tmp 21], argTypes := #[51, 51, 51] }, type := 51, pos := "scan.go:43", after := #[{ on := 2, ground := Ground.data }, { on := 4, ground := Ground.data }, { on := 5, ground := Ground.data }, { on := 4, ground := Ground.chain }], guard := none }) (by kernel_rfl) rfl (fun K hK => ?_); go_simp; ((go_at_call 34; refine (select_any _ _ _ _).mono ?_; rintro e x6 ⟨rfl, d6⟩; replace cA := d6.keeps (not_nowhere _) cA; replace fF := d6.thaws (not_nowhere _) cF fF; replace cF := d6.keeps (not_nowhere _) cF)); refine hK.out _ _ (⟨fun _ => ⟨cA, cF⟩, fun _ => trivial⟩) ?_; clear hK K; try simp only [Act.put, List.setIfInBounds_toArray, List.set_cons_zero, List.set_cons_succ])
      (refine Walk.go (i := 7) (o := { dst := none, op := Op.store 51 (Operand.tmp 5) (Operand.tmp 22), type := 0, pos := "scan.go:43", after := #[{ on := 6, ground := Ground.data }, { on := 6, ground := Ground.chain }, { on := 0, ground := Ground.phase }, { on := 1, ground := Ground.phase }, { on := 2, ground := Ground.phase }, { on := 3, ground := Ground.phase }, { on := 4, ground := Ground.phase }, { on := 5, ground := Ground.phase }, { on := 6, ground := Ground.phase }], guard := none }) (by kernel_rfl) rfl (fun K hK => ?_); go_simp; (skip); refine hK.out _ _ (⟨fun q => absurd q (by decide), fun _ => trivial⟩) ?_; clear hK K; try simp only [Act.put, List.setIfInBounds_toArray, List.set_cons_zero, List.set_cons_succ])
      refine Walk.done (by kernel_rfl) ?_ _
      have HH := HF.out _ ((But.refl Nowhere wr).drew.trans (d2.trans (d4.trans d6)))
      clear HF
      go_wp2_with fail
      go_roundw
      case rel => exact ⟨k + 1, by omega, by go_num, HH⟩
      case measure => simp [intOf]; omega
    · obtain rfl : k = l.length := by omega
      have cF := bF.cell
      have cR := bR.cell
      have fR := bR.frozen
      go_wp2_with fail
      refine bodyPost_ret (results_sec rfl _ _ _ _ rfl (cell_set cR)) rfl ⟨?_, hB.setCell (fun q => by exfalso; simp at q; omega) _⟩
      rw [acc_ld]
      by_cases c : (0 : Int) ≤ a ∧ a < 0 + (l.length : Int)
      · rw [if_pos c]
      · rw [if_neg c, word_out l a (by omega)]

end Go.Proofs.Ytadcfndjbhcfbaa
