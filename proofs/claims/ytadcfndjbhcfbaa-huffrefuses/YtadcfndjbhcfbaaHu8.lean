/- The law's codes and finds of layer 10, over what package huff is to answer. -/
import Derived.Test.YtadcfndjbhcfbaaHu3
import Derived.Test.YtadcfndjbhcfbaaHu7
namespace Go.Proofs.Ytadcfndjbhcfbaa
set_option linter.unusedVariables false
open Go.ChangeShapes Go.WideShapes Go.ChangeAt Go.RowKit

/-- Three operations may come. -/
theorem Walk.three {P : Program} {ops : Array Oper} {Q : Exit → Act → World → Prop} {md : Region.Mode} {S R : World → Prop} {k m f i j l : Nat} {oi oj ol : Oper} {L : Array Bool} {a : Act} {w : World} (hr : Region.ready md ops L = [i, j, l]) (ho : ops[i]? = some oi) (hp : ops[j]? = some oj) (hq : ops[l]? = some ol)
    (h : ∀ K : Act → World → Prop, Shut (∀ a w, Till S R k m (L.setIfInBounds i true) w → Walk P md ops Q S R k m f (L.setIfInBounds i true) a w → K a w) → if Region.wanted oi (yielded ops a.tmps) = true then Oper.wp P oi a w K Q else K (a.put oi.dst undef) w)
    (g : ∀ K : Act → World → Prop, Shut (∀ a w, Till S R k m (L.setIfInBounds j true) w → Walk P md ops Q S R k m f (L.setIfInBounds j true) a w → K a w) → if Region.wanted oj (yielded ops a.tmps) = true then Oper.wp P oj a w K Q else K (a.put oj.dst undef) w)
    (g2 : ∀ K : Act → World → Prop, Shut (∀ a w, Till S R k m (L.setIfInBounds l true) w → Walk P md ops Q S R k m f (L.setIfInBounds l true) a w → K a w) → if Region.wanted ol (yielded ops a.tmps) = true then Oper.wp P ol a w K Q else K (a.put ol.dst undef) w) :
    Walk P md ops Q S R k m (f + 1) L a w := fun hc ht => by
  refine ⟨fun h0 => (by rw [hr] at h0; cases h0), fun n hn => ?_⟩
  have hc' : Shutd md ops (L.setIfInBounds n true) := hc.set hn
  rw [hr] at hn
  simp only [List.mem_cons, List.not_mem_nil, or_false] at hn
  rcases hn with rfl | rfl | rfl
  · exact wpOp_step ho (fun K hK => h K (fun a w ht' hw => hK a w ⟨ht', hw hc' ht'⟩))
  · exact wpOp_step hp (fun K hK => g K (fun a w ht' hw => hK a w ⟨ht', hw hc' ht'⟩))
  · exact wpOp_step hq (fun K hK => g2 K (fun a w ht' hw => hK a w ⟨ht', hw hc' ht'⟩))

/-- What package huff is to answer, where T holds. -/
def SpecCheck (T : World → Prop) : Prop := ∀ (c : Nat → Int) (pv : Value) (l : List Int) (hI : ∀ j, j < 16 → I64 (c j)) (w : World) (hv : View w .u8 pv l) (hx : ∀ x ∈ l, 0 ≤ x ∧ x ≤ 255) (hl : l.length ≤ 140737488355328) (ht : T w), Calls Try.prog 19 #[.agg (tbl c pv).toArray] w fun e w' => e = .returned (.bool (checkB c l)) ∧ But Nowhere w w'
def SpecCodes (T : World → Prop) : Prop := ∀ (c : Nat → Int) (pv : Value) (l : List Int) (hI : ∀ j, j < 16 → I64 (c j)) (w : World) (hv : View w .u8 pv l) (hx : ∀ x ∈ l, 0 ≤ x ∧ x ≤ 255) (hl : l.length ≤ 140737488355328) (ht : T w), Calls Try.prog 17 #[.agg (tbl c pv).toArray] w fun e w' => e = .returned (.agg (tab .i64 512 (both (codN c l) (codV c l))).toArray) ∧ But Nowhere w w'
def SpecFind (T : World → Prop) : Prop := ∀ (c : Nat → Int) (pv : Value) (l : List Int) (b : Int) (hb : I64 b) (hI : ∀ j, j < 16 → I64 (c j)) (w : World) (hv : View w .u8 pv l) (hx : ∀ x ∈ l, 0 ≤ x ∧ x ≤ 255) (hl : l.length ≤ 140737488355328) (ht : T w), Calls Try.prog 18 #[.agg (tbl c pv).toArray, .int .i64 b] w fun e w' => ∃ v n, e = .returned (.tuple #[.int .i64 v, .int .i64 n]) ∧ Finds c l b v n ∧ But Nowhere w w'
def SpecFindSec (T : World → Prop) : Prop := ∀ (c : Nat → Int) (pv : Value) (l : List Int) (b : Int) (hb : I64 b) (hI : ∀ j, j < 16 → I64 (c j)) (w : World) (hv : View w .u8 pv l) (hx : ∀ x ∈ l, 0 ≤ x ∧ x ≤ 255) (hl : l.length ≤ 140737488355328) (ht : T w), Calls Try.prog 24 #[.agg (tbl c pv).toArray, S64 b] w fun e w' => ∃ v n, e = .returned (.tuple #[S64 v, S64 n]) ∧ Finds c l b v n ∧ But Nowhere w w'

set_option maxHeartbeats 6400000 in
set_option maxRecDepth 100000 in
theorem codes_any {T : World → Prop} (hT : ∀ W W', T W → But Nowhere W W' → T W') (h1 : SpecCheck T) (h2 : SpecCodes T) (c : Nat → Int) (pv : Value) (l : List Int) (hI : ∀ j, j < 16 → I64 (c j)) (w : World) (hv : View w .u8 pv l) (hx : ∀ x ∈ l, 0 ≤ x ∧ x ≤ 255) (hl : l.length ≤ 140737488355328) (ht : T w) : Calls Try.prog 11 #[.agg (tbl c pv).toArray] w fun e w' => e = .returned (.bool true) ∧ But Nowhere w w' := by
  have HV : Hid (View w .u8 pv l) := hv
  have HT : Hid (T w) := ht
  clear hv ht
  have huT := Try.underlying25
  have hiT : (Try.prog.info? 25).map (·.size) = some (tbl c pv).length := by rw [tbl_length]; kernel_rfl
  have hEq : ∀ g V, (Op.equalIn 10000 37 (.agg (tab .i64 512 g).toArray) (.agg (tab .i64 512 g).toArray)).run Try.prog V = .ok true V := fun g V => equal_codes g V
  have kk := (Keep.start w).made 25 (tbl c pv)
  cases hB : checkB c l
  · skip
    have HB : Hid _ := hB
    clear hB
    go_enter Try.func11, Try.ntmps11
    go_wp2_with fail
    replace kk := kk.drew
    refine wp_region_till (S := fun V => V.rangeAt w.heap.size 0 (tbl c pv)) (R := fun _ => True) (k := 100) (m := 100) (by kernel_rfl) ((kk.get (b := w.heap.size) (t := 25) (c := tbl c pv) (by simp)).all) trivial ?_
    revert kk
    generalize (w.alloc (.cells (tbl c pv).toArray 25)).drew = WG
    intro kk
    (refine Walk.take (i := 0) (oi := { dst := some 3, op := Op.load 25 (Operand.tmp 1), type := 25, pos := "law.go:50", after := #[], guard := none }) (v := .agg (tbl c pv).toArray) rfl (by kernel_rfl) (by kernel_rfl) (by kernel_rfl) (by kernel_rfl) (fun _ _ _ h => h) (yieldsIf_load_mid rfl 25 (.tmp 1) rfl (w.heap.size) 0 rfl (tbl c pv) _ (fun w hw => (hw.1 (by kernel_rfl))) huT rfl (hiT)) ?_; simp only [Act.put, List.setIfInBounds_toArray, List.set_cons_zero, List.set_cons_succ])
    (refine Walk.take (i := 2) (oi := { dst := some 5, op := Op.load 25 (Operand.tmp 1), type := 25, pos := "law.go:50", after := #[], guard := none }) (v := .agg (tbl c pv).toArray) rfl (by kernel_rfl) (by kernel_rfl) (by kernel_rfl) (by kernel_rfl) (fun _ _ _ h => h) (yieldsIf_load_mid rfl 25 (.tmp 1) rfl (w.heap.size) 0 rfl (tbl c pv) _ (fun w hw => (hw.1 (by kernel_rfl))) huT rfl (hiT)) ?_; simp only [Act.put, List.setIfInBounds_toArray, List.set_cons_zero, List.set_cons_succ])
    (refine Walk.go (i := 1) (o := { dst := some 4, op := Op.call { callee := Callee.value (Operand.func 19), args := #[Operand.tmp 3], argTypes := #[25] }, type := 4, pos := "law.go:50", after := #[{ on := 0, ground := Ground.data }], guard := none }) (by kernel_rfl) rfl (fun K hK => ?_); go_simp; ((go_at_call 19; refine (h1 c pv l hI _ (HV.out.but kk.but) hx hl (hT _ _ HT.out kk.but)).mono ?_; rintro e y1 ⟨rfl, dd⟩; rw [HB.out]; replace kk := kk.step dd; clear dd)); refine hK.out _ _ (⟨fun _ => (kk.get (b := w.heap.size) (t := 25) (c := tbl c pv) (by simp)).all, fun _ => trivial⟩) ?_; clear hK K; try simp only [Act.put, List.setIfInBounds_toArray, List.set_cons_zero, List.set_cons_succ])
    (refine Walk.go (i := 3) (o := { dst := some 6, op := Op.call { callee := Callee.value (Operand.func 21), args := #[Operand.tmp 5], argTypes := #[25] }, type := 4, pos := "law.go:50", after := #[{ on := 2, ground := Ground.data }, { on := 1, ground := Ground.chain }], guard := none }) (by kernel_rfl) rfl (fun K hK => ?_); go_simp; ((go_at_call 21; refine (refCheck_any c pv l hI _ (HV.out.but kk.but) hx hl).mono ?_; rintro e y2 ⟨rfl, dd⟩; rw [HB.out]; replace kk := kk.step dd; clear dd)); refine hK.out _ _ (⟨fun _ => (kk.get (b := w.heap.size) (t := 25) (c := tbl c pv) (by simp)).all, fun _ => trivial⟩) ?_; clear hK K; try simp only [Act.put, List.setIfInBounds_toArray, List.set_cons_zero, List.set_cons_succ])
    (refine Walk.take (i := 4) (oi := { dst := some 7, op := Op.binOp BinOp.eql 4 (Operand.tmp 4) (Operand.tmp 6) 4, type := 4, pos := "law.go:50", after := #[{ on := 1, ground := Ground.data }, { on := 3, ground := Ground.data }], guard := none }) (v := ?_) rfl (by kernel_rfl) (by kernel_rfl) (by kernel_rfl) (by kernel_rfl) (fun _ _ _ h => h) (Or.inl ⟨by rfl, ?_⟩) ?_; rotate_left; (intro w hw; clear hw; (try go_split_ands); go_simp; try (with_reducible rfl)); simp only [Act.put, List.setIfInBounds_toArray, List.set_cons_zero, List.set_cons_succ])
    (refine Walk.take (i := 5) (oi := { dst := some 8, op := Op.move (Operand.tmp 7), type := 4, pos := "law.go:50", after := #[{ on := 4, ground := Ground.data }, { on := 3, ground := Ground.chain }], guard := none }) (v := ?_) rfl (by kernel_rfl) (by kernel_rfl) (by kernel_rfl) (by kernel_rfl) (fun _ _ _ h => h) (Or.inl ⟨by rfl, ?_⟩) ?_; rotate_left; (intro w hw; clear hw; (try go_split_ands); go_simp; try (with_reducible rfl)); simp only [Act.put, List.setIfInBounds_toArray, List.set_cons_zero, List.set_cons_succ])
    (refine Walk.take (i := 6) (oi := { dst := some 9, op := Op.load 25 (Operand.tmp 1), type := 25, pos := "law.go:50", after := #[{ on := 5, ground := Ground.guard }], guard := some (5, true) }) (v := .agg (tbl c pv).toArray) rfl (by kernel_rfl) (by kernel_rfl) (by kernel_rfl) (by kernel_rfl) (fun _ _ _ h => h) (yieldsIf_load_mid rfl 25 (.tmp 1) rfl (w.heap.size) 0 rfl (tbl c pv) _ (fun w hw => (hw.1 (by kernel_rfl))) huT rfl (hiT)) ?_; simp only [Act.put, List.setIfInBounds_toArray, List.set_cons_zero, List.set_cons_succ])
    (refine Walk.take (i := 8) (oi := { dst := some 11, op := Op.load 25 (Operand.tmp 1), type := 25, pos := "law.go:50", after := #[{ on := 5, ground := Ground.guard }], guard := some (5, true) }) (v := .agg (tbl c pv).toArray) rfl (by kernel_rfl) (by kernel_rfl) (by kernel_rfl) (by kernel_rfl) (fun _ _ _ h => h) (yieldsIf_load_mid rfl 25 (.tmp 1) rfl (w.heap.size) 0 rfl (tbl c pv) _ (fun w hw => (hw.1 (by kernel_rfl))) huT rfl (hiT)) ?_; simp only [Act.put, List.setIfInBounds_toArray, List.set_cons_zero, List.set_cons_succ])
    (refine Walk.go (i := 7) (o := { dst := some 10, op := Op.call { callee := Callee.value (Operand.func 17), args := #[Operand.tmp 9], argTypes := #[25] }, type := 37, pos := "law.go:50", after := #[{ on := 6, ground := Ground.data }, { on := 5, ground := Ground.chain }, { on := 5, ground := Ground.guard }], guard := some (5, true) }) (by kernel_rfl) rfl (fun K hK => ?_); go_simp; ((go_at_call 17; refine (h2 c pv l hI _ (HV.out.but kk.but) hx hl (hT _ _ HT.out kk.but)).mono ?_; rintro e y3 ⟨rfl, dd⟩; replace kk := kk.step dd; clear dd)); refine hK.out _ _ (⟨fun _ => (kk.get (b := w.heap.size) (t := 25) (c := tbl c pv) (by simp)).all, fun _ => trivial⟩) ?_; clear hK K; try simp only [Act.put, List.setIfInBounds_toArray, List.set_cons_zero, List.set_cons_succ])
    (refine Walk.go (i := 9) (o := { dst := some 12, op := Op.call { callee := Callee.value (Operand.func 22), args := #[Operand.tmp 11], argTypes := #[25] }, type := 37, pos := "law.go:50", after := #[{ on := 8, ground := Ground.data }, { on := 7, ground := Ground.chain }, { on := 5, ground := Ground.guard }], guard := some (5, true) }) (by kernel_rfl) rfl (fun K hK => ?_); go_simp; ((go_at_call 22; refine (refCodes_any c pv l hI _ (HV.out.but kk.but) hx hl).mono ?_; rintro e y4 ⟨rfl, dd⟩; replace kk := kk.step dd; clear dd)); refine hK.out _ _ (⟨fun _ => (kk.get (b := w.heap.size) (t := 25) (c := tbl c pv) (by simp)).all, fun _ => trivial⟩) ?_; clear hK K; try simp only [Act.put, List.setIfInBounds_toArray, List.set_cons_zero, List.set_cons_succ])
    (refine Walk.take (i := 10) (oi := { dst := some 13, op := Op.binOp BinOp.eql 37 (Operand.tmp 10) (Operand.tmp 12) 37, type := 4, pos := "law.go:50", after := #[{ on := 7, ground := Ground.data }, { on := 9, ground := Ground.data }, { on := 5, ground := Ground.guard }], guard := some (5, true) }) (v := ?_) rfl (by kernel_rfl) (by kernel_rfl) (by kernel_rfl) (by kernel_rfl) (fun _ _ _ h => h) (Or.inl ⟨by rfl, ?_⟩) ?_; rotate_left; (intro w hw; clear hw; (try go_split_ands); go_simp; try (with_reducible rfl)); simp only [Act.put, List.setIfInBounds_toArray, List.set_cons_zero, List.set_cons_succ])
    (refine Walk.take (i := 11) (oi := { dst := some 14, op := Op.pick (Operand.tmp 8) (Operand.tmp 13) (Operand.const (Value.bool false)), type := 4, pos := "law.go:50", after := #[{ on := 5, ground := Ground.data }, { on := 10, ground := Ground.data }], guard := none }) (v := ?_) rfl (by kernel_rfl) (by kernel_rfl) (by kernel_rfl) (by kernel_rfl) (fun _ _ _ h => h) (Or.inl ⟨by rfl, ?_⟩) ?_; rotate_left; (intro w hw; clear hw; (try go_split_ands); go_simp; try (with_reducible rfl)); simp only [Act.put, List.setIfInBounds_toArray, List.set_cons_zero, List.set_cons_succ])
    (refine Walk.take (i := 12) (oi := { dst := some 2, op := Op.assign (Operand.tmp 14), type := 4, pos := "law.go:50", after := #[{ on := 11, ground := Ground.data }, { on := 9, ground := Ground.chain }, { on := 0, ground := Ground.phase }, { on := 1, ground := Ground.phase }, { on := 2, ground := Ground.phase }, { on := 3, ground := Ground.phase }, { on := 4, ground := Ground.phase }, { on := 5, ground := Ground.phase }, { on := 6, ground := Ground.phase }, { on := 7, ground := Ground.phase }, { on := 8, ground := Ground.phase }, { on := 9, ground := Ground.phase }, { on := 10, ground := Ground.phase }, { on := 11, ground := Ground.phase }], guard := none }) (v := ?_) rfl (by kernel_rfl) (by kernel_rfl) (by kernel_rfl) (by kernel_rfl) (fun _ _ _ h => h) (Or.inl ⟨by rfl, ?_⟩) ?_; rotate_left; (intro w hw; clear hw; (try go_split_ands); go_simp; try (with_reducible rfl)); simp only [Act.put, List.setIfInBounds_toArray, List.set_cons_zero, List.set_cons_succ])
    refine Walk.done (by kernel_rfl) ?_ _
    go_wp2_with fail
    go_ret
    exact ⟨rfl, kk.but⟩
  · skip
    have HB : Hid _ := hB
    clear hB
    go_enter Try.func11, Try.ntmps11
    go_wp2_with fail
    replace kk := kk.drew
    refine wp_region_till (S := fun V => V.rangeAt w.heap.size 0 (tbl c pv)) (R := fun _ => True) (k := 100) (m := 100) (by kernel_rfl) ((kk.get (b := w.heap.size) (t := 25) (c := tbl c pv) (by simp)).all) trivial ?_
    revert kk
    generalize (w.alloc (.cells (tbl c pv).toArray 25)).drew = WG
    intro kk
    (refine Walk.take (i := 0) (oi := { dst := some 3, op := Op.load 25 (Operand.tmp 1), type := 25, pos := "law.go:50", after := #[], guard := none }) (v := .agg (tbl c pv).toArray) rfl (by kernel_rfl) (by kernel_rfl) (by kernel_rfl) (by kernel_rfl) (fun _ _ _ h => h) (yieldsIf_load_mid rfl 25 (.tmp 1) rfl (w.heap.size) 0 rfl (tbl c pv) _ (fun w hw => (hw.1 (by kernel_rfl))) huT rfl (hiT)) ?_; simp only [Act.put, List.setIfInBounds_toArray, List.set_cons_zero, List.set_cons_succ])
    (refine Walk.take (i := 2) (oi := { dst := some 5, op := Op.load 25 (Operand.tmp 1), type := 25, pos := "law.go:50", after := #[], guard := none }) (v := .agg (tbl c pv).toArray) rfl (by kernel_rfl) (by kernel_rfl) (by kernel_rfl) (by kernel_rfl) (fun _ _ _ h => h) (yieldsIf_load_mid rfl 25 (.tmp 1) rfl (w.heap.size) 0 rfl (tbl c pv) _ (fun w hw => (hw.1 (by kernel_rfl))) huT rfl (hiT)) ?_; simp only [Act.put, List.setIfInBounds_toArray, List.set_cons_zero, List.set_cons_succ])
    (refine Walk.go (i := 1) (o := { dst := some 4, op := Op.call { callee := Callee.value (Operand.func 19), args := #[Operand.tmp 3], argTypes := #[25] }, type := 4, pos := "law.go:50", after := #[{ on := 0, ground := Ground.data }], guard := none }) (by kernel_rfl) rfl (fun K hK => ?_); go_simp; ((go_at_call 19; refine (h1 c pv l hI _ (HV.out.but kk.but) hx hl (hT _ _ HT.out kk.but)).mono ?_; rintro e y1 ⟨rfl, dd⟩; rw [HB.out]; replace kk := kk.step dd; clear dd)); refine hK.out _ _ (⟨fun _ => (kk.get (b := w.heap.size) (t := 25) (c := tbl c pv) (by simp)).all, fun _ => trivial⟩) ?_; clear hK K; try simp only [Act.put, List.setIfInBounds_toArray, List.set_cons_zero, List.set_cons_succ])
    (refine Walk.go (i := 3) (o := { dst := some 6, op := Op.call { callee := Callee.value (Operand.func 21), args := #[Operand.tmp 5], argTypes := #[25] }, type := 4, pos := "law.go:50", after := #[{ on := 2, ground := Ground.data }, { on := 1, ground := Ground.chain }], guard := none }) (by kernel_rfl) rfl (fun K hK => ?_); go_simp; ((go_at_call 21; refine (refCheck_any c pv l hI _ (HV.out.but kk.but) hx hl).mono ?_; rintro e y2 ⟨rfl, dd⟩; rw [HB.out]; replace kk := kk.step dd; clear dd)); refine hK.out _ _ (⟨fun _ => (kk.get (b := w.heap.size) (t := 25) (c := tbl c pv) (by simp)).all, fun _ => trivial⟩) ?_; clear hK K; try simp only [Act.put, List.setIfInBounds_toArray, List.set_cons_zero, List.set_cons_succ])
    (refine Walk.take (i := 4) (oi := { dst := some 7, op := Op.binOp BinOp.eql 4 (Operand.tmp 4) (Operand.tmp 6) 4, type := 4, pos := "law.go:50", after := #[{ on := 1, ground := Ground.data }, { on := 3, ground := Ground.data }], guard := none }) (v := ?_) rfl (by kernel_rfl) (by kernel_rfl) (by kernel_rfl) (by kernel_rfl) (fun _ _ _ h => h) (Or.inl ⟨by rfl, ?_⟩) ?_; rotate_left; (intro w hw; clear hw; (try go_split_ands); go_simp; try (with_reducible rfl)); simp only [Act.put, List.setIfInBounds_toArray, List.set_cons_zero, List.set_cons_succ])
    (refine Walk.take (i := 5) (oi := { dst := some 8, op := Op.move (Operand.tmp 7), type := 4, pos := "law.go:50", after := #[{ on := 4, ground := Ground.data }, { on := 3, ground := Ground.chain }], guard := none }) (v := ?_) rfl (by kernel_rfl) (by kernel_rfl) (by kernel_rfl) (by kernel_rfl) (fun _ _ _ h => h) (Or.inl ⟨by rfl, ?_⟩) ?_; rotate_left; (intro w hw; clear hw; (try go_split_ands); go_simp; try (with_reducible rfl)); simp only [Act.put, List.setIfInBounds_toArray, List.set_cons_zero, List.set_cons_succ])
    (refine Walk.take (i := 6) (oi := { dst := some 9, op := Op.load 25 (Operand.tmp 1), type := 25, pos := "law.go:50", after := #[{ on := 5, ground := Ground.guard }], guard := some (5, true) }) (v := .agg (tbl c pv).toArray) rfl (by kernel_rfl) (by kernel_rfl) (by kernel_rfl) (by kernel_rfl) (fun _ _ _ h => h) (yieldsIf_load_mid rfl 25 (.tmp 1) rfl (w.heap.size) 0 rfl (tbl c pv) _ (fun w hw => (hw.1 (by kernel_rfl))) huT rfl (hiT)) ?_; simp only [Act.put, List.setIfInBounds_toArray, List.set_cons_zero, List.set_cons_succ])
    (refine Walk.take (i := 8) (oi := { dst := some 11, op := Op.load 25 (Operand.tmp 1), type := 25, pos := "law.go:50", after := #[{ on := 5, ground := Ground.guard }], guard := some (5, true) }) (v := .agg (tbl c pv).toArray) rfl (by kernel_rfl) (by kernel_rfl) (by kernel_rfl) (by kernel_rfl) (fun _ _ _ h => h) (yieldsIf_load_mid rfl 25 (.tmp 1) rfl (w.heap.size) 0 rfl (tbl c pv) _ (fun w hw => (hw.1 (by kernel_rfl))) huT rfl (hiT)) ?_; simp only [Act.put, List.setIfInBounds_toArray, List.set_cons_zero, List.set_cons_succ])
    (refine Walk.go (i := 7) (o := { dst := some 10, op := Op.call { callee := Callee.value (Operand.func 17), args := #[Operand.tmp 9], argTypes := #[25] }, type := 37, pos := "law.go:50", after := #[{ on := 6, ground := Ground.data }, { on := 5, ground := Ground.chain }, { on := 5, ground := Ground.guard }], guard := some (5, true) }) (by kernel_rfl) rfl (fun K hK => ?_); go_simp; ((go_at_call 17; refine (h2 c pv l hI _ (HV.out.but kk.but) hx hl (hT _ _ HT.out kk.but)).mono ?_; rintro e y3 ⟨rfl, dd⟩; replace kk := kk.step dd; clear dd)); refine hK.out _ _ (⟨fun _ => (kk.get (b := w.heap.size) (t := 25) (c := tbl c pv) (by simp)).all, fun _ => trivial⟩) ?_; clear hK K; try simp only [Act.put, List.setIfInBounds_toArray, List.set_cons_zero, List.set_cons_succ])
    (refine Walk.go (i := 9) (o := { dst := some 12, op := Op.call { callee := Callee.value (Operand.func 22), args := #[Operand.tmp 11], argTypes := #[25] }, type := 37, pos := "law.go:50", after := #[{ on := 8, ground := Ground.data }, { on := 7, ground := Ground.chain }, { on := 5, ground := Ground.guard }], guard := some (5, true) }) (by kernel_rfl) rfl (fun K hK => ?_); go_simp; ((go_at_call 22; refine (refCodes_any c pv l hI _ (HV.out.but kk.but) hx hl).mono ?_; rintro e y4 ⟨rfl, dd⟩; replace kk := kk.step dd; clear dd)); refine hK.out _ _ (⟨fun _ => (kk.get (b := w.heap.size) (t := 25) (c := tbl c pv) (by simp)).all, fun _ => trivial⟩) ?_; clear hK K; try simp only [Act.put, List.setIfInBounds_toArray, List.set_cons_zero, List.set_cons_succ])
    (refine Walk.take (i := 10) (oi := { dst := some 13, op := Op.binOp BinOp.eql 37 (Operand.tmp 10) (Operand.tmp 12) 37, type := 4, pos := "law.go:50", after := #[{ on := 7, ground := Ground.data }, { on := 9, ground := Ground.data }, { on := 5, ground := Ground.guard }], guard := some (5, true) }) (v := ?_) rfl (by kernel_rfl) (by kernel_rfl) (by kernel_rfl) (by kernel_rfl) (fun _ _ _ h => h) (Or.inl ⟨by rfl, ?_⟩) ?_; rotate_left; (intro w hw; clear hw; (try go_split_ands); go_simp; try (with_reducible rfl)); simp only [Act.put, List.setIfInBounds_toArray, List.set_cons_zero, List.set_cons_succ])
    (refine Walk.take (i := 11) (oi := { dst := some 14, op := Op.pick (Operand.tmp 8) (Operand.tmp 13) (Operand.const (Value.bool false)), type := 4, pos := "law.go:50", after := #[{ on := 5, ground := Ground.data }, { on := 10, ground := Ground.data }], guard := none }) (v := ?_) rfl (by kernel_rfl) (by kernel_rfl) (by kernel_rfl) (by kernel_rfl) (fun _ _ _ h => h) (Or.inl ⟨by rfl, ?_⟩) ?_; rotate_left; (intro w hw; clear hw; (try go_split_ands); go_simp; try (with_reducible rfl)); simp only [Act.put, List.setIfInBounds_toArray, List.set_cons_zero, List.set_cons_succ])
    (refine Walk.take (i := 12) (oi := { dst := some 2, op := Op.assign (Operand.tmp 14), type := 4, pos := "law.go:50", after := #[{ on := 11, ground := Ground.data }, { on := 9, ground := Ground.chain }, { on := 0, ground := Ground.phase }, { on := 1, ground := Ground.phase }, { on := 2, ground := Ground.phase }, { on := 3, ground := Ground.phase }, { on := 4, ground := Ground.phase }, { on := 5, ground := Ground.phase }, { on := 6, ground := Ground.phase }, { on := 7, ground := Ground.phase }, { on := 8, ground := Ground.phase }, { on := 9, ground := Ground.phase }, { on := 10, ground := Ground.phase }, { on := 11, ground := Ground.phase }], guard := none }) (v := ?_) rfl (by kernel_rfl) (by kernel_rfl) (by kernel_rfl) (by kernel_rfl) (fun _ _ _ h => h) (Or.inl ⟨by rfl, ?_⟩) ?_; rotate_left; (intro w hw; clear hw; (try go_split_ands); go_simp; try (with_reducible rfl)); simp only [Act.put, List.setIfInBounds_toArray, List.set_cons_zero, List.set_cons_succ])
    refine Walk.done (by kernel_rfl) ?_ _
    go_wp2_with fail
    go_ret
    exact ⟨rfl, kk.but⟩

set_option maxHeartbeats 6400000 in
set_option maxRecDepth 100000 in
theorem finds_any {T : World → Prop} (hT : ∀ W W', T W → But Nowhere W W' → T W') (h3 : SpecFind T) (h4 : SpecFindSec T) (c : Nat → Int) (pv : Value) (l : List Int) (b : Int) (hb : I64 b) (hI : ∀ j, j < 16 → I64 (c j)) (w : World) (hv : View w .u8 pv l) (hx : ∀ x ∈ l, 0 ≤ x ∧ x ≤ 255) (hl : l.length ≤ 140737488355328) (ht : T w) : Calls Try.prog 15 #[.agg (tbl c pv).toArray, .int .i64 b] w fun e w' => e = .returned (.bool true) ∧ But Nowhere w w' := by
  have HV : Hid (View w .u8 pv l) := hv
  have HT : Hid (T w) := ht
  clear hv ht
  have huT := Try.underlying25
  have hiT : (Try.prog.info? 25).map (·.size) = some (tbl c pv).length := by rw [tbl_length]; kernel_rfl
  have kk := (Keep.start w).made 25 (tbl c pv)
  go_enter Try.func15, Try.ntmps15
  have hr := (kk.get (b := w.heap.size) (t := 25) (c := tbl c pv) (by simp)).all
  go_wp2_with (refine wpList_load_mid rfl 25 (.tmp 2) rfl w.heap.size 0 rfl (tbl c pv) _ ?_ huT rfl hiT ?_; exact hr)
  refine (h3 c pv l b hb hI _ (HV.out.but kk.but) hx hl (hT _ _ HT.out kk.but)).mono ?_
  rintro e x1 ⟨v0, n0, rfl, hf, dd⟩
  have HF : Hid _ := hf
  replace kk := kk.step dd
  clear dd hr hf
  have hr := (kk.get (b := w.heap.size) (t := 25) (c := tbl c pv) (by simp)).all
  go_wp2_with (refine wpList_load_mid rfl 25 (.tmp 2) rfl w.heap.size 0 rfl (tbl c pv) _ ?_ huT rfl hiT ?_; exact hr)
  refine (refFind_any c pv l b hI _ (HV.out.but kk.but) hx hl).mono ?_
  rintro e x2 ⟨v1, n1, rfl, hf1, dd⟩
  obtain ⟨rfl, rfl⟩ := finds_one HF.out hf1
  clear hf1
  replace kk := kk.step dd
  clear dd hr
  go_wp2_with fail
  go_cut [9, 10] from 23 to 29 (fun s r V => ∃ NA NB, s = .pointer (some ⟨NA, 0, none⟩) ∧ r = .pointer (some ⟨NB, 0, none⟩) ∧ Keep w V [(NA, 51, [.int .i64 v0]), (NB, 51, [.int .i64 n0]), (w.heap.size, 25, tbl c pv)])
  case first =>
    replace kk := kk.drew
    refine wp_region_till (S := fun V => V.rangeAt w.heap.size 0 (tbl c pv)) (R := fun _ => True) (k := 100) (m := 100) (by kernel_rfl) ((kk.get (b := w.heap.size) (t := 25) (c := tbl c pv) (by simp)).all) trivial ?_
    revert kk
    generalize x2.drew = WG
    intro kk
    (refine Walk.take (i := 0) (oi := { dst := some 24, op := Op.load 25 (Operand.tmp 2), type := 25, pos := "law.go:65", after := #[], guard := none }) (v := .agg (tbl c pv).toArray) rfl (by kernel_rfl) (by kernel_rfl) (by kernel_rfl) (by kernel_rfl) (fun _ _ _ h => h) (yieldsIf_load_mid rfl 25 (.tmp 2) rfl (w.heap.size) 0 rfl (tbl c pv) _ (fun w hw => (hw.1 (by kernel_rfl))) huT rfl (hiT)) ?_; simp only [Act.put, List.setIfInBounds_toArray, List.set_cons_zero, List.set_cons_succ])
    (refine Walk.take (i := 1) (oi := { dst := some 25, op := Op.move (Operand.tmp 1), type := 3, pos := "law.go:65", after := #[], guard := none }) (v := ?_) rfl (by kernel_rfl) (by kernel_rfl) (by kernel_rfl) (by kernel_rfl) (fun _ _ _ h => h) (Or.inl ⟨by rfl, ?_⟩) ?_; rotate_left; (intro w hw; clear hw; (try go_split_ands); go_simp; try (with_reducible rfl)); simp only [Act.put, List.setIfInBounds_toArray, List.set_cons_zero, List.set_cons_succ])
    refine Walk.three (i := 2) (j := 7) (l := 8) (oi := { dst := some 26, op := Op.call { callee := Callee.value (Operand.func 25), args := #[Operand.tmp 25], argTypes := #[3] }, type := 51, pos := "law.go:65", after := #[{ on := 1, ground := Ground.data }], guard := none }) (oj := { dst := some 9, op := Op.alloc 51, type := 0, pos := "law.go:65", after := #[], guard := none }) (ol := { dst := some 10, op := Op.alloc 51, type := 0, pos := "law.go:65", after := #[], guard := none }) (by kernel_rfl) rfl rfl rfl (fun K hK => ?_) (fun K hK => ?_) (fun K hK => ?_)
    · go_simp; ((go_at_call 25; refine (of_any b _).mono ?_; rintro e z1 ⟨rfl, dd⟩; replace kk := kk.step dd; clear dd)); refine hK.out _ _ (⟨fun _ => (kk.get (b := w.heap.size) (t := 25) (c := tbl c pv) (by simp)).all, fun _ => trivial⟩) ?_; clear hK K; try simp only [Act.put, List.setIfInBounds_toArray, List.set_cons_zero, List.set_cons_succ]
      refine Walk.three (i := 3) (j := 7) (l := 8) (oi := { dst := some 27, op := Op.call { callee := Callee.value (Operand.func 24), args := #[Operand.tmp 24, Operand.tmp 26], argTypes := #[25, 51] }, type := 52, pos := "law.go:65", after := #[{ on := 0, ground := Ground.data }, { on := 2, ground := Ground.data }, { on := 2, ground := Ground.chain }], guard := none }) (oj := { dst := some 9, op := Op.alloc 51, type := 0, pos := "law.go:65", after := #[], guard := none }) (ol := { dst := some 10, op := Op.alloc 51, type := 0, pos := "law.go:65", after := #[], guard := none }) (by kernel_rfl) rfl rfl rfl (fun K hK => ?_) (fun K hK => ?_) (fun K hK => ?_)
      · go_simp; ((go_at_call 24; refine (h4 c pv l b hb hI _ (HV.out.but kk.but) hx hl (hT _ _ HT.out kk.but)).mono ?_; rintro e z2 ⟨v3, n3, rfl, hf3, dd⟩; obtain ⟨rfl, rfl⟩ := finds_one HF.out hf3; clear hf3; replace kk := kk.step dd; clear dd)); refine hK.out _ _ (⟨fun _ => (kk.get (b := w.heap.size) (t := 25) (c := tbl c pv) (by simp)).all, fun _ => trivial⟩) ?_; clear hK K; try simp only [Act.put, List.setIfInBounds_toArray, List.set_cons_zero, List.set_cons_succ]
        (refine Walk.take (i := 4) (oi := { dst := some 23, op := Op.move (Operand.tmp 27), type := 52, pos := "law.go:65", after := #[{ on := 3, ground := Ground.data }], guard := none }) (v := ?_) rfl (by kernel_rfl) (by kernel_rfl) (by kernel_rfl) (by kernel_rfl) (fun _ _ _ h => h) (Or.inl ⟨by rfl, ?_⟩) ?_; rotate_left; (intro w hw; clear hw; (try go_split_ands); go_simp; try (with_reducible rfl)); simp only [Act.put, List.setIfInBounds_toArray, List.set_cons_zero, List.set_cons_succ])
        (refine Walk.take (i := 5) (oi := { dst := some 28, op := Op.extract (Operand.tmp 23) 0, type := 51, pos := "law.go:65", after := #[{ on := 4, ground := Ground.data }], guard := none }) (v := ?_) rfl (by kernel_rfl) (by kernel_rfl) (by kernel_rfl) (by kernel_rfl) (fun _ _ _ h => h) (Or.inl ⟨by rfl, ?_⟩) ?_; rotate_left; (intro w hw; clear hw; (try go_split_ands); go_simp; try (with_reducible rfl)); simp only [Act.put, List.setIfInBounds_toArray, List.set_cons_zero, List.set_cons_succ])
        (refine Walk.take (i := 6) (oi := { dst := some 29, op := Op.extract (Operand.tmp 23) 1, type := 51, pos := "law.go:65", after := #[{ on := 4, ground := Ground.data }, { on := 9, ground := Ground.gcOnly Departure.lateStores }], guard := none }) (v := ?_) rfl (by kernel_rfl) (by kernel_rfl) (by kernel_rfl) (by kernel_rfl) (fun _ _ _ h => h) (Or.inl ⟨by rfl, ?_⟩) ?_; rotate_left; (intro w hw; clear hw; (try go_split_ands); go_simp; try (with_reducible rfl)); simp only [Act.put, List.setIfInBounds_toArray, List.set_cons_zero, List.set_cons_succ])
        refine Walk.both (i := 7) (j := 8) (oi := { dst := some 9, op := Op.alloc 51, type := 0, pos := "law.go:65", after := #[], guard := none }) (oj := { dst := some 10, op := Op.alloc 51, type := 0, pos := "law.go:65", after := #[], guard := none }) (by kernel_rfl) rfl rfl (fun K hK => ?_) (fun K hK => ?_)
        · go_simp; (replace kk := kk.made 51 [.int .i64 0]); refine hK.out _ _ (⟨fun _ => (kk.get (b := w.heap.size) (t := 25) (c := tbl c pv) (by simp)).all, fun _ => trivial⟩) ?_; clear hK K; try simp only [Act.put, List.setIfInBounds_toArray, List.set_cons_zero, List.set_cons_succ]
          revert kk
          obtain ⟨NA, hNA⟩ : ∃ n, z2.heap.size = n := ⟨_, rfl⟩
          rw [hNA]
          clear hNA
          generalize z2.alloc (.cells [.int .i64 0].toArray 51) = V1
          intro kk
          (refine Walk.go (i := 8) (o := { dst := some 10, op := Op.alloc 51, type := 0, pos := "law.go:65", after := #[], guard := none }) (by kernel_rfl) rfl (fun K hK => ?_); go_simp; (replace kk := kk.made 51 [.int .i64 0]); refine hK.out _ _ (⟨fun _ => (kk.get (b := w.heap.size) (t := 25) (c := tbl c pv) (by simp)).all, fun _ => trivial⟩) ?_; clear hK K; try simp only [Act.put, List.setIfInBounds_toArray, List.set_cons_zero, List.set_cons_succ])
          revert kk
          obtain ⟨NB, hNB⟩ : ∃ n, V1.heap.size = n := ⟨_, rfl⟩
          rw [hNB]
          clear hNB
          generalize V1.alloc (.cells [.int .i64 0].toArray 51) = V2
          intro kk
          replace kk := kk.swap
          have q0 := kk.head.at 0
          have f0 := kk.head.frozen 0
          simp only [List.getElem?_cons_zero] at q0
          (refine Walk.go (i := 9) (o := { dst := none, op := Op.store 51 (Operand.tmp 9) (Operand.tmp 28), type := 0, pos := "law.go:65", after := #[{ on := 7, ground := Ground.data }, { on := 5, ground := Ground.data }, { on := 3, ground := Ground.chain }, { on := 0, ground := Ground.phase }, { on := 1, ground := Ground.phase }, { on := 2, ground := Ground.phase }, { on := 3, ground := Ground.phase }, { on := 4, ground := Ground.phase }, { on := 5, ground := Ground.phase }, { on := 6, ground := Ground.textOnly Departure.lateStores }, { on := 7, ground := Ground.phase }, { on := 8, ground := Ground.phase }], guard := none }) (by kernel_rfl) rfl (fun K hK => ?_); go_simp; (replace kk := kk.set 0 (.int .i64 v0); clear q0 f0); refine hK.out _ _ (⟨fun _ => (kk.get (b := w.heap.size) (t := 25) (c := tbl c pv) (by simp)).all, fun _ => trivial⟩) ?_; clear hK K; try simp only [Act.put, List.setIfInBounds_toArray, List.set_cons_zero, List.set_cons_succ])
          revert kk
          generalize V2.setCell ⟨NA, 0, none⟩ (.int .i64 v0) = U9
          intro kk
          replace kk := kk.swap
          have q0 := kk.head.at 0
          have f0 := kk.head.frozen 0
          simp only [List.getElem?_cons_zero] at q0
          (refine Walk.go (i := 10) (o := { dst := none, op := Op.store 51 (Operand.tmp 10) (Operand.tmp 29), type := 0, pos := "law.go:65", after := #[{ on := 8, ground := Ground.data }, { on := 6, ground := Ground.data }, { on := 9, ground := Ground.chain }, { on := 0, ground := Ground.phase }, { on := 1, ground := Ground.phase }, { on := 2, ground := Ground.phase }, { on := 3, ground := Ground.phase }, { on := 4, ground := Ground.phase }, { on := 5, ground := Ground.phase }, { on := 6, ground := Ground.phase }, { on := 7, ground := Ground.phase }, { on := 8, ground := Ground.phase }, { on := 9, ground := Ground.phase }], guard := none }) (by kernel_rfl) rfl (fun K hK => ?_); go_simp; (replace kk := kk.set 0 (.int .i64 n0); clear q0 f0); refine hK.out _ _ (⟨fun _ => (kk.get (b := w.heap.size) (t := 25) (c := tbl c pv) (by simp)).all, fun _ => trivial⟩) ?_; clear hK K; try simp only [Act.put, List.setIfInBounds_toArray, List.set_cons_zero, List.set_cons_succ])
          refine Walk.done (by kernel_rfl) ?_ _
          go_wp2_with fail
          go_meet
          case rel => exact ⟨_, _, rfl, rfl, kk.swap⟩
        · go_simp; (replace kk := kk.made 51 [.int .i64 0]); refine hK.out _ _ (⟨fun _ => (kk.get (b := w.heap.size) (t := 25) (c := tbl c pv) (by simp)).all, fun _ => trivial⟩) ?_; clear hK K; try simp only [Act.put, List.setIfInBounds_toArray, List.set_cons_zero, List.set_cons_succ]
          revert kk
          obtain ⟨NB, hNB⟩ : ∃ n, z2.heap.size = n := ⟨_, rfl⟩
          rw [hNB]
          clear hNB
          generalize z2.alloc (.cells [.int .i64 0].toArray 51) = V3
          intro kk
          (refine Walk.go (i := 7) (o := { dst := some 9, op := Op.alloc 51, type := 0, pos := "law.go:65", after := #[], guard := none }) (by kernel_rfl) rfl (fun K hK => ?_); go_simp; (replace kk := kk.made 51 [.int .i64 0]); refine hK.out _ _ (⟨fun _ => (kk.get (b := w.heap.size) (t := 25) (c := tbl c pv) (by simp)).all, fun _ => trivial⟩) ?_; clear hK K; try simp only [Act.put, List.setIfInBounds_toArray, List.set_cons_zero, List.set_cons_succ])
          revert kk
          obtain ⟨NA, hNA⟩ : ∃ n, V3.heap.size = n := ⟨_, rfl⟩
          rw [hNA]
          clear hNA
          generalize V3.alloc (.cells [.int .i64 0].toArray 51) = V4
          intro kk
          have q0 := kk.head.at 0
          have f0 := kk.head.frozen 0
          simp only [List.getElem?_cons_zero] at q0
          (refine Walk.go (i := 9) (o := { dst := none, op := Op.store 51 (Operand.tmp 9) (Operand.tmp 28), type := 0, pos := "law.go:65", after := #[{ on := 7, ground := Ground.data }, { on := 5, ground := Ground.data }, { on := 3, ground := Ground.chain }, { on := 0, ground := Ground.phase }, { on := 1, ground := Ground.phase }, { on := 2, ground := Ground.phase }, { on := 3, ground := Ground.phase }, { on := 4, ground := Ground.phase }, { on := 5, ground := Ground.phase }, { on := 6, ground := Ground.textOnly Departure.lateStores }, { on := 7, ground := Ground.phase }, { on := 8, ground := Ground.phase }], guard := none }) (by kernel_rfl) rfl (fun K hK => ?_); go_simp; (replace kk := kk.set 0 (.int .i64 v0); clear q0 f0); refine hK.out _ _ (⟨fun _ => (kk.get (b := w.heap.size) (t := 25) (c := tbl c pv) (by simp)).all, fun _ => trivial⟩) ?_; clear hK K; try simp only [Act.put, List.setIfInBounds_toArray, List.set_cons_zero, List.set_cons_succ])
          revert kk
          generalize V4.setCell ⟨NA, 0, none⟩ (.int .i64 v0) = U9
          intro kk
          replace kk := kk.swap
          have q0 := kk.head.at 0
          have f0 := kk.head.frozen 0
          simp only [List.getElem?_cons_zero] at q0
          (refine Walk.go (i := 10) (o := { dst := none, op := Op.store 51 (Operand.tmp 10) (Operand.tmp 29), type := 0, pos := "law.go:65", after := #[{ on := 8, ground := Ground.data }, { on := 6, ground := Ground.data }, { on := 9, ground := Ground.chain }, { on := 0, ground := Ground.phase }, { on := 1, ground := Ground.phase }, { on := 2, ground := Ground.phase }, { on := 3, ground := Ground.phase }, { on := 4, ground := Ground.phase }, { on := 5, ground := Ground.phase }, { on := 6, ground := Ground.phase }, { on := 7, ground := Ground.phase }, { on := 8, ground := Ground.phase }, { on := 9, ground := Ground.phase }], guard := none }) (by kernel_rfl) rfl (fun K hK => ?_); go_simp; (replace kk := kk.set 0 (.int .i64 n0); clear q0 f0); refine hK.out _ _ (⟨fun _ => (kk.get (b := w.heap.size) (t := 25) (c := tbl c pv) (by simp)).all, fun _ => trivial⟩) ?_; clear hK K; try simp only [Act.put, List.setIfInBounds_toArray, List.set_cons_zero, List.set_cons_succ])
          refine Walk.done (by kernel_rfl) ?_ _
          go_wp2_with fail
          go_meet
          case rel => exact ⟨_, _, rfl, rfl, kk.swap⟩
      · go_simp; (replace kk := kk.made 51 [.int .i64 0]); refine hK.out _ _ (⟨fun _ => (kk.get (b := w.heap.size) (t := 25) (c := tbl c pv) (by simp)).all, fun _ => trivial⟩) ?_; clear hK K; try simp only [Act.put, List.setIfInBounds_toArray, List.set_cons_zero, List.set_cons_succ]
        revert kk
        obtain ⟨NA, hNA⟩ : ∃ n, z1.heap.size = n := ⟨_, rfl⟩
        rw [hNA]
        clear hNA
        generalize z1.alloc (.cells [.int .i64 0].toArray 51) = V5
        intro kk
        refine Walk.both (i := 3) (j := 8) (oi := { dst := some 27, op := Op.call { callee := Callee.value (Operand.func 24), args := #[Operand.tmp 24, Operand.tmp 26], argTypes := #[25, 51] }, type := 52, pos := "law.go:65", after := #[{ on := 0, ground := Ground.data }, { on := 2, ground := Ground.data }, { on := 2, ground := Ground.chain }], guard := none }) (oj := { dst := some 10, op := Op.alloc 51, type := 0, pos := "law.go:65", after := #[], guard := none }) (by kernel_rfl) rfl rfl (fun K hK => ?_) (fun K hK => ?_)
        · go_simp; ((go_at_call 24; refine (h4 c pv l b hb hI _ (HV.out.but kk.but) hx hl (hT _ _ HT.out kk.but)).mono ?_; rintro e z2 ⟨v3, n3, rfl, hf3, dd⟩; obtain ⟨rfl, rfl⟩ := finds_one HF.out hf3; clear hf3; replace kk := kk.step dd; clear dd)); refine hK.out _ _ (⟨fun _ => (kk.get (b := w.heap.size) (t := 25) (c := tbl c pv) (by simp)).all, fun _ => trivial⟩) ?_; clear hK K; try simp only [Act.put, List.setIfInBounds_toArray, List.set_cons_zero, List.set_cons_succ]
          (refine Walk.take (i := 4) (oi := { dst := some 23, op := Op.move (Operand.tmp 27), type := 52, pos := "law.go:65", after := #[{ on := 3, ground := Ground.data }], guard := none }) (v := ?_) rfl (by kernel_rfl) (by kernel_rfl) (by kernel_rfl) (by kernel_rfl) (fun _ _ _ h => h) (Or.inl ⟨by rfl, ?_⟩) ?_; rotate_left; (intro w hw; clear hw; (try go_split_ands); go_simp; try (with_reducible rfl)); simp only [Act.put, List.setIfInBounds_toArray, List.set_cons_zero, List.set_cons_succ])
          (refine Walk.take (i := 5) (oi := { dst := some 28, op := Op.extract (Operand.tmp 23) 0, type := 51, pos := "law.go:65", after := #[{ on := 4, ground := Ground.data }], guard := none }) (v := ?_) rfl (by kernel_rfl) (by kernel_rfl) (by kernel_rfl) (by kernel_rfl) (fun _ _ _ h => h) (Or.inl ⟨by rfl, ?_⟩) ?_; rotate_left; (intro w hw; clear hw; (try go_split_ands); go_simp; try (with_reducible rfl)); simp only [Act.put, List.setIfInBounds_toArray, List.set_cons_zero, List.set_cons_succ])
          (refine Walk.take (i := 6) (oi := { dst := some 29, op := Op.extract (Operand.tmp 23) 1, type := 51, pos := "law.go:65", after := #[{ on := 4, ground := Ground.data }, { on := 9, ground := Ground.gcOnly Departure.lateStores }], guard := none }) (v := ?_) rfl (by kernel_rfl) (by kernel_rfl) (by kernel_rfl) (by kernel_rfl) (fun _ _ _ h => h) (Or.inl ⟨by rfl, ?_⟩) ?_; rotate_left; (intro w hw; clear hw; (try go_split_ands); go_simp; try (with_reducible rfl)); simp only [Act.put, List.setIfInBounds_toArray, List.set_cons_zero, List.set_cons_succ])
          (refine Walk.go (i := 8) (o := { dst := some 10, op := Op.alloc 51, type := 0, pos := "law.go:65", after := #[], guard := none }) (by kernel_rfl) rfl (fun K hK => ?_); go_simp; (replace kk := kk.made 51 [.int .i64 0]); refine hK.out _ _ (⟨fun _ => (kk.get (b := w.heap.size) (t := 25) (c := tbl c pv) (by simp)).all, fun _ => trivial⟩) ?_; clear hK K; try simp only [Act.put, List.setIfInBounds_toArray, List.set_cons_zero, List.set_cons_succ])
          revert kk
          obtain ⟨NB, hNB⟩ : ∃ n, z2.heap.size = n := ⟨_, rfl⟩
          rw [hNB]
          clear hNB
          generalize z2.alloc (.cells [.int .i64 0].toArray 51) = V6
          intro kk
          replace kk := kk.swap
          have q0 := kk.head.at 0
          have f0 := kk.head.frozen 0
          simp only [List.getElem?_cons_zero] at q0
          (refine Walk.go (i := 9) (o := { dst := none, op := Op.store 51 (Operand.tmp 9) (Operand.tmp 28), type := 0, pos := "law.go:65", after := #[{ on := 7, ground := Ground.data }, { on := 5, ground := Ground.data }, { on := 3, ground := Ground.chain }, { on := 0, ground := Ground.phase }, { on := 1, ground := Ground.phase }, { on := 2, ground := Ground.phase }, { on := 3, ground := Ground.phase }, { on := 4, ground := Ground.phase }, { on := 5, ground := Ground.phase }, { on := 6, ground := Ground.textOnly Departure.lateStores }, { on := 7, ground := Ground.phase }, { on := 8, ground := Ground.phase }], guard := none }) (by kernel_rfl) rfl (fun K hK => ?_); go_simp; (replace kk := kk.set 0 (.int .i64 v0); clear q0 f0); refine hK.out _ _ (⟨fun _ => (kk.get (b := w.heap.size) (t := 25) (c := tbl c pv) (by simp)).all, fun _ => trivial⟩) ?_; clear hK K; try simp only [Act.put, List.setIfInBounds_toArray, List.set_cons_zero, List.set_cons_succ])
          revert kk
          generalize V6.setCell ⟨NA, 0, none⟩ (.int .i64 v0) = U9
          intro kk
          replace kk := kk.swap
          have q0 := kk.head.at 0
          have f0 := kk.head.frozen 0
          simp only [List.getElem?_cons_zero] at q0
          (refine Walk.go (i := 10) (o := { dst := none, op := Op.store 51 (Operand.tmp 10) (Operand.tmp 29), type := 0, pos := "law.go:65", after := #[{ on := 8, ground := Ground.data }, { on := 6, ground := Ground.data }, { on := 9, ground := Ground.chain }, { on := 0, ground := Ground.phase }, { on := 1, ground := Ground.phase }, { on := 2, ground := Ground.phase }, { on := 3, ground := Ground.phase }, { on := 4, ground := Ground.phase }, { on := 5, ground := Ground.phase }, { on := 6, ground := Ground.phase }, { on := 7, ground := Ground.phase }, { on := 8, ground := Ground.phase }, { on := 9, ground := Ground.phase }], guard := none }) (by kernel_rfl) rfl (fun K hK => ?_); go_simp; (replace kk := kk.set 0 (.int .i64 n0); clear q0 f0); refine hK.out _ _ (⟨fun _ => (kk.get (b := w.heap.size) (t := 25) (c := tbl c pv) (by simp)).all, fun _ => trivial⟩) ?_; clear hK K; try simp only [Act.put, List.setIfInBounds_toArray, List.set_cons_zero, List.set_cons_succ])
          refine Walk.done (by kernel_rfl) ?_ _
          go_wp2_with fail
          go_meet
          case rel => exact ⟨_, _, rfl, rfl, kk.swap⟩
        · go_simp; (replace kk := kk.made 51 [.int .i64 0]); refine hK.out _ _ (⟨fun _ => (kk.get (b := w.heap.size) (t := 25) (c := tbl c pv) (by simp)).all, fun _ => trivial⟩) ?_; clear hK K; try simp only [Act.put, List.setIfInBounds_toArray, List.set_cons_zero, List.set_cons_succ]
          revert kk
          obtain ⟨NB, hNB⟩ : ∃ n, V5.heap.size = n := ⟨_, rfl⟩
          rw [hNB]
          clear hNB
          generalize V5.alloc (.cells [.int .i64 0].toArray 51) = V7
          intro kk
          (refine Walk.go (i := 3) (o := { dst := some 27, op := Op.call { callee := Callee.value (Operand.func 24), args := #[Operand.tmp 24, Operand.tmp 26], argTypes := #[25, 51] }, type := 52, pos := "law.go:65", after := #[{ on := 0, ground := Ground.data }, { on := 2, ground := Ground.data }, { on := 2, ground := Ground.chain }], guard := none }) (by kernel_rfl) rfl (fun K hK => ?_); go_simp; ((go_at_call 24; refine (h4 c pv l b hb hI _ (HV.out.but kk.but) hx hl (hT _ _ HT.out kk.but)).mono ?_; rintro e z2 ⟨v3, n3, rfl, hf3, dd⟩; obtain ⟨rfl, rfl⟩ := finds_one HF.out hf3; clear hf3; replace kk := kk.step dd; clear dd)); refine hK.out _ _ (⟨fun _ => (kk.get (b := w.heap.size) (t := 25) (c := tbl c pv) (by simp)).all, fun _ => trivial⟩) ?_; clear hK K; try simp only [Act.put, List.setIfInBounds_toArray, List.set_cons_zero, List.set_cons_succ])
          (refine Walk.take (i := 4) (oi := { dst := some 23, op := Op.move (Operand.tmp 27), type := 52, pos := "law.go:65", after := #[{ on := 3, ground := Ground.data }], guard := none }) (v := ?_) rfl (by kernel_rfl) (by kernel_rfl) (by kernel_rfl) (by kernel_rfl) (fun _ _ _ h => h) (Or.inl ⟨by rfl, ?_⟩) ?_; rotate_left; (intro w hw; clear hw; (try go_split_ands); go_simp; try (with_reducible rfl)); simp only [Act.put, List.setIfInBounds_toArray, List.set_cons_zero, List.set_cons_succ])
          (refine Walk.take (i := 5) (oi := { dst := some 28, op := Op.extract (Operand.tmp 23) 0, type := 51, pos := "law.go:65", after := #[{ on := 4, ground := Ground.data }], guard := none }) (v := ?_) rfl (by kernel_rfl) (by kernel_rfl) (by kernel_rfl) (by kernel_rfl) (fun _ _ _ h => h) (Or.inl ⟨by rfl, ?_⟩) ?_; rotate_left; (intro w hw; clear hw; (try go_split_ands); go_simp; try (with_reducible rfl)); simp only [Act.put, List.setIfInBounds_toArray, List.set_cons_zero, List.set_cons_succ])
          (refine Walk.take (i := 6) (oi := { dst := some 29, op := Op.extract (Operand.tmp 23) 1, type := 51, pos := "law.go:65", after := #[{ on := 4, ground := Ground.data }, { on := 9, ground := Ground.gcOnly Departure.lateStores }], guard := none }) (v := ?_) rfl (by kernel_rfl) (by kernel_rfl) (by kernel_rfl) (by kernel_rfl) (fun _ _ _ h => h) (Or.inl ⟨by rfl, ?_⟩) ?_; rotate_left; (intro w hw; clear hw; (try go_split_ands); go_simp; try (with_reducible rfl)); simp only [Act.put, List.setIfInBounds_toArray, List.set_cons_zero, List.set_cons_succ])
          replace kk := kk.swap
          have q0 := kk.head.at 0
          have f0 := kk.head.frozen 0
          simp only [List.getElem?_cons_zero] at q0
          (refine Walk.go (i := 9) (o := { dst := none, op := Op.store 51 (Operand.tmp 9) (Operand.tmp 28), type := 0, pos := "law.go:65", after := #[{ on := 7, ground := Ground.data }, { on := 5, ground := Ground.data }, { on := 3, ground := Ground.chain }, { on := 0, ground := Ground.phase }, { on := 1, ground := Ground.phase }, { on := 2, ground := Ground.phase }, { on := 3, ground := Ground.phase }, { on := 4, ground := Ground.phase }, { on := 5, ground := Ground.phase }, { on := 6, ground := Ground.textOnly Departure.lateStores }, { on := 7, ground := Ground.phase }, { on := 8, ground := Ground.phase }], guard := none }) (by kernel_rfl) rfl (fun K hK => ?_); go_simp; (replace kk := kk.set 0 (.int .i64 v0); clear q0 f0); refine hK.out _ _ (⟨fun _ => (kk.get (b := w.heap.size) (t := 25) (c := tbl c pv) (by simp)).all, fun _ => trivial⟩) ?_; clear hK K; try simp only [Act.put, List.setIfInBounds_toArray, List.set_cons_zero, List.set_cons_succ])
          revert kk
          generalize z2.setCell ⟨NA, 0, none⟩ (.int .i64 v0) = U9
          intro kk
          replace kk := kk.swap
          have q0 := kk.head.at 0
          have f0 := kk.head.frozen 0
          simp only [List.getElem?_cons_zero] at q0
          (refine Walk.go (i := 10) (o := { dst := none, op := Op.store 51 (Operand.tmp 10) (Operand.tmp 29), type := 0, pos := "law.go:65", after := #[{ on := 8, ground := Ground.data }, { on := 6, ground := Ground.data }, { on := 9, ground := Ground.chain }, { on := 0, ground := Ground.phase }, { on := 1, ground := Ground.phase }, { on := 2, ground := Ground.phase }, { on := 3, ground := Ground.phase }, { on := 4, ground := Ground.phase }, { on := 5, ground := Ground.phase }, { on := 6, ground := Ground.phase }, { on := 7, ground := Ground.phase }, { on := 8, ground := Ground.phase }, { on := 9, ground := Ground.phase }], guard := none }) (by kernel_rfl) rfl (fun K hK => ?_); go_simp; (replace kk := kk.set 0 (.int .i64 n0); clear q0 f0); refine hK.out _ _ (⟨fun _ => (kk.get (b := w.heap.size) (t := 25) (c := tbl c pv) (by simp)).all, fun _ => trivial⟩) ?_; clear hK K; try simp only [Act.put, List.setIfInBounds_toArray, List.set_cons_zero, List.set_cons_succ])
          refine Walk.done (by kernel_rfl) ?_ _
          go_wp2_with fail
          go_meet
          case rel => exact ⟨_, _, rfl, rfl, kk.swap⟩
      · go_simp; (replace kk := kk.made 51 [.int .i64 0]); refine hK.out _ _ (⟨fun _ => (kk.get (b := w.heap.size) (t := 25) (c := tbl c pv) (by simp)).all, fun _ => trivial⟩) ?_; clear hK K; try simp only [Act.put, List.setIfInBounds_toArray, List.set_cons_zero, List.set_cons_succ]
        revert kk
        obtain ⟨NB, hNB⟩ : ∃ n, z1.heap.size = n := ⟨_, rfl⟩
        rw [hNB]
        clear hNB
        generalize z1.alloc (.cells [.int .i64 0].toArray 51) = V8
        intro kk
        refine Walk.both (i := 3) (j := 7) (oi := { dst := some 27, op := Op.call { callee := Callee.value (Operand.func 24), args := #[Operand.tmp 24, Operand.tmp 26], argTypes := #[25, 51] }, type := 52, pos := "law.go:65", after := #[{ on := 0, ground := Ground.data }, { on := 2, ground := Ground.data }, { on := 2, ground := Ground.chain }], guard := none }) (oj := { dst := some 9, op := Op.alloc 51, type := 0, pos := "law.go:65", after := #[], guard := none }) (by kernel_rfl) rfl rfl (fun K hK => ?_) (fun K hK => ?_)
        · go_simp; ((go_at_call 24; refine (h4 c pv l b hb hI _ (HV.out.but kk.but) hx hl (hT _ _ HT.out kk.but)).mono ?_; rintro e z2 ⟨v3, n3, rfl, hf3, dd⟩; obtain ⟨rfl, rfl⟩ := finds_one HF.out hf3; clear hf3; replace kk := kk.step dd; clear dd)); refine hK.out _ _ (⟨fun _ => (kk.get (b := w.heap.size) (t := 25) (c := tbl c pv) (by simp)).all, fun _ => trivial⟩) ?_; clear hK K; try simp only [Act.put, List.setIfInBounds_toArray, List.set_cons_zero, List.set_cons_succ]
          (refine Walk.take (i := 4) (oi := { dst := some 23, op := Op.move (Operand.tmp 27), type := 52, pos := "law.go:65", after := #[{ on := 3, ground := Ground.data }], guard := none }) (v := ?_) rfl (by kernel_rfl) (by kernel_rfl) (by kernel_rfl) (by kernel_rfl) (fun _ _ _ h => h) (Or.inl ⟨by rfl, ?_⟩) ?_; rotate_left; (intro w hw; clear hw; (try go_split_ands); go_simp; try (with_reducible rfl)); simp only [Act.put, List.setIfInBounds_toArray, List.set_cons_zero, List.set_cons_succ])
          (refine Walk.take (i := 5) (oi := { dst := some 28, op := Op.extract (Operand.tmp 23) 0, type := 51, pos := "law.go:65", after := #[{ on := 4, ground := Ground.data }], guard := none }) (v := ?_) rfl (by kernel_rfl) (by kernel_rfl) (by kernel_rfl) (by kernel_rfl) (fun _ _ _ h => h) (Or.inl ⟨by rfl, ?_⟩) ?_; rotate_left; (intro w hw; clear hw; (try go_split_ands); go_simp; try (with_reducible rfl)); simp only [Act.put, List.setIfInBounds_toArray, List.set_cons_zero, List.set_cons_succ])
          (refine Walk.take (i := 6) (oi := { dst := some 29, op := Op.extract (Operand.tmp 23) 1, type := 51, pos := "law.go:65", after := #[{ on := 4, ground := Ground.data }, { on := 9, ground := Ground.gcOnly Departure.lateStores }], guard := none }) (v := ?_) rfl (by kernel_rfl) (by kernel_rfl) (by kernel_rfl) (by kernel_rfl) (fun _ _ _ h => h) (Or.inl ⟨by rfl, ?_⟩) ?_; rotate_left; (intro w hw; clear hw; (try go_split_ands); go_simp; try (with_reducible rfl)); simp only [Act.put, List.setIfInBounds_toArray, List.set_cons_zero, List.set_cons_succ])
          (refine Walk.go (i := 7) (o := { dst := some 9, op := Op.alloc 51, type := 0, pos := "law.go:65", after := #[], guard := none }) (by kernel_rfl) rfl (fun K hK => ?_); go_simp; (replace kk := kk.made 51 [.int .i64 0]); refine hK.out _ _ (⟨fun _ => (kk.get (b := w.heap.size) (t := 25) (c := tbl c pv) (by simp)).all, fun _ => trivial⟩) ?_; clear hK K; try simp only [Act.put, List.setIfInBounds_toArray, List.set_cons_zero, List.set_cons_succ])
          revert kk
          obtain ⟨NA, hNA⟩ : ∃ n, z2.heap.size = n := ⟨_, rfl⟩
          rw [hNA]
          clear hNA
          generalize z2.alloc (.cells [.int .i64 0].toArray 51) = V9
          intro kk
          have q0 := kk.head.at 0
          have f0 := kk.head.frozen 0
          simp only [List.getElem?_cons_zero] at q0
          (refine Walk.go (i := 9) (o := { dst := none, op := Op.store 51 (Operand.tmp 9) (Operand.tmp 28), type := 0, pos := "law.go:65", after := #[{ on := 7, ground := Ground.data }, { on := 5, ground := Ground.data }, { on := 3, ground := Ground.chain }, { on := 0, ground := Ground.phase }, { on := 1, ground := Ground.phase }, { on := 2, ground := Ground.phase }, { on := 3, ground := Ground.phase }, { on := 4, ground := Ground.phase }, { on := 5, ground := Ground.phase }, { on := 6, ground := Ground.textOnly Departure.lateStores }, { on := 7, ground := Ground.phase }, { on := 8, ground := Ground.phase }], guard := none }) (by kernel_rfl) rfl (fun K hK => ?_); go_simp; (replace kk := kk.set 0 (.int .i64 v0); clear q0 f0); refine hK.out _ _ (⟨fun _ => (kk.get (b := w.heap.size) (t := 25) (c := tbl c pv) (by simp)).all, fun _ => trivial⟩) ?_; clear hK K; try simp only [Act.put, List.setIfInBounds_toArray, List.set_cons_zero, List.set_cons_succ])
          revert kk
          generalize V9.setCell ⟨NA, 0, none⟩ (.int .i64 v0) = U9
          intro kk
          replace kk := kk.swap
          have q0 := kk.head.at 0
          have f0 := kk.head.frozen 0
          simp only [List.getElem?_cons_zero] at q0
          (refine Walk.go (i := 10) (o := { dst := none, op := Op.store 51 (Operand.tmp 10) (Operand.tmp 29), type := 0, pos := "law.go:65", after := #[{ on := 8, ground := Ground.data }, { on := 6, ground := Ground.data }, { on := 9, ground := Ground.chain }, { on := 0, ground := Ground.phase }, { on := 1, ground := Ground.phase }, { on := 2, ground := Ground.phase }, { on := 3, ground := Ground.phase }, { on := 4, ground := Ground.phase }, { on := 5, ground := Ground.phase }, { on := 6, ground := Ground.phase }, { on := 7, ground := Ground.phase }, { on := 8, ground := Ground.phase }, { on := 9, ground := Ground.phase }], guard := none }) (by kernel_rfl) rfl (fun K hK => ?_); go_simp; (replace kk := kk.set 0 (.int .i64 n0); clear q0 f0); refine hK.out _ _ (⟨fun _ => (kk.get (b := w.heap.size) (t := 25) (c := tbl c pv) (by simp)).all, fun _ => trivial⟩) ?_; clear hK K; try simp only [Act.put, List.setIfInBounds_toArray, List.set_cons_zero, List.set_cons_succ])
          refine Walk.done (by kernel_rfl) ?_ _
          go_wp2_with fail
          go_meet
          case rel => exact ⟨_, _, rfl, rfl, kk.swap⟩
        · go_simp; (replace kk := kk.made 51 [.int .i64 0]); refine hK.out _ _ (⟨fun _ => (kk.get (b := w.heap.size) (t := 25) (c := tbl c pv) (by simp)).all, fun _ => trivial⟩) ?_; clear hK K; try simp only [Act.put, List.setIfInBounds_toArray, List.set_cons_zero, List.set_cons_succ]
          revert kk
          obtain ⟨NA, hNA⟩ : ∃ n, V8.heap.size = n := ⟨_, rfl⟩
          rw [hNA]
          clear hNA
          generalize V8.alloc (.cells [.int .i64 0].toArray 51) = V10
          intro kk
          (refine Walk.go (i := 3) (o := { dst := some 27, op := Op.call { callee := Callee.value (Operand.func 24), args := #[Operand.tmp 24, Operand.tmp 26], argTypes := #[25, 51] }, type := 52, pos := "law.go:65", after := #[{ on := 0, ground := Ground.data }, { on := 2, ground := Ground.data }, { on := 2, ground := Ground.chain }], guard := none }) (by kernel_rfl) rfl (fun K hK => ?_); go_simp; ((go_at_call 24; refine (h4 c pv l b hb hI _ (HV.out.but kk.but) hx hl (hT _ _ HT.out kk.but)).mono ?_; rintro e z2 ⟨v3, n3, rfl, hf3, dd⟩; obtain ⟨rfl, rfl⟩ := finds_one HF.out hf3; clear hf3; replace kk := kk.step dd; clear dd)); refine hK.out _ _ (⟨fun _ => (kk.get (b := w.heap.size) (t := 25) (c := tbl c pv) (by simp)).all, fun _ => trivial⟩) ?_; clear hK K; try simp only [Act.put, List.setIfInBounds_toArray, List.set_cons_zero, List.set_cons_succ])
          (refine Walk.take (i := 4) (oi := { dst := some 23, op := Op.move (Operand.tmp 27), type := 52, pos := "law.go:65", after := #[{ on := 3, ground := Ground.data }], guard := none }) (v := ?_) rfl (by kernel_rfl) (by kernel_rfl) (by kernel_rfl) (by kernel_rfl) (fun _ _ _ h => h) (Or.inl ⟨by rfl, ?_⟩) ?_; rotate_left; (intro w hw; clear hw; (try go_split_ands); go_simp; try (with_reducible rfl)); simp only [Act.put, List.setIfInBounds_toArray, List.set_cons_zero, List.set_cons_succ])
          (refine Walk.take (i := 5) (oi := { dst := some 28, op := Op.extract (Operand.tmp 23) 0, type := 51, pos := "law.go:65", after := #[{ on := 4, ground := Ground.data }], guard := none }) (v := ?_) rfl (by kernel_rfl) (by kernel_rfl) (by kernel_rfl) (by kernel_rfl) (fun _ _ _ h => h) (Or.inl ⟨by rfl, ?_⟩) ?_; rotate_left; (intro w hw; clear hw; (try go_split_ands); go_simp; try (with_reducible rfl)); simp only [Act.put, List.setIfInBounds_toArray, List.set_cons_zero, List.set_cons_succ])
          (refine Walk.take (i := 6) (oi := { dst := some 29, op := Op.extract (Operand.tmp 23) 1, type := 51, pos := "law.go:65", after := #[{ on := 4, ground := Ground.data }, { on := 9, ground := Ground.gcOnly Departure.lateStores }], guard := none }) (v := ?_) rfl (by kernel_rfl) (by kernel_rfl) (by kernel_rfl) (by kernel_rfl) (fun _ _ _ h => h) (Or.inl ⟨by rfl, ?_⟩) ?_; rotate_left; (intro w hw; clear hw; (try go_split_ands); go_simp; try (with_reducible rfl)); simp only [Act.put, List.setIfInBounds_toArray, List.set_cons_zero, List.set_cons_succ])
          have q0 := kk.head.at 0
          have f0 := kk.head.frozen 0
          simp only [List.getElem?_cons_zero] at q0
          (refine Walk.go (i := 9) (o := { dst := none, op := Op.store 51 (Operand.tmp 9) (Operand.tmp 28), type := 0, pos := "law.go:65", after := #[{ on := 7, ground := Ground.data }, { on := 5, ground := Ground.data }, { on := 3, ground := Ground.chain }, { on := 0, ground := Ground.phase }, { on := 1, ground := Ground.phase }, { on := 2, ground := Ground.phase }, { on := 3, ground := Ground.phase }, { on := 4, ground := Ground.phase }, { on := 5, ground := Ground.phase }, { on := 6, ground := Ground.textOnly Departure.lateStores }, { on := 7, ground := Ground.phase }, { on := 8, ground := Ground.phase }], guard := none }) (by kernel_rfl) rfl (fun K hK => ?_); go_simp; (replace kk := kk.set 0 (.int .i64 v0); clear q0 f0); refine hK.out _ _ (⟨fun _ => (kk.get (b := w.heap.size) (t := 25) (c := tbl c pv) (by simp)).all, fun _ => trivial⟩) ?_; clear hK K; try simp only [Act.put, List.setIfInBounds_toArray, List.set_cons_zero, List.set_cons_succ])
          revert kk
          generalize z2.setCell ⟨NA, 0, none⟩ (.int .i64 v0) = U9
          intro kk
          replace kk := kk.swap
          have q0 := kk.head.at 0
          have f0 := kk.head.frozen 0
          simp only [List.getElem?_cons_zero] at q0
          (refine Walk.go (i := 10) (o := { dst := none, op := Op.store 51 (Operand.tmp 10) (Operand.tmp 29), type := 0, pos := "law.go:65", after := #[{ on := 8, ground := Ground.data }, { on := 6, ground := Ground.data }, { on := 9, ground := Ground.chain }, { on := 0, ground := Ground.phase }, { on := 1, ground := Ground.phase }, { on := 2, ground := Ground.phase }, { on := 3, ground := Ground.phase }, { on := 4, ground := Ground.phase }, { on := 5, ground := Ground.phase }, { on := 6, ground := Ground.phase }, { on := 7, ground := Ground.phase }, { on := 8, ground := Ground.phase }, { on := 9, ground := Ground.phase }], guard := none }) (by kernel_rfl) rfl (fun K hK => ?_); go_simp; (replace kk := kk.set 0 (.int .i64 n0); clear q0 f0); refine hK.out _ _ (⟨fun _ => (kk.get (b := w.heap.size) (t := 25) (c := tbl c pv) (by simp)).all, fun _ => trivial⟩) ?_; clear hK K; try simp only [Act.put, List.setIfInBounds_toArray, List.set_cons_zero, List.set_cons_succ])
          refine Walk.done (by kernel_rfl) ?_ _
          go_wp2_with fail
          go_meet
          case rel => exact ⟨_, _, rfl, rfl, kk.swap⟩
    · go_simp; (replace kk := kk.made 51 [.int .i64 0]); refine hK.out _ _ (⟨fun _ => (kk.get (b := w.heap.size) (t := 25) (c := tbl c pv) (by simp)).all, fun _ => trivial⟩) ?_; clear hK K; try simp only [Act.put, List.setIfInBounds_toArray, List.set_cons_zero, List.set_cons_succ]
      revert kk
      obtain ⟨NA, hNA⟩ : ∃ n, WG.heap.size = n := ⟨_, rfl⟩
      rw [hNA]
      clear hNA
      generalize WG.alloc (.cells [.int .i64 0].toArray 51) = V11
      intro kk
      refine Walk.both (i := 2) (j := 8) (oi := { dst := some 26, op := Op.call { callee := Callee.value (Operand.func 25), args := #[Operand.tmp 25], argTypes := #[3] }, type := 51, pos := "law.go:65", after := #[{ on := 1, ground := Ground.data }], guard := none }) (oj := { dst := some 10, op := Op.alloc 51, type := 0, pos := "law.go:65", after := #[], guard := none }) (by kernel_rfl) rfl rfl (fun K hK => ?_) (fun K hK => ?_)
      · go_simp; ((go_at_call 25; refine (of_any b _).mono ?_; rintro e z1 ⟨rfl, dd⟩; replace kk := kk.step dd; clear dd)); refine hK.out _ _ (⟨fun _ => (kk.get (b := w.heap.size) (t := 25) (c := tbl c pv) (by simp)).all, fun _ => trivial⟩) ?_; clear hK K; try simp only [Act.put, List.setIfInBounds_toArray, List.set_cons_zero, List.set_cons_succ]
        refine Walk.both (i := 3) (j := 8) (oi := { dst := some 27, op := Op.call { callee := Callee.value (Operand.func 24), args := #[Operand.tmp 24, Operand.tmp 26], argTypes := #[25, 51] }, type := 52, pos := "law.go:65", after := #[{ on := 0, ground := Ground.data }, { on := 2, ground := Ground.data }, { on := 2, ground := Ground.chain }], guard := none }) (oj := { dst := some 10, op := Op.alloc 51, type := 0, pos := "law.go:65", after := #[], guard := none }) (by kernel_rfl) rfl rfl (fun K hK => ?_) (fun K hK => ?_)
        · go_simp; ((go_at_call 24; refine (h4 c pv l b hb hI _ (HV.out.but kk.but) hx hl (hT _ _ HT.out kk.but)).mono ?_; rintro e z2 ⟨v3, n3, rfl, hf3, dd⟩; obtain ⟨rfl, rfl⟩ := finds_one HF.out hf3; clear hf3; replace kk := kk.step dd; clear dd)); refine hK.out _ _ (⟨fun _ => (kk.get (b := w.heap.size) (t := 25) (c := tbl c pv) (by simp)).all, fun _ => trivial⟩) ?_; clear hK K; try simp only [Act.put, List.setIfInBounds_toArray, List.set_cons_zero, List.set_cons_succ]
          (refine Walk.take (i := 4) (oi := { dst := some 23, op := Op.move (Operand.tmp 27), type := 52, pos := "law.go:65", after := #[{ on := 3, ground := Ground.data }], guard := none }) (v := ?_) rfl (by kernel_rfl) (by kernel_rfl) (by kernel_rfl) (by kernel_rfl) (fun _ _ _ h => h) (Or.inl ⟨by rfl, ?_⟩) ?_; rotate_left; (intro w hw; clear hw; (try go_split_ands); go_simp; try (with_reducible rfl)); simp only [Act.put, List.setIfInBounds_toArray, List.set_cons_zero, List.set_cons_succ])
          (refine Walk.take (i := 5) (oi := { dst := some 28, op := Op.extract (Operand.tmp 23) 0, type := 51, pos := "law.go:65", after := #[{ on := 4, ground := Ground.data }], guard := none }) (v := ?_) rfl (by kernel_rfl) (by kernel_rfl) (by kernel_rfl) (by kernel_rfl) (fun _ _ _ h => h) (Or.inl ⟨by rfl, ?_⟩) ?_; rotate_left; (intro w hw; clear hw; (try go_split_ands); go_simp; try (with_reducible rfl)); simp only [Act.put, List.setIfInBounds_toArray, List.set_cons_zero, List.set_cons_succ])
          (refine Walk.take (i := 6) (oi := { dst := some 29, op := Op.extract (Operand.tmp 23) 1, type := 51, pos := "law.go:65", after := #[{ on := 4, ground := Ground.data }, { on := 9, ground := Ground.gcOnly Departure.lateStores }], guard := none }) (v := ?_) rfl (by kernel_rfl) (by kernel_rfl) (by kernel_rfl) (by kernel_rfl) (fun _ _ _ h => h) (Or.inl ⟨by rfl, ?_⟩) ?_; rotate_left; (intro w hw; clear hw; (try go_split_ands); go_simp; try (with_reducible rfl)); simp only [Act.put, List.setIfInBounds_toArray, List.set_cons_zero, List.set_cons_succ])
          (refine Walk.go (i := 8) (o := { dst := some 10, op := Op.alloc 51, type := 0, pos := "law.go:65", after := #[], guard := none }) (by kernel_rfl) rfl (fun K hK => ?_); go_simp; (replace kk := kk.made 51 [.int .i64 0]); refine hK.out _ _ (⟨fun _ => (kk.get (b := w.heap.size) (t := 25) (c := tbl c pv) (by simp)).all, fun _ => trivial⟩) ?_; clear hK K; try simp only [Act.put, List.setIfInBounds_toArray, List.set_cons_zero, List.set_cons_succ])
          revert kk
          obtain ⟨NB, hNB⟩ : ∃ n, z2.heap.size = n := ⟨_, rfl⟩
          rw [hNB]
          clear hNB
          generalize z2.alloc (.cells [.int .i64 0].toArray 51) = V12
          intro kk
          replace kk := kk.swap
          have q0 := kk.head.at 0
          have f0 := kk.head.frozen 0
          simp only [List.getElem?_cons_zero] at q0
          (refine Walk.go (i := 9) (o := { dst := none, op := Op.store 51 (Operand.tmp 9) (Operand.tmp 28), type := 0, pos := "law.go:65", after := #[{ on := 7, ground := Ground.data }, { on := 5, ground := Ground.data }, { on := 3, ground := Ground.chain }, { on := 0, ground := Ground.phase }, { on := 1, ground := Ground.phase }, { on := 2, ground := Ground.phase }, { on := 3, ground := Ground.phase }, { on := 4, ground := Ground.phase }, { on := 5, ground := Ground.phase }, { on := 6, ground := Ground.textOnly Departure.lateStores }, { on := 7, ground := Ground.phase }, { on := 8, ground := Ground.phase }], guard := none }) (by kernel_rfl) rfl (fun K hK => ?_); go_simp; (replace kk := kk.set 0 (.int .i64 v0); clear q0 f0); refine hK.out _ _ (⟨fun _ => (kk.get (b := w.heap.size) (t := 25) (c := tbl c pv) (by simp)).all, fun _ => trivial⟩) ?_; clear hK K; try simp only [Act.put, List.setIfInBounds_toArray, List.set_cons_zero, List.set_cons_succ])
          revert kk
          generalize V12.setCell ⟨NA, 0, none⟩ (.int .i64 v0) = U9
          intro kk
          replace kk := kk.swap
          have q0 := kk.head.at 0
          have f0 := kk.head.frozen 0
          simp only [List.getElem?_cons_zero] at q0
          (refine Walk.go (i := 10) (o := { dst := none, op := Op.store 51 (Operand.tmp 10) (Operand.tmp 29), type := 0, pos := "law.go:65", after := #[{ on := 8, ground := Ground.data }, { on := 6, ground := Ground.data }, { on := 9, ground := Ground.chain }, { on := 0, ground := Ground.phase }, { on := 1, ground := Ground.phase }, { on := 2, ground := Ground.phase }, { on := 3, ground := Ground.phase }, { on := 4, ground := Ground.phase }, { on := 5, ground := Ground.phase }, { on := 6, ground := Ground.phase }, { on := 7, ground := Ground.phase }, { on := 8, ground := Ground.phase }, { on := 9, ground := Ground.phase }], guard := none }) (by kernel_rfl) rfl (fun K hK => ?_); go_simp; (replace kk := kk.set 0 (.int .i64 n0); clear q0 f0); refine hK.out _ _ (⟨fun _ => (kk.get (b := w.heap.size) (t := 25) (c := tbl c pv) (by simp)).all, fun _ => trivial⟩) ?_; clear hK K; try simp only [Act.put, List.setIfInBounds_toArray, List.set_cons_zero, List.set_cons_succ])
          refine Walk.done (by kernel_rfl) ?_ _
          go_wp2_with fail
          go_meet
          case rel => exact ⟨_, _, rfl, rfl, kk.swap⟩
        · go_simp; (replace kk := kk.made 51 [.int .i64 0]); refine hK.out _ _ (⟨fun _ => (kk.get (b := w.heap.size) (t := 25) (c := tbl c pv) (by simp)).all, fun _ => trivial⟩) ?_; clear hK K; try simp only [Act.put, List.setIfInBounds_toArray, List.set_cons_zero, List.set_cons_succ]
          revert kk
          obtain ⟨NB, hNB⟩ : ∃ n, z1.heap.size = n := ⟨_, rfl⟩
          rw [hNB]
          clear hNB
          generalize z1.alloc (.cells [.int .i64 0].toArray 51) = V13
          intro kk
          (refine Walk.go (i := 3) (o := { dst := some 27, op := Op.call { callee := Callee.value (Operand.func 24), args := #[Operand.tmp 24, Operand.tmp 26], argTypes := #[25, 51] }, type := 52, pos := "law.go:65", after := #[{ on := 0, ground := Ground.data }, { on := 2, ground := Ground.data }, { on := 2, ground := Ground.chain }], guard := none }) (by kernel_rfl) rfl (fun K hK => ?_); go_simp; ((go_at_call 24; refine (h4 c pv l b hb hI _ (HV.out.but kk.but) hx hl (hT _ _ HT.out kk.but)).mono ?_; rintro e z2 ⟨v3, n3, rfl, hf3, dd⟩; obtain ⟨rfl, rfl⟩ := finds_one HF.out hf3; clear hf3; replace kk := kk.step dd; clear dd)); refine hK.out _ _ (⟨fun _ => (kk.get (b := w.heap.size) (t := 25) (c := tbl c pv) (by simp)).all, fun _ => trivial⟩) ?_; clear hK K; try simp only [Act.put, List.setIfInBounds_toArray, List.set_cons_zero, List.set_cons_succ])
          (refine Walk.take (i := 4) (oi := { dst := some 23, op := Op.move (Operand.tmp 27), type := 52, pos := "law.go:65", after := #[{ on := 3, ground := Ground.data }], guard := none }) (v := ?_) rfl (by kernel_rfl) (by kernel_rfl) (by kernel_rfl) (by kernel_rfl) (fun _ _ _ h => h) (Or.inl ⟨by rfl, ?_⟩) ?_; rotate_left; (intro w hw; clear hw; (try go_split_ands); go_simp; try (with_reducible rfl)); simp only [Act.put, List.setIfInBounds_toArray, List.set_cons_zero, List.set_cons_succ])
          (refine Walk.take (i := 5) (oi := { dst := some 28, op := Op.extract (Operand.tmp 23) 0, type := 51, pos := "law.go:65", after := #[{ on := 4, ground := Ground.data }], guard := none }) (v := ?_) rfl (by kernel_rfl) (by kernel_rfl) (by kernel_rfl) (by kernel_rfl) (fun _ _ _ h => h) (Or.inl ⟨by rfl, ?_⟩) ?_; rotate_left; (intro w hw; clear hw; (try go_split_ands); go_simp; try (with_reducible rfl)); simp only [Act.put, List.setIfInBounds_toArray, List.set_cons_zero, List.set_cons_succ])
          (refine Walk.take (i := 6) (oi := { dst := some 29, op := Op.extract (Operand.tmp 23) 1, type := 51, pos := "law.go:65", after := #[{ on := 4, ground := Ground.data }, { on := 9, ground := Ground.gcOnly Departure.lateStores }], guard := none }) (v := ?_) rfl (by kernel_rfl) (by kernel_rfl) (by kernel_rfl) (by kernel_rfl) (fun _ _ _ h => h) (Or.inl ⟨by rfl, ?_⟩) ?_; rotate_left; (intro w hw; clear hw; (try go_split_ands); go_simp; try (with_reducible rfl)); simp only [Act.put, List.setIfInBounds_toArray, List.set_cons_zero, List.set_cons_succ])
          replace kk := kk.swap
          have q0 := kk.head.at 0
          have f0 := kk.head.frozen 0
          simp only [List.getElem?_cons_zero] at q0
          (refine Walk.go (i := 9) (o := { dst := none, op := Op.store 51 (Operand.tmp 9) (Operand.tmp 28), type := 0, pos := "law.go:65", after := #[{ on := 7, ground := Ground.data }, { on := 5, ground := Ground.data }, { on := 3, ground := Ground.chain }, { on := 0, ground := Ground.phase }, { on := 1, ground := Ground.phase }, { on := 2, ground := Ground.phase }, { on := 3, ground := Ground.phase }, { on := 4, ground := Ground.phase }, { on := 5, ground := Ground.phase }, { on := 6, ground := Ground.textOnly Departure.lateStores }, { on := 7, ground := Ground.phase }, { on := 8, ground := Ground.phase }], guard := none }) (by kernel_rfl) rfl (fun K hK => ?_); go_simp; (replace kk := kk.set 0 (.int .i64 v0); clear q0 f0); refine hK.out _ _ (⟨fun _ => (kk.get (b := w.heap.size) (t := 25) (c := tbl c pv) (by simp)).all, fun _ => trivial⟩) ?_; clear hK K; try simp only [Act.put, List.setIfInBounds_toArray, List.set_cons_zero, List.set_cons_succ])
          revert kk
          generalize z2.setCell ⟨NA, 0, none⟩ (.int .i64 v0) = U9
          intro kk
          replace kk := kk.swap
          have q0 := kk.head.at 0
          have f0 := kk.head.frozen 0
          simp only [List.getElem?_cons_zero] at q0
          (refine Walk.go (i := 10) (o := { dst := none, op := Op.store 51 (Operand.tmp 10) (Operand.tmp 29), type := 0, pos := "law.go:65", after := #[{ on := 8, ground := Ground.data }, { on := 6, ground := Ground.data }, { on := 9, ground := Ground.chain }, { on := 0, ground := Ground.phase }, { on := 1, ground := Ground.phase }, { on := 2, ground := Ground.phase }, { on := 3, ground := Ground.phase }, { on := 4, ground := Ground.phase }, { on := 5, ground := Ground.phase }, { on := 6, ground := Ground.phase }, { on := 7, ground := Ground.phase }, { on := 8, ground := Ground.phase }, { on := 9, ground := Ground.phase }], guard := none }) (by kernel_rfl) rfl (fun K hK => ?_); go_simp; (replace kk := kk.set 0 (.int .i64 n0); clear q0 f0); refine hK.out _ _ (⟨fun _ => (kk.get (b := w.heap.size) (t := 25) (c := tbl c pv) (by simp)).all, fun _ => trivial⟩) ?_; clear hK K; try simp only [Act.put, List.setIfInBounds_toArray, List.set_cons_zero, List.set_cons_succ])
          refine Walk.done (by kernel_rfl) ?_ _
          go_wp2_with fail
          go_meet
          case rel => exact ⟨_, _, rfl, rfl, kk.swap⟩
      · go_simp; (replace kk := kk.made 51 [.int .i64 0]); refine hK.out _ _ (⟨fun _ => (kk.get (b := w.heap.size) (t := 25) (c := tbl c pv) (by simp)).all, fun _ => trivial⟩) ?_; clear hK K; try simp only [Act.put, List.setIfInBounds_toArray, List.set_cons_zero, List.set_cons_succ]
        revert kk
        obtain ⟨NB, hNB⟩ : ∃ n, V11.heap.size = n := ⟨_, rfl⟩
        rw [hNB]
        clear hNB
        generalize V11.alloc (.cells [.int .i64 0].toArray 51) = V14
        intro kk
        (refine Walk.go (i := 2) (o := { dst := some 26, op := Op.call { callee := Callee.value (Operand.func 25), args := #[Operand.tmp 25], argTypes := #[3] }, type := 51, pos := "law.go:65", after := #[{ on := 1, ground := Ground.data }], guard := none }) (by kernel_rfl) rfl (fun K hK => ?_); go_simp; ((go_at_call 25; refine (of_any b _).mono ?_; rintro e z1 ⟨rfl, dd⟩; replace kk := kk.step dd; clear dd)); refine hK.out _ _ (⟨fun _ => (kk.get (b := w.heap.size) (t := 25) (c := tbl c pv) (by simp)).all, fun _ => trivial⟩) ?_; clear hK K; try simp only [Act.put, List.setIfInBounds_toArray, List.set_cons_zero, List.set_cons_succ])
        (refine Walk.go (i := 3) (o := { dst := some 27, op := Op.call { callee := Callee.value (Operand.func 24), args := #[Operand.tmp 24, Operand.tmp 26], argTypes := #[25, 51] }, type := 52, pos := "law.go:65", after := #[{ on := 0, ground := Ground.data }, { on := 2, ground := Ground.data }, { on := 2, ground := Ground.chain }], guard := none }) (by kernel_rfl) rfl (fun K hK => ?_); go_simp; ((go_at_call 24; refine (h4 c pv l b hb hI _ (HV.out.but kk.but) hx hl (hT _ _ HT.out kk.but)).mono ?_; rintro e z2 ⟨v3, n3, rfl, hf3, dd⟩; obtain ⟨rfl, rfl⟩ := finds_one HF.out hf3; clear hf3; replace kk := kk.step dd; clear dd)); refine hK.out _ _ (⟨fun _ => (kk.get (b := w.heap.size) (t := 25) (c := tbl c pv) (by simp)).all, fun _ => trivial⟩) ?_; clear hK K; try simp only [Act.put, List.setIfInBounds_toArray, List.set_cons_zero, List.set_cons_succ])
        (refine Walk.take (i := 4) (oi := { dst := some 23, op := Op.move (Operand.tmp 27), type := 52, pos := "law.go:65", after := #[{ on := 3, ground := Ground.data }], guard := none }) (v := ?_) rfl (by kernel_rfl) (by kernel_rfl) (by kernel_rfl) (by kernel_rfl) (fun _ _ _ h => h) (Or.inl ⟨by rfl, ?_⟩) ?_; rotate_left; (intro w hw; clear hw; (try go_split_ands); go_simp; try (with_reducible rfl)); simp only [Act.put, List.setIfInBounds_toArray, List.set_cons_zero, List.set_cons_succ])
        (refine Walk.take (i := 5) (oi := { dst := some 28, op := Op.extract (Operand.tmp 23) 0, type := 51, pos := "law.go:65", after := #[{ on := 4, ground := Ground.data }], guard := none }) (v := ?_) rfl (by kernel_rfl) (by kernel_rfl) (by kernel_rfl) (by kernel_rfl) (fun _ _ _ h => h) (Or.inl ⟨by rfl, ?_⟩) ?_; rotate_left; (intro w hw; clear hw; (try go_split_ands); go_simp; try (with_reducible rfl)); simp only [Act.put, List.setIfInBounds_toArray, List.set_cons_zero, List.set_cons_succ])
        (refine Walk.take (i := 6) (oi := { dst := some 29, op := Op.extract (Operand.tmp 23) 1, type := 51, pos := "law.go:65", after := #[{ on := 4, ground := Ground.data }, { on := 9, ground := Ground.gcOnly Departure.lateStores }], guard := none }) (v := ?_) rfl (by kernel_rfl) (by kernel_rfl) (by kernel_rfl) (by kernel_rfl) (fun _ _ _ h => h) (Or.inl ⟨by rfl, ?_⟩) ?_; rotate_left; (intro w hw; clear hw; (try go_split_ands); go_simp; try (with_reducible rfl)); simp only [Act.put, List.setIfInBounds_toArray, List.set_cons_zero, List.set_cons_succ])
        replace kk := kk.swap
        have q0 := kk.head.at 0
        have f0 := kk.head.frozen 0
        simp only [List.getElem?_cons_zero] at q0
        (refine Walk.go (i := 9) (o := { dst := none, op := Op.store 51 (Operand.tmp 9) (Operand.tmp 28), type := 0, pos := "law.go:65", after := #[{ on := 7, ground := Ground.data }, { on := 5, ground := Ground.data }, { on := 3, ground := Ground.chain }, { on := 0, ground := Ground.phase }, { on := 1, ground := Ground.phase }, { on := 2, ground := Ground.phase }, { on := 3, ground := Ground.phase }, { on := 4, ground := Ground.phase }, { on := 5, ground := Ground.phase }, { on := 6, ground := Ground.textOnly Departure.lateStores }, { on := 7, ground := Ground.phase }, { on := 8, ground := Ground.phase }], guard := none }) (by kernel_rfl) rfl (fun K hK => ?_); go_simp; (replace kk := kk.set 0 (.int .i64 v0); clear q0 f0); refine hK.out _ _ (⟨fun _ => (kk.get (b := w.heap.size) (t := 25) (c := tbl c pv) (by simp)).all, fun _ => trivial⟩) ?_; clear hK K; try simp only [Act.put, List.setIfInBounds_toArray, List.set_cons_zero, List.set_cons_succ])
        revert kk
        generalize z2.setCell ⟨NA, 0, none⟩ (.int .i64 v0) = U9
        intro kk
        replace kk := kk.swap
        have q0 := kk.head.at 0
        have f0 := kk.head.frozen 0
        simp only [List.getElem?_cons_zero] at q0
        (refine Walk.go (i := 10) (o := { dst := none, op := Op.store 51 (Operand.tmp 10) (Operand.tmp 29), type := 0, pos := "law.go:65", after := #[{ on := 8, ground := Ground.data }, { on := 6, ground := Ground.data }, { on := 9, ground := Ground.chain }, { on := 0, ground := Ground.phase }, { on := 1, ground := Ground.phase }, { on := 2, ground := Ground.phase }, { on := 3, ground := Ground.phase }, { on := 4, ground := Ground.phase }, { on := 5, ground := Ground.phase }, { on := 6, ground := Ground.phase }, { on := 7, ground := Ground.phase }, { on := 8, ground := Ground.phase }, { on := 9, ground := Ground.phase }], guard := none }) (by kernel_rfl) rfl (fun K hK => ?_); go_simp; (replace kk := kk.set 0 (.int .i64 n0); clear q0 f0); refine hK.out _ _ (⟨fun _ => (kk.get (b := w.heap.size) (t := 25) (c := tbl c pv) (by simp)).all, fun _ => trivial⟩) ?_; clear hK K; try simp only [Act.put, List.setIfInBounds_toArray, List.set_cons_zero, List.set_cons_succ])
        refine Walk.done (by kernel_rfl) ?_ _
        go_wp2_with fail
        go_meet
        case rel => exact ⟨_, _, rfl, rfl, kk.swap⟩
    · go_simp; (replace kk := kk.made 51 [.int .i64 0]); refine hK.out _ _ (⟨fun _ => (kk.get (b := w.heap.size) (t := 25) (c := tbl c pv) (by simp)).all, fun _ => trivial⟩) ?_; clear hK K; try simp only [Act.put, List.setIfInBounds_toArray, List.set_cons_zero, List.set_cons_succ]
      revert kk
      obtain ⟨NB, hNB⟩ : ∃ n, WG.heap.size = n := ⟨_, rfl⟩
      rw [hNB]
      clear hNB
      generalize WG.alloc (.cells [.int .i64 0].toArray 51) = V15
      intro kk
      refine Walk.both (i := 2) (j := 7) (oi := { dst := some 26, op := Op.call { callee := Callee.value (Operand.func 25), args := #[Operand.tmp 25], argTypes := #[3] }, type := 51, pos := "law.go:65", after := #[{ on := 1, ground := Ground.data }], guard := none }) (oj := { dst := some 9, op := Op.alloc 51, type := 0, pos := "law.go:65", after := #[], guard := none }) (by kernel_rfl) rfl rfl (fun K hK => ?_) (fun K hK => ?_)
      · go_simp; ((go_at_call 25; refine (of_any b _).mono ?_; rintro e z1 ⟨rfl, dd⟩; replace kk := kk.step dd; clear dd)); refine hK.out _ _ (⟨fun _ => (kk.get (b := w.heap.size) (t := 25) (c := tbl c pv) (by simp)).all, fun _ => trivial⟩) ?_; clear hK K; try simp only [Act.put, List.setIfInBounds_toArray, List.set_cons_zero, List.set_cons_succ]
        refine Walk.both (i := 3) (j := 7) (oi := { dst := some 27, op := Op.call { callee := Callee.value (Operand.func 24), args := #[Operand.tmp 24, Operand.tmp 26], argTypes := #[25, 51] }, type := 52, pos := "law.go:65", after := #[{ on := 0, ground := Ground.data }, { on := 2, ground := Ground.data }, { on := 2, ground := Ground.chain }], guard := none }) (oj := { dst := some 9, op := Op.alloc 51, type := 0, pos := "law.go:65", after := #[], guard := none }) (by kernel_rfl) rfl rfl (fun K hK => ?_) (fun K hK => ?_)
        · go_simp; ((go_at_call 24; refine (h4 c pv l b hb hI _ (HV.out.but kk.but) hx hl (hT _ _ HT.out kk.but)).mono ?_; rintro e z2 ⟨v3, n3, rfl, hf3, dd⟩; obtain ⟨rfl, rfl⟩ := finds_one HF.out hf3; clear hf3; replace kk := kk.step dd; clear dd)); refine hK.out _ _ (⟨fun _ => (kk.get (b := w.heap.size) (t := 25) (c := tbl c pv) (by simp)).all, fun _ => trivial⟩) ?_; clear hK K; try simp only [Act.put, List.setIfInBounds_toArray, List.set_cons_zero, List.set_cons_succ]
          (refine Walk.take (i := 4) (oi := { dst := some 23, op := Op.move (Operand.tmp 27), type := 52, pos := "law.go:65", after := #[{ on := 3, ground := Ground.data }], guard := none }) (v := ?_) rfl (by kernel_rfl) (by kernel_rfl) (by kernel_rfl) (by kernel_rfl) (fun _ _ _ h => h) (Or.inl ⟨by rfl, ?_⟩) ?_; rotate_left; (intro w hw; clear hw; (try go_split_ands); go_simp; try (with_reducible rfl)); simp only [Act.put, List.setIfInBounds_toArray, List.set_cons_zero, List.set_cons_succ])
          (refine Walk.take (i := 5) (oi := { dst := some 28, op := Op.extract (Operand.tmp 23) 0, type := 51, pos := "law.go:65", after := #[{ on := 4, ground := Ground.data }], guard := none }) (v := ?_) rfl (by kernel_rfl) (by kernel_rfl) (by kernel_rfl) (by kernel_rfl) (fun _ _ _ h => h) (Or.inl ⟨by rfl, ?_⟩) ?_; rotate_left; (intro w hw; clear hw; (try go_split_ands); go_simp; try (with_reducible rfl)); simp only [Act.put, List.setIfInBounds_toArray, List.set_cons_zero, List.set_cons_succ])
          (refine Walk.take (i := 6) (oi := { dst := some 29, op := Op.extract (Operand.tmp 23) 1, type := 51, pos := "law.go:65", after := #[{ on := 4, ground := Ground.data }, { on := 9, ground := Ground.gcOnly Departure.lateStores }], guard := none }) (v := ?_) rfl (by kernel_rfl) (by kernel_rfl) (by kernel_rfl) (by kernel_rfl) (fun _ _ _ h => h) (Or.inl ⟨by rfl, ?_⟩) ?_; rotate_left; (intro w hw; clear hw; (try go_split_ands); go_simp; try (with_reducible rfl)); simp only [Act.put, List.setIfInBounds_toArray, List.set_cons_zero, List.set_cons_succ])
          (refine Walk.go (i := 7) (o := { dst := some 9, op := Op.alloc 51, type := 0, pos := "law.go:65", after := #[], guard := none }) (by kernel_rfl) rfl (fun K hK => ?_); go_simp; (replace kk := kk.made 51 [.int .i64 0]); refine hK.out _ _ (⟨fun _ => (kk.get (b := w.heap.size) (t := 25) (c := tbl c pv) (by simp)).all, fun _ => trivial⟩) ?_; clear hK K; try simp only [Act.put, List.setIfInBounds_toArray, List.set_cons_zero, List.set_cons_succ])
          revert kk
          obtain ⟨NA, hNA⟩ : ∃ n, z2.heap.size = n := ⟨_, rfl⟩
          rw [hNA]
          clear hNA
          generalize z2.alloc (.cells [.int .i64 0].toArray 51) = V16
          intro kk
          have q0 := kk.head.at 0
          have f0 := kk.head.frozen 0
          simp only [List.getElem?_cons_zero] at q0
          (refine Walk.go (i := 9) (o := { dst := none, op := Op.store 51 (Operand.tmp 9) (Operand.tmp 28), type := 0, pos := "law.go:65", after := #[{ on := 7, ground := Ground.data }, { on := 5, ground := Ground.data }, { on := 3, ground := Ground.chain }, { on := 0, ground := Ground.phase }, { on := 1, ground := Ground.phase }, { on := 2, ground := Ground.phase }, { on := 3, ground := Ground.phase }, { on := 4, ground := Ground.phase }, { on := 5, ground := Ground.phase }, { on := 6, ground := Ground.textOnly Departure.lateStores }, { on := 7, ground := Ground.phase }, { on := 8, ground := Ground.phase }], guard := none }) (by kernel_rfl) rfl (fun K hK => ?_); go_simp; (replace kk := kk.set 0 (.int .i64 v0); clear q0 f0); refine hK.out _ _ (⟨fun _ => (kk.get (b := w.heap.size) (t := 25) (c := tbl c pv) (by simp)).all, fun _ => trivial⟩) ?_; clear hK K; try simp only [Act.put, List.setIfInBounds_toArray, List.set_cons_zero, List.set_cons_succ])
          revert kk
          generalize V16.setCell ⟨NA, 0, none⟩ (.int .i64 v0) = U9
          intro kk
          replace kk := kk.swap
          have q0 := kk.head.at 0
          have f0 := kk.head.frozen 0
          simp only [List.getElem?_cons_zero] at q0
          (refine Walk.go (i := 10) (o := { dst := none, op := Op.store 51 (Operand.tmp 10) (Operand.tmp 29), type := 0, pos := "law.go:65", after := #[{ on := 8, ground := Ground.data }, { on := 6, ground := Ground.data }, { on := 9, ground := Ground.chain }, { on := 0, ground := Ground.phase }, { on := 1, ground := Ground.phase }, { on := 2, ground := Ground.phase }, { on := 3, ground := Ground.phase }, { on := 4, ground := Ground.phase }, { on := 5, ground := Ground.phase }, { on := 6, ground := Ground.phase }, { on := 7, ground := Ground.phase }, { on := 8, ground := Ground.phase }, { on := 9, ground := Ground.phase }], guard := none }) (by kernel_rfl) rfl (fun K hK => ?_); go_simp; (replace kk := kk.set 0 (.int .i64 n0); clear q0 f0); refine hK.out _ _ (⟨fun _ => (kk.get (b := w.heap.size) (t := 25) (c := tbl c pv) (by simp)).all, fun _ => trivial⟩) ?_; clear hK K; try simp only [Act.put, List.setIfInBounds_toArray, List.set_cons_zero, List.set_cons_succ])
          refine Walk.done (by kernel_rfl) ?_ _
          go_wp2_with fail
          go_meet
          case rel => exact ⟨_, _, rfl, rfl, kk.swap⟩
        · go_simp; (replace kk := kk.made 51 [.int .i64 0]); refine hK.out _ _ (⟨fun _ => (kk.get (b := w.heap.size) (t := 25) (c := tbl c pv) (by simp)).all, fun _ => trivial⟩) ?_; clear hK K; try simp only [Act.put, List.setIfInBounds_toArray, List.set_cons_zero, List.set_cons_succ]
          revert kk
          obtain ⟨NA, hNA⟩ : ∃ n, z1.heap.size = n := ⟨_, rfl⟩
          rw [hNA]
          clear hNA
          generalize z1.alloc (.cells [.int .i64 0].toArray 51) = V17
          intro kk
          (refine Walk.go (i := 3) (o := { dst := some 27, op := Op.call { callee := Callee.value (Operand.func 24), args := #[Operand.tmp 24, Operand.tmp 26], argTypes := #[25, 51] }, type := 52, pos := "law.go:65", after := #[{ on := 0, ground := Ground.data }, { on := 2, ground := Ground.data }, { on := 2, ground := Ground.chain }], guard := none }) (by kernel_rfl) rfl (fun K hK => ?_); go_simp; ((go_at_call 24; refine (h4 c pv l b hb hI _ (HV.out.but kk.but) hx hl (hT _ _ HT.out kk.but)).mono ?_; rintro e z2 ⟨v3, n3, rfl, hf3, dd⟩; obtain ⟨rfl, rfl⟩ := finds_one HF.out hf3; clear hf3; replace kk := kk.step dd; clear dd)); refine hK.out _ _ (⟨fun _ => (kk.get (b := w.heap.size) (t := 25) (c := tbl c pv) (by simp)).all, fun _ => trivial⟩) ?_; clear hK K; try simp only [Act.put, List.setIfInBounds_toArray, List.set_cons_zero, List.set_cons_succ])
          (refine Walk.take (i := 4) (oi := { dst := some 23, op := Op.move (Operand.tmp 27), type := 52, pos := "law.go:65", after := #[{ on := 3, ground := Ground.data }], guard := none }) (v := ?_) rfl (by kernel_rfl) (by kernel_rfl) (by kernel_rfl) (by kernel_rfl) (fun _ _ _ h => h) (Or.inl ⟨by rfl, ?_⟩) ?_; rotate_left; (intro w hw; clear hw; (try go_split_ands); go_simp; try (with_reducible rfl)); simp only [Act.put, List.setIfInBounds_toArray, List.set_cons_zero, List.set_cons_succ])
          (refine Walk.take (i := 5) (oi := { dst := some 28, op := Op.extract (Operand.tmp 23) 0, type := 51, pos := "law.go:65", after := #[{ on := 4, ground := Ground.data }], guard := none }) (v := ?_) rfl (by kernel_rfl) (by kernel_rfl) (by kernel_rfl) (by kernel_rfl) (fun _ _ _ h => h) (Or.inl ⟨by rfl, ?_⟩) ?_; rotate_left; (intro w hw; clear hw; (try go_split_ands); go_simp; try (with_reducible rfl)); simp only [Act.put, List.setIfInBounds_toArray, List.set_cons_zero, List.set_cons_succ])
          (refine Walk.take (i := 6) (oi := { dst := some 29, op := Op.extract (Operand.tmp 23) 1, type := 51, pos := "law.go:65", after := #[{ on := 4, ground := Ground.data }, { on := 9, ground := Ground.gcOnly Departure.lateStores }], guard := none }) (v := ?_) rfl (by kernel_rfl) (by kernel_rfl) (by kernel_rfl) (by kernel_rfl) (fun _ _ _ h => h) (Or.inl ⟨by rfl, ?_⟩) ?_; rotate_left; (intro w hw; clear hw; (try go_split_ands); go_simp; try (with_reducible rfl)); simp only [Act.put, List.setIfInBounds_toArray, List.set_cons_zero, List.set_cons_succ])
          have q0 := kk.head.at 0
          have f0 := kk.head.frozen 0
          simp only [List.getElem?_cons_zero] at q0
          (refine Walk.go (i := 9) (o := { dst := none, op := Op.store 51 (Operand.tmp 9) (Operand.tmp 28), type := 0, pos := "law.go:65", after := #[{ on := 7, ground := Ground.data }, { on := 5, ground := Ground.data }, { on := 3, ground := Ground.chain }, { on := 0, ground := Ground.phase }, { on := 1, ground := Ground.phase }, { on := 2, ground := Ground.phase }, { on := 3, ground := Ground.phase }, { on := 4, ground := Ground.phase }, { on := 5, ground := Ground.phase }, { on := 6, ground := Ground.textOnly Departure.lateStores }, { on := 7, ground := Ground.phase }, { on := 8, ground := Ground.phase }], guard := none }) (by kernel_rfl) rfl (fun K hK => ?_); go_simp; (replace kk := kk.set 0 (.int .i64 v0); clear q0 f0); refine hK.out _ _ (⟨fun _ => (kk.get (b := w.heap.size) (t := 25) (c := tbl c pv) (by simp)).all, fun _ => trivial⟩) ?_; clear hK K; try simp only [Act.put, List.setIfInBounds_toArray, List.set_cons_zero, List.set_cons_succ])
          revert kk
          generalize z2.setCell ⟨NA, 0, none⟩ (.int .i64 v0) = U9
          intro kk
          replace kk := kk.swap
          have q0 := kk.head.at 0
          have f0 := kk.head.frozen 0
          simp only [List.getElem?_cons_zero] at q0
          (refine Walk.go (i := 10) (o := { dst := none, op := Op.store 51 (Operand.tmp 10) (Operand.tmp 29), type := 0, pos := "law.go:65", after := #[{ on := 8, ground := Ground.data }, { on := 6, ground := Ground.data }, { on := 9, ground := Ground.chain }, { on := 0, ground := Ground.phase }, { on := 1, ground := Ground.phase }, { on := 2, ground := Ground.phase }, { on := 3, ground := Ground.phase }, { on := 4, ground := Ground.phase }, { on := 5, ground := Ground.phase }, { on := 6, ground := Ground.phase }, { on := 7, ground := Ground.phase }, { on := 8, ground := Ground.phase }, { on := 9, ground := Ground.phase }], guard := none }) (by kernel_rfl) rfl (fun K hK => ?_); go_simp; (replace kk := kk.set 0 (.int .i64 n0); clear q0 f0); refine hK.out _ _ (⟨fun _ => (kk.get (b := w.heap.size) (t := 25) (c := tbl c pv) (by simp)).all, fun _ => trivial⟩) ?_; clear hK K; try simp only [Act.put, List.setIfInBounds_toArray, List.set_cons_zero, List.set_cons_succ])
          refine Walk.done (by kernel_rfl) ?_ _
          go_wp2_with fail
          go_meet
          case rel => exact ⟨_, _, rfl, rfl, kk.swap⟩
      · go_simp; (replace kk := kk.made 51 [.int .i64 0]); refine hK.out _ _ (⟨fun _ => (kk.get (b := w.heap.size) (t := 25) (c := tbl c pv) (by simp)).all, fun _ => trivial⟩) ?_; clear hK K; try simp only [Act.put, List.setIfInBounds_toArray, List.set_cons_zero, List.set_cons_succ]
        revert kk
        obtain ⟨NA, hNA⟩ : ∃ n, V15.heap.size = n := ⟨_, rfl⟩
        rw [hNA]
        clear hNA
        generalize V15.alloc (.cells [.int .i64 0].toArray 51) = V18
        intro kk
        (refine Walk.go (i := 2) (o := { dst := some 26, op := Op.call { callee := Callee.value (Operand.func 25), args := #[Operand.tmp 25], argTypes := #[3] }, type := 51, pos := "law.go:65", after := #[{ on := 1, ground := Ground.data }], guard := none }) (by kernel_rfl) rfl (fun K hK => ?_); go_simp; ((go_at_call 25; refine (of_any b _).mono ?_; rintro e z1 ⟨rfl, dd⟩; replace kk := kk.step dd; clear dd)); refine hK.out _ _ (⟨fun _ => (kk.get (b := w.heap.size) (t := 25) (c := tbl c pv) (by simp)).all, fun _ => trivial⟩) ?_; clear hK K; try simp only [Act.put, List.setIfInBounds_toArray, List.set_cons_zero, List.set_cons_succ])
        (refine Walk.go (i := 3) (o := { dst := some 27, op := Op.call { callee := Callee.value (Operand.func 24), args := #[Operand.tmp 24, Operand.tmp 26], argTypes := #[25, 51] }, type := 52, pos := "law.go:65", after := #[{ on := 0, ground := Ground.data }, { on := 2, ground := Ground.data }, { on := 2, ground := Ground.chain }], guard := none }) (by kernel_rfl) rfl (fun K hK => ?_); go_simp; ((go_at_call 24; refine (h4 c pv l b hb hI _ (HV.out.but kk.but) hx hl (hT _ _ HT.out kk.but)).mono ?_; rintro e z2 ⟨v3, n3, rfl, hf3, dd⟩; obtain ⟨rfl, rfl⟩ := finds_one HF.out hf3; clear hf3; replace kk := kk.step dd; clear dd)); refine hK.out _ _ (⟨fun _ => (kk.get (b := w.heap.size) (t := 25) (c := tbl c pv) (by simp)).all, fun _ => trivial⟩) ?_; clear hK K; try simp only [Act.put, List.setIfInBounds_toArray, List.set_cons_zero, List.set_cons_succ])
        (refine Walk.take (i := 4) (oi := { dst := some 23, op := Op.move (Operand.tmp 27), type := 52, pos := "law.go:65", after := #[{ on := 3, ground := Ground.data }], guard := none }) (v := ?_) rfl (by kernel_rfl) (by kernel_rfl) (by kernel_rfl) (by kernel_rfl) (fun _ _ _ h => h) (Or.inl ⟨by rfl, ?_⟩) ?_; rotate_left; (intro w hw; clear hw; (try go_split_ands); go_simp; try (with_reducible rfl)); simp only [Act.put, List.setIfInBounds_toArray, List.set_cons_zero, List.set_cons_succ])
        (refine Walk.take (i := 5) (oi := { dst := some 28, op := Op.extract (Operand.tmp 23) 0, type := 51, pos := "law.go:65", after := #[{ on := 4, ground := Ground.data }], guard := none }) (v := ?_) rfl (by kernel_rfl) (by kernel_rfl) (by kernel_rfl) (by kernel_rfl) (fun _ _ _ h => h) (Or.inl ⟨by rfl, ?_⟩) ?_; rotate_left; (intro w hw; clear hw; (try go_split_ands); go_simp; try (with_reducible rfl)); simp only [Act.put, List.setIfInBounds_toArray, List.set_cons_zero, List.set_cons_succ])
        (refine Walk.take (i := 6) (oi := { dst := some 29, op := Op.extract (Operand.tmp 23) 1, type := 51, pos := "law.go:65", after := #[{ on := 4, ground := Ground.data }, { on := 9, ground := Ground.gcOnly Departure.lateStores }], guard := none }) (v := ?_) rfl (by kernel_rfl) (by kernel_rfl) (by kernel_rfl) (by kernel_rfl) (fun _ _ _ h => h) (Or.inl ⟨by rfl, ?_⟩) ?_; rotate_left; (intro w hw; clear hw; (try go_split_ands); go_simp; try (with_reducible rfl)); simp only [Act.put, List.setIfInBounds_toArray, List.set_cons_zero, List.set_cons_succ])
        have q0 := kk.head.at 0
        have f0 := kk.head.frozen 0
        simp only [List.getElem?_cons_zero] at q0
        (refine Walk.go (i := 9) (o := { dst := none, op := Op.store 51 (Operand.tmp 9) (Operand.tmp 28), type := 0, pos := "law.go:65", after := #[{ on := 7, ground := Ground.data }, { on := 5, ground := Ground.data }, { on := 3, ground := Ground.chain }, { on := 0, ground := Ground.phase }, { on := 1, ground := Ground.phase }, { on := 2, ground := Ground.phase }, { on := 3, ground := Ground.phase }, { on := 4, ground := Ground.phase }, { on := 5, ground := Ground.phase }, { on := 6, ground := Ground.textOnly Departure.lateStores }, { on := 7, ground := Ground.phase }, { on := 8, ground := Ground.phase }], guard := none }) (by kernel_rfl) rfl (fun K hK => ?_); go_simp; (replace kk := kk.set 0 (.int .i64 v0); clear q0 f0); refine hK.out _ _ (⟨fun _ => (kk.get (b := w.heap.size) (t := 25) (c := tbl c pv) (by simp)).all, fun _ => trivial⟩) ?_; clear hK K; try simp only [Act.put, List.setIfInBounds_toArray, List.set_cons_zero, List.set_cons_succ])
        revert kk
        generalize z2.setCell ⟨NA, 0, none⟩ (.int .i64 v0) = U9
        intro kk
        replace kk := kk.swap
        have q0 := kk.head.at 0
        have f0 := kk.head.frozen 0
        simp only [List.getElem?_cons_zero] at q0
        (refine Walk.go (i := 10) (o := { dst := none, op := Op.store 51 (Operand.tmp 10) (Operand.tmp 29), type := 0, pos := "law.go:65", after := #[{ on := 8, ground := Ground.data }, { on := 6, ground := Ground.data }, { on := 9, ground := Ground.chain }, { on := 0, ground := Ground.phase }, { on := 1, ground := Ground.phase }, { on := 2, ground := Ground.phase }, { on := 3, ground := Ground.phase }, { on := 4, ground := Ground.phase }, { on := 5, ground := Ground.phase }, { on := 6, ground := Ground.phase }, { on := 7, ground := Ground.phase }, { on := 8, ground := Ground.phase }, { on := 9, ground := Ground.phase }], guard := none }) (by kernel_rfl) rfl (fun K hK => ?_); go_simp; (replace kk := kk.set 0 (.int .i64 n0); clear q0 f0); refine hK.out _ _ (⟨fun _ => (kk.get (b := w.heap.size) (t := 25) (c := tbl c pv) (by simp)).all, fun _ => trivial⟩) ?_; clear hK K; try simp only [Act.put, List.setIfInBounds_toArray, List.set_cons_zero, List.set_cons_succ])
        refine Walk.done (by kernel_rfl) ?_ _
        go_wp2_with fail
        go_meet
        case rel => exact ⟨_, _, rfl, rfl, kk.swap⟩
  case rest =>
    clear kk
    obtain ⟨NA, NB, rfl, rfl, kk⟩ := hcut
    have c0 := kk.head.at 0
    have c1 := kk.swap.head.at 0
    simp only [List.getElem?_cons_zero] at c0 c1
    go_wp2_with fail
    refine (tell_none _ _).mono ?_
    rintro e z1 ⟨rfl, dd⟩
    replace kk := kk.step dd
    clear dd c0 c1
    have c1 := kk.swap.head.at 0
    simp only [List.getElem?_cons_zero] at c1
    go_wp2_with fail
    refine (tell_none _ _).mono ?_
    rintro e z2 ⟨rfl, dd⟩
    replace kk := kk.step dd
    clear dd c1
    go_wp2_with fail
    go_ret
    exact ⟨rfl, kk.but⟩

end Go.Proofs.Ytadcfndjbhcfbaa
