/- What the program's Find answers. -/
import Derived.Test.YtadcfndjbhcfbaaHd5
namespace Go.Proofs.Ytadcfndjbhcfbaa
set_option linter.unusedVariables false
open Go.ChangeShapes Go.WideShapes Go.ChangeAt Go.RowKit Go.Shelf

attribute [local go_sem] Oper.semAt_some wide_fn wide_depth Fence.inRound_fn Fence.inRound_depth

theorem begins_in {c : Nat → Int} {l : List Int} (h : OkT c l) {p : Nat} (hp : p < l.length) {b : Int} (hb : Begins c p b) : 0 ≤ b ∧ b ≤ 65535 := by
  obtain ⟨i0, i1, i2, i3⟩ := p_in h hp
  have hp2 := one_le_pow (16 - lenP c p)
  have hm : (2 : Int) ^ lenP c p * 2 ^ (16 - lenP c p) = 65536 := by
    rw [← Int.pow_add, show lenP c p + (16 - lenP c p) = 16 by omega]; rfl
  unfold Begins at hb
  generalize (2 : Int) ^ (16 - lenP c p) = q at *
  have e1 := Int.emod_add_mul_ediv b q
  have e2 := Int.emod_nonneg b (show q ≠ 0 by omega)
  have e3 := Int.emod_lt_of_pos b (show 0 < q by omega)
  rw [hb, Int.mul_comm] at e1
  have h0 : 0 ≤ numP c p * q := Int.mul_nonneg i2 (by omega)
  have h1 : (numP c p + 1) * q ≤ 2 ^ lenP c p * q := Int.mul_le_mul_of_nonneg_right (by omega) (by omega)
  rw [Int.add_mul, hm] at h1
  omega

theorem finds_yes {c : Nat → Int} {l : List Int} (h : OkT c l) {p : Nat} (hp : p < l.length) {b : Int} (hb : Begins c p b) : Finds c l b l[p] ((lenP c p : Nat) : Int) :=
  .inl ⟨h, (begins_in h hp hb).1, (begins_in h hp hb).2, p, hp, rfl, rfl, hb⟩

theorem finds_no {c : Nat → Int} {l : List Int} {b : Int} (h : ∀ p, p < toldN c l → ¬ Begins c p b) : Finds c l b 0 0 := .inr ⟨rfl, rfl, fun ⟨ho, _, _, p, hp, hb⟩ => h p (by unfold toldN; rw [(checkB_iff c l).2 ho, if_pos rfl]; exact hp) hb⟩

theorem results_int2 {fn : Func} {p q : Tmp} (h : fn.results = #[.cell p 3, .cell q 3]) (tmps : Array Value) (w : World) (g1 g2 : Nat) (a b : Int) (hp : tmps.getD p undef = .pointer (some ⟨g1, 0, none⟩)) (hq : tmps.getD q undef = .pointer (some ⟨g2, 0, none⟩))
    (k1 : w.cell? ⟨g1, 0, none⟩ = some (.int .i64 a)) (k2 : w.cell? ⟨g2, 0, none⟩ = some (.int .i64 b)) :
    (results fn tmps).run Try.prog w = .ok (.tuple #[.int .i64 a, .int .i64 b]) w := by
  have hu := Try.underlying3
  have hp' : tmps[p]?.getD undef = .pointer (some ⟨g1, 0, none⟩) := by simpa using hp
  have hq' : tmps[q]?.getD undef = .pointer (some ⟨g2, 0, none⟩) := by simpa using hq
  simp only [results, h]
  go_simp

set_option maxHeartbeats 6400000 in
set_option maxRecDepth 100000 in
theorem find_spec (c : Nat → Int) (pv : Value) (l : List Int) (b : Int) (hb : I64 b) (hI : ∀ j, j < 16 → I64 (c j)) (w : World) (hv : View w .u8 pv l) (hx : ∀ x ∈ l, 0 ≤ x ∧ x ≤ 255) (hl : l.length ≤ 140737488355328) : Calls Try.prog 18 #[.agg (tbl c pv).toArray, .int .i64 b] w fun e w' => ∃ v n, e = .returned (.tuple #[.int .i64 v, .int .i64 n]) ∧ Finds c l b v n ∧ But Nowhere w w' := by
  have HV : Hid (View w .u8 pv l) := hv
  have HOFF := view_off hv (fun k => k = w.heap.size + 1 + 1 ∨ k = w.heap.size + 1 + 1 + 1) (fun k q => by omega)
  obtain ⟨ao, cap, rfl⟩ := hv.slice
  clear hv
  have huT := Try.underlying25
  have hiT : (Try.prog.info? 25).map (·.size) = some (tbl c (.slice ao l.length cap)).length := by rw [tbl_length]; kernel_rfl
  have hmx : Try.prog.follows .mixedOrders = true := by kernel_rfl
  refine (callsIn_wide (n := 3)).1 ?_
  refine callsIn_of_wp_quiet Try.func18 rfl trivial ?_ rfl
  simp only [Try.ntmps18, List.size_toArray, List.length_cons, List.length_nil, Nat.reduceAdd, Nat.reduceSub, Array.replicate_succ, Array.replicate_zero, List.push_toArray, List.append_toArray, List.nil_append, List.cons_append]
  have kk := ((((Keep.start w).made 25 (tbl c (.slice ao l.length cap))).made 3 [.int .i64 b]).made 3 [.int .i64 0]).made 3 [.int .i64 0]
  simp only [World.size_alloc] at kk
  have hR := (kk.get (b := w.heap.size) (t := 25) (c := tbl c (.slice ao l.length cap)) (by simp)).all
  gi_wp2_with (refine wpListIn_load_mid rfl 25 (.tmp 2) rfl (w.heap.size) 0 rfl (tbl c (.slice ao l.length cap)) _ ?_ huT rfl hiT ?_; exact hR)
  clear hR huT hiT
  revert kk
  generalize (((w.alloc (.cells (tbl c (.slice ao l.length cap)).toArray 25)).alloc (.cells #[.int .i64 b] 3)).alloc (.cells #[.int .i64 0] 3)).alloc (.cells #[.int .i64 0] 3) = W0
  intro kk
  refine (callsIn_wide.2 (told_any c _ l W0 (HV.out.but kk.but))).mono ?_
  rintro e W1 ⟨tb, rfl, k1⟩
  have htb := k1.new (tb, 25, tbl c (.slice ao l.length cap)) (by simp)
  simp only at htb
  have ktb := k1.head
  have hz0 := kk.head.lt
  replace kk := kk.step k1.but
  have hz1 := k1.but.size
  have hV1 := HV.out.but kk.but
  have h2 := kk.get (b := w.heap.size + 1 + 1) (t := 3) (c := [.int .i64 0]) (by simp)
  have h3 := kk.head
  gi_wp2_with fail
  refine range_till (T := (fun k => k = w.heap.size + 1 + 1 ∨ k = w.heap.size + 1 + 1 + 1)) (fun i W => (∀ p, p < i → ¬ Begins c p b) ∧ Cells W (w.heap.size + 1 + 1) 3 [.int .i64 0] ∧ Cells W (w.heap.size + 1 + 1 + 1) 3 [.int .i64 0])
    (fun W => ∃ v n, Finds c l b v n ∧ Cells W (w.heap.size + 1 + 1) 3 [.int .i64 v] ∧ Cells W (w.heap.size + 1 + 1 + 1) 3 [.int .i64 n]) (told1_iter c _ l tb hI hx hl) rfl (enters_of Try.func37 (by kernel_rfl) rfl) (fun _ => rfl)
    (fun i U hU _ => ⟨ktb.but hU (by omega), hV1.butS hU HOFF⟩) (fun k hk => by omega) (fun i U U' hj hb => ⟨hj.1, hj.2.1.but hb (by omega), hj.2.2.but hb (by omega)⟩) (fun U U' ⟨v, n, hj⟩ hb => ⟨v, n, hj.1, hj.2.1.but hb (by omega), hj.2.2.but hb (by omega)⟩) ⟨fun p hp => by omega, h2, h3⟩ ?_ ?_ ?_
  · intro lo i W KK hlo hlt hi hbW hJ hK
    obtain ⟨hok, hil⟩ := toldN_ok hi
    have sm := p_in hok hil
    have gC0 := Cells.new W 36 [.int .i64 ((lenP c i : Nat) : Int), .int .i64 (numP c i)]
    have hlo1 : W1.heap.size ≤ W.heap.size := hbW.size
    obtain ⟨v, hv⟩ : ∃ v : Nat, l[i] = (v : Int) := ⟨l[i].toNat, by have := hx _ (List.getElem_mem hil); omega⟩
    have hv1 : v < 256 := by have := hx _ (List.getElem_mem hil); omega
    have HFY : Hid (Begins c i b → Finds c l b (v : Int) ((lenP c i : Nat) : Int)) := fun h => hv ▸ finds_yes hok hil h
    have HBG : Hid (Begins c i b ↔ b / 2 ^ (16 - lenP c i) = numP c i) := Iff.rfl
    have HPW : Hid _ := one_le_pow (16 - lenP c i)
    rw [show toldA c l i = #[.int .u8 (v : Int), codeA c i] by unfold toldA; rw [List.getD_eq_getElem?_getD, List.getElem?_eq_getElem hil, ← hv]; rfl]
    unfold codeA
    gi_wp2_with fail
    refine hK _ _ ((But.refl _ _).alloc _) ?_
    clear hJ hK hbW hi
    intro U hU hlU hbU hJ
    have lw := hU.size
    simp only [World.size_alloc] at lw
    have gC := gC0.but hU (by omega)
    obtain ⟨sb, hsb⟩ : ∃ b, W.heap.size = b := ⟨_, rfl⟩
    rw [hsb] at gC lw hlo1 ⊢
    obtain ⟨L, hL⟩ : ∃ L : Nat, lenP c i = L := ⟨_, rfl⟩
    obtain ⟨Vn, hVn⟩ : ∃ V : Int, numP c i = V := ⟨_, rfl⟩
    rw [hL] at gC HFY HBG HPW sm ⊢
    rw [hVn] at gC HBG sm ⊢
    have hcN := gC.drew.at 0
    have hcV := gC.drew.at 1
    simp only [List.getElem?_cons_zero, List.getElem?_cons_succ] at hcN hcV
    have hcB := ((kk.get (b := w.heap.size + 1) (t := 3) (c := [.int .i64 b]) (by simp)).but hbU (by omega)).drew.at 0
    simp only [List.getElem?_cons_zero] at hcB
    obtain ⟨hj1, hj2, hj3⟩ := hJ
    have HJ1 : Hid _ := hj1
    have v0 : (0 : Int) ≤ (v : Int) := by omega
    have v2 : (v : Int) < 256 := by omega
    have hsub : IntKind.i64.wrap (16 - (L : Int)) = ((16 - L : Nat) : Int) := by rw [wrap_i64_eq]; rw [w64 _ (by omega)]; omega
    obtain ⟨M, hM⟩ : ∃ M : Nat, 16 - L = M := ⟨_, rfl⟩
    rw [hM] at hsub HBG HPW
    have HM : Hid (16 - L = M) := hM
    clear gC0 hU hlU hsb hL hVn hj1 hv hM
    have bu : But Nowhere U U.drew := (But.refl _ _).drew
    gi_wp2_with fail
    refine round_region_till (S := fun V' => V'.cell? ⟨sb, 0, none⟩ = some (.int .i64 (L : Int)) ∧ V'.cell? ⟨sb, 1, none⟩ = some (.int .i64 Vn) ∧ V'.cell? ⟨w.heap.size + 1, 0, none⟩ = some (.int .i64 b)) (R := fun _ => True) (k := 100) (m := 100) (by kernel_rfl) (by kernel_rfl) (by rintro ⟨_, _, ⟨-, (⟨q, _⟩ | ⟨q, _⟩)⟩⟩ <;> cases q) ⟨hcN, hcV, hcB⟩ trivial ?_
    (refine Walk.take (i := 0) (oi := { dst := some 12, op := Op.load 3 (Operand.tmp 3), type := 3, pos := "huff.go:38", after := #[], guard := none }) (v := ?_) rfl (by kernel_rfl) (by kernel_rfl) (by kernel_rfl) (by kernel_rfl) (fun _ _ _ h => h) (Or.inl ⟨by rfl, ?_⟩) ?_; rotate_left; (intro w hw; have hS1 := hw.1 (by kernel_rfl); clear hw; (try dsimp only at hS1); (try go_split_ands); go_simp; try (with_reducible rfl)); simp only [Act.put, List.setIfInBounds_toArray, List.set_cons_zero, List.set_cons_succ])
    (refine Walk.take (i := 1) (oi := { dst := some 13, op := Op.fieldAddr 36 (Operand.tmp 7) 0, type := 0, pos := "huff.go:38", after := #[], guard := none }) (v := ?_) rfl (by kernel_rfl) (by kernel_rfl) (by kernel_rfl) (by kernel_rfl) (fun _ _ _ h => h) (Or.inl ⟨by rfl, ?_⟩) ?_; rotate_left; (intro w hw; clear hw; (try go_split_ands); go_simp; try (with_reducible rfl)); simp only [Act.put, List.setIfInBounds_toArray, List.set_cons_zero, List.set_cons_succ])
    (refine Walk.take (i := 2) (oi := { dst := some 14, op := Op.load 3 (Operand.tmp 13), type := 3, pos := "huff.go:38", after := #[{ on := 1, ground := Ground.data }], guard := none }) (v := ?_) rfl (by kernel_rfl) (by kernel_rfl) (by kernel_rfl) (by kernel_rfl) (fun _ _ _ h => h) (Or.inl ⟨by rfl, ?_⟩) ?_; rotate_left; (intro w hw; have hS1 := hw.1 (by kernel_rfl); clear hw; (try dsimp only at hS1); (try go_split_ands); go_simp; try (with_reducible rfl)); simp only [Act.put, List.setIfInBounds_toArray, List.set_cons_zero, List.set_cons_succ])
    (refine Walk.take (i := 3) (oi := { dst := some 15, op := Op.binOp BinOp.sub 3 (Operand.const (Value.int IntKind.i64 16)) (Operand.tmp 14) 3, type := 3, pos := "huff.go:38", after := #[{ on := 2, ground := Ground.data }], guard := none }) (v := ?_) rfl (by kernel_rfl) (by kernel_rfl) (by kernel_rfl) (by kernel_rfl) (fun _ _ _ h => h) (Or.inl ⟨by rfl, ?_⟩) ?_; rotate_left; (intro w hw; clear hw; (try go_split_ands); go_simp; try (with_reducible rfl)); simp only [Act.put, List.setIfInBounds_toArray, List.set_cons_zero, List.set_cons_succ])
    (refine Walk.take (i := 4) (oi := { dst := some 16, op := Op.binOp BinOp.shr 3 (Operand.tmp 12) (Operand.tmp 15) 3, type := 3, pos := "huff.go:38", after := #[{ on := 0, ground := Ground.data }, { on := 3, ground := Ground.data }], guard := none }) (v := ?_) rfl (by kernel_rfl) (by kernel_rfl) (by kernel_rfl) (by kernel_rfl) (fun _ _ _ h => h) (Or.inl ⟨by rfl, ?_⟩) ?_; rotate_left; (intro w hw; clear hw; (try go_split_ands); go_simp; try (with_reducible rfl)); simp only [Act.put, List.setIfInBounds_toArray, List.set_cons_zero, List.set_cons_succ])
    (refine Walk.take (i := 5) (oi := { dst := some 17, op := Op.fieldAddr 36 (Operand.tmp 7) 1, type := 0, pos := "huff.go:38", after := #[], guard := none }) (v := ?_) rfl (by kernel_rfl) (by kernel_rfl) (by kernel_rfl) (by kernel_rfl) (fun _ _ _ h => h) (Or.inl ⟨by rfl, ?_⟩) ?_; rotate_left; (intro w hw; clear hw; (try go_split_ands); go_simp; try (with_reducible rfl)); simp only [Act.put, List.setIfInBounds_toArray, List.set_cons_zero, List.set_cons_succ])
    (refine Walk.take (i := 6) (oi := { dst := some 18, op := Op.load 3 (Operand.tmp 17), type := 3, pos := "huff.go:38", after := #[{ on := 5, ground := Ground.data }], guard := none }) (v := ?_) rfl (by kernel_rfl) (by kernel_rfl) (by kernel_rfl) (by kernel_rfl) (fun _ _ _ h => h) (Or.inl ⟨by rfl, ?_⟩) ?_; rotate_left; (intro w hw; have hS1 := hw.1 (by kernel_rfl); clear hw; (try dsimp only at hS1); (try go_split_ands); go_simp; try (with_reducible rfl)); simp only [Act.put, List.setIfInBounds_toArray, List.set_cons_zero, List.set_cons_succ])
    (refine Walk.take (i := 7) (oi := { dst := some 19, op := Op.binOp BinOp.eql 3 (Operand.tmp 16) (Operand.tmp 18) 3, type := 4, pos := "huff.go:38", after := #[{ on := 4, ground := Ground.data }, { on := 6, ground := Ground.data }], guard := none }) (v := ?_) rfl (by kernel_rfl) (by kernel_rfl) (by kernel_rfl) (by kernel_rfl) (fun _ _ _ h => h) (Or.inl ⟨by rfl, ?_⟩) ?_; rotate_left; (intro w hw; clear hw; (try go_split_ands); go_simp; try (with_reducible rfl)); simp only [Act.put, List.setIfInBounds_toArray, List.set_cons_zero, List.set_cons_succ])
    refine Walk.done (by kernel_rfl) ?_ _
    rw [show min M 64 = M by have := HM.out; omega]
    by_cases hE : b / 2 ^ M = Vn
    · have hE2 : (b / 2 ^ M == Vn) = true := by simpa using hE
      rw [hE2]
      have HF : Hid (Finds c l b (v : Int) ((L : Nat) : Int)) := HFY.out (HBG.out.2 hE)
      have hwv : IntKind.i64.wrap (v : Int) = v := by rw [wrap_i64_eq]; exact w64 _ (by omega)
      have g2 := hj2
      have g3 := hj3
      have c2 := g2.at 0
      have f2 := g2.frozen 0
      have c3 := (g3.far (c := w.heap.size + 1 + 1) (by omega) 0 (.int .i64 (v : Int))).at 0
      have f3 := (g3.far (c := w.heap.size + 1 + 1) (by omega) 0 (.int .i64 (v : Int))).frozen 0
      simp only [List.getElem?_cons_zero] at c2 c3
      have gS := gC.far (c := w.heap.size + 1 + 1) (by omega) 0 (.int .i64 (v : Int))
      have X2 := (g2.set 0 (.int .i64 (v : Int))).far (c := w.heap.size + 1 + 1 + 1) (by omega) 0 (.int .i64 (L : Int))
      have X3 := (g3.far (c := w.heap.size + 1 + 1) (by omega) 0 (.int .i64 (v : Int))).set 0 (.int .i64 (L : Int))
      have XB := ((But.refl (fun k => k = w.heap.size + 1 + 1 ∨ k = w.heap.size + 1 + 1 + 1) U).setCell (p := ⟨w.heap.size + 1 + 1, 0, none⟩) (fun _ => .inl rfl) (.int .i64 (v : Int))).setCell (p := ⟨w.heap.size + 1 + 1 + 1, 0, none⟩) (fun _ => .inr rfl) (.int .i64 (L : Int))
      have HX : Hid _ := And.intro XB (And.intro X2 X3)
      clear hE hE2 g2 g3 X2 X3 XB hj2 hj3
      gi_wp2_with fail
      refine round_region_till (S := fun V' => V'.cell? ⟨sb, 0, none⟩ = some (.int .i64 (L : Int)) ∧ V'.cell? ⟨sb, 1, none⟩ = some (.int .i64 Vn)) (R := fun _ => True) (k := 5) (m := 100) (by kernel_rfl) (by kernel_rfl) (by rintro ⟨_, _, ⟨-, (⟨q, _⟩ | ⟨q, _⟩)⟩⟩ <;> cases q) ⟨hcN, hcV⟩ trivial ?_
      (refine Walk.take (i := 0) (oi := { dst := some 20, op := Op.move (Operand.tmp 6), type := 5, pos := "huff.go:39", after := #[], guard := none }) (v := ?_) rfl (by kernel_rfl) (by kernel_rfl) (by kernel_rfl) (by kernel_rfl) (fun _ _ _ h => h) (Or.inl ⟨by rfl, ?_⟩) ?_; rotate_left; (intro w hw; clear hw; (try go_split_ands); go_simp; try (with_reducible rfl)); simp only [Act.put, List.setIfInBounds_toArray, List.set_cons_zero, List.set_cons_succ])
      (refine Walk.take (i := 1) (oi := { dst := some 21, op := Op.convert 5 3 (Operand.tmp 20), type := 3, pos := "huff.go:39", after := #[{ on := 0, ground := Ground.data }], guard := none }) (v := ?_) rfl (by kernel_rfl) (by kernel_rfl) (by kernel_rfl) (by kernel_rfl) (fun _ _ _ h => h) (Or.inl ⟨by rfl, ?_⟩) ?_; rotate_left; (intro w hw; clear hw; (try go_split_ands); go_simp; try (with_reducible rfl)); simp only [Act.put, List.setIfInBounds_toArray, List.set_cons_zero, List.set_cons_succ])
      (refine Walk.take (i := 2) (oi := { dst := some 22, op := Op.fieldAddr 36 (Operand.tmp 7) 0, type := 0, pos := "huff.go:39", after := #[{ on := 4, ground := Ground.gcOnly Departure.lateStores }], guard := none }) (v := ?_) rfl (by kernel_rfl) (by kernel_rfl) (by kernel_rfl) (by kernel_rfl) (fun _ _ _ h => h) (Or.inl ⟨by rfl, ?_⟩) ?_; rotate_left; (intro w hw; clear hw; (try go_split_ands); go_simp; try (with_reducible rfl)); simp only [Act.put, List.setIfInBounds_toArray, List.set_cons_zero, List.set_cons_succ])
      (refine Walk.take (i := 3) (oi := { dst := some 23, op := Op.load 3 (Operand.tmp 22), type := 3, pos := "huff.go:39", after := #[{ on := 2, ground := Ground.data }, { on := 4, ground := Ground.gcOnly Departure.lateStores }], guard := none }) (v := ?_) rfl (by kernel_rfl) (by kernel_rfl) (by kernel_rfl) (by kernel_rfl) (fun _ _ _ h => h) (Or.inl ⟨by rfl, ?_⟩) ?_; rotate_left; (intro w hw; have hS1 := hw.1 (by kernel_rfl); clear hw; (try dsimp only at hS1); (try go_split_ands); go_simp; try (with_reducible rfl)); simp only [Act.put, List.setIfInBounds_toArray, List.set_cons_zero, List.set_cons_succ])
      (refine Walk.go (i := 4) (o := { dst := none, op := Op.store 3 (Operand.tmp 4) (Operand.tmp 21), type := 0, pos := "huff.go:39", after := #[{ on := 1, ground := Ground.data }, { on := 0, ground := Ground.phase }, { on := 1, ground := Ground.phase }, { on := 2, ground := Ground.textOnly Departure.lateStores }, { on := 3, ground := Ground.textOnly Departure.lateStores }], guard := none }) (by kernel_rfl) rfl (fun K hK => ?_); go_simp; (skip); refine hK.out _ _ (⟨fun _ => ⟨gS.at 0, gS.at 1⟩, fun _ => trivial⟩) ?_; clear hK K; try simp only [Act.put, List.setIfInBounds_toArray, List.set_cons_zero, List.set_cons_succ])
      (refine Walk.go (i := 5) (o := { dst := none, op := Op.store 3 (Operand.tmp 5) (Operand.tmp 23), type := 0, pos := "huff.go:39", after := #[{ on := 3, ground := Ground.data }, { on := 4, ground := Ground.chain }, { on := 0, ground := Ground.phase }, { on := 1, ground := Ground.phase }, { on := 2, ground := Ground.phase }, { on := 3, ground := Ground.phase }, { on := 4, ground := Ground.phase }], guard := none }) (by kernel_rfl) rfl (fun K hK => ?_); go_simp; (skip); refine hK.out _ _ (⟨fun q => absurd q (by decide), fun _ => trivial⟩) ?_; clear hK K; try simp only [Act.put, List.setIfInBounds_toArray, List.set_cons_zero, List.set_cons_succ])
      refine Walk.done (by kernel_rfl) ?_ _
      gi_wp2_with fail
      exact ⟨HX.out.1.drew.drew, _, _, HF.out, HX.out.2.1, HX.out.2.2⟩
    · have hE2 : (b / 2 ^ M == Vn) = false := by simpa using hE
      rw [hE2]
      have HN : Hid (∀ p, p < i + 1 → ¬ Begins c p b) := fun p hp => by
        by_cases e : p = i
        · subst e; exact fun h => hE (HBG.out.1 h)
        · exact HJ1.out p (by omega)
      have HX : Hid _ := And.intro (bu.mono (T := (fun k => k = w.heap.size + 1 + 1 ∨ k = w.heap.size + 1 + 1 + 1)) (fun _ _ f => f.elim)) (And.intro hj2.drew hj3.drew)
      clear hE hE2 hj2 hj3
      gi_wp2_with fail
      exact ⟨HX.out.1, HN.out, HX.out.2.1, HX.out.2.2⟩
  · intro W' hb hJ hD hlt
    have hbb : But Nowhere w W' := kk.but.step hb (fun k hk q => by omega)
    have HF : Hid (Finds c l b 0 0) := finds_no hJ.1
    have c2 := hJ.2.1.at 0
    have f2 := hJ.2.1.frozen 0
    have c3 := (hJ.2.2.far (c := w.heap.size + 1 + 1) (by omega) 0 (.int .i64 0)).at 0
    have f3 := (hJ.2.2.far (c := w.heap.size + 1 + 1) (by omega) 0 (.int .i64 0)).frozen 0
    simp only [List.getElem?_cons_zero] at c2 c3
    have X2 := (hJ.2.1.set 0 (.int .i64 0)).far (c := w.heap.size + 1 + 1 + 1) (by omega) 0 (.int .i64 0)
    have X3 := (hJ.2.2.far (c := w.heap.size + 1 + 1) (by omega) 0 (.int .i64 0)).set 0 (.int .i64 0)
    have XB := ((But.refl (fun k => k = w.heap.size + 1 + 1 ∨ k = w.heap.size + 1 + 1 + 1) W').setCell (p := ⟨w.heap.size + 1 + 1, 0, none⟩) (fun _ => .inl rfl) (.int .i64 0)).setCell (p := ⟨w.heap.size + 1 + 1 + 1, 0, none⟩) (fun _ => .inr rfl) (.int .i64 0)
    have XD := (XB.block W1.heap.size hlt (by omega)).trans hD
    have HX : Hid _ := And.intro (hbb.step XB (fun k hk q => by omega)) (And.intro X2 (And.intro X3 XD))
    clear X2 X3 XB XD hbb hJ hb hD h2 h3 hV1 ktb
    gi_wp2_with fail
    refine ⟨by simp, .inl ⟨_, _, rfl, run_takeDeferred HX.out.2.2.2, ?_⟩⟩
    have bD := But.putObj (S := fun k => k = W1.heap.size) (But.refl (fun k => k = W1.heap.size) ((W'.setCell ⟨w.heap.size + 1 + 1, 0, none⟩ (.int .i64 0)).setCell ⟨w.heap.size + 1 + 1 + 1, 0, none⟩ (.int .i64 0))) (fun _ => rfl) (.deferred none)
    refine ⟨_, results_int2 rfl _ _ _ _ _ _ rfl rfl ((HX.out.2.1.but bD (by omega)).at 0) ((HX.out.2.2.1.but bD (by omega)).at 0), _, _, rfl, HF.out, ?_⟩
    exact HX.out.1.step bD (fun k hk q => by have := kk.but.size; omega)
  · intro W' hb hJ hD hlt
    obtain ⟨v, n, hF, x2, x3⟩ := hJ
    have hbb : But Nowhere w W' := kk.but.step hb (fun k hk q => by omega)
    have bD := But.putObj (S := fun k => k = W1.heap.size) (But.refl (fun k => k = W1.heap.size) W') (fun _ => rfl) (.deferred none)
    try simp only [Exit.inBlock]
    refine ⟨by simp, .inl ⟨_, _, rfl, run_takeDeferred hD, ?_⟩⟩
    refine ⟨_, results_int2 rfl _ _ _ _ _ _ rfl rfl ((x2.but bD (by omega)).at 0) ((x3.but bD (by omega)).at 0), _, _, rfl, hF, ?_⟩
    exact hbb.step bD (fun k hk q => by have := kk.but.size; omega)

end Go.Proofs.Ytadcfndjbhcfbaa
