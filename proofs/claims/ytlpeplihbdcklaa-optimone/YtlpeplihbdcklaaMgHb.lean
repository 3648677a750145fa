import Derived.Test.YtlpeplihbdcklaaMgHa
import Derived.Sort.CutIn
import Derived.Great.BuildSlice
import Derived.Laws.StructEq
import Derived.RangeFuncRecord
import Derived.Test.YtlpeplihbdcklaaHu4
import Derived.Test.YtlpeplihbdcklaaHu5

/- What the program's Check asks: that no code is of ones alone; and Check. -/
namespace Go.Proofs.Ytlpeplihbdcklaa
set_option linter.unusedVariables false
open Go.ChangeShapes Go.WideShapes Go.ChangeAt Go.RowKit Go.Shelf

attribute [local go_sem] Oper.semAt_some wide_fn wide_depth Fence.inRound_fn Fence.inRound_depth

/-- What stands behind a function that holds a range over a function and never panics. -/
def bodyPostN (F : Fence) (n : Nat) (P : Program) (fn : Func) (R : Ending → World → Prop) : Exit → Act → World → Prop
  | .normal, a, w | .ret, a, w => LeavesInM F n P fn a.tmps R a.defers .returning w
  | _, _, _ => False

theorem callsIn_of_wp_quiet {F : Fence} {n : Nat} {P : Program} {f : FuncId} {fn : Func} {c : Code} {args : Array Value} {w : World} {R : Ending → World → Prop}
    (hf : P.funcs[f]? = some fn) (hb : fn.body = some c) (hF : F.fn f)
    (h : c.wpIn F n P (bodyPostN F n P fn R) { tmps := args ++ Array.replicate (fn.ntmps - args.size) undef, defers := [] } w) (hro : F.round = none := by rfl) : CallsIn F n P f args w R :=
  callsIn_of_wp_marks hf hb hF (wpIn_mono h (fun e a w hq => by cases e <;> first | exact hq | exact hq.elim)) hro

theorem results_bool {fn : Func} {p : Tmp} (h : fn.results = #[.cell p 4]) (tmps : Array Value) (w : World) (g : Nat) (b : Bool) (hp : tmps.getD p undef = .pointer (some ⟨g, 0, none⟩)) (hg : w.cell? ⟨g, 0, none⟩ = some (.bool b)) :
    (results fn tmps).run Try.prog w = .ok (.bool b) w := by
  have hb := Try.underlying4
  have hp2 : (tmps[p]?).getD undef = .pointer (some ⟨g, 0, none⟩) := by simpa using hp
  simp [results, h, hp2, asAddr, go_sem, hg]

/-- No code of these counts is of ones alone, or beyond. -/
def onesB (c : Nat → Int) : Bool := (List.range (cnt c 16).toNat).all fun p => decide (numP c p < 2 ^ lenP c p - 1)
theorem onesB_iff (c : Nat → Int) : onesB c = true ↔ ∀ p : Nat, (p : Int) < cnt c 16 → numP c p < 2 ^ lenP c p - 1 := by
  unfold onesB
  simp only [List.all_eq_true, List.mem_range, decide_eq_true_eq]
  exact ⟨fun h p hp => h p (by omega), fun h p hp => h p (by omega)⟩

theorem pow_to (n : Nat) (h : n ≤ 16) : ((1 : Int) ≤ 2 ^ n ∧ (2 : Int) ^ n ≤ 65536) := by
  refine ⟨one_le_pow n, ?_⟩
  have := Nat.pow_le_pow_right (n := 2) (by decide) h
  have e : (2 : Nat) ^ 16 = 65536 := by decide
  rw [e] at this
  have e2 : ((2 ^ n : Nat) : Int) = (2 : Int) ^ n := by simp
  omega

set_option maxHeartbeats 3200000 in
set_option maxRecDepth 100000 in
theorem leavesOnes_any (c : Nat → Int) (hc : Cnt c) (w : World) : Calls Try.prog 30 #[.agg (tab .i64 16 c).toArray] w fun e w' => e = .returned (.bool (onesB c)) ∧ But Nowhere w w' := by
  have hu := Try.underlying28
  have hi16 : (Try.prog.info? 28).map (·.size) = some (tab .i64 16 c).length := by rw [tab_length]; kernel_rfl
  refine (callsIn_wide (n := 3)).1 ?_
  refine callsIn_of_wp_quiet Try.func30 rfl trivial ?_ rfl
  simp only [Try.ntmps30, List.size_toArray, List.length_cons, List.length_nil, Nat.reduceAdd, Nat.reduceSub, Array.replicate_succ, Array.replicate_zero, List.push_toArray, List.append_toArray, List.nil_append, List.cons_append]
  have kk := ((Keep.start w).made 28 (tab .i64 16 c)).made 4 [.bool false]
  simp only [World.size_alloc] at kk
  have hR := (kk.get (b := w.heap.size) (t := 28) (c := tab .i64 16 c) (by simp)).all
  gi_wp2_with (refine wpListIn_load_mid rfl 28 (.tmp 1) rfl (w.heap.size) 0 rfl (tab .i64 16 c) _ ?_ hu rfl hi16 ?_; exact hR)
  clear hR hu hi16
  revert kk
  generalize (w.alloc (.cells (tab .i64 16 c).toArray 28)).alloc (.cells #[.bool false] 4) = W0
  intro kk
  refine (callsIn_wide.2 (laid_any c W0)).mono ?_
  rintro e W1 ⟨cb, rfl, k1⟩
  have hcb := k1.new (cb, 28, tab .i64 16 c) (by simp)
  simp only at hcb
  have kcb := k1.head
  have hz0 := kk.head.lt
  replace kk := kk.step k1.but
  have rb := kk.head
  have hz1 := rb.lt
  gi_wp2_with fail
  refine range_till (T := fun k => k = w.heap.size + 1) (fun i W => (∀ p : Nat, p < i → numP c p < 2 ^ lenP c p - 1) ∧ Cells W (w.heap.size + 1) 4 [.bool false])
    (fun W => onesB c = false ∧ Cells W (w.heap.size + 1) 4 [.bool false]) (laid1_iter c hc cb) rfl (enters_of Try.func57 (by kernel_rfl) rfl) (fun _ => rfl)
    (fun i U hU _ => kcb.but hU (by omega)) (fun k hk => by omega) (fun i U U' hj hb => ⟨hj.1, hj.2.but hb (by omega)⟩) (fun U U' hj hb => ⟨hj.1, hj.2.but hb (by omega)⟩) ⟨fun p hp => by omega, rb⟩ ?_ ?_ ?_
  · intro lo i W KK hlo hlt hi hbW hJ hK
    have sm := hc.small i (by omega)
    have HPW : Hid _ := pow_to (lenP c i) sm.2.1
    have gC0 := Cells.new W 34 [.int .i64 ((lenP c i : Nat) : Int), .int .i64 (numP c i)]
    have HIN : Hid (i < (cnt c 16).toNat) := hi
    have hlo1 : W1.heap.size ≤ W.heap.size := hbW.size
    dsimp only
    unfold codeA
    gi_wp2_with fail
    refine hK _ _ ((But.refl _ _).alloc _) ?_
    clear hJ hK hbW hi
    intro U hU hlU hbU hJ
    have lw := hU.size
    simp only [World.size_alloc] at lw
    have gC := gC0.but hU (by omega)
    obtain ⟨sb, hsb⟩ : ∃ b, W.heap.size = b := ⟨_, rfl⟩
    rw [hsb] at gC lw hlo1 ⊢
    obtain ⟨L, hL⟩ : ∃ L : Nat, lenP c i = L := ⟨_, rfl⟩
    obtain ⟨V, hV⟩ : ∃ V : Int, numP c i = V := ⟨_, rfl⟩
    rw [hL] at gC sm HPW ⊢
    rw [hV] at gC sm ⊢
    have HLV : Hid _ := And.intro hL hV
    have cN := gC.drew.at 0
    have cV := gC.drew.at 1
    simp only [List.getElem?_cons_zero, List.getElem?_cons_succ] at cN cV
    have hr0 : ¬ ((L : Int) < 0) := by omega
    have hsh : IntKind.i64.wrap ((2 : Int) ^ L) = 2 ^ L := by rw [wrap_i64_eq]; exact w64 _ (by have := HPW.out; omega)
    have hp0 : (1 : Int) ≤ 2 ^ L ∧ (2 : Int) ^ L ≤ 65536 := HPW.out
    obtain ⟨hj1, hj2⟩ := hJ
    have HJ1 : Hid _ := hj1
    have hres := hj2.drew
    have bu : But Nowhere U U.drew := (But.refl _ _).drew
    have ht : IntKind.i64.wrap (2 ^ L - 1) = 2 ^ L - 1 := by rw [wrap_i64_eq]; exact w64 _ (by omega)
    have hs64 : (L : Int).toNat = L := by omega
    clear gC0 hU hlU hsb hL hV gC hj1 hj2
    gi_wp2_with fail
    refine round_region_till (S := fun V' => V'.cell? ⟨sb, 0, none⟩ = some (.int .i64 (L : Int)) ∧ V'.cell? ⟨sb, 1, none⟩ = some (.int .i64 V)) (R := fun _ => True) (k := 100) (m := 100) (by kernel_rfl) (by kernel_rfl) (by rintro ⟨_, _, ⟨-, (⟨q, _⟩ | ⟨q, _⟩)⟩⟩ <;> cases q) ⟨cN, cV⟩ trivial ?_
    (refine Walk.take (i := 0) (oi := { dst := some 9, op := Op.fieldAddr 34 (Operand.tmp 4) 1, type := 0, pos := "huff.go:128", after := #[], guard := none }) (v := ?_) rfl (by kernel_rfl) (by kernel_rfl) (by kernel_rfl) (by kernel_rfl) (fun _ _ _ h => h) (Or.inl ⟨by rfl, ?_⟩) ?_; rotate_left; (intro w hw; clear hw; (try go_split_ands); go_simp; try (with_reducible rfl)); simp only [Act.put, List.setIfInBounds_toArray, List.set_cons_zero, List.set_cons_succ])
    (refine Walk.take (i := 1) (oi := { dst := some 10, op := Op.load 3 (Operand.tmp 9), type := 3, pos := "huff.go:128", after := #[{ on := 0, ground := Ground.data }], guard := none }) (v := ?_) rfl (by kernel_rfl) (by kernel_rfl) (by kernel_rfl) (by kernel_rfl) (fun _ _ _ h => h) (Or.inl ⟨by rfl, ?_⟩) ?_; rotate_left; (intro w hw; have hS1 := hw.1 (by kernel_rfl); clear hw; (try dsimp only at hS1); (try go_split_ands); go_simp; try (with_reducible rfl)); simp only [Act.put, List.setIfInBounds_toArray, List.set_cons_zero, List.set_cons_succ])
    (refine Walk.take (i := 2) (oi := { dst := some 11, op := Op.fieldAddr 34 (Operand.tmp 4) 0, type := 0, pos := "huff.go:128", after := #[], guard := none }) (v := ?_) rfl (by kernel_rfl) (by kernel_rfl) (by kernel_rfl) (by kernel_rfl) (fun _ _ _ h => h) (Or.inl ⟨by rfl, ?_⟩) ?_; rotate_left; (intro w hw; clear hw; (try go_split_ands); go_simp; try (with_reducible rfl)); simp only [Act.put, List.setIfInBounds_toArray, List.set_cons_zero, List.set_cons_succ])
    (refine Walk.take (i := 3) (oi := { dst := some 12, op := Op.load 3 (Operand.tmp 11), type := 3, pos := "huff.go:128", after := #[{ on := 2, ground := Ground.data }], guard := none }) (v := ?_) rfl (by kernel_rfl) (by kernel_rfl) (by kernel_rfl) (by kernel_rfl) (fun _ _ _ h => h) (Or.inl ⟨by rfl, ?_⟩) ?_; rotate_left; (intro w hw; have hS1 := hw.1 (by kernel_rfl); clear hw; (try dsimp only at hS1); (try go_split_ands); go_simp; try (with_reducible rfl)); simp only [Act.put, List.setIfInBounds_toArray, List.set_cons_zero, List.set_cons_succ])
    (refine Walk.take (i := 4) (oi := { dst := some 13, op := Op.binOp BinOp.shl 3 (Operand.const (Value.int IntKind.i64 1)) (Operand.tmp 12) 3, type := 3, pos := "huff.go:128", after := #[{ on := 3, ground := Ground.data }], guard := none }) (v := ?_) rfl (by kernel_rfl) (by kernel_rfl) (by kernel_rfl) (by kernel_rfl) (fun _ _ _ h => h) (Or.inl ⟨by rfl, ?_⟩) ?_; rotate_left; (intro w hw; clear hw; (try go_split_ands); go_simp; try (with_reducible rfl)); simp only [Act.put, List.setIfInBounds_toArray, List.set_cons_zero, List.set_cons_succ])
    (refine Walk.take (i := 5) (oi := { dst := some 14, op := Op.binOp BinOp.sub 3 (Operand.tmp 13) (Operand.const (Value.int IntKind.i64 1)) 3, type := 3, pos := "huff.go:128", after := #[{ on := 4, ground := Ground.data }], guard := none }) (v := ?_) rfl (by kernel_rfl) (by kernel_rfl) (by kernel_rfl) (by kernel_rfl) (fun _ _ _ h => h) (Or.inl ⟨by rfl, ?_⟩) ?_; rotate_left; (intro w hw; clear hw; (try go_split_ands); go_simp; try (with_reducible rfl)); simp only [Act.put, List.setIfInBounds_toArray, List.set_cons_zero, List.set_cons_succ])
    (refine Walk.take (i := 6) (oi := { dst := some 15, op := Op.binOp BinOp.geq 3 (Operand.tmp 10) (Operand.tmp 14) 3, type := 4, pos := "huff.go:128", after := #[{ on := 1, ground := Ground.data }, { on := 5, ground := Ground.data }], guard := none }) (v := ?_) rfl (by kernel_rfl) (by kernel_rfl) (by kernel_rfl) (by kernel_rfl) (fun _ _ _ h => h) (Or.inl ⟨by rfl, ?_⟩) ?_; rotate_left; (intro w hw; clear hw; (try go_split_ands); go_simp; try (with_reducible rfl)); simp only [Act.put, List.setIfInBounds_toArray, List.set_cons_zero, List.set_cons_succ])
    refine Walk.done (by kernel_rfl) ?_ _
    clear hsh ht
    by_cases hd : 2 ^ L - 1 ≤ V
    · rw [decide_eq_true hd]
      have HST : Hid (onesB c = false) := by
        cases e : onesB c
        · rfl
        · have := (onesB_iff c).1 e i (by have := HIN.out; omega)
          rw [HLV.out.1, HLV.out.2] at this
          omega
      have c0 := hres.at 0
      have f0 := hres.frozen 0
      simp only [List.getElem?_cons_zero] at c0
      have HX : Hid _ := And.intro (hres.set 0 (.bool false)) (But.setCell (S := fun k => k = w.heap.size + 1) (p := ⟨w.heap.size + 1, 0, none⟩) (bu.mono (fun _ _ f => f.elim)) (fun _ => rfl) (.bool false))
      clear hres bu cN cV hp0 hd
      gi_wp2_with fail
      exact ⟨HX.out.2, HST.out, HX.out.1⟩
    · rw [decide_eq_false hd]
      have HX : Hid _ := And.intro hres (bu.mono (T := fun k => k = w.heap.size + 1) (fun _ _ f => f.elim))
      have HN : Hid (∀ p : Nat, p < i + 1 → numP c p < 2 ^ lenP c p - 1) := fun p hp => by
        by_cases e : p = i
        · subst e; rw [HLV.out.1, HLV.out.2]; omega
        · exact HJ1.out p (by omega)
      clear hres bu cN cV hp0 hd
      gi_wp2_with fail
      exact ⟨HX.out.2, HN.out, HX.out.1⟩
  · intro W' hb hJ hD hlt
    have HY : Hid (true = onesB c) := ((onesB_iff c).2 (fun p hp => hJ.1 p (by have := (onesB_iff c); omega))).symm
    have c0 := hJ.2.at 0
    have f0 := hJ.2.frozen 0
    simp only [List.getElem?_cons_zero] at c0
    have hbb : But Nowhere w W' := kk.but.step hb (fun k hk q => by omega)
    have hne : w.heap.size + 1 ≠ W1.heap.size := by omega
    have hD2 : (W'.setCell ⟨w.heap.size + 1, 0, none⟩ (.bool true)).heap[W1.heap.size]? = some (.deferred (some [])) := (Below.heap_setCell W' ⟨w.heap.size + 1, 0, none⟩ (.bool true) W1.heap.size (Ne.symm hne)).trans hD
    have hC2 := hJ.2.set 0 (.bool true)
    have HX : Hid _ := And.intro hD2 (And.intro hC2 hbb)
    clear hbb hC2 hD2 hJ hb hD
    gi_wp2_with fail
    refine ⟨by simp, .inl ⟨_, _, rfl, run_takeDeferred HX.out.1, ?_⟩⟩
    have bD := But.putObj (S := fun k => k = W1.heap.size) (But.refl (fun k => k = W1.heap.size) (W'.setCell ⟨w.heap.size + 1, 0, none⟩ (.bool true))) (fun _ => rfl) (.deferred none)
    refine ⟨_, results_bool rfl _ _ _ _ rfl ((HX.out.2.1.but bD hne).at 0), by rw [← HY.out], ?_⟩
    exact (HX.out.2.2.setCell (p := ⟨w.heap.size + 1, 0, none⟩) (fun q => by simp at q; omega) _).step bD (fun k hk q => by have := kk.but.size; omega)
  · intro W' hb hJ hD hlt
    have hbb : But Nowhere w W' := kk.but.step hb (fun k hk q => by omega)
    have hne : w.heap.size + 1 ≠ W1.heap.size := by omega
    have bD := But.putObj (S := fun k => k = W1.heap.size) (But.refl (fun k => k = W1.heap.size) W') (fun _ => rfl) (.deferred none)
    try simp only [Exit.inBlock, Exit.then]
    refine ⟨by simp, .inl ⟨_, _, rfl, run_takeDeferred hD, ?_⟩⟩
    refine ⟨_, results_bool rfl _ _ _ _ rfl ((hJ.2.but bD hne).at 0), by rw [hJ.1], ?_⟩
    exact hbb.step bD (fun k hk q => by have := kk.but.size; omega)

theorem checkB_eq (c : Nat → Int) (l : List Int) : (cntB c l && (decide l.Nodup && onesB c)) = checkB c l := by
  cases h : checkB c l
  · cases h1 : cntB c l
    · rfl
    · cases h2 : decide l.Nodup
      · rfl
      · cases h3 : onesB c
        · rfl
        · exfalso
          have a1 := (cntB_iff c l).1 h1
          have : checkB c l = true := (checkB_iff c l).2 ⟨a1.1.below.2 ((onesB_iff c).1 h3), a1.2.1, a1.2.2, of_decide_eq_true h2⟩
          rw [h] at this
          cases this
  · have o := (checkB_iff c l).1 h
    rw [(cntB_iff c l).2 ⟨o.ok.counts, o.sum, o.most⟩, decide_eq_true o.once, (onesB_iff c).2 (o.ok.counts.below.1 o.ok)]
    rfl

set_option maxHeartbeats 3200000 in
set_option maxRecDepth 100000 in
theorem check_any (c : Nat → Int) (pv : Value) (l : List Int) (hI : ∀ j, j < 16 → I64 (c j)) (w : World) (hv : View w .u8 pv l) (hx : ∀ x ∈ l, 0 ≤ x ∧ x ≤ 255) (hl : l.length ≤ 140737488355328) : Calls Try.prog 12 #[.agg (tbl c pv).toArray] w fun e w' => e = .returned (.bool (checkB c l)) ∧ But Nowhere w w' := by
  have HV : Hid (View w .u8 pv l) := hv
  obtain ⟨ao, cap, rfl⟩ := hv.slice
  clear hv
  rw [← checkB_eq]
  have huT := Try.underlying30
  have hu := Try.underlying28
  have hiT : (Try.prog.info? 30).map (·.size) = some (tbl c (.slice ao l.length cap)).length := by rw [tbl_length]; kernel_rfl
  have hi16 : (Try.prog.info? 28).map (·.size) = some (tab .i64 16 c).length := by rw [tab_length]; kernel_rfl
  have kk := (Keep.start w).made 30 (tbl c (.slice ao l.length cap))
  go_enter Try.func12, Try.ntmps12
  have hR := kk.head.all
  go_wp2_with (refine wpList_load_mid rfl 30 (.tmp 1) rfl (w.heap.size) 0 rfl (tbl c (.slice ao l.length cap)) _ ?_ huT rfl hiT ?_; exact hR)
  refine (isCounted_any c _ l hI _ (HV.out.but kk.but) hl).mono ?_
  rintro e y1 ⟨rfl, dd⟩
  replace kk := kk.step dd
  clear dd hR
  cases h1 : cntB c l
  · have HX : Hid _ := kk.but
    have HE : Hid _ := h1
    clear kk h1
    go_wp2_with fail
    go_ret
    first | exact ⟨rfl, HX.out⟩ | (rw [HE.out]; exact ⟨rfl, HX.out⟩)
  · have c16 := kk.head.vals
    go_wp2_with fail
    refine (isOnce_any _ l _ (HV.out.but kk.but) hx hl).mono ?_
    rintro e y2 ⟨rfl, dd⟩
    replace kk := kk.step dd
    clear dd c16
    cases h2 : decide l.Nodup
    · have HX : Hid _ := kk.but
      have HE : Hid _ := And.intro h1 h2
      clear kk h1 h2
      go_wp2_with fail
      go_ret
      first | exact ⟨rfl, HX.out⟩ | (rw [HE.out.1, HE.out.2]; exact ⟨rfl, HX.out⟩)
    · have hR := tbl_range kk.head
      go_wp2_with (refine wpList_load_midG rfl 28 (.tmp 11) rfl (w.heap.size) 0 rfl (tab .i64 16 c) _ ?_ hu rfl hi16 ?_; exact hR)
      refine (leavesOnes_any c ((cntB_iff c l).1 h1).1 _).mono ?_
      rintro e y3 ⟨rfl, dd⟩
      replace kk := kk.step dd
      clear dd hR
      have HX : Hid _ := kk.but
      have HE : Hid _ := And.intro h1 h2
      clear kk h1 h2
      go_wp2_with fail
      go_ret
      first | exact ⟨rfl, HX.out⟩ | (rw [HE.out.1, HE.out.2]; exact ⟨rfl, HX.out⟩)

end Go.Proofs.Ytlpeplihbdcklaa

/- The values of a table, each with its code, as the program tells them: told. -/
namespace Go.Proofs.Ytlpeplihbdcklaa
set_option linter.unusedVariables false
open Go.ChangeShapes Go.WideShapes Go.ChangeAt Go.RowKit Go.Shelf

attribute [local go_sem] Oper.semAt_some wide_fn wide_depth Fence.inRound_fn Fence.inRound_depth

theorem round_in {n m l₀ : Nat} {P : Program} {l : Nat} {f : FuncId} {tmps : Array Value} {assign body : Code} {w : World} {R : Ending → World → Prop} (h : RoundIn Fence.wide n P l f tmps assign body w R) : RoundIn (Fence.wide.inRound l₀) m P l f tmps assign body w R :=
  ⟨h.1, fun c cs _ => h.2 c cs (room_wide _)⟩

theorem told_any (c : Nat → Int) (pv : Value) (l : List Int) (w : World) (hv : View w .u8 pv l) : Calls Try.prog 31 #[.agg (tbl c pv).toArray] w fun e w' => ∃ b, e = .returned (.func (.func 48) #[] #[.pointer (some ⟨b, 0, none⟩)]) ∧ Keep w w' [(b, 30, tbl c pv)] := by
  obtain ⟨ao, cap, rfl⟩ := hv.slice
  have kk := (Keep.start w).made 30 (tbl c (.slice ao l.length cap))
  go_enter Try.func31, Try.ntmps31
  go_wp2_with fail
  go_ret
  exact ⟨_, rfl, kk⟩

/-- How many are told, and which. -/
def toldN (c : Nat → Int) (l : List Int) : Nat := if checkB c l then l.length else 0
abbrev toldA (c : Nat → Int) (l : List Int) (p : Nat) : Array Value := #[.int .u8 (l.getD p 0), codeA c p]

set_option maxHeartbeats 6400000 in
set_option maxRecDepth 100000 in
theorem told1_iter (c : Nat → Int) (pv : Value) (l : List Int) (tb : Nat) (hI : ∀ j, j < 16 → I64 (c j)) (hx : ∀ x ∈ l, 0 ≤ x ∧ x ≤ 255) (hl : l.length ≤ 140737488355328) :
    IterS Try.prog 48 #[.pointer (some ⟨tb, 0, none⟩)] (toldN c l) (toldA c l) (fun W => Cells W tb 30 (tbl c pv) ∧ View W .u8 pv l) := by
  intro n lo W J D HJ HD HI HY hJ0
  obtain ⟨N, hN⟩ : ∃ N, toldN c l = N := ⟨_, rfl⟩
  rw [hN] at HY ⊢
  have hmx : Try.prog.follows .mixedOrders = true := by kernel_rfl
  obtain ⟨hT0, hV0⟩ := HI 0 W hJ0
  obtain ⟨ao, cap, rfl⟩ := hV0.slice
  have huT := Try.underlying30
  have hu := Try.underlying28
  have hiT : (Try.prog.info? 30).map (·.size) = some (tbl c (.slice ao l.length cap)).length := by rw [tbl_length]; kernel_rfl
  have hi16 : (Try.prog.info? 28).map (·.size) = some (tab .i64 16 c).length := by rw [tab_length]; kernel_rfl
  have kk := (Keep.start W).made 79 [.func (.yield lo) #[] #[]]
  have hR := (hT0.but kk.but (not_nowhere _)).all
  have hR2 := tbl_range (hT0.but kk.but (not_nowhere _))
  refine callsIn_of_wp_quiet Try.func48 rfl trivial ?_ rfl
  simp only [Try.ntmps48, List.size_toArray, List.length_cons, List.length_nil, Nat.reduceAdd, Nat.reduceSub, Array.replicate_succ, Array.replicate_zero, List.push_toArray, List.append_toArray, List.nil_append, List.cons_append]
  gi_wp2_with (refine wpListIn_load_mid rfl 30 (.tmp 1) rfl tb 0 rfl (tbl c (.slice ao l.length cap)) _ ?_ huT rfl hiT ?_; exact hR)
  clear hR hR2 huT hiT
  revert kk
  generalize W.alloc (.cells #[.func (.yield lo) #[] #[]] 79) = W1
  intro kk
  refine (callsIn_wide.2 (check_any c _ l hI W1 (hV0.but kk.but) hx hl)).mono ?_
  rintro e W2 ⟨rfl, dd⟩
  replace kk := kk.step dd
  clear dd
  unfold toldN at hN
  cases hB : checkB c l
  · rw [hB, if_neg (by simp)] at hN
    subst hN
    have j1 := HJ 0 _ W2 hJ0 (kk.but.mono (fun _ _ f => f.elim))
    clear HY HJ hJ0 kk hT0 hV0
    gi_wp2_with fail
    exact ⟨_, results_none rfl _ _ _, ⟨_, rfl⟩, .inl j1⟩
  · rw [hB, if_pos rfl] at hN
    subst hN
    have hok := (checkB_iff c l).1 hB
    have hR := tbl_range (hT0.but kk.but (not_nowhere _))
    gi_wp2_with (refine wpListIn_load_mid rfl 28 (.tmp 8) rfl tb 0 rfl (tab .i64 16 c) _ ?_ hu rfl hi16 ?_; exact hR)
    refine (callsIn_wide.2 (laid_any c W2)).mono ?_
    rintro e W3 ⟨cb, rfl, k1⟩
    have hcb := k1.new (cb, 28, tab .i64 16 c) (by simp)
    simp only at hcb
    have kcb := k1.head
    have hz0 := kk.head.lt
    replace kk := kk.step k1.but
    have hz1 := kk.head.lt
    have hz2 := k1.but.size
    have j3 := HJ 0 _ W3 hJ0 (kk.but.mono (fun _ _ f => f.elim))
    have hNl : (cnt c 16).toNat = l.length := by have := hok.sum; omega
    have ITR := laid1_iter c hok.ok.counts cb
    rw [hNl] at ITR
    clear hR hJ0 hV0 k1 hu hi16
    gi_wp2_with fail
    refine range_till (T := fun k => k < W.heap.size) J D ITR rfl (enters_of Try.func57 (by kernel_rfl) rfl) (fun _ => rfl)
      (fun i U hU _ => kcb.but hU (by omega)) (fun k hk => by have := kk.but.size; omega) (fun i U U' hj hb => HJ i U U' hj (hb.mono (fun k _ q => by have := kk.but.size; omega))) (fun U U' hj hb => HD U U' hj (hb.mono (fun k _ q => by have := kk.but.size; omega))) j3 ?_ ?_ ?_
    · intro lo' i U KK hlo hlt hi hbU hJ hK
      have hil : i < l.length := hi
      have gC0 := Cells.new U 34 [.int .i64 ((lenP c i : Nat) : Int), .int .i64 (numP c i)]
      have hlo1 : W3.heap.size ≤ U.heap.size := hbU.size
      dsimp only
      unfold codeA
      gi_wp2_with fail
      refine hK _ _ ((But.refl _ _).alloc _) ?_
      clear hJ hK hbU hi
      intro V hV hlV hbV hJ
      have lw := hV.size
      simp only [World.size_alloc] at lw
      have gC := gC0.but hV (by omega)
      obtain ⟨sb, hsb⟩ : ∃ b, U.heap.size = b := ⟨_, rfl⟩
      rw [hsb] at gC lw hlo1 ⊢
      have bu : But Nowhere V V.drew := (But.refl _ _).drew
      have jd := HJ i V V.drew hJ (bu.mono (fun _ _ f => f.elim))
      obtain ⟨hT1, hV1⟩ := HI i V.drew jd
      obtain ⟨-, vb, off, hao, -, e1⟩ := hV1.at i hil
      have c16 := hT1.vals
      have cY := (kk.head.but (hbV.trans (bu.mono (fun _ _ f => f.elim))) (by omega)).at 0
      have cN := gC.drew.at 0
      have cV := gC.drew.at 1
      simp only [List.getElem?_cons_zero, List.getElem?_cons_succ] at cY cN cV
      rw [hao] at c16
      have hzV : W.heap.size ≤ V.drew.heap.size := by
        have := hbV.size
        have := bu.size
        omega
      obtain ⟨fn, tmps, assign, body, hy, hRnd⟩ := HY i V.drew hil hzV jd
      rw [show toldA c l i = #[.int .u8 l[i], codeA c i] by unfold toldA; rw [List.getD_eq_getElem?_getD, List.getElem?_eq_getElem hil]; rfl] at hy
      unfold codeA at hy
      have q0 : (0 : Int) ≤ (i : Int) := by omega
      have q1 : (i : Int) < (l.length : Int) := by omega
      obtain ⟨x, hxe⟩ : ∃ x, l[i] = x := ⟨_, rfl⟩
      rw [hxe] at hy e1
      obtain ⟨L, hL⟩ : ∃ L : Nat, lenP c i = L := ⟨_, rfl⟩
      obtain ⟨Vn, hVn⟩ : ∃ V : Int, numP c i = V := ⟨_, rfl⟩
      rw [hL] at hy cN ⊢
      rw [hVn] at hy cV ⊢
      have HBV : Hid _ := hbV
      have HBU : Hid _ := bu
      clear gC0 hV hlV hsb hL hVn hxe hT1 hV1 hJ jd gC hbV bu HJ HD HI hx hcb kcb ITR
      subst hao
      gi_wp2_with fail
      refine round_region_walk (S := fun V' => V'.cell? ⟨vb, off + i, none⟩ = some (.int .u8 x) ∧ V'.cell? ⟨W.heap.size, 0, none⟩ = some (.func (.yield lo) #[] #[]) ∧ V'.cell? ⟨sb, 0, none⟩ = some (.int .i64 (L : Int)) ∧ V'.cell? ⟨sb, 1, none⟩ = some (.int .i64 Vn)) (R := fun V' => V'.cell? ⟨tb, 16, none⟩ = some (.slice (some ⟨vb, off, none⟩) l.length cap)) (k := 7) (m := 4) (by kernel_rfl) ⟨e1, cY, cN, cV⟩ c16 ?_
      (refine WalkR.take (by kernel_rfl) (i := 0) (oi := { dst := some 13, op := Op.load 79 (Operand.tmp 2), type := 79, pos := "huff.go:77", after := #[], guard := none }) (v := ?_) rfl (by kernel_rfl) (by kernel_rfl) (by kernel_rfl) (by kernel_rfl) (fun _ _ _ h => h) (Or.inl ⟨by rfl, ?_⟩) ?_; rotate_left; (intro w hw; have hS1 := hw.1 (by kernel_rfl); clear hw; (try dsimp only at hS1); (try go_split_ands); go_simp; try (with_reducible rfl)); simp only [Act.put, List.setIfInBounds_toArray, List.set_cons_zero, List.set_cons_succ])
      (refine WalkR.take (by kernel_rfl) (i := 1) (oi := { dst := some 14, op := Op.fieldAddr 30 (Operand.tmp 1) 1, type := 0, pos := "huff.go:77", after := #[], guard := none }) (v := ?_) rfl (by kernel_rfl) (by kernel_rfl) (by kernel_rfl) (by kernel_rfl) (fun _ _ _ h => h) (Or.inl ⟨by rfl, ?_⟩) ?_; rotate_left; (intro w hw; clear hw; (try go_split_ands); go_simp; try (with_reducible rfl)); simp only [Act.put, List.setIfInBounds_toArray, List.set_cons_zero, List.set_cons_succ])
      (refine WalkR.take (by kernel_rfl) (i := 2) (oi := { dst := some 15, op := Op.load 23 (Operand.tmp 14), type := 23, pos := "huff.go:77", after := #[{ on := 1, ground := Ground.data }], guard := none }) (v := ?_) rfl (by kernel_rfl) (by kernel_rfl) (by kernel_rfl) (by kernel_rfl) (fun _ _ _ h => h) (Or.inl ⟨by rfl, ?_⟩) ?_; rotate_left; (intro w hw; have hS2 := hw.2 (by kernel_rfl); clear hw; (try dsimp only at hS2); (try go_split_ands); go_simp; try (with_reducible rfl)); simp only [Act.put, List.setIfInBounds_toArray, List.set_cons_zero, List.set_cons_succ])
      (refine WalkR.take (by kernel_rfl) (i := 3) (oi := { dst := some 16, op := Op.move (Operand.tmp 3), type := 3, pos := "huff.go:77", after := #[], guard := none }) (v := ?_) rfl (by kernel_rfl) (by kernel_rfl) (by kernel_rfl) (by kernel_rfl) (fun _ _ _ h => h) (Or.inl ⟨by rfl, ?_⟩) ?_; rotate_left; (intro w hw; clear hw; (try go_split_ands); go_simp; try (with_reducible rfl)); simp only [Act.put, List.setIfInBounds_toArray, List.set_cons_zero, List.set_cons_succ])
      (refine WalkR.take (by kernel_rfl) (i := 6) (oi := { dst := some 19, op := Op.load 34 (Operand.tmp 4), type := 34, pos := "huff.go:77", after := #[], guard := none }) (v := ?_) rfl (by kernel_rfl) (by kernel_rfl) (by kernel_rfl) (by kernel_rfl) (fun _ _ _ h => h) (Or.inl ⟨by rfl, ?_⟩) ?_; rotate_left; (intro w hw; have hS1 := hw.1 (by kernel_rfl); clear hw; (try dsimp only at hS1); (try go_split_ands); go_simp; try (with_reducible rfl)); simp only [Act.put, List.setIfInBounds_toArray, List.set_cons_zero, List.set_cons_succ])
      (refine WalkR.go (i := 4) (o := { dst := some 17, op := Op.indexAddr 23 (Operand.tmp 15) (Operand.tmp 16), type := 0, pos := "huff.go:77", after := #[{ on := 2, ground := Ground.data }, { on := 3, ground := Ground.data }], guard := none }) (by kernel_rfl) rfl (fun K hK => ?_); go_simp; (skip); refine hK.out _ _ (⟨fun _ => ⟨e1, cY, cN, cV⟩, fun q => absurd q (by decide)⟩) ?_; clear hK K; try simp only [Act.put, List.setIfInBounds_toArray, List.set_cons_zero, List.set_cons_succ])
      (refine WalkR.take (by kernel_rfl) (i := 5) (oi := { dst := some 18, op := Op.load 5 (Operand.tmp 17), type := 5, pos := "huff.go:77", after := #[{ on := 4, ground := Ground.data }], guard := none }) (v := ?_) rfl (by kernel_rfl) (by kernel_rfl) (by kernel_rfl) (by kernel_rfl) (fun _ _ _ h => h) (Or.inl ⟨by rfl, ?_⟩) ?_; rotate_left; (intro w hw; have hS1 := hw.1 (by kernel_rfl); clear hw; (try dsimp only at hS1); (try go_split_ands); go_simp; try (with_reducible rfl)); simp only [Act.put, List.setIfInBounds_toArray, List.set_cons_zero, List.set_cons_succ])
      refine WalkR.go (i := 7) (o := { dst := some 20, op := Op.call { callee := Callee.value (Operand.tmp 13), args := #[Operand.tmp 18, Operand.tmp 19], argTypes := #[5, 34] }, type := 4, pos := "huff.go:77", after := #[{ on := 0, ground := Ground.data }, { on := 5, ground := Ground.data }, { on := 6, ground := Ground.data }], guard := none }) (by kernel_rfl) rfl (fun K hK => ?_)
      go_simp
      refine (round_in hRnd).mono ?_
      rintro e W4 ⟨hb4, (⟨rfl, j4⟩ | ⟨rfl, d4⟩)⟩
      · refine hK.out _ _ (⟨fun q => absurd q (by decide), fun q => absurd q (by decide)⟩) ?_
        clear hK K
        try simp only [Act.put, List.setIfInBounds_toArray, List.set_cons_zero, List.set_cons_succ]
        (refine WalkR.take (by kernel_rfl) (i := 8) (oi := { dst := some 21, op := Op.unOp UnOp.not 4 (Operand.tmp 20), type := 4, pos := "huff.go:77", after := #[{ on := 7, ground := Ground.data }], guard := none }) (v := ?_) rfl (by kernel_rfl) (by kernel_rfl) (by kernel_rfl) (by kernel_rfl) (fun _ _ _ h => h) (Or.inl ⟨by rfl, ?_⟩) ?_; rotate_left; (intro w hw; clear hw; (try go_split_ands); go_simp; try (with_reducible rfl)); simp only [Act.put, List.setIfInBounds_toArray, List.set_cons_zero, List.set_cons_succ])
        refine WalkR.done (by kernel_rfl) ?_ _
        have HX : Hid _ := And.intro hb4 j4
        clear hb4 j4 hy hRnd
        gi_wp2_with fail
        exact ⟨(HBU.out.mono (fun _ _ f => f.elim)).trans HX.out.1, HX.out.2⟩
      · refine hK.out _ _ (⟨fun q => absurd q (by decide), fun q => absurd q (by decide)⟩) ?_
        clear hK K
        try simp only [Act.put, List.setIfInBounds_toArray, List.set_cons_zero, List.set_cons_succ]
        (refine WalkR.take (by kernel_rfl) (i := 8) (oi := { dst := some 21, op := Op.unOp UnOp.not 4 (Operand.tmp 20), type := 4, pos := "huff.go:77", after := #[{ on := 7, ground := Ground.data }], guard := none }) (v := ?_) rfl (by kernel_rfl) (by kernel_rfl) (by kernel_rfl) (by kernel_rfl) (fun _ _ _ h => h) (Or.inl ⟨by rfl, ?_⟩) ?_; rotate_left; (intro w hw; clear hw; (try go_split_ands); go_simp; try (with_reducible rfl)); simp only [Act.put, List.setIfInBounds_toArray, List.set_cons_zero, List.set_cons_succ])
        refine WalkR.done (by kernel_rfl) ?_ _
        have HX : Hid _ := And.intro hb4 d4
        clear hb4 d4 hy hRnd
        gi_wp2_with fail
        exact ⟨(HBU.out.mono (fun _ _ f => f.elim)).trans HX.out.1, HX.out.2⟩
    · intro W' hb hJ hD hlt
      have hne := kk.but.size
      have bD := But.putObj (S := fun k => k = W3.heap.size) (But.refl (fun k => k = W3.heap.size) W') (fun _ => rfl) (.deferred none)
      have j1 := HJ l.length _ _ hJ (bD.mono (fun k _ q => by omega))
      gi_wp2_with fail
      refine ⟨by simp, .inl ⟨_, _, rfl, run_takeDeferred hD, ?_⟩⟩
      exact ⟨_, results_none rfl _ _ _, ⟨_, rfl⟩, .inl j1⟩
    · intro W' hb hJ hD hlt
      have hne := kk.but.size
      have bD := But.putObj (S := fun k => k = W3.heap.size) (But.refl (fun k => k = W3.heap.size) W') (fun _ => rfl) (.deferred none)
      have j1 := HD _ _ hJ (bD.mono (fun k _ q => by omega))
      try simp only [Exit.inBlock]
      refine ⟨by simp, .inl ⟨_, _, rfl, run_takeDeferred hD, ?_⟩⟩
      exact ⟨_, results_none rfl _ _ _, ⟨_, rfl⟩, .inr j1⟩

end Go.Proofs.Ytlpeplihbdcklaa

/- What the program's Codes answers. -/
namespace Go.Proofs.Ytlpeplihbdcklaa
set_option linter.unusedVariables false
open Go.ChangeShapes Go.WideShapes Go.ChangeAt Go.RowKit Go.Shelf

attribute [local go_sem] Oper.semAt_some wide_fn wide_depth Fence.inRound_fn Fence.inRound_depth

theorem toldN_ok {c : Nat → Int} {l : List Int} {i : Nat} (h : i < toldN c l) : OkT c l ∧ i < l.length := by
  unfold toldN at h
  cases hB : checkB c l
  · rw [hB] at h; simp at h
  · rw [hB, if_pos rfl] at h; exact ⟨(checkB_iff c l).1 hB, h⟩

theorem told_codes (c : Nat → Int) (l : List Int) : tab .i64 512 (both (toN c l (toldN c l)) (toV c l (toldN c l))) = tab .i64 512 (both (codN c l) (codV c l)) := both_congr _ _ _ _ (fun v _ => by
  unfold codN codV toldN
  cases hB : checkB c l
  · simpa using to_zero c l v
  · simp)

theorem view_off {w : World} {pv : Value} {l : List Int} (h : View w .u8 pv l) (T : Nat → Prop) (hT : ∀ k, T k → w.heap.size ≤ k) : Off T pv := View.off h (fun b hb q => by have := hT b q; omega)

set_option maxHeartbeats 6400000 in
set_option maxRecDepth 100000 in
theorem codes_spec (c : Nat → Int) (pv : Value) (l : List Int) (hI : ∀ j, j < 16 → I64 (c j)) (w : World) (hv : View w .u8 pv l) (hx : ∀ x ∈ l, 0 ≤ x ∧ x ≤ 255) (hl : l.length ≤ 140737488355328) : Calls Try.prog 13 #[.agg (tbl c pv).toArray] w fun e w' => e = .returned (.agg (tab .i64 512 (both (codN c l) (codV c l))).toArray) ∧ But Nowhere w w' := by
  have HV : Hid (View w .u8 pv l) := hv
  have HOFF := view_off hv (fun k => k = w.heap.size + 1 + 1) (fun k q => by omega)
  obtain ⟨ao, cap, rfl⟩ := hv.slice
  clear hv
  have huT := Try.underlying30
  have hu := Try.underlying35
  have hiT : (Try.prog.info? 30).map (·.size) = some (tbl c (.slice ao l.length cap)).length := by rw [tbl_length]; kernel_rfl
  have hiA : ∀ f, (Try.prog.info? 35).map (·.size) = some (tab .i64 512 f).length := fun f => by rw [tab_length]; kernel_rfl
  have hiB : ∀ f, (Try.prog.info? 35).map (·.size) = some (tab .i64 512 f).toArray.size := fun f => by rw [List.size_toArray, tab_length]; kernel_rfl
  have HI : Hid _ := And.intro hiA hiB
  clear hiA hiB
  have hz := zero512
  refine (callsIn_wide (n := 3)).1 ?_
  refine callsIn_of_wp_quiet Try.func13 rfl trivial ?_ rfl
  simp only [Try.ntmps13, List.size_toArray, List.length_cons, List.length_nil, Nat.reduceAdd, Nat.reduceSub, Array.replicate_succ, Array.replicate_zero, List.push_toArray, List.append_toArray, List.nil_append, List.cons_append]
  have kk := (((Keep.start w).made 30 (tbl c (.slice ao l.length cap))).made 35 (tab .i64 512 (fun _ => 0))).made 35 (tab .i64 512 (fun _ => 0))
  simp only [World.size_alloc] at kk
  have hR := (kk.get (b := w.heap.size) (t := 30) (c := tbl c (.slice ao l.length cap)) (by simp)).all
  gi_wp2_with (refine wpListIn_load_mid rfl 30 (.tmp 1) rfl (w.heap.size) 0 rfl (tbl c (.slice ao l.length cap)) _ ?_ huT rfl hiT ?_; exact hR)
  clear hR huT hiT hz
  revert kk
  generalize ((w.alloc (.cells (tbl c (.slice ao l.length cap)).toArray 30)).alloc (.cells (tab .i64 512 (fun _ => 0)).toArray 35)).alloc (.cells (tab .i64 512 (fun _ => 0)).toArray 35) = W0
  intro kk
  refine (callsIn_wide.2 (told_any c _ l W0 (HV.out.but kk.but))).mono ?_
  rintro e W1 ⟨tb, rfl, k1⟩
  have htb := k1.new (tb, 30, tbl c (.slice ao l.length cap)) (by simp)
  simp only at htb
  have ktb := k1.head
  have hz0 := kk.head.lt
  replace kk := kk.step k1.but
  have hz1 := k1.but.size
  have hV1 := HV.out.but kk.but
  have hcb := kk.head
  rw [show (tab .i64 512 (fun _ => 0)) = tab .i64 512 (both (toN c l 0) (toV c l 0)) from both_zero _ _ (fun v _ => to_zero c l v)] at hcb
  gi_wp2_with fail
  refine range_till (T := fun k => k = w.heap.size + 1 + 1) (fun i W => Cells W (w.heap.size + 1 + 1) 35 (tab .i64 512 (both (toN c l i) (toV c l i))))
    (fun _ => False) (told1_iter c _ l tb hI hx hl) rfl (enters_of Try.func48 (by kernel_rfl) rfl) (fun _ => rfl)
    (fun i U hU _ => ⟨ktb.but hU (by omega), hV1.butS hU HOFF⟩) (fun k hk => by omega) (fun i U U' hj hb => hj.but hb (by omega)) (fun U U' hj hb => hj) hcb ?_ ?_ ?_
  · intro lo i W KK hlo hlt hi hbW hJ hK
    obtain ⟨hok, hil⟩ := toldN_ok hi
    have gC0 := Cells.new W 34 [.int .i64 ((lenP c i : Nat) : Int), .int .i64 (numP c i)]
    have hlo1 : W1.heap.size ≤ W.heap.size := hbW.size
    obtain ⟨v, hv⟩ : ∃ v : Nat, l[i] = (v : Int) := ⟨l[i].toNat, by have := hx _ (List.getElem_mem hil); omega⟩
    have hv1 : v < 256 := by have := hx _ (List.getElem_mem hil); omega
    have HST : Hid _ := to_set c l hok.once i hil v hv
    rw [show toldA c l i = #[.int .u8 (v : Int), codeA c i] by unfold toldA; rw [List.getD_eq_getElem?_getD, List.getElem?_eq_getElem hil, ← hv]; rfl]
    unfold codeA
    gi_wp2_with fail
    refine hK _ _ ((But.refl _ _).alloc _) ?_
    clear hJ hK hbW hi
    intro U hU hlU hbU hJ
    have lw := hU.size
    simp only [World.size_alloc] at lw
    have gC := gC0.but hU (by omega)
    obtain ⟨sb, hsb⟩ : ∃ b, W.heap.size = b := ⟨_, rfl⟩
    rw [hsb] at gC lw hlo1 ⊢
    obtain ⟨L, hL⟩ : ∃ L : Nat, lenP c i = L := ⟨_, rfl⟩
    obtain ⟨Vn, hVn⟩ : ∃ V : Int, numP c i = V := ⟨_, rfl⟩
    rw [hL] at gC HST ⊢
    rw [hVn] at gC HST ⊢
    have cN := gC.at 0
    have cV := gC.at 1
    simp only [List.getElem?_cons_zero, List.getElem?_cons_succ] at cN cV
    have v0 : (0 : Int) ≤ (v : Int) := by omega
    have v2 : (v : Int) < 256 := by omega
    have q0 := hJ.cell (v * 2) (by omega)
    have q2 := hJ.cell (v * 2 + 1) (by omega)
    have f0 := hJ.frozen (v * 2)
    have f1 := hJ.frozen (v * 2 + 1)
    have kX := (hJ.set (v * 2) (.int .i64 (L : Int))).set (v * 2 + 1) (.int .i64 Vn)
    rw [both_set, HST.out] at kX
    have bX := ((But.refl (fun k => k = w.heap.size + 1 + 1) U).setCell (p := ⟨w.heap.size + 1 + 1, v * 2, none⟩) (fun _ => rfl) (.int .i64 (L : Int))).setCell (p := ⟨w.heap.size + 1 + 1, v * 2 + 1, none⟩) (fun _ => rfl) (.int .i64 Vn)
    have HX : Hid _ := And.intro bX kX
    clear gC0 hU hlU hsb hL hVn gC hJ kX bX hv
    gi_wp2_with fail
    exact HX.out
  · intro W' hb hJ hD hlt
    rw [told_codes] at hJ
    have hr1 := hJ.all
    have hc2 := (kk.get (b := w.heap.size + 1) (t := 35) (c := (tab .i64 512 (fun _ => 0))) (by simp)).but hb (by omega)
    have hth := hc2.there 0 (tab .i64 512 (both (codN c l) (codV c l))).toArray.size (by simp [tab_length])
    have hc3 := hc2.layAll (both (codN c l) (codV c l))
    have hbb : But Nowhere w W' := kk.but.step hb (fun k hk q => by omega)
    have hb3 := But.setCells (S := fun k => k = w.heap.size + 1) (tab .i64 512 (both (codN c l) (codV c l))) (But.refl (fun k => k = w.heap.size + 1) W') (fun _ => rfl) 0
    have hD3 := (hb3.block W1.heap.size hlt (by omega)).trans hD
    have HX : Hid _ := And.intro hc3 (And.intro hD3 (hbb.step hb3 (fun k hk q => by omega)))
    have hiB := HI.out.2
    have hiA := HI.out.1
    clear hc3 hD3 hb3 hbb hc2 hJ hb hD hcb hV1 ktb
    gi_wp2_with (first | (refine wpListIn_load_mid rfl 35 (.tmp 3) rfl (w.heap.size + 1 + 1) 0 rfl (tab .i64 512 (both (codN c l) (codV c l))) _ ?_ hu rfl (hiA _) ?_; exact hr1) | (refine wpListIn_store_mid rfl 35 (.tmp 2) (.tmp 13) rfl (w.heap.size + 1) 0 (tab .i64 512 (both (codN c l) (codV c l))).toArray rfl rfl ?_ (hiB _) (tab_all _ _ _) ?_; exact hth))
    refine ⟨by simp, .inl ⟨_, _, rfl, run_takeDeferred HX.out.2.1, ?_⟩⟩
    have hne : w.heap.size + 1 ≠ W1.heap.size := by omega
    have bD := But.putObj (S := fun k => k = W1.heap.size) (But.refl (fun k => k = W1.heap.size) (W'.setCells (w.heap.size + 1) 0 (tab .i64 512 (both (codN c l) (codV c l))))) (fun _ => rfl) (.deferred none)
    refine ⟨_, results_cells rfl (HX.out.1.but bD hne) hu rfl (hiA _) _ rfl, rfl, ?_⟩
    exact HX.out.2.2.step bD (fun k hk q => by have := kk.but.size; omega)
  · intro W' hb hJ
    exact hJ.elim

end Go.Proofs.Ytlpeplihbdcklaa

/- What the program's Find answers. -/
namespace Go.Proofs.Ytlpeplihbdcklaa
set_option linter.unusedVariables false
open Go.ChangeShapes Go.WideShapes Go.ChangeAt Go.RowKit Go.Shelf

attribute [local go_sem] Oper.semAt_some wide_fn wide_depth Fence.inRound_fn Fence.inRound_depth

theorem begins_in {c : Nat → Int} {l : List Int} (h : OkT c l) {p : Nat} (hp : p < l.length) {b : Int} (hb : Begins c p b) : 0 ≤ b ∧ b ≤ 65535 := by
  obtain ⟨i0, i1, i2, i3⟩ := p_in h hp
  have hp2 := one_le_pow (16 - lenP c p)
  have hm : (2 : Int) ^ lenP c p * 2 ^ (16 - lenP c p) = 65536 := by
    rw [← Int.pow_add, show lenP c p + (16 - lenP c p) = 16 by omega]; rfl
  unfold Begins at hb
  generalize (2 : Int) ^ (16 - lenP c p) = q at *
  have e1 := Int.emod_add_mul_ediv b q
  have e2 := Int.emod_nonneg b (show q ≠ 0 by omega)
  have e3 := Int.emod_lt_of_pos b (show 0 < q by omega)
  rw [hb, Int.mul_comm] at e1
  have h0 : 0 ≤ numP c p * q := Int.mul_nonneg i2 (by omega)
  have h1 : (numP c p + 1) * q ≤ 2 ^ lenP c p * q := Int.mul_le_mul_of_nonneg_right (by omega) (by omega)
  rw [Int.add_mul, hm] at h1
  omega

theorem finds_yes {c : Nat → Int} {l : List Int} (h : OkT c l) {p : Nat} (hp : p < l.length) {b : Int} (hb : Begins c p b) : Finds c l b l[p] ((lenP c p : Nat) : Int) :=
  .inl ⟨h, (begins_in h hp hb).1, (begins_in h hp hb).2, p, hp, rfl, rfl, hb⟩

theorem finds_no {c : Nat → Int} {l : List Int} {b : Int} (h : ∀ p, p < toldN c l → ¬ Begins c p b) : Finds c l b 0 0 := .inr ⟨rfl, rfl, fun ⟨ho, _, _, p, hp, hb⟩ => h p (by unfold toldN; rw [(checkB_iff c l).2 ho, if_pos rfl]; exact hp) hb⟩

theorem results_int2 {fn : Func} {p q : Tmp} (h : fn.results = #[.cell p 3, .cell q 3]) (tmps : Array Value) (w : World) (g1 g2 : Nat) (a b : Int) (hp : tmps.getD p undef = .pointer (some ⟨g1, 0, none⟩)) (hq : tmps.getD q undef = .pointer (some ⟨g2, 0, none⟩))
    (k1 : w.cell? ⟨g1, 0, none⟩ = some (.int .i64 a)) (k2 : w.cell? ⟨g2, 0, none⟩ = some (.int .i64 b)) :
    (results fn tmps).run Try.prog w = .ok (.tuple #[.int .i64 a, .int .i64 b]) w := by
  have hu := Try.underlying3
  have hp' : tmps[p]?.getD undef = .pointer (some ⟨g1, 0, none⟩) := by simpa using hp
  have hq' : tmps[q]?.getD undef = .pointer (some ⟨g2, 0, none⟩) := by simpa using hq
  simp only [results, h]
  go_simp

end Go.Proofs.Ytlpeplihbdcklaa

/- What the program's FindSec answers. -/
namespace Go.Proofs.Ytlpeplihbdcklaa
set_option linter.unusedVariables false
open Go.ChangeShapes Go.WideShapes Go.ChangeAt Go.RowKit Go.Shelf

attribute [local go_sem] Oper.semAt_some wide_fn wide_depth Fence.inRound_fn Fence.inRound_depth

theorem ediv_in (b q : Int) (hb : I64 b) (hq : 1 ≤ q) : I64 (b / q) := by
  by_cases h : 0 ≤ b
  · have h1 := Int.ediv_nonneg h (show 0 ≤ q by omega)
    have h2 := Int.ediv_le_self q h
    exact ⟨by omega, by have := hb.2; omega⟩
  · have h1 : b / q < 0 := Int.ediv_neg_of_neg_of_pos (by omega) (by omega)
    have h2 : b ≤ b / q := by
      rw [Int.le_ediv_iff_mul_le (by omega)]
      have h3 := Int.mul_nonneg (show 0 ≤ -b by omega) (show 0 ≤ q - 1 by omega)
      rw [Int.neg_mul, Int.mul_sub, Int.mul_one] at h3
      omega
    exact ⟨by have := hb.1; omega, by omega⟩

/-- What the first i codes find. -/
def Part (c : Nat → Int) (l : List Int) (b : Int) (i : Nat) (v n : Int) : Prop :=
  (∃ p, ∃ hp : p < l.length, p < i ∧ Begins c p b ∧ v = l[p] ∧ n = ((lenP c p : Nat) : Int)) ∨ (v = 0 ∧ n = 0 ∧ ∀ p, p < i → ¬ Begins c p b)

theorem Part.step {c : Nat → Int} {l : List Int} {b : Int} {i : Nat} {v n : Int} (h : Part c l b i v n) (hi : i < l.length) (P : Prop) [Decidable P] (hP : P ↔ Begins c i b) : Part c l b (i + 1) (if P then l[i] else v) (if P then ((lenP c i : Nat) : Int) else n) := by
  by_cases e : P
  · rw [if_pos e, if_pos e]; exact .inl ⟨i, hi, by omega, hP.1 e, rfl, rfl⟩
  · rw [if_neg e, if_neg e]
    rcases h with ⟨p, hp, h1, h2, h3, h4⟩ | ⟨h1, h2, h3⟩
    · exact .inl ⟨p, hp, by omega, h2, h3, h4⟩
    · refine .inr ⟨h1, h2, fun p hp => ?_⟩
      by_cases e2 : p = i
      · subst e2; exact fun q => e (hP.2 q)
      · exact h3 p (by omega)

theorem Part.in {c : Nat → Int} {l : List Int} {b : Int} {i : Nat} {v n : Int} (h : Part c l b i v n) (hx : ∀ x ∈ l, 0 ≤ x ∧ x ≤ 255) (ho : OkT c l) : I64 v ∧ I64 n := by
  rcases h with ⟨p, hp, h1, h2, h3, h4⟩ | ⟨h1, h2, h3⟩
  · have := hx _ (List.getElem_mem hp)
    have q := p_in ho hp
    rw [h3, h4]
    exact ⟨⟨by omega, by omega⟩, ⟨by omega, by omega⟩⟩
  · rw [h1, h2]; exact ⟨⟨by omega, by omega⟩, ⟨by omega, by omega⟩⟩

theorem Part.finds {c : Nat → Int} {l : List Int} {b v n : Int} (h : Part c l b (toldN c l) v n) : Finds c l b v n := by
  rcases h with ⟨p, hp, h1, h2, rfl, rfl⟩ | ⟨rfl, rfl, h3⟩
  · exact finds_yes (toldN_ok h1).1 hp h2
  · exact finds_no h3

end Go.Proofs.Ytlpeplihbdcklaa

/- What the program's CodeSec answers. -/
namespace Go.Proofs.Ytlpeplihbdcklaa
set_option linter.unusedVariables false
open Go.ChangeShapes Go.WideShapes Go.ChangeAt Go.RowKit

theorem cod_in (c : Nat → Int) (l : List Int) (v : Nat) : I64 (codV c l v) ∧ I64 (codN c l v) := by
  rcases cod_cases c l v with ⟨h1, h2⟩ | ⟨ho, p, hp, _, h1, h2⟩
  · rw [h1, h2]; exact ⟨⟨by omega, by omega⟩, ⟨by omega, by omega⟩⟩
  · have q := p_in ho hp
    have := pow_to (lenP c p) q.2.1
    rw [h1, h2]; exact ⟨⟨by omega, by omega⟩, ⟨by omega, by omega⟩⟩

theorem word_range (f : Nat → Int) (b : Int) : word ((List.range 256).map f) b = if 0 ≤ b ∧ b ≤ 255 then f b.toNat else 0 := by
  by_cases h : 0 ≤ b ∧ b ≤ 255
  · rw [if_pos h]
    have e : b = (b.toNat : Int) := by omega
    generalize hn : b.toNat = n at *
    subst e
    rw [word_at _ _ (by simp; omega)]
    simp
  · rw [if_neg h, word_out _ _ (by simp; omega)]

theorem upd_lt (f : Nat → Int) (k : Nat) : tab .i64 256 (upd (fun j => if j < k then f j else 0) k (f k)) = tab .i64 256 (fun j => if j < k + 1 then f j else 0) := tab_congr _ _ _ _ (fun j _ => by
  unfold upd
  by_cases e : j = k
  · subst e; rw [if_pos rfl, if_pos (by omega)]
  · rw [if_neg e]; dsimp only
    by_cases h : j < k
    · rw [if_pos h, if_pos (by omega)]
    · rw [if_neg h, if_neg (by omega)])

end Go.Proofs.Ytlpeplihbdcklaa

/- Maps whose keys are two yes or no: a new entry, a look at one. Regions that draw their order, by what holds whatever has come. -/
namespace Go.Proofs.Ytlpeplihbdcklaa
set_option linter.unusedVariables false
open Go.ChangeShapes Go.WideShapes Go.ChangeAt Go.RowKit

/-- A key. -/
abbrev kd (a b : Bool) : Value := .agg #[.bool a, .bool b]

theorem run_equalIn_bool (w : World) (d : Nat) (t : TypeId) (a b : Bool) (h : Try.prog.underlying t = some .bool) : (Op.equalIn (d + 1) t (.bool a) (.bool b)).run Try.prog w = .ok (a == b) w := by
  rw [Op.equalIn]
  simp [Sem.run_bind, run_underlying h]

theorem kd_fields : (Try.prog.fieldsOf 60).toList = [{ name := "first", type := 4, offset := 0, embedded := false, tag := "", pkgPath := "cyanotype/huff", byteOffset := 0 }, { name := "luma", type := 4, offset := 1, embedded := false, tag := "", pkgPath := "cyanotype/huff", byteOffset := 1 }] := by kernel_rfl

theorem part_bool (w : World) (cs : Array Value) (i : Nat) (b : Bool) (h : cs[i]? = some (.bool b)) : (part 4 cs i).run Try.prog w = .ok (.bool b) w := by
  have he := Try.underlying4
  simp [part, isAgg, run_underlying he, h]

theorem equal_kd (a b c e : Bool) (d : Nat) (w : World) : (Op.equalIn (d + 3) 60 (kd a b) (kd c e)).run Try.prog w = .ok (a == c && b == e) w := by
  rw [run_equalIn_struct w (d + 2) 60 _ _ (by kernel_rfl) (by kernel_rfl)]
  rw [kd_fields]
  have he := Try.underlying4
  have p0 := part_bool w #[.bool a, .bool b] 0 a rfl
  have p1 := part_bool w #[.bool a, .bool b] 1 b rfl
  have q0 := part_bool w #[.bool c, .bool e] 0 c rfl
  have q1 := part_bool w #[.bool c, .bool e] 1 e rfl
  have e0 := run_equalIn_bool w (d + 1) 4 a c he
  have e1 := run_equalIn_bool w (d + 1) 4 b e he
  cases a <;> cases b <;> cases c <;> cases e <;> simp [Op.eqFields, p0, p1, q0, q1, e0, e1]

theorem check_bool (x : Bool) (n : Nat) (a : Bool) (w : World) : (Instr.checkKey x (n + 1) 4 (.bool a)).run Try.prog w = .ok () w := by
  have he := Try.underlying4
  rw [Instr.checkKey]
  simp [Sem.run_bind, run_underlying he]

theorem check_kd (x : Bool) (a b : Bool) (w : World) : (Instr.checkKey x 10000 60 (kd a b)).run Try.prog w = .ok () w := by
  have hk := Try.underlying60
  have he := Try.underlying4
  have p0 := part_bool w #[.bool a, .bool b] 0 a rfl
  have p1 := part_bool w #[.bool a, .bool b] 1 b rfl
  have c0 := check_bool x 9998 a w
  have c1 := check_bool x 9998 b w
  rw [show (10000 : Nat) = 9999 + 1 from rfl, Instr.checkKey]
  simp [Sem.run_bind, run_underlying hk, p0, p1, c0, c1]

/-- All keys are such. -/
def Kds (es : List MapEntry) : Prop := ∀ e ∈ es, ∃ c d, e.key = kd c d

theorem asking_none (a b : Bool) (w : World) : ∀ (es : List MapEntry) (i : Nat) (_ : Kds es) (_ : ∀ e ∈ es, e.key ≠ kd a b), (Instr.findAsking 60 (kd a b) es i).run Try.prog w = .ok none w
  | [], i, _, _ => rfl
  | e :: es, i, hk, hn => by
    obtain ⟨c, d, hcd⟩ := hk e (by simp)
    have hne := hn e (by simp)
    have hE := equal_kd a b c d 9997 w
    have hf : (a == c && b == d) = false := by
      rw [hcd] at hne
      cases a <;> cases b <;> cases c <;> cases d <;> simp_all
    have ih := asking_none a b w es (i + 1) (fun x hx => hk x (by simp [hx])) (fun x hx => hn x (by simp [hx]))
    rw [Instr.findAsking, hcd]
    simp only [Op.equal, Op.maxDepth, Sem.run_bind, hE, Result.andThen_ok, hf, Bool.false_eq_true, if_false]
    exact ih

theorem asking_some (a b : Bool) (v : Value) (w : World) : ∀ (es : List MapEntry) (i : Nat) (_ : Kds es) (_ : ∀ e ∈ es, e.key = kd a b → e.val = v) (_ : ∃ e ∈ es, e.key = kd a b), ∃ j, (Instr.findAsking 60 (kd a b) es i).run Try.prog w = .ok (some (j, v)) w
  | [], i, _, _, h => by obtain ⟨e, he, _⟩ := h; simp at he
  | e :: es, i, hk, hv, hx => by
    obtain ⟨c, d, hcd⟩ := hk e (by simp)
    have hE := equal_kd a b c d 9997 w
    by_cases hq : e.key = kd a b
    · have hf : (a == c && b == d) = true := by
        rw [hcd] at hq
        cases a <;> cases b <;> cases c <;> cases d <;> simp_all
      refine ⟨i, ?_⟩
      have hval := hv e (by simp) hq
      rw [Instr.findAsking, hcd]
      simp only [Op.equal, Op.maxDepth, Sem.run_bind, hE, Result.andThen_ok, hf, if_true]
      rw [hval]
      rfl
    · have hf : (a == c && b == d) = false := by
        rw [hcd] at hq
        cases a <;> cases b <;> cases c <;> cases d <;> simp_all
      obtain ⟨j, ih⟩ := asking_some a b v w es (i + 1) (fun x hx => hk x (by simp [hx])) (fun x hx => hv x (by simp [hx])) (by
        obtain ⟨y, hy, hyk⟩ := hx
        rcases List.mem_cons.1 hy with rfl | hy
        · exact absurd hyk hq
        · exact ⟨y, hy, hyk⟩)
      refine ⟨j, ?_⟩
      rw [Instr.findAsking, hcd]
      simp only [Op.equal, Op.maxDepth, Sem.run_bind, hE, Result.andThen_ok, hf, Bool.false_eq_true, if_false]
      exact ih

theorem now_none {es : List MapEntry} (a b : Bool) (i : Nat) (fs : Array Field) (hne : es ≠ []) : Instr.findNow (.struct fs) (kd a b) es i = none := by
  cases es with
  | nil => exact absurd rfl hne
  | cons e es => rfl

theorem find_none (a b : Bool) (w : World) (es : List MapEntry) (hk : Kds es) (hn : ∀ e ∈ es, e.key ≠ kd a b) : (Instr.findKey 60 (kd a b) es).run Try.prog w = .ok none w := by
  have hu := Try.underlying60
  unfold Instr.findKey
  simp only [Sem.run_bind, run_underlying hu, Result.andThen_ok]
  by_cases h : es = []
  · subst h; rfl
  · rw [now_none a b 0 _ h]
    exact asking_none a b w es 0 hk hn

theorem find_some (a b : Bool) (v : Value) (w : World) (es : List MapEntry) (hk : Kds es) (hv : ∀ e ∈ es, e.key = kd a b → e.val = v) (hx : ∃ e ∈ es, e.key = kd a b) : ∃ j, (Instr.findKey 60 (kd a b) es).run Try.prog w = .ok (some (j, v)) w := by
  have hu := Try.underlying60
  unfold Instr.findKey
  simp only [Sem.run_bind, run_underlying hu, Result.andThen_ok]
  have h : es ≠ [] := by
    obtain ⟨e, he, _⟩ := hx
    intro q
    rw [q] at he
    simp at he
  rw [now_none a b 0 _ h]
  exact asking_some a b v w es 0 hk hv hx

theorem run_get (w : World) (M : Nat) (es : Array MapEntry) (clk : Nat) (h : w.heap[M]? = some (.map es clk)) : (getObj M).run Try.prog w = .ok (.map es clk) w := by simp [getObj, Sem.run, h]
theorem run_set (w : World) (M : Nat) (es : Array MapEntry) (clk : Nat) (o' : Obj) (h : w.heap[M]? = some (.map es clk)) : (setObj M o').run Try.prog w = .ok () (w.putObj M o') := by simp [setObj, Sem.run, h, World.putObj]

/-- A new entry. -/
theorem run_entry (a b : Bool) (v : Value) (w : World) (M : Nat) (es : Array MapEntry) (clk : Nat) (hM : w.heap[M]? = some (.map es clk)) (hk : Kds es.toList) (hn : ∀ e ∈ es.toList, e.key ≠ kd a b) :
    (Instr.mapUpdate 57 (.map (some M)) (kd a b) v).run Try.prog w = .ok () (w.putObj M (.map (es.push ⟨kd a b, v, clk⟩) (clk + 1))) := by
  have hu := Try.underlying57
  have h1 := run_get w M _ _ hM
  have h2 := check_kd false a b w
  have h3 := find_none a b w es.toList hk hn
  have h4 := run_set w M _ _ (.map (es.push ⟨kd a b, v, clk⟩) (clk + 1)) hM
  unfold Instr.mapUpdate
  simp only [Sem.run_bind, run_underlying hu, Result.andThen_ok, h1, h2, h3, h4]

/-- A look at an entry that is there. -/
theorem run_look (a b : Bool) (v : Value) (w : World) (M : Nat) (es : Array MapEntry) (clk : Nat) (hM : w.heap[M]? = some (.map es clk)) (hk : Kds es.toList) (hv : ∀ e ∈ es.toList, e.key = kd a b → e.val = v) (hx : ∃ e ∈ es.toList, e.key = kd a b) :
    (Instr.lookup 57 (.map (some M)) (kd a b) false).run Try.prog w = .ok v w := by
  have hu := Try.underlying57
  have h1 := run_get w M _ _ hM
  have h2 := check_kd es.isEmpty a b w
  obtain ⟨j, h3⟩ := find_some a b v w es.toList hk hv hx
  unfold Instr.lookup
  simp [Sem.run_bind, run_underlying hu, h1, h2, h3]

/-- How many have not come. -/
def left (L : Array Bool) : Nat := L.toList.count false

theorem left_set {L : Array Bool} {i : Nat} (h : L.getD i true = false) : left (L.setIfInBounds i true) + 1 = left L := by
  have hl : i < L.size := by
    rcases Nat.lt_or_ge i L.size with hl | hl
    · exact hl
    · simp [hl] at h
  have he : L.toList[i]'(by simpa using hl) = false := by simpa [hl] using h
  unfold left
  rw [Array.toList_setIfInBounds]
  have hpos : 0 < L.toList.count false := List.count_pos_iff.2 (he ▸ List.getElem_mem _)
  rw [List.count_set (by simpa using hl), he]
  simp only [beq_self_eq_true, if_true, show (true == false) = false from rfl, Bool.false_eq_true, if_false]
  omega

/-- A region that draws its order: whatever has come, Inv holds. -/
theorem Walk.byInv {P : Program} {md : Region.Mode} {ops : Array Oper} {Q : Exit → Act → World → Prop} (Inv : Array Bool → Act → World → Prop)
    (hstep : ∀ L a w i, Inv L a w → i ∈ Region.ready md ops L → wpOp P ops Q i (fun a' w' => Inv (L.setIfInBounds i true) a' w') a w)
    (hend : ∀ L a w, Inv L a w → Region.ready md ops L = [] → Q .normal a w) :
    ∀ (f : Nat) (L : Array Bool) (a : Act) (w : World), left L ≤ f → Inv L a w → Walk P md ops Q (fun _ => True) (fun _ => True) 100 100 f L a w := by
  intro f
  induction f with
  | zero =>
    intro L a w hf hi _ _
    have hr : Region.ready md ops L = [] := by
      apply List.eq_nil_iff_forall_not_mem.2
      intro i hm
      have := left_set (mem_ready.1 hm).1
      omega
    exact ⟨hr, hend L a w hi hr⟩
  | succ f ih =>
    intro L a w hf hi hs ht
    refine ⟨fun hr => hend L a w hi hr, fun i hm => ?_⟩
    refine wpOp_mono (fun a' w' h' => ?_) (hstep L a w i hi hm)
    have := left_set (mem_ready.1 hm).1
    exact ⟨⟨fun _ => trivial, fun _ => trivial⟩, ih _ a' w' (by omega) h' (hs.set hm) ⟨fun _ => trivial, fun _ => trivial⟩⟩

/-- Nothing is ready: all has come. -/
theorem all_come {md : Region.Mode} {ops : Array Oper} {L : Array Bool} (hd : ∀ (i : Nat) (o : Oper), ops[i]? = some o → ∀ e ∈ o.after, Region.binds md e = true → e.on < i) (hz : L.size = ops.size) (hr : Region.ready md ops L = []) : ∀ i, i < ops.size → L.getD i false = true := by
  intro i
  induction i using Nat.strongRecOn with
  | _ i ih =>
    intro hi
    cases h : L.getD i false with
    | true => rfl
    | false =>
      exfalso
      have hm : i ∈ Region.ready md ops L := mem_ready.2 ⟨by simpa [hz ▸ hi] using h, ops[i], Array.getElem?_eq_getElem hi, fun e he hb => ih e.on (hd i _ (Array.getElem?_eq_getElem hi) e he hb) (by have := hd i _ (Array.getElem?_eq_getElem hi) e he hb; omega)⟩
      rw [hr] at hm
      cases hm

end Go.Proofs.Ytlpeplihbdcklaa

/- The tables that the program's Standard picks from, and what it answers. -/
namespace Go.Proofs.Ytlpeplihbdcklaa
set_option linter.unusedVariables false
open Go.ChangeShapes Go.WideShapes Go.ChangeAt Go.RowKit

/-- The keys, the counts, the lists, the tables. -/
def kdJ (j : Nat) : Value := kd (decide (j < 2)) (decide (j % 2 = 0))
def cntJ (j : Nat) : Value := .agg (tab .i64 16 (stdc j)).toArray
def slJ (j b : Nat) : Value := .slice (some ⟨b, 0, none⟩) (stdN j) (stdN j)
def tbJ (j b : Nat) : Value := .agg (tbl (stdc j) (slJ j b)).toArray

theorem kdJ_inj : ∀ i, i < 4 → ∀ j, j < 4 → kdJ i = kdJ j → i = j := by
  intro i hi j hj h
  unfold kdJ kd at h
  simp only [Value.agg.injEq, Array.mk.injEq, List.cons.injEq, Value.bool.injEq, and_true] at h
  obtain ⟨h1, h2⟩ := h
  have h1' : (i < 2) = (j < 2) := by simpa using h1
  have h2' : (i % 2 = 0) = (j % 2 = 0) := by simpa using h2
  have e1 : (i < 2 ↔ j < 2) := by rw [h1']
  have e2 : (i % 2 = 0 ↔ j % 2 = 0) := by rw [h2']
  omega

/-- A list of its own. -/
def Own1 (w0 w : World) (b j : Nat) : Prop := w0.heap.size ≤ b ∧ Cells w b 5 (ints .u8 (stdL j))

/-- What has been entered. -/
structure Ents (w0 : World) (D : Nat → Prop) (w : World) (es : List MapEntry) : Prop where
  all : ∀ e ∈ es, ∃ j, j < 4 ∧ D (5 + 5 * j) ∧ e.key = kdJ j
  one : ∀ j, j < 4 → D (5 + 5 * j) → ∃ b, Own1 w0 w b j ∧ (∃ e ∈ es, e.key = kdJ j) ∧ ∀ e ∈ es, e.key = kdJ j → e.val = tbJ j b

theorem Ents.kds {w0 w : World} {D : Nat → Prop} {es : List MapEntry} (h : Ents w0 D w es) : Kds es := fun e he => by
  obtain ⟨j, _, _, hk⟩ := h.all e he
  exact ⟨_, _, hk⟩
theorem Ents.new {w0 w : World} {D : Nat → Prop} {es : List MapEntry} (h : Ents w0 D w es) (j : Nat) (hj : j < 4) (hd : ¬ D (5 + 5 * j)) : ∀ e ∈ es, e.key ≠ kdJ j := fun e he q => by
  obtain ⟨i, hi, hdi, hk⟩ := h.all e he
  have := kdJ_inj i hi j hj (hk.symm.trans q)
  subst this
  exact hd hdi

/-- What holds where the operations of D have come. -/
structure StH (w0 : World) (D : Nat → Prop) (a : Act) (w : World) : Prop where
  size : a.tmps.size = 19
  defers : a.defers = []
  but : But Nowhere w0 w
  ky : ∀ j, j < 4 → D (1 + 5 * j) → a.tmps[2 + 4 * j]? = some (kdJ j)
  ct : ∀ j, j < 4 → D (2 + 5 * j) → a.tmps[3 + 4 * j]? = some (cntJ j)
  sl : ∀ j, j < 4 → D (3 + 5 * j) → ∃ b, a.tmps[4 + 4 * j]? = some (slJ j b) ∧ Own1 w0 w b j
  tb : ∀ j, j < 4 → D (4 + 5 * j) → ∃ b, a.tmps[5 + 4 * j]? = some (tbJ j b) ∧ Own1 w0 w b j
  mp : D 0 → ∃ M es clk, a.tmps[1]? = some (.map (some M)) ∧ w0.heap.size ≤ M ∧ w.heap[M]? = some (.map es clk) ∧ Ents w0 D w es.toList
  en : ∀ j, j < 4 → D (5 + 5 * j) → D 0
  last : D 21 → a.tmps[18]? = some (a.tmps.getD 1 undef) ∧ D 0
  given : D 22 → a.tmps[0]? = some (a.tmps.getD 1 undef) ∧ D 0

theorem put_at {a : Act} {d : Nat} {v : Value} (k : Nat) (hk : k ≠ d) : (a.put (some d) v).tmps[k]? = a.tmps[k]? := by
  simp only [Act.put]
  rw [Array.getElem?_setIfInBounds_ne (Ne.symm hk)]
theorem put_same {a : Act} {d : Nat} {v : Value} (h : d < a.tmps.size) : (a.put (some d) v).tmps[d]? = some v := by
  simp only [Act.put]
  rw [Array.getElem?_setIfInBounds_self_of_lt h]
theorem put_getD {a : Act} {d : Nat} {v : Value} (k : Nat) (hk : k ≠ d) : (a.put (some d) v).tmps.getD k undef = a.tmps.getD k undef := by
  rw [Array.getD_eq_getD_getElem?, Array.getD_eq_getD_getElem?, put_at k hk]
theorem put_size (a : Act) (d : Nat) (v : Value) : (a.put (some d) v).tmps.size = a.tmps.size := by simp [Act.put]
theorem put_defers (a : Act) (d : Option Nat) (v : Value) : (a.put d v).defers = a.defers := by cases d <;> simp [Act.put]

/-- What has come, and one more. -/
def Add (D : Nat → Prop) (i : Nat) : Nat → Prop := fun m => m = i ∨ D m

theorem Own1.but {w0 w w' : World} {b j : Nat} (h : Own1 w0 w b j) (hb : ∀ t c, Cells w b t c → Cells w' b t c) : Own1 w0 w' b j := ⟨h.1, hb _ _ h.2⟩

/-- A step that lays one slot, and turns nothing that is known. -/
theorem StH.step {w0 w w' : World} {D : Nat → Prop} {a : Act} (h : StH w0 D a w) (i d : Nat) (v : Value) (hb : But Nowhere w w')
    (hd : 2 ≤ d ∧ d < 18) (hi : i ≠ 0 ∧ i ≠ 21 ∧ i ≠ 22 ∧ ∀ j, j < 4 → i ≠ 5 + 5 * j) (hnew : ¬ D i)
    (h1 : ∀ j, j < 4 → (i = 1 + 5 * j ∧ d = 2 + 4 * j ∧ v = kdJ j) ∨ (i ≠ 1 + 5 * j ∧ d ≠ 2 + 4 * j))
    (h2 : ∀ j, j < 4 → (i = 2 + 5 * j ∧ d = 3 + 4 * j ∧ v = cntJ j) ∨ (i ≠ 2 + 5 * j ∧ d ≠ 3 + 4 * j))
    (h3 : ∀ j, j < 4 → (i = 3 + 5 * j ∧ d = 4 + 4 * j ∧ ∃ b, v = slJ j b ∧ Own1 w0 w' b j) ∨ (i ≠ 3 + 5 * j ∧ d ≠ 4 + 4 * j))
    (h4 : ∀ j, j < 4 → (i = 4 + 5 * j ∧ d = 5 + 4 * j ∧ ∃ b, v = tbJ j b ∧ Own1 w0 w' b j) ∨ (i ≠ 4 + 5 * j ∧ d ≠ 5 + 4 * j)) : StH w0 (Add D i) (a.put (some d) v) w' := by
  have own : ∀ b j, Own1 w0 w b j → Own1 w0 w' b j := fun b j h => h.but (fun t c hc => hc.but hb (not_nowhere _))
  refine ⟨by rw [put_size]; exact h.size, by rw [put_defers]; exact h.defers, h.but.trans hb, ?_, ?_, ?_, ?_, ?_, ?_, ?_, ?_⟩
  · intro j hj hD
    rcases h1 j hj with ⟨e1, rfl, rfl⟩ | ⟨e1, e2⟩
    · exact put_same (by rw [h.size]; omega)
    · rw [put_at _ (Ne.symm e2)]; exact h.ky j hj (hD.resolve_left (Ne.symm e1))
  · intro j hj hD
    rcases h2 j hj with ⟨e1, rfl, rfl⟩ | ⟨e1, e2⟩
    · exact put_same (by rw [h.size]; omega)
    · rw [put_at _ (Ne.symm e2)]; exact h.ct j hj (hD.resolve_left (Ne.symm e1))
  · intro j hj hD
    rcases h3 j hj with ⟨e1, rfl, b, rfl, ho⟩ | ⟨e1, e2⟩
    · exact ⟨b, put_same (by rw [h.size]; omega), ho⟩
    · rw [put_at _ (Ne.symm e2)]
      obtain ⟨b, q1, q2⟩ := h.sl j hj (hD.resolve_left (Ne.symm e1))
      exact ⟨b, q1, own _ _ q2⟩
  · intro j hj hD
    rcases h4 j hj with ⟨e1, rfl, b, rfl, ho⟩ | ⟨e1, e2⟩
    · exact ⟨b, put_same (by rw [h.size]; omega), ho⟩
    · rw [put_at _ (Ne.symm e2)]
      obtain ⟨b, q1, q2⟩ := h.tb j hj (hD.resolve_left (Ne.symm e1))
      exact ⟨b, q1, own _ _ q2⟩
  · intro hD
    obtain ⟨M, es, clk, q1, q2, q3, q4⟩ := h.mp (hD.resolve_left (Ne.symm hi.1))
    refine ⟨M, es, clk, by rw [put_at _ (by omega)]; exact q1, q2, (hb.block M (heap_lt q3) (not_nowhere _)).trans q3, ⟨fun e he => ?_, fun j hj hd => ?_⟩⟩
    · obtain ⟨j, hj, hd, hk⟩ := q4.all e he
      exact ⟨j, hj, .inr hd, hk⟩
    · obtain ⟨b, o1, o2⟩ := q4.one j hj (hd.resolve_left (Ne.symm (hi.2.2.2 j hj)))
      exact ⟨b, own _ _ o1, o2⟩
  · intro j hj hD
    exact .inr (h.en j hj (hD.resolve_left (Ne.symm (hi.2.2.2 j hj))))
  · intro hD
    obtain ⟨q1, q2⟩ := h.last (hD.resolve_left (Ne.symm hi.2.1))
    exact ⟨by rw [put_at _ (by omega), put_getD _ (by omega)]; exact q1, .inr q2⟩
  · intro hD
    obtain ⟨q1, q2⟩ := h.given (hD.resolve_left (Ne.symm hi.2.2.1))
    exact ⟨by rw [put_at _ (by omega), put_getD _ (by omega)]; exact q1, .inr q2⟩

section
variable {w0 w : World} {D : Nat → Prop} {a : Act}

theorem StH.key0 (h : StH w0 D a w) (j : Nat) (hj : j < 4) (hn : ¬ D (1 + 5 * j)) : StH w0 (Add D (1 + 5 * j)) (a.put (some (2 + 4 * j)) (kdJ j)) w :=
  h.step (1 + 5 * j) (2 + 4 * j) (kdJ j) (But.refl _ _) (by omega) ⟨by omega, by omega, by omega, fun i _ => by omega⟩ hn
    (fun i _ => if e : i = j then .inl ⟨by omega, by omega, by rw [e]⟩ else .inr ⟨by omega, by omega⟩)
    (fun i _ => .inr ⟨by omega, by omega⟩) (fun i _ => .inr ⟨by omega, by omega⟩) (fun i _ => .inr ⟨by omega, by omega⟩)

theorem StH.counts0 (h : StH w0 D a w) (j : Nat) (hj : j < 4) (hn : ¬ D (2 + 5 * j)) : StH w0 (Add D (2 + 5 * j)) (a.put (some (3 + 4 * j)) (cntJ j)) w :=
  h.step (2 + 5 * j) (3 + 4 * j) (cntJ j) (But.refl _ _) (by omega) ⟨by omega, by omega, by omega, fun i _ => by omega⟩ hn
    (fun i _ => .inr ⟨by omega, by omega⟩) (fun i _ => if e : i = j then .inl ⟨by omega, by omega, by rw [e]⟩ else .inr ⟨by omega, by omega⟩)
    (fun i _ => .inr ⟨by omega, by omega⟩) (fun i _ => .inr ⟨by omega, by omega⟩)

theorem StH.bytes0 (h : StH w0 D a w) (j : Nat) (hj : j < 4) (hn : ¬ D (3 + 5 * j)) : StH w0 (Add D (3 + 5 * j)) (a.put (some (4 + 4 * j)) (slJ j w.heap.size)) (w.alloc (.cells (ints .u8 (stdL j)).toArray 5)) :=
  h.step (3 + 5 * j) (4 + 4 * j) (slJ j w.heap.size) ((But.refl _ _).alloc _) (by omega) ⟨by omega, by omega, by omega, fun i _ => by omega⟩ hn
    (fun i _ => .inr ⟨by omega, by omega⟩) (fun i _ => .inr ⟨by omega, by omega⟩)
    (fun i _ => if e : i = j then .inl ⟨by omega, by omega, w.heap.size, by rw [e], h.but.size, by rw [e]; exact Cells.new w 5 (ints .u8 (stdL j))⟩ else .inr ⟨by omega, by omega⟩) (fun i _ => .inr ⟨by omega, by omega⟩)

theorem StH.table0 (h : StH w0 D a w) (j : Nat) (hj : j < 4) (hn : ¬ D (4 + 5 * j)) (b : Nat) (ho : Own1 w0 w b j) : StH w0 (Add D (4 + 5 * j)) (a.put (some (5 + 4 * j)) (tbJ j b)) w :=
  h.step (4 + 5 * j) (5 + 4 * j) (tbJ j b) (But.refl _ _) (by omega) ⟨by omega, by omega, by omega, fun i _ => by omega⟩ hn
    (fun i _ => .inr ⟨by omega, by omega⟩) (fun i _ => .inr ⟨by omega, by omega⟩) (fun i _ => .inr ⟨by omega, by omega⟩)
    (fun i _ => if e : i = j then .inl ⟨by omega, by omega, b, by rw [e], e ▸ ho⟩ else .inr ⟨by omega, by omega⟩)

theorem StH.made0 (h : StH w0 D a w) (hn : ¬ D 0) : StH w0 (Add D 0) (a.put (some 1) (.map (some w.heap.size))) (w.alloc (.map #[] 0)) := by
  have hb : But Nowhere w (w.alloc (.map #[] 0)) := (But.refl _ _).alloc _
  have own : ∀ b j, Own1 w0 w b j → Own1 w0 (w.alloc (.map #[] 0)) b j := fun b j h => h.but (fun t c hc => hc.but hb (not_nowhere _))
  have n5 : ∀ j, j < 4 → ¬ Add D 0 (5 + 5 * j) := fun j hj hd => hn (h.en j hj (hd.resolve_left (by omega)))
  refine ⟨by rw [put_size]; exact h.size, by rw [put_defers]; exact h.defers, h.but.trans hb, ?_, ?_, ?_, ?_, ?_, ?_, ?_, ?_⟩
  · intro j hj hD
    rw [put_at _ (by omega)]; exact h.ky j hj (hD.resolve_left (by omega))
  · intro j hj hD
    rw [put_at _ (by omega)]; exact h.ct j hj (hD.resolve_left (by omega))
  · intro j hj hD
    rw [put_at _ (by omega)]
    obtain ⟨b, q1, q2⟩ := h.sl j hj (hD.resolve_left (by omega))
    exact ⟨b, q1, own _ _ q2⟩
  · intro j hj hD
    rw [put_at _ (by omega)]
    obtain ⟨b, q1, q2⟩ := h.tb j hj (hD.resolve_left (by omega))
    exact ⟨b, q1, own _ _ q2⟩
  · intro _
    exact ⟨w.heap.size, #[], 0, put_same (by rw [h.size]; omega), h.but.size, heap_alloc_new w _, ⟨fun e he => by simp at he, fun j hj hd => absurd hd (n5 j hj)⟩⟩
  · intro j hj hD; exact absurd hD (n5 j hj)
  · intro hD; exact absurd (h.last (hD.resolve_left (by omega))).2 hn
  · intro hD; exact absurd (h.given (hD.resolve_left (by omega))).2 hn

theorem StH.entry0 (h : StH w0 D a w) (j : Nat) (hj : j < 4) (hn : ¬ D (5 + 5 * j)) (b : Nat) (ho : Own1 w0 w b j) {M : Nat} {es : Array MapEntry} {clk : Nat} (hD0 : D 0)
    (hM : w.heap[M]? = some (.map es clk)) (hu : a.tmps[1]? = some (.map (some M))) (hm : w0.heap.size ≤ M) (hE : Ents w0 D w es.toList) :
    StH w0 (Add D (5 + 5 * j)) (a.put none undef) (w.putObj M (.map (es.push ⟨kdJ j, tbJ j b, clk⟩) (clk + 1))) := by
  obtain ⟨w', hw'⟩ : ∃ x, w.putObj M (.map (es.push ⟨kdJ j, tbJ j b, clk⟩) (clk + 1)) = x := ⟨_, rfl⟩
  have hbM : But (fun k => k = M) w w' := hw' ▸ But.putObj (S := fun k => k = M) (But.refl _ _) (fun _ => rfl) _
  have hMn : w'.heap[M]? = some (.map (es.push ⟨kdJ j, tbJ j b, clk⟩) (clk + 1)) := hw' ▸ World.putObj_heap_same (heap_lt hM)
  rw [hw']
  have own : ∀ b j, Own1 w0 w b j → Own1 w0 w' b j := fun b j h => h.but (fun t c hc => hc.but hbM (fun e => by
    subst e
    have : w.heap[b]? = some (.cells c.toArray t (0, 0)) := hc
    rw [hM] at this
    cases this))
  have put0 : (a.put none undef) = a := rfl
  rw [put0]
  refine ⟨h.size, h.defers, h.but.step hbM (fun k hk q => by omega), ?_, ?_, ?_, ?_, ?_, ?_, ?_, ?_⟩
  · intro i hi hD; exact h.ky i hi (hD.resolve_left (by omega))
  · intro i hi hD; exact h.ct i hi (hD.resolve_left (by omega))
  · intro i hi hD
    obtain ⟨b, q1, q2⟩ := h.sl i hi (hD.resolve_left (by omega))
    exact ⟨b, q1, own _ _ q2⟩
  · intro i hi hD
    obtain ⟨b, q1, q2⟩ := h.tb i hi (hD.resolve_left (by omega))
    exact ⟨b, q1, own _ _ q2⟩
  · intro _
    refine ⟨M, _, _, hu, hm, hMn, ⟨fun e he => ?_, fun i hi hd => ?_⟩⟩
    · simp only [Array.toList_push, List.mem_append, List.mem_singleton] at he
      rcases he with he | rfl
      · obtain ⟨i, hi, hd, hk⟩ := hE.all e he
        exact ⟨i, hi, .inr hd, hk⟩
      · exact ⟨j, hj, .inl rfl, rfl⟩
    · simp only [Array.toList_push, List.mem_append, List.mem_singleton]
      by_cases e : i = j
      · subst e
        refine ⟨b, own _ _ ho, ⟨_, .inr rfl, rfl⟩, fun e he hk => ?_⟩
        rcases he with he | rfl
        · exact absurd hk (hE.new i hi hn e he)
        · rfl
      · obtain ⟨b', o1, ⟨e1, m1, k1⟩, o3⟩ := hE.one i hi (hd.resolve_left (by omega))
        refine ⟨b', own _ _ o1, ⟨e1, .inl m1, k1⟩, fun y hy hk => ?_⟩
        rcases hy with hy | rfl
        · exact o3 y hy hk
        · exact absurd (kdJ_inj j hj i hi hk) (fun q => e q.symm)
  · intro i hi hD; exact .inr hD0
  · intro hD
    obtain ⟨q1, q2⟩ := h.last (hD.resolve_left (by omega))
    exact ⟨q1, .inr q2⟩
  · intro hD
    obtain ⟨q1, q2⟩ := h.given (hD.resolve_left (by omega))
    exact ⟨q1, .inr q2⟩

/-- A step that hands the map on. -/
theorem StH.hand (h : StH w0 D a w) (i d : Nat) (hid : (i = 21 ∧ d = 18) ∨ (i = 22 ∧ d = 0)) (hD0 : D 0) : StH w0 (Add D i) (a.put (some d) (a.tmps.getD 1 undef)) w := by
  have n1 : (1 : Nat) ≠ d := by omega
  refine ⟨by rw [put_size]; exact h.size, by rw [put_defers]; exact h.defers, h.but, ?_, ?_, ?_, ?_, ?_, ?_, ?_, ?_⟩
  · intro j hj hD; rw [put_at _ (by omega)]; exact h.ky j hj (hD.resolve_left (by omega))
  · intro j hj hD; rw [put_at _ (by omega)]; exact h.ct j hj (hD.resolve_left (by omega))
  · intro j hj hD; rw [put_at _ (by omega)]; exact h.sl j hj (hD.resolve_left (by omega))
  · intro j hj hD; rw [put_at _ (by omega)]; exact h.tb j hj (hD.resolve_left (by omega))
  · intro hD
    obtain ⟨M, es, clk, q1, q2, q3, q4⟩ := h.mp hD0
    refine ⟨M, es, clk, by rw [put_at _ n1]; exact q1, q2, q3, ⟨fun e he => ?_, fun j hj hd => q4.one j hj (hd.resolve_left (by omega))⟩⟩
    obtain ⟨j, hj, hd, hk⟩ := q4.all e he
    exact ⟨j, hj, .inr hd, hk⟩
  · intro j hj hD; exact .inr hD0
  · intro hD
    rw [put_getD _ n1]
    rcases hid with ⟨rfl, rfl⟩ | ⟨rfl, rfl⟩
    · exact ⟨put_same (by rw [h.size]; omega), .inr hD0⟩
    · obtain ⟨q1, q2⟩ := h.last (hD.resolve_left (by omega))
      exact ⟨by rw [put_at _ (by omega)]; exact q1, .inr q2⟩
  · intro hD
    rw [put_getD _ n1]
    rcases hid with ⟨rfl, rfl⟩ | ⟨rfl, rfl⟩
    · obtain ⟨q1, q2⟩ := h.given (hD.resolve_left (by omega))
      exact ⟨by rw [put_at _ (by omega)]; exact q1, .inr q2⟩
    · exact ⟨put_same (by rw [h.size]; omega), .inr hD0⟩
end

/-- Done: what has come. -/
def DnH (L : Array Bool) : Nat → Prop := fun m => L.getD m false = true

theorem dn_set {L : Array Bool} {i : Nat} (h : i < L.size) : DnH (L.setIfInBounds i true) = Add (DnH L) i := by
  funext m
  unfold DnH Add
  by_cases e : m = i
  · subst e
    simp [h]
  · have : (L.setIfInBounds i true).getD m false = L.getD m false := by
      rw [Array.getD_eq_getD_getElem?, Array.getD_eq_getD_getElem?, Array.getElem?_setIfInBounds_ne (Ne.symm e)]
    rw [this]
    simp [e]

structure In (w0 : World) (L : Array Bool) (a : Act) (w : World) : Prop where
  len : L.size = 23
  st : StH w0 (DnH L) a w

theorem not_dn {L : Array Bool} {i : Nat} (h : L.getD i true = false) : ¬ DnH L i := fun q => by
  have := getD_both h
  unfold DnH at q
  rw [this] at q
  cases q

theorem In.next {w0 w w' : World} {L : Array Bool} {a a' : Act} (h : In w0 L a w) (i : Nat) (hi : i < 23) (hs : StH w0 (Add (DnH L) i) a' w') : In w0 (L.setIfInBounds i true) a' w' :=
  ⟨by simp [h.len], by rw [dn_set (by rw [h.len]; exact hi)]; exact hs⟩

theorem eval_tmp {a : Act} {t : Nat} {v : Value} (h : a.tmps[t]? = some v) : a.eval (.tmp t) = v := by
  simp [Act.eval, h]

theorem ready_waits {md : Region.Mode} {ops : Array Oper} {L : Array Bool} {k m : Nat} (hw : waits md ops k m = true) (hk : k < ops.size) (hm : k ∈ Region.ready md ops L) : DnH L m := by
  obtain ⟨_, o, ho, hall⟩ := mem_ready.1 hm
  unfold waits at hw
  simp only [ho, Array.any_eq_true] at hw
  obtain ⟨n, hn, hb⟩ := hw
  simp only [Bool.and_eq_true, beq_iff_eq] at hb
  have := hall _ (Array.getElem_mem hn) hb.1
  rw [hb.2] at this
  exact this

section
variable {o : Oper} {a : Act} {w : World} {K : Act → World → Prop} {Q : Exit → Act → World → Prop}

theorem wp_yields {v : Value} (h : (execOp a.eval o).run Try.prog w = .ok (.value v) w) (hK : K (a.put o.dst v) w) : o.wp Try.prog a w K Q := by
  unfold Oper.wp
  rw [h]
  exact hK

theorem wp_made (t : TypeId) (ho : o.op = .makeMap t none) (hK : K (a.put o.dst (.map (some w.heap.size))) (w.alloc (.map #[] 0))) : o.wp Try.prog a w K Q := by
  unfold Oper.wp execOp
  simp only [ho]
  exact hK

theorem wp_is {x : Operand} {v : Value} (ho : o.op = .move x ∨ o.op = .assign x) (hx : a.eval x = v) (hK : K (a.put o.dst v) w) : o.wp Try.prog a w K Q := by
  unfold Oper.wp execOp
  rcases ho with ho | ho <;> (simp only [ho, hx]; exact hK)

theorem wp_bytes (j : Nat) (hj : j < 4) {parts : Array (Nat × Operand)} (ho : o.op = .buildSlice 23 (stdN j) parts)
    (hparts : parts.toList = ((stdL j).zipIdx 0).map fun x => (x.2, Operand.const (Value.int .u8 x.1)))
    (hK : K (a.put o.dst (slJ j w.heap.size)) (w.alloc (.cells (ints .u8 (stdL j)).toArray 5))) : o.wp Try.prog a w K Q := by
  have hu := Try.underlying23
  have hsz : (Try.prog.info? 5).map (·.size) = some 1 := by kernel_rfl
  have hz : ((Try.prog.info? 5).bind (·.zero)).isSome = true := by kernel_rfl
  have hn : stdN j = (stdL j).length := stdN_len j hj
  have hl := stdL_length j hj
  have hpos : 0 < (stdL j).length := List.length_pos_iff.2 hl.2
  cases hie : Try.prog.info? 5 with
  | none => simp [hie] at hsz
  | some ie =>
    simp only [hie, Option.map_some, Option.some.injEq, Option.bind_some] at hsz hz
    obtain ⟨z, hzz⟩ := Option.isSome_iff_exists.1 hz
    refine wp_buildSlice 23 5 (stdN j) parts ho (ints .u8 (stdL j)).toArray ie z hu hie hzz (by rw [hsz, hn]; omega) (by rw [hsz, hn]; omega) ?_ hK
    rw [parts_eval a parts .u8 (stdL j) hparts, hsz]
    exact Great.fill_flat _ _ (fun v hv => by obtain ⟨n, _, rfl⟩ := List.mem_map.1 hv; rfl) (by simp [hn])

theorem wp_table (j b : Nat) {x y : Operand} (ho : o.op = .build 30 #[(0, x), (1, y)]) (hx : a.eval x = cntJ j) (hy : a.eval y = slJ j b)
    (hb : ∀ w, (Instr.build 30 #[(0, cntJ j), (1, slJ j b)]).run Try.prog w = .ok (tbJ j b) w) (hK : K (a.put o.dst (tbJ j b)) w) : o.wp Try.prog a w K Q := by
  unfold Oper.wp execOp
  simp only [ho, List.map_toArray, List.map_cons, List.map_nil, hx, hy, Sem.run_bind, hb, Result.andThen_ok]
  exact hK

theorem wp_entry {j b M : Nat} {es : Array MapEntry} {clk : Nat} {m k x : Operand} (ho : o.op = .insert 57 m k x) (hm : a.eval m = .map (some M)) (hk : a.eval k = kdJ j) (hx : a.eval x = tbJ j b)
    (hM : w.heap[M]? = some (.map es clk)) (hks : Kds es.toList) (hn : ∀ e ∈ es.toList, e.key ≠ kdJ j) (hK : K (a.put o.dst undef) (w.putObj M (.map (es.push ⟨kdJ j, tbJ j b, clk⟩) (clk + 1)))) : o.wp Try.prog a w K Q := by
  have := run_entry (decide (j < 2)) (decide (j % 2 = 0)) (tbJ j b) w M es clk hM hks hn
  unfold Oper.wp execOp
  simp only [ho, hm, hk, hx]
  rw [Sem.run_bind]
  rw [show kdJ j = kd (decide (j < 2)) (decide (j % 2 = 0)) from rfl, this]
  exact hK
end

theorem wpOp_at {P : Program} {ops : Array Oper} {Q : Exit → Act → World → Prop} {i : Nat} {o : Oper} {K : Act → World → Prop} {a : Act} {w : World} (ho : ops[i]? = some o) (hg : o.guard = none)
    (h : ∀ K' : Act → World → Prop, (∀ a w, K a w → K' a w) → o.wp P a w K' Q) : wpOp P ops Q i K a w :=
  wpOp_step ho fun K' hK => by
    rw [if_pos (by simp [Region.wanted, hg])]
    exact h K' hK

/-- Each waits for what stands ahead of it alone. -/
def rises (md : Region.Mode) (ops : Array Oper) : Bool := (List.range ops.size).all fun i => match ops[i]? with
  | none => true
  | some o => o.after.all fun e => !(Region.binds md e) || decide (e.on < i)

theorem rises_spec {md : Region.Mode} {ops : Array Oper} (h : rises md ops = true) : ∀ (i : Nat) (o : Oper), ops[i]? = some o → ∀ e ∈ o.after, Region.binds md e = true → e.on < i := by
  intro i o ho e he hb
  unfold rises at h
  rw [List.all_eq_true] at h
  have hi : i < ops.size := (Array.getElem?_eq_some_iff.1 ho).1
  have := h i (List.mem_range.2 hi)
  rw [ho] at this
  simp only [Array.all_eq_true_iff_forall_mem] at this
  have := this e he
  simpa [hb] using this

theorem start_dn (n m : Nat) : ¬ DnH (Array.replicate n false) m := by
  unfold DnH
  rcases Nat.lt_or_ge m n with h | h
  · simp [h]
  · simp [h]

set_option maxHeartbeats 6400000 in
set_option maxRecDepth 100000 in
theorem standards_any (w : World) : Calls Try.prog 34 #[] w fun e w' => ∃ M es clk, e = .returned (.map (some M)) ∧ But Nowhere w w' ∧ w'.heap[M]? = some (.map es clk) ∧ Ents w (fun _ => True) w' es.toList := by
  go_enter Try.func34, Try.ntmps34
  go_wp2_with fail
  refine wp_region_till (S := fun _ => True) (R := fun _ => True) (k := 100) (m := 100) (by kernel_rfl) trivial trivial ?_
  refine Walk.byInv (In w) ?_ ?_ _ _ _ _ (by decide) ⟨rfl, ⟨rfl, rfl, (But.refl _ _).drew, fun j hj hd => ?_, fun j hj hd => ?_, fun j hj hd => ?_, fun j hj hd => ?_, fun hd => ?_, fun j hj hd => ?_, fun hd => ?_, fun hd => ?_⟩⟩
  · intro L a V i inv hm
    have hun := (mem_ready.1 hm).1
    have hi : i < 23 := by
      rcases Nat.lt_or_ge i L.size with h | h
      · rw [inv.len] at h; exact h
      · simp [h] at hun
    obtain rfl | rfl | rfl | rfl | rfl | rfl | rfl | rfl | rfl | rfl | rfl | rfl | rfl | rfl | rfl | rfl | rfl | rfl | rfl | rfl | rfl | rfl | rfl : i = 0 ∨ i = 1 ∨ i = 2 ∨ i = 3 ∨ i = 4 ∨ i = 5 ∨ i = 6 ∨ i = 7 ∨ i = 8 ∨ i = 9 ∨ i = 10 ∨ i = 11 ∨ i = 12 ∨ i = 13 ∨ i = 14 ∨ i = 15 ∨ i = 16 ∨ i = 17 ∨ i = 18 ∨ i = 19 ∨ i = 20 ∨ i = 21 ∨ i = 22 := by omega
    · refine wpOp_at rfl rfl (fun K hK => ?_)
      refine wp_made 57 rfl ?_
      exact hK _ _ (inv.next 0 (by omega) (inv.st.made0 (not_dn hun)))
    · refine wpOp_at rfl rfl (fun K hK => ?_)
      refine wp_yields (v := kdJ 0) (by kernel_rfl) ?_
      exact hK _ _ (inv.next 1 (by omega) (inv.st.key0 0 (by omega) (not_dn hun)))
    · refine wpOp_at rfl rfl (fun K hK => ?_)
      refine wp_yields (v := cntJ 0) (by kernel_rfl) ?_
      exact hK _ _ (inv.next 2 (by omega) (inv.st.counts0 0 (by omega) (not_dn hun)))
    · refine wpOp_at rfl rfl (fun K hK => ?_)
      refine wp_bytes 0 (by omega) rfl (by kernel_rfl) ?_
      exact hK _ _ (inv.next 3 (by omega) (inv.st.bytes0 0 (by omega) (not_dn hun)))
    · refine wpOp_at rfl rfl (fun K hK => ?_)
      obtain ⟨b, hs, ho⟩ := inv.st.sl 0 (by omega) (ready_waits (k := 4) (m := 3) (by kernel_rfl) (by decide) hm)
      refine wp_table 0 b rfl (eval_tmp (inv.st.ct 0 (by omega) (ready_waits (k := 4) (m := 2) (by kernel_rfl) (by decide) hm))) (eval_tmp hs) (fun w => by kernel_rfl) ?_
      exact hK _ _ (inv.next 4 (by omega) (inv.st.table0 0 (by omega) (not_dn hun) b ho))
    · refine wpOp_at rfl rfl (fun K hK => ?_)
      obtain ⟨b, hs, ho⟩ := inv.st.tb 0 (by omega) (ready_waits (k := 5) (m := 4) (by kernel_rfl) (by decide) hm)
      obtain ⟨M, es, clk, hu, hn, hM, hE⟩ := inv.st.mp (ready_waits (k := 5) (m := 0) (by kernel_rfl) (by decide) hm)
      refine wp_entry (j := 0) (b := b) rfl (eval_tmp hu) (eval_tmp (inv.st.ky 0 (by omega) (ready_waits (k := 5) (m := 1) (by kernel_rfl) (by decide) hm))) (eval_tmp hs) hM hE.kds (hE.new 0 (by omega) (not_dn hun)) ?_
      exact hK _ _ (inv.next 5 (by omega) (inv.st.entry0 0 (by omega) (not_dn hun) b ho (ready_waits (k := 5) (m := 0) (by kernel_rfl) (by decide) hm) hM hu hn hE))
    · refine wpOp_at rfl rfl (fun K hK => ?_)
      refine wp_yields (v := kdJ 1) (by kernel_rfl) ?_
      exact hK _ _ (inv.next 6 (by omega) (inv.st.key0 1 (by omega) (not_dn hun)))
    · refine wpOp_at rfl rfl (fun K hK => ?_)
      refine wp_yields (v := cntJ 1) (by kernel_rfl) ?_
      exact hK _ _ (inv.next 7 (by omega) (inv.st.counts0 1 (by omega) (not_dn hun)))
    · refine wpOp_at rfl rfl (fun K hK => ?_)
      refine wp_bytes 1 (by omega) rfl (by kernel_rfl) ?_
      exact hK _ _ (inv.next 8 (by omega) (inv.st.bytes0 1 (by omega) (not_dn hun)))
    · refine wpOp_at rfl rfl (fun K hK => ?_)
      obtain ⟨b, hs, ho⟩ := inv.st.sl 1 (by omega) (ready_waits (k := 9) (m := 8) (by kernel_rfl) (by decide) hm)
      refine wp_table 1 b rfl (eval_tmp (inv.st.ct 1 (by omega) (ready_waits (k := 9) (m := 7) (by kernel_rfl) (by decide) hm))) (eval_tmp hs) (fun w => by kernel_rfl) ?_
      exact hK _ _ (inv.next 9 (by omega) (inv.st.table0 1 (by omega) (not_dn hun) b ho))
    · refine wpOp_at rfl rfl (fun K hK => ?_)
      obtain ⟨b, hs, ho⟩ := inv.st.tb 1 (by omega) (ready_waits (k := 10) (m := 9) (by kernel_rfl) (by decide) hm)
      obtain ⟨M, es, clk, hu, hn, hM, hE⟩ := inv.st.mp (ready_waits (k := 10) (m := 0) (by kernel_rfl) (by decide) hm)
      refine wp_entry (j := 1) (b := b) rfl (eval_tmp hu) (eval_tmp (inv.st.ky 1 (by omega) (ready_waits (k := 10) (m := 6) (by kernel_rfl) (by decide) hm))) (eval_tmp hs) hM hE.kds (hE.new 1 (by omega) (not_dn hun)) ?_
      exact hK _ _ (inv.next 10 (by omega) (inv.st.entry0 1 (by omega) (not_dn hun) b ho (ready_waits (k := 10) (m := 0) (by kernel_rfl) (by decide) hm) hM hu hn hE))
    · refine wpOp_at rfl rfl (fun K hK => ?_)
      refine wp_yields (v := kdJ 2) (by kernel_rfl) ?_
      exact hK _ _ (inv.next 11 (by omega) (inv.st.key0 2 (by omega) (not_dn hun)))
    · refine wpOp_at rfl rfl (fun K hK => ?_)
      refine wp_yields (v := cntJ 2) (by kernel_rfl) ?_
      exact hK _ _ (inv.next 12 (by omega) (inv.st.counts0 2 (by omega) (not_dn hun)))
    · refine wpOp_at rfl rfl (fun K hK => ?_)
      refine wp_bytes 2 (by omega) rfl (by kernel_rfl) ?_
      exact hK _ _ (inv.next 13 (by omega) (inv.st.bytes0 2 (by omega) (not_dn hun)))
    · refine wpOp_at rfl rfl (fun K hK => ?_)
      obtain ⟨b, hs, ho⟩ := inv.st.sl 2 (by omega) (ready_waits (k := 14) (m := 13) (by kernel_rfl) (by decide) hm)
      refine wp_table 2 b rfl (eval_tmp (inv.st.ct 2 (by omega) (ready_waits (k := 14) (m := 12) (by kernel_rfl) (by decide) hm))) (eval_tmp hs) (fun w => by kernel_rfl) ?_
      exact hK _ _ (inv.next 14 (by omega) (inv.st.table0 2 (by omega) (not_dn hun) b ho))
    · refine wpOp_at rfl rfl (fun K hK => ?_)
      obtain ⟨b, hs, ho⟩ := inv.st.tb 2 (by omega) (ready_waits (k := 15) (m := 14) (by kernel_rfl) (by decide) hm)
      obtain ⟨M, es, clk, hu, hn, hM, hE⟩ := inv.st.mp (ready_waits (k := 15) (m := 0) (by kernel_rfl) (by decide) hm)
      refine wp_entry (j := 2) (b := b) rfl (eval_tmp hu) (eval_tmp (inv.st.ky 2 (by omega) (ready_waits (k := 15) (m := 11) (by kernel_rfl) (by decide) hm))) (eval_tmp hs) hM hE.kds (hE.new 2 (by omega) (not_dn hun)) ?_
      exact hK _ _ (inv.next 15 (by omega) (inv.st.entry0 2 (by omega) (not_dn hun) b ho (ready_waits (k := 15) (m := 0) (by kernel_rfl) (by decide) hm) hM hu hn hE))
    · refine wpOp_at rfl rfl (fun K hK => ?_)
      refine wp_yields (v := kdJ 3) (by kernel_rfl) ?_
      exact hK _ _ (inv.next 16 (by omega) (inv.st.key0 3 (by omega) (not_dn hun)))
    · refine wpOp_at rfl rfl (fun K hK => ?_)
      refine wp_yields (v := cntJ 3) (by kernel_rfl) ?_
      exact hK _ _ (inv.next 17 (by omega) (inv.st.counts0 3 (by omega) (not_dn hun)))
    · refine wpOp_at rfl rfl (fun K hK => ?_)
      refine wp_bytes 3 (by omega) rfl (by kernel_rfl) ?_
      exact hK _ _ (inv.next 18 (by omega) (inv.st.bytes0 3 (by omega) (not_dn hun)))
    · refine wpOp_at rfl rfl (fun K hK => ?_)
      obtain ⟨b, hs, ho⟩ := inv.st.sl 3 (by omega) (ready_waits (k := 19) (m := 18) (by kernel_rfl) (by decide) hm)
      refine wp_table 3 b rfl (eval_tmp (inv.st.ct 3 (by omega) (ready_waits (k := 19) (m := 17) (by kernel_rfl) (by decide) hm))) (eval_tmp hs) (fun w => by kernel_rfl) ?_
      exact hK _ _ (inv.next 19 (by omega) (inv.st.table0 3 (by omega) (not_dn hun) b ho))
    · refine wpOp_at rfl rfl (fun K hK => ?_)
      obtain ⟨b, hs, ho⟩ := inv.st.tb 3 (by omega) (ready_waits (k := 20) (m := 19) (by kernel_rfl) (by decide) hm)
      obtain ⟨M, es, clk, hu, hn, hM, hE⟩ := inv.st.mp (ready_waits (k := 20) (m := 0) (by kernel_rfl) (by decide) hm)
      refine wp_entry (j := 3) (b := b) rfl (eval_tmp hu) (eval_tmp (inv.st.ky 3 (by omega) (ready_waits (k := 20) (m := 16) (by kernel_rfl) (by decide) hm))) (eval_tmp hs) hM hE.kds (hE.new 3 (by omega) (not_dn hun)) ?_
      exact hK _ _ (inv.next 20 (by omega) (inv.st.entry0 3 (by omega) (not_dn hun) b ho (ready_waits (k := 20) (m := 0) (by kernel_rfl) (by decide) hm) hM hu hn hE))
    · refine wpOp_at rfl rfl (fun K hK => ?_)
      refine wp_is (v := a.tmps.getD 1 undef) (.inl rfl) rfl ?_
      exact hK _ _ (inv.next 21 (by omega) (inv.st.hand 21 18 (by omega) (ready_waits (k := 21) (m := 0) (by kernel_rfl) (by decide) hm)))
    · refine wpOp_at rfl rfl (fun K hK => ?_)
      refine wp_is (v := a.tmps.getD 1 undef) (.inr rfl) (eval_tmp (inv.st.last (ready_waits (k := 22) (m := 21) (by kernel_rfl) (by decide) hm)).1) ?_
      exact hK _ _ (inv.next 22 (by omega) (inv.st.hand 22 0 (by omega) (ready_waits (k := 22) (m := 0) (by kernel_rfl) (by decide) hm)))
  · intro L a V inv hr
    have hall := all_come (rises_spec (by kernel_rfl)) inv.len hr
    obtain ⟨M, es, clk, hu, hn, hM, hE⟩ := inv.st.mp (hall 0 (by decide))
    have hg := (inv.st.given (hall 22 (by decide))).1
    have hu2 : a.tmps.getD 1 undef = .map (some M) := by rw [Array.getD_eq_getD_getElem?, hu]; rfl
    rw [hu2] at hg
    have hE2 : Ents w (fun _ => True) V es.toList := ⟨fun e he => by obtain ⟨j, hj, _, hk⟩ := hE.all e he; exact ⟨j, hj, trivial, hk⟩, fun j hj _ => hE.one j hj (hall _ (by show 5 + 5 * j < 23; omega))⟩
    have hg2 : a.tmps.getD 0 undef = .map (some M) := by rw [Array.getD_eq_getD_getElem?, hg]; rfl
    rename_i hK0
    refine hK0 _ _ (wp_ret (bodyPost_ret (results_tmp rfl _ _ _) inv.st.defers ?_))
    exact ⟨M, es, clk, by rw [← hg2], inv.st.but, hM, hE2⟩
  all_goals exact absurd hd (start_dn _ _)

theorem kd_std (a b : Int) : kdJ (stdIx a b) = kd (a == 0) (b == 0) := by
  unfold stdIx
  by_cases ha : a = 0 <;> by_cases hb : b = 0 <;> simp [ha, hb, kdJ]

set_option maxHeartbeats 6400000 in
set_option maxRecDepth 100000 in
theorem standard_spec (a b : Int) (w : World) : Calls Try.prog 18 #[.int .i64 a, .int .i64 b] w fun e w' => ∃ pv, e = .returned (.agg (tbl (stdc (stdIx a b)) pv).toArray) ∧ View w' .u8 pv (stdL (stdIx a b)) ∧ But Nowhere w w' := by
  have hu := Try.underlying30
  obtain ⟨i, hi⟩ : ∃ i, stdIx a b = i := ⟨_, rfl⟩
  have hi4 : i < 4 := hi ▸ stdIx_lt a b
  have hkd := kd_std a b
  rw [hi] at hkd ⊢
  have HKD : Hid _ := hkd
  clear hkd hi
  have kk := (Keep.start w).made 30 (Value.int .i64 0 :: Value.int .i64 0 :: Value.int .i64 0 :: Value.int .i64 0 :: Value.int .i64 0 :: Value.int .i64 0 :: Value.int .i64 0 :: Value.int .i64 0 :: Value.int .i64 0 :: Value.int .i64 0 :: Value.int .i64 0 :: Value.int .i64 0 :: Value.int .i64 0 :: Value.int .i64 0 :: Value.int .i64 0 :: Value.int .i64 0 :: Value.slice none 0 0 :: [])
  go_enter Try.func18, Try.ntmps18
  go_wp2_with fail
  refine (standards_any _).mono ?_
  rintro e W1 ⟨M, es, clk, rfl, dd, hM, hE⟩
  replace kk := kk.step dd
  obtain ⟨g, hO, hx, hv⟩ := hE.one i hi4 trivial
  have hlook : (Instr.lookup 57 (.map (some M)) (kdJ i) false).run Try.prog W1 = .ok (tbJ i g) W1 := by
    rw [HKD.out] at hv hx ⊢
    exact run_look _ _ _ W1 M es clk hM hE.kds hv hx
  rw [HKD.out] at hlook
  unfold tbJ at hlook
  have hth := kk.head.there 0 (tbl (stdc i) (slJ i g)).toArray.size (by simp [tbl_length])
  have kY := kk.laid_any (tbl (stdc i) (slJ i g)) (by rw [tbl_length]; rfl)
  have hg : g ≠ w.heap.size := by have := hO.1; simp at this; omega
  have hV := hO.2.but (But.setCells (S := fun k => k = w.heap.size) (tbl (stdc i) (slJ i g)) (But.refl (fun k => k = w.heap.size) W1) (fun _ => rfl) 0) hg
  have HX : Hid _ := And.intro kY hV
  have hal : (tbl (stdc i) (slJ i g)).toArray.all (·.oneCell') = true := tbl_all _ _ _ _
  have hi2 : (Try.prog.info? 30).map (·.size) = some (tbl (stdc i) (slJ i g)).toArray.size := by rw [List.size_toArray, tbl_length]; kernel_rfl
  have hi3 : (Try.prog.info? 30).map (·.size) = some (tbl (stdc i) (slJ i g)).length := by rw [tbl_length]; kernel_rfl
  have HI3 : Hid _ := hi3
  clear kk kY hV hE hM hv hx dd hO hi3
  go_wp2_with (refine wpList_store_mid rfl 30 (.tmp 4) (.tmp 11) rfl w.heap.size 0 (tbl (stdc i) (slJ i g)).toArray rfl rfl ?_ hi2 hal ?_; exact hth)
  refine bodyPost_ret (results_cells rfl HX.out.1.head hu rfl HI3.out _ rfl) rfl ⟨slJ i g, rfl, ?_, HX.out.1.but⟩
  exact std_view i hi4 HX.out.2

end Go.Proofs.Ytlpeplihbdcklaa

/- What package huff answers: Check, Codes, Find, FindSec, CodeSec, Standard. -/
namespace Go.Proofs.Ytlpeplihbdcklaa
set_option linter.unusedVariables false
open Go.ChangeShapes Go.WideShapes Go.ChangeAt Go.RowKit

/-- What must hold of the world: nothing. -/
def HT : World → Prop := fun _ => True
theorem HT_but : ∀ W W', HT W → But Nowhere W W' → HT W' := fun _ _ _ _ => trivial

end Go.Proofs.Ytlpeplihbdcklaa
