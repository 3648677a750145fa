/- What the program's Check asks: that no code is of ones alone; and Check. -/
import Derived.Test.YtadcfndjbhcfbaaHd2
import Derived.Test.YtadcfndjbhcfbaaHu8
namespace Go.Proofs.Ytadcfndjbhcfbaa
set_option linter.unusedVariables false
open Go.ChangeShapes Go.WideShapes Go.ChangeAt Go.RowKit Go.Shelf

attribute [local go_sem] Oper.semAt_some wide_fn wide_depth Fence.inRound_fn Fence.inRound_depth

/-- What stands behind a function that holds a range over a function and never panics. -/
def bodyPostN (F : Fence) (n : Nat) (P : Program) (fn : Func) (R : Ending → World → Prop) : Exit → Act → World → Prop
  | .normal, a, w | .ret, a, w => LeavesInM F n P fn a.tmps R a.defers .returning w
  | _, _, _ => False

theorem callsIn_of_wp_quiet {F : Fence} {n : Nat} {P : Program} {f : FuncId} {fn : Func} {c : Code} {args : Array Value} {w : World} {R : Ending → World → Prop}
    (hf : P.funcs[f]? = some fn) (hb : fn.body = some c) (hF : F.fn f)
    (h : c.wpIn F n P (bodyPostN F n P fn R) { tmps := args ++ Array.replicate (fn.ntmps - args.size) undef, defers := [] } w) (hro : F.round = none := by rfl) : CallsIn F n P f args w R :=
  callsIn_of_wp_marks hf hb hF (wpIn_mono h (fun e a w hq => by cases e <;> first | exact hq | exact hq.elim)) hro

theorem results_bool {fn : Func} {p : Tmp} (h : fn.results = #[.cell p 4]) (tmps : Array Value) (w : World) (g : Nat) (b : Bool) (hp : tmps.getD p undef = .pointer (some ⟨g, 0, none⟩)) (hg : w.cell? ⟨g, 0, none⟩ = some (.bool b)) :
    (results fn tmps).run Try.prog w = .ok (.bool b) w := by
  have hb := Try.underlying4
  have hp2 : (tmps[p]?).getD undef = .pointer (some ⟨g, 0, none⟩) := by simpa using hp
  simp [results, h, hp2, asAddr, go_sem, hg]

/-- No code of these counts is of ones alone, or beyond. -/
def onesB (c : Nat → Int) : Bool := (List.range (cnt c 16).toNat).all fun p => decide (numP c p < 2 ^ lenP c p - 1)
theorem onesB_iff (c : Nat → Int) : onesB c = true ↔ ∀ p : Nat, (p : Int) < cnt c 16 → numP c p < 2 ^ lenP c p - 1 := by
  unfold onesB
  simp only [List.all_eq_true, List.mem_range, decide_eq_true_eq]
  exact ⟨fun h p hp => h p (by omega), fun h p hp => h p (by omega)⟩

theorem pow_to (n : Nat) (h : n ≤ 16) : ((1 : Int) ≤ 2 ^ n ∧ (2 : Int) ^ n ≤ 65536) := by
  refine ⟨one_le_pow n, ?_⟩
  have := Nat.pow_le_pow_right (n := 2) (by decide) h
  have e : (2 : Nat) ^ 16 = 65536 := by decide
  rw [e] at this
  have e2 : ((2 ^ n : Nat) : Int) = (2 : Int) ^ n := by simp
  omega

set_option maxHeartbeats 3200000 in
set_option maxRecDepth 100000 in
theorem leavesOnes_any (c : Nat → Int) (hc : Cnt c) (w : World) : Calls Try.prog 31 #[.agg (tab .i64 16 c).toArray] w fun e w' => e = .returned (.bool (onesB c)) ∧ But Nowhere w w' := by
  have hu := Try.underlying22
  have hi16 : (Try.prog.info? 22).map (·.size) = some (tab .i64 16 c).length := by rw [tab_length]; kernel_rfl
  refine (callsIn_wide (n := 3)).1 ?_
  refine callsIn_of_wp_quiet Try.func31 rfl trivial ?_ rfl
  simp only [Try.ntmps31, List.size_toArray, List.length_cons, List.length_nil, Nat.reduceAdd, Nat.reduceSub, Array.replicate_succ, Array.replicate_zero, List.push_toArray, List.append_toArray, List.nil_append, List.cons_append]
  have kk := ((Keep.start w).made 22 (tab .i64 16 c)).made 4 [.bool false]
  simp only [World.size_alloc] at kk
  have hR := (kk.get (b := w.heap.size) (t := 22) (c := tab .i64 16 c) (by simp)).all
  gi_wp2_with (refine wpListIn_load_mid rfl 22 (.tmp 1) rfl (w.heap.size) 0 rfl (tab .i64 16 c) _ ?_ hu rfl hi16 ?_; exact hR)
  clear hR hu hi16
  revert kk
  generalize (w.alloc (.cells (tab .i64 16 c).toArray 22)).alloc (.cells #[.bool false] 4) = W0
  intro kk
  refine (callsIn_wide.2 (laid_any c W0)).mono ?_
  rintro e W1 ⟨cb, rfl, k1⟩
  have hcb := k1.new (cb, 22, tab .i64 16 c) (by simp)
  simp only at hcb
  have kcb := k1.head
  have hz0 := kk.head.lt
  replace kk := kk.step k1.but
  have rb := kk.head
  have hz1 := rb.lt
  gi_wp2_with fail
  refine range_till (T := fun k => k = w.heap.size + 1) (fun i W => (∀ p : Nat, p < i → numP c p < 2 ^ lenP c p - 1) ∧ Cells W (w.heap.size + 1) 4 [.bool false])
    (fun W => onesB c = false ∧ Cells W (w.heap.size + 1) 4 [.bool false]) (laid1_iter c hc cb) rfl (enters_of Try.func47 (by kernel_rfl) rfl) (fun _ => rfl)
    (fun i U hU _ => kcb.but hU (by omega)) (fun k hk => by omega) (fun i U U' hj hb => ⟨hj.1, hj.2.but hb (by omega)⟩) (fun U U' hj hb => ⟨hj.1, hj.2.but hb (by omega)⟩) ⟨fun p hp => by omega, rb⟩ ?_ ?_ ?_
  · intro lo i W KK hlo hlt hi hbW hJ hK
    have sm := hc.small i (by omega)
    have HPW : Hid _ := pow_to (lenP c i) sm.2.1
    have gC0 := Cells.new W 36 [.int .i64 ((lenP c i : Nat) : Int), .int .i64 (numP c i)]
    have HIN : Hid (i < (cnt c 16).toNat) := hi
    have hlo1 : W1.heap.size ≤ W.heap.size := hbW.size
    dsimp only
    unfold codeA
    gi_wp2_with fail
    refine hK _ _ ((But.refl _ _).alloc _) ?_
    clear hJ hK hbW hi
    intro U hU hlU hbU hJ
    have lw := hU.size
    simp only [World.size_alloc] at lw
    have gC := gC0.but hU (by omega)
    obtain ⟨sb, hsb⟩ : ∃ b, W.heap.size = b := ⟨_, rfl⟩
    rw [hsb] at gC lw hlo1 ⊢
    obtain ⟨L, hL⟩ : ∃ L : Nat, lenP c i = L := ⟨_, rfl⟩
    obtain ⟨V, hV⟩ : ∃ V : Int, numP c i = V := ⟨_, rfl⟩
    rw [hL] at gC sm HPW ⊢
    rw [hV] at gC sm ⊢
    have HLV : Hid _ := And.intro hL hV
    have cN := gC.drew.at 0
    have cV := gC.drew.at 1
    simp only [List.getElem?_cons_zero, List.getElem?_cons_succ] at cN cV
    have hr0 : ¬ ((L : Int) < 0) := by omega
    have hsh : IntKind.i64.wrap ((2 : Int) ^ L) = 2 ^ L := by rw [wrap_i64_eq]; exact w64 _ (by have := HPW.out; omega)
    have hp0 : (1 : Int) ≤ 2 ^ L ∧ (2 : Int) ^ L ≤ 65536 := HPW.out
    obtain ⟨hj1, hj2⟩ := hJ
    have HJ1 : Hid _ := hj1
    have hres := hj2.drew
    have bu : But Nowhere U U.drew := (But.refl _ _).drew
    have ht : IntKind.i64.wrap (2 ^ L - 1) = 2 ^ L - 1 := by rw [wrap_i64_eq]; exact w64 _ (by omega)
    have hs64 : (L : Int).toNat = L := by omega
    clear gC0 hU hlU hsb hL hV gC hj1 hj2
    gi_wp2_with fail
    refine round_region_till (S := fun V' => V'.cell? ⟨sb, 0, none⟩ = some (.int .i64 (L : Int)) ∧ V'.cell? ⟨sb, 1, none⟩ = some (.int .i64 V)) (R := fun _ => True) (k := 100) (m := 100) (by kernel_rfl) (by kernel_rfl) (by rintro ⟨_, _, ⟨-, (⟨q, _⟩ | ⟨q, _⟩)⟩⟩ <;> cases q) ⟨cN, cV⟩ trivial ?_
    (refine Walk.take (i := 0) (oi := { dst := some 9, op := Op.fieldAddr 36 (Operand.tmp 4) 1, type := 0, pos := "huff.go:128", after := #[], guard := none }) (v := ?_) rfl (by kernel_rfl) (by kernel_rfl) (by kernel_rfl) (by kernel_rfl) (fun _ _ _ h => h) (Or.inl ⟨by rfl, ?_⟩) ?_; rotate_left; (intro w hw; clear hw; (try go_split_ands); go_simp; try (with_reducible rfl)); simp only [Act.put, List.setIfInBounds_toArray, List.set_cons_zero, List.set_cons_succ])
    (refine Walk.take (i := 1) (oi := { dst := some 10, op := Op.load 3 (Operand.tmp 9), type := 3, pos := "huff.go:128", after := #[{ on := 0, ground := Ground.data }], guard := none }) (v := ?_) rfl (by kernel_rfl) (by kernel_rfl) (by kernel_rfl) (by kernel_rfl) (fun _ _ _ h => h) (Or.inl ⟨by rfl, ?_⟩) ?_; rotate_left; (intro w hw; have hS1 := hw.1 (by kernel_rfl); clear hw; (try dsimp only at hS1); (try go_split_ands); go_simp; try (with_reducible rfl)); simp only [Act.put, List.setIfInBounds_toArray, List.set_cons_zero, List.set_cons_succ])
    (refine Walk.take (i := 2) (oi := { dst := some 11, op := Op.fieldAddr 36 (Operand.tmp 4) 0, type := 0, pos := "huff.go:128", after := #[], guard := none }) (v := ?_) rfl (by kernel_rfl) (by kernel_rfl) (by kernel_rfl) (by kernel_rfl) (fun _ _ _ h => h) (Or.inl ⟨by rfl, ?_⟩) ?_; rotate_left; (intro w hw; clear hw; (try go_split_ands); go_simp; try (with_reducible rfl)); simp only [Act.put, List.setIfInBounds_toArray, List.set_cons_zero, List.set_cons_succ])
    (refine Walk.take (i := 3) (oi := { dst := some 12, op := Op.load 3 (Operand.tmp 11), type := 3, pos := "huff.go:128", after := #[{ on := 2, ground := Ground.data }], guard := none }) (v := ?_) rfl (by kernel_rfl) (by kernel_rfl) (by kernel_rfl) (by kernel_rfl) (fun _ _ _ h => h) (Or.inl ⟨by rfl, ?_⟩) ?_; rotate_left; (intro w hw; have hS1 := hw.1 (by kernel_rfl); clear hw; (try dsimp only at hS1); (try go_split_ands); go_simp; try (with_reducible rfl)); simp only [Act.put, List.setIfInBounds_toArray, List.set_cons_zero, List.set_cons_succ])
    (refine Walk.take (i := 4) (oi := { dst := some 13, op := Op.binOp BinOp.shl 3 (Operand.const (Value.int IntKind.i64 1)) (Operand.tmp 12) 3, type := 3, pos := "huff.go:128", after := #[{ on := 3, ground := Ground.data }], guard := none }) (v := ?_) rfl (by kernel_rfl) (by kernel_rfl) (by kernel_rfl) (by kernel_rfl) (fun _ _ _ h => h) (Or.inl ⟨by rfl, ?_⟩) ?_; rotate_left; (intro w hw; clear hw; (try go_split_ands); go_simp; try (with_reducible rfl)); simp only [Act.put, List.setIfInBounds_toArray, List.set_cons_zero, List.set_cons_succ])
    (refine Walk.take (i := 5) (oi := { dst := some 14, op := Op.binOp BinOp.sub 3 (Operand.tmp 13) (Operand.const (Value.int IntKind.i64 1)) 3, type := 3, pos := "huff.go:128", after := #[{ on := 4, ground := Ground.data }], guard := none }) (v := ?_) rfl (by kernel_rfl) (by kernel_rfl) (by kernel_rfl) (by kernel_rfl) (fun _ _ _ h => h) (Or.inl ⟨by rfl, ?_⟩) ?_; rotate_left; (intro w hw; clear hw; (try go_split_ands); go_simp; try (with_reducible rfl)); simp only [Act.put, List.setIfInBounds_toArray, List.set_cons_zero, List.set_cons_succ])
    (refine Walk.take (i := 6) (oi := { dst := some 15, op := Op.binOp BinOp.geq 3 (Operand.tmp 10) (Operand.tmp 14) 3, type := 4, pos := "huff.go:128", after := #[{ on := 1, ground := Ground.data }, { on := 5, ground := Ground.data }], guard := none }) (v := ?_) rfl (by kernel_rfl) (by kernel_rfl) (by kernel_rfl) (by kernel_rfl) (fun _ _ _ h => h) (Or.inl ⟨by rfl, ?_⟩) ?_; rotate_left; (intro w hw; clear hw; (try go_split_ands); go_simp; try (with_reducible rfl)); simp only [Act.put, List.setIfInBounds_toArray, List.set_cons_zero, List.set_cons_succ])
    refine Walk.done (by kernel_rfl) ?_ _
    clear hsh ht
    by_cases hd : 2 ^ L - 1 ≤ V
    · rw [decide_eq_true hd]
      have HST : Hid (onesB c = false) := by
        cases e : onesB c
        · rfl
        · have := (onesB_iff c).1 e i (by have := HIN.out; omega)
          rw [HLV.out.1, HLV.out.2] at this
          omega
      have c0 := hres.at 0
      have f0 := hres.frozen 0
      simp only [List.getElem?_cons_zero] at c0
      have HX : Hid _ := And.intro (hres.set 0 (.bool false)) (But.setCell (S := fun k => k = w.heap.size + 1) (p := ⟨w.heap.size + 1, 0, none⟩) (bu.mono (fun _ _ f => f.elim)) (fun _ => rfl) (.bool false))
      clear hres bu cN cV hp0 hd
      gi_wp2_with fail
      exact ⟨HX.out.2, HST.out, HX.out.1⟩
    · rw [decide_eq_false hd]
      have HX : Hid _ := And.intro hres (bu.mono (T := fun k => k = w.heap.size + 1) (fun _ _ f => f.elim))
      have HN : Hid (∀ p : Nat, p < i + 1 → numP c p < 2 ^ lenP c p - 1) := fun p hp => by
        by_cases e : p = i
        · subst e; rw [HLV.out.1, HLV.out.2]; omega
        · exact HJ1.out p (by omega)
      clear hres bu cN cV hp0 hd
      gi_wp2_with fail
      exact ⟨HX.out.2, HN.out, HX.out.1⟩
  · intro W' hb hJ hD hlt
    have HY : Hid (true = onesB c) := ((onesB_iff c).2 (fun p hp => hJ.1 p (by have := (onesB_iff c); omega))).symm
    have c0 := hJ.2.at 0
    have f0 := hJ.2.frozen 0
    simp only [List.getElem?_cons_zero] at c0
    have hbb : But Nowhere w W' := kk.but.step hb (fun k hk q => by omega)
    have hne : w.heap.size + 1 ≠ W1.heap.size := by omega
    have hD2 : (W'.setCell ⟨w.heap.size + 1, 0, none⟩ (.bool true)).heap[W1.heap.size]? = some (.deferred (some [])) := (Below.heap_setCell W' ⟨w.heap.size + 1, 0, none⟩ (.bool true) W1.heap.size (Ne.symm hne)).trans hD
    have hC2 := hJ.2.set 0 (.bool true)
    have HX : Hid _ := And.intro hD2 (And.intro hC2 hbb)
    clear hbb hC2 hD2 hJ hb hD
    gi_wp2_with fail
    refine ⟨by simp, .inl ⟨_, _, rfl, run_takeDeferred HX.out.1, ?_⟩⟩
    have bD := But.putObj (S := fun k => k = W1.heap.size) (But.refl (fun k => k = W1.heap.size) (W'.setCell ⟨w.heap.size + 1, 0, none⟩ (.bool true))) (fun _ => rfl) (.deferred none)
    refine ⟨_, results_bool rfl _ _ _ _ rfl ((HX.out.2.1.but bD hne).at 0), by rw [← HY.out], ?_⟩
    exact (HX.out.2.2.setCell (p := ⟨w.heap.size + 1, 0, none⟩) (fun q => by simp at q; omega) _).step bD (fun k hk q => by have := kk.but.size; omega)
  · intro W' hb hJ hD hlt
    have hbb : But Nowhere w W' := kk.but.step hb (fun k hk q => by omega)
    have hne : w.heap.size + 1 ≠ W1.heap.size := by omega
    have bD := But.putObj (S := fun k => k = W1.heap.size) (But.refl (fun k => k = W1.heap.size) W') (fun _ => rfl) (.deferred none)
    try simp only [Exit.inBlock, Exit.then]
    refine ⟨by simp, .inl ⟨_, _, rfl, run_takeDeferred hD, ?_⟩⟩
    refine ⟨_, results_bool rfl _ _ _ _ rfl ((hJ.2.but bD hne).at 0), by rw [hJ.1], ?_⟩
    exact hbb.step bD (fun k hk q => by have := kk.but.size; omega)

theorem checkB_eq (c : Nat → Int) (l : List Int) : (cntB c l && (decide l.Nodup && onesB c)) = checkB c l := by
  cases h : checkB c l
  · cases h1 : cntB c l
    · rfl
    · cases h2 : decide l.Nodup
      · rfl
      · cases h3 : onesB c
        · rfl
        · exfalso
          have a1 := (cntB_iff c l).1 h1
          have : checkB c l = true := (checkB_iff c l).2 ⟨a1.1.below.2 ((onesB_iff c).1 h3), a1.2.1, a1.2.2, of_decide_eq_true h2⟩
          rw [h] at this
          cases this
  · have o := (checkB_iff c l).1 h
    rw [(cntB_iff c l).2 ⟨o.ok.counts, o.sum, o.most⟩, decide_eq_true o.once, (onesB_iff c).2 (o.ok.counts.below.1 o.ok)]
    rfl

set_option maxHeartbeats 3200000 in
set_option maxRecDepth 100000 in
theorem check_any (c : Nat → Int) (pv : Value) (l : List Int) (hI : ∀ j, j < 16 → I64 (c j)) (w : World) (hv : View w .u8 pv l) (hx : ∀ x ∈ l, 0 ≤ x ∧ x ≤ 255) (hl : l.length ≤ 140737488355328) : Calls Try.prog 19 #[.agg (tbl c pv).toArray] w fun e w' => e = .returned (.bool (checkB c l)) ∧ But Nowhere w w' := by
  have HV : Hid (View w .u8 pv l) := hv
  obtain ⟨ao, cap, rfl⟩ := hv.slice
  clear hv
  rw [← checkB_eq]
  have huT := Try.underlying25
  have hu := Try.underlying22
  have hiT : (Try.prog.info? 25).map (·.size) = some (tbl c (.slice ao l.length cap)).length := by rw [tbl_length]; kernel_rfl
  have hi16 : (Try.prog.info? 22).map (·.size) = some (tab .i64 16 c).length := by rw [tab_length]; kernel_rfl
  have kk := (Keep.start w).made 25 (tbl c (.slice ao l.length cap))
  go_enter Try.func19, Try.ntmps19
  have hR := kk.head.all
  go_wp2_with (refine wpList_load_mid rfl 25 (.tmp 1) rfl (w.heap.size) 0 rfl (tbl c (.slice ao l.length cap)) _ ?_ huT rfl hiT ?_; exact hR)
  refine (isCounted_any c _ l hI _ (HV.out.but kk.but) hl).mono ?_
  rintro e y1 ⟨rfl, dd⟩
  replace kk := kk.step dd
  clear dd hR
  cases h1 : cntB c l
  · have HX : Hid _ := kk.but
    have HE : Hid _ := h1
    clear kk h1
    go_wp2_with fail
    go_ret
    first | exact ⟨rfl, HX.out⟩ | (rw [HE.out]; exact ⟨rfl, HX.out⟩)
  · have c16 := kk.head.vals
    go_wp2_with fail
    refine (isOnce_any _ l _ (HV.out.but kk.but) hx hl).mono ?_
    rintro e y2 ⟨rfl, dd⟩
    replace kk := kk.step dd
    clear dd c16
    cases h2 : decide l.Nodup
    · have HX : Hid _ := kk.but
      have HE : Hid _ := And.intro h1 h2
      clear kk h1 h2
      go_wp2_with fail
      go_ret
      first | exact ⟨rfl, HX.out⟩ | (rw [HE.out.1, HE.out.2]; exact ⟨rfl, HX.out⟩)
    · have hR := tbl_range kk.head
      go_wp2_with (refine wpList_load_midG rfl 22 (.tmp 11) rfl (w.heap.size) 0 rfl (tab .i64 16 c) _ ?_ hu rfl hi16 ?_; exact hR)
      refine (leavesOnes_any c ((cntB_iff c l).1 h1).1 _).mono ?_
      rintro e y3 ⟨rfl, dd⟩
      replace kk := kk.step dd
      clear dd hR
      have HX : Hid _ := kk.but
      have HE : Hid _ := And.intro h1 h2
      clear kk h1 h2
      go_wp2_with fail
      go_ret
      first | exact ⟨rfl, HX.out⟩ | (rw [HE.out.1, HE.out.2]; exact ⟨rfl, HX.out⟩)

end Go.Proofs.Ytadcfndjbhcfbaa
