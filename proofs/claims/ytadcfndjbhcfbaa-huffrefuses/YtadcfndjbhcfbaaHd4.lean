/- The values of a table, each with its code, as the program tells them: told. -/
import Derived.Test.YtadcfndjbhcfbaaHd3
import Derived.Test.YtadcfndjbhcfbaaTillR
namespace Go.Proofs.Ytadcfndjbhcfbaa
set_option linter.unusedVariables false
open Go.ChangeShapes Go.WideShapes Go.ChangeAt Go.RowKit Go.Shelf

attribute [local go_sem] Oper.semAt_some wide_fn wide_depth Fence.inRound_fn Fence.inRound_depth

theorem round_in {n m l₀ : Nat} {P : Program} {l : Nat} {f : FuncId} {tmps : Array Value} {assign body : Code} {w : World} {R : Ending → World → Prop} (h : RoundIn Fence.wide n P l f tmps assign body w R) : RoundIn (Fence.wide.inRound l₀) m P l f tmps assign body w R :=
  ⟨h.1, fun c cs _ => h.2 c cs (room_wide _)⟩

theorem told_any (c : Nat → Int) (pv : Value) (l : List Int) (w : World) (hv : View w .u8 pv l) : Calls Try.prog 28 #[.agg (tbl c pv).toArray] w fun e w' => ∃ b, e = .returned (.func (.func 37) #[] #[.pointer (some ⟨b, 0, none⟩)]) ∧ Keep w w' [(b, 25, tbl c pv)] := by
  obtain ⟨ao, cap, rfl⟩ := hv.slice
  have kk := (Keep.start w).made 25 (tbl c (.slice ao l.length cap))
  go_enter Try.func28, Try.ntmps28
  go_wp2_with fail
  go_ret
  exact ⟨_, rfl, kk⟩

/-- How many are told, and which. -/
def toldN (c : Nat → Int) (l : List Int) : Nat := if checkB c l then l.length else 0
abbrev toldA (c : Nat → Int) (l : List Int) (p : Nat) : Array Value := #[.int .u8 (l.getD p 0), codeA c p]

set_option maxHeartbeats 6400000 in
set_option maxRecDepth 100000 in
theorem told1_iter (c : Nat → Int) (pv : Value) (l : List Int) (tb : Nat) (hI : ∀ j, j < 16 → I64 (c j)) (hx : ∀ x ∈ l, 0 ≤ x ∧ x ≤ 255) (hl : l.length ≤ 140737488355328) :
    IterS Try.prog 37 #[.pointer (some ⟨tb, 0, none⟩)] (toldN c l) (toldA c l) (fun W => Cells W tb 25 (tbl c pv) ∧ View W .u8 pv l) := by
  intro n lo W J D HJ HD HI HY hJ0
  obtain ⟨N, hN⟩ : ∃ N, toldN c l = N := ⟨_, rfl⟩
  rw [hN] at HY ⊢
  have hmx : Try.prog.follows .mixedOrders = true := by kernel_rfl
  obtain ⟨hT0, hV0⟩ := HI 0 W hJ0
  obtain ⟨ao, cap, rfl⟩ := hV0.slice
  have huT := Try.underlying25
  have hu := Try.underlying22
  have hiT : (Try.prog.info? 25).map (·.size) = some (tbl c (.slice ao l.length cap)).length := by rw [tbl_length]; kernel_rfl
  have hi16 : (Try.prog.info? 22).map (·.size) = some (tab .i64 16 c).length := by rw [tab_length]; kernel_rfl
  have kk := (Keep.start W).made 66 [.func (.yield lo) #[] #[]]
  have hR := (hT0.but kk.but (not_nowhere _)).all
  have hR2 := tbl_range (hT0.but kk.but (not_nowhere _))
  refine callsIn_of_wp_quiet Try.func37 rfl trivial ?_ rfl
  simp only [Try.ntmps37, List.size_toArray, List.length_cons, List.length_nil, Nat.reduceAdd, Nat.reduceSub, Array.replicate_succ, Array.replicate_zero, List.push_toArray, List.append_toArray, List.nil_append, List.cons_append]
  gi_wp2_with (refine wpListIn_load_mid rfl 25 (.tmp 1) rfl tb 0 rfl (tbl c (.slice ao l.length cap)) _ ?_ huT rfl hiT ?_; exact hR)
  clear hR hR2 huT hiT
  revert kk
  generalize W.alloc (.cells #[.func (.yield lo) #[] #[]] 66) = W1
  intro kk
  refine (callsIn_wide.2 (check_any c _ l hI W1 (hV0.but kk.but) hx hl)).mono ?_
  rintro e W2 ⟨rfl, dd⟩
  replace kk := kk.step dd
  clear dd
  unfold toldN at hN
  cases hB : checkB c l
  · rw [hB, if_neg (by simp)] at hN
    subst hN
    have j1 := HJ 0 _ W2 hJ0 (kk.but.mono (fun _ _ f => f.elim))
    clear HY HJ hJ0 kk hT0 hV0
    gi_wp2_with fail
    exact ⟨_, results_none rfl _ _ _, ⟨_, rfl⟩, .inl j1⟩
  · rw [hB, if_pos rfl] at hN
    subst hN
    have hok := (checkB_iff c l).1 hB
    have hR := tbl_range (hT0.but kk.but (not_nowhere _))
    gi_wp2_with (refine wpListIn_load_mid rfl 22 (.tmp 8) rfl tb 0 rfl (tab .i64 16 c) _ ?_ hu rfl hi16 ?_; exact hR)
    refine (callsIn_wide.2 (laid_any c W2)).mono ?_
    rintro e W3 ⟨cb, rfl, k1⟩
    have hcb := k1.new (cb, 22, tab .i64 16 c) (by simp)
    simp only at hcb
    have kcb := k1.head
    have hz0 := kk.head.lt
    replace kk := kk.step k1.but
    have hz1 := kk.head.lt
    have hz2 := k1.but.size
    have j3 := HJ 0 _ W3 hJ0 (kk.but.mono (fun _ _ f => f.elim))
    have hNl : (cnt c 16).toNat = l.length := by have := hok.sum; omega
    have ITR := laid1_iter c hok.ok.counts cb
    rw [hNl] at ITR
    clear hR hJ0 hV0 k1 hu hi16
    gi_wp2_with fail
    refine range_till (T := fun k => k < W.heap.size) J D ITR rfl (enters_of Try.func47 (by kernel_rfl) rfl) (fun _ => rfl)
      (fun i U hU _ => kcb.but hU (by omega)) (fun k hk => by have := kk.but.size; omega) (fun i U U' hj hb => HJ i U U' hj (hb.mono (fun k _ q => by have := kk.but.size; omega))) (fun U U' hj hb => HD U U' hj (hb.mono (fun k _ q => by have := kk.but.size; omega))) j3 ?_ ?_ ?_
    · intro lo' i U KK hlo hlt hi hbU hJ hK
      have hil : i < l.length := hi
      have gC0 := Cells.new U 36 [.int .i64 ((lenP c i : Nat) : Int), .int .i64 (numP c i)]
      have hlo1 : W3.heap.size ≤ U.heap.size := hbU.size
      dsimp only
      unfold codeA
      gi_wp2_with fail
      refine hK _ _ ((But.refl _ _).alloc _) ?_
      clear hJ hK hbU hi
      intro V hV hlV hbV hJ
      have lw := hV.size
      simp only [World.size_alloc] at lw
      have gC := gC0.but hV (by omega)
      obtain ⟨sb, hsb⟩ : ∃ b, U.heap.size = b := ⟨_, rfl⟩
      rw [hsb] at gC lw hlo1 ⊢
      have bu : But Nowhere V V.drew := (But.refl _ _).drew
      have jd := HJ i V V.drew hJ (bu.mono (fun _ _ f => f.elim))
      obtain ⟨hT1, hV1⟩ := HI i V.drew jd
      obtain ⟨-, vb, off, hao, -, e1⟩ := hV1.at i hil
      have c16 := hT1.vals
      have cY := (kk.head.but (hbV.trans (bu.mono (fun _ _ f => f.elim))) (by omega)).at 0
      have cN := gC.drew.at 0
      have cV := gC.drew.at 1
      simp only [List.getElem?_cons_zero, List.getElem?_cons_succ] at cY cN cV
      rw [hao] at c16
      have hzV : W.heap.size ≤ V.drew.heap.size := by
        have := hbV.size
        have := bu.size
        omega
      obtain ⟨fn, tmps, assign, body, hy, hRnd⟩ := HY i V.drew hil hzV jd
      rw [show toldA c l i = #[.int .u8 l[i], codeA c i] by unfold toldA; rw [List.getD_eq_getElem?_getD, List.getElem?_eq_getElem hil]; rfl] at hy
      unfold codeA at hy
      have q0 : (0 : Int) ≤ (i : Int) := by omega
      have q1 : (i : Int) < (l.length : Int) := by omega
      obtain ⟨x, hxe⟩ : ∃ x, l[i] = x := ⟨_, rfl⟩
      rw [hxe] at hy e1
      obtain ⟨L, hL⟩ : ∃ L : Nat, lenP c i = L := ⟨_, rfl⟩
      obtain ⟨Vn, hVn⟩ : ∃ V : Int, numP c i = V := ⟨_, rfl⟩
      rw [hL] at hy cN ⊢
      rw [hVn] at hy cV ⊢
      have HBV : Hid _ := hbV
      have HBU : Hid _ := bu
      clear gC0 hV hlV hsb hL hVn hxe hT1 hV1 hJ jd gC hbV bu HJ HD HI hx hcb kcb ITR
      subst hao
      gi_wp2_with fail
      refine round_region_walk (S := fun V' => V'.cell? ⟨vb, off + i, none⟩ = some (.int .u8 x) ∧ V'.cell? ⟨W.heap.size, 0, none⟩ = some (.func (.yield lo) #[] #[]) ∧ V'.cell? ⟨sb, 0, none⟩ = some (.int .i64 (L : Int)) ∧ V'.cell? ⟨sb, 1, none⟩ = some (.int .i64 Vn)) (R := fun V' => V'.cell? ⟨tb, 16, none⟩ = some (.slice (some ⟨vb, off, none⟩) l.length cap)) (k := 7) (m := 4) (by kernel_rfl) ⟨e1, cY, cN, cV⟩ c16 ?_
      (refine WalkR.take (by kernel_rfl) (i := 0) (oi := { dst := some 13, op := Op.load 66 (Operand.tmp 2), type := 66, pos := "huff.go:77", after := #[], guard := none }) (v := ?_) rfl (by kernel_rfl) (by kernel_rfl) (by kernel_rfl) (by kernel_rfl) (fun _ _ _ h => h) (Or.inl ⟨by rfl, ?_⟩) ?_; rotate_left; (intro w hw; have hS1 := hw.1 (by kernel_rfl); clear hw; (try dsimp only at hS1); (try go_split_ands); go_simp; try (with_reducible rfl)); simp only [Act.put, List.setIfInBounds_toArray, List.set_cons_zero, List.set_cons_succ])
      (refine WalkR.take (by kernel_rfl) (i := 1) (oi := { dst := some 14, op := Op.fieldAddr 25 (Operand.tmp 1) 1, type := 0, pos := "huff.go:77", after := #[], guard := none }) (v := ?_) rfl (by kernel_rfl) (by kernel_rfl) (by kernel_rfl) (by kernel_rfl) (fun _ _ _ h => h) (Or.inl ⟨by rfl, ?_⟩) ?_; rotate_left; (intro w hw; clear hw; (try go_split_ands); go_simp; try (with_reducible rfl)); simp only [Act.put, List.setIfInBounds_toArray, List.set_cons_zero, List.set_cons_succ])
      (refine WalkR.take (by kernel_rfl) (i := 2) (oi := { dst := some 15, op := Op.load 23 (Operand.tmp 14), type := 23, pos := "huff.go:77", after := #[{ on := 1, ground := Ground.data }], guard := none }) (v := ?_) rfl (by kernel_rfl) (by kernel_rfl) (by kernel_rfl) (by kernel_rfl) (fun _ _ _ h => h) (Or.inl ⟨by rfl, ?_⟩) ?_; rotate_left; (intro w hw; have hS2 := hw.2 (by kernel_rfl); clear hw; (try dsimp only at hS2); (try go_split_ands); go_simp; try (with_reducible rfl)); simp only [Act.put, List.setIfInBounds_toArray, List.set_cons_zero, List.set_cons_succ])
      (refine WalkR.take (by kernel_rfl) (i := 3) (oi := { dst := some 16, op := Op.move (Operand.tmp 3), type := 3, pos := "huff.go:77", after := #[], guard := none }) (v := ?_) rfl (by kernel_rfl) (by kernel_rfl) (by kernel_rfl) (by kernel_rfl) (fun _ _ _ h => h) (Or.inl ⟨by rfl, ?_⟩) ?_; rotate_left; (intro w hw; clear hw; (try go_split_ands); go_simp; try (with_reducible rfl)); simp only [Act.put, List.setIfInBounds_toArray, List.set_cons_zero, List.set_cons_succ])
      (refine WalkR.take (by kernel_rfl) (i := 6) (oi := { dst := some 19, op := Op.load 36 (Operand.tmp 4), type := 36, pos := "huff.go:77", after := #[], guard := none }) (v := ?_) rfl (by kernel_rfl) (by kernel_rfl) (by kernel_rfl) (by kernel_rfl) (fun _ _ _ h => h) (Or.inl ⟨by rfl, ?_⟩) ?_; rotate_left; (intro w hw; have hS1 := hw.1 (by kernel_rfl); clear hw; (try dsimp only at hS1); (try go_split_ands); go_simp; try (with_reducible rfl)); simp only [Act.put, List.setIfInBounds_toArray, List.set_cons_zero, List.set_cons_succ])
      (refine WalkR.go (i := 4) (o := { dst := some 17, op := Op.indexAddr 23 (Operand.tmp 15) (Operand.tmp 16), type := 0, pos := "huff.go:77", after := #[{ on := 2, ground := Ground.data }, { on := 3, ground := Ground.data }], guard := none }) (by kernel_rfl) rfl (fun K hK => ?_); go_simp; (skip); refine hK.out _ _ (⟨fun _ => ⟨e1, cY, cN, cV⟩, fun q => absurd q (by decide)⟩) ?_; clear hK K; try simp only [Act.put, List.setIfInBounds_toArray, List.set_cons_zero, List.set_cons_succ])
      (refine WalkR.take (by kernel_rfl) (i := 5) (oi := { dst := some 18, op := Op.load 5 (Operand.tmp 17), type := 5, pos := "huff.go:77", after := #[{ on := 4, ground := Ground.data }], guard := none }) (v := ?_) rfl (by kernel_rfl) (by kernel_rfl) (by kernel_rfl) (by kernel_rfl) (fun _ _ _ h => h) (Or.inl ⟨by rfl, ?_⟩) ?_; rotate_left; (intro w hw; have hS1 := hw.1 (by kernel_rfl); clear hw; (try dsimp only at hS1); (try go_split_ands); go_simp; try (with_reducible rfl)); simp only [Act.put, List.setIfInBounds_toArray, List.set_cons_zero, List.set_cons_succ])
      refine WalkR.go (i := 7) (o := { dst := some 20, op := Op.call { callee := Callee.value (Operand.tmp 13), args := #[Operand.tmp 18, Operand.tmp 19], argTypes := #[5, 36] }, type := 4, pos := "huff.go:77", after := #[{ on := 0, ground := Ground.data }, { on := 5, ground := Ground.data }, { on := 6, ground := Ground.data }], guard := none }) (by kernel_rfl) rfl (fun K hK => ?_)
      go_simp
      refine (round_in hRnd).mono ?_
      rintro e W4 ⟨hb4, (⟨rfl, j4⟩ | ⟨rfl, d4⟩)⟩
      · refine hK.out _ _ (⟨fun q => absurd q (by decide), fun q => absurd q (by decide)⟩) ?_
        clear hK K
        try simp only [Act.put, List.setIfInBounds_toArray, List.set_cons_zero, List.set_cons_succ]
        (refine WalkR.take (by kernel_rfl) (i := 8) (oi := { dst := some 21, op := Op.unOp UnOp.not 4 (Operand.tmp 20), type := 4, pos := "huff.go:77", after := #[{ on := 7, ground := Ground.data }], guard := none }) (v := ?_) rfl (by kernel_rfl) (by kernel_rfl) (by kernel_rfl) (by kernel_rfl) (fun _ _ _ h => h) (Or.inl ⟨by rfl, ?_⟩) ?_; rotate_left; (intro w hw; clear hw; (try go_split_ands); go_simp; try (with_reducible rfl)); simp only [Act.put, List.setIfInBounds_toArray, List.set_cons_zero, List.set_cons_succ])
        refine WalkR.done (by kernel_rfl) ?_ _
        have HX : Hid _ := And.intro hb4 j4
        clear hb4 j4 hy hRnd
        gi_wp2_with fail
        exact ⟨(HBU.out.mono (fun _ _ f => f.elim)).trans HX.out.1, HX.out.2⟩
      · refine hK.out _ _ (⟨fun q => absurd q (by decide), fun q => absurd q (by decide)⟩) ?_
        clear hK K
        try simp only [Act.put, List.setIfInBounds_toArray, List.set_cons_zero, List.set_cons_succ]
        (refine WalkR.take (by kernel_rfl) (i := 8) (oi := { dst := some 21, op := Op.unOp UnOp.not 4 (Operand.tmp 20), type := 4, pos := "huff.go:77", after := #[{ on := 7, ground := Ground.data }], guard := none }) (v := ?_) rfl (by kernel_rfl) (by kernel_rfl) (by kernel_rfl) (by kernel_rfl) (fun _ _ _ h => h) (Or.inl ⟨by rfl, ?_⟩) ?_; rotate_left; (intro w hw; clear hw; (try go_split_ands); go_simp; try (with_reducible rfl)); simp only [Act.put, List.setIfInBounds_toArray, List.set_cons_zero, List.set_cons_succ])
        refine WalkR.done (by kernel_rfl) ?_ _
        have HX : Hid _ := And.intro hb4 d4
        clear hb4 d4 hy hRnd
        gi_wp2_with fail
        exact ⟨(HBU.out.mono (fun _ _ f => f.elim)).trans HX.out.1, HX.out.2⟩
    · intro W' hb hJ hD hlt
      have hne := kk.but.size
      have bD := But.putObj (S := fun k => k = W3.heap.size) (But.refl (fun k => k = W3.heap.size) W') (fun _ => rfl) (.deferred none)
      have j1 := HJ l.length _ _ hJ (bD.mono (fun k _ q => by omega))
      gi_wp2_with fail
      refine ⟨by simp, .inl ⟨_, _, rfl, run_takeDeferred hD, ?_⟩⟩
      exact ⟨_, results_none rfl _ _ _, ⟨_, rfl⟩, .inl j1⟩
    · intro W' hb hJ hD hlt
      have hne := kk.but.size
      have bD := But.putObj (S := fun k => k = W3.heap.size) (But.refl (fun k => k = W3.heap.size) W') (fun _ => rfl) (.deferred none)
      have j1 := HD _ _ hJ (bD.mono (fun k _ q => by omega))
      try simp only [Exit.inBlock]
      refine ⟨by simp, .inl ⟨_, _, rfl, run_takeDeferred hD, ?_⟩⟩
      exact ⟨_, results_none rfl _ _ _, ⟨_, rfl⟩, .inr j1⟩

end Go.Proofs.Ytadcfndjbhcfbaa
