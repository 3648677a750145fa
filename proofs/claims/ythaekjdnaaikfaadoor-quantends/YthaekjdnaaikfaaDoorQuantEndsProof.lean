/- For every number n of 16 bits and every byte i, the law QuantEnds of layer 9 returns true: by steps of one a number stays as it is, up to the ends; behind them it is the end. No condition. -/
import Derived.Test.YthaekjdnaaikfaaDoorQuTab
import Derived.Test.YthaekjdnaaikfaaDoorQu4
import Derived.Test.YthaekjdnaaikfaaDoorQu8
import Derived.Test.YthaekjdnaaikfaaDoorQuEnds
import Derived.Test.YthaekjdnaaikfaaDoorFrame
import Derived.Test.YthaekjdnaaikfaaDoorRows
import Derived.Test.YthaekjdnaaikfaaDoorQuTab
import Derived.Test.YthaekjdnaaikfaaDoorCards
import Derived.Test.YthaekjdnaaikfaaDoorTie
namespace Go.Proofs.YthaekjdnaaikfaaDoor.quantEnds
open Go.ChangeShapes Go.WideShapes Go.ChangeAt Go.RowKit
set_option linter.unusedVariables false

theorem own : ownKnob Tryd.prog.godebug = none := by kernel_rfl
theorem laidOut : laidOutB Tryd.prog = true := by kernel_rfl
theorem readable : ∀ t ∈ Tryd.f7.params.toList, Tryd.prog.readableRec t = true ∧ t < Tryd.prog.types.size := by
  rw [Tryd.params7]
  simp only [List.mem_cons, List.not_mem_nil, or_false, forall_eq_or_imp, forall_eq]
  refine ⟨⟨by kernel_rfl, of_decide_eq_true (by kernel_rfl)⟩, ⟨by kernel_rfl, of_decide_eq_true (by kernel_rfl)⟩⟩

set_option maxHeartbeats 20000000 in
set_option maxRecDepth 100000 in
theorem walk (w : World) (hT : QTab w) (a0 : Int) (w0 : (Lit.int .i16 a0).wf = true) (a1 : Int) (w1 : (Lit.int .u8 a1).wf = true) :
    Calls Tryd.prog 7 #[.int .i16 a0, .int .u8 a1] w fun e w' => e = .returned (.bool true) ∧ But Nowhere w w' := by
  have hu := Tryd.underlying27
  have hiA : ∀ f, (Tryd.prog.info? 27).map (·.size) = some (tab .i64 64 f).length := fun f => by rw [tab_length]; kernel_rfl
  have hiB : ∀ f, (Tryd.prog.info? 27).map (·.size) = some (tab .i64 64 f).toArray.size := fun f => by rw [List.size_toArray, tab_length]; kernel_rfl
  have hi64 : (Tryd.prog.info? 27).map (·.size) = some 64 := by kernel_rfl
  have hall : (Value.int .i64 0 :: Value.int .i64 0 :: Value.int .i64 0 :: Value.int .i64 0 :: Value.int .i64 0 :: Value.int .i64 0 :: Value.int .i64 0 :: Value.int .i64 0 :: Value.int .i64 0 :: Value.int .i64 0 :: Value.int .i64 0 :: Value.int .i64 0 :: Value.int .i64 0 :: Value.int .i64 0 :: Value.int .i64 0 :: Value.int .i64 0 :: Value.int .i64 0 :: Value.int .i64 0 :: Value.int .i64 0 :: Value.int .i64 0 :: Value.int .i64 0 :: Value.int .i64 0 :: Value.int .i64 0 :: Value.int .i64 0 :: Value.int .i64 0 :: Value.int .i64 0 :: Value.int .i64 0 :: Value.int .i64 0 :: Value.int .i64 0 :: Value.int .i64 0 :: Value.int .i64 0 :: Value.int .i64 0 :: Value.int .i64 0 :: Value.int .i64 0 :: Value.int .i64 0 :: Value.int .i64 0 :: Value.int .i64 0 :: Value.int .i64 0 :: Value.int .i64 0 :: Value.int .i64 0 :: Value.int .i64 0 :: Value.int .i64 0 :: Value.int .i64 0 :: Value.int .i64 0 :: Value.int .i64 0 :: Value.int .i64 0 :: Value.int .i64 0 :: Value.int .i64 0 :: Value.int .i64 0 :: Value.int .i64 0 :: Value.int .i64 0 :: Value.int .i64 0 :: Value.int .i64 0 :: Value.int .i64 0 :: Value.int .i64 0 :: Value.int .i64 0 :: Value.int .i64 0 :: Value.int .i64 0 :: Value.int .i64 0 :: Value.int .i64 0 :: Value.int .i64 0 :: Value.int .i64 0 :: Value.int .i64 0 :: Value.int .i64 0 :: []).toArray.all (·.oneCell') = true := by have := tab_all .i64 64 (fun _ => 0); rw [← sixtyfour] at this; exact this
  have HZ : Hid _ := And.intro hi64 hall
  clear hi64 hall
  have u0 := i16_in w0
  have u1 := u8_in w1
  obtain ⟨k, hk⟩ : ∃ k : Nat, a1 % 64 = (k : Int) := ⟨(a1 % 64).toNat, by omega⟩
  have hk64 : k < 64 := by omega
  have hm : ∀ W : World, (Instr.makeSlice 29 (.int .i64 64) (.int .i64 64)).run Tryd.prog W = .ok (.slice (some ⟨W.heap.size, 0, none⟩) 64 64) (W.alloc (.cells (List.replicate 64 (Value.int .i64 0)).toArray 3)) := fun W => make_any Tryd.elemI 64 (.int .i64 0) (by intro j hj; have : j = 0 := (by omega); subst this; rfl) (by omega) (by omega) W
  have kk := (Keep.start w).zero 3
  go_enter Tryd.func7, Tryd.ntmps7
  go_wp2_with fail
  revert kk
  generalize w.alloc (.cells (Value.int .i64 0 :: Value.int .i64 0 :: Value.int .i64 0 :: Value.int .i64 0 :: Value.int .i64 0 :: Value.int .i64 0 :: Value.int .i64 0 :: Value.int .i64 0 :: Value.int .i64 0 :: Value.int .i64 0 :: Value.int .i64 0 :: Value.int .i64 0 :: Value.int .i64 0 :: Value.int .i64 0 :: Value.int .i64 0 :: Value.int .i64 0 :: Value.int .i64 0 :: Value.int .i64 0 :: Value.int .i64 0 :: Value.int .i64 0 :: Value.int .i64 0 :: Value.int .i64 0 :: Value.int .i64 0 :: Value.int .i64 0 :: Value.int .i64 0 :: Value.int .i64 0 :: Value.int .i64 0 :: Value.int .i64 0 :: Value.int .i64 0 :: Value.int .i64 0 :: Value.int .i64 0 :: Value.int .i64 0 :: Value.int .i64 0 :: Value.int .i64 0 :: Value.int .i64 0 :: Value.int .i64 0 :: Value.int .i64 0 :: Value.int .i64 0 :: Value.int .i64 0 :: Value.int .i64 0 :: Value.int .i64 0 :: Value.int .i64 0 :: Value.int .i64 0 :: Value.int .i64 0 :: Value.int .i64 0 :: Value.int .i64 0 :: Value.int .i64 0 :: Value.int .i64 0 :: Value.int .i64 0 :: Value.int .i64 0 :: Value.int .i64 0 :: Value.int .i64 0 :: Value.int .i64 0 :: Value.int .i64 0 :: Value.int .i64 0 :: Value.int .i64 0 :: Value.int .i64 0 :: Value.int .i64 0 :: Value.int .i64 0 :: Value.int .i64 0 :: Value.int .i64 0 :: Value.int .i64 0 :: Value.int .i64 0 :: Value.int .i64 0 :: []).toArray 3) = W1
  intro kk
  clear hm
  go_loopw [6] (fun i V => ∃ j : Nat, j ≤ 64 ∧ i = .int .i64 j ∧ Keep w V [(w.heap.size, 3, tab .i64 64 (fun t => if t < j then (fun _ => 1) t else 0))]) (fun i _ => 64 - (intOf i).toNat)
  case atStart => exact ⟨0, Nat.zero_le _, rfl, by rw [table_start (fun _ => 1)]; exact kk⟩
  case round =>
    clear kk
    obtain ⟨j, hj, rfl, kk⟩ := hrel
    by_cases hlt : j < 64
    · have j0 : (0 : Int) ≤ (j : Int) := by omega
      have j1 : (j : Int) < 64 := by omega
      have q0 := kk.head.cell j hlt
      have f0 := kk.head.frozen j
      have kX := kk.set j (.int .i64 ((fun _ => 1) j))
      rw [table_set (fun _ => 1)] at kX
      have HX : Hid _ := kX
      clear kX kk
      go_wp2_with fail
      go_roundw
      case rel => exact ⟨j + 1, by omega, by go_num, HX.out⟩
      case measure => simp [intOf]; omega
    · obtain rfl : j = 64 := by omega
      rw [table_full (fun _ => 1)] at kk
      clear hj hlt
      have hq : Stp (fun _ => 1) := fun j _ => by show (1 : Int) ≤ 1 ∧ (1 : Int) ≤ 255; omega
      have HQ : Hid _ := hq
      clear hq
      go_upto_region 7 with (refine wpList_store_mid rfl 27 (.tmp 7) (.tmp 20) rfl wr.heap.size 0 (Value.int .i64 0 :: Value.int .i64 0 :: Value.int .i64 0 :: Value.int .i64 0 :: Value.int .i64 0 :: Value.int .i64 0 :: Value.int .i64 0 :: Value.int .i64 0 :: Value.int .i64 0 :: Value.int .i64 0 :: Value.int .i64 0 :: Value.int .i64 0 :: Value.int .i64 0 :: Value.int .i64 0 :: Value.int .i64 0 :: Value.int .i64 0 :: Value.int .i64 0 :: Value.int .i64 0 :: Value.int .i64 0 :: Value.int .i64 0 :: Value.int .i64 0 :: Value.int .i64 0 :: Value.int .i64 0 :: Value.int .i64 0 :: Value.int .i64 0 :: Value.int .i64 0 :: Value.int .i64 0 :: Value.int .i64 0 :: Value.int .i64 0 :: Value.int .i64 0 :: Value.int .i64 0 :: Value.int .i64 0 :: Value.int .i64 0 :: Value.int .i64 0 :: Value.int .i64 0 :: Value.int .i64 0 :: Value.int .i64 0 :: Value.int .i64 0 :: Value.int .i64 0 :: Value.int .i64 0 :: Value.int .i64 0 :: Value.int .i64 0 :: Value.int .i64 0 :: Value.int .i64 0 :: Value.int .i64 0 :: Value.int .i64 0 :: Value.int .i64 0 :: Value.int .i64 0 :: Value.int .i64 0 :: Value.int .i64 0 :: Value.int .i64 0 :: Value.int .i64 0 :: Value.int .i64 0 :: Value.int .i64 0 :: Value.int .i64 0 :: Value.int .i64 0 :: Value.int .i64 0 :: Value.int .i64 0 :: Value.int .i64 0 :: Value.int .i64 0 :: Value.int .i64 0 :: Value.int .i64 0 :: Value.int .i64 0 :: Value.int .i64 0 :: []).toArray rfl rfl (there_zero wr) HZ.out.1 HZ.out.2 ?_)
      replace kk := kk.zeroed
      revert kk
      obtain ⟨XB, hXB⟩ : ∃ b, wr.heap.size = b := ⟨_, rfl⟩
      rw [hXB]
      clear hXB
      generalize (wr.alloc (.cells (Value.int .i64 0 :: Value.int .i64 0 :: Value.int .i64 0 :: Value.int .i64 0 :: Value.int .i64 0 :: Value.int .i64 0 :: Value.int .i64 0 :: Value.int .i64 0 :: Value.int .i64 0 :: Value.int .i64 0 :: Value.int .i64 0 :: Value.int .i64 0 :: Value.int .i64 0 :: Value.int .i64 0 :: Value.int .i64 0 :: Value.int .i64 0 :: Value.int .i64 0 :: Value.int .i64 0 :: Value.int .i64 0 :: Value.int .i64 0 :: Value.int .i64 0 :: Value.int .i64 0 :: Value.int .i64 0 :: Value.int .i64 0 :: Value.int .i64 0 :: Value.int .i64 0 :: Value.int .i64 0 :: Value.int .i64 0 :: Value.int .i64 0 :: Value.int .i64 0 :: Value.int .i64 0 :: Value.int .i64 0 :: Value.int .i64 0 :: Value.int .i64 0 :: Value.int .i64 0 :: Value.int .i64 0 :: Value.int .i64 0 :: Value.int .i64 0 :: Value.int .i64 0 :: Value.int .i64 0 :: Value.int .i64 0 :: Value.int .i64 0 :: Value.int .i64 0 :: Value.int .i64 0 :: Value.int .i64 0 :: Value.int .i64 0 :: Value.int .i64 0 :: Value.int .i64 0 :: Value.int .i64 0 :: Value.int .i64 0 :: Value.int .i64 0 :: Value.int .i64 0 :: Value.int .i64 0 :: Value.int .i64 0 :: Value.int .i64 0 :: Value.int .i64 0 :: Value.int .i64 0 :: Value.int .i64 0 :: Value.int .i64 0 :: Value.int .i64 0 :: Value.int .i64 0 :: Value.int .i64 0 :: Value.int .i64 0 :: Value.int .i64 0 :: []).toArray 27)).setCells XB 0 (Value.int .i64 0 :: Value.int .i64 0 :: Value.int .i64 0 :: Value.int .i64 0 :: Value.int .i64 0 :: Value.int .i64 0 :: Value.int .i64 0 :: Value.int .i64 0 :: Value.int .i64 0 :: Value.int .i64 0 :: Value.int .i64 0 :: Value.int .i64 0 :: Value.int .i64 0 :: Value.int .i64 0 :: Value.int .i64 0 :: Value.int .i64 0 :: Value.int .i64 0 :: Value.int .i64 0 :: Value.int .i64 0 :: Value.int .i64 0 :: Value.int .i64 0 :: Value.int .i64 0 :: Value.int .i64 0 :: Value.int .i64 0 :: Value.int .i64 0 :: Value.int .i64 0 :: Value.int .i64 0 :: Value.int .i64 0 :: Value.int .i64 0 :: Value.int .i64 0 :: Value.int .i64 0 :: Value.int .i64 0 :: Value.int .i64 0 :: Value.int .i64 0 :: Value.int .i64 0 :: Value.int .i64 0 :: Value.int .i64 0 :: Value.int .i64 0 :: Value.int .i64 0 :: Value.int .i64 0 :: Value.int .i64 0 :: Value.int .i64 0 :: Value.int .i64 0 :: Value.int .i64 0 :: Value.int .i64 0 :: Value.int .i64 0 :: Value.int .i64 0 :: Value.int .i64 0 :: Value.int .i64 0 :: Value.int .i64 0 :: Value.int .i64 0 :: Value.int .i64 0 :: Value.int .i64 0 :: Value.int .i64 0 :: Value.int .i64 0 :: Value.int .i64 0 :: Value.int .i64 0 :: Value.int .i64 0 :: Value.int .i64 0 :: Value.int .i64 0 :: Value.int .i64 0 :: Value.int .i64 0 :: Value.int .i64 0 :: Value.int .i64 0 :: []) = WXB
      intro kk
      try simp only [Act.put]
      have HZt := HZ
      clear HZ
      have HT : Hid _ := hT
      obtain ⟨m, hm, hm0, hm1⟩ : ∃ m, (if a0 < -32767 then -32767 else a0) = m ∧ -32767 ≤ m ∧ m ≤ 32767 := ⟨_, rfl, by split <;> omega, by split <;> omega⟩
      have hz := zz_lt k hk64
      have z0 : (0 : Int) ≤ ((zz k : Nat) : Int) := by omega
      have z1 : ((zz k : Nat) : Int) < 64 := by omega
      have i0 : (0 : Int) ≤ (k : Int) := by omega
      have i1 : (k : Int) < 64 := by omega
      have hTk := hT.but kk.but
      have hw1 : wrap64 (k : Int) = k := w64 _ (by omega)
      have q0 := kk.head.cell (zz k) hz
      have f0 := kk.head.frozen (zz k)
      have HK : Hid _ := fun (m : Int) => kk.setTab (zz k) m
      clear kk
      go_upto_region 9 with (go_at_call 10; refine (zig_in k hk64 _ hTk).mono ?_; rintro e w' ⟨rfl, rfl⟩)
      have kk := HK.out m
      clear HK q0 f0 hTk
      revert kk
      generalize w'.setCell ⟨XB, zz k, none⟩ (.int .i64 m) = WX
      intro kk
      have hr := (kk.get (b := XB) (t := 27) (c := tab .i64 64 (upd (fun _ => 0) (zz k) m)) (by simp)).all
      go_wp2_with (refine wpList_load_mid rfl 27 (.tmp 7) rfl XB 0 rfl (tab .i64 64 (upd (fun _ => 0) (zz k) m)) _ ?_ hu rfl (hiA _) ?_; exact hr)
      refine (qForward_any (upd (fun _ => 0) (zz k) m) (fun _ => 1) _ _ (HT.out.but kk.but) (kk.get (b := w.heap.size) (t := 3) (c := tab .i64 64 (fun _ => 1)) (by simp)).view HQ.out).mono ?_
      rintro e x6 ⟨rfl, dd⟩
      replace kk := kk.step dd
      clear dd hr
      replace kk := kk.zero 27
      have hth := kk.head.there 0 (tab .i64 64 (qfwd (upd (fun _ => 0) (zz k) m) (fun _ => 1))).toArray.size (by rw [List.size_toArray, tab_length, tab_length]; omega)
      replace kk := kk.layAll (qfwd (upd (fun _ => 0) (zz k) m) (fun _ => 1))
      have HX : Hid _ := kk
      clear kk
      go_upto_region 10 with (refine wpList_store_mid rfl 27 (.tmp 9) (.tmp 32) rfl x6.heap.size 0 (tab .i64 64 (qfwd (upd (fun _ => 0) (zz k) m) (fun _ => 1))).toArray rfl rfl ?_ (hiB _) (tab_all _ _ _) ?_; exact hth)
      have kk := HX.out
      clear HX hth
      revert kk
      obtain ⟨YB, hYB⟩ : ∃ b, x6.heap.size = b := ⟨_, rfl⟩
      rw [hYB]
      clear hYB
      generalize (x6.alloc (.cells (Value.int .i64 0 :: Value.int .i64 0 :: Value.int .i64 0 :: Value.int .i64 0 :: Value.int .i64 0 :: Value.int .i64 0 :: Value.int .i64 0 :: Value.int .i64 0 :: Value.int .i64 0 :: Value.int .i64 0 :: Value.int .i64 0 :: Value.int .i64 0 :: Value.int .i64 0 :: Value.int .i64 0 :: Value.int .i64 0 :: Value.int .i64 0 :: Value.int .i64 0 :: Value.int .i64 0 :: Value.int .i64 0 :: Value.int .i64 0 :: Value.int .i64 0 :: Value.int .i64 0 :: Value.int .i64 0 :: Value.int .i64 0 :: Value.int .i64 0 :: Value.int .i64 0 :: Value.int .i64 0 :: Value.int .i64 0 :: Value.int .i64 0 :: Value.int .i64 0 :: Value.int .i64 0 :: Value.int .i64 0 :: Value.int .i64 0 :: Value.int .i64 0 :: Value.int .i64 0 :: Value.int .i64 0 :: Value.int .i64 0 :: Value.int .i64 0 :: Value.int .i64 0 :: Value.int .i64 0 :: Value.int .i64 0 :: Value.int .i64 0 :: Value.int .i64 0 :: Value.int .i64 0 :: Value.int .i64 0 :: Value.int .i64 0 :: Value.int .i64 0 :: Value.int .i64 0 :: Value.int .i64 0 :: Value.int .i64 0 :: Value.int .i64 0 :: Value.int .i64 0 :: Value.int .i64 0 :: Value.int .i64 0 :: Value.int .i64 0 :: Value.int .i64 0 :: Value.int .i64 0 :: Value.int .i64 0 :: Value.int .i64 0 :: Value.int .i64 0 :: Value.int .i64 0 :: Value.int .i64 0 :: Value.int .i64 0 :: Value.int .i64 0 :: []).toArray 27)).setCells YB 0 (tab .i64 64 (qfwd (upd (fun _ => 0) (zz k) m) (fun _ => 1))) = WYB
      intro kk
      try simp only [Act.put]
      have hG := ends_there k hk64 m hm0 hm1
      have hH := ends_back k hk64 m hm0 hm1
      have hU := ends_want a0 m k hm u0
      replace kk := kk.swap.drop
      clear hm hm0 hm1
      revert kk
      revert hU
      revert hH
      revert hG
      revert z1
      revert z0
      revert hz
      generalize clipF m (leastF k) 1023 = U
      generalize qfwd (upd (fun _ => 0) (zz k) m) (fun _ => 1) = G
      generalize zz k = Zk
      intro hz z0 z1 hG hH hU kk
      have HZk : Hid _ := hz
      clear hz
      obtain ⟨v1, v2, v3, v4, v5⟩ := hU
      have hwa : wrap64 a0 = a0 := w64 _ (by omega)
      by_cases hk0 : k = 0
      · subst hk0
        by_cases ha : a0 ≤ -1024
        · have hV := v4 ha rfl
          have ha2 : a0 ≤ -1023 := by omega
          have ha3 : a0 ≤ 1023 := by omega
          clear v1 v2 v3 v4 v5
          have hr := (kk.get (b := YB) (t := 27) (c := tab .i64 64 G) (by simp)).all
          go_wp2_with (refine wpList_load_mid rfl 27 (.tmp 9) rfl YB 0 rfl (tab .i64 64 G) _ ?_ hu rfl (hiA _) ?_; exact hr)
          refine (qBack_any G (fun _ => 1) _ _ (HT.out.but kk.but) (kk.get (b := w.heap.size) (t := 3) (c := tab .i64 64 (fun _ => 1)) (by simp)).view HQ.out).mono ?_
          rintro e x5 ⟨rfl, dd⟩
          replace kk := kk.step dd
          clear dd hr
          replace kk := kk.zero 27
          have hth := kk.head.there 0 (tab .i64 64 (qbck G (fun _ => 1))).toArray.size (by rw [List.size_toArray, tab_length, tab_length]; omega)
          replace kk := kk.layAll (qbck G (fun _ => 1))
          have HX : Hid _ := kk
          clear kk
          go_upto_region 14 with (refine wpList_store_mid rfl 27 (.tmp 11) (.tmp 46) rfl x5.heap.size 0 (tab .i64 64 (qbck G (fun _ => 1))).toArray rfl rfl ?_ (hiB _) (tab_all _ _ _) ?_; exact hth)
          have kk := HX.out
          clear HX hth
          revert kk
          obtain ⟨ZB, hZB⟩ : ∃ b, x5.heap.size = b := ⟨_, rfl⟩
          rw [hZB]
          clear hZB
          generalize (x5.alloc (.cells (Value.int .i64 0 :: Value.int .i64 0 :: Value.int .i64 0 :: Value.int .i64 0 :: Value.int .i64 0 :: Value.int .i64 0 :: Value.int .i64 0 :: Value.int .i64 0 :: Value.int .i64 0 :: Value.int .i64 0 :: Value.int .i64 0 :: Value.int .i64 0 :: Value.int .i64 0 :: Value.int .i64 0 :: Value.int .i64 0 :: Value.int .i64 0 :: Value.int .i64 0 :: Value.int .i64 0 :: Value.int .i64 0 :: Value.int .i64 0 :: Value.int .i64 0 :: Value.int .i64 0 :: Value.int .i64 0 :: Value.int .i64 0 :: Value.int .i64 0 :: Value.int .i64 0 :: Value.int .i64 0 :: Value.int .i64 0 :: Value.int .i64 0 :: Value.int .i64 0 :: Value.int .i64 0 :: Value.int .i64 0 :: Value.int .i64 0 :: Value.int .i64 0 :: Value.int .i64 0 :: Value.int .i64 0 :: Value.int .i64 0 :: Value.int .i64 0 :: Value.int .i64 0 :: Value.int .i64 0 :: Value.int .i64 0 :: Value.int .i64 0 :: Value.int .i64 0 :: Value.int .i64 0 :: Value.int .i64 0 :: Value.int .i64 0 :: Value.int .i64 0 :: Value.int .i64 0 :: Value.int .i64 0 :: Value.int .i64 0 :: Value.int .i64 0 :: Value.int .i64 0 :: Value.int .i64 0 :: Value.int .i64 0 :: Value.int .i64 0 :: Value.int .i64 0 :: Value.int .i64 0 :: Value.int .i64 0 :: Value.int .i64 0 :: Value.int .i64 0 :: Value.int .i64 0 :: Value.int .i64 0 :: Value.int .i64 0 :: Value.int .i64 0 :: []).toArray 27)).setCells ZB 0 (tab .i64 64 (qbck G (fun _ => 1))) = WZB
          intro kk
          try simp only [Act.put]
          go_wp2_with fail
          refine (known_any _ (HT.out.but kk.but)).mono ?_
          rintro e x4 ⟨rfl, dd⟩
          replace kk := kk.step dd
          clear dd
          have c1 := (kk.get (b := YB) (t := 27) (c := tab .i64 64 G) (by simp)).cell 0 (by omega)
          have c2 := (kk.get (b := ZB) (t := 27) (c := tab .i64 64 (qbck G (fun _ => 1))) (by simp)).cell Zk HZk.out
          rw [hG, hV] at c1
          rw [hH, hV] at c2
          have HX : Hid _ := kk.but
          clear kk hG hH hV
          go_wp2_with fail
          go_ret
          exact ⟨rfl, HX.out⟩
        · by_cases hb : a0 ≤ -1023
          · have hV := v5 (by omega)
            have hc : ¬ -1023 < a0 := by omega
            have ha3 : a0 ≤ 1023 := by omega
            clear v1 v2 v3 v4 v5
            have hr := (kk.get (b := YB) (t := 27) (c := tab .i64 64 G) (by simp)).all
            go_wp2_with (refine wpList_load_mid rfl 27 (.tmp 9) rfl YB 0 rfl (tab .i64 64 G) _ ?_ hu rfl (hiA _) ?_; exact hr)
            refine (qBack_any G (fun _ => 1) _ _ (HT.out.but kk.but) (kk.get (b := w.heap.size) (t := 3) (c := tab .i64 64 (fun _ => 1)) (by simp)).view HQ.out).mono ?_
            rintro e x5 ⟨rfl, dd⟩
            replace kk := kk.step dd
            clear dd hr
            replace kk := kk.zero 27
            have hth := kk.head.there 0 (tab .i64 64 (qbck G (fun _ => 1))).toArray.size (by rw [List.size_toArray, tab_length, tab_length]; omega)
            replace kk := kk.layAll (qbck G (fun _ => 1))
            have HX : Hid _ := kk
            clear kk
            go_upto_region 14 with (refine wpList_store_mid rfl 27 (.tmp 11) (.tmp 46) rfl x5.heap.size 0 (tab .i64 64 (qbck G (fun _ => 1))).toArray rfl rfl ?_ (hiB _) (tab_all _ _ _) ?_; exact hth)
            have kk := HX.out
            clear HX hth
            revert kk
            obtain ⟨ZB, hZB⟩ : ∃ b, x5.heap.size = b := ⟨_, rfl⟩
            rw [hZB]
            clear hZB
            generalize (x5.alloc (.cells (Value.int .i64 0 :: Value.int .i64 0 :: Value.int .i64 0 :: Value.int .i64 0 :: Value.int .i64 0 :: Value.int .i64 0 :: Value.int .i64 0 :: Value.int .i64 0 :: Value.int .i64 0 :: Value.int .i64 0 :: Value.int .i64 0 :: Value.int .i64 0 :: Value.int .i64 0 :: Value.int .i64 0 :: Value.int .i64 0 :: Value.int .i64 0 :: Value.int .i64 0 :: Value.int .i64 0 :: Value.int .i64 0 :: Value.int .i64 0 :: Value.int .i64 0 :: Value.int .i64 0 :: Value.int .i64 0 :: Value.int .i64 0 :: Value.int .i64 0 :: Value.int .i64 0 :: Value.int .i64 0 :: Value.int .i64 0 :: Value.int .i64 0 :: Value.int .i64 0 :: Value.int .i64 0 :: Value.int .i64 0 :: Value.int .i64 0 :: Value.int .i64 0 :: Value.int .i64 0 :: Value.int .i64 0 :: Value.int .i64 0 :: Value.int .i64 0 :: Value.int .i64 0 :: Value.int .i64 0 :: Value.int .i64 0 :: Value.int .i64 0 :: Value.int .i64 0 :: Value.int .i64 0 :: Value.int .i64 0 :: Value.int .i64 0 :: Value.int .i64 0 :: Value.int .i64 0 :: Value.int .i64 0 :: Value.int .i64 0 :: Value.int .i64 0 :: Value.int .i64 0 :: Value.int .i64 0 :: Value.int .i64 0 :: Value.int .i64 0 :: Value.int .i64 0 :: Value.int .i64 0 :: Value.int .i64 0 :: Value.int .i64 0 :: Value.int .i64 0 :: Value.int .i64 0 :: Value.int .i64 0 :: Value.int .i64 0 :: Value.int .i64 0 :: []).toArray 27)).setCells ZB 0 (tab .i64 64 (qbck G (fun _ => 1))) = WZB
            intro kk
            try simp only [Act.put]
            go_wp2_with fail
            refine (known_any _ (HT.out.but kk.but)).mono ?_
            rintro e x4 ⟨rfl, dd⟩
            replace kk := kk.step dd
            clear dd
            have c1 := (kk.get (b := YB) (t := 27) (c := tab .i64 64 G) (by simp)).cell 0 (by omega)
            have c2 := (kk.get (b := ZB) (t := 27) (c := tab .i64 64 (qbck G (fun _ => 1))) (by simp)).cell Zk HZk.out
            rw [hG, hV] at c1
            rw [hH, hV] at c2
            have HX : Hid _ := kk.but
            clear kk hG hH hV
            go_wp2_with fail
            go_ret
            exact ⟨rfl, HX.out⟩
          · by_cases hc : 1023 < a0
            · have hV := v1 hc
              clear v1 v2 v3 v4 v5
              have hr := (kk.get (b := YB) (t := 27) (c := tab .i64 64 G) (by simp)).all
              go_wp2_with (refine wpList_load_mid rfl 27 (.tmp 9) rfl YB 0 rfl (tab .i64 64 G) _ ?_ hu rfl (hiA _) ?_; exact hr)
              refine (qBack_any G (fun _ => 1) _ _ (HT.out.but kk.but) (kk.get (b := w.heap.size) (t := 3) (c := tab .i64 64 (fun _ => 1)) (by simp)).view HQ.out).mono ?_
              rintro e x5 ⟨rfl, dd⟩
              replace kk := kk.step dd
              clear dd hr
              replace kk := kk.zero 27
              have hth := kk.head.there 0 (tab .i64 64 (qbck G (fun _ => 1))).toArray.size (by rw [List.size_toArray, tab_length, tab_length]; omega)
              replace kk := kk.layAll (qbck G (fun _ => 1))
              have HX : Hid _ := kk
              clear kk
              go_upto_region 14 with (refine wpList_store_mid rfl 27 (.tmp 11) (.tmp 46) rfl x5.heap.size 0 (tab .i64 64 (qbck G (fun _ => 1))).toArray rfl rfl ?_ (hiB _) (tab_all _ _ _) ?_; exact hth)
              have kk := HX.out
              clear HX hth
              revert kk
              obtain ⟨ZB, hZB⟩ : ∃ b, x5.heap.size = b := ⟨_, rfl⟩
              rw [hZB]
              clear hZB
              generalize (x5.alloc (.cells (Value.int .i64 0 :: Value.int .i64 0 :: Value.int .i64 0 :: Value.int .i64 0 :: Value.int .i64 0 :: Value.int .i64 0 :: Value.int .i64 0 :: Value.int .i64 0 :: Value.int .i64 0 :: Value.int .i64 0 :: Value.int .i64 0 :: Value.int .i64 0 :: Value.int .i64 0 :: Value.int .i64 0 :: Value.int .i64 0 :: Value.int .i64 0 :: Value.int .i64 0 :: Value.int .i64 0 :: Value.int .i64 0 :: Value.int .i64 0 :: Value.int .i64 0 :: Value.int .i64 0 :: Value.int .i64 0 :: Value.int .i64 0 :: Value.int .i64 0 :: Value.int .i64 0 :: Value.int .i64 0 :: Value.int .i64 0 :: Value.int .i64 0 :: Value.int .i64 0 :: Value.int .i64 0 :: Value.int .i64 0 :: Value.int .i64 0 :: Value.int .i64 0 :: Value.int .i64 0 :: Value.int .i64 0 :: Value.int .i64 0 :: Value.int .i64 0 :: Value.int .i64 0 :: Value.int .i64 0 :: Value.int .i64 0 :: Value.int .i64 0 :: Value.int .i64 0 :: Value.int .i64 0 :: Value.int .i64 0 :: Value.int .i64 0 :: Value.int .i64 0 :: Value.int .i64 0 :: Value.int .i64 0 :: Value.int .i64 0 :: Value.int .i64 0 :: Value.int .i64 0 :: Value.int .i64 0 :: Value.int .i64 0 :: Value.int .i64 0 :: Value.int .i64 0 :: Value.int .i64 0 :: Value.int .i64 0 :: Value.int .i64 0 :: Value.int .i64 0 :: Value.int .i64 0 :: Value.int .i64 0 :: Value.int .i64 0 :: Value.int .i64 0 :: []).toArray 27)).setCells ZB 0 (tab .i64 64 (qbck G (fun _ => 1))) = WZB
              intro kk
              try simp only [Act.put]
              go_wp2_with fail
              refine (known_any _ (HT.out.but kk.but)).mono ?_
              rintro e x4 ⟨rfl, dd⟩
              replace kk := kk.step dd
              clear dd
              have c1 := (kk.get (b := YB) (t := 27) (c := tab .i64 64 G) (by simp)).cell 0 (by omega)
              have c2 := (kk.get (b := ZB) (t := 27) (c := tab .i64 64 (qbck G (fun _ => 1))) (by simp)).cell Zk HZk.out
              rw [hG, hV] at c1
              rw [hH, hV] at c2
              have HX : Hid _ := kk.but
              clear kk hG hH hV
              go_wp2_with fail
              go_ret
              exact ⟨rfl, HX.out⟩
            · have hV := v2 (by omega) (by omega)
              have hd : -1023 < a0 := by omega
              clear v1 v2 v3 v4 v5
              have hr := (kk.get (b := YB) (t := 27) (c := tab .i64 64 G) (by simp)).all
              go_wp2_with (refine wpList_load_mid rfl 27 (.tmp 9) rfl YB 0 rfl (tab .i64 64 G) _ ?_ hu rfl (hiA _) ?_; exact hr)
              refine (qBack_any G (fun _ => 1) _ _ (HT.out.but kk.but) (kk.get (b := w.heap.size) (t := 3) (c := tab .i64 64 (fun _ => 1)) (by simp)).view HQ.out).mono ?_
              rintro e x5 ⟨rfl, dd⟩
              replace kk := kk.step dd
              clear dd hr
              replace kk := kk.zero 27
              have hth := kk.head.there 0 (tab .i64 64 (qbck G (fun _ => 1))).toArray.size (by rw [List.size_toArray, tab_length, tab_length]; omega)
              replace kk := kk.layAll (qbck G (fun _ => 1))
              have HX : Hid _ := kk
              clear kk
              go_upto_region 14 with (refine wpList_store_mid rfl 27 (.tmp 11) (.tmp 46) rfl x5.heap.size 0 (tab .i64 64 (qbck G (fun _ => 1))).toArray rfl rfl ?_ (hiB _) (tab_all _ _ _) ?_; exact hth)
              have kk := HX.out
              clear HX hth
              revert kk
              obtain ⟨ZB, hZB⟩ : ∃ b, x5.heap.size = b := ⟨_, rfl⟩
              rw [hZB]
              clear hZB
              generalize (x5.alloc (.cells (Value.int .i64 0 :: Value.int .i64 0 :: Value.int .i64 0 :: Value.int .i64 0 :: Value.int .i64 0 :: Value.int .i64 0 :: Value.int .i64 0 :: Value.int .i64 0 :: Value.int .i64 0 :: Value.int .i64 0 :: Value.int .i64 0 :: Value.int .i64 0 :: Value.int .i64 0 :: Value.int .i64 0 :: Value.int .i64 0 :: Value.int .i64 0 :: Value.int .i64 0 :: Value.int .i64 0 :: Value.int .i64 0 :: Value.int .i64 0 :: Value.int .i64 0 :: Value.int .i64 0 :: Value.int .i64 0 :: Value.int .i64 0 :: Value.int .i64 0 :: Value.int .i64 0 :: Value.int .i64 0 :: Value.int .i64 0 :: Value.int .i64 0 :: Value.int .i64 0 :: Value.int .i64 0 :: Value.int .i64 0 :: Value.int .i64 0 :: Value.int .i64 0 :: Value.int .i64 0 :: Value.int .i64 0 :: Value.int .i64 0 :: Value.int .i64 0 :: Value.int .i64 0 :: Value.int .i64 0 :: Value.int .i64 0 :: Value.int .i64 0 :: Value.int .i64 0 :: Value.int .i64 0 :: Value.int .i64 0 :: Value.int .i64 0 :: Value.int .i64 0 :: Value.int .i64 0 :: Value.int .i64 0 :: Value.int .i64 0 :: Value.int .i64 0 :: Value.int .i64 0 :: Value.int .i64 0 :: Value.int .i64 0 :: Value.int .i64 0 :: Value.int .i64 0 :: Value.int .i64 0 :: Value.int .i64 0 :: Value.int .i64 0 :: Value.int .i64 0 :: Value.int .i64 0 :: Value.int .i64 0 :: Value.int .i64 0 :: Value.int .i64 0 :: []).toArray 27)).setCells ZB 0 (tab .i64 64 (qbck G (fun _ => 1))) = WZB
              intro kk
              try simp only [Act.put]
              go_wp2_with fail
              refine (known_any _ (HT.out.but kk.but)).mono ?_
              rintro e x4 ⟨rfl, dd⟩
              replace kk := kk.step dd
              clear dd
              have c1 := (kk.get (b := YB) (t := 27) (c := tab .i64 64 G) (by simp)).cell 0 (by omega)
              have c2 := (kk.get (b := ZB) (t := 27) (c := tab .i64 64 (qbck G (fun _ => 1))) (by simp)).cell Zk HZk.out
              rw [hG, hV] at c1
              rw [hH, hV] at c2
              have HX : Hid _ := kk.but
              clear kk hG hH hV
              go_wp2_with fail
              go_ret
              exact ⟨rfl, HX.out⟩
      · have hkn : ¬ (k : Int) = 0 := by omega
        by_cases hb : a0 ≤ -1023
        · have hV := v3 hb hk0
          have hc : ¬ -1023 < a0 := by omega
          have ha3 : a0 ≤ 1023 := by omega
          clear v1 v2 v3 v4 v5
          have hr := (kk.get (b := YB) (t := 27) (c := tab .i64 64 G) (by simp)).all
          go_wp2_with (refine wpList_load_mid rfl 27 (.tmp 9) rfl YB 0 rfl (tab .i64 64 G) _ ?_ hu rfl (hiA _) ?_; exact hr)
          refine (qBack_any G (fun _ => 1) _ _ (HT.out.but kk.but) (kk.get (b := w.heap.size) (t := 3) (c := tab .i64 64 (fun _ => 1)) (by simp)).view HQ.out).mono ?_
          rintro e x5 ⟨rfl, dd⟩
          replace kk := kk.step dd
          clear dd hr
          replace kk := kk.zero 27
          have hth := kk.head.there 0 (tab .i64 64 (qbck G (fun _ => 1))).toArray.size (by rw [List.size_toArray, tab_length, tab_length]; omega)
          replace kk := kk.layAll (qbck G (fun _ => 1))
          have HX : Hid _ := kk
          clear kk
          go_upto_region 14 with (refine wpList_store_mid rfl 27 (.tmp 11) (.tmp 46) rfl x5.heap.size 0 (tab .i64 64 (qbck G (fun _ => 1))).toArray rfl rfl ?_ (hiB _) (tab_all _ _ _) ?_; exact hth)
          have kk := HX.out
          clear HX hth
          revert kk
          obtain ⟨ZB, hZB⟩ : ∃ b, x5.heap.size = b := ⟨_, rfl⟩
          rw [hZB]
          clear hZB
          generalize (x5.alloc (.cells (Value.int .i64 0 :: Value.int .i64 0 :: Value.int .i64 0 :: Value.int .i64 0 :: Value.int .i64 0 :: Value.int .i64 0 :: Value.int .i64 0 :: Value.int .i64 0 :: Value.int .i64 0 :: Value.int .i64 0 :: Value.int .i64 0 :: Value.int .i64 0 :: Value.int .i64 0 :: Value.int .i64 0 :: Value.int .i64 0 :: Value.int .i64 0 :: Value.int .i64 0 :: Value.int .i64 0 :: Value.int .i64 0 :: Value.int .i64 0 :: Value.int .i64 0 :: Value.int .i64 0 :: Value.int .i64 0 :: Value.int .i64 0 :: Value.int .i64 0 :: Value.int .i64 0 :: Value.int .i64 0 :: Value.int .i64 0 :: Value.int .i64 0 :: Value.int .i64 0 :: Value.int .i64 0 :: Value.int .i64 0 :: Value.int .i64 0 :: Value.int .i64 0 :: Value.int .i64 0 :: Value.int .i64 0 :: Value.int .i64 0 :: Value.int .i64 0 :: Value.int .i64 0 :: Value.int .i64 0 :: Value.int .i64 0 :: Value.int .i64 0 :: Value.int .i64 0 :: Value.int .i64 0 :: Value.int .i64 0 :: Value.int .i64 0 :: Value.int .i64 0 :: Value.int .i64 0 :: Value.int .i64 0 :: Value.int .i64 0 :: Value.int .i64 0 :: Value.int .i64 0 :: Value.int .i64 0 :: Value.int .i64 0 :: Value.int .i64 0 :: Value.int .i64 0 :: Value.int .i64 0 :: Value.int .i64 0 :: Value.int .i64 0 :: Value.int .i64 0 :: Value.int .i64 0 :: Value.int .i64 0 :: Value.int .i64 0 :: Value.int .i64 0 :: []).toArray 27)).setCells ZB 0 (tab .i64 64 (qbck G (fun _ => 1))) = WZB
          intro kk
          try simp only [Act.put]
          go_wp2_with fail
          refine (known_any _ (HT.out.but kk.but)).mono ?_
          rintro e x4 ⟨rfl, dd⟩
          replace kk := kk.step dd
          clear dd
          have c1 := (kk.get (b := YB) (t := 27) (c := tab .i64 64 G) (by simp)).cell k hk64
          have c2 := (kk.get (b := ZB) (t := 27) (c := tab .i64 64 (qbck G (fun _ => 1))) (by simp)).cell Zk HZk.out
          rw [hG, hV] at c1
          rw [hH, hV] at c2
          have HX : Hid _ := kk.but
          clear kk hG hH hV
          go_wp2_with fail
          go_ret
          exact ⟨rfl, HX.out⟩
        · by_cases hc : 1023 < a0
          · have hV := v1 hc
            clear v1 v2 v3 v4 v5
            have hr := (kk.get (b := YB) (t := 27) (c := tab .i64 64 G) (by simp)).all
            go_wp2_with (refine wpList_load_mid rfl 27 (.tmp 9) rfl YB 0 rfl (tab .i64 64 G) _ ?_ hu rfl (hiA _) ?_; exact hr)
            refine (qBack_any G (fun _ => 1) _ _ (HT.out.but kk.but) (kk.get (b := w.heap.size) (t := 3) (c := tab .i64 64 (fun _ => 1)) (by simp)).view HQ.out).mono ?_
            rintro e x5 ⟨rfl, dd⟩
            replace kk := kk.step dd
            clear dd hr
            replace kk := kk.zero 27
            have hth := kk.head.there 0 (tab .i64 64 (qbck G (fun _ => 1))).toArray.size (by rw [List.size_toArray, tab_length, tab_length]; omega)
            replace kk := kk.layAll (qbck G (fun _ => 1))
            have HX : Hid _ := kk
            clear kk
            go_upto_region 14 with (refine wpList_store_mid rfl 27 (.tmp 11) (.tmp 46) rfl x5.heap.size 0 (tab .i64 64 (qbck G (fun _ => 1))).toArray rfl rfl ?_ (hiB _) (tab_all _ _ _) ?_; exact hth)
            have kk := HX.out
            clear HX hth
            revert kk
            obtain ⟨ZB, hZB⟩ : ∃ b, x5.heap.size = b := ⟨_, rfl⟩
            rw [hZB]
            clear hZB
            generalize (x5.alloc (.cells (Value.int .i64 0 :: Value.int .i64 0 :: Value.int .i64 0 :: Value.int .i64 0 :: Value.int .i64 0 :: Value.int .i64 0 :: Value.int .i64 0 :: Value.int .i64 0 :: Value.int .i64 0 :: Value.int .i64 0 :: Value.int .i64 0 :: Value.int .i64 0 :: Value.int .i64 0 :: Value.int .i64 0 :: Value.int .i64 0 :: Value.int .i64 0 :: Value.int .i64 0 :: Value.int .i64 0 :: Value.int .i64 0 :: Value.int .i64 0 :: Value.int .i64 0 :: Value.int .i64 0 :: Value.int .i64 0 :: Value.int .i64 0 :: Value.int .i64 0 :: Value.int .i64 0 :: Value.int .i64 0 :: Value.int .i64 0 :: Value.int .i64 0 :: Value.int .i64 0 :: Value.int .i64 0 :: Value.int .i64 0 :: Value.int .i64 0 :: Value.int .i64 0 :: Value.int .i64 0 :: Value.int .i64 0 :: Value.int .i64 0 :: Value.int .i64 0 :: Value.int .i64 0 :: Value.int .i64 0 :: Value.int .i64 0 :: Value.int .i64 0 :: Value.int .i64 0 :: Value.int .i64 0 :: Value.int .i64 0 :: Value.int .i64 0 :: Value.int .i64 0 :: Value.int .i64 0 :: Value.int .i64 0 :: Value.int .i64 0 :: Value.int .i64 0 :: Value.int .i64 0 :: Value.int .i64 0 :: Value.int .i64 0 :: Value.int .i64 0 :: Value.int .i64 0 :: Value.int .i64 0 :: Value.int .i64 0 :: Value.int .i64 0 :: Value.int .i64 0 :: Value.int .i64 0 :: Value.int .i64 0 :: Value.int .i64 0 :: Value.int .i64 0 :: []).toArray 27)).setCells ZB 0 (tab .i64 64 (qbck G (fun _ => 1))) = WZB
            intro kk
            try simp only [Act.put]
            go_wp2_with fail
            refine (known_any _ (HT.out.but kk.but)).mono ?_
            rintro e x4 ⟨rfl, dd⟩
            replace kk := kk.step dd
            clear dd
            have c1 := (kk.get (b := YB) (t := 27) (c := tab .i64 64 G) (by simp)).cell k hk64
            have c2 := (kk.get (b := ZB) (t := 27) (c := tab .i64 64 (qbck G (fun _ => 1))) (by simp)).cell Zk HZk.out
            rw [hG, hV] at c1
            rw [hH, hV] at c2
            have HX : Hid _ := kk.but
            clear kk hG hH hV
            go_wp2_with fail
            go_ret
            exact ⟨rfl, HX.out⟩
          · have hV := v2 (by omega) (by omega)
            have hd : -1023 < a0 := by omega
            clear v1 v2 v3 v4 v5
            have hr := (kk.get (b := YB) (t := 27) (c := tab .i64 64 G) (by simp)).all
            go_wp2_with (refine wpList_load_mid rfl 27 (.tmp 9) rfl YB 0 rfl (tab .i64 64 G) _ ?_ hu rfl (hiA _) ?_; exact hr)
            refine (qBack_any G (fun _ => 1) _ _ (HT.out.but kk.but) (kk.get (b := w.heap.size) (t := 3) (c := tab .i64 64 (fun _ => 1)) (by simp)).view HQ.out).mono ?_
            rintro e x5 ⟨rfl, dd⟩
            replace kk := kk.step dd
            clear dd hr
            replace kk := kk.zero 27
            have hth := kk.head.there 0 (tab .i64 64 (qbck G (fun _ => 1))).toArray.size (by rw [List.size_toArray, tab_length, tab_length]; omega)
            replace kk := kk.layAll (qbck G (fun _ => 1))
            have HX : Hid _ := kk
            clear kk
            go_upto_region 14 with (refine wpList_store_mid rfl 27 (.tmp 11) (.tmp 46) rfl x5.heap.size 0 (tab .i64 64 (qbck G (fun _ => 1))).toArray rfl rfl ?_ (hiB _) (tab_all _ _ _) ?_; exact hth)
            have kk := HX.out
            clear HX hth
            revert kk
            obtain ⟨ZB, hZB⟩ : ∃ b, x5.heap.size = b := ⟨_, rfl⟩
            rw [hZB]
            clear hZB
            generalize (x5.alloc (.cells (Value.int .i64 0 :: Value.int .i64 0 :: Value.int .i64 0 :: Value.int .i64 0 :: Value.int .i64 0 :: Value.int .i64 0 :: Value.int .i64 0 :: Value.int .i64 0 :: Value.int .i64 0 :: Value.int .i64 0 :: Value.int .i64 0 :: Value.int .i64 0 :: Value.int .i64 0 :: Value.int .i64 0 :: Value.int .i64 0 :: Value.int .i64 0 :: Value.int .i64 0 :: Value.int .i64 0 :: Value.int .i64 0 :: Value.int .i64 0 :: Value.int .i64 0 :: Value.int .i64 0 :: Value.int .i64 0 :: Value.int .i64 0 :: Value.int .i64 0 :: Value.int .i64 0 :: Value.int .i64 0 :: Value.int .i64 0 :: Value.int .i64 0 :: Value.int .i64 0 :: Value.int .i64 0 :: Value.int .i64 0 :: Value.int .i64 0 :: Value.int .i64 0 :: Value.int .i64 0 :: Value.int .i64 0 :: Value.int .i64 0 :: Value.int .i64 0 :: Value.int .i64 0 :: Value.int .i64 0 :: Value.int .i64 0 :: Value.int .i64 0 :: Value.int .i64 0 :: Value.int .i64 0 :: Value.int .i64 0 :: Value.int .i64 0 :: Value.int .i64 0 :: Value.int .i64 0 :: Value.int .i64 0 :: Value.int .i64 0 :: Value.int .i64 0 :: Value.int .i64 0 :: Value.int .i64 0 :: Value.int .i64 0 :: Value.int .i64 0 :: Value.int .i64 0 :: Value.int .i64 0 :: Value.int .i64 0 :: Value.int .i64 0 :: Value.int .i64 0 :: Value.int .i64 0 :: Value.int .i64 0 :: Value.int .i64 0 :: Value.int .i64 0 :: []).toArray 27)).setCells ZB 0 (tab .i64 64 (qbck G (fun _ => 1))) = WZB
            intro kk
            try simp only [Act.put]
            go_wp2_with fail
            refine (known_any _ (HT.out.but kk.but)).mono ?_
            rintro e x4 ⟨rfl, dd⟩
            replace kk := kk.step dd
            clear dd
            have c1 := (kk.get (b := YB) (t := 27) (c := tab .i64 64 G) (by simp)).cell k hk64
            have c2 := (kk.get (b := ZB) (t := 27) (c := tab .i64 64 (qbck G (fun _ => 1))) (by simp)).cell Zk HZk.out
            rw [hG, hV] at c1
            rw [hH, hV] at c2
            have HX : Hid _ := kk.but
            clear kk hG hH hV
            go_wp2_with fail
            go_ret
            exact ⟨rfl, HX.out⟩

set_option maxRecDepth 100000 in
theorem lifted (os : Os) (started : os.Started) (H : Type) (enc : TypeId × Value → H) :
    ReturnsInHanded {} Tryd.checked os 7 .any (fun w args => (Rows.quantEndsSpec.pre enc Tryd.prog Tryd.f7 Rows.quantEndsRow.domain false w args ∧ laidMetH Tryd.prog Rows.quantEndsRow.laid w) ∧ sizedMet enc Tryd.prog Tryd.f7 (OpenSpec.ofChange Rows.quantEndsSpec) false w args) (Rows.quantEndsSpec.post enc Tryd.prog Tryd.f7 false true false false) := by
  refine returnsInHanded_of_change_and (C := Tryd.checked) (X := fun w _ => laidMetH Tryd.prog laidL w) (fun _ _ _ hh h => h.of_heap hh) own started (by kernel_rfl) Tryd.func7
    (ChangeSpec.witness_shaped (enc := enc) (C := Tryd.checked) (os := os) (X := fun w _ => laidMetH Tryd.prog laidL w) false (World.laidAll Tryd.prog os laidL) #[.int .i16 0, .int .u8 0] 8 (World.laidAll_os _ _ _) (World.shaped_of_ZipB (by kernel_rfl) (by kernel_rfl)) (by kernel_rfl) (by kernel_rfl) (by kernel_rfl) (by rw [MakeChecks.laidMetH_plain _ _ _ (by kernel_rfl)]; exact laidMet_laidAll _ (by kernel_rfl) (by kernel_rfl))) ?_
  intro W base args ds gs before hval0 hW hcnd hsz0 hL0 _
  have hTW := tab_of_laid hL0
  have hval : ∀ (j : Nat) t v, Tryd.f7.params[j]? = some t → args[j]? = some v → Value.okWide Tryd.prog W .any base t v := hval0
  have hsz : (DataW.weightsEach Tryd.prog (Tryd.f7.params.toList ++ Rows.quantEndsSpec.plain.varTypes Tryd.prog) (ds ++ gs)).all (· ≤ reachBytes) = true := hsz0
  have hW' := hW
  obtain ⟨p, q, hA0, hV, rfl, hfz, hnd⟩ := hW
  have hA : DataW.TrodAll enc Tryd.prog W 0 (fun _ => true) true Tryd.f7.params.toList args.toList ds p := hA0
  rw [Tryd.params7] at hA hval hsz
  obtain ⟨v0, vs0, d0, ds0, p0, q0, hargs, rfl, rfl, h0, r0⟩ := trodAll_cons hA
  obtain ⟨v1, vs1, d1, ds1, p1, q1, rfl, rfl, rfl, h1, r1⟩ := trodAll_cons r0
  obtain ⟨rfl, rfl, rfl⟩ := trodAll_nil r1
  obtain rfl : args = #[v0, v1] := by cases args; simp_all
  obtain ⟨rfl, rfl⟩ := trodVars_none hV
  obtain ⟨a0, rfl, rfl, rfl, w0⟩ := open_int Tryd.underlying44 (hval 0 44 v0 rfl rfl) h0
  obtain ⟨a1, rfl, rfl, rfl, w1⟩ := open_int Tryd.underlying5 (hval 1 5 v1 rfl rfl) h1
  clear hA0 hval0
  refine (walk W hTW a0 w0 a1 w1).mono fun e W' ⟨he, hg⟩ => ?_
  subst he
  exact ⟨_, rfl, law_post laidOut readable rfl Tryd.underlying4 rfl rfl hW' hg.below⟩

theorem over : Rows.quantEndsRow.holds Tryd.pinned (OpenSpec.ofChange Rows.quantEndsSpec) :=
  OpenClaim.holds_of_wide 7 Tryd.f7 rfl rfl rfl rfl rfl rfl rfl ⟨rfl, rfl, rfl, rfl, rfl⟩ rfl rfl rfl rfl rfl (by kernel_rfl) Tryd.func7 (by kernel_rfl)
    (of_decide_eq_true (by kernel_rfl)) (by unfold Func.isWrapper; first | (rw [if_pos (by decide +kernel)]; kernel_rfl) | (rw [if_neg (by decide +kernel)]; exact ⟨rfl, rfl⟩))
    (fun os started H enc _ => lifted os started H enc)

end Go.Proofs.YthaekjdnaaikfaaDoor.quantEnds
namespace Go.Proofs.YthaekjdnaaikfaaDoor
set_option maxRecDepth 100000 in
theorem quantEnds_holds : Rows.QuantEndsCardSaid :=
  Claim7.holds_tied_plain_at .later [] [.data, .data] true (true, "46fc36d20289c1d8558ca7217b64117d3ce896ab9e13941ddc5f364336e3b7db") false quantEnds.over (fun _ h => by cases h) (by kernel_rfl) (fun _ h => by cases h) quantEnds_row_tie rfl ⟨rfl, rfl⟩ (by kernel_rfl) rfl
    (fun f fn hf hfn => by
      obtain rfl : f = 7 := Option.some.inj ((show Tryd.prog.funcNamed "cyanotype/cyanotypelaw09.QuantEnds" = some 7 by kernel_rfl).symm.trans hf) |>.symm
      obtain rfl : fn = Tryd.f7 := (Option.some.inj (Tryd.func7.symm.trans hfn)).symm
      exact ⟨by kernel_rfl, fun j t ht => by
        rw [Tryd.params7] at ht
        have hm : t ∈ [44, 5] := by simpa using Array.mem_of_getElem? ht
        have hall : ([44, 5].all fun u => !Tryd.prog.wantsStandIn u) = true := by kernel_rfl
        exact (show Tryd.prog.wantsStandIn t = false by simpa using List.all_eq_true.1 hall t hm)⟩)
    (by kernel_rfl)
#print axioms quantEnds_holds
end Go.Proofs.YthaekjdnaaikfaaDoor
