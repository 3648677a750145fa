/- Without the document's answer: an image of one colour has blocks of one number each, by parts, whatever the mode. -/
import Derived.Test.YtppbnmlgilgnnaaDoorPlRef1
import Derived.Test.YtppbnmlgilgnnaaDoorPl14
import Derived.Test.YtppbnmlgilgnnaaDoorFrame
import Derived.Test.YtppbnmlgilgnnaaDoorRows
import Derived.Test.YtppbnmlgilgnnaaDoorDoorTab
import Derived.Test.YtppbnmlgilgnnaaDoorCards
import Derived.Test.YtppbnmlgilgnnaaDoorTie
namespace Go.Proofs.YtppbnmlgilgnnaaDoor.planeFlat
open Go.ChangeShapes Go.WideShapes Go.ChangeAt Go.RowKit
set_option linter.unusedVariables false

theorem own : ownKnob Tryd.prog.godebug = none := by kernel_rfl
theorem laidOut : laidOutB Tryd.prog = true := by kernel_rfl
theorem readable : ∀ t ∈ Tryd.f5.params.toList, Tryd.prog.readableRec t = true ∧ t < Tryd.prog.types.size := by
  rw [Tryd.params5]
  simp only [List.mem_cons, List.not_mem_nil, or_false, forall_eq_or_imp, forall_eq]
  refine ⟨⟨by kernel_rfl, of_decide_eq_true (by kernel_rfl)⟩, ⟨by kernel_rfl, of_decide_eq_true (by kernel_rfl)⟩, ⟨by kernel_rfl, of_decide_eq_true (by kernel_rfl)⟩, ⟨by kernel_rfl, of_decide_eq_true (by kernel_rfl)⟩, ⟨by kernel_rfl, of_decide_eq_true (by kernel_rfl)⟩, ⟨by kernel_rfl, of_decide_eq_true (by kernel_rfl)⟩⟩

set_option maxHeartbeats 20000000 in
set_option maxRecDepth 100000 in
theorem walk (w : World) (hT : Tab w) (a0 : Int) (w0 : (Lit.int .u8 a0).wf = true) (a1 : Int) (w1 : (Lit.int .u8 a1).wf = true) (a2 : Int) (w2 : (Lit.int .u8 a2).wf = true) (a3 : Int) (w3 : (Lit.int .u8 a3).wf = true) (a4 : Int) (w4 : (Lit.int .u8 a4).wf = true) (a5 : Int) (w5 : (Lit.int .u8 a5).wf = true) :
    Calls Tryd.prog 5 #[.int .u8 a0, .int .u8 a1, .int .u8 a2, .int .u8 a3, .int .u8 a4, .int .u8 a5] w fun e w' => e = .returned (.bool true) ∧ But Nowhere w w' := by
  have a0r : 0 ≤ a0 ∧ a0 ≤ 255 := u8_in w0
  have a1r : 0 ≤ a1 ∧ a1 ≤ 255 := u8_in w1
  have a2r : 0 ≤ a2 ∧ a2 ≤ 255 := u8_in w2
  obtain ⟨W, hW⟩ : ∃ W, 1 + a0 % 40 = W := ⟨_, rfl⟩
  obtain ⟨H, hH⟩ : ∃ H, 1 + a1 % 24 = H := ⟨_, rfl⟩
  obtain ⟨m, hm⟩ : ∃ m, 1 + a2 % 4 = m := ⟨_, rfl⟩
  have f : Fit W H m := ⟨by omega, by omega, by omega, by
    have : W * H ≤ 40 * 24 := Int.mul_le_mul (by omega) (by omega) (by omega) (by omega)
    omega⟩
  have a3r := u8_in w3
  have a4r := u8_in w4
  have a5r := u8_in w5
  have HW : Hid (1 + a0 % 40 = W ∧ 1 + a1 % 24 = H ∧ 1 + a2 % 4 = m) := ⟨hW, hH, hm⟩
  clear hW hH hm
  obtain ⟨-, -, g3, g4, g5, g6⟩ := f.grid
  obtain ⟨u0, u6⟩ := unit_pos m
  go_enter Tryd.func5, Tryd.ntmps5
  go_wp2_with fail
  refine (public_any _ _ _ a0r a1r a2r _).mono ?_
  rintro e w1 ⟨rfl, b1⟩
  rw [HW.out.1, HW.out.2.1, HW.out.2.2]
  have kk := (((Keep.start w).step b1).made 23 (pC W H m 50 1 0)).made 5 [.int .u8 a3, .int .u8 a4, .int .u8 a5]
  simp only [World.size_alloc] at kk
  clear HW a0r a1r a2r
  obtain ⟨PB, hPB⟩ : ∃ b, w1.heap.size = b := ⟨_, rfl⟩
  rw [hPB] at kk
  go_wp2_with fail
  revert kk
  generalize (w1.alloc (.cells #[.int .i64 W, .int .i64 H, .int .i64 m, .int .i64 50, .int .i64 1, .int .i64 0] 23)).alloc (.cells #[.int .u8 a3, .int .u8 a4, .int .u8 a5] 5) = w2
  intro kk
  have zk := kk.head.lt
  refine (image_any W H m f _ [] w2 (View.nil _ _) (by simp) (by simp)).mono ?_
  rintro e w3' ⟨⟨li, pv, rfl, hil, hix, Li⟩, b3⟩
  have hn1 : 0 < li.length := by
    have h1 := f.w
    have h2 := f.h
    have p1 : 1 ≤ (partsN m : Int) := by unfold partsN; split <;> simp
    have q1 : 1 * 1 ≤ W * H := Int.mul_le_mul h1.1 h2.1 (by omega) (by omega)
    have q2 : 1 * 1 ≤ W * H * (partsN m : Int) := Int.mul_le_mul (by omega) p1 (by omega) (by omega)
    omega
  obtain ⟨cur, cap, g, rfl, hg0, hcur, hcl, hcz⟩ : ∃ (cur : List Value) (cap g : Nat), pv = .slice (some ⟨g, 0, none⟩) li.length cap ∧ w2.heap.size ≤ g ∧ Cells w3' g 5 cur ∧ li.length ≤ cap ∧ cur.length = cap := by
    rcases Li.own.2 with ⟨-, e⟩ | ⟨g, cap, cur, rfl, -, hg, hl, -, hsz, -⟩
    · omega
    · exact ⟨cur.toList, cap, g, rfl, Li.new g rfl, by unfold Cells; simpa using hg, hl, by simpa using hsz⟩
  obtain ⟨n, hn⟩ : ∃ n, li.length = n := ⟨_, rfl⟩
  rw [hn] at hil hn1 hcl ⊢
  have HIL : Hid ((n : Int) = W * H * partsN m) := hil
  have hn3 : n ≤ 4000000 := by
    have p1 : (partsN m : Int) ≤ 3 := by unfold partsN; split <;> simp
    have p2 : W * H * (partsN m : Int) ≤ 1048576 * 3 := Int.mul_le_mul f.s p1 (by omega) (by omega)
    omega
  clear hil
  replace kk := (kk.step b3).made 26 (imC W H (m != 1) (.slice (some ⟨g, 0, none⟩) n cap))
  have hcg := hcur.lt
  have hcur2 := hcur.alloc (.cells #[.int .i64 W, .int .i64 H, .bool (m != 1), .slice (some ⟨g, 0, none⟩) n cap] 26)
  obtain ⟨MB, hMB⟩ : ∃ b, w3'.heap.size = b := ⟨_, rfl⟩
  rw [hMB] at kk hcg
  clear Li b3 hn hix hcur b1
  go_wp2_with fail
  revert kk hcur2
  generalize w3'.alloc (.cells #[.int .i64 W, .int .i64 H, .bool (m != 1), .slice (some ⟨g, 0, none⟩) n cap] 26) = w9
  intro hcur2 kk
  have wg : w.heap.size ≤ PB := kk.new (PB, 23, pC W H m 50 1 0) (by simp)
  clear hPB hMB
  obtain ⟨tgt, htgt⟩ : ∃ tgt : Nat → Int, ∀ j, tgt j = if m = 1 then a3 else if j % 3 = 0 then a3 else if j % 3 = 1 then a4 else a5 := ⟨_, fun _ => rfl⟩
  have HTG : Hid (∀ j, tgt j = if m = 1 then a3 else if j % 3 = 0 then a3 else if j % 3 = 1 then a4 else a5) := htgt
  clear htgt
  obtain ⟨rb, hrb⟩ : ∃ rb, (m != 1) = rb := ⟨_, rfl⟩
  rw [hrb] at kk
  have HRB : Hid ((m != 1) = rb) := hrb
  try rw [hrb]
  clear hrb
  go_loopw [16] (fun i V => ∃ (k : Nat) (cur : List Value), k ≤ n ∧ i = .int .i64 k ∧ But (fun x => x = g) w9 V ∧ Cells V g 5 cur ∧ cur.length = cap ∧ ∀ j, j < k → cur[j]? = some (.int .u8 (tgt j))) (fun i _ => n - (intOf i).toNat)
  case atStart => exact ⟨0, cur, Nat.zero_le _, rfl, But.refl _ _, hcur2, hcz, fun j hj => by omega⟩
  case round =>
    clear hcur2 hcz
    obtain ⟨k, cu, hk, rfl, hbg, hcu, hcz, hct⟩ := hrel
    have gM := (kk.get (b := MB) (t := 26) (c := imC W H rb (.slice (some ⟨g, 0, none⟩) n cap)) (by simp)).but hbg (by omega)
    have gC := (kk.get (b := PB + 1) (t := 5) (c := [.int .u8 a3, .int .u8 a4, .int .u8 a5]) (by simp)).but hbg (by omega)
    have gP := (kk.get (b := PB) (t := 23) (c := pC W H m 50 1 0) (by simp)).but hbg (by omega)
    have cM := gM.at 3
    simp only [List.getElem?_cons_zero, List.getElem?_cons_succ] at cM
    by_cases hlt : k < n
    · have i0 : (0 : Int) ≤ (k : Int) := by omega
      have i1 : (k : Int) < (n : Int) := by omega
      obtain ⟨tt, htt⟩ : ∃ t, k % 3 = t := ⟨_, rfl⟩
      have r1 : (k : Int).tmod 3 = (tt : Int) := by rw [Int.tmod_eq_emod_of_nonneg (by omega), ← htt]; rfl
      have ht3 : tt < 3 := by omega
      have i2 : (0 : Int) ≤ (tt : Int) := by omega
      have i3 : (tt : Int) < 3 := by omega
      obtain ⟨cv, hcv, hcc⟩ : ∃ cv : Int, (if tt = 0 then a3 else if tt = 1 then a4 else a5) = cv ∧ wr.cell? ⟨PB + 1, tt, none⟩ = some (.int .u8 cv) := by
        refine ⟨_, rfl, ?_⟩
        have : tt = 0 ∨ tt = 1 ∨ tt = 2 := by omega
        rcases this with rfl | rfl | rfl
        · exact gC.at 0
        · exact gC.at 1
        · exact gC.at 2
      obtain ⟨v0, hv0⟩ : ∃ v0, cu[k]? = some v0 := ⟨_, List.getElem?_eq_getElem (by omega)⟩
      have ck := (hcu.at k).trans hv0
      have fk := hcu.frozen k
      have HT : Hid (k % 3 = tt ∧ (if tt = 0 then a3 else if tt = 1 then a4 else a5) = cv) := ⟨htt, hcv⟩
      clear htt hcv hv0
      go_wp2_with fail
      refine wp_region_till (S := fun V => V.cell? ⟨MB, 3, none⟩ = some (.slice (some ⟨g, 0, none⟩) n cap) ∧ V.cell? ⟨PB + 1, tt, none⟩ = some (.int .u8 cv)) (R := fun _ => True) (k := 9) (m := 100) (by kernel_rfl) ⟨cM, hcc⟩ trivial ?_
      have hbd : But Nowhere wr wr.drew := (But.refl _ _).drew
      replace ck := hbd.keeps (not_nowhere _) ck
      replace fk : wr.drew.frozen? ⟨g, k, none⟩ = false := fk
      revert hbd ck fk
      generalize wr.drew = WD
      intro hbd ck fk
      (refine Walk.take (i := 0) (oi := { dst := some 38, op := Op.fieldAddr 26 (Operand.tmp 15) 3, type := 0, pos := "law.go:185", after := #[], guard := none }) (v := ?_) rfl (by kernel_rfl) (by kernel_rfl) (by kernel_rfl) (by kernel_rfl) (fun _ _ _ h => h) (Or.inl ⟨by rfl, ?_⟩) ?_; rotate_left; (intro w hw; clear hw; (try go_split_ands); go_simp; try (with_reducible rfl)); simp only [Act.put, List.setIfInBounds_toArray, List.set_cons_zero, List.set_cons_succ])
      (refine Walk.take (i := 1) (oi := { dst := some 39, op := Op.load 24 (Operand.tmp 38), type := 24, pos := "law.go:185", after := #[{ on := 0, ground := Ground.data }], guard := none }) (v := ?_) rfl (by kernel_rfl) (by kernel_rfl) (by kernel_rfl) (by kernel_rfl) (fun _ _ _ h => h) (Or.inl ⟨by rfl, ?_⟩) ?_; rotate_left; (intro w hw; have hS1 := hw.1 (by kernel_rfl); clear hw; (try dsimp only at hS1); (try go_split_ands); go_simp; try (with_reducible rfl)); simp only [Act.put, List.setIfInBounds_toArray, List.set_cons_zero, List.set_cons_succ])
      (refine Walk.take (i := 2) (oi := { dst := some 40, op := Op.move (Operand.tmp 16), type := 3, pos := "law.go:185", after := #[], guard := none }) (v := ?_) rfl (by kernel_rfl) (by kernel_rfl) (by kernel_rfl) (by kernel_rfl) (fun _ _ _ h => h) (Or.inl ⟨by rfl, ?_⟩) ?_; rotate_left; (intro w hw; clear hw; (try go_split_ands); go_simp; try (with_reducible rfl)); simp only [Act.put, List.setIfInBounds_toArray, List.set_cons_zero, List.set_cons_succ])
      (refine Walk.take (i := 3) (oi := { dst := some 41, op := Op.move (Operand.tmp 14), type := 24, pos := "law.go:185", after := #[], guard := none }) (v := ?_) rfl (by kernel_rfl) (by kernel_rfl) (by kernel_rfl) (by kernel_rfl) (fun _ _ _ h => h) (Or.inl ⟨by rfl, ?_⟩) ?_; rotate_left; (intro w hw; clear hw; (try go_split_ands); go_simp; try (with_reducible rfl)); simp only [Act.put, List.setIfInBounds_toArray, List.set_cons_zero, List.set_cons_succ])
      (refine Walk.take (i := 4) (oi := { dst := some 42, op := Op.move (Operand.tmp 16), type := 3, pos := "law.go:185", after := #[], guard := none }) (v := ?_) rfl (by kernel_rfl) (by kernel_rfl) (by kernel_rfl) (by kernel_rfl) (fun _ _ _ h => h) (Or.inl ⟨by rfl, ?_⟩) ?_; rotate_left; (intro w hw; clear hw; (try go_split_ands); go_simp; try (with_reducible rfl)); simp only [Act.put, List.setIfInBounds_toArray, List.set_cons_zero, List.set_cons_succ])
      (refine Walk.take (i := 5) (oi := { dst := some 43, op := Op.binOp BinOp.rem 3 (Operand.tmp 42) (Operand.const (Value.int IntKind.i64 3)) 3, type := 3, pos := "law.go:185", after := #[{ on := 4, ground := Ground.data }], guard := none }) (v := ?_) rfl (by kernel_rfl) (by kernel_rfl) (by kernel_rfl) (by kernel_rfl) (fun _ _ _ h => h) (Or.inl ⟨by rfl, ?_⟩) ?_; rotate_left; (intro w hw; clear hw; (try go_split_ands); go_simp; try (with_reducible rfl)); simp only [Act.put, List.setIfInBounds_toArray, List.set_cons_zero, List.set_cons_succ])
      (refine Walk.take (i := 6) (oi := { dst := some 44, op := Op.indexAddr 24 (Operand.tmp 41) (Operand.tmp 43), type := 0, pos := "law.go:185", after := #[{ on := 3, ground := Ground.data }, { on := 5, ground := Ground.data }], guard := none }) (v := ?_) rfl (by kernel_rfl) (by kernel_rfl) (by kernel_rfl) (by kernel_rfl) (fun _ _ _ h => h) (Or.inl ⟨by rfl, ?_⟩) ?_; rotate_left; (intro w hw; clear hw; (try go_split_ands); go_simp; try (with_reducible rfl)); simp only [Act.put, List.setIfInBounds_toArray, List.set_cons_zero, List.set_cons_succ])
      (refine Walk.take (i := 7) (oi := { dst := some 45, op := Op.load 5 (Operand.tmp 44), type := 5, pos := "law.go:185", after := #[{ on := 6, ground := Ground.data }], guard := none }) (v := ?_) rfl (by kernel_rfl) (by kernel_rfl) (by kernel_rfl) (by kernel_rfl) (fun _ _ _ h => h) (Or.inl ⟨by rfl, ?_⟩) ?_; rotate_left; (intro w hw; have hS1 := hw.1 (by kernel_rfl); clear hw; (try dsimp only at hS1); (try go_split_ands); go_simp; try (with_reducible rfl)); simp only [Act.put, List.setIfInBounds_toArray, List.set_cons_zero, List.set_cons_succ])
      (refine Walk.take (i := 8) (oi := { dst := some 46, op := Op.indexAddr 24 (Operand.tmp 39) (Operand.tmp 40), type := 0, pos := "law.go:185", after := #[{ on := 1, ground := Ground.data }, { on := 2, ground := Ground.data }, { on := 0, ground := Ground.phase }, { on := 1, ground := Ground.phase }, { on := 2, ground := Ground.phase }, { on := 3, ground := Ground.phase }, { on := 4, ground := Ground.phase }, { on := 5, ground := Ground.phase }, { on := 6, ground := Ground.phase }, { on := 7, ground := Ground.phase }], guard := none }) (v := ?_) rfl (by kernel_rfl) (by kernel_rfl) (by kernel_rfl) (by kernel_rfl) (fun _ _ _ h => h) (Or.inl ⟨by rfl, ?_⟩) ?_; rotate_left; (intro w hw; clear hw; (try go_split_ands); go_simp; try (with_reducible rfl)); simp only [Act.put, List.setIfInBounds_toArray, List.set_cons_zero, List.set_cons_succ])
      (refine Walk.go (i := 9) (o := { dst := none, op := Op.store 5 (Operand.tmp 46) (Operand.tmp 45), type := 0, pos := "law.go:185", after := #[{ on := 8, ground := Ground.data }, { on := 7, ground := Ground.data }, { on := 0, ground := Ground.phase }, { on := 1, ground := Ground.phase }, { on := 2, ground := Ground.phase }, { on := 3, ground := Ground.phase }, { on := 4, ground := Ground.phase }, { on := 5, ground := Ground.phase }, { on := 6, ground := Ground.phase }, { on := 7, ground := Ground.phase }], guard := none }) (by kernel_rfl) rfl (fun K hK => ?_); go_simp; (skip); refine hK.out _ _ (⟨fun q => absurd q (by decide), fun _ => trivial⟩) ?_; clear hK K; try simp only [Act.put, List.setIfInBounds_toArray, List.set_cons_zero, List.set_cons_succ])
      refine Walk.done (by kernel_rfl) ?_ _
      have hcu1 := (hcu.but hbd (not_nowhere _)).set k (.int .u8 cv)
      have hb1 : But (fun x => x = g) w9 (WD.setCell ⟨g, k, none⟩ (.int .u8 cv)) := (hbg.trans (hbd.mono (fun _ _ f => f.elim))).setCell (p := ⟨g, k, none⟩) (fun _ => rfl) _
      revert hcu1 hb1
      generalize WD.setCell ⟨g, k, none⟩ (.int .u8 cv) = WE
      intro hcu1 hb1
      have gP1 := (kk.get (b := PB) (t := 23) (c := pC W H m 50 1 0) (by simp)).but hb1 (by omega)
      have gM1 := (kk.get (b := MB) (t := 26) (c := imC W H rb (.slice (some ⟨g, 0, none⟩) n cap)) (by simp)).but hb1 (by omega)
      have c2 := gP1.at 2
      have cM1 := gM1.at 3
      simp only [List.getElem?_cons_zero, List.getElem?_cons_succ] at c2 cM1
      have hct1 : ∀ (z : Int) (hz : z = tgt k) (cc : List Value), cc.length = cap → (∀ j, j ≠ k → cc[j]? = cu[j]?) → cc[k]? = some (.int .u8 z) → ∀ j, j < k + 1 → cc[j]? = some (.int .u8 (tgt j)) := by
        intro z hz cc hcc1 hcc2 hcc3 j hj
        by_cases e : j = k
        · rw [e, hcc3, hz]
        · rw [hcc2 j e]; exact hct j (by omega)
      by_cases hm1 : m = 1
      · subst hm1
        have ck2 := hcu1.at k
        rw [List.getElem?_set_self (by omega)] at ck2
        have fk2 := hcu1.frozen k
        have hcu2 := hcu1.set k (.int .u8 a3)
        have hb2 : But (fun x => x = g) w9 (WE.setCell ⟨g, k, none⟩ (.int .u8 a3)) := hb1.setCell (p := ⟨g, k, none⟩) (fun _ => rfl) _
        have hfin := hct1 a3 (by rw [HTG.out]; simp) ((cu.set k (.int .u8 cv)).set k (.int .u8 a3)) (by simp [hcz]) (fun j hj => by rw [List.getElem?_set_ne (by omega), List.getElem?_set_ne (by omega)]) (by rw [List.getElem?_set_self (by simp; omega)])
        have HX : Hid _ := And.intro hb2 (And.intro hcu2 hfin)
        clear hcu hct hcu1 hb1 hcu2 hb2 hfin hct1 gP gM gC gP1 gM1 hbg
        go_wp2_with fail
        go_roundw
        case rel => exact ⟨k + 1, _, by omega, by go_num, HX.out.1, HX.out.2.1, by simp [hcz], HX.out.2.2⟩
        case measure => simp [intOf]; omega
      · have hmb : (m == 1) = false := by simpa using hm1
        have hfin := hct1 cv (by rw [HTG.out, if_neg hm1, HT.out.1, HT.out.2]) (cu.set k (.int .u8 cv)) (by simp [hcz]) (fun j hj => by rw [List.getElem?_set_ne (by omega)]) (by rw [List.getElem?_set_self (by omega)])
        have HX : Hid _ := And.intro hb1 (And.intro hcu1 hfin)
        clear hcu hct hcu1 hb1 hfin hct1 gP gM gC gP1 gM1 hbg
        go_wp2_with fail
        go_roundw
        case rel => exact ⟨k + 1, _, by omega, by go_num, HX.out.1, HX.out.2.1, by simp [hcz], HX.out.2.2⟩
        case measure => simp [intOf]; omega
    · have ekn : k = n := by omega
      rw [ekn] at hct ⊢
      clear hlt hk ekn k
      have hV : View wr .u8 (.slice (some ⟨g, 0, none⟩) n cap) ((List.range n).map tgt) := ⟨some ⟨g, 0, none⟩, cap, by simp, fun _ => ⟨g, 0, rfl, hcu.lt, fun j hj => by
        have hj' : j < n := by simpa using hj
        rw [Nat.zero_add, hcu.at j, hct j hj']; simp⟩⟩
      obtain ⟨lf, hlf⟩ : ∃ lf, (List.range n).map tgt = lf := ⟨_, rfl⟩
      have hlfn : lf.length = n := by rw [← hlf]; simp
      have hlfx : ∀ x ∈ lf, 0 ≤ x ∧ x ≤ 255 := by
        intro x hx
        rw [← hlf] at hx
        simp only [List.mem_map] at hx
        obtain ⟨j, -, rfl⟩ := hx
        rw [HTG.out]
        (repeat' split) <;> omega
      have hlft : ∀ j, j < lf.length → gn lf j = if m = 1 then a3 else if j % 3 = 0 then a3 else if j % 3 = 1 then a4 else a5 := by
        intro j hj
        rw [← HTG.out, ← gn_at lf j hj]
        subst hlf
        simp
      rw [hlf] at hV
      clear hlf
      have hil2 : (lf.length : Int) = W * H * partsN m := by rw [hlfn]; exact HIL.out
      have hbN : But Nowhere w wr := (kk.but.mono (T := Nowhere) (fun _ _ f => f)).step hbg (fun x hx e => by omega)
      have HFL : Hid (∀ i b k : Nat, i < (gridW W H m * gridH W H m).toNat → b < (unitL m).length → k < 64 → splitF W H m lf i (b * 64 + k) = flatV m a3 a4 a5 ((unitL m).getD b ⟨0, 0, 0, 1, 0, 0, 1, 1⟩).part) := by
        intro i b k hi hb hk
        rw [split_flat f lf a3 a4 a5 hil2 hlft i b k hi hb hk]
        congr 2
        simp [List.getD, List.getElem?_eq_getElem hb]
      have SPL := fun x => planeSplit_fit W H m 50 1 0 f (.slice (some ⟨g, 0, none⟩) n cap) lf wr (hT.but hbN) hV hil2 hlfx rb x
      replace SPL := SPL HRB.out.symm
      have c0 := gP.at 0
      have c1 := gP.at 1
      have c2 := gP.at 2
      have c3 := gP.at 3
      have c4 := gP.at 4
      have c5 := gP.at 5
      have d0 := gM.at 0
      have d1 := gM.at 1
      have d2 := gM.at 2
      simp only [List.getElem?_cons_zero, List.getElem?_cons_succ] at c0 c1 c2 c3 c4 c5 d0 d1 d2
      clear hil2 hlft hlfx hlfn hV hcu hct gP gM gC
      go_wp2_with fail
      refine SPL.mono ?_
      rintro e y2 ⟨⟨v2, go2, G2, rfl, hB2, -, -⟩, b2⟩
      have HB : Hid (But Nowhere w y2) := hbN.trans b2
      clear SPL b2 hbN hbg c0 c1 c2 c3 c4 c5 d0 d1 d2 cM kk
      obtain ⟨N, hN⟩ : ∃ N, (gridW W H m * gridH W H m).toNat = N := ⟨_, rfl⟩
      obtain ⟨M, hM⟩ : ∃ M, (unitL m).length = M := ⟨_, rfl⟩
      have hN1 : 1 ≤ N := by
        have : 1 * 1 ≤ gridW W H m * gridH W H m := Int.mul_le_mul g3 g5 (by omega) (by omega)
        omega
      have hN2 : N ≤ 100000000 := by
        have : gridW W H m * gridH W H m ≤ 8192 * 8192 := Int.mul_le_mul g4 g6 (by omega) (by omega)
        omega
      rw [hN, hM] at hB2
      rw [hM] at u0 u6
      have HFM : Hid (∀ i b k : Nat, i < N → b < M → k < 64 → splitF W H m lf i (b * 64 + k) = flatV m a3 a4 a5 ((unitL m).getD b ⟨0, 0, 0, 1, 0, 0, 1, 1⟩).part) := by rw [← hN, ← hM]; exact HFL.out
      obtain rfl := hB2.val
      clear HFL hN hM g3 g4 g5 g6
      go_wp2_with fail
      go_loopw [18] (fun i V => ∃ k : Nat, k ≤ N ∧ i = .int .i64 k ∧ But Nowhere y2 V) (fun i _ => N - (intOf i).toNat)
      case atStart => exact ⟨0, Nat.zero_le _, rfl, But.refl _ _⟩
      case round =>
        obtain ⟨k, hk, rfl, hbv⟩ := hrel
        by_cases hlt : k < N
        · have ck := (hB2.step hbv).at k hlt
          have c0 := (hB2.step hbv).at 0 (by omega)
          have i0 : (0 : Int) ≤ (k : Int) := by omega
          have i1 : (k : Int) < (N : Int) := by omega
          have i2 : (0 : Int) < (N : Int) := by omega
          go_wp2_with fail
          go_quiet (fail)
          go_wp2_with fail
          go_loopw [19] (fun i V => ∃ b : Nat, b ≤ M ∧ i = .int .i64 b ∧ But Nowhere y2 V) (fun i _ => M - (intOf i).toNat)
          case atStart => exact ⟨0, Nat.zero_le _, rfl, hbv.drewN _⟩
          case round =>
            obtain ⟨b, hb, rfl, hbb⟩ := hrel
            by_cases hlb : b < M
            · have cb := (hB2.step hbb).at k hlt
              have j0 : (0 : Int) ≤ (b : Int) := by omega
              have j1 : (b : Int) < (M : Int) := by omega
              go_wp2_with fail
              go_loopw [20] (fun i V => ∃ j : Nat, j ≤ 64 ∧ i = .int .i64 j ∧ But Nowhere y2 V) (fun i _ => 64 - (intOf i).toNat)
              case atStart => exact ⟨0, Nat.zero_le _, rfl, hbb⟩
              case round =>
                obtain ⟨j, hj, rfl, hbj⟩ := hrel
                by_cases hlj : j < 64
                · have cj := (hB2.step hbj).at k hlt
                  have cz := (hB2.step hbj).at 0 (by omega)
                  have l0 : (0 : Int) ≤ (j : Int) := by omega
                  have l1 : (j : Int) < 64 := by omega
                  have e1 := ((hB2.step hbj).inn k hlt).cell (b * 64 + j) (by omega)
                  have e2 := ((hB2.step hbj).inn 0 (by omega)).cell (b * 64) (by omega)
                  rw [HFM.out k b j hlt hlb hlj] at e1
                  rw [show b * 64 = b * 64 + 0 from rfl, HFM.out 0 b 0 (by omega) hlb (by omega), Nat.add_zero] at e2
                  go_wp2_with fail
                  go_quiet (fail)
                  go_wp2_with fail
                  go_roundw
                  case rel => exact ⟨j + 1, by omega, by go_num, hbj.drewN _⟩
                  case measure => simp [intOf]; omega
                · go_wp2_with fail
                  go_roundw
                  case rel => exact ⟨b + 1, by omega, by go_num, hbj⟩
                  case measure => simp [intOf]; omega
            · have cb := (hB2.step hbb).at k hlt
              have i0' : (0 : Int) ≤ (k : Int) := by omega
              go_wp2_with fail
              go_roundw
              case rel => exact ⟨k + 1, by omega, by go_num, hbb⟩
              case measure => simp [intOf]; omega
        · go_wp2_with fail
          refine (known_any _).mono ?_
          rintro e w7 ⟨rfl, b7⟩
          have i3 : 0 < N := by omega
          go_wp2_with fail
          go_ret
          first | exact ⟨rfl, (HB.out.trans hbv).trans b7⟩ | exact ⟨by show Ending.returned (Value.bool (decide (0 < N))) = _; rw [decide_eq_true i3], (HB.out.trans hbv).trans b7⟩

set_option maxRecDepth 100000 in
theorem lifted (os : Os) (started : os.Started) (H : Type) (enc : TypeId × Value → H) :
    ReturnsInHanded {} Tryd.checked os 5 .any (fun w args => (Rows.planeFlatSpec.pre enc Tryd.prog Tryd.f5 Rows.planeFlatRow.domain false w args ∧ laidMetH Tryd.prog Rows.planeFlatRow.laid w) ∧ sizedMet enc Tryd.prog Tryd.f5 (OpenSpec.ofChange Rows.planeFlatSpec) false w args) (Rows.planeFlatSpec.post enc Tryd.prog Tryd.f5 false true false false) := by
  refine returnsInHanded_of_change_and (C := Tryd.checked) (X := fun w _ => laidMetH Tryd.prog laidL w) (fun _ _ _ hh h => h.of_heap hh) own started (by kernel_rfl) Tryd.func5
    (ChangeSpec.witness_shaped (enc := enc) (C := Tryd.checked) (os := os) (X := fun w _ => laidMetH Tryd.prog laidL w) false (World.laidAll Tryd.prog os laidL) #[.int .u8 0, .int .u8 0, .int .u8 0, .int .u8 0, .int .u8 0, .int .u8 0] 8 (World.laidAll_os _ _ _) (World.shaped_of_ZipB (by kernel_rfl) (by kernel_rfl)) (by kernel_rfl) (by kernel_rfl) (by kernel_rfl) (by rw [MakeChecks.laidMetH_plain _ _ _ (by kernel_rfl)]; exact laidMet_laidAll _ (by kernel_rfl) (by kernel_rfl))) ?_
  intro W base args ds gs before hval0 hW hcnd hsz0 hL0 _
  have hTW := tab_of_laid hL0
  have hval : ∀ (j : Nat) t v, Tryd.f5.params[j]? = some t → args[j]? = some v → Value.okWide Tryd.prog W .any base t v := hval0
  have hsz : (DataW.weightsEach Tryd.prog (Tryd.f5.params.toList ++ Rows.planeFlatSpec.plain.varTypes Tryd.prog) (ds ++ gs)).all (· ≤ reachBytes) = true := hsz0
  have hW' := hW
  obtain ⟨p, q, hA0, hV, rfl, hfz, hnd⟩ := hW
  have hA : DataW.TrodAll enc Tryd.prog W 0 (fun _ => true) true Tryd.f5.params.toList args.toList ds p := hA0
  rw [Tryd.params5] at hA hval hsz
  obtain ⟨v0, vs0, d0, ds0, p0, q0, hargs, rfl, rfl, h0, r0⟩ := trodAll_cons hA
  obtain ⟨v1, vs1, d1, ds1, p1, q1, rfl, rfl, rfl, h1, r1⟩ := trodAll_cons r0
  obtain ⟨v2, vs2, d2, ds2, p2, q2, rfl, rfl, rfl, h2, r2⟩ := trodAll_cons r1
  obtain ⟨v3, vs3, d3, ds3, p3, q3, rfl, rfl, rfl, h3, r3⟩ := trodAll_cons r2
  obtain ⟨v4, vs4, d4, ds4, p4, q4, rfl, rfl, rfl, h4, r4⟩ := trodAll_cons r3
  obtain ⟨v5, vs5, d5, ds5, p5, q5, rfl, rfl, rfl, h5, r5⟩ := trodAll_cons r4
  obtain ⟨rfl, rfl, rfl⟩ := trodAll_nil r5
  obtain rfl : args = #[v0, v1, v2, v3, v4, v5] := by cases args; simp_all
  obtain ⟨rfl, rfl⟩ := trodVars_none hV
  obtain ⟨a0, rfl, rfl, rfl, w0⟩ := open_int Tryd.underlying5 (hval 0 5 v0 rfl rfl) h0
  obtain ⟨a1, rfl, rfl, rfl, w1⟩ := open_int Tryd.underlying5 (hval 1 5 v1 rfl rfl) h1
  obtain ⟨a2, rfl, rfl, rfl, w2⟩ := open_int Tryd.underlying5 (hval 2 5 v2 rfl rfl) h2
  obtain ⟨a3, rfl, rfl, rfl, w3⟩ := open_int Tryd.underlying5 (hval 3 5 v3 rfl rfl) h3
  obtain ⟨a4, rfl, rfl, rfl, w4⟩ := open_int Tryd.underlying5 (hval 4 5 v4 rfl rfl) h4
  obtain ⟨a5, rfl, rfl, rfl, w5⟩ := open_int Tryd.underlying5 (hval 5 5 v5 rfl rfl) h5
  clear hA0 hval0
  refine (walk W hTW a0 w0 a1 w1 a2 w2 a3 w3 a4 w4 a5 w5).mono fun e W' ⟨he, hg⟩ => ?_
  subst he
  exact ⟨_, rfl, law_post laidOut readable rfl Tryd.underlying4 rfl rfl hW' hg.below⟩

theorem over : Rows.planeFlatRow.holds Tryd.pinned (OpenSpec.ofChange Rows.planeFlatSpec) :=
  OpenClaim.holds_of_wide 5 Tryd.f5 rfl rfl rfl rfl rfl rfl rfl ⟨rfl, rfl, rfl, rfl, rfl⟩ rfl rfl rfl rfl rfl (by kernel_rfl) Tryd.func5 (by kernel_rfl)
    (of_decide_eq_true (by kernel_rfl)) (by unfold Func.isWrapper; first | (rw [if_pos (by decide +kernel)]; kernel_rfl) | (rw [if_neg (by decide +kernel)]; exact ⟨rfl, rfl⟩))
    (fun os started H enc _ => lifted os started H enc)

end Go.Proofs.YtppbnmlgilgnnaaDoor.planeFlat
namespace Go.Proofs.YtppbnmlgilgnnaaDoor
set_option maxRecDepth 100000 in
theorem planeFlat_holds : Rows.PlaneFlatCardSaid :=
  Claim7.holds_tied_plain_at .later [] [.data, .data] true (true, "ab5aa4f614d791b3d8cb4fdca616c939dd2ef51ee4a4484fecb3b38df204f3c9") false planeFlat.over (fun _ h => by cases h) (by kernel_rfl) (fun _ h => by cases h) planeFlat_row_tie rfl ⟨rfl, rfl⟩ (by kernel_rfl) rfl
    (fun f fn hf hfn => by
      obtain rfl : f = 5 := Option.some.inj ((show Tryd.prog.funcNamed "cyanotype/cyanotypelaw07.PlaneFlat" = some 5 by kernel_rfl).symm.trans hf) |>.symm
      obtain rfl : fn = Tryd.f5 := (Option.some.inj (Tryd.func5.symm.trans hfn)).symm
      exact ⟨by kernel_rfl, fun j t ht => by
        rw [Tryd.params5] at ht
        have hm : t ∈ [5, 5, 5, 5, 5, 5] := by simpa using Array.mem_of_getElem? ht
        have hall : ([5, 5, 5, 5, 5, 5].all fun u => !Tryd.prog.wantsStandIn u) = true := by kernel_rfl
        exact (show Tryd.prog.wantsStandIn t = false by simpa using List.all_eq_true.1 hall t hm)⟩)
    (by kernel_rfl)
#print axioms planeFlat_holds
end Go.Proofs.YtppbnmlgilgnnaaDoor
