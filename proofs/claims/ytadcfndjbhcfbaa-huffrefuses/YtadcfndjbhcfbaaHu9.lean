/- The law's tells of layer 10, over what package huff is to answer. -/
import Derived.Test.YtadcfndjbhcfbaaHu8
namespace Go.Proofs.Ytadcfndjbhcfbaa
set_option linter.unusedVariables false
open Go.ChangeShapes Go.WideShapes Go.ChangeAt Go.RowKit

/-- The code of any number; 0, 0 of those that are no byte. -/
def codNI (c : Nat → Int) (l : List Int) (b : Int) : Int := if 0 ≤ b ∧ b ≤ 255 then codN c l b.toNat else 0
def codVI (c : Nat → Int) (l : List Int) (b : Int) : Int := if 0 ≤ b ∧ b ≤ 255 then codV c l b.toNat else 0

def SpecCodeSec (T : World → Prop) : Prop := ∀ (c : Nat → Int) (pv : Value) (l : List Int) (b : Int) (hb : I64 b) (hI : ∀ j, j < 16 → I64 (c j)) (w : World) (hv : View w .u8 pv l) (hx : ∀ x ∈ l, 0 ≤ x ∧ x ≤ 255) (hl : l.length ≤ 140737488355328) (ht : T w), Calls Try.prog 27 #[.agg (tbl c pv).toArray, S64 b] w fun e w' => e = .returned (.tuple #[S64 (codVI c l b), S64 (codNI c l b)]) ∧ But Nowhere w w'

set_option maxHeartbeats 6400000 in
set_option maxRecDepth 100000 in
theorem tells_any {T : World → Prop} (hT : ∀ W W', T W → But Nowhere W W' → T W') (h5 : SpecCodeSec T) (c : Nat → Int) (pv : Value) (l : List Int) (b : Int) (hb : I64 b) (hI : ∀ j, j < 16 → I64 (c j)) (w : World) (hv : View w .u8 pv l) (hx : ∀ x ∈ l, 0 ≤ x ∧ x ≤ 255) (hl : l.length ≤ 140737488355328) (ht : T w) : Calls Try.prog 16 #[.agg (tbl c pv).toArray, .int .i64 b] w fun e w' => e = .returned (.bool true) ∧ But Nowhere w w' := by
  have HV : Hid (View w .u8 pv l) := hv
  have HT : Hid (T w) := ht
  clear hv ht
  have huT := Try.underlying25
  have hiT : (Try.prog.info? 25).map (·.size) = some (tbl c pv).length := by rw [tbl_length]; kernel_rfl
  have kk := ((Keep.start w).made 25 (tbl c pv)).made 36 [.int .i64 0, .int .i64 0]
  simp only [World.size_alloc] at kk
  obtain ⟨CB, hCB⟩ : ∃ n, w.heap.size + 1 = n := ⟨_, rfl⟩
  by_cases hin : 0 ≤ b ∧ b ≤ 255
  · obtain ⟨b0, b1⟩ := hin
    obtain ⟨k, rfl⟩ : ∃ k : Nat, b = (k : Int) := ⟨b.toNat, by omega⟩
    have hk : k < 256 := by omega
    have HNV : Hid (codVI c l (k : Int) = codV c l k ∧ codNI c l (k : Int) = codN c l k) := by
      unfold codVI codNI
      rw [if_pos ⟨b0, b1⟩, if_pos ⟨b0, b1⟩]
      exact ⟨rfl, rfl⟩
    have HX0 : Hid (∀ W, (Instr.index 37 (.agg (tab .i64 512 (both (codN c l) (codV c l))).toArray) (.int .i64 (k : Int))).run Try.prog W = .ok (.agg #[.int .i64 (codN c l k), .int .i64 (codV c l k)]) W) := fun W => by
      have := index_code (both (codN c l) (codV c l)) k hk W
      rw [show both (codN c l) (codV c l) (k * 2) = codN c l k by unfold both; rw [if_pos (by omega), show k * 2 / 2 = k by omega], show both (codN c l) (codV c l) (k * 2 + 1) = codV c l k by unfold both; rw [if_neg (by omega), show (k * 2 + 1) / 2 = k by omega]] at this
      exact this
    revert HNV
    revert HX0
    obtain ⟨N, hN⟩ : ∃ N, codN c l k = N := ⟨_, rfl⟩
    obtain ⟨V, hV⟩ : ∃ V, codV c l k = V := ⟨_, rfl⟩
    rw [hN, hV]
    clear hN hV
    intro HX0 HNV
    go_enter Try.func16, Try.ntmps16
    go_upto_region 3 with fail
    rw [hCB] at kk
    revert kk
    generalize ((w.alloc (.cells (tbl c pv).toArray 25)).alloc (.cells #[.int .i64 0, .int .i64 0] 36)) = W1
    intro kk
    have hr := (kk.get (b := w.heap.size) (t := 25) (c := tbl c pv) (by simp)).all
    go_wp2_with (refine wpList_load_mid rfl 25 (.tmp 2) rfl w.heap.size 0 rfl (tbl c pv) _ ?_ huT rfl hiT ?_; exact hr)
    refine (refCodes_any c pv l hI _ (HV.out.but kk.but) hx hl).mono ?_
    rintro e x1 ⟨rfl, dd⟩
    replace kk := kk.step dd
    clear dd hr
    have q0 := kk.head.at 0
    have q1 := kk.head.at 1
    have f0 := kk.head.frozen 0
    have f1 := kk.head.frozen 1
    simp only [List.getElem?_cons_zero, List.getElem?_cons_succ] at q0 q1
    have HK : Hid _ := (kk.set 0 (.int .i64 N)).set 1 (.int .i64 V)
    clear kk
    have x0 := HX0.out
    go_upto_region 4 with fail
    clear x0 q0 q1 f0 f1
    have kk := HK.out
    clear HK
    revert kk
    generalize (x1.setCell ⟨CB, 0, none⟩ (.int .i64 N)).setCell ⟨CB, 1, none⟩ (.int .i64 V) = W2
    intro kk
    go_cut [6, 7] from 19 to 25 (fun s r V' => ∃ NA NB, s = .pointer (some ⟨NA, 0, none⟩) ∧ r = .pointer (some ⟨NB, 0, none⟩) ∧ Keep w V' [(NA, 51, [.int .i64 V]), (NB, 51, [.int .i64 N]), (CB, 36, [.int .i64 N, .int .i64 V]), (w.heap.size, 25, tbl c pv)])
    case first =>
      replace kk := kk.drew
      refine wp_region_till (S := fun V => V.rangeAt w.heap.size 0 (tbl c pv)) (R := fun _ => True) (k := 100) (m := 100) (by kernel_rfl) ((kk.get (b := w.heap.size) (t := 25) (c := tbl c pv) (by simp)).all) trivial ?_
      revert kk
      generalize W2.drew = WG
      intro kk
      (refine Walk.take (i := 0) (oi := { dst := some 20, op := Op.load 25 (Operand.tmp 2), type := 25, pos := "law.go:74", after := #[], guard := none }) (v := .agg (tbl c pv).toArray) rfl (by kernel_rfl) (by kernel_rfl) (by kernel_rfl) (by kernel_rfl) (fun _ _ _ h => h) (yieldsIf_load_mid rfl 25 (.tmp 2) rfl (w.heap.size) 0 rfl (tbl c pv) _ (fun w hw => (hw.1 (by kernel_rfl))) huT rfl (hiT)) ?_; simp only [Act.put, List.setIfInBounds_toArray, List.set_cons_zero, List.set_cons_succ])
      (refine Walk.take (i := 1) (oi := { dst := some 21, op := Op.move (Operand.tmp 1), type := 3, pos := "law.go:74", after := #[], guard := none }) (v := ?_) rfl (by kernel_rfl) (by kernel_rfl) (by kernel_rfl) (by kernel_rfl) (fun _ _ _ h => h) (Or.inl ⟨by rfl, ?_⟩) ?_; rotate_left; (intro w hw; clear hw; (try go_split_ands); go_simp; try (with_reducible rfl)); simp only [Act.put, List.setIfInBounds_toArray, List.set_cons_zero, List.set_cons_succ])
      refine Walk.three (i := 2) (j := 7) (l := 8) (oi := { dst := some 22, op := Op.call { callee := Callee.value (Operand.func 25), args := #[Operand.tmp 21], argTypes := #[3] }, type := 51, pos := "law.go:74", after := #[{ on := 1, ground := Ground.data }], guard := none }) (oj := { dst := some 6, op := Op.alloc 51, type := 0, pos := "law.go:74", after := #[], guard := none }) (ol := { dst := some 7, op := Op.alloc 51, type := 0, pos := "law.go:74", after := #[], guard := none }) (by kernel_rfl) rfl rfl rfl (fun K hK => ?_) (fun K hK => ?_) (fun K hK => ?_)
      · go_simp; ((go_at_call 25; refine (of_any _ _).mono ?_; rintro e z1 ⟨rfl, dd⟩; replace kk := kk.step dd; clear dd)); refine hK.out _ _ (⟨fun _ => (kk.get (b := w.heap.size) (t := 25) (c := tbl c pv) (by simp)).all, fun _ => trivial⟩) ?_; clear hK K; try simp only [Act.put, List.setIfInBounds_toArray, List.set_cons_zero, List.set_cons_succ]
        refine Walk.three (i := 3) (j := 7) (l := 8) (oi := { dst := some 23, op := Op.call { callee := Callee.value (Operand.func 27), args := #[Operand.tmp 20, Operand.tmp 22], argTypes := #[25, 51] }, type := 52, pos := "law.go:74", after := #[{ on := 0, ground := Ground.data }, { on := 2, ground := Ground.data }, { on := 2, ground := Ground.chain }], guard := none }) (oj := { dst := some 6, op := Op.alloc 51, type := 0, pos := "law.go:74", after := #[], guard := none }) (ol := { dst := some 7, op := Op.alloc 51, type := 0, pos := "law.go:74", after := #[], guard := none }) (by kernel_rfl) rfl rfl rfl (fun K hK => ?_) (fun K hK => ?_) (fun K hK => ?_)
        · go_simp; ((go_at_call 27; refine (h5 c pv l _ hb hI _ (HV.out.but kk.but) hx hl (hT _ _ HT.out kk.but)).mono ?_; rintro e z2 ⟨rfl, dd⟩; rw [HNV.out.1, HNV.out.2]; replace kk := kk.step dd; clear dd)); refine hK.out _ _ (⟨fun _ => (kk.get (b := w.heap.size) (t := 25) (c := tbl c pv) (by simp)).all, fun _ => trivial⟩) ?_; clear hK K; try simp only [Act.put, List.setIfInBounds_toArray, List.set_cons_zero, List.set_cons_succ]
          (refine Walk.take (i := 4) (oi := { dst := some 19, op := Op.move (Operand.tmp 23), type := 52, pos := "law.go:74", after := #[{ on := 3, ground := Ground.data }], guard := none }) (v := ?_) rfl (by kernel_rfl) (by kernel_rfl) (by kernel_rfl) (by kernel_rfl) (fun _ _ _ h => h) (Or.inl ⟨by rfl, ?_⟩) ?_; rotate_left; (intro w hw; clear hw; (try go_split_ands); go_simp; try (with_reducible rfl)); simp only [Act.put, List.setIfInBounds_toArray, List.set_cons_zero, List.set_cons_succ])
          (refine Walk.take (i := 5) (oi := { dst := some 24, op := Op.extract (Operand.tmp 19) 0, type := 51, pos := "law.go:74", after := #[{ on := 4, ground := Ground.data }], guard := none }) (v := ?_) rfl (by kernel_rfl) (by kernel_rfl) (by kernel_rfl) (by kernel_rfl) (fun _ _ _ h => h) (Or.inl ⟨by rfl, ?_⟩) ?_; rotate_left; (intro w hw; clear hw; (try go_split_ands); go_simp; try (with_reducible rfl)); simp only [Act.put, List.setIfInBounds_toArray, List.set_cons_zero, List.set_cons_succ])
          (refine Walk.take (i := 6) (oi := { dst := some 25, op := Op.extract (Operand.tmp 19) 1, type := 51, pos := "law.go:74", after := #[{ on := 4, ground := Ground.data }, { on := 9, ground := Ground.gcOnly Departure.lateStores }], guard := none }) (v := ?_) rfl (by kernel_rfl) (by kernel_rfl) (by kernel_rfl) (by kernel_rfl) (fun _ _ _ h => h) (Or.inl ⟨by rfl, ?_⟩) ?_; rotate_left; (intro w hw; clear hw; (try go_split_ands); go_simp; try (with_reducible rfl)); simp only [Act.put, List.setIfInBounds_toArray, List.set_cons_zero, List.set_cons_succ])
          refine Walk.both (i := 7) (j := 8) (oi := { dst := some 6, op := Op.alloc 51, type := 0, pos := "law.go:74", after := #[], guard := none }) (oj := { dst := some 7, op := Op.alloc 51, type := 0, pos := "law.go:74", after := #[], guard := none }) (by kernel_rfl) rfl rfl (fun K hK => ?_) (fun K hK => ?_)
          · go_simp; (replace kk := kk.made 51 [.int .i64 0]); refine hK.out _ _ (⟨fun _ => (kk.get (b := w.heap.size) (t := 25) (c := tbl c pv) (by simp)).all, fun _ => trivial⟩) ?_; clear hK K; try simp only [Act.put, List.setIfInBounds_toArray, List.set_cons_zero, List.set_cons_succ]
            revert kk
            obtain ⟨NA, hNA⟩ : ∃ n, z2.heap.size = n := ⟨_, rfl⟩
            rw [hNA]
            clear hNA
            generalize z2.alloc (.cells [.int .i64 0].toArray 51) = V1
            intro kk
            (refine Walk.go (i := 8) (o := { dst := some 7, op := Op.alloc 51, type := 0, pos := "law.go:74", after := #[], guard := none }) (by kernel_rfl) rfl (fun K hK => ?_); go_simp; (replace kk := kk.made 51 [.int .i64 0]); refine hK.out _ _ (⟨fun _ => (kk.get (b := w.heap.size) (t := 25) (c := tbl c pv) (by simp)).all, fun _ => trivial⟩) ?_; clear hK K; try simp only [Act.put, List.setIfInBounds_toArray, List.set_cons_zero, List.set_cons_succ])
            revert kk
            obtain ⟨NB, hNB⟩ : ∃ n, V1.heap.size = n := ⟨_, rfl⟩
            rw [hNB]
            clear hNB
            generalize V1.alloc (.cells [.int .i64 0].toArray 51) = V2
            intro kk
            replace kk := kk.swap
            have q0 := kk.head.at 0
            have f0 := kk.head.frozen 0
            simp only [List.getElem?_cons_zero] at q0
            (refine Walk.go (i := 9) (o := { dst := none, op := Op.store 51 (Operand.tmp 6) (Operand.tmp 24), type := 0, pos := "law.go:74", after := #[{ on := 7, ground := Ground.data }, { on := 5, ground := Ground.data }, { on := 3, ground := Ground.chain }, { on := 0, ground := Ground.phase }, { on := 1, ground := Ground.phase }, { on := 2, ground := Ground.phase }, { on := 3, ground := Ground.phase }, { on := 4, ground := Ground.phase }, { on := 5, ground := Ground.phase }, { on := 6, ground := Ground.textOnly Departure.lateStores }, { on := 7, ground := Ground.phase }, { on := 8, ground := Ground.phase }], guard := none }) (by kernel_rfl) rfl (fun K hK => ?_); go_simp; (replace kk := kk.set 0 (.int .i64 V); clear q0 f0); refine hK.out _ _ (⟨fun _ => (kk.get (b := w.heap.size) (t := 25) (c := tbl c pv) (by simp)).all, fun _ => trivial⟩) ?_; clear hK K; try simp only [Act.put, List.setIfInBounds_toArray, List.set_cons_zero, List.set_cons_succ])
            revert kk
            generalize V2.setCell ⟨NA, 0, none⟩ (.int .i64 V) = U9
            intro kk
            replace kk := kk.swap
            have q0 := kk.head.at 0
            have f0 := kk.head.frozen 0
            simp only [List.getElem?_cons_zero] at q0
            (refine Walk.go (i := 10) (o := { dst := none, op := Op.store 51 (Operand.tmp 7) (Operand.tmp 25), type := 0, pos := "law.go:74", after := #[{ on := 8, ground := Ground.data }, { on := 6, ground := Ground.data }, { on := 9, ground := Ground.chain }, { on := 0, ground := Ground.phase }, { on := 1, ground := Ground.phase }, { on := 2, ground := Ground.phase }, { on := 3, ground := Ground.phase }, { on := 4, ground := Ground.phase }, { on := 5, ground := Ground.phase }, { on := 6, ground := Ground.phase }, { on := 7, ground := Ground.phase }, { on := 8, ground := Ground.phase }, { on := 9, ground := Ground.phase }], guard := none }) (by kernel_rfl) rfl (fun K hK => ?_); go_simp; (replace kk := kk.set 0 (.int .i64 N); clear q0 f0); refine hK.out _ _ (⟨fun _ => (kk.get (b := w.heap.size) (t := 25) (c := tbl c pv) (by simp)).all, fun _ => trivial⟩) ?_; clear hK K; try simp only [Act.put, List.setIfInBounds_toArray, List.set_cons_zero, List.set_cons_succ])
            refine Walk.done (by kernel_rfl) ?_ _
            go_wp2_with fail
            go_meet
            case rel => exact ⟨_, _, rfl, rfl, kk.swap⟩
          · go_simp; (replace kk := kk.made 51 [.int .i64 0]); refine hK.out _ _ (⟨fun _ => (kk.get (b := w.heap.size) (t := 25) (c := tbl c pv) (by simp)).all, fun _ => trivial⟩) ?_; clear hK K; try simp only [Act.put, List.setIfInBounds_toArray, List.set_cons_zero, List.set_cons_succ]
            revert kk
            obtain ⟨NB, hNB⟩ : ∃ n, z2.heap.size = n := ⟨_, rfl⟩
            rw [hNB]
            clear hNB
            generalize z2.alloc (.cells [.int .i64 0].toArray 51) = V3
            intro kk
            (refine Walk.go (i := 7) (o := { dst := some 6, op := Op.alloc 51, type := 0, pos := "law.go:74", after := #[], guard := none }) (by kernel_rfl) rfl (fun K hK => ?_); go_simp; (replace kk := kk.made 51 [.int .i64 0]); refine hK.out _ _ (⟨fun _ => (kk.get (b := w.heap.size) (t := 25) (c := tbl c pv) (by simp)).all, fun _ => trivial⟩) ?_; clear hK K; try simp only [Act.put, List.setIfInBounds_toArray, List.set_cons_zero, List.set_cons_succ])
            revert kk
            obtain ⟨NA, hNA⟩ : ∃ n, V3.heap.size = n := ⟨_, rfl⟩
            rw [hNA]
            clear hNA
            generalize V3.alloc (.cells [.int .i64 0].toArray 51) = V4
            intro kk
            have q0 := kk.head.at 0
            have f0 := kk.head.frozen 0
            simp only [List.getElem?_cons_zero] at q0
            (refine Walk.go (i := 9) (o := { dst := none, op := Op.store 51 (Operand.tmp 6) (Operand.tmp 24), type := 0, pos := "law.go:74", after := #[{ on := 7, ground := Ground.data }, { on := 5, ground := Ground.data }, { on := 3, ground := Ground.chain }, { on := 0, ground := Ground.phase }, { on := 1, ground := Ground.phase }, { on := 2, ground := Ground.phase }, { on := 3, ground := Ground.phase }, { on := 4, ground := Ground.phase }, { on := 5, ground := Ground.phase }, { on := 6, ground := Ground.textOnly Departure.lateStores }, { on := 7, ground := Ground.phase }, { on := 8, ground := Ground.phase }], guard := none }) (by kernel_rfl) rfl (fun K hK => ?_); go_simp; (replace kk := kk.set 0 (.int .i64 V); clear q0 f0); refine hK.out _ _ (⟨fun _ => (kk.get (b := w.heap.size) (t := 25) (c := tbl c pv) (by simp)).all, fun _ => trivial⟩) ?_; clear hK K; try simp only [Act.put, List.setIfInBounds_toArray, List.set_cons_zero, List.set_cons_succ])
            revert kk
            generalize V4.setCell ⟨NA, 0, none⟩ (.int .i64 V) = U9
            intro kk
            replace kk := kk.swap
            have q0 := kk.head.at 0
            have f0 := kk.head.frozen 0
            simp only [List.getElem?_cons_zero] at q0
            (refine Walk.go (i := 10) (o := { dst := none, op := Op.store 51 (Operand.tmp 7) (Operand.tmp 25), type := 0, pos := "law.go:74", after := #[{ on := 8, ground := Ground.data }, { on := 6, ground := Ground.data }, { on := 9, ground := Ground.chain }, { on := 0, ground := Ground.phase }, { on := 1, ground := Ground.phase }, { on := 2, ground := Ground.phase }, { on := 3, ground := Ground.phase }, { on := 4, ground := Ground.phase }, { on := 5, ground := Ground.phase }, { on := 6, ground := Ground.phase }, { on := 7, ground := Ground.phase }, { on := 8, ground := Ground.phase }, { on := 9, ground := Ground.phase }], guard := none }) (by kernel_rfl) rfl (fun K hK => ?_); go_simp; (replace kk := kk.set 0 (.int .i64 N); clear q0 f0); refine hK.out _ _ (⟨fun _ => (kk.get (b := w.heap.size) (t := 25) (c := tbl c pv) (by simp)).all, fun _ => trivial⟩) ?_; clear hK K; try simp only [Act.put, List.setIfInBounds_toArray, List.set_cons_zero, List.set_cons_succ])
            refine Walk.done (by kernel_rfl) ?_ _
            go_wp2_with fail
            go_meet
            case rel => exact ⟨_, _, rfl, rfl, kk.swap⟩
        · go_simp; (replace kk := kk.made 51 [.int .i64 0]); refine hK.out _ _ (⟨fun _ => (kk.get (b := w.heap.size) (t := 25) (c := tbl c pv) (by simp)).all, fun _ => trivial⟩) ?_; clear hK K; try simp only [Act.put, List.setIfInBounds_toArray, List.set_cons_zero, List.set_cons_succ]
          revert kk
          obtain ⟨NA, hNA⟩ : ∃ n, z1.heap.size = n := ⟨_, rfl⟩
          rw [hNA]
          clear hNA
          generalize z1.alloc (.cells [.int .i64 0].toArray 51) = V5
          intro kk
          refine Walk.both (i := 3) (j := 8) (oi := { dst := some 23, op := Op.call { callee := Callee.value (Operand.func 27), args := #[Operand.tmp 20, Operand.tmp 22], argTypes := #[25, 51] }, type := 52, pos := "law.go:74", after := #[{ on := 0, ground := Ground.data }, { on := 2, ground := Ground.data }, { on := 2, ground := Ground.chain }], guard := none }) (oj := { dst := some 7, op := Op.alloc 51, type := 0, pos := "law.go:74", after := #[], guard := none }) (by kernel_rfl) rfl rfl (fun K hK => ?_) (fun K hK => ?_)
          · go_simp; ((go_at_call 27; refine (h5 c pv l _ hb hI _ (HV.out.but kk.but) hx hl (hT _ _ HT.out kk.but)).mono ?_; rintro e z2 ⟨rfl, dd⟩; rw [HNV.out.1, HNV.out.2]; replace kk := kk.step dd; clear dd)); refine hK.out _ _ (⟨fun _ => (kk.get (b := w.heap.size) (t := 25) (c := tbl c pv) (by simp)).all, fun _ => trivial⟩) ?_; clear hK K; try simp only [Act.put, List.setIfInBounds_toArray, List.set_cons_zero, List.set_cons_succ]
            (refine Walk.take (i := 4) (oi := { dst := some 19, op := Op.move (Operand.tmp 23), type := 52, pos := "law.go:74", after := #[{ on := 3, ground := Ground.data }], guard := none }) (v := ?_) rfl (by kernel_rfl) (by kernel_rfl) (by kernel_rfl) (by kernel_rfl) (fun _ _ _ h => h) (Or.inl ⟨by rfl, ?_⟩) ?_; rotate_left; (intro w hw; clear hw; (try go_split_ands); go_simp; try (with_reducible rfl)); simp only [Act.put, List.setIfInBounds_toArray, List.set_cons_zero, List.set_cons_succ])
            (refine Walk.take (i := 5) (oi := { dst := some 24, op := Op.extract (Operand.tmp 19) 0, type := 51, pos := "law.go:74", after := #[{ on := 4, ground := Ground.data }], guard := none }) (v := ?_) rfl (by kernel_rfl) (by kernel_rfl) (by kernel_rfl) (by kernel_rfl) (fun _ _ _ h => h) (Or.inl ⟨by rfl, ?_⟩) ?_; rotate_left; (intro w hw; clear hw; (try go_split_ands); go_simp; try (with_reducible rfl)); simp only [Act.put, List.setIfInBounds_toArray, List.set_cons_zero, List.set_cons_succ])
            (refine Walk.take (i := 6) (oi := { dst := some 25, op := Op.extract (Operand.tmp 19) 1, type := 51, pos := "law.go:74", after := #[{ on := 4, ground := Ground.data }, { on := 9, ground := Ground.gcOnly Departure.lateStores }], guard := none }) (v := ?_) rfl (by kernel_rfl) (by kernel_rfl) (by kernel_rfl) (by kernel_rfl) (fun _ _ _ h => h) (Or.inl ⟨by rfl, ?_⟩) ?_; rotate_left; (intro w hw; clear hw; (try go_split_ands); go_simp; try (with_reducible rfl)); simp only [Act.put, List.setIfInBounds_toArray, List.set_cons_zero, List.set_cons_succ])
            (refine Walk.go (i := 8) (o := { dst := some 7, op := Op.alloc 51, type := 0, pos := "law.go:74", after := #[], guard := none }) (by kernel_rfl) rfl (fun K hK => ?_); go_simp; (replace kk := kk.made 51 [.int .i64 0]); refine hK.out _ _ (⟨fun _ => (kk.get (b := w.heap.size) (t := 25) (c := tbl c pv) (by simp)).all, fun _ => trivial⟩) ?_; clear hK K; try simp only [Act.put, List.setIfInBounds_toArray, List.set_cons_zero, List.set_cons_succ])
            revert kk
            obtain ⟨NB, hNB⟩ : ∃ n, z2.heap.size = n := ⟨_, rfl⟩
            rw [hNB]
            clear hNB
            generalize z2.alloc (.cells [.int .i64 0].toArray 51) = V6
            intro kk
            replace kk := kk.swap
            have q0 := kk.head.at 0
            have f0 := kk.head.frozen 0
            simp only [List.getElem?_cons_zero] at q0
            (refine Walk.go (i := 9) (o := { dst := none, op := Op.store 51 (Operand.tmp 6) (Operand.tmp 24), type := 0, pos := "law.go:74", after := #[{ on := 7, ground := Ground.data }, { on := 5, ground := Ground.data }, { on := 3, ground := Ground.chain }, { on := 0, ground := Ground.phase }, { on := 1, ground := Ground.phase }, { on := 2, ground := Ground.phase }, { on := 3, ground := Ground.phase }, { on := 4, ground := Ground.phase }, { on := 5, ground := Ground.phase }, { on := 6, ground := Ground.textOnly Departure.lateStores }, { on := 7, ground := Ground.phase }, { on := 8, ground := Ground.phase }], guard := none }) (by kernel_rfl) rfl (fun K hK => ?_); go_simp; (replace kk := kk.set 0 (.int .i64 V); clear q0 f0); refine hK.out _ _ (⟨fun _ => (kk.get (b := w.heap.size) (t := 25) (c := tbl c pv) (by simp)).all, fun _ => trivial⟩) ?_; clear hK K; try simp only [Act.put, List.setIfInBounds_toArray, List.set_cons_zero, List.set_cons_succ])
            revert kk
            generalize V6.setCell ⟨NA, 0, none⟩ (.int .i64 V) = U9
            intro kk
            replace kk := kk.swap
            have q0 := kk.head.at 0
            have f0 := kk.head.frozen 0
            simp only [List.getElem?_cons_zero] at q0
            (refine Walk.go (i := 10) (o := { dst := none, op := Op.store 51 (Operand.tmp 7) (Operand.tmp 25), type := 0, pos := "law.go:74", after := #[{ on := 8, ground := Ground.data }, { on := 6, ground := Ground.data }, { on := 9, ground := Ground.chain }, { on := 0, ground := Ground.phase }, { on := 1, ground := Ground.phase }, { on := 2, ground := Ground.phase }, { on := 3, ground := Ground.phase }, { on := 4, ground := Ground.phase }, { on := 5, ground := Ground.phase }, { on := 6, ground := Ground.phase }, { on := 7, ground := Ground.phase }, { on := 8, ground := Ground.phase }, { on := 9, ground := Ground.phase }], guard := none }) (by kernel_rfl) rfl (fun K hK => ?_); go_simp; (replace kk := kk.set 0 (.int .i64 N); clear q0 f0); refine hK.out _ _ (⟨fun _ => (kk.get (b := w.heap.size) (t := 25) (c := tbl c pv) (by simp)).all, fun _ => trivial⟩) ?_; clear hK K; try simp only [Act.put, List.setIfInBounds_toArray, List.set_cons_zero, List.set_cons_succ])
            refine Walk.done (by kernel_rfl) ?_ _
            go_wp2_with fail
            go_meet
            case rel => exact ⟨_, _, rfl, rfl, kk.swap⟩
          · go_simp; (replace kk := kk.made 51 [.int .i64 0]); refine hK.out _ _ (⟨fun _ => (kk.get (b := w.heap.size) (t := 25) (c := tbl c pv) (by simp)).all, fun _ => trivial⟩) ?_; clear hK K; try simp only [Act.put, List.setIfInBounds_toArray, List.set_cons_zero, List.set_cons_succ]
            revert kk
            obtain ⟨NB, hNB⟩ : ∃ n, V5.heap.size = n := ⟨_, rfl⟩
            rw [hNB]
            clear hNB
            generalize V5.alloc (.cells [.int .i64 0].toArray 51) = V7
            intro kk
            (refine Walk.go (i := 3) (o := { dst := some 23, op := Op.call { callee := Callee.value (Operand.func 27), args := #[Operand.tmp 20, Operand.tmp 22], argTypes := #[25, 51] }, type := 52, pos := "law.go:74", after := #[{ on := 0, ground := Ground.data }, { on := 2, ground := Ground.data }, { on := 2, ground := Ground.chain }], guard := none }) (by kernel_rfl) rfl (fun K hK => ?_); go_simp; ((go_at_call 27; refine (h5 c pv l _ hb hI _ (HV.out.but kk.but) hx hl (hT _ _ HT.out kk.but)).mono ?_; rintro e z2 ⟨rfl, dd⟩; rw [HNV.out.1, HNV.out.2]; replace kk := kk.step dd; clear dd)); refine hK.out _ _ (⟨fun _ => (kk.get (b := w.heap.size) (t := 25) (c := tbl c pv) (by simp)).all, fun _ => trivial⟩) ?_; clear hK K; try simp only [Act.put, List.setIfInBounds_toArray, List.set_cons_zero, List.set_cons_succ])
            (refine Walk.take (i := 4) (oi := { dst := some 19, op := Op.move (Operand.tmp 23), type := 52, pos := "law.go:74", after := #[{ on := 3, ground := Ground.data }], guard := none }) (v := ?_) rfl (by kernel_rfl) (by kernel_rfl) (by kernel_rfl) (by kernel_rfl) (fun _ _ _ h => h) (Or.inl ⟨by rfl, ?_⟩) ?_; rotate_left; (intro w hw; clear hw; (try go_split_ands); go_simp; try (with_reducible rfl)); simp only [Act.put, List.setIfInBounds_toArray, List.set_cons_zero, List.set_cons_succ])
            (refine Walk.take (i := 5) (oi := { dst := some 24, op := Op.extract (Operand.tmp 19) 0, type := 51, pos := "law.go:74", after := #[{ on := 4, ground := Ground.data }], guard := none }) (v := ?_) rfl (by kernel_rfl) (by kernel_rfl) (by kernel_rfl) (by kernel_rfl) (fun _ _ _ h => h) (Or.inl ⟨by rfl, ?_⟩) ?_; rotate_left; (intro w hw; clear hw; (try go_split_ands); go_simp; try (with_reducible rfl)); simp only [Act.put, List.setIfInBounds_toArray, List.set_cons_zero, List.set_cons_succ])
            (refine Walk.take (i := 6) (oi := { dst := some 25, op := Op.extract (Operand.tmp 19) 1, type := 51, pos := "law.go:74", after := #[{ on := 4, ground := Ground.data }, { on := 9, ground := Ground.gcOnly Departure.lateStores }], guard := none }) (v := ?_) rfl (by kernel_rfl) (by kernel_rfl) (by kernel_rfl) (by kernel_rfl) (fun _ _ _ h => h) (Or.inl ⟨by rfl, ?_⟩) ?_; rotate_left; (intro w hw; clear hw; (try go_split_ands); go_simp; try (with_reducible rfl)); simp only [Act.put, List.setIfInBounds_toArray, List.set_cons_zero, List.set_cons_succ])
            replace kk := kk.swap
            have q0 := kk.head.at 0
            have f0 := kk.head.frozen 0
            simp only [List.getElem?_cons_zero] at q0
            (refine Walk.go (i := 9) (o := { dst := none, op := Op.store 51 (Operand.tmp 6) (Operand.tmp 24), type := 0, pos := "law.go:74", after := #[{ on := 7, ground := Ground.data }, { on := 5, ground := Ground.data }, { on := 3, ground := Ground.chain }, { on := 0, ground := Ground.phase }, { on := 1, ground := Ground.phase }, { on := 2, ground := Ground.phase }, { on := 3, ground := Ground.phase }, { on := 4, ground := Ground.phase }, { on := 5, ground := Ground.phase }, { on := 6, ground := Ground.textOnly Departure.lateStores }, { on := 7, ground := Ground.phase }, { on := 8, ground := Ground.phase }], guard := none }) (by kernel_rfl) rfl (fun K hK => ?_); go_simp; (replace kk := kk.set 0 (.int .i64 V); clear q0 f0); refine hK.out _ _ (⟨fun _ => (kk.get (b := w.heap.size) (t := 25) (c := tbl c pv) (by simp)).all, fun _ => trivial⟩) ?_; clear hK K; try simp only [Act.put, List.setIfInBounds_toArray, List.set_cons_zero, List.set_cons_succ])
            revert kk
            generalize z2.setCell ⟨NA, 0, none⟩ (.int .i64 V) = U9
            intro kk
            replace kk := kk.swap
            have q0 := kk.head.at 0
            have f0 := kk.head.frozen 0
            simp only [List.getElem?_cons_zero] at q0
            (refine Walk.go (i := 10) (o := { dst := none, op := Op.store 51 (Operand.tmp 7) (Operand.tmp 25), type := 0, pos := "law.go:74", after := #[{ on := 8, ground := Ground.data }, { on := 6, ground := Ground.data }, { on := 9, ground := Ground.chain }, { on := 0, ground := Ground.phase }, { on := 1, ground := Ground.phase }, { on := 2, ground := Ground.phase }, { on := 3, ground := Ground.phase }, { on := 4, ground := Ground.phase }, { on := 5, ground := Ground.phase }, { on := 6, ground := Ground.phase }, { on := 7, ground := Ground.phase }, { on := 8, ground := Ground.phase }, { on := 9, ground := Ground.phase }], guard := none }) (by kernel_rfl) rfl (fun K hK => ?_); go_simp; (replace kk := kk.set 0 (.int .i64 N); clear q0 f0); refine hK.out _ _ (⟨fun _ => (kk.get (b := w.heap.size) (t := 25) (c := tbl c pv) (by simp)).all, fun _ => trivial⟩) ?_; clear hK K; try simp only [Act.put, List.setIfInBounds_toArray, List.set_cons_zero, List.set_cons_succ])
            refine Walk.done (by kernel_rfl) ?_ _
            go_wp2_with fail
            go_meet
            case rel => exact ⟨_, _, rfl, rfl, kk.swap⟩
        · go_simp; (replace kk := kk.made 51 [.int .i64 0]); refine hK.out _ _ (⟨fun _ => (kk.get (b := w.heap.size) (t := 25) (c := tbl c pv) (by simp)).all, fun _ => trivial⟩) ?_; clear hK K; try simp only [Act.put, List.setIfInBounds_toArray, List.set_cons_zero, List.set_cons_succ]
          revert kk
          obtain ⟨NB, hNB⟩ : ∃ n, z1.heap.size = n := ⟨_, rfl⟩
          rw [hNB]
          clear hNB
          generalize z1.alloc (.cells [.int .i64 0].toArray 51) = V8
          intro kk
          refine Walk.both (i := 3) (j := 7) (oi := { dst := some 23, op := Op.call { callee := Callee.value (Operand.func 27), args := #[Operand.tmp 20, Operand.tmp 22], argTypes := #[25, 51] }, type := 52, pos := "law.go:74", after := #[{ on := 0, ground := Ground.data }, { on := 2, ground := Ground.data }, { on := 2, ground := Ground.chain }], guard := none }) (oj := { dst := some 6, op := Op.alloc 51, type := 0, pos := "law.go:74", after := #[], guard := none }) (by kernel_rfl) rfl rfl (fun K hK => ?_) (fun K hK => ?_)
          · go_simp; ((go_at_call 27; refine (h5 c pv l _ hb hI _ (HV.out.but kk.but) hx hl (hT _ _ HT.out kk.but)).mono ?_; rintro e z2 ⟨rfl, dd⟩; rw [HNV.out.1, HNV.out.2]; replace kk := kk.step dd; clear dd)); refine hK.out _ _ (⟨fun _ => (kk.get (b := w.heap.size) (t := 25) (c := tbl c pv) (by simp)).all, fun _ => trivial⟩) ?_; clear hK K; try simp only [Act.put, List.setIfInBounds_toArray, List.set_cons_zero, List.set_cons_succ]
            (refine Walk.take (i := 4) (oi := { dst := some 19, op := Op.move (Operand.tmp 23), type := 52, pos := "law.go:74", after := #[{ on := 3, ground := Ground.data }], guard := none }) (v := ?_) rfl (by kernel_rfl) (by kernel_rfl) (by kernel_rfl) (by kernel_rfl) (fun _ _ _ h => h) (Or.inl ⟨by rfl, ?_⟩) ?_; rotate_left; (intro w hw; clear hw; (try go_split_ands); go_simp; try (with_reducible rfl)); simp only [Act.put, List.setIfInBounds_toArray, List.set_cons_zero, List.set_cons_succ])
            (refine Walk.take (i := 5) (oi := { dst := some 24, op := Op.extract (Operand.tmp 19) 0, type := 51, pos := "law.go:74", after := #[{ on := 4, ground := Ground.data }], guard := none }) (v := ?_) rfl (by kernel_rfl) (by kernel_rfl) (by kernel_rfl) (by kernel_rfl) (fun _ _ _ h => h) (Or.inl ⟨by rfl, ?_⟩) ?_; rotate_left; (intro w hw; clear hw; (try go_split_ands); go_simp; try (with_reducible rfl)); simp only [Act.put, List.setIfInBounds_toArray, List.set_cons_zero, List.set_cons_succ])
            (refine Walk.take (i := 6) (oi := { dst := some 25, op := Op.extract (Operand.tmp 19) 1, type := 51, pos := "law.go:74", after := #[{ on := 4, ground := Ground.data }, { on := 9, ground := Ground.gcOnly Departure.lateStores }], guard := none }) (v := ?_) rfl (by kernel_rfl) (by kernel_rfl) (by kernel_rfl) (by kernel_rfl) (fun _ _ _ h => h) (Or.inl ⟨by rfl, ?_⟩) ?_; rotate_left; (intro w hw; clear hw; (try go_split_ands); go_simp; try (with_reducible rfl)); simp only [Act.put, List.setIfInBounds_toArray, List.set_cons_zero, List.set_cons_succ])
            (refine Walk.go (i := 7) (o := { dst := some 6, op := Op.alloc 51, type := 0, pos := "law.go:74", after := #[], guard := none }) (by kernel_rfl) rfl (fun K hK => ?_); go_simp; (replace kk := kk.made 51 [.int .i64 0]); refine hK.out _ _ (⟨fun _ => (kk.get (b := w.heap.size) (t := 25) (c := tbl c pv) (by simp)).all, fun _ => trivial⟩) ?_; clear hK K; try simp only [Act.put, List.setIfInBounds_toArray, List.set_cons_zero, List.set_cons_succ])
            revert kk
            obtain ⟨NA, hNA⟩ : ∃ n, z2.heap.size = n := ⟨_, rfl⟩
            rw [hNA]
            clear hNA
            generalize z2.alloc (.cells [.int .i64 0].toArray 51) = V9
            intro kk
            have q0 := kk.head.at 0
            have f0 := kk.head.frozen 0
            simp only [List.getElem?_cons_zero] at q0
            (refine Walk.go (i := 9) (o := { dst := none, op := Op.store 51 (Operand.tmp 6) (Operand.tmp 24), type := 0, pos := "law.go:74", after := #[{ on := 7, ground := Ground.data }, { on := 5, ground := Ground.data }, { on := 3, ground := Ground.chain }, { on := 0, ground := Ground.phase }, { on := 1, ground := Ground.phase }, { on := 2, ground := Ground.phase }, { on := 3, ground := Ground.phase }, { on := 4, ground := Ground.phase }, { on := 5, ground := Ground.phase }, { on := 6, ground := Ground.textOnly Departure.lateStores }, { on := 7, ground := Ground.phase }, { on := 8, ground := Ground.phase }], guard := none }) (by kernel_rfl) rfl (fun K hK => ?_); go_simp; (replace kk := kk.set 0 (.int .i64 V); clear q0 f0); refine hK.out _ _ (⟨fun _ => (kk.get (b := w.heap.size) (t := 25) (c := tbl c pv) (by simp)).all, fun _ => trivial⟩) ?_; clear hK K; try simp only [Act.put, List.setIfInBounds_toArray, List.set_cons_zero, List.set_cons_succ])
            revert kk
            generalize V9.setCell ⟨NA, 0, none⟩ (.int .i64 V) = U9
            intro kk
            replace kk := kk.swap
            have q0 := kk.head.at 0
            have f0 := kk.head.frozen 0
            simp only [List.getElem?_cons_zero] at q0
            (refine Walk.go (i := 10) (o := { dst := none, op := Op.store 51 (Operand.tmp 7) (Operand.tmp 25), type := 0, pos := "law.go:74", after := #[{ on := 8, ground := Ground.data }, { on := 6, ground := Ground.data }, { on := 9, ground := Ground.chain }, { on := 0, ground := Ground.phase }, { on := 1, ground := Ground.phase }, { on := 2, ground := Ground.phase }, { on := 3, ground := Ground.phase }, { on := 4, ground := Ground.phase }, { on := 5, ground := Ground.phase }, { on := 6, ground := Ground.phase }, { on := 7, ground := Ground.phase }, { on := 8, ground := Ground.phase }, { on := 9, ground := Ground.phase }], guard := none }) (by kernel_rfl) rfl (fun K hK => ?_); go_simp; (replace kk := kk.set 0 (.int .i64 N); clear q0 f0); refine hK.out _ _ (⟨fun _ => (kk.get (b := w.heap.size) (t := 25) (c := tbl c pv) (by simp)).all, fun _ => trivial⟩) ?_; clear hK K; try simp only [Act.put, List.setIfInBounds_toArray, List.set_cons_zero, List.set_cons_succ])
            refine Walk.done (by kernel_rfl) ?_ _
            go_wp2_with fail
            go_meet
            case rel => exact ⟨_, _, rfl, rfl, kk.swap⟩
          · go_simp; (replace kk := kk.made 51 [.int .i64 0]); refine hK.out _ _ (⟨fun _ => (kk.get (b := w.heap.size) (t := 25) (c := tbl c pv) (by simp)).all, fun _ => trivial⟩) ?_; clear hK K; try simp only [Act.put, List.setIfInBounds_toArray, List.set_cons_zero, List.set_cons_succ]
            revert kk
            obtain ⟨NA, hNA⟩ : ∃ n, V8.heap.size = n := ⟨_, rfl⟩
            rw [hNA]
            clear hNA
            generalize V8.alloc (.cells [.int .i64 0].toArray 51) = V10
            intro kk
            (refine Walk.go (i := 3) (o := { dst := some 23, op := Op.call { callee := Callee.value (Operand.func 27), args := #[Operand.tmp 20, Operand.tmp 22], argTypes := #[25, 51] }, type := 52, pos := "law.go:74", after := #[{ on := 0, ground := Ground.data }, { on := 2, ground := Ground.data }, { on := 2, ground := Ground.chain }], guard := none }) (by kernel_rfl) rfl (fun K hK => ?_); go_simp; ((go_at_call 27; refine (h5 c pv l _ hb hI _ (HV.out.but kk.but) hx hl (hT _ _ HT.out kk.but)).mono ?_; rintro e z2 ⟨rfl, dd⟩; rw [HNV.out.1, HNV.out.2]; replace kk := kk.step dd; clear dd)); refine hK.out _ _ (⟨fun _ => (kk.get (b := w.heap.size) (t := 25) (c := tbl c pv) (by simp)).all, fun _ => trivial⟩) ?_; clear hK K; try simp only [Act.put, List.setIfInBounds_toArray, List.set_cons_zero, List.set_cons_succ])
            (refine Walk.take (i := 4) (oi := { dst := some 19, op := Op.move (Operand.tmp 23), type := 52, pos := "law.go:74", after := #[{ on := 3, ground := Ground.data }], guard := none }) (v := ?_) rfl (by kernel_rfl) (by kernel_rfl) (by kernel_rfl) (by kernel_rfl) (fun _ _ _ h => h) (Or.inl ⟨by rfl, ?_⟩) ?_; rotate_left; (intro w hw; clear hw; (try go_split_ands); go_simp; try (with_reducible rfl)); simp only [Act.put, List.setIfInBounds_toArray, List.set_cons_zero, List.set_cons_succ])
            (refine Walk.take (i := 5) (oi := { dst := some 24, op := Op.extract (Operand.tmp 19) 0, type := 51, pos := "law.go:74", after := #[{ on := 4, ground := Ground.data }], guard := none }) (v := ?_) rfl (by kernel_rfl) (by kernel_rfl) (by kernel_rfl) (by kernel_rfl) (fun _ _ _ h => h) (Or.inl ⟨by rfl, ?_⟩) ?_; rotate_left; (intro w hw; clear hw; (try go_split_ands); go_simp; try (with_reducible rfl)); simp only [Act.put, List.setIfInBounds_toArray, List.set_cons_zero, List.set_cons_succ])
            (refine Walk.take (i := 6) (oi := { dst := some 25, op := Op.extract (Operand.tmp 19) 1, type := 51, pos := "law.go:74", after := #[{ on := 4, ground := Ground.data }, { on := 9, ground := Ground.gcOnly Departure.lateStores }], guard := none }) (v := ?_) rfl (by kernel_rfl) (by kernel_rfl) (by kernel_rfl) (by kernel_rfl) (fun _ _ _ h => h) (Or.inl ⟨by rfl, ?_⟩) ?_; rotate_left; (intro w hw; clear hw; (try go_split_ands); go_simp; try (with_reducible rfl)); simp only [Act.put, List.setIfInBounds_toArray, List.set_cons_zero, List.set_cons_succ])
            have q0 := kk.head.at 0
            have f0 := kk.head.frozen 0
            simp only [List.getElem?_cons_zero] at q0
            (refine Walk.go (i := 9) (o := { dst := none, op := Op.store 51 (Operand.tmp 6) (Operand.tmp 24), type := 0, pos := "law.go:74", after := #[{ on := 7, ground := Ground.data }, { on := 5, ground := Ground.data }, { on := 3, ground := Ground.chain }, { on := 0, ground := Ground.phase }, { on := 1, ground := Ground.phase }, { on := 2, ground := Ground.phase }, { on := 3, ground := Ground.phase }, { on := 4, ground := Ground.phase }, { on := 5, ground := Ground.phase }, { on := 6, ground := Ground.textOnly Departure.lateStores }, { on := 7, ground := Ground.phase }, { on := 8, ground := Ground.phase }], guard := none }) (by kernel_rfl) rfl (fun K hK => ?_); go_simp; (replace kk := kk.set 0 (.int .i64 V); clear q0 f0); refine hK.out _ _ (⟨fun _ => (kk.get (b := w.heap.size) (t := 25) (c := tbl c pv) (by simp)).all, fun _ => trivial⟩) ?_; clear hK K; try simp only [Act.put, List.setIfInBounds_toArray, List.set_cons_zero, List.set_cons_succ])
            revert kk
            generalize z2.setCell ⟨NA, 0, none⟩ (.int .i64 V) = U9
            intro kk
            replace kk := kk.swap
            have q0 := kk.head.at 0
            have f0 := kk.head.frozen 0
            simp only [List.getElem?_cons_zero] at q0
            (refine Walk.go (i := 10) (o := { dst := none, op := Op.store 51 (Operand.tmp 7) (Operand.tmp 25), type := 0, pos := "law.go:74", after := #[{ on := 8, ground := Ground.data }, { on := 6, ground := Ground.data }, { on := 9, ground := Ground.chain }, { on := 0, ground := Ground.phase }, { on := 1, ground := Ground.phase }, { on := 2, ground := Ground.phase }, { on := 3, ground := Ground.phase }, { on := 4, ground := Ground.phase }, { on := 5, ground := Ground.phase }, { on := 6, ground := Ground.phase }, { on := 7, ground := Ground.phase }, { on := 8, ground := Ground.phase }, { on := 9, ground := Ground.phase }], guard := none }) (by kernel_rfl) rfl (fun K hK => ?_); go_simp; (replace kk := kk.set 0 (.int .i64 N); clear q0 f0); refine hK.out _ _ (⟨fun _ => (kk.get (b := w.heap.size) (t := 25) (c := tbl c pv) (by simp)).all, fun _ => trivial⟩) ?_; clear hK K; try simp only [Act.put, List.setIfInBounds_toArray, List.set_cons_zero, List.set_cons_succ])
            refine Walk.done (by kernel_rfl) ?_ _
            go_wp2_with fail
            go_meet
            case rel => exact ⟨_, _, rfl, rfl, kk.swap⟩
      · go_simp; (replace kk := kk.made 51 [.int .i64 0]); refine hK.out _ _ (⟨fun _ => (kk.get (b := w.heap.size) (t := 25) (c := tbl c pv) (by simp)).all, fun _ => trivial⟩) ?_; clear hK K; try simp only [Act.put, List.setIfInBounds_toArray, List.set_cons_zero, List.set_cons_succ]
        revert kk
        obtain ⟨NA, hNA⟩ : ∃ n, WG.heap.size = n := ⟨_, rfl⟩
        rw [hNA]
        clear hNA
        generalize WG.alloc (.cells [.int .i64 0].toArray 51) = V11
        intro kk
        refine Walk.both (i := 2) (j := 8) (oi := { dst := some 22, op := Op.call { callee := Callee.value (Operand.func 25), args := #[Operand.tmp 21], argTypes := #[3] }, type := 51, pos := "law.go:74", after := #[{ on := 1, ground := Ground.data }], guard := none }) (oj := { dst := some 7, op := Op.alloc 51, type := 0, pos := "law.go:74", after := #[], guard := none }) (by kernel_rfl) rfl rfl (fun K hK => ?_) (fun K hK => ?_)
        · go_simp; ((go_at_call 25; refine (of_any _ _).mono ?_; rintro e z1 ⟨rfl, dd⟩; replace kk := kk.step dd; clear dd)); refine hK.out _ _ (⟨fun _ => (kk.get (b := w.heap.size) (t := 25) (c := tbl c pv) (by simp)).all, fun _ => trivial⟩) ?_; clear hK K; try simp only [Act.put, List.setIfInBounds_toArray, List.set_cons_zero, List.set_cons_succ]
          refine Walk.both (i := 3) (j := 8) (oi := { dst := some 23, op := Op.call { callee := Callee.value (Operand.func 27), args := #[Operand.tmp 20, Operand.tmp 22], argTypes := #[25, 51] }, type := 52, pos := "law.go:74", after := #[{ on := 0, ground := Ground.data }, { on := 2, ground := Ground.data }, { on := 2, ground := Ground.chain }], guard := none }) (oj := { dst := some 7, op := Op.alloc 51, type := 0, pos := "law.go:74", after := #[], guard := none }) (by kernel_rfl) rfl rfl (fun K hK => ?_) (fun K hK => ?_)
          · go_simp; ((go_at_call 27; refine (h5 c pv l _ hb hI _ (HV.out.but kk.but) hx hl (hT _ _ HT.out kk.but)).mono ?_; rintro e z2 ⟨rfl, dd⟩; rw [HNV.out.1, HNV.out.2]; replace kk := kk.step dd; clear dd)); refine hK.out _ _ (⟨fun _ => (kk.get (b := w.heap.size) (t := 25) (c := tbl c pv) (by simp)).all, fun _ => trivial⟩) ?_; clear hK K; try simp only [Act.put, List.setIfInBounds_toArray, List.set_cons_zero, List.set_cons_succ]
            (refine Walk.take (i := 4) (oi := { dst := some 19, op := Op.move (Operand.tmp 23), type := 52, pos := "law.go:74", after := #[{ on := 3, ground := Ground.data }], guard := none }) (v := ?_) rfl (by kernel_rfl) (by kernel_rfl) (by kernel_rfl) (by kernel_rfl) (fun _ _ _ h => h) (Or.inl ⟨by rfl, ?_⟩) ?_; rotate_left; (intro w hw; clear hw; (try go_split_ands); go_simp; try (with_reducible rfl)); simp only [Act.put, List.setIfInBounds_toArray, List.set_cons_zero, List.set_cons_succ])
            (refine Walk.take (i := 5) (oi := { dst := some 24, op := Op.extract (Operand.tmp 19) 0, type := 51, pos := "law.go:74", after := #[{ on := 4, ground := Ground.data }], guard := none }) (v := ?_) rfl (by kernel_rfl) (by kernel_rfl) (by kernel_rfl) (by kernel_rfl) (fun _ _ _ h => h) (Or.inl ⟨by rfl, ?_⟩) ?_; rotate_left; (intro w hw; clear hw; (try go_split_ands); go_simp; try (with_reducible rfl)); simp only [Act.put, List.setIfInBounds_toArray, List.set_cons_zero, List.set_cons_succ])
            (refine Walk.take (i := 6) (oi := { dst := some 25, op := Op.extract (Operand.tmp 19) 1, type := 51, pos := "law.go:74", after := #[{ on := 4, ground := Ground.data }, { on := 9, ground := Ground.gcOnly Departure.lateStores }], guard := none }) (v := ?_) rfl (by kernel_rfl) (by kernel_rfl) (by kernel_rfl) (by kernel_rfl) (fun _ _ _ h => h) (Or.inl ⟨by rfl, ?_⟩) ?_; rotate_left; (intro w hw; clear hw; (try go_split_ands); go_simp; try (with_reducible rfl)); simp only [Act.put, List.setIfInBounds_toArray, List.set_cons_zero, List.set_cons_succ])
            (refine Walk.go (i := 8) (o := { dst := some 7, op := Op.alloc 51, type := 0, pos := "law.go:74", after := #[], guard := none }) (by kernel_rfl) rfl (fun K hK => ?_); go_simp; (replace kk := kk.made 51 [.int .i64 0]); refine hK.out _ _ (⟨fun _ => (kk.get (b := w.heap.size) (t := 25) (c := tbl c pv) (by simp)).all, fun _ => trivial⟩) ?_; clear hK K; try simp only [Act.put, List.setIfInBounds_toArray, List.set_cons_zero, List.set_cons_succ])
            revert kk
            obtain ⟨NB, hNB⟩ : ∃ n, z2.heap.size = n := ⟨_, rfl⟩
            rw [hNB]
            clear hNB
            generalize z2.alloc (.cells [.int .i64 0].toArray 51) = V12
            intro kk
            replace kk := kk.swap
            have q0 := kk.head.at 0
            have f0 := kk.head.frozen 0
            simp only [List.getElem?_cons_zero] at q0
            (refine Walk.go (i := 9) (o := { dst := none, op := Op.store 51 (Operand.tmp 6) (Operand.tmp 24), type := 0, pos := "law.go:74", after := #[{ on := 7, ground := Ground.data }, { on := 5, ground := Ground.data }, { on := 3, ground := Ground.chain }, { on := 0, ground := Ground.phase }, { on := 1, ground := Ground.phase }, { on := 2, ground := Ground.phase }, { on := 3, ground := Ground.phase }, { on := 4, ground := Ground.phase }, { on := 5, ground := Ground.phase }, { on := 6, ground := Ground.textOnly Departure.lateStores }, { on := 7, ground := Ground.phase }, { on := 8, ground := Ground.phase }], guard := none }) (by kernel_rfl) rfl (fun K hK => ?_); go_simp; (replace kk := kk.set 0 (.int .i64 V); clear q0 f0); refine hK.out _ _ (⟨fun _ => (kk.get (b := w.heap.size) (t := 25) (c := tbl c pv) (by simp)).all, fun _ => trivial⟩) ?_; clear hK K; try simp only [Act.put, List.setIfInBounds_toArray, List.set_cons_zero, List.set_cons_succ])
            revert kk
            generalize V12.setCell ⟨NA, 0, none⟩ (.int .i64 V) = U9
            intro kk
            replace kk := kk.swap
            have q0 := kk.head.at 0
            have f0 := kk.head.frozen 0
            simp only [List.getElem?_cons_zero] at q0
            (refine Walk.go (i := 10) (o := { dst := none, op := Op.store 51 (Operand.tmp 7) (Operand.tmp 25), type := 0, pos := "law.go:74", after := #[{ on := 8, ground := Ground.data }, { on := 6, ground := Ground.data }, { on := 9, ground := Ground.chain }, { on := 0, ground := Ground.phase }, { on := 1, ground := Ground.phase }, { on := 2, ground := Ground.phase }, { on := 3, ground := Ground.phase }, { on := 4, ground := Ground.phase }, { on := 5, ground := Ground.phase }, { on := 6, ground := Ground.phase }, { on := 7, ground := Ground.phase }, { on := 8, ground := Ground.phase }, { on := 9, ground := Ground.phase }], guard := none }) (by kernel_rfl) rfl (fun K hK => ?_); go_simp; (replace kk := kk.set 0 (.int .i64 N); clear q0 f0); refine hK.out _ _ (⟨fun _ => (kk.get (b := w.heap.size) (t := 25) (c := tbl c pv) (by simp)).all, fun _ => trivial⟩) ?_; clear hK K; try simp only [Act.put, List.setIfInBounds_toArray, List.set_cons_zero, List.set_cons_succ])
            refine Walk.done (by kernel_rfl) ?_ _
            go_wp2_with fail
            go_meet
            case rel => exact ⟨_, _, rfl, rfl, kk.swap⟩
          · go_simp; (replace kk := kk.made 51 [.int .i64 0]); refine hK.out _ _ (⟨fun _ => (kk.get (b := w.heap.size) (t := 25) (c := tbl c pv) (by simp)).all, fun _ => trivial⟩) ?_; clear hK K; try simp only [Act.put, List.setIfInBounds_toArray, List.set_cons_zero, List.set_cons_succ]
            revert kk
            obtain ⟨NB, hNB⟩ : ∃ n, z1.heap.size = n := ⟨_, rfl⟩
            rw [hNB]
            clear hNB
            generalize z1.alloc (.cells [.int .i64 0].toArray 51) = V13
            intro kk
            (refine Walk.go (i := 3) (o := { dst := some 23, op := Op.call { callee := Callee.value (Operand.func 27), args := #[Operand.tmp 20, Operand.tmp 22], argTypes := #[25, 51] }, type := 52, pos := "law.go:74", after := #[{ on := 0, ground := Ground.data }, { on := 2, ground := Ground.data }, { on := 2, ground := Ground.chain }], guard := none }) (by kernel_rfl) rfl (fun K hK => ?_); go_simp; ((go_at_call 27; refine (h5 c pv l _ hb hI _ (HV.out.but kk.but) hx hl (hT _ _ HT.out kk.but)).mono ?_; rintro e z2 ⟨rfl, dd⟩; rw [HNV.out.1, HNV.out.2]; replace kk := kk.step dd; clear dd)); refine hK.out _ _ (⟨fun _ => (kk.get (b := w.heap.size) (t := 25) (c := tbl c pv) (by simp)).all, fun _ => trivial⟩) ?_; clear hK K; try simp only [Act.put, List.setIfInBounds_toArray, List.set_cons_zero, List.set_cons_succ])
            (refine Walk.take (i := 4) (oi := { dst := some 19, op := Op.move (Operand.tmp 23), type := 52, pos := "law.go:74", after := #[{ on := 3, ground := Ground.data }], guard := none }) (v := ?_) rfl (by kernel_rfl) (by kernel_rfl) (by kernel_rfl) (by kernel_rfl) (fun _ _ _ h => h) (Or.inl ⟨by rfl, ?_⟩) ?_; rotate_left; (intro w hw; clear hw; (try go_split_ands); go_simp; try (with_reducible rfl)); simp only [Act.put, List.setIfInBounds_toArray, List.set_cons_zero, List.set_cons_succ])
            (refine Walk.take (i := 5) (oi := { dst := some 24, op := Op.extract (Operand.tmp 19) 0, type := 51, pos := "law.go:74", after := #[{ on := 4, ground := Ground.data }], guard := none }) (v := ?_) rfl (by kernel_rfl) (by kernel_rfl) (by kernel_rfl) (by kernel_rfl) (fun _ _ _ h => h) (Or.inl ⟨by rfl, ?_⟩) ?_; rotate_left; (intro w hw; clear hw; (try go_split_ands); go_simp; try (with_reducible rfl)); simp only [Act.put, List.setIfInBounds_toArray, List.set_cons_zero, List.set_cons_succ])
            (refine Walk.take (i := 6) (oi := { dst := some 25, op := Op.extract (Operand.tmp 19) 1, type := 51, pos := "law.go:74", after := #[{ on := 4, ground := Ground.data }, { on := 9, ground := Ground.gcOnly Departure.lateStores }], guard := none }) (v := ?_) rfl (by kernel_rfl) (by kernel_rfl) (by kernel_rfl) (by kernel_rfl) (fun _ _ _ h => h) (Or.inl ⟨by rfl, ?_⟩) ?_; rotate_left; (intro w hw; clear hw; (try go_split_ands); go_simp; try (with_reducible rfl)); simp only [Act.put, List.setIfInBounds_toArray, List.set_cons_zero, List.set_cons_succ])
            replace kk := kk.swap
            have q0 := kk.head.at 0
            have f0 := kk.head.frozen 0
            simp only [List.getElem?_cons_zero] at q0
            (refine Walk.go (i := 9) (o := { dst := none, op := Op.store 51 (Operand.tmp 6) (Operand.tmp 24), type := 0, pos := "law.go:74", after := #[{ on := 7, ground := Ground.data }, { on := 5, ground := Ground.data }, { on := 3, ground := Ground.chain }, { on := 0, ground := Ground.phase }, { on := 1, ground := Ground.phase }, { on := 2, ground := Ground.phase }, { on := 3, ground := Ground.phase }, { on := 4, ground := Ground.phase }, { on := 5, ground := Ground.phase }, { on := 6, ground := Ground.textOnly Departure.lateStores }, { on := 7, ground := Ground.phase }, { on := 8, ground := Ground.phase }], guard := none }) (by kernel_rfl) rfl (fun K hK => ?_); go_simp; (replace kk := kk.set 0 (.int .i64 V); clear q0 f0); refine hK.out _ _ (⟨fun _ => (kk.get (b := w.heap.size) (t := 25) (c := tbl c pv) (by simp)).all, fun _ => trivial⟩) ?_; clear hK K; try simp only [Act.put, List.setIfInBounds_toArray, List.set_cons_zero, List.set_cons_succ])
            revert kk
            generalize z2.setCell ⟨NA, 0, none⟩ (.int .i64 V) = U9
            intro kk
            replace kk := kk.swap
            have q0 := kk.head.at 0
            have f0 := kk.head.frozen 0
            simp only [List.getElem?_cons_zero] at q0
            (refine Walk.go (i := 10) (o := { dst := none, op := Op.store 51 (Operand.tmp 7) (Operand.tmp 25), type := 0, pos := "law.go:74", after := #[{ on := 8, ground := Ground.data }, { on := 6, ground := Ground.data }, { on := 9, ground := Ground.chain }, { on := 0, ground := Ground.phase }, { on := 1, ground := Ground.phase }, { on := 2, ground := Ground.phase }, { on := 3, ground := Ground.phase }, { on := 4, ground := Ground.phase }, { on := 5, ground := Ground.phase }, { on := 6, ground := Ground.phase }, { on := 7, ground := Ground.phase }, { on := 8, ground := Ground.phase }, { on := 9, ground := Ground.phase }], guard := none }) (by kernel_rfl) rfl (fun K hK => ?_); go_simp; (replace kk := kk.set 0 (.int .i64 N); clear q0 f0); refine hK.out _ _ (⟨fun _ => (kk.get (b := w.heap.size) (t := 25) (c := tbl c pv) (by simp)).all, fun _ => trivial⟩) ?_; clear hK K; try simp only [Act.put, List.setIfInBounds_toArray, List.set_cons_zero, List.set_cons_succ])
            refine Walk.done (by kernel_rfl) ?_ _
            go_wp2_with fail
            go_meet
            case rel => exact ⟨_, _, rfl, rfl, kk.swap⟩
        · go_simp; (replace kk := kk.made 51 [.int .i64 0]); refine hK.out _ _ (⟨fun _ => (kk.get (b := w.heap.size) (t := 25) (c := tbl c pv) (by simp)).all, fun _ => trivial⟩) ?_; clear hK K; try simp only [Act.put, List.setIfInBounds_toArray, List.set_cons_zero, List.set_cons_succ]
          revert kk
          obtain ⟨NB, hNB⟩ : ∃ n, V11.heap.size = n := ⟨_, rfl⟩
          rw [hNB]
          clear hNB
          generalize V11.alloc (.cells [.int .i64 0].toArray 51) = V14
          intro kk
          (refine Walk.go (i := 2) (o := { dst := some 22, op := Op.call { callee := Callee.value (Operand.func 25), args := #[Operand.tmp 21], argTypes := #[3] }, type := 51, pos := "law.go:74", after := #[{ on := 1, ground := Ground.data }], guard := none }) (by kernel_rfl) rfl (fun K hK => ?_); go_simp; ((go_at_call 25; refine (of_any _ _).mono ?_; rintro e z1 ⟨rfl, dd⟩; replace kk := kk.step dd; clear dd)); refine hK.out _ _ (⟨fun _ => (kk.get (b := w.heap.size) (t := 25) (c := tbl c pv) (by simp)).all, fun _ => trivial⟩) ?_; clear hK K; try simp only [Act.put, List.setIfInBounds_toArray, List.set_cons_zero, List.set_cons_succ])
          (refine Walk.go (i := 3) (o := { dst := some 23, op := Op.call { callee := Callee.value (Operand.func 27), args := #[Operand.tmp 20, Operand.tmp 22], argTypes := #[25, 51] }, type := 52, pos := "law.go:74", after := #[{ on := 0, ground := Ground.data }, { on := 2, ground := Ground.data }, { on := 2, ground := Ground.chain }], guard := none }) (by kernel_rfl) rfl (fun K hK => ?_); go_simp; ((go_at_call 27; refine (h5 c pv l _ hb hI _ (HV.out.but kk.but) hx hl (hT _ _ HT.out kk.but)).mono ?_; rintro e z2 ⟨rfl, dd⟩; rw [HNV.out.1, HNV.out.2]; replace kk := kk.step dd; clear dd)); refine hK.out _ _ (⟨fun _ => (kk.get (b := w.heap.size) (t := 25) (c := tbl c pv) (by simp)).all, fun _ => trivial⟩) ?_; clear hK K; try simp only [Act.put, List.setIfInBounds_toArray, List.set_cons_zero, List.set_cons_succ])
          (refine Walk.take (i := 4) (oi := { dst := some 19, op := Op.move (Operand.tmp 23), type := 52, pos := "law.go:74", after := #[{ on := 3, ground := Ground.data }], guard := none }) (v := ?_) rfl (by kernel_rfl) (by kernel_rfl) (by kernel_rfl) (by kernel_rfl) (fun _ _ _ h => h) (Or.inl ⟨by rfl, ?_⟩) ?_; rotate_left; (intro w hw; clear hw; (try go_split_ands); go_simp; try (with_reducible rfl)); simp only [Act.put, List.setIfInBounds_toArray, List.set_cons_zero, List.set_cons_succ])
          (refine Walk.take (i := 5) (oi := { dst := some 24, op := Op.extract (Operand.tmp 19) 0, type := 51, pos := "law.go:74", after := #[{ on := 4, ground := Ground.data }], guard := none }) (v := ?_) rfl (by kernel_rfl) (by kernel_rfl) (by kernel_rfl) (by kernel_rfl) (fun _ _ _ h => h) (Or.inl ⟨by rfl, ?_⟩) ?_; rotate_left; (intro w hw; clear hw; (try go_split_ands); go_simp; try (with_reducible rfl)); simp only [Act.put, List.setIfInBounds_toArray, List.set_cons_zero, List.set_cons_succ])
          (refine Walk.take (i := 6) (oi := { dst := some 25, op := Op.extract (Operand.tmp 19) 1, type := 51, pos := "law.go:74", after := #[{ on := 4, ground := Ground.data }, { on := 9, ground := Ground.gcOnly Departure.lateStores }], guard := none }) (v := ?_) rfl (by kernel_rfl) (by kernel_rfl) (by kernel_rfl) (by kernel_rfl) (fun _ _ _ h => h) (Or.inl ⟨by rfl, ?_⟩) ?_; rotate_left; (intro w hw; clear hw; (try go_split_ands); go_simp; try (with_reducible rfl)); simp only [Act.put, List.setIfInBounds_toArray, List.set_cons_zero, List.set_cons_succ])
          replace kk := kk.swap
          have q0 := kk.head.at 0
          have f0 := kk.head.frozen 0
          simp only [List.getElem?_cons_zero] at q0
          (refine Walk.go (i := 9) (o := { dst := none, op := Op.store 51 (Operand.tmp 6) (Operand.tmp 24), type := 0, pos := "law.go:74", after := #[{ on := 7, ground := Ground.data }, { on := 5, ground := Ground.data }, { on := 3, ground := Ground.chain }, { on := 0, ground := Ground.phase }, { on := 1, ground := Ground.phase }, { on := 2, ground := Ground.phase }, { on := 3, ground := Ground.phase }, { on := 4, ground := Ground.phase }, { on := 5, ground := Ground.phase }, { on := 6, ground := Ground.textOnly Departure.lateStores }, { on := 7, ground := Ground.phase }, { on := 8, ground := Ground.phase }], guard := none }) (by kernel_rfl) rfl (fun K hK => ?_); go_simp; (replace kk := kk.set 0 (.int .i64 V); clear q0 f0); refine hK.out _ _ (⟨fun _ => (kk.get (b := w.heap.size) (t := 25) (c := tbl c pv) (by simp)).all, fun _ => trivial⟩) ?_; clear hK K; try simp only [Act.put, List.setIfInBounds_toArray, List.set_cons_zero, List.set_cons_succ])
          revert kk
          generalize z2.setCell ⟨NA, 0, none⟩ (.int .i64 V) = U9
          intro kk
          replace kk := kk.swap
          have q0 := kk.head.at 0
          have f0 := kk.head.frozen 0
          simp only [List.getElem?_cons_zero] at q0
          (refine Walk.go (i := 10) (o := { dst := none, op := Op.store 51 (Operand.tmp 7) (Operand.tmp 25), type := 0, pos := "law.go:74", after := #[{ on := 8, ground := Ground.data }, { on := 6, ground := Ground.data }, { on := 9, ground := Ground.chain }, { on := 0, ground := Ground.phase }, { on := 1, ground := Ground.phase }, { on := 2, ground := Ground.phase }, { on := 3, ground := Ground.phase }, { on := 4, ground := Ground.phase }, { on := 5, ground := Ground.phase }, { on := 6, ground := Ground.phase }, { on := 7, ground := Ground.phase }, { on := 8, ground := Ground.phase }, { on := 9, ground := Ground.phase }], guard := none }) (by kernel_rfl) rfl (fun K hK => ?_); go_simp; (replace kk := kk.set 0 (.int .i64 N); clear q0 f0); refine hK.out _ _ (⟨fun _ => (kk.get (b := w.heap.size) (t := 25) (c := tbl c pv) (by simp)).all, fun _ => trivial⟩) ?_; clear hK K; try simp only [Act.put, List.setIfInBounds_toArray, List.set_cons_zero, List.set_cons_succ])
          refine Walk.done (by kernel_rfl) ?_ _
          go_wp2_with fail
          go_meet
          case rel => exact ⟨_, _, rfl, rfl, kk.swap⟩
      · go_simp; (replace kk := kk.made 51 [.int .i64 0]); refine hK.out _ _ (⟨fun _ => (kk.get (b := w.heap.size) (t := 25) (c := tbl c pv) (by simp)).all, fun _ => trivial⟩) ?_; clear hK K; try simp only [Act.put, List.setIfInBounds_toArray, List.set_cons_zero, List.set_cons_succ]
        revert kk
        obtain ⟨NB, hNB⟩ : ∃ n, WG.heap.size = n := ⟨_, rfl⟩
        rw [hNB]
        clear hNB
        generalize WG.alloc (.cells [.int .i64 0].toArray 51) = V15
        intro kk
        refine Walk.both (i := 2) (j := 7) (oi := { dst := some 22, op := Op.call { callee := Callee.value (Operand.func 25), args := #[Operand.tmp 21], argTypes := #[3] }, type := 51, pos := "law.go:74", after := #[{ on := 1, ground := Ground.data }], guard := none }) (oj := { dst := some 6, op := Op.alloc 51, type := 0, pos := "law.go:74", after := #[], guard := none }) (by kernel_rfl) rfl rfl (fun K hK => ?_) (fun K hK => ?_)
        · go_simp; ((go_at_call 25; refine (of_any _ _).mono ?_; rintro e z1 ⟨rfl, dd⟩; replace kk := kk.step dd; clear dd)); refine hK.out _ _ (⟨fun _ => (kk.get (b := w.heap.size) (t := 25) (c := tbl c pv) (by simp)).all, fun _ => trivial⟩) ?_; clear hK K; try simp only [Act.put, List.setIfInBounds_toArray, List.set_cons_zero, List.set_cons_succ]
          refine Walk.both (i := 3) (j := 7) (oi := { dst := some 23, op := Op.call { callee := Callee.value (Operand.func 27), args := #[Operand.tmp 20, Operand.tmp 22], argTypes := #[25, 51] }, type := 52, pos := "law.go:74", after := #[{ on := 0, ground := Ground.data }, { on := 2, ground := Ground.data }, { on := 2, ground := Ground.chain }], guard := none }) (oj := { dst := some 6, op := Op.alloc 51, type := 0, pos := "law.go:74", after := #[], guard := none }) (by kernel_rfl) rfl rfl (fun K hK => ?_) (fun K hK => ?_)
          · go_simp; ((go_at_call 27; refine (h5 c pv l _ hb hI _ (HV.out.but kk.but) hx hl (hT _ _ HT.out kk.but)).mono ?_; rintro e z2 ⟨rfl, dd⟩; rw [HNV.out.1, HNV.out.2]; replace kk := kk.step dd; clear dd)); refine hK.out _ _ (⟨fun _ => (kk.get (b := w.heap.size) (t := 25) (c := tbl c pv) (by simp)).all, fun _ => trivial⟩) ?_; clear hK K; try simp only [Act.put, List.setIfInBounds_toArray, List.set_cons_zero, List.set_cons_succ]
            (refine Walk.take (i := 4) (oi := { dst := some 19, op := Op.move (Operand.tmp 23), type := 52, pos := "law.go:74", after := #[{ on := 3, ground := Ground.data }], guard := none }) (v := ?_) rfl (by kernel_rfl) (by kernel_rfl) (by kernel_rfl) (by kernel_rfl) (fun _ _ _ h => h) (Or.inl ⟨by rfl, ?_⟩) ?_; rotate_left; (intro w hw; clear hw; (try go_split_ands); go_simp; try (with_reducible rfl)); simp only [Act.put, List.setIfInBounds_toArray, List.set_cons_zero, List.set_cons_succ])
            (refine Walk.take (i := 5) (oi := { dst := some 24, op := Op.extract (Operand.tmp 19) 0, type := 51, pos := "law.go:74", after := #[{ on := 4, ground := Ground.data }], guard := none }) (v := ?_) rfl (by kernel_rfl) (by kernel_rfl) (by kernel_rfl) (by kernel_rfl) (fun _ _ _ h => h) (Or.inl ⟨by rfl, ?_⟩) ?_; rotate_left; (intro w hw; clear hw; (try go_split_ands); go_simp; try (with_reducible rfl)); simp only [Act.put, List.setIfInBounds_toArray, List.set_cons_zero, List.set_cons_succ])
            (refine Walk.take (i := 6) (oi := { dst := some 25, op := Op.extract (Operand.tmp 19) 1, type := 51, pos := "law.go:74", after := #[{ on := 4, ground := Ground.data }, { on := 9, ground := Ground.gcOnly Departure.lateStores }], guard := none }) (v := ?_) rfl (by kernel_rfl) (by kernel_rfl) (by kernel_rfl) (by kernel_rfl) (fun _ _ _ h => h) (Or.inl ⟨by rfl, ?_⟩) ?_; rotate_left; (intro w hw; clear hw; (try go_split_ands); go_simp; try (with_reducible rfl)); simp only [Act.put, List.setIfInBounds_toArray, List.set_cons_zero, List.set_cons_succ])
            (refine Walk.go (i := 7) (o := { dst := some 6, op := Op.alloc 51, type := 0, pos := "law.go:74", after := #[], guard := none }) (by kernel_rfl) rfl (fun K hK => ?_); go_simp; (replace kk := kk.made 51 [.int .i64 0]); refine hK.out _ _ (⟨fun _ => (kk.get (b := w.heap.size) (t := 25) (c := tbl c pv) (by simp)).all, fun _ => trivial⟩) ?_; clear hK K; try simp only [Act.put, List.setIfInBounds_toArray, List.set_cons_zero, List.set_cons_succ])
            revert kk
            obtain ⟨NA, hNA⟩ : ∃ n, z2.heap.size = n := ⟨_, rfl⟩
            rw [hNA]
            clear hNA
            generalize z2.alloc (.cells [.int .i64 0].toArray 51) = V16
            intro kk
            have q0 := kk.head.at 0
            have f0 := kk.head.frozen 0
            simp only [List.getElem?_cons_zero] at q0
            (refine Walk.go (i := 9) (o := { dst := none, op := Op.store 51 (Operand.tmp 6) (Operand.tmp 24), type := 0, pos := "law.go:74", after := #[{ on := 7, ground := Ground.data }, { on := 5, ground := Ground.data }, { on := 3, ground := Ground.chain }, { on := 0, ground := Ground.phase }, { on := 1, ground := Ground.phase }, { on := 2, ground := Ground.phase }, { on := 3, ground := Ground.phase }, { on := 4, ground := Ground.phase }, { on := 5, ground := Ground.phase }, { on := 6, ground := Ground.textOnly Departure.lateStores }, { on := 7, ground := Ground.phase }, { on := 8, ground := Ground.phase }], guard := none }) (by kernel_rfl) rfl (fun K hK => ?_); go_simp; (replace kk := kk.set 0 (.int .i64 V); clear q0 f0); refine hK.out _ _ (⟨fun _ => (kk.get (b := w.heap.size) (t := 25) (c := tbl c pv) (by simp)).all, fun _ => trivial⟩) ?_; clear hK K; try simp only [Act.put, List.setIfInBounds_toArray, List.set_cons_zero, List.set_cons_succ])
            revert kk
            generalize V16.setCell ⟨NA, 0, none⟩ (.int .i64 V) = U9
            intro kk
            replace kk := kk.swap
            have q0 := kk.head.at 0
            have f0 := kk.head.frozen 0
            simp only [List.getElem?_cons_zero] at q0
            (refine Walk.go (i := 10) (o := { dst := none, op := Op.store 51 (Operand.tmp 7) (Operand.tmp 25), type := 0, pos := "law.go:74", after := #[{ on := 8, ground := Ground.data }, { on := 6, ground := Ground.data }, { on := 9, ground := Ground.chain }, { on := 0, ground := Ground.phase }, { on := 1, ground := Ground.phase }, { on := 2, ground := Ground.phase }, { on := 3, ground := Ground.phase }, { on := 4, ground := Ground.phase }, { on := 5, ground := Ground.phase }, { on := 6, ground := Ground.phase }, { on := 7, ground := Ground.phase }, { on := 8, ground := Ground.phase }, { on := 9, ground := Ground.phase }], guard := none }) (by kernel_rfl) rfl (fun K hK => ?_); go_simp; (replace kk := kk.set 0 (.int .i64 N); clear q0 f0); refine hK.out _ _ (⟨fun _ => (kk.get (b := w.heap.size) (t := 25) (c := tbl c pv) (by simp)).all, fun _ => trivial⟩) ?_; clear hK K; try simp only [Act.put, List.setIfInBounds_toArray, List.set_cons_zero, List.set_cons_succ])
            refine Walk.done (by kernel_rfl) ?_ _
            go_wp2_with fail
            go_meet
            case rel => exact ⟨_, _, rfl, rfl, kk.swap⟩
          · go_simp; (replace kk := kk.made 51 [.int .i64 0]); refine hK.out _ _ (⟨fun _ => (kk.get (b := w.heap.size) (t := 25) (c := tbl c pv) (by simp)).all, fun _ => trivial⟩) ?_; clear hK K; try simp only [Act.put, List.setIfInBounds_toArray, List.set_cons_zero, List.set_cons_succ]
            revert kk
            obtain ⟨NA, hNA⟩ : ∃ n, z1.heap.size = n := ⟨_, rfl⟩
            rw [hNA]
            clear hNA
            generalize z1.alloc (.cells [.int .i64 0].toArray 51) = V17
            intro kk
            (refine Walk.go (i := 3) (o := { dst := some 23, op := Op.call { callee := Callee.value (Operand.func 27), args := #[Operand.tmp 20, Operand.tmp 22], argTypes := #[25, 51] }, type := 52, pos := "law.go:74", after := #[{ on := 0, ground := Ground.data }, { on := 2, ground := Ground.data }, { on := 2, ground := Ground.chain }], guard := none }) (by kernel_rfl) rfl (fun K hK => ?_); go_simp; ((go_at_call 27; refine (h5 c pv l _ hb hI _ (HV.out.but kk.but) hx hl (hT _ _ HT.out kk.but)).mono ?_; rintro e z2 ⟨rfl, dd⟩; rw [HNV.out.1, HNV.out.2]; replace kk := kk.step dd; clear dd)); refine hK.out _ _ (⟨fun _ => (kk.get (b := w.heap.size) (t := 25) (c := tbl c pv) (by simp)).all, fun _ => trivial⟩) ?_; clear hK K; try simp only [Act.put, List.setIfInBounds_toArray, List.set_cons_zero, List.set_cons_succ])
            (refine Walk.take (i := 4) (oi := { dst := some 19, op := Op.move (Operand.tmp 23), type := 52, pos := "law.go:74", after := #[{ on := 3, ground := Ground.data }], guard := none }) (v := ?_) rfl (by kernel_rfl) (by kernel_rfl) (by kernel_rfl) (by kernel_rfl) (fun _ _ _ h => h) (Or.inl ⟨by rfl, ?_⟩) ?_; rotate_left; (intro w hw; clear hw; (try go_split_ands); go_simp; try (with_reducible rfl)); simp only [Act.put, List.setIfInBounds_toArray, List.set_cons_zero, List.set_cons_succ])
            (refine Walk.take (i := 5) (oi := { dst := some 24, op := Op.extract (Operand.tmp 19) 0, type := 51, pos := "law.go:74", after := #[{ on := 4, ground := Ground.data }], guard := none }) (v := ?_) rfl (by kernel_rfl) (by kernel_rfl) (by kernel_rfl) (by kernel_rfl) (fun _ _ _ h => h) (Or.inl ⟨by rfl, ?_⟩) ?_; rotate_left; (intro w hw; clear hw; (try go_split_ands); go_simp; try (with_reducible rfl)); simp only [Act.put, List.setIfInBounds_toArray, List.set_cons_zero, List.set_cons_succ])
            (refine Walk.take (i := 6) (oi := { dst := some 25, op := Op.extract (Operand.tmp 19) 1, type := 51, pos := "law.go:74", after := #[{ on := 4, ground := Ground.data }, { on := 9, ground := Ground.gcOnly Departure.lateStores }], guard := none }) (v := ?_) rfl (by kernel_rfl) (by kernel_rfl) (by kernel_rfl) (by kernel_rfl) (fun _ _ _ h => h) (Or.inl ⟨by rfl, ?_⟩) ?_; rotate_left; (intro w hw; clear hw; (try go_split_ands); go_simp; try (with_reducible rfl)); simp only [Act.put, List.setIfInBounds_toArray, List.set_cons_zero, List.set_cons_succ])
            have q0 := kk.head.at 0
            have f0 := kk.head.frozen 0
            simp only [List.getElem?_cons_zero] at q0
            (refine Walk.go (i := 9) (o := { dst := none, op := Op.store 51 (Operand.tmp 6) (Operand.tmp 24), type := 0, pos := "law.go:74", after := #[{ on := 7, ground := Ground.data }, { on := 5, ground := Ground.data }, { on := 3, ground := Ground.chain }, { on := 0, ground := Ground.phase }, { on := 1, ground := Ground.phase }, { on := 2, ground := Ground.phase }, { on := 3, ground := Ground.phase }, { on := 4, ground := Ground.phase }, { on := 5, ground := Ground.phase }, { on := 6, ground := Ground.textOnly Departure.lateStores }, { on := 7, ground := Ground.phase }, { on := 8, ground := Ground.phase }], guard := none }) (by kernel_rfl) rfl (fun K hK => ?_); go_simp; (replace kk := kk.set 0 (.int .i64 V); clear q0 f0); refine hK.out _ _ (⟨fun _ => (kk.get (b := w.heap.size) (t := 25) (c := tbl c pv) (by simp)).all, fun _ => trivial⟩) ?_; clear hK K; try simp only [Act.put, List.setIfInBounds_toArray, List.set_cons_zero, List.set_cons_succ])
            revert kk
            generalize z2.setCell ⟨NA, 0, none⟩ (.int .i64 V) = U9
            intro kk
            replace kk := kk.swap
            have q0 := kk.head.at 0
            have f0 := kk.head.frozen 0
            simp only [List.getElem?_cons_zero] at q0
            (refine Walk.go (i := 10) (o := { dst := none, op := Op.store 51 (Operand.tmp 7) (Operand.tmp 25), type := 0, pos := "law.go:74", after := #[{ on := 8, ground := Ground.data }, { on := 6, ground := Ground.data }, { on := 9, ground := Ground.chain }, { on := 0, ground := Ground.phase }, { on := 1, ground := Ground.phase }, { on := 2, ground := Ground.phase }, { on := 3, ground := Ground.phase }, { on := 4, ground := Ground.phase }, { on := 5, ground := Ground.phase }, { on := 6, ground := Ground.phase }, { on := 7, ground := Ground.phase }, { on := 8, ground := Ground.phase }, { on := 9, ground := Ground.phase }], guard := none }) (by kernel_rfl) rfl (fun K hK => ?_); go_simp; (replace kk := kk.set 0 (.int .i64 N); clear q0 f0); refine hK.out _ _ (⟨fun _ => (kk.get (b := w.heap.size) (t := 25) (c := tbl c pv) (by simp)).all, fun _ => trivial⟩) ?_; clear hK K; try simp only [Act.put, List.setIfInBounds_toArray, List.set_cons_zero, List.set_cons_succ])
            refine Walk.done (by kernel_rfl) ?_ _
            go_wp2_with fail
            go_meet
            case rel => exact ⟨_, _, rfl, rfl, kk.swap⟩
        · go_simp; (replace kk := kk.made 51 [.int .i64 0]); refine hK.out _ _ (⟨fun _ => (kk.get (b := w.heap.size) (t := 25) (c := tbl c pv) (by simp)).all, fun _ => trivial⟩) ?_; clear hK K; try simp only [Act.put, List.setIfInBounds_toArray, List.set_cons_zero, List.set_cons_succ]
          revert kk
          obtain ⟨NA, hNA⟩ : ∃ n, V15.heap.size = n := ⟨_, rfl⟩
          rw [hNA]
          clear hNA
          generalize V15.alloc (.cells [.int .i64 0].toArray 51) = V18
          intro kk
          (refine Walk.go (i := 2) (o := { dst := some 22, op := Op.call { callee := Callee.value (Operand.func 25), args := #[Operand.tmp 21], argTypes := #[3] }, type := 51, pos := "law.go:74", after := #[{ on := 1, ground := Ground.data }], guard := none }) (by kernel_rfl) rfl (fun K hK => ?_); go_simp; ((go_at_call 25; refine (of_any _ _).mono ?_; rintro e z1 ⟨rfl, dd⟩; replace kk := kk.step dd; clear dd)); refine hK.out _ _ (⟨fun _ => (kk.get (b := w.heap.size) (t := 25) (c := tbl c pv) (by simp)).all, fun _ => trivial⟩) ?_; clear hK K; try simp only [Act.put, List.setIfInBounds_toArray, List.set_cons_zero, List.set_cons_succ])
          (refine Walk.go (i := 3) (o := { dst := some 23, op := Op.call { callee := Callee.value (Operand.func 27), args := #[Operand.tmp 20, Operand.tmp 22], argTypes := #[25, 51] }, type := 52, pos := "law.go:74", after := #[{ on := 0, ground := Ground.data }, { on := 2, ground := Ground.data }, { on := 2, ground := Ground.chain }], guard := none }) (by kernel_rfl) rfl (fun K hK => ?_); go_simp; ((go_at_call 27; refine (h5 c pv l _ hb hI _ (HV.out.but kk.but) hx hl (hT _ _ HT.out kk.but)).mono ?_; rintro e z2 ⟨rfl, dd⟩; rw [HNV.out.1, HNV.out.2]; replace kk := kk.step dd; clear dd)); refine hK.out _ _ (⟨fun _ => (kk.get (b := w.heap.size) (t := 25) (c := tbl c pv) (by simp)).all, fun _ => trivial⟩) ?_; clear hK K; try simp only [Act.put, List.setIfInBounds_toArray, List.set_cons_zero, List.set_cons_succ])
          (refine Walk.take (i := 4) (oi := { dst := some 19, op := Op.move (Operand.tmp 23), type := 52, pos := "law.go:74", after := #[{ on := 3, ground := Ground.data }], guard := none }) (v := ?_) rfl (by kernel_rfl) (by kernel_rfl) (by kernel_rfl) (by kernel_rfl) (fun _ _ _ h => h) (Or.inl ⟨by rfl, ?_⟩) ?_; rotate_left; (intro w hw; clear hw; (try go_split_ands); go_simp; try (with_reducible rfl)); simp only [Act.put, List.setIfInBounds_toArray, List.set_cons_zero, List.set_cons_succ])
          (refine Walk.take (i := 5) (oi := { dst := some 24, op := Op.extract (Operand.tmp 19) 0, type := 51, pos := "law.go:74", after := #[{ on := 4, ground := Ground.data }], guard := none }) (v := ?_) rfl (by kernel_rfl) (by kernel_rfl) (by kernel_rfl) (by kernel_rfl) (fun _ _ _ h => h) (Or.inl ⟨by rfl, ?_⟩) ?_; rotate_left; (intro w hw; clear hw; (try go_split_ands); go_simp; try (with_reducible rfl)); simp only [Act.put, List.setIfInBounds_toArray, List.set_cons_zero, List.set_cons_succ])
          (refine Walk.take (i := 6) (oi := { dst := some 25, op := Op.extract (Operand.tmp 19) 1, type := 51, pos := "law.go:74", after := #[{ on := 4, ground := Ground.data }, { on := 9, ground := Ground.gcOnly Departure.lateStores }], guard := none }) (v := ?_) rfl (by kernel_rfl) (by kernel_rfl) (by kernel_rfl) (by kernel_rfl) (fun _ _ _ h => h) (Or.inl ⟨by rfl, ?_⟩) ?_; rotate_left; (intro w hw; clear hw; (try go_split_ands); go_simp; try (with_reducible rfl)); simp only [Act.put, List.setIfInBounds_toArray, List.set_cons_zero, List.set_cons_succ])
          have q0 := kk.head.at 0
          have f0 := kk.head.frozen 0
          simp only [List.getElem?_cons_zero] at q0
          (refine Walk.go (i := 9) (o := { dst := none, op := Op.store 51 (Operand.tmp 6) (Operand.tmp 24), type := 0, pos := "law.go:74", after := #[{ on := 7, ground := Ground.data }, { on := 5, ground := Ground.data }, { on := 3, ground := Ground.chain }, { on := 0, ground := Ground.phase }, { on := 1, ground := Ground.phase }, { on := 2, ground := Ground.phase }, { on := 3, ground := Ground.phase }, { on := 4, ground := Ground.phase }, { on := 5, ground := Ground.phase }, { on := 6, ground := Ground.textOnly Departure.lateStores }, { on := 7, ground := Ground.phase }, { on := 8, ground := Ground.phase }], guard := none }) (by kernel_rfl) rfl (fun K hK => ?_); go_simp; (replace kk := kk.set 0 (.int .i64 V); clear q0 f0); refine hK.out _ _ (⟨fun _ => (kk.get (b := w.heap.size) (t := 25) (c := tbl c pv) (by simp)).all, fun _ => trivial⟩) ?_; clear hK K; try simp only [Act.put, List.setIfInBounds_toArray, List.set_cons_zero, List.set_cons_succ])
          revert kk
          generalize z2.setCell ⟨NA, 0, none⟩ (.int .i64 V) = U9
          intro kk
          replace kk := kk.swap
          have q0 := kk.head.at 0
          have f0 := kk.head.frozen 0
          simp only [List.getElem?_cons_zero] at q0
          (refine Walk.go (i := 10) (o := { dst := none, op := Op.store 51 (Operand.tmp 7) (Operand.tmp 25), type := 0, pos := "law.go:74", after := #[{ on := 8, ground := Ground.data }, { on := 6, ground := Ground.data }, { on := 9, ground := Ground.chain }, { on := 0, ground := Ground.phase }, { on := 1, ground := Ground.phase }, { on := 2, ground := Ground.phase }, { on := 3, ground := Ground.phase }, { on := 4, ground := Ground.phase }, { on := 5, ground := Ground.phase }, { on := 6, ground := Ground.phase }, { on := 7, ground := Ground.phase }, { on := 8, ground := Ground.phase }, { on := 9, ground := Ground.phase }], guard := none }) (by kernel_rfl) rfl (fun K hK => ?_); go_simp; (replace kk := kk.set 0 (.int .i64 N); clear q0 f0); refine hK.out _ _ (⟨fun _ => (kk.get (b := w.heap.size) (t := 25) (c := tbl c pv) (by simp)).all, fun _ => trivial⟩) ?_; clear hK K; try simp only [Act.put, List.setIfInBounds_toArray, List.set_cons_zero, List.set_cons_succ])
          refine Walk.done (by kernel_rfl) ?_ _
          go_wp2_with fail
          go_meet
          case rel => exact ⟨_, _, rfl, rfl, kk.swap⟩
    case rest =>
      clear kk
      obtain ⟨NA, NB, rfl, rfl, kk⟩ := hcut
      go_wp2_with fail
      replace kk := kk.drew
      refine wp_region_till (S := fun U => U.cell? ⟨NA, 0, none⟩ = some (.int .i64 V) ∧ U.cell? ⟨NB, 0, none⟩ = some (.int .i64 N) ∧ U.cell? ⟨CB, 1, none⟩ = some (.int .i64 V) ∧ U.cell? ⟨CB, 0, none⟩ = some (.int .i64 N)) (R := fun _ => True) (k := 100) (m := 100) (by kernel_rfl) ⟨(kk.get (b := NA) (t := 51) (c := [.int .i64 V]) (by simp)).at 0, (kk.get (b := NB) (t := 51) (c := [.int .i64 N]) (by simp)).at 0, (kk.get (b := CB) (t := 36) (c := [.int .i64 N, .int .i64 V]) (by simp)).at 1, (kk.get (b := CB) (t := 36) (c := [.int .i64 N, .int .i64 V]) (by simp)).at 0⟩ trivial ?_
      revert kk
      generalize wc.drew = WH
      intro kk
      (refine Walk.take (i := 0) (oi := { dst := some 26, op := Op.load 51 (Operand.tmp 6), type := 51, pos := "law.go:75", after := #[], guard := none }) (v := ?_) rfl (by kernel_rfl) (by kernel_rfl) (by kernel_rfl) (by kernel_rfl) (fun _ _ _ h => h) (Or.inl ⟨by rfl, ?_⟩) ?_; rotate_left; (intro w hw; have hS1 := hw.1 (by kernel_rfl); clear hw; (try dsimp only at hS1); (try go_split_ands); go_simp; try (with_reducible rfl)); simp only [Act.put, List.setIfInBounds_toArray, List.set_cons_zero, List.set_cons_succ])
      (refine Walk.take (i := 2) (oi := { dst := some 28, op := Op.fieldAddr 36 (Operand.tmp 5) 1, type := 0, pos := "law.go:75", after := #[], guard := none }) (v := ?_) rfl (by kernel_rfl) (by kernel_rfl) (by kernel_rfl) (by kernel_rfl) (fun _ _ _ h => h) (Or.inl ⟨by rfl, ?_⟩) ?_; rotate_left; (intro w hw; clear hw; (try go_split_ands); go_simp; try (with_reducible rfl)); simp only [Act.put, List.setIfInBounds_toArray, List.set_cons_zero, List.set_cons_succ])
      (refine Walk.take (i := 3) (oi := { dst := some 29, op := Op.load 3 (Operand.tmp 28), type := 3, pos := "law.go:75", after := #[{ on := 2, ground := Ground.data }], guard := none }) (v := ?_) rfl (by kernel_rfl) (by kernel_rfl) (by kernel_rfl) (by kernel_rfl) (fun _ _ _ h => h) (Or.inl ⟨by rfl, ?_⟩) ?_; rotate_left; (intro w hw; have hS1 := hw.1 (by kernel_rfl); clear hw; (try dsimp only at hS1); (try go_split_ands); go_simp; try (with_reducible rfl)); simp only [Act.put, List.setIfInBounds_toArray, List.set_cons_zero, List.set_cons_succ])
      (refine Walk.go (i := 1) (o := { dst := some 27, op := Op.call { callee := Callee.value (Operand.func 26), args := #[Operand.tmp 26, Operand.const (Value.pointer none)], argTypes := #[51, 62] }, type := 3, pos := "law.go:75", after := #[{ on := 0, ground := Ground.data }], guard := none }) (by kernel_rfl) rfl (fun K hK => ?_); go_simp; ((go_at_call 26; refine (tell_none _ _).mono ?_; rintro e v1 ⟨rfl, dd⟩; replace kk := kk.step dd; clear dd)); refine hK.out _ _ (⟨fun _ => ⟨(kk.get (b := NA) (t := 51) (c := [.int .i64 V]) (by simp)).at 0, (kk.get (b := NB) (t := 51) (c := [.int .i64 N]) (by simp)).at 0, (kk.get (b := CB) (t := 36) (c := [.int .i64 N, .int .i64 V]) (by simp)).at 1, (kk.get (b := CB) (t := 36) (c := [.int .i64 N, .int .i64 V]) (by simp)).at 0⟩, fun _ => trivial⟩) ?_; clear hK K; try simp only [Act.put, List.setIfInBounds_toArray, List.set_cons_zero, List.set_cons_succ])
      (refine Walk.take (i := 4) (oi := { dst := some 30, op := Op.binOp BinOp.eql 3 (Operand.tmp 27) (Operand.tmp 29) 3, type := 4, pos := "law.go:75", after := #[{ on := 1, ground := Ground.data }, { on := 3, ground := Ground.data }], guard := none }) (v := ?_) rfl (by kernel_rfl) (by kernel_rfl) (by kernel_rfl) (by kernel_rfl) (fun _ _ _ h => h) (Or.inl ⟨by rfl, ?_⟩) ?_; rotate_left; (intro w hw; clear hw; (try go_split_ands); go_simp; try (with_reducible rfl)); simp only [Act.put, List.setIfInBounds_toArray, List.set_cons_zero, List.set_cons_succ])
      (refine Walk.take (i := 5) (oi := { dst := some 31, op := Op.move (Operand.tmp 30), type := 4, pos := "law.go:75", after := #[{ on := 4, ground := Ground.data }, { on := 1, ground := Ground.chain }], guard := none }) (v := ?_) rfl (by kernel_rfl) (by kernel_rfl) (by kernel_rfl) (by kernel_rfl) (fun _ _ _ h => h) (Or.inl ⟨by rfl, ?_⟩) ?_; rotate_left; (intro w hw; clear hw; (try go_split_ands); go_simp; try (with_reducible rfl)); simp only [Act.put, List.setIfInBounds_toArray, List.set_cons_zero, List.set_cons_succ])
      (refine Walk.take (i := 6) (oi := { dst := some 32, op := Op.load 51 (Operand.tmp 7), type := 51, pos := "law.go:75", after := #[{ on := 5, ground := Ground.guard }], guard := some (5, true) }) (v := ?_) rfl (by kernel_rfl) (by kernel_rfl) (by kernel_rfl) (by kernel_rfl) (fun _ _ _ h => h) (Or.inl ⟨by rfl, ?_⟩) ?_; rotate_left; (intro w hw; have hS1 := hw.1 (by kernel_rfl); clear hw; (try dsimp only at hS1); (try go_split_ands); go_simp; try (with_reducible rfl)); simp only [Act.put, List.setIfInBounds_toArray, List.set_cons_zero, List.set_cons_succ])
      (refine Walk.take (i := 8) (oi := { dst := some 34, op := Op.fieldAddr 36 (Operand.tmp 5) 0, type := 0, pos := "law.go:75", after := #[{ on := 5, ground := Ground.guard }], guard := some (5, true) }) (v := ?_) rfl (by kernel_rfl) (by kernel_rfl) (by kernel_rfl) (by kernel_rfl) (fun _ _ _ h => h) (Or.inl ⟨by rfl, ?_⟩) ?_; rotate_left; (intro w hw; clear hw; (try go_split_ands); go_simp; try (with_reducible rfl)); simp only [Act.put, List.setIfInBounds_toArray, List.set_cons_zero, List.set_cons_succ])
      (refine Walk.take (i := 9) (oi := { dst := some 35, op := Op.load 3 (Operand.tmp 34), type := 3, pos := "law.go:75", after := #[{ on := 8, ground := Ground.data }, { on := 5, ground := Ground.guard }], guard := some (5, true) }) (v := ?_) rfl (by kernel_rfl) (by kernel_rfl) (by kernel_rfl) (by kernel_rfl) (fun _ _ _ h => h) (Or.inl ⟨by rfl, ?_⟩) ?_; rotate_left; (intro w hw; have hS1 := hw.1 (by kernel_rfl); clear hw; (try dsimp only at hS1); (try go_split_ands); go_simp; try (with_reducible rfl)); simp only [Act.put, List.setIfInBounds_toArray, List.set_cons_zero, List.set_cons_succ])
      (refine Walk.go (i := 7) (o := { dst := some 33, op := Op.call { callee := Callee.value (Operand.func 26), args := #[Operand.tmp 32, Operand.const (Value.pointer none)], argTypes := #[51, 62] }, type := 3, pos := "law.go:75", after := #[{ on := 6, ground := Ground.data }, { on := 5, ground := Ground.chain }, { on := 5, ground := Ground.guard }], guard := some (5, true) }) (by kernel_rfl) rfl (fun K hK => ?_); go_simp; ((go_at_call 26; refine (tell_none _ _).mono ?_; rintro e v2 ⟨rfl, dd⟩; replace kk := kk.step dd; clear dd)); refine hK.out _ _ (⟨fun _ => ⟨(kk.get (b := NA) (t := 51) (c := [.int .i64 V]) (by simp)).at 0, (kk.get (b := NB) (t := 51) (c := [.int .i64 N]) (by simp)).at 0, (kk.get (b := CB) (t := 36) (c := [.int .i64 N, .int .i64 V]) (by simp)).at 1, (kk.get (b := CB) (t := 36) (c := [.int .i64 N, .int .i64 V]) (by simp)).at 0⟩, fun _ => trivial⟩) ?_; clear hK K; try simp only [Act.put, List.setIfInBounds_toArray, List.set_cons_zero, List.set_cons_succ])
      (refine Walk.take (i := 10) (oi := { dst := some 36, op := Op.binOp BinOp.eql 3 (Operand.tmp 33) (Operand.tmp 35) 3, type := 4, pos := "law.go:75", after := #[{ on := 7, ground := Ground.data }, { on := 9, ground := Ground.data }, { on := 5, ground := Ground.guard }], guard := some (5, true) }) (v := ?_) rfl (by kernel_rfl) (by kernel_rfl) (by kernel_rfl) (by kernel_rfl) (fun _ _ _ h => h) (Or.inl ⟨by rfl, ?_⟩) ?_; rotate_left; (intro w hw; clear hw; (try go_split_ands); go_simp; try (with_reducible rfl)); simp only [Act.put, List.setIfInBounds_toArray, List.set_cons_zero, List.set_cons_succ])
      (refine Walk.take (i := 11) (oi := { dst := some 37, op := Op.pick (Operand.tmp 31) (Operand.tmp 36) (Operand.const (Value.bool false)), type := 4, pos := "law.go:75", after := #[{ on := 5, ground := Ground.data }, { on := 10, ground := Ground.data }], guard := none }) (v := ?_) rfl (by kernel_rfl) (by kernel_rfl) (by kernel_rfl) (by kernel_rfl) (fun _ _ _ h => h) (Or.inl ⟨by rfl, ?_⟩) ?_; rotate_left; (intro w hw; clear hw; (try go_split_ands); go_simp; try (with_reducible rfl)); simp only [Act.put, List.setIfInBounds_toArray, List.set_cons_zero, List.set_cons_succ])
      (refine Walk.take (i := 12) (oi := { dst := some 4, op := Op.assign (Operand.tmp 37), type := 4, pos := "law.go:75", after := #[{ on := 11, ground := Ground.data }, { on := 7, ground := Ground.chain }, { on := 0, ground := Ground.phase }, { on := 1, ground := Ground.phase }, { on := 2, ground := Ground.phase }, { on := 3, ground := Ground.phase }, { on := 4, ground := Ground.phase }, { on := 5, ground := Ground.phase }, { on := 6, ground := Ground.phase }, { on := 7, ground := Ground.phase }, { on := 8, ground := Ground.phase }, { on := 9, ground := Ground.phase }, { on := 10, ground := Ground.phase }, { on := 11, ground := Ground.phase }], guard := none }) (v := ?_) rfl (by kernel_rfl) (by kernel_rfl) (by kernel_rfl) (by kernel_rfl) (fun _ _ _ h => h) (Or.inl ⟨by rfl, ?_⟩) ?_; rotate_left; (intro w hw; clear hw; (try go_split_ands); go_simp; try (with_reducible rfl)); simp only [Act.put, List.setIfInBounds_toArray, List.set_cons_zero, List.set_cons_succ])
      refine Walk.done (by kernel_rfl) ?_ _
      go_wp2_with fail
      go_ret
      exact ⟨rfl, kk.but⟩
  · have HNV : Hid (codVI c l b = 0 ∧ codNI c l b = 0) := by
      unfold codVI codNI
      rw [if_neg hin, if_neg hin]
      exact ⟨rfl, rfl⟩
    rw [hCB] at kk
    by_cases h0 : b < 0
    · have d0 : ¬ 0 ≤ b := by omega
      clear hin
      go_enter Try.func16, Try.ntmps16
      go_upto_region 4 with fail
      revert kk
      generalize ((w.alloc (.cells (tbl c pv).toArray 25)).alloc (.cells #[.int .i64 0, .int .i64 0] 36)) = W2
      intro kk
      go_cut [6, 7] from 19 to 25 (fun s r V' => ∃ NA NB, s = .pointer (some ⟨NA, 0, none⟩) ∧ r = .pointer (some ⟨NB, 0, none⟩) ∧ Keep w V' [(NA, 51, [.int .i64 0]), (NB, 51, [.int .i64 0]), (CB, 36, [.int .i64 0, .int .i64 0]), (w.heap.size, 25, tbl c pv)])
      case first =>
        replace kk := kk.drew
        refine wp_region_till (S := fun V => V.rangeAt w.heap.size 0 (tbl c pv)) (R := fun _ => True) (k := 100) (m := 100) (by kernel_rfl) ((kk.get (b := w.heap.size) (t := 25) (c := tbl c pv) (by simp)).all) trivial ?_
        revert kk
        generalize W2.drew = WG
        intro kk
        (refine Walk.take (i := 0) (oi := { dst := some 20, op := Op.load 25 (Operand.tmp 2), type := 25, pos := "law.go:74", after := #[], guard := none }) (v := .agg (tbl c pv).toArray) rfl (by kernel_rfl) (by kernel_rfl) (by kernel_rfl) (by kernel_rfl) (fun _ _ _ h => h) (yieldsIf_load_mid rfl 25 (.tmp 2) rfl (w.heap.size) 0 rfl (tbl c pv) _ (fun w hw => (hw.1 (by kernel_rfl))) huT rfl (hiT)) ?_; simp only [Act.put, List.setIfInBounds_toArray, List.set_cons_zero, List.set_cons_succ])
        (refine Walk.take (i := 1) (oi := { dst := some 21, op := Op.move (Operand.tmp 1), type := 3, pos := "law.go:74", after := #[], guard := none }) (v := ?_) rfl (by kernel_rfl) (by kernel_rfl) (by kernel_rfl) (by kernel_rfl) (fun _ _ _ h => h) (Or.inl ⟨by rfl, ?_⟩) ?_; rotate_left; (intro w hw; clear hw; (try go_split_ands); go_simp; try (with_reducible rfl)); simp only [Act.put, List.setIfInBounds_toArray, List.set_cons_zero, List.set_cons_succ])
        refine Walk.three (i := 2) (j := 7) (l := 8) (oi := { dst := some 22, op := Op.call { callee := Callee.value (Operand.func 25), args := #[Operand.tmp 21], argTypes := #[3] }, type := 51, pos := "law.go:74", after := #[{ on := 1, ground := Ground.data }], guard := none }) (oj := { dst := some 6, op := Op.alloc 51, type := 0, pos := "law.go:74", after := #[], guard := none }) (ol := { dst := some 7, op := Op.alloc 51, type := 0, pos := "law.go:74", after := #[], guard := none }) (by kernel_rfl) rfl rfl rfl (fun K hK => ?_) (fun K hK => ?_) (fun K hK => ?_)
        · go_simp; ((go_at_call 25; refine (of_any _ _).mono ?_; rintro e z1 ⟨rfl, dd⟩; replace kk := kk.step dd; clear dd)); refine hK.out _ _ (⟨fun _ => (kk.get (b := w.heap.size) (t := 25) (c := tbl c pv) (by simp)).all, fun _ => trivial⟩) ?_; clear hK K; try simp only [Act.put, List.setIfInBounds_toArray, List.set_cons_zero, List.set_cons_succ]
          refine Walk.three (i := 3) (j := 7) (l := 8) (oi := { dst := some 23, op := Op.call { callee := Callee.value (Operand.func 27), args := #[Operand.tmp 20, Operand.tmp 22], argTypes := #[25, 51] }, type := 52, pos := "law.go:74", after := #[{ on := 0, ground := Ground.data }, { on := 2, ground := Ground.data }, { on := 2, ground := Ground.chain }], guard := none }) (oj := { dst := some 6, op := Op.alloc 51, type := 0, pos := "law.go:74", after := #[], guard := none }) (ol := { dst := some 7, op := Op.alloc 51, type := 0, pos := "law.go:74", after := #[], guard := none }) (by kernel_rfl) rfl rfl rfl (fun K hK => ?_) (fun K hK => ?_) (fun K hK => ?_)
          · go_simp; ((go_at_call 27; refine (h5 c pv l _ hb hI _ (HV.out.but kk.but) hx hl (hT _ _ HT.out kk.but)).mono ?_; rintro e z2 ⟨rfl, dd⟩; rw [HNV.out.1, HNV.out.2]; replace kk := kk.step dd; clear dd)); refine hK.out _ _ (⟨fun _ => (kk.get (b := w.heap.size) (t := 25) (c := tbl c pv) (by simp)).all, fun _ => trivial⟩) ?_; clear hK K; try simp only [Act.put, List.setIfInBounds_toArray, List.set_cons_zero, List.set_cons_succ]
            (refine Walk.take (i := 4) (oi := { dst := some 19, op := Op.move (Operand.tmp 23), type := 52, pos := "law.go:74", after := #[{ on := 3, ground := Ground.data }], guard := none }) (v := ?_) rfl (by kernel_rfl) (by kernel_rfl) (by kernel_rfl) (by kernel_rfl) (fun _ _ _ h => h) (Or.inl ⟨by rfl, ?_⟩) ?_; rotate_left; (intro w hw; clear hw; (try go_split_ands); go_simp; try (with_reducible rfl)); simp only [Act.put, List.setIfInBounds_toArray, List.set_cons_zero, List.set_cons_succ])
            (refine Walk.take (i := 5) (oi := { dst := some 24, op := Op.extract (Operand.tmp 19) 0, type := 51, pos := "law.go:74", after := #[{ on := 4, ground := Ground.data }], guard := none }) (v := ?_) rfl (by kernel_rfl) (by kernel_rfl) (by kernel_rfl) (by kernel_rfl) (fun _ _ _ h => h) (Or.inl ⟨by rfl, ?_⟩) ?_; rotate_left; (intro w hw; clear hw; (try go_split_ands); go_simp; try (with_reducible rfl)); simp only [Act.put, List.setIfInBounds_toArray, List.set_cons_zero, List.set_cons_succ])
            (refine Walk.take (i := 6) (oi := { dst := some 25, op := Op.extract (Operand.tmp 19) 1, type := 51, pos := "law.go:74", after := #[{ on := 4, ground := Ground.data }, { on := 9, ground := Ground.gcOnly Departure.lateStores }], guard := none }) (v := ?_) rfl (by kernel_rfl) (by kernel_rfl) (by kernel_rfl) (by kernel_rfl) (fun _ _ _ h => h) (Or.inl ⟨by rfl, ?_⟩) ?_; rotate_left; (intro w hw; clear hw; (try go_split_ands); go_simp; try (with_reducible rfl)); simp only [Act.put, List.setIfInBounds_toArray, List.set_cons_zero, List.set_cons_succ])
            refine Walk.both (i := 7) (j := 8) (oi := { dst := some 6, op := Op.alloc 51, type := 0, pos := "law.go:74", after := #[], guard := none }) (oj := { dst := some 7, op := Op.alloc 51, type := 0, pos := "law.go:74", after := #[], guard := none }) (by kernel_rfl) rfl rfl (fun K hK => ?_) (fun K hK => ?_)
            · go_simp; (replace kk := kk.made 51 [.int .i64 0]); refine hK.out _ _ (⟨fun _ => (kk.get (b := w.heap.size) (t := 25) (c := tbl c pv) (by simp)).all, fun _ => trivial⟩) ?_; clear hK K; try simp only [Act.put, List.setIfInBounds_toArray, List.set_cons_zero, List.set_cons_succ]
              revert kk
              obtain ⟨NA, hNA⟩ : ∃ n, z2.heap.size = n := ⟨_, rfl⟩
              rw [hNA]
              clear hNA
              generalize z2.alloc (.cells [.int .i64 0].toArray 51) = V1
              intro kk
              (refine Walk.go (i := 8) (o := { dst := some 7, op := Op.alloc 51, type := 0, pos := "law.go:74", after := #[], guard := none }) (by kernel_rfl) rfl (fun K hK => ?_); go_simp; (replace kk := kk.made 51 [.int .i64 0]); refine hK.out _ _ (⟨fun _ => (kk.get (b := w.heap.size) (t := 25) (c := tbl c pv) (by simp)).all, fun _ => trivial⟩) ?_; clear hK K; try simp only [Act.put, List.setIfInBounds_toArray, List.set_cons_zero, List.set_cons_succ])
              revert kk
              obtain ⟨NB, hNB⟩ : ∃ n, V1.heap.size = n := ⟨_, rfl⟩
              rw [hNB]
              clear hNB
              generalize V1.alloc (.cells [.int .i64 0].toArray 51) = V2
              intro kk
              replace kk := kk.swap
              have q0 := kk.head.at 0
              have f0 := kk.head.frozen 0
              simp only [List.getElem?_cons_zero] at q0
              (refine Walk.go (i := 9) (o := { dst := none, op := Op.store 51 (Operand.tmp 6) (Operand.tmp 24), type := 0, pos := "law.go:74", after := #[{ on := 7, ground := Ground.data }, { on := 5, ground := Ground.data }, { on := 3, ground := Ground.chain }, { on := 0, ground := Ground.phase }, { on := 1, ground := Ground.phase }, { on := 2, ground := Ground.phase }, { on := 3, ground := Ground.phase }, { on := 4, ground := Ground.phase }, { on := 5, ground := Ground.phase }, { on := 6, ground := Ground.textOnly Departure.lateStores }, { on := 7, ground := Ground.phase }, { on := 8, ground := Ground.phase }], guard := none }) (by kernel_rfl) rfl (fun K hK => ?_); go_simp; (replace kk := kk.set 0 (.int .i64 0); clear q0 f0); refine hK.out _ _ (⟨fun _ => (kk.get (b := w.heap.size) (t := 25) (c := tbl c pv) (by simp)).all, fun _ => trivial⟩) ?_; clear hK K; try simp only [Act.put, List.setIfInBounds_toArray, List.set_cons_zero, List.set_cons_succ])
              revert kk
              generalize V2.setCell ⟨NA, 0, none⟩ (.int .i64 0) = U9
              intro kk
              replace kk := kk.swap
              have q0 := kk.head.at 0
              have f0 := kk.head.frozen 0
              simp only [List.getElem?_cons_zero] at q0
              (refine Walk.go (i := 10) (o := { dst := none, op := Op.store 51 (Operand.tmp 7) (Operand.tmp 25), type := 0, pos := "law.go:74", after := #[{ on := 8, ground := Ground.data }, { on := 6, ground := Ground.data }, { on := 9, ground := Ground.chain }, { on := 0, ground := Ground.phase }, { on := 1, ground := Ground.phase }, { on := 2, ground := Ground.phase }, { on := 3, ground := Ground.phase }, { on := 4, ground := Ground.phase }, { on := 5, ground := Ground.phase }, { on := 6, ground := Ground.phase }, { on := 7, ground := Ground.phase }, { on := 8, ground := Ground.phase }, { on := 9, ground := Ground.phase }], guard := none }) (by kernel_rfl) rfl (fun K hK => ?_); go_simp; (replace kk := kk.set 0 (.int .i64 0); clear q0 f0); refine hK.out _ _ (⟨fun _ => (kk.get (b := w.heap.size) (t := 25) (c := tbl c pv) (by simp)).all, fun _ => trivial⟩) ?_; clear hK K; try simp only [Act.put, List.setIfInBounds_toArray, List.set_cons_zero, List.set_cons_succ])
              refine Walk.done (by kernel_rfl) ?_ _
              go_wp2_with fail
              go_meet
              case rel => exact ⟨_, _, rfl, rfl, kk.swap⟩
            · go_simp; (replace kk := kk.made 51 [.int .i64 0]); refine hK.out _ _ (⟨fun _ => (kk.get (b := w.heap.size) (t := 25) (c := tbl c pv) (by simp)).all, fun _ => trivial⟩) ?_; clear hK K; try simp only [Act.put, List.setIfInBounds_toArray, List.set_cons_zero, List.set_cons_succ]
              revert kk
              obtain ⟨NB, hNB⟩ : ∃ n, z2.heap.size = n := ⟨_, rfl⟩
              rw [hNB]
              clear hNB
              generalize z2.alloc (.cells [.int .i64 0].toArray 51) = V3
              intro kk
              (refine Walk.go (i := 7) (o := { dst := some 6, op := Op.alloc 51, type := 0, pos := "law.go:74", after := #[], guard := none }) (by kernel_rfl) rfl (fun K hK => ?_); go_simp; (replace kk := kk.made 51 [.int .i64 0]); refine hK.out _ _ (⟨fun _ => (kk.get (b := w.heap.size) (t := 25) (c := tbl c pv) (by simp)).all, fun _ => trivial⟩) ?_; clear hK K; try simp only [Act.put, List.setIfInBounds_toArray, List.set_cons_zero, List.set_cons_succ])
              revert kk
              obtain ⟨NA, hNA⟩ : ∃ n, V3.heap.size = n := ⟨_, rfl⟩
              rw [hNA]
              clear hNA
              generalize V3.alloc (.cells [.int .i64 0].toArray 51) = V4
              intro kk
              have q0 := kk.head.at 0
              have f0 := kk.head.frozen 0
              simp only [List.getElem?_cons_zero] at q0
              (refine Walk.go (i := 9) (o := { dst := none, op := Op.store 51 (Operand.tmp 6) (Operand.tmp 24), type := 0, pos := "law.go:74", after := #[{ on := 7, ground := Ground.data }, { on := 5, ground := Ground.data }, { on := 3, ground := Ground.chain }, { on := 0, ground := Ground.phase }, { on := 1, ground := Ground.phase }, { on := 2, ground := Ground.phase }, { on := 3, ground := Ground.phase }, { on := 4, ground := Ground.phase }, { on := 5, ground := Ground.phase }, { on := 6, ground := Ground.textOnly Departure.lateStores }, { on := 7, ground := Ground.phase }, { on := 8, ground := Ground.phase }], guard := none }) (by kernel_rfl) rfl (fun K hK => ?_); go_simp; (replace kk := kk.set 0 (.int .i64 0); clear q0 f0); refine hK.out _ _ (⟨fun _ => (kk.get (b := w.heap.size) (t := 25) (c := tbl c pv) (by simp)).all, fun _ => trivial⟩) ?_; clear hK K; try simp only [Act.put, List.setIfInBounds_toArray, List.set_cons_zero, List.set_cons_succ])
              revert kk
              generalize V4.setCell ⟨NA, 0, none⟩ (.int .i64 0) = U9
              intro kk
              replace kk := kk.swap
              have q0 := kk.head.at 0
              have f0 := kk.head.frozen 0
              simp only [List.getElem?_cons_zero] at q0
              (refine Walk.go (i := 10) (o := { dst := none, op := Op.store 51 (Operand.tmp 7) (Operand.tmp 25), type := 0, pos := "law.go:74", after := #[{ on := 8, ground := Ground.data }, { on := 6, ground := Ground.data }, { on := 9, ground := Ground.chain }, { on := 0, ground := Ground.phase }, { on := 1, ground := Ground.phase }, { on := 2, ground := Ground.phase }, { on := 3, ground := Ground.phase }, { on := 4, ground := Ground.phase }, { on := 5, ground := Ground.phase }, { on := 6, ground := Ground.phase }, { on := 7, ground := Ground.phase }, { on := 8, ground := Ground.phase }, { on := 9, ground := Ground.phase }], guard := none }) (by kernel_rfl) rfl (fun K hK => ?_); go_simp; (replace kk := kk.set 0 (.int .i64 0); clear q0 f0); refine hK.out _ _ (⟨fun _ => (kk.get (b := w.heap.size) (t := 25) (c := tbl c pv) (by simp)).all, fun _ => trivial⟩) ?_; clear hK K; try simp only [Act.put, List.setIfInBounds_toArray, List.set_cons_zero, List.set_cons_succ])
              refine Walk.done (by kernel_rfl) ?_ _
              go_wp2_with fail
              go_meet
              case rel => exact ⟨_, _, rfl, rfl, kk.swap⟩
          · go_simp; (replace kk := kk.made 51 [.int .i64 0]); refine hK.out _ _ (⟨fun _ => (kk.get (b := w.heap.size) (t := 25) (c := tbl c pv) (by simp)).all, fun _ => trivial⟩) ?_; clear hK K; try simp only [Act.put, List.setIfInBounds_toArray, List.set_cons_zero, List.set_cons_succ]
            revert kk
            obtain ⟨NA, hNA⟩ : ∃ n, z1.heap.size = n := ⟨_, rfl⟩
            rw [hNA]
            clear hNA
            generalize z1.alloc (.cells [.int .i64 0].toArray 51) = V5
            intro kk
            refine Walk.both (i := 3) (j := 8) (oi := { dst := some 23, op := Op.call { callee := Callee.value (Operand.func 27), args := #[Operand.tmp 20, Operand.tmp 22], argTypes := #[25, 51] }, type := 52, pos := "law.go:74", after := #[{ on := 0, ground := Ground.data }, { on := 2, ground := Ground.data }, { on := 2, ground := Ground.chain }], guard := none }) (oj := { dst := some 7, op := Op.alloc 51, type := 0, pos := "law.go:74", after := #[], guard := none }) (by kernel_rfl) rfl rfl (fun K hK => ?_) (fun K hK => ?_)
            · go_simp; ((go_at_call 27; refine (h5 c pv l _ hb hI _ (HV.out.but kk.but) hx hl (hT _ _ HT.out kk.but)).mono ?_; rintro e z2 ⟨rfl, dd⟩; rw [HNV.out.1, HNV.out.2]; replace kk := kk.step dd; clear dd)); refine hK.out _ _ (⟨fun _ => (kk.get (b := w.heap.size) (t := 25) (c := tbl c pv) (by simp)).all, fun _ => trivial⟩) ?_; clear hK K; try simp only [Act.put, List.setIfInBounds_toArray, List.set_cons_zero, List.set_cons_succ]
              (refine Walk.take (i := 4) (oi := { dst := some 19, op := Op.move (Operand.tmp 23), type := 52, pos := "law.go:74", after := #[{ on := 3, ground := Ground.data }], guard := none }) (v := ?_) rfl (by kernel_rfl) (by kernel_rfl) (by kernel_rfl) (by kernel_rfl) (fun _ _ _ h => h) (Or.inl ⟨by rfl, ?_⟩) ?_; rotate_left; (intro w hw; clear hw; (try go_split_ands); go_simp; try (with_reducible rfl)); simp only [Act.put, List.setIfInBounds_toArray, List.set_cons_zero, List.set_cons_succ])
              (refine Walk.take (i := 5) (oi := { dst := some 24, op := Op.extract (Operand.tmp 19) 0, type := 51, pos := "law.go:74", after := #[{ on := 4, ground := Ground.data }], guard := none }) (v := ?_) rfl (by kernel_rfl) (by kernel_rfl) (by kernel_rfl) (by kernel_rfl) (fun _ _ _ h => h) (Or.inl ⟨by rfl, ?_⟩) ?_; rotate_left; (intro w hw; clear hw; (try go_split_ands); go_simp; try (with_reducible rfl)); simp only [Act.put, List.setIfInBounds_toArray, List.set_cons_zero, List.set_cons_succ])
              (refine Walk.take (i := 6) (oi := { dst := some 25, op := Op.extract (Operand.tmp 19) 1, type := 51, pos := "law.go:74", after := #[{ on := 4, ground := Ground.data }, { on := 9, ground := Ground.gcOnly Departure.lateStores }], guard := none }) (v := ?_) rfl (by kernel_rfl) (by kernel_rfl) (by kernel_rfl) (by kernel_rfl) (fun _ _ _ h => h) (Or.inl ⟨by rfl, ?_⟩) ?_; rotate_left; (intro w hw; clear hw; (try go_split_ands); go_simp; try (with_reducible rfl)); simp only [Act.put, List.setIfInBounds_toArray, List.set_cons_zero, List.set_cons_succ])
              (refine Walk.go (i := 8) (o := { dst := some 7, op := Op.alloc 51, type := 0, pos := "law.go:74", after := #[], guard := none }) (by kernel_rfl) rfl (fun K hK => ?_); go_simp; (replace kk := kk.made 51 [.int .i64 0]); refine hK.out _ _ (⟨fun _ => (kk.get (b := w.heap.size) (t := 25) (c := tbl c pv) (by simp)).all, fun _ => trivial⟩) ?_; clear hK K; try simp only [Act.put, List.setIfInBounds_toArray, List.set_cons_zero, List.set_cons_succ])
              revert kk
              obtain ⟨NB, hNB⟩ : ∃ n, z2.heap.size = n := ⟨_, rfl⟩
              rw [hNB]
              clear hNB
              generalize z2.alloc (.cells [.int .i64 0].toArray 51) = V6
              intro kk
              replace kk := kk.swap
              have q0 := kk.head.at 0
              have f0 := kk.head.frozen 0
              simp only [List.getElem?_cons_zero] at q0
              (refine Walk.go (i := 9) (o := { dst := none, op := Op.store 51 (Operand.tmp 6) (Operand.tmp 24), type := 0, pos := "law.go:74", after := #[{ on := 7, ground := Ground.data }, { on := 5, ground := Ground.data }, { on := 3, ground := Ground.chain }, { on := 0, ground := Ground.phase }, { on := 1, ground := Ground.phase }, { on := 2, ground := Ground.phase }, { on := 3, ground := Ground.phase }, { on := 4, ground := Ground.phase }, { on := 5, ground := Ground.phase }, { on := 6, ground := Ground.textOnly Departure.lateStores }, { on := 7, ground := Ground.phase }, { on := 8, ground := Ground.phase }], guard := none }) (by kernel_rfl) rfl (fun K hK => ?_); go_simp; (replace kk := kk.set 0 (.int .i64 0); clear q0 f0); refine hK.out _ _ (⟨fun _ => (kk.get (b := w.heap.size) (t := 25) (c := tbl c pv) (by simp)).all, fun _ => trivial⟩) ?_; clear hK K; try simp only [Act.put, List.setIfInBounds_toArray, List.set_cons_zero, List.set_cons_succ])
              revert kk
              generalize V6.setCell ⟨NA, 0, none⟩ (.int .i64 0) = U9
              intro kk
              replace kk := kk.swap
              have q0 := kk.head.at 0
              have f0 := kk.head.frozen 0
              simp only [List.getElem?_cons_zero] at q0
              (refine Walk.go (i := 10) (o := { dst := none, op := Op.store 51 (Operand.tmp 7) (Operand.tmp 25), type := 0, pos := "law.go:74", after := #[{ on := 8, ground := Ground.data }, { on := 6, ground := Ground.data }, { on := 9, ground := Ground.chain }, { on := 0, ground := Ground.phase }, { on := 1, ground := Ground.phase }, { on := 2, ground := Ground.phase }, { on := 3, ground := Ground.phase }, { on := 4, ground := Ground.phase }, { on := 5, ground := Ground.phase }, { on := 6, ground := Ground.phase }, { on := 7, ground := Ground.phase }, { on := 8, ground := Ground.phase }, { on := 9, ground := Ground.phase }], guard := none }) (by kernel_rfl) rfl (fun K hK => ?_); go_simp; (replace kk := kk.set 0 (.int .i64 0); clear q0 f0); refine hK.out _ _ (⟨fun _ => (kk.get (b := w.heap.size) (t := 25) (c := tbl c pv) (by simp)).all, fun _ => trivial⟩) ?_; clear hK K; try simp only [Act.put, List.setIfInBounds_toArray, List.set_cons_zero, List.set_cons_succ])
              refine Walk.done (by kernel_rfl) ?_ _
              go_wp2_with fail
              go_meet
              case rel => exact ⟨_, _, rfl, rfl, kk.swap⟩
            · go_simp; (replace kk := kk.made 51 [.int .i64 0]); refine hK.out _ _ (⟨fun _ => (kk.get (b := w.heap.size) (t := 25) (c := tbl c pv) (by simp)).all, fun _ => trivial⟩) ?_; clear hK K; try simp only [Act.put, List.setIfInBounds_toArray, List.set_cons_zero, List.set_cons_succ]
              revert kk
              obtain ⟨NB, hNB⟩ : ∃ n, V5.heap.size = n := ⟨_, rfl⟩
              rw [hNB]
              clear hNB
              generalize V5.alloc (.cells [.int .i64 0].toArray 51) = V7
              intro kk
              (refine Walk.go (i := 3) (o := { dst := some 23, op := Op.call { callee := Callee.value (Operand.func 27), args := #[Operand.tmp 20, Operand.tmp 22], argTypes := #[25, 51] }, type := 52, pos := "law.go:74", after := #[{ on := 0, ground := Ground.data }, { on := 2, ground := Ground.data }, { on := 2, ground := Ground.chain }], guard := none }) (by kernel_rfl) rfl (fun K hK => ?_); go_simp; ((go_at_call 27; refine (h5 c pv l _ hb hI _ (HV.out.but kk.but) hx hl (hT _ _ HT.out kk.but)).mono ?_; rintro e z2 ⟨rfl, dd⟩; rw [HNV.out.1, HNV.out.2]; replace kk := kk.step dd; clear dd)); refine hK.out _ _ (⟨fun _ => (kk.get (b := w.heap.size) (t := 25) (c := tbl c pv) (by simp)).all, fun _ => trivial⟩) ?_; clear hK K; try simp only [Act.put, List.setIfInBounds_toArray, List.set_cons_zero, List.set_cons_succ])
              (refine Walk.take (i := 4) (oi := { dst := some 19, op := Op.move (Operand.tmp 23), type := 52, pos := "law.go:74", after := #[{ on := 3, ground := Ground.data }], guard := none }) (v := ?_) rfl (by kernel_rfl) (by kernel_rfl) (by kernel_rfl) (by kernel_rfl) (fun _ _ _ h => h) (Or.inl ⟨by rfl, ?_⟩) ?_; rotate_left; (intro w hw; clear hw; (try go_split_ands); go_simp; try (with_reducible rfl)); simp only [Act.put, List.setIfInBounds_toArray, List.set_cons_zero, List.set_cons_succ])
              (refine Walk.take (i := 5) (oi := { dst := some 24, op := Op.extract (Operand.tmp 19) 0, type := 51, pos := "law.go:74", after := #[{ on := 4, ground := Ground.data }], guard := none }) (v := ?_) rfl (by kernel_rfl) (by kernel_rfl) (by kernel_rfl) (by kernel_rfl) (fun _ _ _ h => h) (Or.inl ⟨by rfl, ?_⟩) ?_; rotate_left; (intro w hw; clear hw; (try go_split_ands); go_simp; try (with_reducible rfl)); simp only [Act.put, List.setIfInBounds_toArray, List.set_cons_zero, List.set_cons_succ])
              (refine Walk.take (i := 6) (oi := { dst := some 25, op := Op.extract (Operand.tmp 19) 1, type := 51, pos := "law.go:74", after := #[{ on := 4, ground := Ground.data }, { on := 9, ground := Ground.gcOnly Departure.lateStores }], guard := none }) (v := ?_) rfl (by kernel_rfl) (by kernel_rfl) (by kernel_rfl) (by kernel_rfl) (fun _ _ _ h => h) (Or.inl ⟨by rfl, ?_⟩) ?_; rotate_left; (intro w hw; clear hw; (try go_split_ands); go_simp; try (with_reducible rfl)); simp only [Act.put, List.setIfInBounds_toArray, List.set_cons_zero, List.set_cons_succ])
              replace kk := kk.swap
              have q0 := kk.head.at 0
              have f0 := kk.head.frozen 0
              simp only [List.getElem?_cons_zero] at q0
              (refine Walk.go (i := 9) (o := { dst := none, op := Op.store 51 (Operand.tmp 6) (Operand.tmp 24), type := 0, pos := "law.go:74", after := #[{ on := 7, ground := Ground.data }, { on := 5, ground := Ground.data }, { on := 3, ground := Ground.chain }, { on := 0, ground := Ground.phase }, { on := 1, ground := Ground.phase }, { on := 2, ground := Ground.phase }, { on := 3, ground := Ground.phase }, { on := 4, ground := Ground.phase }, { on := 5, ground := Ground.phase }, { on := 6, ground := Ground.textOnly Departure.lateStores }, { on := 7, ground := Ground.phase }, { on := 8, ground := Ground.phase }], guard := none }) (by kernel_rfl) rfl (fun K hK => ?_); go_simp; (replace kk := kk.set 0 (.int .i64 0); clear q0 f0); refine hK.out _ _ (⟨fun _ => (kk.get (b := w.heap.size) (t := 25) (c := tbl c pv) (by simp)).all, fun _ => trivial⟩) ?_; clear hK K; try simp only [Act.put, List.setIfInBounds_toArray, List.set_cons_zero, List.set_cons_succ])
              revert kk
              generalize z2.setCell ⟨NA, 0, none⟩ (.int .i64 0) = U9
              intro kk
              replace kk := kk.swap
              have q0 := kk.head.at 0
              have f0 := kk.head.frozen 0
              simp only [List.getElem?_cons_zero] at q0
              (refine Walk.go (i := 10) (o := { dst := none, op := Op.store 51 (Operand.tmp 7) (Operand.tmp 25), type := 0, pos := "law.go:74", after := #[{ on := 8, ground := Ground.data }, { on := 6, ground := Ground.data }, { on := 9, ground := Ground.chain }, { on := 0, ground := Ground.phase }, { on := 1, ground := Ground.phase }, { on := 2, ground := Ground.phase }, { on := 3, ground := Ground.phase }, { on := 4, ground := Ground.phase }, { on := 5, ground := Ground.phase }, { on := 6, ground := Ground.phase }, { on := 7, ground := Ground.phase }, { on := 8, ground := Ground.phase }, { on := 9, ground := Ground.phase }], guard := none }) (by kernel_rfl) rfl (fun K hK => ?_); go_simp; (replace kk := kk.set 0 (.int .i64 0); clear q0 f0); refine hK.out _ _ (⟨fun _ => (kk.get (b := w.heap.size) (t := 25) (c := tbl c pv) (by simp)).all, fun _ => trivial⟩) ?_; clear hK K; try simp only [Act.put, List.setIfInBounds_toArray, List.set_cons_zero, List.set_cons_succ])
              refine Walk.done (by kernel_rfl) ?_ _
              go_wp2_with fail
              go_meet
              case rel => exact ⟨_, _, rfl, rfl, kk.swap⟩
          · go_simp; (replace kk := kk.made 51 [.int .i64 0]); refine hK.out _ _ (⟨fun _ => (kk.get (b := w.heap.size) (t := 25) (c := tbl c pv) (by simp)).all, fun _ => trivial⟩) ?_; clear hK K; try simp only [Act.put, List.setIfInBounds_toArray, List.set_cons_zero, List.set_cons_succ]
            revert kk
            obtain ⟨NB, hNB⟩ : ∃ n, z1.heap.size = n := ⟨_, rfl⟩
            rw [hNB]
            clear hNB
            generalize z1.alloc (.cells [.int .i64 0].toArray 51) = V8
            intro kk
            refine Walk.both (i := 3) (j := 7) (oi := { dst := some 23, op := Op.call { callee := Callee.value (Operand.func 27), args := #[Operand.tmp 20, Operand.tmp 22], argTypes := #[25, 51] }, type := 52, pos := "law.go:74", after := #[{ on := 0, ground := Ground.data }, { on := 2, ground := Ground.data }, { on := 2, ground := Ground.chain }], guard := none }) (oj := { dst := some 6, op := Op.alloc 51, type := 0, pos := "law.go:74", after := #[], guard := none }) (by kernel_rfl) rfl rfl (fun K hK => ?_) (fun K hK => ?_)
            · go_simp; ((go_at_call 27; refine (h5 c pv l _ hb hI _ (HV.out.but kk.but) hx hl (hT _ _ HT.out kk.but)).mono ?_; rintro e z2 ⟨rfl, dd⟩; rw [HNV.out.1, HNV.out.2]; replace kk := kk.step dd; clear dd)); refine hK.out _ _ (⟨fun _ => (kk.get (b := w.heap.size) (t := 25) (c := tbl c pv) (by simp)).all, fun _ => trivial⟩) ?_; clear hK K; try simp only [Act.put, List.setIfInBounds_toArray, List.set_cons_zero, List.set_cons_succ]
              (refine Walk.take (i := 4) (oi := { dst := some 19, op := Op.move (Operand.tmp 23), type := 52, pos := "law.go:74", after := #[{ on := 3, ground := Ground.data }], guard := none }) (v := ?_) rfl (by kernel_rfl) (by kernel_rfl) (by kernel_rfl) (by kernel_rfl) (fun _ _ _ h => h) (Or.inl ⟨by rfl, ?_⟩) ?_; rotate_left; (intro w hw; clear hw; (try go_split_ands); go_simp; try (with_reducible rfl)); simp only [Act.put, List.setIfInBounds_toArray, List.set_cons_zero, List.set_cons_succ])
              (refine Walk.take (i := 5) (oi := { dst := some 24, op := Op.extract (Operand.tmp 19) 0, type := 51, pos := "law.go:74", after := #[{ on := 4, ground := Ground.data }], guard := none }) (v := ?_) rfl (by kernel_rfl) (by kernel_rfl) (by kernel_rfl) (by kernel_rfl) (fun _ _ _ h => h) (Or.inl ⟨by rfl, ?_⟩) ?_; rotate_left; (intro w hw; clear hw; (try go_split_ands); go_simp; try (with_reducible rfl)); simp only [Act.put, List.setIfInBounds_toArray, List.set_cons_zero, List.set_cons_succ])
              (refine Walk.take (i := 6) (oi := { dst := some 25, op := Op.extract (Operand.tmp 19) 1, type := 51, pos := "law.go:74", after := #[{ on := 4, ground := Ground.data }, { on := 9, ground := Ground.gcOnly Departure.lateStores }], guard := none }) (v := ?_) rfl (by kernel_rfl) (by kernel_rfl) (by kernel_rfl) (by kernel_rfl) (fun _ _ _ h => h) (Or.inl ⟨by rfl, ?_⟩) ?_; rotate_left; (intro w hw; clear hw; (try go_split_ands); go_simp; try (with_reducible rfl)); simp only [Act.put, List.setIfInBounds_toArray, List.set_cons_zero, List.set_cons_succ])
              (refine Walk.go (i := 7) (o := { dst := some 6, op := Op.alloc 51, type := 0, pos := "law.go:74", after := #[], guard := none }) (by kernel_rfl) rfl (fun K hK => ?_); go_simp; (replace kk := kk.made 51 [.int .i64 0]); refine hK.out _ _ (⟨fun _ => (kk.get (b := w.heap.size) (t := 25) (c := tbl c pv) (by simp)).all, fun _ => trivial⟩) ?_; clear hK K; try simp only [Act.put, List.setIfInBounds_toArray, List.set_cons_zero, List.set_cons_succ])
              revert kk
              obtain ⟨NA, hNA⟩ : ∃ n, z2.heap.size = n := ⟨_, rfl⟩
              rw [hNA]
              clear hNA
              generalize z2.alloc (.cells [.int .i64 0].toArray 51) = V9
              intro kk
              have q0 := kk.head.at 0
              have f0 := kk.head.frozen 0
              simp only [List.getElem?_cons_zero] at q0
              (refine Walk.go (i := 9) (o := { dst := none, op := Op.store 51 (Operand.tmp 6) (Operand.tmp 24), type := 0, pos := "law.go:74", after := #[{ on := 7, ground := Ground.data }, { on := 5, ground := Ground.data }, { on := 3, ground := Ground.chain }, { on := 0, ground := Ground.phase }, { on := 1, ground := Ground.phase }, { on := 2, ground := Ground.phase }, { on := 3, ground := Ground.phase }, { on := 4, ground := Ground.phase }, { on := 5, ground := Ground.phase }, { on := 6, ground := Ground.textOnly Departure.lateStores }, { on := 7, ground := Ground.phase }, { on := 8, ground := Ground.phase }], guard := none }) (by kernel_rfl) rfl (fun K hK => ?_); go_simp; (replace kk := kk.set 0 (.int .i64 0); clear q0 f0); refine hK.out _ _ (⟨fun _ => (kk.get (b := w.heap.size) (t := 25) (c := tbl c pv) (by simp)).all, fun _ => trivial⟩) ?_; clear hK K; try simp only [Act.put, List.setIfInBounds_toArray, List.set_cons_zero, List.set_cons_succ])
              revert kk
              generalize V9.setCell ⟨NA, 0, none⟩ (.int .i64 0) = U9
              intro kk
              replace kk := kk.swap
              have q0 := kk.head.at 0
              have f0 := kk.head.frozen 0
              simp only [List.getElem?_cons_zero] at q0
              (refine Walk.go (i := 10) (o := { dst := none, op := Op.store 51 (Operand.tmp 7) (Operand.tmp 25), type := 0, pos := "law.go:74", after := #[{ on := 8, ground := Ground.data }, { on := 6, ground := Ground.data }, { on := 9, ground := Ground.chain }, { on := 0, ground := Ground.phase }, { on := 1, ground := Ground.phase }, { on := 2, ground := Ground.phase }, { on := 3, ground := Ground.phase }, { on := 4, ground := Ground.phase }, { on := 5, ground := Ground.phase }, { on := 6, ground := Ground.phase }, { on := 7, ground := Ground.phase }, { on := 8, ground := Ground.phase }, { on := 9, ground := Ground.phase }], guard := none }) (by kernel_rfl) rfl (fun K hK => ?_); go_simp; (replace kk := kk.set 0 (.int .i64 0); clear q0 f0); refine hK.out _ _ (⟨fun _ => (kk.get (b := w.heap.size) (t := 25) (c := tbl c pv) (by simp)).all, fun _ => trivial⟩) ?_; clear hK K; try simp only [Act.put, List.setIfInBounds_toArray, List.set_cons_zero, List.set_cons_succ])
              refine Walk.done (by kernel_rfl) ?_ _
              go_wp2_with fail
              go_meet
              case rel => exact ⟨_, _, rfl, rfl, kk.swap⟩
            · go_simp; (replace kk := kk.made 51 [.int .i64 0]); refine hK.out _ _ (⟨fun _ => (kk.get (b := w.heap.size) (t := 25) (c := tbl c pv) (by simp)).all, fun _ => trivial⟩) ?_; clear hK K; try simp only [Act.put, List.setIfInBounds_toArray, List.set_cons_zero, List.set_cons_succ]
              revert kk
              obtain ⟨NA, hNA⟩ : ∃ n, V8.heap.size = n := ⟨_, rfl⟩
              rw [hNA]
              clear hNA
              generalize V8.alloc (.cells [.int .i64 0].toArray 51) = V10
              intro kk
              (refine Walk.go (i := 3) (o := { dst := some 23, op := Op.call { callee := Callee.value (Operand.func 27), args := #[Operand.tmp 20, Operand.tmp 22], argTypes := #[25, 51] }, type := 52, pos := "law.go:74", after := #[{ on := 0, ground := Ground.data }, { on := 2, ground := Ground.data }, { on := 2, ground := Ground.chain }], guard := none }) (by kernel_rfl) rfl (fun K hK => ?_); go_simp; ((go_at_call 27; refine (h5 c pv l _ hb hI _ (HV.out.but kk.but) hx hl (hT _ _ HT.out kk.but)).mono ?_; rintro e z2 ⟨rfl, dd⟩; rw [HNV.out.1, HNV.out.2]; replace kk := kk.step dd; clear dd)); refine hK.out _ _ (⟨fun _ => (kk.get (b := w.heap.size) (t := 25) (c := tbl c pv) (by simp)).all, fun _ => trivial⟩) ?_; clear hK K; try simp only [Act.put, List.setIfInBounds_toArray, List.set_cons_zero, List.set_cons_succ])
              (refine Walk.take (i := 4) (oi := { dst := some 19, op := Op.move (Operand.tmp 23), type := 52, pos := "law.go:74", after := #[{ on := 3, ground := Ground.data }], guard := none }) (v := ?_) rfl (by kernel_rfl) (by kernel_rfl) (by kernel_rfl) (by kernel_rfl) (fun _ _ _ h => h) (Or.inl ⟨by rfl, ?_⟩) ?_; rotate_left; (intro w hw; clear hw; (try go_split_ands); go_simp; try (with_reducible rfl)); simp only [Act.put, List.setIfInBounds_toArray, List.set_cons_zero, List.set_cons_succ])
              (refine Walk.take (i := 5) (oi := { dst := some 24, op := Op.extract (Operand.tmp 19) 0, type := 51, pos := "law.go:74", after := #[{ on := 4, ground := Ground.data }], guard := none }) (v := ?_) rfl (by kernel_rfl) (by kernel_rfl) (by kernel_rfl) (by kernel_rfl) (fun _ _ _ h => h) (Or.inl ⟨by rfl, ?_⟩) ?_; rotate_left; (intro w hw; clear hw; (try go_split_ands); go_simp; try (with_reducible rfl)); simp only [Act.put, List.setIfInBounds_toArray, List.set_cons_zero, List.set_cons_succ])
              (refine Walk.take (i := 6) (oi := { dst := some 25, op := Op.extract (Operand.tmp 19) 1, type := 51, pos := "law.go:74", after := #[{ on := 4, ground := Ground.data }, { on := 9, ground := Ground.gcOnly Departure.lateStores }], guard := none }) (v := ?_) rfl (by kernel_rfl) (by kernel_rfl) (by kernel_rfl) (by kernel_rfl) (fun _ _ _ h => h) (Or.inl ⟨by rfl, ?_⟩) ?_; rotate_left; (intro w hw; clear hw; (try go_split_ands); go_simp; try (with_reducible rfl)); simp only [Act.put, List.setIfInBounds_toArray, List.set_cons_zero, List.set_cons_succ])
              have q0 := kk.head.at 0
              have f0 := kk.head.frozen 0
              simp only [List.getElem?_cons_zero] at q0
              (refine Walk.go (i := 9) (o := { dst := none, op := Op.store 51 (Operand.tmp 6) (Operand.tmp 24), type := 0, pos := "law.go:74", after := #[{ on := 7, ground := Ground.data }, { on := 5, ground := Ground.data }, { on := 3, ground := Ground.chain }, { on := 0, ground := Ground.phase }, { on := 1, ground := Ground.phase }, { on := 2, ground := Ground.phase }, { on := 3, ground := Ground.phase }, { on := 4, ground := Ground.phase }, { on := 5, ground := Ground.phase }, { on := 6, ground := Ground.textOnly Departure.lateStores }, { on := 7, ground := Ground.phase }, { on := 8, ground := Ground.phase }], guard := none }) (by kernel_rfl) rfl (fun K hK => ?_); go_simp; (replace kk := kk.set 0 (.int .i64 0); clear q0 f0); refine hK.out _ _ (⟨fun _ => (kk.get (b := w.heap.size) (t := 25) (c := tbl c pv) (by simp)).all, fun _ => trivial⟩) ?_; clear hK K; try simp only [Act.put, List.setIfInBounds_toArray, List.set_cons_zero, List.set_cons_succ])
              revert kk
              generalize z2.setCell ⟨NA, 0, none⟩ (.int .i64 0) = U9
              intro kk
              replace kk := kk.swap
              have q0 := kk.head.at 0
              have f0 := kk.head.frozen 0
              simp only [List.getElem?_cons_zero] at q0
              (refine Walk.go (i := 10) (o := { dst := none, op := Op.store 51 (Operand.tmp 7) (Operand.tmp 25), type := 0, pos := "law.go:74", after := #[{ on := 8, ground := Ground.data }, { on := 6, ground := Ground.data }, { on := 9, ground := Ground.chain }, { on := 0, ground := Ground.phase }, { on := 1, ground := Ground.phase }, { on := 2, ground := Ground.phase }, { on := 3, ground := Ground.phase }, { on := 4, ground := Ground.phase }, { on := 5, ground := Ground.phase }, { on := 6, ground := Ground.phase }, { on := 7, ground := Ground.phase }, { on := 8, ground := Ground.phase }, { on := 9, ground := Ground.phase }], guard := none }) (by kernel_rfl) rfl (fun K hK => ?_); go_simp; (replace kk := kk.set 0 (.int .i64 0); clear q0 f0); refine hK.out _ _ (⟨fun _ => (kk.get (b := w.heap.size) (t := 25) (c := tbl c pv) (by simp)).all, fun _ => trivial⟩) ?_; clear hK K; try simp only [Act.put, List.setIfInBounds_toArray, List.set_cons_zero, List.set_cons_succ])
              refine Walk.done (by kernel_rfl) ?_ _
              go_wp2_with fail
              go_meet
              case rel => exact ⟨_, _, rfl, rfl, kk.swap⟩
        · go_simp; (replace kk := kk.made 51 [.int .i64 0]); refine hK.out _ _ (⟨fun _ => (kk.get (b := w.heap.size) (t := 25) (c := tbl c pv) (by simp)).all, fun _ => trivial⟩) ?_; clear hK K; try simp only [Act.put, List.setIfInBounds_toArray, List.set_cons_zero, List.set_cons_succ]
          revert kk
          obtain ⟨NA, hNA⟩ : ∃ n, WG.heap.size = n := ⟨_, rfl⟩
          rw [hNA]
          clear hNA
          generalize WG.alloc (.cells [.int .i64 0].toArray 51) = V11
          intro kk
          refine Walk.both (i := 2) (j := 8) (oi := { dst := some 22, op := Op.call { callee := Callee.value (Operand.func 25), args := #[Operand.tmp 21], argTypes := #[3] }, type := 51, pos := "law.go:74", after := #[{ on := 1, ground := Ground.data }], guard := none }) (oj := { dst := some 7, op := Op.alloc 51, type := 0, pos := "law.go:74", after := #[], guard := none }) (by kernel_rfl) rfl rfl (fun K hK => ?_) (fun K hK => ?_)
          · go_simp; ((go_at_call 25; refine (of_any _ _).mono ?_; rintro e z1 ⟨rfl, dd⟩; replace kk := kk.step dd; clear dd)); refine hK.out _ _ (⟨fun _ => (kk.get (b := w.heap.size) (t := 25) (c := tbl c pv) (by simp)).all, fun _ => trivial⟩) ?_; clear hK K; try simp only [Act.put, List.setIfInBounds_toArray, List.set_cons_zero, List.set_cons_succ]
            refine Walk.both (i := 3) (j := 8) (oi := { dst := some 23, op := Op.call { callee := Callee.value (Operand.func 27), args := #[Operand.tmp 20, Operand.tmp 22], argTypes := #[25, 51] }, type := 52, pos := "law.go:74", after := #[{ on := 0, ground := Ground.data }, { on := 2, ground := Ground.data }, { on := 2, ground := Ground.chain }], guard := none }) (oj := { dst := some 7, op := Op.alloc 51, type := 0, pos := "law.go:74", after := #[], guard := none }) (by kernel_rfl) rfl rfl (fun K hK => ?_) (fun K hK => ?_)
            · go_simp; ((go_at_call 27; refine (h5 c pv l _ hb hI _ (HV.out.but kk.but) hx hl (hT _ _ HT.out kk.but)).mono ?_; rintro e z2 ⟨rfl, dd⟩; rw [HNV.out.1, HNV.out.2]; replace kk := kk.step dd; clear dd)); refine hK.out _ _ (⟨fun _ => (kk.get (b := w.heap.size) (t := 25) (c := tbl c pv) (by simp)).all, fun _ => trivial⟩) ?_; clear hK K; try simp only [Act.put, List.setIfInBounds_toArray, List.set_cons_zero, List.set_cons_succ]
              (refine Walk.take (i := 4) (oi := { dst := some 19, op := Op.move (Operand.tmp 23), type := 52, pos := "law.go:74", after := #[{ on := 3, ground := Ground.data }], guard := none }) (v := ?_) rfl (by kernel_rfl) (by kernel_rfl) (by kernel_rfl) (by kernel_rfl) (fun _ _ _ h => h) (Or.inl ⟨by rfl, ?_⟩) ?_; rotate_left; (intro w hw; clear hw; (try go_split_ands); go_simp; try (with_reducible rfl)); simp only [Act.put, List.setIfInBounds_toArray, List.set_cons_zero, List.set_cons_succ])
              (refine Walk.take (i := 5) (oi := { dst := some 24, op := Op.extract (Operand.tmp 19) 0, type := 51, pos := "law.go:74", after := #[{ on := 4, ground := Ground.data }], guard := none }) (v := ?_) rfl (by kernel_rfl) (by kernel_rfl) (by kernel_rfl) (by kernel_rfl) (fun _ _ _ h => h) (Or.inl ⟨by rfl, ?_⟩) ?_; rotate_left; (intro w hw; clear hw; (try go_split_ands); go_simp; try (with_reducible rfl)); simp only [Act.put, List.setIfInBounds_toArray, List.set_cons_zero, List.set_cons_succ])
              (refine Walk.take (i := 6) (oi := { dst := some 25, op := Op.extract (Operand.tmp 19) 1, type := 51, pos := "law.go:74", after := #[{ on := 4, ground := Ground.data }, { on := 9, ground := Ground.gcOnly Departure.lateStores }], guard := none }) (v := ?_) rfl (by kernel_rfl) (by kernel_rfl) (by kernel_rfl) (by kernel_rfl) (fun _ _ _ h => h) (Or.inl ⟨by rfl, ?_⟩) ?_; rotate_left; (intro w hw; clear hw; (try go_split_ands); go_simp; try (with_reducible rfl)); simp only [Act.put, List.setIfInBounds_toArray, List.set_cons_zero, List.set_cons_succ])
              (refine Walk.go (i := 8) (o := { dst := some 7, op := Op.alloc 51, type := 0, pos := "law.go:74", after := #[], guard := none }) (by kernel_rfl) rfl (fun K hK => ?_); go_simp; (replace kk := kk.made 51 [.int .i64 0]); refine hK.out _ _ (⟨fun _ => (kk.get (b := w.heap.size) (t := 25) (c := tbl c pv) (by simp)).all, fun _ => trivial⟩) ?_; clear hK K; try simp only [Act.put, List.setIfInBounds_toArray, List.set_cons_zero, List.set_cons_succ])
              revert kk
              obtain ⟨NB, hNB⟩ : ∃ n, z2.heap.size = n := ⟨_, rfl⟩
              rw [hNB]
              clear hNB
              generalize z2.alloc (.cells [.int .i64 0].toArray 51) = V12
              intro kk
              replace kk := kk.swap
              have q0 := kk.head.at 0
              have f0 := kk.head.frozen 0
              simp only [List.getElem?_cons_zero] at q0
              (refine Walk.go (i := 9) (o := { dst := none, op := Op.store 51 (Operand.tmp 6) (Operand.tmp 24), type := 0, pos := "law.go:74", after := #[{ on := 7, ground := Ground.data }, { on := 5, ground := Ground.data }, { on := 3, ground := Ground.chain }, { on := 0, ground := Ground.phase }, { on := 1, ground := Ground.phase }, { on := 2, ground := Ground.phase }, { on := 3, ground := Ground.phase }, { on := 4, ground := Ground.phase }, { on := 5, ground := Ground.phase }, { on := 6, ground := Ground.textOnly Departure.lateStores }, { on := 7, ground := Ground.phase }, { on := 8, ground := Ground.phase }], guard := none }) (by kernel_rfl) rfl (fun K hK => ?_); go_simp; (replace kk := kk.set 0 (.int .i64 0); clear q0 f0); refine hK.out _ _ (⟨fun _ => (kk.get (b := w.heap.size) (t := 25) (c := tbl c pv) (by simp)).all, fun _ => trivial⟩) ?_; clear hK K; try simp only [Act.put, List.setIfInBounds_toArray, List.set_cons_zero, List.set_cons_succ])
              revert kk
              generalize V12.setCell ⟨NA, 0, none⟩ (.int .i64 0) = U9
              intro kk
              replace kk := kk.swap
              have q0 := kk.head.at 0
              have f0 := kk.head.frozen 0
              simp only [List.getElem?_cons_zero] at q0
              (refine Walk.go (i := 10) (o := { dst := none, op := Op.store 51 (Operand.tmp 7) (Operand.tmp 25), type := 0, pos := "law.go:74", after := #[{ on := 8, ground := Ground.data }, { on := 6, ground := Ground.data }, { on := 9, ground := Ground.chain }, { on := 0, ground := Ground.phase }, { on := 1, ground := Ground.phase }, { on := 2, ground := Ground.phase }, { on := 3, ground := Ground.phase }, { on := 4, ground := Ground.phase }, { on := 5, ground := Ground.phase }, { on := 6, ground := Ground.phase }, { on := 7, ground := Ground.phase }, { on := 8, ground := Ground.phase }, { on := 9, ground := Ground.phase }], guard := none }) (by kernel_rfl) rfl (fun K hK => ?_); go_simp; (replace kk := kk.set 0 (.int .i64 0); clear q0 f0); refine hK.out _ _ (⟨fun _ => (kk.get (b := w.heap.size) (t := 25) (c := tbl c pv) (by simp)).all, fun _ => trivial⟩) ?_; clear hK K; try simp only [Act.put, List.setIfInBounds_toArray, List.set_cons_zero, List.set_cons_succ])
              refine Walk.done (by kernel_rfl) ?_ _
              go_wp2_with fail
              go_meet
              case rel => exact ⟨_, _, rfl, rfl, kk.swap⟩
            · go_simp; (replace kk := kk.made 51 [.int .i64 0]); refine hK.out _ _ (⟨fun _ => (kk.get (b := w.heap.size) (t := 25) (c := tbl c pv) (by simp)).all, fun _ => trivial⟩) ?_; clear hK K; try simp only [Act.put, List.setIfInBounds_toArray, List.set_cons_zero, List.set_cons_succ]
              revert kk
              obtain ⟨NB, hNB⟩ : ∃ n, z1.heap.size = n := ⟨_, rfl⟩
              rw [hNB]
              clear hNB
              generalize z1.alloc (.cells [.int .i64 0].toArray 51) = V13
              intro kk
              (refine Walk.go (i := 3) (o := { dst := some 23, op := Op.call { callee := Callee.value (Operand.func 27), args := #[Operand.tmp 20, Operand.tmp 22], argTypes := #[25, 51] }, type := 52, pos := "law.go:74", after := #[{ on := 0, ground := Ground.data }, { on := 2, ground := Ground.data }, { on := 2, ground := Ground.chain }], guard := none }) (by kernel_rfl) rfl (fun K hK => ?_); go_simp; ((go_at_call 27; refine (h5 c pv l _ hb hI _ (HV.out.but kk.but) hx hl (hT _ _ HT.out kk.but)).mono ?_; rintro e z2 ⟨rfl, dd⟩; rw [HNV.out.1, HNV.out.2]; replace kk := kk.step dd; clear dd)); refine hK.out _ _ (⟨fun _ => (kk.get (b := w.heap.size) (t := 25) (c := tbl c pv) (by simp)).all, fun _ => trivial⟩) ?_; clear hK K; try simp only [Act.put, List.setIfInBounds_toArray, List.set_cons_zero, List.set_cons_succ])
              (refine Walk.take (i := 4) (oi := { dst := some 19, op := Op.move (Operand.tmp 23), type := 52, pos := "law.go:74", after := #[{ on := 3, ground := Ground.data }], guard := none }) (v := ?_) rfl (by kernel_rfl) (by kernel_rfl) (by kernel_rfl) (by kernel_rfl) (fun _ _ _ h => h) (Or.inl ⟨by rfl, ?_⟩) ?_; rotate_left; (intro w hw; clear hw; (try go_split_ands); go_simp; try (with_reducible rfl)); simp only [Act.put, List.setIfInBounds_toArray, List.set_cons_zero, List.set_cons_succ])
              (refine Walk.take (i := 5) (oi := { dst := some 24, op := Op.extract (Operand.tmp 19) 0, type := 51, pos := "law.go:74", after := #[{ on := 4, ground := Ground.data }], guard := none }) (v := ?_) rfl (by kernel_rfl) (by kernel_rfl) (by kernel_rfl) (by kernel_rfl) (fun _ _ _ h => h) (Or.inl ⟨by rfl, ?_⟩) ?_; rotate_left; (intro w hw; clear hw; (try go_split_ands); go_simp; try (with_reducible rfl)); simp only [Act.put, List.setIfInBounds_toArray, List.set_cons_zero, List.set_cons_succ])
              (refine Walk.take (i := 6) (oi := { dst := some 25, op := Op.extract (Operand.tmp 19) 1, type := 51, pos := "law.go:74", after := #[{ on := 4, ground := Ground.data }, { on := 9, ground := Ground.gcOnly Departure.lateStores }], guard := none }) (v := ?_) rfl (by kernel_rfl) (by kernel_rfl) (by kernel_rfl) (by kernel_rfl) (fun _ _ _ h => h) (Or.inl ⟨by rfl, ?_⟩) ?_; rotate_left; (intro w hw; clear hw; (try go_split_ands); go_simp; try (with_reducible rfl)); simp only [Act.put, List.setIfInBounds_toArray, List.set_cons_zero, List.set_cons_succ])
              replace kk := kk.swap
              have q0 := kk.head.at 0
              have f0 := kk.head.frozen 0
              simp only [List.getElem?_cons_zero] at q0
              (refine Walk.go (i := 9) (o := { dst := none, op := Op.store 51 (Operand.tmp 6) (Operand.tmp 24), type := 0, pos := "law.go:74", after := #[{ on := 7, ground := Ground.data }, { on := 5, ground := Ground.data }, { on := 3, ground := Ground.chain }, { on := 0, ground := Ground.phase }, { on := 1, ground := Ground.phase }, { on := 2, ground := Ground.phase }, { on := 3, ground := Ground.phase }, { on := 4, ground := Ground.phase }, { on := 5, ground := Ground.phase }, { on := 6, ground := Ground.textOnly Departure.lateStores }, { on := 7, ground := Ground.phase }, { on := 8, ground := Ground.phase }], guard := none }) (by kernel_rfl) rfl (fun K hK => ?_); go_simp; (replace kk := kk.set 0 (.int .i64 0); clear q0 f0); refine hK.out _ _ (⟨fun _ => (kk.get (b := w.heap.size) (t := 25) (c := tbl c pv) (by simp)).all, fun _ => trivial⟩) ?_; clear hK K; try simp only [Act.put, List.setIfInBounds_toArray, List.set_cons_zero, List.set_cons_succ])
              revert kk
              generalize z2.setCell ⟨NA, 0, none⟩ (.int .i64 0) = U9
              intro kk
              replace kk := kk.swap
              have q0 := kk.head.at 0
              have f0 := kk.head.frozen 0
              simp only [List.getElem?_cons_zero] at q0
              (refine Walk.go (i := 10) (o := { dst := none, op := Op.store 51 (Operand.tmp 7) (Operand.tmp 25), type := 0, pos := "law.go:74", after := #[{ on := 8, ground := Ground.data }, { on := 6, ground := Ground.data }, { on := 9, ground := Ground.chain }, { on := 0, ground := Ground.phase }, { on := 1, ground := Ground.phase }, { on := 2, ground := Ground.phase }, { on := 3, ground := Ground.phase }, { on := 4, ground := Ground.phase }, { on := 5, ground := Ground.phase }, { on := 6, ground := Ground.phase }, { on := 7, ground := Ground.phase }, { on := 8, ground := Ground.phase }, { on := 9, ground := Ground.phase }], guard := none }) (by kernel_rfl) rfl (fun K hK => ?_); go_simp; (replace kk := kk.set 0 (.int .i64 0); clear q0 f0); refine hK.out _ _ (⟨fun _ => (kk.get (b := w.heap.size) (t := 25) (c := tbl c pv) (by simp)).all, fun _ => trivial⟩) ?_; clear hK K; try simp only [Act.put, List.setIfInBounds_toArray, List.set_cons_zero, List.set_cons_succ])
              refine Walk.done (by kernel_rfl) ?_ _
              go_wp2_with fail
              go_meet
              case rel => exact ⟨_, _, rfl, rfl, kk.swap⟩
          · go_simp; (replace kk := kk.made 51 [.int .i64 0]); refine hK.out _ _ (⟨fun _ => (kk.get (b := w.heap.size) (t := 25) (c := tbl c pv) (by simp)).all, fun _ => trivial⟩) ?_; clear hK K; try simp only [Act.put, List.setIfInBounds_toArray, List.set_cons_zero, List.set_cons_succ]
            revert kk
            obtain ⟨NB, hNB⟩ : ∃ n, V11.heap.size = n := ⟨_, rfl⟩
            rw [hNB]
            clear hNB
            generalize V11.alloc (.cells [.int .i64 0].toArray 51) = V14
            intro kk
            (refine Walk.go (i := 2) (o := { dst := some 22, op := Op.call { callee := Callee.value (Operand.func 25), args := #[Operand.tmp 21], argTypes := #[3] }, type := 51, pos := "law.go:74", after := #[{ on := 1, ground := Ground.data }], guard := none }) (by kernel_rfl) rfl (fun K hK => ?_); go_simp; ((go_at_call 25; refine (of_any _ _).mono ?_; rintro e z1 ⟨rfl, dd⟩; replace kk := kk.step dd; clear dd)); refine hK.out _ _ (⟨fun _ => (kk.get (b := w.heap.size) (t := 25) (c := tbl c pv) (by simp)).all, fun _ => trivial⟩) ?_; clear hK K; try simp only [Act.put, List.setIfInBounds_toArray, List.set_cons_zero, List.set_cons_succ])
            (refine Walk.go (i := 3) (o := { dst := some 23, op := Op.call { callee := Callee.value (Operand.func 27), args := #[Operand.tmp 20, Operand.tmp 22], argTypes := #[25, 51] }, type := 52, pos := "law.go:74", after := #[{ on := 0, ground := Ground.data }, { on := 2, ground := Ground.data }, { on := 2, ground := Ground.chain }], guard := none }) (by kernel_rfl) rfl (fun K hK => ?_); go_simp; ((go_at_call 27; refine (h5 c pv l _ hb hI _ (HV.out.but kk.but) hx hl (hT _ _ HT.out kk.but)).mono ?_; rintro e z2 ⟨rfl, dd⟩; rw [HNV.out.1, HNV.out.2]; replace kk := kk.step dd; clear dd)); refine hK.out _ _ (⟨fun _ => (kk.get (b := w.heap.size) (t := 25) (c := tbl c pv) (by simp)).all, fun _ => trivial⟩) ?_; clear hK K; try simp only [Act.put, List.setIfInBounds_toArray, List.set_cons_zero, List.set_cons_succ])
            (refine Walk.take (i := 4) (oi := { dst := some 19, op := Op.move (Operand.tmp 23), type := 52, pos := "law.go:74", after := #[{ on := 3, ground := Ground.data }], guard := none }) (v := ?_) rfl (by kernel_rfl) (by kernel_rfl) (by kernel_rfl) (by kernel_rfl) (fun _ _ _ h => h) (Or.inl ⟨by rfl, ?_⟩) ?_; rotate_left; (intro w hw; clear hw; (try go_split_ands); go_simp; try (with_reducible rfl)); simp only [Act.put, List.setIfInBounds_toArray, List.set_cons_zero, List.set_cons_succ])
            (refine Walk.take (i := 5) (oi := { dst := some 24, op := Op.extract (Operand.tmp 19) 0, type := 51, pos := "law.go:74", after := #[{ on := 4, ground := Ground.data }], guard := none }) (v := ?_) rfl (by kernel_rfl) (by kernel_rfl) (by kernel_rfl) (by kernel_rfl) (fun _ _ _ h => h) (Or.inl ⟨by rfl, ?_⟩) ?_; rotate_left; (intro w hw; clear hw; (try go_split_ands); go_simp; try (with_reducible rfl)); simp only [Act.put, List.setIfInBounds_toArray, List.set_cons_zero, List.set_cons_succ])
            (refine Walk.take (i := 6) (oi := { dst := some 25, op := Op.extract (Operand.tmp 19) 1, type := 51, pos := "law.go:74", after := #[{ on := 4, ground := Ground.data }, { on := 9, ground := Ground.gcOnly Departure.lateStores }], guard := none }) (v := ?_) rfl (by kernel_rfl) (by kernel_rfl) (by kernel_rfl) (by kernel_rfl) (fun _ _ _ h => h) (Or.inl ⟨by rfl, ?_⟩) ?_; rotate_left; (intro w hw; clear hw; (try go_split_ands); go_simp; try (with_reducible rfl)); simp only [Act.put, List.setIfInBounds_toArray, List.set_cons_zero, List.set_cons_succ])
            replace kk := kk.swap
            have q0 := kk.head.at 0
            have f0 := kk.head.frozen 0
            simp only [List.getElem?_cons_zero] at q0
            (refine Walk.go (i := 9) (o := { dst := none, op := Op.store 51 (Operand.tmp 6) (Operand.tmp 24), type := 0, pos := "law.go:74", after := #[{ on := 7, ground := Ground.data }, { on := 5, ground := Ground.data }, { on := 3, ground := Ground.chain }, { on := 0, ground := Ground.phase }, { on := 1, ground := Ground.phase }, { on := 2, ground := Ground.phase }, { on := 3, ground := Ground.phase }, { on := 4, ground := Ground.phase }, { on := 5, ground := Ground.phase }, { on := 6, ground := Ground.textOnly Departure.lateStores }, { on := 7, ground := Ground.phase }, { on := 8, ground := Ground.phase }], guard := none }) (by kernel_rfl) rfl (fun K hK => ?_); go_simp; (replace kk := kk.set 0 (.int .i64 0); clear q0 f0); refine hK.out _ _ (⟨fun _ => (kk.get (b := w.heap.size) (t := 25) (c := tbl c pv) (by simp)).all, fun _ => trivial⟩) ?_; clear hK K; try simp only [Act.put, List.setIfInBounds_toArray, List.set_cons_zero, List.set_cons_succ])
            revert kk
            generalize z2.setCell ⟨NA, 0, none⟩ (.int .i64 0) = U9
            intro kk
            replace kk := kk.swap
            have q0 := kk.head.at 0
            have f0 := kk.head.frozen 0
            simp only [List.getElem?_cons_zero] at q0
            (refine Walk.go (i := 10) (o := { dst := none, op := Op.store 51 (Operand.tmp 7) (Operand.tmp 25), type := 0, pos := "law.go:74", after := #[{ on := 8, ground := Ground.data }, { on := 6, ground := Ground.data }, { on := 9, ground := Ground.chain }, { on := 0, ground := Ground.phase }, { on := 1, ground := Ground.phase }, { on := 2, ground := Ground.phase }, { on := 3, ground := Ground.phase }, { on := 4, ground := Ground.phase }, { on := 5, ground := Ground.phase }, { on := 6, ground := Ground.phase }, { on := 7, ground := Ground.phase }, { on := 8, ground := Ground.phase }, { on := 9, ground := Ground.phase }], guard := none }) (by kernel_rfl) rfl (fun K hK => ?_); go_simp; (replace kk := kk.set 0 (.int .i64 0); clear q0 f0); refine hK.out _ _ (⟨fun _ => (kk.get (b := w.heap.size) (t := 25) (c := tbl c pv) (by simp)).all, fun _ => trivial⟩) ?_; clear hK K; try simp only [Act.put, List.setIfInBounds_toArray, List.set_cons_zero, List.set_cons_succ])
            refine Walk.done (by kernel_rfl) ?_ _
            go_wp2_with fail
            go_meet
            case rel => exact ⟨_, _, rfl, rfl, kk.swap⟩
        · go_simp; (replace kk := kk.made 51 [.int .i64 0]); refine hK.out _ _ (⟨fun _ => (kk.get (b := w.heap.size) (t := 25) (c := tbl c pv) (by simp)).all, fun _ => trivial⟩) ?_; clear hK K; try simp only [Act.put, List.setIfInBounds_toArray, List.set_cons_zero, List.set_cons_succ]
          revert kk
          obtain ⟨NB, hNB⟩ : ∃ n, WG.heap.size = n := ⟨_, rfl⟩
          rw [hNB]
          clear hNB
          generalize WG.alloc (.cells [.int .i64 0].toArray 51) = V15
          intro kk
          refine Walk.both (i := 2) (j := 7) (oi := { dst := some 22, op := Op.call { callee := Callee.value (Operand.func 25), args := #[Operand.tmp 21], argTypes := #[3] }, type := 51, pos := "law.go:74", after := #[{ on := 1, ground := Ground.data }], guard := none }) (oj := { dst := some 6, op := Op.alloc 51, type := 0, pos := "law.go:74", after := #[], guard := none }) (by kernel_rfl) rfl rfl (fun K hK => ?_) (fun K hK => ?_)
          · go_simp; ((go_at_call 25; refine (of_any _ _).mono ?_; rintro e z1 ⟨rfl, dd⟩; replace kk := kk.step dd; clear dd)); refine hK.out _ _ (⟨fun _ => (kk.get (b := w.heap.size) (t := 25) (c := tbl c pv) (by simp)).all, fun _ => trivial⟩) ?_; clear hK K; try simp only [Act.put, List.setIfInBounds_toArray, List.set_cons_zero, List.set_cons_succ]
            refine Walk.both (i := 3) (j := 7) (oi := { dst := some 23, op := Op.call { callee := Callee.value (Operand.func 27), args := #[Operand.tmp 20, Operand.tmp 22], argTypes := #[25, 51] }, type := 52, pos := "law.go:74", after := #[{ on := 0, ground := Ground.data }, { on := 2, ground := Ground.data }, { on := 2, ground := Ground.chain }], guard := none }) (oj := { dst := some 6, op := Op.alloc 51, type := 0, pos := "law.go:74", after := #[], guard := none }) (by kernel_rfl) rfl rfl (fun K hK => ?_) (fun K hK => ?_)
            · go_simp; ((go_at_call 27; refine (h5 c pv l _ hb hI _ (HV.out.but kk.but) hx hl (hT _ _ HT.out kk.but)).mono ?_; rintro e z2 ⟨rfl, dd⟩; rw [HNV.out.1, HNV.out.2]; replace kk := kk.step dd; clear dd)); refine hK.out _ _ (⟨fun _ => (kk.get (b := w.heap.size) (t := 25) (c := tbl c pv) (by simp)).all, fun _ => trivial⟩) ?_; clear hK K; try simp only [Act.put, List.setIfInBounds_toArray, List.set_cons_zero, List.set_cons_succ]
              (refine Walk.take (i := 4) (oi := { dst := some 19, op := Op.move (Operand.tmp 23), type := 52, pos := "law.go:74", after := #[{ on := 3, ground := Ground.data }], guard := none }) (v := ?_) rfl (by kernel_rfl) (by kernel_rfl) (by kernel_rfl) (by kernel_rfl) (fun _ _ _ h => h) (Or.inl ⟨by rfl, ?_⟩) ?_; rotate_left; (intro w hw; clear hw; (try go_split_ands); go_simp; try (with_reducible rfl)); simp only [Act.put, List.setIfInBounds_toArray, List.set_cons_zero, List.set_cons_succ])
              (refine Walk.take (i := 5) (oi := { dst := some 24, op := Op.extract (Operand.tmp 19) 0, type := 51, pos := "law.go:74", after := #[{ on := 4, ground := Ground.data }], guard := none }) (v := ?_) rfl (by kernel_rfl) (by kernel_rfl) (by kernel_rfl) (by kernel_rfl) (fun _ _ _ h => h) (Or.inl ⟨by rfl, ?_⟩) ?_; rotate_left; (intro w hw; clear hw; (try go_split_ands); go_simp; try (with_reducible rfl)); simp only [Act.put, List.setIfInBounds_toArray, List.set_cons_zero, List.set_cons_succ])
              (refine Walk.take (i := 6) (oi := { dst := some 25, op := Op.extract (Operand.tmp 19) 1, type := 51, pos := "law.go:74", after := #[{ on := 4, ground := Ground.data }, { on := 9, ground := Ground.gcOnly Departure.lateStores }], guard := none }) (v := ?_) rfl (by kernel_rfl) (by kernel_rfl) (by kernel_rfl) (by kernel_rfl) (fun _ _ _ h => h) (Or.inl ⟨by rfl, ?_⟩) ?_; rotate_left; (intro w hw; clear hw; (try go_split_ands); go_simp; try (with_reducible rfl)); simp only [Act.put, List.setIfInBounds_toArray, List.set_cons_zero, List.set_cons_succ])
              (refine Walk.go (i := 7) (o := { dst := some 6, op := Op.alloc 51, type := 0, pos := "law.go:74", after := #[], guard := none }) (by kernel_rfl) rfl (fun K hK => ?_); go_simp; (replace kk := kk.made 51 [.int .i64 0]); refine hK.out _ _ (⟨fun _ => (kk.get (b := w.heap.size) (t := 25) (c := tbl c pv) (by simp)).all, fun _ => trivial⟩) ?_; clear hK K; try simp only [Act.put, List.setIfInBounds_toArray, List.set_cons_zero, List.set_cons_succ])
              revert kk
              obtain ⟨NA, hNA⟩ : ∃ n, z2.heap.size = n := ⟨_, rfl⟩
              rw [hNA]
              clear hNA
              generalize z2.alloc (.cells [.int .i64 0].toArray 51) = V16
              intro kk
              have q0 := kk.head.at 0
              have f0 := kk.head.frozen 0
              simp only [List.getElem?_cons_zero] at q0
              (refine Walk.go (i := 9) (o := { dst := none, op := Op.store 51 (Operand.tmp 6) (Operand.tmp 24), type := 0, pos := "law.go:74", after := #[{ on := 7, ground := Ground.data }, { on := 5, ground := Ground.data }, { on := 3, ground := Ground.chain }, { on := 0, ground := Ground.phase }, { on := 1, ground := Ground.phase }, { on := 2, ground := Ground.phase }, { on := 3, ground := Ground.phase }, { on := 4, ground := Ground.phase }, { on := 5, ground := Ground.phase }, { on := 6, ground := Ground.textOnly Departure.lateStores }, { on := 7, ground := Ground.phase }, { on := 8, ground := Ground.phase }], guard := none }) (by kernel_rfl) rfl (fun K hK => ?_); go_simp; (replace kk := kk.set 0 (.int .i64 0); clear q0 f0); refine hK.out _ _ (⟨fun _ => (kk.get (b := w.heap.size) (t := 25) (c := tbl c pv) (by simp)).all, fun _ => trivial⟩) ?_; clear hK K; try simp only [Act.put, List.setIfInBounds_toArray, List.set_cons_zero, List.set_cons_succ])
              revert kk
              generalize V16.setCell ⟨NA, 0, none⟩ (.int .i64 0) = U9
              intro kk
              replace kk := kk.swap
              have q0 := kk.head.at 0
              have f0 := kk.head.frozen 0
              simp only [List.getElem?_cons_zero] at q0
              (refine Walk.go (i := 10) (o := { dst := none, op := Op.store 51 (Operand.tmp 7) (Operand.tmp 25), type := 0, pos := "law.go:74", after := #[{ on := 8, ground := Ground.data }, { on := 6, ground := Ground.data }, { on := 9, ground := Ground.chain }, { on := 0, ground := Ground.phase }, { on := 1, ground := Ground.phase }, { on := 2, ground := Ground.phase }, { on := 3, ground := Ground.phase }, { on := 4, ground := Ground.phase }, { on := 5, ground := Ground.phase }, { on := 6, ground := Ground.phase }, { on := 7, ground := Ground.phase }, { on := 8, ground := Ground.phase }, { on := 9, ground := Ground.phase }], guard := none }) (by kernel_rfl) rfl (fun K hK => ?_); go_simp; (replace kk := kk.set 0 (.int .i64 0); clear q0 f0); refine hK.out _ _ (⟨fun _ => (kk.get (b := w.heap.size) (t := 25) (c := tbl c pv) (by simp)).all, fun _ => trivial⟩) ?_; clear hK K; try simp only [Act.put, List.setIfInBounds_toArray, List.set_cons_zero, List.set_cons_succ])
              refine Walk.done (by kernel_rfl) ?_ _
              go_wp2_with fail
              go_meet
              case rel => exact ⟨_, _, rfl, rfl, kk.swap⟩
            · go_simp; (replace kk := kk.made 51 [.int .i64 0]); refine hK.out _ _ (⟨fun _ => (kk.get (b := w.heap.size) (t := 25) (c := tbl c pv) (by simp)).all, fun _ => trivial⟩) ?_; clear hK K; try simp only [Act.put, List.setIfInBounds_toArray, List.set_cons_zero, List.set_cons_succ]
              revert kk
              obtain ⟨NA, hNA⟩ : ∃ n, z1.heap.size = n := ⟨_, rfl⟩
              rw [hNA]
              clear hNA
              generalize z1.alloc (.cells [.int .i64 0].toArray 51) = V17
              intro kk
              (refine Walk.go (i := 3) (o := { dst := some 23, op := Op.call { callee := Callee.value (Operand.func 27), args := #[Operand.tmp 20, Operand.tmp 22], argTypes := #[25, 51] }, type := 52, pos := "law.go:74", after := #[{ on := 0, ground := Ground.data }, { on := 2, ground := Ground.data }, { on := 2, ground := Ground.chain }], guard := none }) (by kernel_rfl) rfl (fun K hK => ?_); go_simp; ((go_at_call 27; refine (h5 c pv l _ hb hI _ (HV.out.but kk.but) hx hl (hT _ _ HT.out kk.but)).mono ?_; rintro e z2 ⟨rfl, dd⟩; rw [HNV.out.1, HNV.out.2]; replace kk := kk.step dd; clear dd)); refine hK.out _ _ (⟨fun _ => (kk.get (b := w.heap.size) (t := 25) (c := tbl c pv) (by simp)).all, fun _ => trivial⟩) ?_; clear hK K; try simp only [Act.put, List.setIfInBounds_toArray, List.set_cons_zero, List.set_cons_succ])
              (refine Walk.take (i := 4) (oi := { dst := some 19, op := Op.move (Operand.tmp 23), type := 52, pos := "law.go:74", after := #[{ on := 3, ground := Ground.data }], guard := none }) (v := ?_) rfl (by kernel_rfl) (by kernel_rfl) (by kernel_rfl) (by kernel_rfl) (fun _ _ _ h => h) (Or.inl ⟨by rfl, ?_⟩) ?_; rotate_left; (intro w hw; clear hw; (try go_split_ands); go_simp; try (with_reducible rfl)); simp only [Act.put, List.setIfInBounds_toArray, List.set_cons_zero, List.set_cons_succ])
              (refine Walk.take (i := 5) (oi := { dst := some 24, op := Op.extract (Operand.tmp 19) 0, type := 51, pos := "law.go:74", after := #[{ on := 4, ground := Ground.data }], guard := none }) (v := ?_) rfl (by kernel_rfl) (by kernel_rfl) (by kernel_rfl) (by kernel_rfl) (fun _ _ _ h => h) (Or.inl ⟨by rfl, ?_⟩) ?_; rotate_left; (intro w hw; clear hw; (try go_split_ands); go_simp; try (with_reducible rfl)); simp only [Act.put, List.setIfInBounds_toArray, List.set_cons_zero, List.set_cons_succ])
              (refine Walk.take (i := 6) (oi := { dst := some 25, op := Op.extract (Operand.tmp 19) 1, type := 51, pos := "law.go:74", after := #[{ on := 4, ground := Ground.data }, { on := 9, ground := Ground.gcOnly Departure.lateStores }], guard := none }) (v := ?_) rfl (by kernel_rfl) (by kernel_rfl) (by kernel_rfl) (by kernel_rfl) (fun _ _ _ h => h) (Or.inl ⟨by rfl, ?_⟩) ?_; rotate_left; (intro w hw; clear hw; (try go_split_ands); go_simp; try (with_reducible rfl)); simp only [Act.put, List.setIfInBounds_toArray, List.set_cons_zero, List.set_cons_succ])
              have q0 := kk.head.at 0
              have f0 := kk.head.frozen 0
              simp only [List.getElem?_cons_zero] at q0
              (refine Walk.go (i := 9) (o := { dst := none, op := Op.store 51 (Operand.tmp 6) (Operand.tmp 24), type := 0, pos := "law.go:74", after := #[{ on := 7, ground := Ground.data }, { on := 5, ground := Ground.data }, { on := 3, ground := Ground.chain }, { on := 0, ground := Ground.phase }, { on := 1, ground := Ground.phase }, { on := 2, ground := Ground.phase }, { on := 3, ground := Ground.phase }, { on := 4, ground := Ground.phase }, { on := 5, ground := Ground.phase }, { on := 6, ground := Ground.textOnly Departure.lateStores }, { on := 7, ground := Ground.phase }, { on := 8, ground := Ground.phase }], guard := none }) (by kernel_rfl) rfl (fun K hK => ?_); go_simp; (replace kk := kk.set 0 (.int .i64 0); clear q0 f0); refine hK.out _ _ (⟨fun _ => (kk.get (b := w.heap.size) (t := 25) (c := tbl c pv) (by simp)).all, fun _ => trivial⟩) ?_; clear hK K; try simp only [Act.put, List.setIfInBounds_toArray, List.set_cons_zero, List.set_cons_succ])
              revert kk
              generalize z2.setCell ⟨NA, 0, none⟩ (.int .i64 0) = U9
              intro kk
              replace kk := kk.swap
              have q0 := kk.head.at 0
              have f0 := kk.head.frozen 0
              simp only [List.getElem?_cons_zero] at q0
              (refine Walk.go (i := 10) (o := { dst := none, op := Op.store 51 (Operand.tmp 7) (Operand.tmp 25), type := 0, pos := "law.go:74", after := #[{ on := 8, ground := Ground.data }, { on := 6, ground := Ground.data }, { on := 9, ground := Ground.chain }, { on := 0, ground := Ground.phase }, { on := 1, ground := Ground.phase }, { on := 2, ground := Ground.phase }, { on := 3, ground := Ground.phase }, { on := 4, ground := Ground.phase }, { on := 5, ground := Ground.phase }, { on := 6, ground := Ground.phase }, { on := 7, ground := Ground.phase }, { on := 8, ground := Ground.phase }, { on := 9, ground := Ground.phase }], guard := none }) (by kernel_rfl) rfl (fun K hK => ?_); go_simp; (replace kk := kk.set 0 (.int .i64 0); clear q0 f0); refine hK.out _ _ (⟨fun _ => (kk.get (b := w.heap.size) (t := 25) (c := tbl c pv) (by simp)).all, fun _ => trivial⟩) ?_; clear hK K; try simp only [Act.put, List.setIfInBounds_toArray, List.set_cons_zero, List.set_cons_succ])
              refine Walk.done (by kernel_rfl) ?_ _
              go_wp2_with fail
              go_meet
              case rel => exact ⟨_, _, rfl, rfl, kk.swap⟩
          · go_simp; (replace kk := kk.made 51 [.int .i64 0]); refine hK.out _ _ (⟨fun _ => (kk.get (b := w.heap.size) (t := 25) (c := tbl c pv) (by simp)).all, fun _ => trivial⟩) ?_; clear hK K; try simp only [Act.put, List.setIfInBounds_toArray, List.set_cons_zero, List.set_cons_succ]
            revert kk
            obtain ⟨NA, hNA⟩ : ∃ n, V15.heap.size = n := ⟨_, rfl⟩
            rw [hNA]
            clear hNA
            generalize V15.alloc (.cells [.int .i64 0].toArray 51) = V18
            intro kk
            (refine Walk.go (i := 2) (o := { dst := some 22, op := Op.call { callee := Callee.value (Operand.func 25), args := #[Operand.tmp 21], argTypes := #[3] }, type := 51, pos := "law.go:74", after := #[{ on := 1, ground := Ground.data }], guard := none }) (by kernel_rfl) rfl (fun K hK => ?_); go_simp; ((go_at_call 25; refine (of_any _ _).mono ?_; rintro e z1 ⟨rfl, dd⟩; replace kk := kk.step dd; clear dd)); refine hK.out _ _ (⟨fun _ => (kk.get (b := w.heap.size) (t := 25) (c := tbl c pv) (by simp)).all, fun _ => trivial⟩) ?_; clear hK K; try simp only [Act.put, List.setIfInBounds_toArray, List.set_cons_zero, List.set_cons_succ])
            (refine Walk.go (i := 3) (o := { dst := some 23, op := Op.call { callee := Callee.value (Operand.func 27), args := #[Operand.tmp 20, Operand.tmp 22], argTypes := #[25, 51] }, type := 52, pos := "law.go:74", after := #[{ on := 0, ground := Ground.data }, { on := 2, ground := Ground.data }, { on := 2, ground := Ground.chain }], guard := none }) (by kernel_rfl) rfl (fun K hK => ?_); go_simp; ((go_at_call 27; refine (h5 c pv l _ hb hI _ (HV.out.but kk.but) hx hl (hT _ _ HT.out kk.but)).mono ?_; rintro e z2 ⟨rfl, dd⟩; rw [HNV.out.1, HNV.out.2]; replace kk := kk.step dd; clear dd)); refine hK.out _ _ (⟨fun _ => (kk.get (b := w.heap.size) (t := 25) (c := tbl c pv) (by simp)).all, fun _ => trivial⟩) ?_; clear hK K; try simp only [Act.put, List.setIfInBounds_toArray, List.set_cons_zero, List.set_cons_succ])
            (refine Walk.take (i := 4) (oi := { dst := some 19, op := Op.move (Operand.tmp 23), type := 52, pos := "law.go:74", after := #[{ on := 3, ground := Ground.data }], guard := none }) (v := ?_) rfl (by kernel_rfl) (by kernel_rfl) (by kernel_rfl) (by kernel_rfl) (fun _ _ _ h => h) (Or.inl ⟨by rfl, ?_⟩) ?_; rotate_left; (intro w hw; clear hw; (try go_split_ands); go_simp; try (with_reducible rfl)); simp only [Act.put, List.setIfInBounds_toArray, List.set_cons_zero, List.set_cons_succ])
            (refine Walk.take (i := 5) (oi := { dst := some 24, op := Op.extract (Operand.tmp 19) 0, type := 51, pos := "law.go:74", after := #[{ on := 4, ground := Ground.data }], guard := none }) (v := ?_) rfl (by kernel_rfl) (by kernel_rfl) (by kernel_rfl) (by kernel_rfl) (fun _ _ _ h => h) (Or.inl ⟨by rfl, ?_⟩) ?_; rotate_left; (intro w hw; clear hw; (try go_split_ands); go_simp; try (with_reducible rfl)); simp only [Act.put, List.setIfInBounds_toArray, List.set_cons_zero, List.set_cons_succ])
            (refine Walk.take (i := 6) (oi := { dst := some 25, op := Op.extract (Operand.tmp 19) 1, type := 51, pos := "law.go:74", after := #[{ on := 4, ground := Ground.data }, { on := 9, ground := Ground.gcOnly Departure.lateStores }], guard := none }) (v := ?_) rfl (by kernel_rfl) (by kernel_rfl) (by kernel_rfl) (by kernel_rfl) (fun _ _ _ h => h) (Or.inl ⟨by rfl, ?_⟩) ?_; rotate_left; (intro w hw; clear hw; (try go_split_ands); go_simp; try (with_reducible rfl)); simp only [Act.put, List.setIfInBounds_toArray, List.set_cons_zero, List.set_cons_succ])
            have q0 := kk.head.at 0
            have f0 := kk.head.frozen 0
            simp only [List.getElem?_cons_zero] at q0
            (refine Walk.go (i := 9) (o := { dst := none, op := Op.store 51 (Operand.tmp 6) (Operand.tmp 24), type := 0, pos := "law.go:74", after := #[{ on := 7, ground := Ground.data }, { on := 5, ground := Ground.data }, { on := 3, ground := Ground.chain }, { on := 0, ground := Ground.phase }, { on := 1, ground := Ground.phase }, { on := 2, ground := Ground.phase }, { on := 3, ground := Ground.phase }, { on := 4, ground := Ground.phase }, { on := 5, ground := Ground.phase }, { on := 6, ground := Ground.textOnly Departure.lateStores }, { on := 7, ground := Ground.phase }, { on := 8, ground := Ground.phase }], guard := none }) (by kernel_rfl) rfl (fun K hK => ?_); go_simp; (replace kk := kk.set 0 (.int .i64 0); clear q0 f0); refine hK.out _ _ (⟨fun _ => (kk.get (b := w.heap.size) (t := 25) (c := tbl c pv) (by simp)).all, fun _ => trivial⟩) ?_; clear hK K; try simp only [Act.put, List.setIfInBounds_toArray, List.set_cons_zero, List.set_cons_succ])
            revert kk
            generalize z2.setCell ⟨NA, 0, none⟩ (.int .i64 0) = U9
            intro kk
            replace kk := kk.swap
            have q0 := kk.head.at 0
            have f0 := kk.head.frozen 0
            simp only [List.getElem?_cons_zero] at q0
            (refine Walk.go (i := 10) (o := { dst := none, op := Op.store 51 (Operand.tmp 7) (Operand.tmp 25), type := 0, pos := "law.go:74", after := #[{ on := 8, ground := Ground.data }, { on := 6, ground := Ground.data }, { on := 9, ground := Ground.chain }, { on := 0, ground := Ground.phase }, { on := 1, ground := Ground.phase }, { on := 2, ground := Ground.phase }, { on := 3, ground := Ground.phase }, { on := 4, ground := Ground.phase }, { on := 5, ground := Ground.phase }, { on := 6, ground := Ground.phase }, { on := 7, ground := Ground.phase }, { on := 8, ground := Ground.phase }, { on := 9, ground := Ground.phase }], guard := none }) (by kernel_rfl) rfl (fun K hK => ?_); go_simp; (replace kk := kk.set 0 (.int .i64 0); clear q0 f0); refine hK.out _ _ (⟨fun _ => (kk.get (b := w.heap.size) (t := 25) (c := tbl c pv) (by simp)).all, fun _ => trivial⟩) ?_; clear hK K; try simp only [Act.put, List.setIfInBounds_toArray, List.set_cons_zero, List.set_cons_succ])
            refine Walk.done (by kernel_rfl) ?_ _
            go_wp2_with fail
            go_meet
            case rel => exact ⟨_, _, rfl, rfl, kk.swap⟩
      case rest =>
        clear kk
        obtain ⟨NA, NB, rfl, rfl, kk⟩ := hcut
        go_wp2_with fail
        replace kk := kk.drew
        refine wp_region_till (S := fun U => U.cell? ⟨NA, 0, none⟩ = some (.int .i64 0) ∧ U.cell? ⟨NB, 0, none⟩ = some (.int .i64 0) ∧ U.cell? ⟨CB, 1, none⟩ = some (.int .i64 0) ∧ U.cell? ⟨CB, 0, none⟩ = some (.int .i64 0)) (R := fun _ => True) (k := 100) (m := 100) (by kernel_rfl) ⟨(kk.get (b := NA) (t := 51) (c := [.int .i64 0]) (by simp)).at 0, (kk.get (b := NB) (t := 51) (c := [.int .i64 0]) (by simp)).at 0, (kk.get (b := CB) (t := 36) (c := [.int .i64 0, .int .i64 0]) (by simp)).at 1, (kk.get (b := CB) (t := 36) (c := [.int .i64 0, .int .i64 0]) (by simp)).at 0⟩ trivial ?_
        revert kk
        generalize wc.drew = WH
        intro kk
        (refine Walk.take (i := 0) (oi := { dst := some 26, op := Op.load 51 (Operand.tmp 6), type := 51, pos := "law.go:75", after := #[], guard := none }) (v := ?_) rfl (by kernel_rfl) (by kernel_rfl) (by kernel_rfl) (by kernel_rfl) (fun _ _ _ h => h) (Or.inl ⟨by rfl, ?_⟩) ?_; rotate_left; (intro w hw; have hS1 := hw.1 (by kernel_rfl); clear hw; (try dsimp only at hS1); (try go_split_ands); go_simp; try (with_reducible rfl)); simp only [Act.put, List.setIfInBounds_toArray, List.set_cons_zero, List.set_cons_succ])
        (refine Walk.take (i := 2) (oi := { dst := some 28, op := Op.fieldAddr 36 (Operand.tmp 5) 1, type := 0, pos := "law.go:75", after := #[], guard := none }) (v := ?_) rfl (by kernel_rfl) (by kernel_rfl) (by kernel_rfl) (by kernel_rfl) (fun _ _ _ h => h) (Or.inl ⟨by rfl, ?_⟩) ?_; rotate_left; (intro w hw; clear hw; (try go_split_ands); go_simp; try (with_reducible rfl)); simp only [Act.put, List.setIfInBounds_toArray, List.set_cons_zero, List.set_cons_succ])
        (refine Walk.take (i := 3) (oi := { dst := some 29, op := Op.load 3 (Operand.tmp 28), type := 3, pos := "law.go:75", after := #[{ on := 2, ground := Ground.data }], guard := none }) (v := ?_) rfl (by kernel_rfl) (by kernel_rfl) (by kernel_rfl) (by kernel_rfl) (fun _ _ _ h => h) (Or.inl ⟨by rfl, ?_⟩) ?_; rotate_left; (intro w hw; have hS1 := hw.1 (by kernel_rfl); clear hw; (try dsimp only at hS1); (try go_split_ands); go_simp; try (with_reducible rfl)); simp only [Act.put, List.setIfInBounds_toArray, List.set_cons_zero, List.set_cons_succ])
        (refine Walk.go (i := 1) (o := { dst := some 27, op := Op.call { callee := Callee.value (Operand.func 26), args := #[Operand.tmp 26, Operand.const (Value.pointer none)], argTypes := #[51, 62] }, type := 3, pos := "law.go:75", after := #[{ on := 0, ground := Ground.data }], guard := none }) (by kernel_rfl) rfl (fun K hK => ?_); go_simp; ((go_at_call 26; refine (tell_none _ _).mono ?_; rintro e v1 ⟨rfl, dd⟩; replace kk := kk.step dd; clear dd)); refine hK.out _ _ (⟨fun _ => ⟨(kk.get (b := NA) (t := 51) (c := [.int .i64 0]) (by simp)).at 0, (kk.get (b := NB) (t := 51) (c := [.int .i64 0]) (by simp)).at 0, (kk.get (b := CB) (t := 36) (c := [.int .i64 0, .int .i64 0]) (by simp)).at 1, (kk.get (b := CB) (t := 36) (c := [.int .i64 0, .int .i64 0]) (by simp)).at 0⟩, fun _ => trivial⟩) ?_; clear hK K; try simp only [Act.put, List.setIfInBounds_toArray, List.set_cons_zero, List.set_cons_succ])
        (refine Walk.take (i := 4) (oi := { dst := some 30, op := Op.binOp BinOp.eql 3 (Operand.tmp 27) (Operand.tmp 29) 3, type := 4, pos := "law.go:75", after := #[{ on := 1, ground := Ground.data }, { on := 3, ground := Ground.data }], guard := none }) (v := ?_) rfl (by kernel_rfl) (by kernel_rfl) (by kernel_rfl) (by kernel_rfl) (fun _ _ _ h => h) (Or.inl ⟨by rfl, ?_⟩) ?_; rotate_left; (intro w hw; clear hw; (try go_split_ands); go_simp; try (with_reducible rfl)); simp only [Act.put, List.setIfInBounds_toArray, List.set_cons_zero, List.set_cons_succ])
        (refine Walk.take (i := 5) (oi := { dst := some 31, op := Op.move (Operand.tmp 30), type := 4, pos := "law.go:75", after := #[{ on := 4, ground := Ground.data }, { on := 1, ground := Ground.chain }], guard := none }) (v := ?_) rfl (by kernel_rfl) (by kernel_rfl) (by kernel_rfl) (by kernel_rfl) (fun _ _ _ h => h) (Or.inl ⟨by rfl, ?_⟩) ?_; rotate_left; (intro w hw; clear hw; (try go_split_ands); go_simp; try (with_reducible rfl)); simp only [Act.put, List.setIfInBounds_toArray, List.set_cons_zero, List.set_cons_succ])
        (refine Walk.take (i := 6) (oi := { dst := some 32, op := Op.load 51 (Operand.tmp 7), type := 51, pos := "law.go:75", after := #[{ on := 5, ground := Ground.guard }], guard := some (5, true) }) (v := ?_) rfl (by kernel_rfl) (by kernel_rfl) (by kernel_rfl) (by kernel_rfl) (fun _ _ _ h => h) (Or.inl ⟨by rfl, ?_⟩) ?_; rotate_left; (intro w hw; have hS1 := hw.1 (by kernel_rfl); clear hw; (try dsimp only at hS1); (try go_split_ands); go_simp; try (with_reducible rfl)); simp only [Act.put, List.setIfInBounds_toArray, List.set_cons_zero, List.set_cons_succ])
        (refine Walk.take (i := 8) (oi := { dst := some 34, op := Op.fieldAddr 36 (Operand.tmp 5) 0, type := 0, pos := "law.go:75", after := #[{ on := 5, ground := Ground.guard }], guard := some (5, true) }) (v := ?_) rfl (by kernel_rfl) (by kernel_rfl) (by kernel_rfl) (by kernel_rfl) (fun _ _ _ h => h) (Or.inl ⟨by rfl, ?_⟩) ?_; rotate_left; (intro w hw; clear hw; (try go_split_ands); go_simp; try (with_reducible rfl)); simp only [Act.put, List.setIfInBounds_toArray, List.set_cons_zero, List.set_cons_succ])
        (refine Walk.take (i := 9) (oi := { dst := some 35, op := Op.load 3 (Operand.tmp 34), type := 3, pos := "law.go:75", after := #[{ on := 8, ground := Ground.data }, { on := 5, ground := Ground.guard }], guard := some (5, true) }) (v := ?_) rfl (by kernel_rfl) (by kernel_rfl) (by kernel_rfl) (by kernel_rfl) (fun _ _ _ h => h) (Or.inl ⟨by rfl, ?_⟩) ?_; rotate_left; (intro w hw; have hS1 := hw.1 (by kernel_rfl); clear hw; (try dsimp only at hS1); (try go_split_ands); go_simp; try (with_reducible rfl)); simp only [Act.put, List.setIfInBounds_toArray, List.set_cons_zero, List.set_cons_succ])
        (refine Walk.go (i := 7) (o := { dst := some 33, op := Op.call { callee := Callee.value (Operand.func 26), args := #[Operand.tmp 32, Operand.const (Value.pointer none)], argTypes := #[51, 62] }, type := 3, pos := "law.go:75", after := #[{ on := 6, ground := Ground.data }, { on := 5, ground := Ground.chain }, { on := 5, ground := Ground.guard }], guard := some (5, true) }) (by kernel_rfl) rfl (fun K hK => ?_); go_simp; ((go_at_call 26; refine (tell_none _ _).mono ?_; rintro e v2 ⟨rfl, dd⟩; replace kk := kk.step dd; clear dd)); refine hK.out _ _ (⟨fun _ => ⟨(kk.get (b := NA) (t := 51) (c := [.int .i64 0]) (by simp)).at 0, (kk.get (b := NB) (t := 51) (c := [.int .i64 0]) (by simp)).at 0, (kk.get (b := CB) (t := 36) (c := [.int .i64 0, .int .i64 0]) (by simp)).at 1, (kk.get (b := CB) (t := 36) (c := [.int .i64 0, .int .i64 0]) (by simp)).at 0⟩, fun _ => trivial⟩) ?_; clear hK K; try simp only [Act.put, List.setIfInBounds_toArray, List.set_cons_zero, List.set_cons_succ])
        (refine Walk.take (i := 10) (oi := { dst := some 36, op := Op.binOp BinOp.eql 3 (Operand.tmp 33) (Operand.tmp 35) 3, type := 4, pos := "law.go:75", after := #[{ on := 7, ground := Ground.data }, { on := 9, ground := Ground.data }, { on := 5, ground := Ground.guard }], guard := some (5, true) }) (v := ?_) rfl (by kernel_rfl) (by kernel_rfl) (by kernel_rfl) (by kernel_rfl) (fun _ _ _ h => h) (Or.inl ⟨by rfl, ?_⟩) ?_; rotate_left; (intro w hw; clear hw; (try go_split_ands); go_simp; try (with_reducible rfl)); simp only [Act.put, List.setIfInBounds_toArray, List.set_cons_zero, List.set_cons_succ])
        (refine Walk.take (i := 11) (oi := { dst := some 37, op := Op.pick (Operand.tmp 31) (Operand.tmp 36) (Operand.const (Value.bool false)), type := 4, pos := "law.go:75", after := #[{ on := 5, ground := Ground.data }, { on := 10, ground := Ground.data }], guard := none }) (v := ?_) rfl (by kernel_rfl) (by kernel_rfl) (by kernel_rfl) (by kernel_rfl) (fun _ _ _ h => h) (Or.inl ⟨by rfl, ?_⟩) ?_; rotate_left; (intro w hw; clear hw; (try go_split_ands); go_simp; try (with_reducible rfl)); simp only [Act.put, List.setIfInBounds_toArray, List.set_cons_zero, List.set_cons_succ])
        (refine Walk.take (i := 12) (oi := { dst := some 4, op := Op.assign (Operand.tmp 37), type := 4, pos := "law.go:75", after := #[{ on := 11, ground := Ground.data }, { on := 7, ground := Ground.chain }, { on := 0, ground := Ground.phase }, { on := 1, ground := Ground.phase }, { on := 2, ground := Ground.phase }, { on := 3, ground := Ground.phase }, { on := 4, ground := Ground.phase }, { on := 5, ground := Ground.phase }, { on := 6, ground := Ground.phase }, { on := 7, ground := Ground.phase }, { on := 8, ground := Ground.phase }, { on := 9, ground := Ground.phase }, { on := 10, ground := Ground.phase }, { on := 11, ground := Ground.phase }], guard := none }) (v := ?_) rfl (by kernel_rfl) (by kernel_rfl) (by kernel_rfl) (by kernel_rfl) (fun _ _ _ h => h) (Or.inl ⟨by rfl, ?_⟩) ?_; rotate_left; (intro w hw; clear hw; (try go_split_ands); go_simp; try (with_reducible rfl)); simp only [Act.put, List.setIfInBounds_toArray, List.set_cons_zero, List.set_cons_succ])
        refine Walk.done (by kernel_rfl) ?_ _
        go_wp2_with fail
        go_ret
        exact ⟨rfl, kk.but⟩
    · have d0 : 0 ≤ b := by omega
      have d1 : 255 < b := by omega
      clear hin
      go_enter Try.func16, Try.ntmps16
      go_upto_region 4 with fail
      revert kk
      generalize ((w.alloc (.cells (tbl c pv).toArray 25)).alloc (.cells #[.int .i64 0, .int .i64 0] 36)) = W2
      intro kk
      go_cut [6, 7] from 19 to 25 (fun s r V' => ∃ NA NB, s = .pointer (some ⟨NA, 0, none⟩) ∧ r = .pointer (some ⟨NB, 0, none⟩) ∧ Keep w V' [(NA, 51, [.int .i64 0]), (NB, 51, [.int .i64 0]), (CB, 36, [.int .i64 0, .int .i64 0]), (w.heap.size, 25, tbl c pv)])
      case first =>
        replace kk := kk.drew
        refine wp_region_till (S := fun V => V.rangeAt w.heap.size 0 (tbl c pv)) (R := fun _ => True) (k := 100) (m := 100) (by kernel_rfl) ((kk.get (b := w.heap.size) (t := 25) (c := tbl c pv) (by simp)).all) trivial ?_
        revert kk
        generalize W2.drew = WG
        intro kk
        (refine Walk.take (i := 0) (oi := { dst := some 20, op := Op.load 25 (Operand.tmp 2), type := 25, pos := "law.go:74", after := #[], guard := none }) (v := .agg (tbl c pv).toArray) rfl (by kernel_rfl) (by kernel_rfl) (by kernel_rfl) (by kernel_rfl) (fun _ _ _ h => h) (yieldsIf_load_mid rfl 25 (.tmp 2) rfl (w.heap.size) 0 rfl (tbl c pv) _ (fun w hw => (hw.1 (by kernel_rfl))) huT rfl (hiT)) ?_; simp only [Act.put, List.setIfInBounds_toArray, List.set_cons_zero, List.set_cons_succ])
        (refine Walk.take (i := 1) (oi := { dst := some 21, op := Op.move (Operand.tmp 1), type := 3, pos := "law.go:74", after := #[], guard := none }) (v := ?_) rfl (by kernel_rfl) (by kernel_rfl) (by kernel_rfl) (by kernel_rfl) (fun _ _ _ h => h) (Or.inl ⟨by rfl, ?_⟩) ?_; rotate_left; (intro w hw; clear hw; (try go_split_ands); go_simp; try (with_reducible rfl)); simp only [Act.put, List.setIfInBounds_toArray, List.set_cons_zero, List.set_cons_succ])
        refine Walk.three (i := 2) (j := 7) (l := 8) (oi := { dst := some 22, op := Op.call { callee := Callee.value (Operand.func 25), args := #[Operand.tmp 21], argTypes := #[3] }, type := 51, pos := "law.go:74", after := #[{ on := 1, ground := Ground.data }], guard := none }) (oj := { dst := some 6, op := Op.alloc 51, type := 0, pos := "law.go:74", after := #[], guard := none }) (ol := { dst := some 7, op := Op.alloc 51, type := 0, pos := "law.go:74", after := #[], guard := none }) (by kernel_rfl) rfl rfl rfl (fun K hK => ?_) (fun K hK => ?_) (fun K hK => ?_)
        · go_simp; ((go_at_call 25; refine (of_any _ _).mono ?_; rintro e z1 ⟨rfl, dd⟩; replace kk := kk.step dd; clear dd)); refine hK.out _ _ (⟨fun _ => (kk.get (b := w.heap.size) (t := 25) (c := tbl c pv) (by simp)).all, fun _ => trivial⟩) ?_; clear hK K; try simp only [Act.put, List.setIfInBounds_toArray, List.set_cons_zero, List.set_cons_succ]
          refine Walk.three (i := 3) (j := 7) (l := 8) (oi := { dst := some 23, op := Op.call { callee := Callee.value (Operand.func 27), args := #[Operand.tmp 20, Operand.tmp 22], argTypes := #[25, 51] }, type := 52, pos := "law.go:74", after := #[{ on := 0, ground := Ground.data }, { on := 2, ground := Ground.data }, { on := 2, ground := Ground.chain }], guard := none }) (oj := { dst := some 6, op := Op.alloc 51, type := 0, pos := "law.go:74", after := #[], guard := none }) (ol := { dst := some 7, op := Op.alloc 51, type := 0, pos := "law.go:74", after := #[], guard := none }) (by kernel_rfl) rfl rfl rfl (fun K hK => ?_) (fun K hK => ?_) (fun K hK => ?_)
          · go_simp; ((go_at_call 27; refine (h5 c pv l _ hb hI _ (HV.out.but kk.but) hx hl (hT _ _ HT.out kk.but)).mono ?_; rintro e z2 ⟨rfl, dd⟩; rw [HNV.out.1, HNV.out.2]; replace kk := kk.step dd; clear dd)); refine hK.out _ _ (⟨fun _ => (kk.get (b := w.heap.size) (t := 25) (c := tbl c pv) (by simp)).all, fun _ => trivial⟩) ?_; clear hK K; try simp only [Act.put, List.setIfInBounds_toArray, List.set_cons_zero, List.set_cons_succ]
            (refine Walk.take (i := 4) (oi := { dst := some 19, op := Op.move (Operand.tmp 23), type := 52, pos := "law.go:74", after := #[{ on := 3, ground := Ground.data }], guard := none }) (v := ?_) rfl (by kernel_rfl) (by kernel_rfl) (by kernel_rfl) (by kernel_rfl) (fun _ _ _ h => h) (Or.inl ⟨by rfl, ?_⟩) ?_; rotate_left; (intro w hw; clear hw; (try go_split_ands); go_simp; try (with_reducible rfl)); simp only [Act.put, List.setIfInBounds_toArray, List.set_cons_zero, List.set_cons_succ])
            (refine Walk.take (i := 5) (oi := { dst := some 24, op := Op.extract (Operand.tmp 19) 0, type := 51, pos := "law.go:74", after := #[{ on := 4, ground := Ground.data }], guard := none }) (v := ?_) rfl (by kernel_rfl) (by kernel_rfl) (by kernel_rfl) (by kernel_rfl) (fun _ _ _ h => h) (Or.inl ⟨by rfl, ?_⟩) ?_; rotate_left; (intro w hw; clear hw; (try go_split_ands); go_simp; try (with_reducible rfl)); simp only [Act.put, List.setIfInBounds_toArray, List.set_cons_zero, List.set_cons_succ])
            (refine Walk.take (i := 6) (oi := { dst := some 25, op := Op.extract (Operand.tmp 19) 1, type := 51, pos := "law.go:74", after := #[{ on := 4, ground := Ground.data }, { on := 9, ground := Ground.gcOnly Departure.lateStores }], guard := none }) (v := ?_) rfl (by kernel_rfl) (by kernel_rfl) (by kernel_rfl) (by kernel_rfl) (fun _ _ _ h => h) (Or.inl ⟨by rfl, ?_⟩) ?_; rotate_left; (intro w hw; clear hw; (try go_split_ands); go_simp; try (with_reducible rfl)); simp only [Act.put, List.setIfInBounds_toArray, List.set_cons_zero, List.set_cons_succ])
            refine Walk.both (i := 7) (j := 8) (oi := { dst := some 6, op := Op.alloc 51, type := 0, pos := "law.go:74", after := #[], guard := none }) (oj := { dst := some 7, op := Op.alloc 51, type := 0, pos := "law.go:74", after := #[], guard := none }) (by kernel_rfl) rfl rfl (fun K hK => ?_) (fun K hK => ?_)
            · go_simp; (replace kk := kk.made 51 [.int .i64 0]); refine hK.out _ _ (⟨fun _ => (kk.get (b := w.heap.size) (t := 25) (c := tbl c pv) (by simp)).all, fun _ => trivial⟩) ?_; clear hK K; try simp only [Act.put, List.setIfInBounds_toArray, List.set_cons_zero, List.set_cons_succ]
              revert kk
              obtain ⟨NA, hNA⟩ : ∃ n, z2.heap.size = n := ⟨_, rfl⟩
              rw [hNA]
              clear hNA
              generalize z2.alloc (.cells [.int .i64 0].toArray 51) = V1
              intro kk
              (refine Walk.go (i := 8) (o := { dst := some 7, op := Op.alloc 51, type := 0, pos := "law.go:74", after := #[], guard := none }) (by kernel_rfl) rfl (fun K hK => ?_); go_simp; (replace kk := kk.made 51 [.int .i64 0]); refine hK.out _ _ (⟨fun _ => (kk.get (b := w.heap.size) (t := 25) (c := tbl c pv) (by simp)).all, fun _ => trivial⟩) ?_; clear hK K; try simp only [Act.put, List.setIfInBounds_toArray, List.set_cons_zero, List.set_cons_succ])
              revert kk
              obtain ⟨NB, hNB⟩ : ∃ n, V1.heap.size = n := ⟨_, rfl⟩
              rw [hNB]
              clear hNB
              generalize V1.alloc (.cells [.int .i64 0].toArray 51) = V2
              intro kk
              replace kk := kk.swap
              have q0 := kk.head.at 0
              have f0 := kk.head.frozen 0
              simp only [List.getElem?_cons_zero] at q0
              (refine Walk.go (i := 9) (o := { dst := none, op := Op.store 51 (Operand.tmp 6) (Operand.tmp 24), type := 0, pos := "law.go:74", after := #[{ on := 7, ground := Ground.data }, { on := 5, ground := Ground.data }, { on := 3, ground := Ground.chain }, { on := 0, ground := Ground.phase }, { on := 1, ground := Ground.phase }, { on := 2, ground := Ground.phase }, { on := 3, ground := Ground.phase }, { on := 4, ground := Ground.phase }, { on := 5, ground := Ground.phase }, { on := 6, ground := Ground.textOnly Departure.lateStores }, { on := 7, ground := Ground.phase }, { on := 8, ground := Ground.phase }], guard := none }) (by kernel_rfl) rfl (fun K hK => ?_); go_simp; (replace kk := kk.set 0 (.int .i64 0); clear q0 f0); refine hK.out _ _ (⟨fun _ => (kk.get (b := w.heap.size) (t := 25) (c := tbl c pv) (by simp)).all, fun _ => trivial⟩) ?_; clear hK K; try simp only [Act.put, List.setIfInBounds_toArray, List.set_cons_zero, List.set_cons_succ])
              revert kk
              generalize V2.setCell ⟨NA, 0, none⟩ (.int .i64 0) = U9
              intro kk
              replace kk := kk.swap
              have q0 := kk.head.at 0
              have f0 := kk.head.frozen 0
              simp only [List.getElem?_cons_zero] at q0
              (refine Walk.go (i := 10) (o := { dst := none, op := Op.store 51 (Operand.tmp 7) (Operand.tmp 25), type := 0, pos := "law.go:74", after := #[{ on := 8, ground := Ground.data }, { on := 6, ground := Ground.data }, { on := 9, ground := Ground.chain }, { on := 0, ground := Ground.phase }, { on := 1, ground := Ground.phase }, { on := 2, ground := Ground.phase }, { on := 3, ground := Ground.phase }, { on := 4, ground := Ground.phase }, { on := 5, ground := Ground.phase }, { on := 6, ground := Ground.phase }, { on := 7, ground := Ground.phase }, { on := 8, ground := Ground.phase }, { on := 9, ground := Ground.phase }], guard := none }) (by kernel_rfl) rfl (fun K hK => ?_); go_simp; (replace kk := kk.set 0 (.int .i64 0); clear q0 f0); refine hK.out _ _ (⟨fun _ => (kk.get (b := w.heap.size) (t := 25) (c := tbl c pv) (by simp)).all, fun _ => trivial⟩) ?_; clear hK K; try simp only [Act.put, List.setIfInBounds_toArray, List.set_cons_zero, List.set_cons_succ])
              refine Walk.done (by kernel_rfl) ?_ _
              go_wp2_with fail
              go_meet
              case rel => exact ⟨_, _, rfl, rfl, kk.swap⟩
            · go_simp; (replace kk := kk.made 51 [.int .i64 0]); refine hK.out _ _ (⟨fun _ => (kk.get (b := w.heap.size) (t := 25) (c := tbl c pv) (by simp)).all, fun _ => trivial⟩) ?_; clear hK K; try simp only [Act.put, List.setIfInBounds_toArray, List.set_cons_zero, List.set_cons_succ]
              revert kk
              obtain ⟨NB, hNB⟩ : ∃ n, z2.heap.size = n := ⟨_, rfl⟩
              rw [hNB]
              clear hNB
              generalize z2.alloc (.cells [.int .i64 0].toArray 51) = V3
              intro kk
              (refine Walk.go (i := 7) (o := { dst := some 6, op := Op.alloc 51, type := 0, pos := "law.go:74", after := #[], guard := none }) (by kernel_rfl) rfl (fun K hK => ?_); go_simp; (replace kk := kk.made 51 [.int .i64 0]); refine hK.out _ _ (⟨fun _ => (kk.get (b := w.heap.size) (t := 25) (c := tbl c pv) (by simp)).all, fun _ => trivial⟩) ?_; clear hK K; try simp only [Act.put, List.setIfInBounds_toArray, List.set_cons_zero, List.set_cons_succ])
              revert kk
              obtain ⟨NA, hNA⟩ : ∃ n, V3.heap.size = n := ⟨_, rfl⟩
              rw [hNA]
              clear hNA
              generalize V3.alloc (.cells [.int .i64 0].toArray 51) = V4
              intro kk
              have q0 := kk.head.at 0
              have f0 := kk.head.frozen 0
              simp only [List.getElem?_cons_zero] at q0
              (refine Walk.go (i := 9) (o := { dst := none, op := Op.store 51 (Operand.tmp 6) (Operand.tmp 24), type := 0, pos := "law.go:74", after := #[{ on := 7, ground := Ground.data }, { on := 5, ground := Ground.data }, { on := 3, ground := Ground.chain }, { on := 0, ground := Ground.phase }, { on := 1, ground := Ground.phase }, { on := 2, ground := Ground.phase }, { on := 3, ground := Ground.phase }, { on := 4, ground := Ground.phase }, { on := 5, ground := Ground.phase }, { on := 6, ground := Ground.textOnly Departure.lateStores }, { on := 7, ground := Ground.phase }, { on := 8, ground := Ground.phase }], guard := none }) (by kernel_rfl) rfl (fun K hK => ?_); go_simp; (replace kk := kk.set 0 (.int .i64 0); clear q0 f0); refine hK.out _ _ (⟨fun _ => (kk.get (b := w.heap.size) (t := 25) (c := tbl c pv) (by simp)).all, fun _ => trivial⟩) ?_; clear hK K; try simp only [Act.put, List.setIfInBounds_toArray, List.set_cons_zero, List.set_cons_succ])
              revert kk
              generalize V4.setCell ⟨NA, 0, none⟩ (.int .i64 0) = U9
              intro kk
              replace kk := kk.swap
              have q0 := kk.head.at 0
              have f0 := kk.head.frozen 0
              simp only [List.getElem?_cons_zero] at q0
              (refine Walk.go (i := 10) (o := { dst := none, op := Op.store 51 (Operand.tmp 7) (Operand.tmp 25), type := 0, pos := "law.go:74", after := #[{ on := 8, ground := Ground.data }, { on := 6, ground := Ground.data }, { on := 9, ground := Ground.chain }, { on := 0, ground := Ground.phase }, { on := 1, ground := Ground.phase }, { on := 2, ground := Ground.phase }, { on := 3, ground := Ground.phase }, { on := 4, ground := Ground.phase }, { on := 5, ground := Ground.phase }, { on := 6, ground := Ground.phase }, { on := 7, ground := Ground.phase }, { on := 8, ground := Ground.phase }, { on := 9, ground := Ground.phase }], guard := none }) (by kernel_rfl) rfl (fun K hK => ?_); go_simp; (replace kk := kk.set 0 (.int .i64 0); clear q0 f0); refine hK.out _ _ (⟨fun _ => (kk.get (b := w.heap.size) (t := 25) (c := tbl c pv) (by simp)).all, fun _ => trivial⟩) ?_; clear hK K; try simp only [Act.put, List.setIfInBounds_toArray, List.set_cons_zero, List.set_cons_succ])
              refine Walk.done (by kernel_rfl) ?_ _
              go_wp2_with fail
              go_meet
              case rel => exact ⟨_, _, rfl, rfl, kk.swap⟩
          · go_simp; (replace kk := kk.made 51 [.int .i64 0]); refine hK.out _ _ (⟨fun _ => (kk.get (b := w.heap.size) (t := 25) (c := tbl c pv) (by simp)).all, fun _ => trivial⟩) ?_; clear hK K; try simp only [Act.put, List.setIfInBounds_toArray, List.set_cons_zero, List.set_cons_succ]
            revert kk
            obtain ⟨NA, hNA⟩ : ∃ n, z1.heap.size = n := ⟨_, rfl⟩
            rw [hNA]
            clear hNA
            generalize z1.alloc (.cells [.int .i64 0].toArray 51) = V5
            intro kk
            refine Walk.both (i := 3) (j := 8) (oi := { dst := some 23, op := Op.call { callee := Callee.value (Operand.func 27), args := #[Operand.tmp 20, Operand.tmp 22], argTypes := #[25, 51] }, type := 52, pos := "law.go:74", after := #[{ on := 0, ground := Ground.data }, { on := 2, ground := Ground.data }, { on := 2, ground := Ground.chain }], guard := none }) (oj := { dst := some 7, op := Op.alloc 51, type := 0, pos := "law.go:74", after := #[], guard := none }) (by kernel_rfl) rfl rfl (fun K hK => ?_) (fun K hK => ?_)
            · go_simp; ((go_at_call 27; refine (h5 c pv l _ hb hI _ (HV.out.but kk.but) hx hl (hT _ _ HT.out kk.but)).mono ?_; rintro e z2 ⟨rfl, dd⟩; rw [HNV.out.1, HNV.out.2]; replace kk := kk.step dd; clear dd)); refine hK.out _ _ (⟨fun _ => (kk.get (b := w.heap.size) (t := 25) (c := tbl c pv) (by simp)).all, fun _ => trivial⟩) ?_; clear hK K; try simp only [Act.put, List.setIfInBounds_toArray, List.set_cons_zero, List.set_cons_succ]
              (refine Walk.take (i := 4) (oi := { dst := some 19, op := Op.move (Operand.tmp 23), type := 52, pos := "law.go:74", after := #[{ on := 3, ground := Ground.data }], guard := none }) (v := ?_) rfl (by kernel_rfl) (by kernel_rfl) (by kernel_rfl) (by kernel_rfl) (fun _ _ _ h => h) (Or.inl ⟨by rfl, ?_⟩) ?_; rotate_left; (intro w hw; clear hw; (try go_split_ands); go_simp; try (with_reducible rfl)); simp only [Act.put, List.setIfInBounds_toArray, List.set_cons_zero, List.set_cons_succ])
              (refine Walk.take (i := 5) (oi := { dst := some 24, op := Op.extract (Operand.tmp 19) 0, type := 51, pos := "law.go:74", after := #[{ on := 4, ground := Ground.data }], guard := none }) (v := ?_) rfl (by kernel_rfl) (by kernel_rfl) (by kernel_rfl) (by kernel_rfl) (fun _ _ _ h => h) (Or.inl ⟨by rfl, ?_⟩) ?_; rotate_left; (intro w hw; clear hw; (try go_split_ands); go_simp; try (with_reducible rfl)); simp only [Act.put, List.setIfInBounds_toArray, List.set_cons_zero, List.set_cons_succ])
              (refine Walk.take (i := 6) (oi := { dst := some 25, op := Op.extract (Operand.tmp 19) 1, type := 51, pos := "law.go:74", after := #[{ on := 4, ground := Ground.data }, { on := 9, ground := Ground.gcOnly Departure.lateStores }], guard := none }) (v := ?_) rfl (by kernel_rfl) (by kernel_rfl) (by kernel_rfl) (by kernel_rfl) (fun _ _ _ h => h) (Or.inl ⟨by rfl, ?_⟩) ?_; rotate_left; (intro w hw; clear hw; (try go_split_ands); go_simp; try (with_reducible rfl)); simp only [Act.put, List.setIfInBounds_toArray, List.set_cons_zero, List.set_cons_succ])
              (refine Walk.go (i := 8) (o := { dst := some 7, op := Op.alloc 51, type := 0, pos := "law.go:74", after := #[], guard := none }) (by kernel_rfl) rfl (fun K hK => ?_); go_simp; (replace kk := kk.made 51 [.int .i64 0]); refine hK.out _ _ (⟨fun _ => (kk.get (b := w.heap.size) (t := 25) (c := tbl c pv) (by simp)).all, fun _ => trivial⟩) ?_; clear hK K; try simp only [Act.put, List.setIfInBounds_toArray, List.set_cons_zero, List.set_cons_succ])
              revert kk
              obtain ⟨NB, hNB⟩ : ∃ n, z2.heap.size = n := ⟨_, rfl⟩
              rw [hNB]
              clear hNB
              generalize z2.alloc (.cells [.int .i64 0].toArray 51) = V6
              intro kk
              replace kk := kk.swap
              have q0 := kk.head.at 0
              have f0 := kk.head.frozen 0
              simp only [List.getElem?_cons_zero] at q0
              (refine Walk.go (i := 9) (o := { dst := none, op := Op.store 51 (Operand.tmp 6) (Operand.tmp 24), type := 0, pos := "law.go:74", after := #[{ on := 7, ground := Ground.data }, { on := 5, ground := Ground.data }, { on := 3, ground := Ground.chain }, { on := 0, ground := Ground.phase }, { on := 1, ground := Ground.phase }, { on := 2, ground := Ground.phase }, { on := 3, ground := Ground.phase }, { on := 4, ground := Ground.phase }, { on := 5, ground := Ground.phase }, { on := 6, ground := Ground.textOnly Departure.lateStores }, { on := 7, ground := Ground.phase }, { on := 8, ground := Ground.phase }], guard := none }) (by kernel_rfl) rfl (fun K hK => ?_); go_simp; (replace kk := kk.set 0 (.int .i64 0); clear q0 f0); refine hK.out _ _ (⟨fun _ => (kk.get (b := w.heap.size) (t := 25) (c := tbl c pv) (by simp)).all, fun _ => trivial⟩) ?_; clear hK K; try simp only [Act.put, List.setIfInBounds_toArray, List.set_cons_zero, List.set_cons_succ])
              revert kk
              generalize V6.setCell ⟨NA, 0, none⟩ (.int .i64 0) = U9
              intro kk
              replace kk := kk.swap
              have q0 := kk.head.at 0
              have f0 := kk.head.frozen 0
              simp only [List.getElem?_cons_zero] at q0
              (refine Walk.go (i := 10) (o := { dst := none, op := Op.store 51 (Operand.tmp 7) (Operand.tmp 25), type := 0, pos := "law.go:74", after := #[{ on := 8, ground := Ground.data }, { on := 6, ground := Ground.data }, { on := 9, ground := Ground.chain }, { on := 0, ground := Ground.phase }, { on := 1, ground := Ground.phase }, { on := 2, ground := Ground.phase }, { on := 3, ground := Ground.phase }, { on := 4, ground := Ground.phase }, { on := 5, ground := Ground.phase }, { on := 6, ground := Ground.phase }, { on := 7, ground := Ground.phase }, { on := 8, ground := Ground.phase }, { on := 9, ground := Ground.phase }], guard := none }) (by kernel_rfl) rfl (fun K hK => ?_); go_simp; (replace kk := kk.set 0 (.int .i64 0); clear q0 f0); refine hK.out _ _ (⟨fun _ => (kk.get (b := w.heap.size) (t := 25) (c := tbl c pv) (by simp)).all, fun _ => trivial⟩) ?_; clear hK K; try simp only [Act.put, List.setIfInBounds_toArray, List.set_cons_zero, List.set_cons_succ])
              refine Walk.done (by kernel_rfl) ?_ _
              go_wp2_with fail
              go_meet
              case rel => exact ⟨_, _, rfl, rfl, kk.swap⟩
            · go_simp; (replace kk := kk.made 51 [.int .i64 0]); refine hK.out _ _ (⟨fun _ => (kk.get (b := w.heap.size) (t := 25) (c := tbl c pv) (by simp)).all, fun _ => trivial⟩) ?_; clear hK K; try simp only [Act.put, List.setIfInBounds_toArray, List.set_cons_zero, List.set_cons_succ]
              revert kk
              obtain ⟨NB, hNB⟩ : ∃ n, V5.heap.size = n := ⟨_, rfl⟩
              rw [hNB]
              clear hNB
              generalize V5.alloc (.cells [.int .i64 0].toArray 51) = V7
              intro kk
              (refine Walk.go (i := 3) (o := { dst := some 23, op := Op.call { callee := Callee.value (Operand.func 27), args := #[Operand.tmp 20, Operand.tmp 22], argTypes := #[25, 51] }, type := 52, pos := "law.go:74", after := #[{ on := 0, ground := Ground.data }, { on := 2, ground := Ground.data }, { on := 2, ground := Ground.chain }], guard := none }) (by kernel_rfl) rfl (fun K hK => ?_); go_simp; ((go_at_call 27; refine (h5 c pv l _ hb hI _ (HV.out.but kk.but) hx hl (hT _ _ HT.out kk.but)).mono ?_; rintro e z2 ⟨rfl, dd⟩; rw [HNV.out.1, HNV.out.2]; replace kk := kk.step dd; clear dd)); refine hK.out _ _ (⟨fun _ => (kk.get (b := w.heap.size) (t := 25) (c := tbl c pv) (by simp)).all, fun _ => trivial⟩) ?_; clear hK K; try simp only [Act.put, List.setIfInBounds_toArray, List.set_cons_zero, List.set_cons_succ])
              (refine Walk.take (i := 4) (oi := { dst := some 19, op := Op.move (Operand.tmp 23), type := 52, pos := "law.go:74", after := #[{ on := 3, ground := Ground.data }], guard := none }) (v := ?_) rfl (by kernel_rfl) (by kernel_rfl) (by kernel_rfl) (by kernel_rfl) (fun _ _ _ h => h) (Or.inl ⟨by rfl, ?_⟩) ?_; rotate_left; (intro w hw; clear hw; (try go_split_ands); go_simp; try (with_reducible rfl)); simp only [Act.put, List.setIfInBounds_toArray, List.set_cons_zero, List.set_cons_succ])
              (refine Walk.take (i := 5) (oi := { dst := some 24, op := Op.extract (Operand.tmp 19) 0, type := 51, pos := "law.go:74", after := #[{ on := 4, ground := Ground.data }], guard := none }) (v := ?_) rfl (by kernel_rfl) (by kernel_rfl) (by kernel_rfl) (by kernel_rfl) (fun _ _ _ h => h) (Or.inl ⟨by rfl, ?_⟩) ?_; rotate_left; (intro w hw; clear hw; (try go_split_ands); go_simp; try (with_reducible rfl)); simp only [Act.put, List.setIfInBounds_toArray, List.set_cons_zero, List.set_cons_succ])
              (refine Walk.take (i := 6) (oi := { dst := some 25, op := Op.extract (Operand.tmp 19) 1, type := 51, pos := "law.go:74", after := #[{ on := 4, ground := Ground.data }, { on := 9, ground := Ground.gcOnly Departure.lateStores }], guard := none }) (v := ?_) rfl (by kernel_rfl) (by kernel_rfl) (by kernel_rfl) (by kernel_rfl) (fun _ _ _ h => h) (Or.inl ⟨by rfl, ?_⟩) ?_; rotate_left; (intro w hw; clear hw; (try go_split_ands); go_simp; try (with_reducible rfl)); simp only [Act.put, List.setIfInBounds_toArray, List.set_cons_zero, List.set_cons_succ])
              replace kk := kk.swap
              have q0 := kk.head.at 0
              have f0 := kk.head.frozen 0
              simp only [List.getElem?_cons_zero] at q0
              (refine Walk.go (i := 9) (o := { dst := none, op := Op.store 51 (Operand.tmp 6) (Operand.tmp 24), type := 0, pos := "law.go:74", after := #[{ on := 7, ground := Ground.data }, { on := 5, ground := Ground.data }, { on := 3, ground := Ground.chain }, { on := 0, ground := Ground.phase }, { on := 1, ground := Ground.phase }, { on := 2, ground := Ground.phase }, { on := 3, ground := Ground.phase }, { on := 4, ground := Ground.phase }, { on := 5, ground := Ground.phase }, { on := 6, ground := Ground.textOnly Departure.lateStores }, { on := 7, ground := Ground.phase }, { on := 8, ground := Ground.phase }], guard := none }) (by kernel_rfl) rfl (fun K hK => ?_); go_simp; (replace kk := kk.set 0 (.int .i64 0); clear q0 f0); refine hK.out _ _ (⟨fun _ => (kk.get (b := w.heap.size) (t := 25) (c := tbl c pv) (by simp)).all, fun _ => trivial⟩) ?_; clear hK K; try simp only [Act.put, List.setIfInBounds_toArray, List.set_cons_zero, List.set_cons_succ])
              revert kk
              generalize z2.setCell ⟨NA, 0, none⟩ (.int .i64 0) = U9
              intro kk
              replace kk := kk.swap
              have q0 := kk.head.at 0
              have f0 := kk.head.frozen 0
              simp only [List.getElem?_cons_zero] at q0
              (refine Walk.go (i := 10) (o := { dst := none, op := Op.store 51 (Operand.tmp 7) (Operand.tmp 25), type := 0, pos := "law.go:74", after := #[{ on := 8, ground := Ground.data }, { on := 6, ground := Ground.data }, { on := 9, ground := Ground.chain }, { on := 0, ground := Ground.phase }, { on := 1, ground := Ground.phase }, { on := 2, ground := Ground.phase }, { on := 3, ground := Ground.phase }, { on := 4, ground := Ground.phase }, { on := 5, ground := Ground.phase }, { on := 6, ground := Ground.phase }, { on := 7, ground := Ground.phase }, { on := 8, ground := Ground.phase }, { on := 9, ground := Ground.phase }], guard := none }) (by kernel_rfl) rfl (fun K hK => ?_); go_simp; (replace kk := kk.set 0 (.int .i64 0); clear q0 f0); refine hK.out _ _ (⟨fun _ => (kk.get (b := w.heap.size) (t := 25) (c := tbl c pv) (by simp)).all, fun _ => trivial⟩) ?_; clear hK K; try simp only [Act.put, List.setIfInBounds_toArray, List.set_cons_zero, List.set_cons_succ])
              refine Walk.done (by kernel_rfl) ?_ _
              go_wp2_with fail
              go_meet
              case rel => exact ⟨_, _, rfl, rfl, kk.swap⟩
          · go_simp; (replace kk := kk.made 51 [.int .i64 0]); refine hK.out _ _ (⟨fun _ => (kk.get (b := w.heap.size) (t := 25) (c := tbl c pv) (by simp)).all, fun _ => trivial⟩) ?_; clear hK K; try simp only [Act.put, List.setIfInBounds_toArray, List.set_cons_zero, List.set_cons_succ]
            revert kk
            obtain ⟨NB, hNB⟩ : ∃ n, z1.heap.size = n := ⟨_, rfl⟩
            rw [hNB]
            clear hNB
            generalize z1.alloc (.cells [.int .i64 0].toArray 51) = V8
            intro kk
            refine Walk.both (i := 3) (j := 7) (oi := { dst := some 23, op := Op.call { callee := Callee.value (Operand.func 27), args := #[Operand.tmp 20, Operand.tmp 22], argTypes := #[25, 51] }, type := 52, pos := "law.go:74", after := #[{ on := 0, ground := Ground.data }, { on := 2, ground := Ground.data }, { on := 2, ground := Ground.chain }], guard := none }) (oj := { dst := some 6, op := Op.alloc 51, type := 0, pos := "law.go:74", after := #[], guard := none }) (by kernel_rfl) rfl rfl (fun K hK => ?_) (fun K hK => ?_)
            · go_simp; ((go_at_call 27; refine (h5 c pv l _ hb hI _ (HV.out.but kk.but) hx hl (hT _ _ HT.out kk.but)).mono ?_; rintro e z2 ⟨rfl, dd⟩; rw [HNV.out.1, HNV.out.2]; replace kk := kk.step dd; clear dd)); refine hK.out _ _ (⟨fun _ => (kk.get (b := w.heap.size) (t := 25) (c := tbl c pv) (by simp)).all, fun _ => trivial⟩) ?_; clear hK K; try simp only [Act.put, List.setIfInBounds_toArray, List.set_cons_zero, List.set_cons_succ]
              (refine Walk.take (i := 4) (oi := { dst := some 19, op := Op.move (Operand.tmp 23), type := 52, pos := "law.go:74", after := #[{ on := 3, ground := Ground.data }], guard := none }) (v := ?_) rfl (by kernel_rfl) (by kernel_rfl) (by kernel_rfl) (by kernel_rfl) (fun _ _ _ h => h) (Or.inl ⟨by rfl, ?_⟩) ?_; rotate_left; (intro w hw; clear hw; (try go_split_ands); go_simp; try (with_reducible rfl)); simp only [Act.put, List.setIfInBounds_toArray, List.set_cons_zero, List.set_cons_succ])
              (refine Walk.take (i := 5) (oi := { dst := some 24, op := Op.extract (Operand.tmp 19) 0, type := 51, pos := "law.go:74", after := #[{ on := 4, ground := Ground.data }], guard := none }) (v := ?_) rfl (by kernel_rfl) (by kernel_rfl) (by kernel_rfl) (by kernel_rfl) (fun _ _ _ h => h) (Or.inl ⟨by rfl, ?_⟩) ?_; rotate_left; (intro w hw; clear hw; (try go_split_ands); go_simp; try (with_reducible rfl)); simp only [Act.put, List.setIfInBounds_toArray, List.set_cons_zero, List.set_cons_succ])
              (refine Walk.take (i := 6) (oi := { dst := some 25, op := Op.extract (Operand.tmp 19) 1, type := 51, pos := "law.go:74", after := #[{ on := 4, ground := Ground.data }, { on := 9, ground := Ground.gcOnly Departure.lateStores }], guard := none }) (v := ?_) rfl (by kernel_rfl) (by kernel_rfl) (by kernel_rfl) (by kernel_rfl) (fun _ _ _ h => h) (Or.inl ⟨by rfl, ?_⟩) ?_; rotate_left; (intro w hw; clear hw; (try go_split_ands); go_simp; try (with_reducible rfl)); simp only [Act.put, List.setIfInBounds_toArray, List.set_cons_zero, List.set_cons_succ])
              (refine Walk.go (i := 7) (o := { dst := some 6, op := Op.alloc 51, type := 0, pos := "law.go:74", after := #[], guard := none }) (by kernel_rfl) rfl (fun K hK => ?_); go_simp; (replace kk := kk.made 51 [.int .i64 0]); refine hK.out _ _ (⟨fun _ => (kk.get (b := w.heap.size) (t := 25) (c := tbl c pv) (by simp)).all, fun _ => trivial⟩) ?_; clear hK K; try simp only [Act.put, List.setIfInBounds_toArray, List.set_cons_zero, List.set_cons_succ])
              revert kk
              obtain ⟨NA, hNA⟩ : ∃ n, z2.heap.size = n := ⟨_, rfl⟩
              rw [hNA]
              clear hNA
              generalize z2.alloc (.cells [.int .i64 0].toArray 51) = V9
              intro kk
              have q0 := kk.head.at 0
              have f0 := kk.head.frozen 0
              simp only [List.getElem?_cons_zero] at q0
              (refine Walk.go (i := 9) (o := { dst := none, op := Op.store 51 (Operand.tmp 6) (Operand.tmp 24), type := 0, pos := "law.go:74", after := #[{ on := 7, ground := Ground.data }, { on := 5, ground := Ground.data }, { on := 3, ground := Ground.chain }, { on := 0, ground := Ground.phase }, { on := 1, ground := Ground.phase }, { on := 2, ground := Ground.phase }, { on := 3, ground := Ground.phase }, { on := 4, ground := Ground.phase }, { on := 5, ground := Ground.phase }, { on := 6, ground := Ground.textOnly Departure.lateStores }, { on := 7, ground := Ground.phase }, { on := 8, ground := Ground.phase }], guard := none }) (by kernel_rfl) rfl (fun K hK => ?_); go_simp; (replace kk := kk.set 0 (.int .i64 0); clear q0 f0); refine hK.out _ _ (⟨fun _ => (kk.get (b := w.heap.size) (t := 25) (c := tbl c pv) (by simp)).all, fun _ => trivial⟩) ?_; clear hK K; try simp only [Act.put, List.setIfInBounds_toArray, List.set_cons_zero, List.set_cons_succ])
              revert kk
              generalize V9.setCell ⟨NA, 0, none⟩ (.int .i64 0) = U9
              intro kk
              replace kk := kk.swap
              have q0 := kk.head.at 0
              have f0 := kk.head.frozen 0
              simp only [List.getElem?_cons_zero] at q0
              (refine Walk.go (i := 10) (o := { dst := none, op := Op.store 51 (Operand.tmp 7) (Operand.tmp 25), type := 0, pos := "law.go:74", after := #[{ on := 8, ground := Ground.data }, { on := 6, ground := Ground.data }, { on := 9, ground := Ground.chain }, { on := 0, ground := Ground.phase }, { on := 1, ground := Ground.phase }, { on := 2, ground := Ground.phase }, { on := 3, ground := Ground.phase }, { on := 4, ground := Ground.phase }, { on := 5, ground := Ground.phase }, { on := 6, ground := Ground.phase }, { on := 7, ground := Ground.phase }, { on := 8, ground := Ground.phase }, { on := 9, ground := Ground.phase }], guard := none }) (by kernel_rfl) rfl (fun K hK => ?_); go_simp; (replace kk := kk.set 0 (.int .i64 0); clear q0 f0); refine hK.out _ _ (⟨fun _ => (kk.get (b := w.heap.size) (t := 25) (c := tbl c pv) (by simp)).all, fun _ => trivial⟩) ?_; clear hK K; try simp only [Act.put, List.setIfInBounds_toArray, List.set_cons_zero, List.set_cons_succ])
              refine Walk.done (by kernel_rfl) ?_ _
              go_wp2_with fail
              go_meet
              case rel => exact ⟨_, _, rfl, rfl, kk.swap⟩
            · go_simp; (replace kk := kk.made 51 [.int .i64 0]); refine hK.out _ _ (⟨fun _ => (kk.get (b := w.heap.size) (t := 25) (c := tbl c pv) (by simp)).all, fun _ => trivial⟩) ?_; clear hK K; try simp only [Act.put, List.setIfInBounds_toArray, List.set_cons_zero, List.set_cons_succ]
              revert kk
              obtain ⟨NA, hNA⟩ : ∃ n, V8.heap.size = n := ⟨_, rfl⟩
              rw [hNA]
              clear hNA
              generalize V8.alloc (.cells [.int .i64 0].toArray 51) = V10
              intro kk
              (refine Walk.go (i := 3) (o := { dst := some 23, op := Op.call { callee := Callee.value (Operand.func 27), args := #[Operand.tmp 20, Operand.tmp 22], argTypes := #[25, 51] }, type := 52, pos := "law.go:74", after := #[{ on := 0, ground := Ground.data }, { on := 2, ground := Ground.data }, { on := 2, ground := Ground.chain }], guard := none }) (by kernel_rfl) rfl (fun K hK => ?_); go_simp; ((go_at_call 27; refine (h5 c pv l _ hb hI _ (HV.out.but kk.but) hx hl (hT _ _ HT.out kk.but)).mono ?_; rintro e z2 ⟨rfl, dd⟩; rw [HNV.out.1, HNV.out.2]; replace kk := kk.step dd; clear dd)); refine hK.out _ _ (⟨fun _ => (kk.get (b := w.heap.size) (t := 25) (c := tbl c pv) (by simp)).all, fun _ => trivial⟩) ?_; clear hK K; try simp only [Act.put, List.setIfInBounds_toArray, List.set_cons_zero, List.set_cons_succ])
              (refine Walk.take (i := 4) (oi := { dst := some 19, op := Op.move (Operand.tmp 23), type := 52, pos := "law.go:74", after := #[{ on := 3, ground := Ground.data }], guard := none }) (v := ?_) rfl (by kernel_rfl) (by kernel_rfl) (by kernel_rfl) (by kernel_rfl) (fun _ _ _ h => h) (Or.inl ⟨by rfl, ?_⟩) ?_; rotate_left; (intro w hw; clear hw; (try go_split_ands); go_simp; try (with_reducible rfl)); simp only [Act.put, List.setIfInBounds_toArray, List.set_cons_zero, List.set_cons_succ])
              (refine Walk.take (i := 5) (oi := { dst := some 24, op := Op.extract (Operand.tmp 19) 0, type := 51, pos := "law.go:74", after := #[{ on := 4, ground := Ground.data }], guard := none }) (v := ?_) rfl (by kernel_rfl) (by kernel_rfl) (by kernel_rfl) (by kernel_rfl) (fun _ _ _ h => h) (Or.inl ⟨by rfl, ?_⟩) ?_; rotate_left; (intro w hw; clear hw; (try go_split_ands); go_simp; try (with_reducible rfl)); simp only [Act.put, List.setIfInBounds_toArray, List.set_cons_zero, List.set_cons_succ])
              (refine Walk.take (i := 6) (oi := { dst := some 25, op := Op.extract (Operand.tmp 19) 1, type := 51, pos := "law.go:74", after := #[{ on := 4, ground := Ground.data }, { on := 9, ground := Ground.gcOnly Departure.lateStores }], guard := none }) (v := ?_) rfl (by kernel_rfl) (by kernel_rfl) (by kernel_rfl) (by kernel_rfl) (fun _ _ _ h => h) (Or.inl ⟨by rfl, ?_⟩) ?_; rotate_left; (intro w hw; clear hw; (try go_split_ands); go_simp; try (with_reducible rfl)); simp only [Act.put, List.setIfInBounds_toArray, List.set_cons_zero, List.set_cons_succ])
              have q0 := kk.head.at 0
              have f0 := kk.head.frozen 0
              simp only [List.getElem?_cons_zero] at q0
              (refine Walk.go (i := 9) (o := { dst := none, op := Op.store 51 (Operand.tmp 6) (Operand.tmp 24), type := 0, pos := "law.go:74", after := #[{ on := 7, ground := Ground.data }, { on := 5, ground := Ground.data }, { on := 3, ground := Ground.chain }, { on := 0, ground := Ground.phase }, { on := 1, ground := Ground.phase }, { on := 2, ground := Ground.phase }, { on := 3, ground := Ground.phase }, { on := 4, ground := Ground.phase }, { on := 5, ground := Ground.phase }, { on := 6, ground := Ground.textOnly Departure.lateStores }, { on := 7, ground := Ground.phase }, { on := 8, ground := Ground.phase }], guard := none }) (by kernel_rfl) rfl (fun K hK => ?_); go_simp; (replace kk := kk.set 0 (.int .i64 0); clear q0 f0); refine hK.out _ _ (⟨fun _ => (kk.get (b := w.heap.size) (t := 25) (c := tbl c pv) (by simp)).all, fun _ => trivial⟩) ?_; clear hK K; try simp only [Act.put, List.setIfInBounds_toArray, List.set_cons_zero, List.set_cons_succ])
              revert kk
              generalize z2.setCell ⟨NA, 0, none⟩ (.int .i64 0) = U9
              intro kk
              replace kk := kk.swap
              have q0 := kk.head.at 0
              have f0 := kk.head.frozen 0
              simp only [List.getElem?_cons_zero] at q0
              (refine Walk.go (i := 10) (o := { dst := none, op := Op.store 51 (Operand.tmp 7) (Operand.tmp 25), type := 0, pos := "law.go:74", after := #[{ on := 8, ground := Ground.data }, { on := 6, ground := Ground.data }, { on := 9, ground := Ground.chain }, { on := 0, ground := Ground.phase }, { on := 1, ground := Ground.phase }, { on := 2, ground := Ground.phase }, { on := 3, ground := Ground.phase }, { on := 4, ground := Ground.phase }, { on := 5, ground := Ground.phase }, { on := 6, ground := Ground.phase }, { on := 7, ground := Ground.phase }, { on := 8, ground := Ground.phase }, { on := 9, ground := Ground.phase }], guard := none }) (by kernel_rfl) rfl (fun K hK => ?_); go_simp; (replace kk := kk.set 0 (.int .i64 0); clear q0 f0); refine hK.out _ _ (⟨fun _ => (kk.get (b := w.heap.size) (t := 25) (c := tbl c pv) (by simp)).all, fun _ => trivial⟩) ?_; clear hK K; try simp only [Act.put, List.setIfInBounds_toArray, List.set_cons_zero, List.set_cons_succ])
              refine Walk.done (by kernel_rfl) ?_ _
              go_wp2_with fail
              go_meet
              case rel => exact ⟨_, _, rfl, rfl, kk.swap⟩
        · go_simp; (replace kk := kk.made 51 [.int .i64 0]); refine hK.out _ _ (⟨fun _ => (kk.get (b := w.heap.size) (t := 25) (c := tbl c pv) (by simp)).all, fun _ => trivial⟩) ?_; clear hK K; try simp only [Act.put, List.setIfInBounds_toArray, List.set_cons_zero, List.set_cons_succ]
          revert kk
          obtain ⟨NA, hNA⟩ : ∃ n, WG.heap.size = n := ⟨_, rfl⟩
          rw [hNA]
          clear hNA
          generalize WG.alloc (.cells [.int .i64 0].toArray 51) = V11
          intro kk
          refine Walk.both (i := 2) (j := 8) (oi := { dst := some 22, op := Op.call { callee := Callee.value (Operand.func 25), args := #[Operand.tmp 21], argTypes := #[3] }, type := 51, pos := "law.go:74", after := #[{ on := 1, ground := Ground.data }], guard := none }) (oj := { dst := some 7, op := Op.alloc 51, type := 0, pos := "law.go:74", after := #[], guard := none }) (by kernel_rfl) rfl rfl (fun K hK => ?_) (fun K hK => ?_)
          · go_simp; ((go_at_call 25; refine (of_any _ _).mono ?_; rintro e z1 ⟨rfl, dd⟩; replace kk := kk.step dd; clear dd)); refine hK.out _ _ (⟨fun _ => (kk.get (b := w.heap.size) (t := 25) (c := tbl c pv) (by simp)).all, fun _ => trivial⟩) ?_; clear hK K; try simp only [Act.put, List.setIfInBounds_toArray, List.set_cons_zero, List.set_cons_succ]
            refine Walk.both (i := 3) (j := 8) (oi := { dst := some 23, op := Op.call { callee := Callee.value (Operand.func 27), args := #[Operand.tmp 20, Operand.tmp 22], argTypes := #[25, 51] }, type := 52, pos := "law.go:74", after := #[{ on := 0, ground := Ground.data }, { on := 2, ground := Ground.data }, { on := 2, ground := Ground.chain }], guard := none }) (oj := { dst := some 7, op := Op.alloc 51, type := 0, pos := "law.go:74", after := #[], guard := none }) (by kernel_rfl) rfl rfl (fun K hK => ?_) (fun K hK => ?_)
            · go_simp; ((go_at_call 27; refine (h5 c pv l _ hb hI _ (HV.out.but kk.but) hx hl (hT _ _ HT.out kk.but)).mono ?_; rintro e z2 ⟨rfl, dd⟩; rw [HNV.out.1, HNV.out.2]; replace kk := kk.step dd; clear dd)); refine hK.out _ _ (⟨fun _ => (kk.get (b := w.heap.size) (t := 25) (c := tbl c pv) (by simp)).all, fun _ => trivial⟩) ?_; clear hK K; try simp only [Act.put, List.setIfInBounds_toArray, List.set_cons_zero, List.set_cons_succ]
              (refine Walk.take (i := 4) (oi := { dst := some 19, op := Op.move (Operand.tmp 23), type := 52, pos := "law.go:74", after := #[{ on := 3, ground := Ground.data }], guard := none }) (v := ?_) rfl (by kernel_rfl) (by kernel_rfl) (by kernel_rfl) (by kernel_rfl) (fun _ _ _ h => h) (Or.inl ⟨by rfl, ?_⟩) ?_; rotate_left; (intro w hw; clear hw; (try go_split_ands); go_simp; try (with_reducible rfl)); simp only [Act.put, List.setIfInBounds_toArray, List.set_cons_zero, List.set_cons_succ])
              (refine Walk.take (i := 5) (oi := { dst := some 24, op := Op.extract (Operand.tmp 19) 0, type := 51, pos := "law.go:74", after := #[{ on := 4, ground := Ground.data }], guard := none }) (v := ?_) rfl (by kernel_rfl) (by kernel_rfl) (by kernel_rfl) (by kernel_rfl) (fun _ _ _ h => h) (Or.inl ⟨by rfl, ?_⟩) ?_; rotate_left; (intro w hw; clear hw; (try go_split_ands); go_simp; try (with_reducible rfl)); simp only [Act.put, List.setIfInBounds_toArray, List.set_cons_zero, List.set_cons_succ])
              (refine Walk.take (i := 6) (oi := { dst := some 25, op := Op.extract (Operand.tmp 19) 1, type := 51, pos := "law.go:74", after := #[{ on := 4, ground := Ground.data }, { on := 9, ground := Ground.gcOnly Departure.lateStores }], guard := none }) (v := ?_) rfl (by kernel_rfl) (by kernel_rfl) (by kernel_rfl) (by kernel_rfl) (fun _ _ _ h => h) (Or.inl ⟨by rfl, ?_⟩) ?_; rotate_left; (intro w hw; clear hw; (try go_split_ands); go_simp; try (with_reducible rfl)); simp only [Act.put, List.setIfInBounds_toArray, List.set_cons_zero, List.set_cons_succ])
              (refine Walk.go (i := 8) (o := { dst := some 7, op := Op.alloc 51, type := 0, pos := "law.go:74", after := #[], guard := none }) (by kernel_rfl) rfl (fun K hK => ?_); go_simp; (replace kk := kk.made 51 [.int .i64 0]); refine hK.out _ _ (⟨fun _ => (kk.get (b := w.heap.size) (t := 25) (c := tbl c pv) (by simp)).all, fun _ => trivial⟩) ?_; clear hK K; try simp only [Act.put, List.setIfInBounds_toArray, List.set_cons_zero, List.set_cons_succ])
              revert kk
              obtain ⟨NB, hNB⟩ : ∃ n, z2.heap.size = n := ⟨_, rfl⟩
              rw [hNB]
              clear hNB
              generalize z2.alloc (.cells [.int .i64 0].toArray 51) = V12
              intro kk
              replace kk := kk.swap
              have q0 := kk.head.at 0
              have f0 := kk.head.frozen 0
              simp only [List.getElem?_cons_zero] at q0
              (refine Walk.go (i := 9) (o := { dst := none, op := Op.store 51 (Operand.tmp 6) (Operand.tmp 24), type := 0, pos := "law.go:74", after := #[{ on := 7, ground := Ground.data }, { on := 5, ground := Ground.data }, { on := 3, ground := Ground.chain }, { on := 0, ground := Ground.phase }, { on := 1, ground := Ground.phase }, { on := 2, ground := Ground.phase }, { on := 3, ground := Ground.phase }, { on := 4, ground := Ground.phase }, { on := 5, ground := Ground.phase }, { on := 6, ground := Ground.textOnly Departure.lateStores }, { on := 7, ground := Ground.phase }, { on := 8, ground := Ground.phase }], guard := none }) (by kernel_rfl) rfl (fun K hK => ?_); go_simp; (replace kk := kk.set 0 (.int .i64 0); clear q0 f0); refine hK.out _ _ (⟨fun _ => (kk.get (b := w.heap.size) (t := 25) (c := tbl c pv) (by simp)).all, fun _ => trivial⟩) ?_; clear hK K; try simp only [Act.put, List.setIfInBounds_toArray, List.set_cons_zero, List.set_cons_succ])
              revert kk
              generalize V12.setCell ⟨NA, 0, none⟩ (.int .i64 0) = U9
              intro kk
              replace kk := kk.swap
              have q0 := kk.head.at 0
              have f0 := kk.head.frozen 0
              simp only [List.getElem?_cons_zero] at q0
              (refine Walk.go (i := 10) (o := { dst := none, op := Op.store 51 (Operand.tmp 7) (Operand.tmp 25), type := 0, pos := "law.go:74", after := #[{ on := 8, ground := Ground.data }, { on := 6, ground := Ground.data }, { on := 9, ground := Ground.chain }, { on := 0, ground := Ground.phase }, { on := 1, ground := Ground.phase }, { on := 2, ground := Ground.phase }, { on := 3, ground := Ground.phase }, { on := 4, ground := Ground.phase }, { on := 5, ground := Ground.phase }, { on := 6, ground := Ground.phase }, { on := 7, ground := Ground.phase }, { on := 8, ground := Ground.phase }, { on := 9, ground := Ground.phase }], guard := none }) (by kernel_rfl) rfl (fun K hK => ?_); go_simp; (replace kk := kk.set 0 (.int .i64 0); clear q0 f0); refine hK.out _ _ (⟨fun _ => (kk.get (b := w.heap.size) (t := 25) (c := tbl c pv) (by simp)).all, fun _ => trivial⟩) ?_; clear hK K; try simp only [Act.put, List.setIfInBounds_toArray, List.set_cons_zero, List.set_cons_succ])
              refine Walk.done (by kernel_rfl) ?_ _
              go_wp2_with fail
              go_meet
              case rel => exact ⟨_, _, rfl, rfl, kk.swap⟩
            · go_simp; (replace kk := kk.made 51 [.int .i64 0]); refine hK.out _ _ (⟨fun _ => (kk.get (b := w.heap.size) (t := 25) (c := tbl c pv) (by simp)).all, fun _ => trivial⟩) ?_; clear hK K; try simp only [Act.put, List.setIfInBounds_toArray, List.set_cons_zero, List.set_cons_succ]
              revert kk
              obtain ⟨NB, hNB⟩ : ∃ n, z1.heap.size = n := ⟨_, rfl⟩
              rw [hNB]
              clear hNB
              generalize z1.alloc (.cells [.int .i64 0].toArray 51) = V13
              intro kk
              (refine Walk.go (i := 3) (o := { dst := some 23, op := Op.call { callee := Callee.value (Operand.func 27), args := #[Operand.tmp 20, Operand.tmp 22], argTypes := #[25, 51] }, type := 52, pos := "law.go:74", after := #[{ on := 0, ground := Ground.data }, { on := 2, ground := Ground.data }, { on := 2, ground := Ground.chain }], guard := none }) (by kernel_rfl) rfl (fun K hK => ?_); go_simp; ((go_at_call 27; refine (h5 c pv l _ hb hI _ (HV.out.but kk.but) hx hl (hT _ _ HT.out kk.but)).mono ?_; rintro e z2 ⟨rfl, dd⟩; rw [HNV.out.1, HNV.out.2]; replace kk := kk.step dd; clear dd)); refine hK.out _ _ (⟨fun _ => (kk.get (b := w.heap.size) (t := 25) (c := tbl c pv) (by simp)).all, fun _ => trivial⟩) ?_; clear hK K; try simp only [Act.put, List.setIfInBounds_toArray, List.set_cons_zero, List.set_cons_succ])
              (refine Walk.take (i := 4) (oi := { dst := some 19, op := Op.move (Operand.tmp 23), type := 52, pos := "law.go:74", after := #[{ on := 3, ground := Ground.data }], guard := none }) (v := ?_) rfl (by kernel_rfl) (by kernel_rfl) (by kernel_rfl) (by kernel_rfl) (fun _ _ _ h => h) (Or.inl ⟨by rfl, ?_⟩) ?_; rotate_left; (intro w hw; clear hw; (try go_split_ands); go_simp; try (with_reducible rfl)); simp only [Act.put, List.setIfInBounds_toArray, List.set_cons_zero, List.set_cons_succ])
              (refine Walk.take (i := 5) (oi := { dst := some 24, op := Op.extract (Operand.tmp 19) 0, type := 51, pos := "law.go:74", after := #[{ on := 4, ground := Ground.data }], guard := none }) (v := ?_) rfl (by kernel_rfl) (by kernel_rfl) (by kernel_rfl) (by kernel_rfl) (fun _ _ _ h => h) (Or.inl ⟨by rfl, ?_⟩) ?_; rotate_left; (intro w hw; clear hw; (try go_split_ands); go_simp; try (with_reducible rfl)); simp only [Act.put, List.setIfInBounds_toArray, List.set_cons_zero, List.set_cons_succ])
              (refine Walk.take (i := 6) (oi := { dst := some 25, op := Op.extract (Operand.tmp 19) 1, type := 51, pos := "law.go:74", after := #[{ on := 4, ground := Ground.data }, { on := 9, ground := Ground.gcOnly Departure.lateStores }], guard := none }) (v := ?_) rfl (by kernel_rfl) (by kernel_rfl) (by kernel_rfl) (by kernel_rfl) (fun _ _ _ h => h) (Or.inl ⟨by rfl, ?_⟩) ?_; rotate_left; (intro w hw; clear hw; (try go_split_ands); go_simp; try (with_reducible rfl)); simp only [Act.put, List.setIfInBounds_toArray, List.set_cons_zero, List.set_cons_succ])
              replace kk := kk.swap
              have q0 := kk.head.at 0
              have f0 := kk.head.frozen 0
              simp only [List.getElem?_cons_zero] at q0
              (refine Walk.go (i := 9) (o := { dst := none, op := Op.store 51 (Operand.tmp 6) (Operand.tmp 24), type := 0, pos := "law.go:74", after := #[{ on := 7, ground := Ground.data }, { on := 5, ground := Ground.data }, { on := 3, ground := Ground.chain }, { on := 0, ground := Ground.phase }, { on := 1, ground := Ground.phase }, { on := 2, ground := Ground.phase }, { on := 3, ground := Ground.phase }, { on := 4, ground := Ground.phase }, { on := 5, ground := Ground.phase }, { on := 6, ground := Ground.textOnly Departure.lateStores }, { on := 7, ground := Ground.phase }, { on := 8, ground := Ground.phase }], guard := none }) (by kernel_rfl) rfl (fun K hK => ?_); go_simp; (replace kk := kk.set 0 (.int .i64 0); clear q0 f0); refine hK.out _ _ (⟨fun _ => (kk.get (b := w.heap.size) (t := 25) (c := tbl c pv) (by simp)).all, fun _ => trivial⟩) ?_; clear hK K; try simp only [Act.put, List.setIfInBounds_toArray, List.set_cons_zero, List.set_cons_succ])
              revert kk
              generalize z2.setCell ⟨NA, 0, none⟩ (.int .i64 0) = U9
              intro kk
              replace kk := kk.swap
              have q0 := kk.head.at 0
              have f0 := kk.head.frozen 0
              simp only [List.getElem?_cons_zero] at q0
              (refine Walk.go (i := 10) (o := { dst := none, op := Op.store 51 (Operand.tmp 7) (Operand.tmp 25), type := 0, pos := "law.go:74", after := #[{ on := 8, ground := Ground.data }, { on := 6, ground := Ground.data }, { on := 9, ground := Ground.chain }, { on := 0, ground := Ground.phase }, { on := 1, ground := Ground.phase }, { on := 2, ground := Ground.phase }, { on := 3, ground := Ground.phase }, { on := 4, ground := Ground.phase }, { on := 5, ground := Ground.phase }, { on := 6, ground := Ground.phase }, { on := 7, ground := Ground.phase }, { on := 8, ground := Ground.phase }, { on := 9, ground := Ground.phase }], guard := none }) (by kernel_rfl) rfl (fun K hK => ?_); go_simp; (replace kk := kk.set 0 (.int .i64 0); clear q0 f0); refine hK.out _ _ (⟨fun _ => (kk.get (b := w.heap.size) (t := 25) (c := tbl c pv) (by simp)).all, fun _ => trivial⟩) ?_; clear hK K; try simp only [Act.put, List.setIfInBounds_toArray, List.set_cons_zero, List.set_cons_succ])
              refine Walk.done (by kernel_rfl) ?_ _
              go_wp2_with fail
              go_meet
              case rel => exact ⟨_, _, rfl, rfl, kk.swap⟩
          · go_simp; (replace kk := kk.made 51 [.int .i64 0]); refine hK.out _ _ (⟨fun _ => (kk.get (b := w.heap.size) (t := 25) (c := tbl c pv) (by simp)).all, fun _ => trivial⟩) ?_; clear hK K; try simp only [Act.put, List.setIfInBounds_toArray, List.set_cons_zero, List.set_cons_succ]
            revert kk
            obtain ⟨NB, hNB⟩ : ∃ n, V11.heap.size = n := ⟨_, rfl⟩
            rw [hNB]
            clear hNB
            generalize V11.alloc (.cells [.int .i64 0].toArray 51) = V14
            intro kk
            (refine Walk.go (i := 2) (o := { dst := some 22, op := Op.call { callee := Callee.value (Operand.func 25), args := #[Operand.tmp 21], argTypes := #[3] }, type := 51, pos := "law.go:74", after := #[{ on := 1, ground := Ground.data }], guard := none }) (by kernel_rfl) rfl (fun K hK => ?_); go_simp; ((go_at_call 25; refine (of_any _ _).mono ?_; rintro e z1 ⟨rfl, dd⟩; replace kk := kk.step dd; clear dd)); refine hK.out _ _ (⟨fun _ => (kk.get (b := w.heap.size) (t := 25) (c := tbl c pv) (by simp)).all, fun _ => trivial⟩) ?_; clear hK K; try simp only [Act.put, List.setIfInBounds_toArray, List.set_cons_zero, List.set_cons_succ])
            (refine Walk.go (i := 3) (o := { dst := some 23, op := Op.call { callee := Callee.value (Operand.func 27), args := #[Operand.tmp 20, Operand.tmp 22], argTypes := #[25, 51] }, type := 52, pos := "law.go:74", after := #[{ on := 0, ground := Ground.data }, { on := 2, ground := Ground.data }, { on := 2, ground := Ground.chain }], guard := none }) (by kernel_rfl) rfl (fun K hK => ?_); go_simp; ((go_at_call 27; refine (h5 c pv l _ hb hI _ (HV.out.but kk.but) hx hl (hT _ _ HT.out kk.but)).mono ?_; rintro e z2 ⟨rfl, dd⟩; rw [HNV.out.1, HNV.out.2]; replace kk := kk.step dd; clear dd)); refine hK.out _ _ (⟨fun _ => (kk.get (b := w.heap.size) (t := 25) (c := tbl c pv) (by simp)).all, fun _ => trivial⟩) ?_; clear hK K; try simp only [Act.put, List.setIfInBounds_toArray, List.set_cons_zero, List.set_cons_succ])
            (refine Walk.take (i := 4) (oi := { dst := some 19, op := Op.move (Operand.tmp 23), type := 52, pos := "law.go:74", after := #[{ on := 3, ground := Ground.data }], guard := none }) (v := ?_) rfl (by kernel_rfl) (by kernel_rfl) (by kernel_rfl) (by kernel_rfl) (fun _ _ _ h => h) (Or.inl ⟨by rfl, ?_⟩) ?_; rotate_left; (intro w hw; clear hw; (try go_split_ands); go_simp; try (with_reducible rfl)); simp only [Act.put, List.setIfInBounds_toArray, List.set_cons_zero, List.set_cons_succ])
            (refine Walk.take (i := 5) (oi := { dst := some 24, op := Op.extract (Operand.tmp 19) 0, type := 51, pos := "law.go:74", after := #[{ on := 4, ground := Ground.data }], guard := none }) (v := ?_) rfl (by kernel_rfl) (by kernel_rfl) (by kernel_rfl) (by kernel_rfl) (fun _ _ _ h => h) (Or.inl ⟨by rfl, ?_⟩) ?_; rotate_left; (intro w hw; clear hw; (try go_split_ands); go_simp; try (with_reducible rfl)); simp only [Act.put, List.setIfInBounds_toArray, List.set_cons_zero, List.set_cons_succ])
            (refine Walk.take (i := 6) (oi := { dst := some 25, op := Op.extract (Operand.tmp 19) 1, type := 51, pos := "law.go:74", after := #[{ on := 4, ground := Ground.data }, { on := 9, ground := Ground.gcOnly Departure.lateStores }], guard := none }) (v := ?_) rfl (by kernel_rfl) (by kernel_rfl) (by kernel_rfl) (by kernel_rfl) (fun _ _ _ h => h) (Or.inl ⟨by rfl, ?_⟩) ?_; rotate_left; (intro w hw; clear hw; (try go_split_ands); go_simp; try (with_reducible rfl)); simp only [Act.put, List.setIfInBounds_toArray, List.set_cons_zero, List.set_cons_succ])
            replace kk := kk.swap
            have q0 := kk.head.at 0
            have f0 := kk.head.frozen 0
            simp only [List.getElem?_cons_zero] at q0
            (refine Walk.go (i := 9) (o := { dst := none, op := Op.store 51 (Operand.tmp 6) (Operand.tmp 24), type := 0, pos := "law.go:74", after := #[{ on := 7, ground := Ground.data }, { on := 5, ground := Ground.data }, { on := 3, ground := Ground.chain }, { on := 0, ground := Ground.phase }, { on := 1, ground := Ground.phase }, { on := 2, ground := Ground.phase }, { on := 3, ground := Ground.phase }, { on := 4, ground := Ground.phase }, { on := 5, ground := Ground.phase }, { on := 6, ground := Ground.textOnly Departure.lateStores }, { on := 7, ground := Ground.phase }, { on := 8, ground := Ground.phase }], guard := none }) (by kernel_rfl) rfl (fun K hK => ?_); go_simp; (replace kk := kk.set 0 (.int .i64 0); clear q0 f0); refine hK.out _ _ (⟨fun _ => (kk.get (b := w.heap.size) (t := 25) (c := tbl c pv) (by simp)).all, fun _ => trivial⟩) ?_; clear hK K; try simp only [Act.put, List.setIfInBounds_toArray, List.set_cons_zero, List.set_cons_succ])
            revert kk
            generalize z2.setCell ⟨NA, 0, none⟩ (.int .i64 0) = U9
            intro kk
            replace kk := kk.swap
            have q0 := kk.head.at 0
            have f0 := kk.head.frozen 0
            simp only [List.getElem?_cons_zero] at q0
            (refine Walk.go (i := 10) (o := { dst := none, op := Op.store 51 (Operand.tmp 7) (Operand.tmp 25), type := 0, pos := "law.go:74", after := #[{ on := 8, ground := Ground.data }, { on := 6, ground := Ground.data }, { on := 9, ground := Ground.chain }, { on := 0, ground := Ground.phase }, { on := 1, ground := Ground.phase }, { on := 2, ground := Ground.phase }, { on := 3, ground := Ground.phase }, { on := 4, ground := Ground.phase }, { on := 5, ground := Ground.phase }, { on := 6, ground := Ground.phase }, { on := 7, ground := Ground.phase }, { on := 8, ground := Ground.phase }, { on := 9, ground := Ground.phase }], guard := none }) (by kernel_rfl) rfl (fun K hK => ?_); go_simp; (replace kk := kk.set 0 (.int .i64 0); clear q0 f0); refine hK.out _ _ (⟨fun _ => (kk.get (b := w.heap.size) (t := 25) (c := tbl c pv) (by simp)).all, fun _ => trivial⟩) ?_; clear hK K; try simp only [Act.put, List.setIfInBounds_toArray, List.set_cons_zero, List.set_cons_succ])
            refine Walk.done (by kernel_rfl) ?_ _
            go_wp2_with fail
            go_meet
            case rel => exact ⟨_, _, rfl, rfl, kk.swap⟩
        · go_simp; (replace kk := kk.made 51 [.int .i64 0]); refine hK.out _ _ (⟨fun _ => (kk.get (b := w.heap.size) (t := 25) (c := tbl c pv) (by simp)).all, fun _ => trivial⟩) ?_; clear hK K; try simp only [Act.put, List.setIfInBounds_toArray, List.set_cons_zero, List.set_cons_succ]
          revert kk
          obtain ⟨NB, hNB⟩ : ∃ n, WG.heap.size = n := ⟨_, rfl⟩
          rw [hNB]
          clear hNB
          generalize WG.alloc (.cells [.int .i64 0].toArray 51) = V15
          intro kk
          refine Walk.both (i := 2) (j := 7) (oi := { dst := some 22, op := Op.call { callee := Callee.value (Operand.func 25), args := #[Operand.tmp 21], argTypes := #[3] }, type := 51, pos := "law.go:74", after := #[{ on := 1, ground := Ground.data }], guard := none }) (oj := { dst := some 6, op := Op.alloc 51, type := 0, pos := "law.go:74", after := #[], guard := none }) (by kernel_rfl) rfl rfl (fun K hK => ?_) (fun K hK => ?_)
          · go_simp; ((go_at_call 25; refine (of_any _ _).mono ?_; rintro e z1 ⟨rfl, dd⟩; replace kk := kk.step dd; clear dd)); refine hK.out _ _ (⟨fun _ => (kk.get (b := w.heap.size) (t := 25) (c := tbl c pv) (by simp)).all, fun _ => trivial⟩) ?_; clear hK K; try simp only [Act.put, List.setIfInBounds_toArray, List.set_cons_zero, List.set_cons_succ]
            refine Walk.both (i := 3) (j := 7) (oi := { dst := some 23, op := Op.call { callee := Callee.value (Operand.func 27), args := #[Operand.tmp 20, Operand.tmp 22], argTypes := #[25, 51] }, type := 52, pos := "law.go:74", after := #[{ on := 0, ground := Ground.data }, { on := 2, ground := Ground.data }, { on := 2, ground := Ground.chain }], guard := none }) (oj := { dst := some 6, op := Op.alloc 51, type := 0, pos := "law.go:74", after := #[], guard := none }) (by kernel_rfl) rfl rfl (fun K hK => ?_) (fun K hK => ?_)
            · go_simp; ((go_at_call 27; refine (h5 c pv l _ hb hI _ (HV.out.but kk.but) hx hl (hT _ _ HT.out kk.but)).mono ?_; rintro e z2 ⟨rfl, dd⟩; rw [HNV.out.1, HNV.out.2]; replace kk := kk.step dd; clear dd)); refine hK.out _ _ (⟨fun _ => (kk.get (b := w.heap.size) (t := 25) (c := tbl c pv) (by simp)).all, fun _ => trivial⟩) ?_; clear hK K; try simp only [Act.put, List.setIfInBounds_toArray, List.set_cons_zero, List.set_cons_succ]
              (refine Walk.take (i := 4) (oi := { dst := some 19, op := Op.move (Operand.tmp 23), type := 52, pos := "law.go:74", after := #[{ on := 3, ground := Ground.data }], guard := none }) (v := ?_) rfl (by kernel_rfl) (by kernel_rfl) (by kernel_rfl) (by kernel_rfl) (fun _ _ _ h => h) (Or.inl ⟨by rfl, ?_⟩) ?_; rotate_left; (intro w hw; clear hw; (try go_split_ands); go_simp; try (with_reducible rfl)); simp only [Act.put, List.setIfInBounds_toArray, List.set_cons_zero, List.set_cons_succ])
              (refine Walk.take (i := 5) (oi := { dst := some 24, op := Op.extract (Operand.tmp 19) 0, type := 51, pos := "law.go:74", after := #[{ on := 4, ground := Ground.data }], guard := none }) (v := ?_) rfl (by kernel_rfl) (by kernel_rfl) (by kernel_rfl) (by kernel_rfl) (fun _ _ _ h => h) (Or.inl ⟨by rfl, ?_⟩) ?_; rotate_left; (intro w hw; clear hw; (try go_split_ands); go_simp; try (with_reducible rfl)); simp only [Act.put, List.setIfInBounds_toArray, List.set_cons_zero, List.set_cons_succ])
              (refine Walk.take (i := 6) (oi := { dst := some 25, op := Op.extract (Operand.tmp 19) 1, type := 51, pos := "law.go:74", after := #[{ on := 4, ground := Ground.data }, { on := 9, ground := Ground.gcOnly Departure.lateStores }], guard := none }) (v := ?_) rfl (by kernel_rfl) (by kernel_rfl) (by kernel_rfl) (by kernel_rfl) (fun _ _ _ h => h) (Or.inl ⟨by rfl, ?_⟩) ?_; rotate_left; (intro w hw; clear hw; (try go_split_ands); go_simp; try (with_reducible rfl)); simp only [Act.put, List.setIfInBounds_toArray, List.set_cons_zero, List.set_cons_succ])
              (refine Walk.go (i := 7) (o := { dst := some 6, op := Op.alloc 51, type := 0, pos := "law.go:74", after := #[], guard := none }) (by kernel_rfl) rfl (fun K hK => ?_); go_simp; (replace kk := kk.made 51 [.int .i64 0]); refine hK.out _ _ (⟨fun _ => (kk.get (b := w.heap.size) (t := 25) (c := tbl c pv) (by simp)).all, fun _ => trivial⟩) ?_; clear hK K; try simp only [Act.put, List.setIfInBounds_toArray, List.set_cons_zero, List.set_cons_succ])
              revert kk
              obtain ⟨NA, hNA⟩ : ∃ n, z2.heap.size = n := ⟨_, rfl⟩
              rw [hNA]
              clear hNA
              generalize z2.alloc (.cells [.int .i64 0].toArray 51) = V16
              intro kk
              have q0 := kk.head.at 0
              have f0 := kk.head.frozen 0
              simp only [List.getElem?_cons_zero] at q0
              (refine Walk.go (i := 9) (o := { dst := none, op := Op.store 51 (Operand.tmp 6) (Operand.tmp 24), type := 0, pos := "law.go:74", after := #[{ on := 7, ground := Ground.data }, { on := 5, ground := Ground.data }, { on := 3, ground := Ground.chain }, { on := 0, ground := Ground.phase }, { on := 1, ground := Ground.phase }, { on := 2, ground := Ground.phase }, { on := 3, ground := Ground.phase }, { on := 4, ground := Ground.phase }, { on := 5, ground := Ground.phase }, { on := 6, ground := Ground.textOnly Departure.lateStores }, { on := 7, ground := Ground.phase }, { on := 8, ground := Ground.phase }], guard := none }) (by kernel_rfl) rfl (fun K hK => ?_); go_simp; (replace kk := kk.set 0 (.int .i64 0); clear q0 f0); refine hK.out _ _ (⟨fun _ => (kk.get (b := w.heap.size) (t := 25) (c := tbl c pv) (by simp)).all, fun _ => trivial⟩) ?_; clear hK K; try simp only [Act.put, List.setIfInBounds_toArray, List.set_cons_zero, List.set_cons_succ])
              revert kk
              generalize V16.setCell ⟨NA, 0, none⟩ (.int .i64 0) = U9
              intro kk
              replace kk := kk.swap
              have q0 := kk.head.at 0
              have f0 := kk.head.frozen 0
              simp only [List.getElem?_cons_zero] at q0
              (refine Walk.go (i := 10) (o := { dst := none, op := Op.store 51 (Operand.tmp 7) (Operand.tmp 25), type := 0, pos := "law.go:74", after := #[{ on := 8, ground := Ground.data }, { on := 6, ground := Ground.data }, { on := 9, ground := Ground.chain }, { on := 0, ground := Ground.phase }, { on := 1, ground := Ground.phase }, { on := 2, ground := Ground.phase }, { on := 3, ground := Ground.phase }, { on := 4, ground := Ground.phase }, { on := 5, ground := Ground.phase }, { on := 6, ground := Ground.phase }, { on := 7, ground := Ground.phase }, { on := 8, ground := Ground.phase }, { on := 9, ground := Ground.phase }], guard := none }) (by kernel_rfl) rfl (fun K hK => ?_); go_simp; (replace kk := kk.set 0 (.int .i64 0); clear q0 f0); refine hK.out _ _ (⟨fun _ => (kk.get (b := w.heap.size) (t := 25) (c := tbl c pv) (by simp)).all, fun _ => trivial⟩) ?_; clear hK K; try simp only [Act.put, List.setIfInBounds_toArray, List.set_cons_zero, List.set_cons_succ])
              refine Walk.done (by kernel_rfl) ?_ _
              go_wp2_with fail
              go_meet
              case rel => exact ⟨_, _, rfl, rfl, kk.swap⟩
            · go_simp; (replace kk := kk.made 51 [.int .i64 0]); refine hK.out _ _ (⟨fun _ => (kk.get (b := w.heap.size) (t := 25) (c := tbl c pv) (by simp)).all, fun _ => trivial⟩) ?_; clear hK K; try simp only [Act.put, List.setIfInBounds_toArray, List.set_cons_zero, List.set_cons_succ]
              revert kk
              obtain ⟨NA, hNA⟩ : ∃ n, z1.heap.size = n := ⟨_, rfl⟩
              rw [hNA]
              clear hNA
              generalize z1.alloc (.cells [.int .i64 0].toArray 51) = V17
              intro kk
              (refine Walk.go (i := 3) (o := { dst := some 23, op := Op.call { callee := Callee.value (Operand.func 27), args := #[Operand.tmp 20, Operand.tmp 22], argTypes := #[25, 51] }, type := 52, pos := "law.go:74", after := #[{ on := 0, ground := Ground.data }, { on := 2, ground := Ground.data }, { on := 2, ground := Ground.chain }], guard := none }) (by kernel_rfl) rfl (fun K hK => ?_); go_simp; ((go_at_call 27; refine (h5 c pv l _ hb hI _ (HV.out.but kk.but) hx hl (hT _ _ HT.out kk.but)).mono ?_; rintro e z2 ⟨rfl, dd⟩; rw [HNV.out.1, HNV.out.2]; replace kk := kk.step dd; clear dd)); refine hK.out _ _ (⟨fun _ => (kk.get (b := w.heap.size) (t := 25) (c := tbl c pv) (by simp)).all, fun _ => trivial⟩) ?_; clear hK K; try simp only [Act.put, List.setIfInBounds_toArray, List.set_cons_zero, List.set_cons_succ])
              (refine Walk.take (i := 4) (oi := { dst := some 19, op := Op.move (Operand.tmp 23), type := 52, pos := "law.go:74", after := #[{ on := 3, ground := Ground.data }], guard := none }) (v := ?_) rfl (by kernel_rfl) (by kernel_rfl) (by kernel_rfl) (by kernel_rfl) (fun _ _ _ h => h) (Or.inl ⟨by rfl, ?_⟩) ?_; rotate_left; (intro w hw; clear hw; (try go_split_ands); go_simp; try (with_reducible rfl)); simp only [Act.put, List.setIfInBounds_toArray, List.set_cons_zero, List.set_cons_succ])
              (refine Walk.take (i := 5) (oi := { dst := some 24, op := Op.extract (Operand.tmp 19) 0, type := 51, pos := "law.go:74", after := #[{ on := 4, ground := Ground.data }], guard := none }) (v := ?_) rfl (by kernel_rfl) (by kernel_rfl) (by kernel_rfl) (by kernel_rfl) (fun _ _ _ h => h) (Or.inl ⟨by rfl, ?_⟩) ?_; rotate_left; (intro w hw; clear hw; (try go_split_ands); go_simp; try (with_reducible rfl)); simp only [Act.put, List.setIfInBounds_toArray, List.set_cons_zero, List.set_cons_succ])
              (refine Walk.take (i := 6) (oi := { dst := some 25, op := Op.extract (Operand.tmp 19) 1, type := 51, pos := "law.go:74", after := #[{ on := 4, ground := Ground.data }, { on := 9, ground := Ground.gcOnly Departure.lateStores }], guard := none }) (v := ?_) rfl (by kernel_rfl) (by kernel_rfl) (by kernel_rfl) (by kernel_rfl) (fun _ _ _ h => h) (Or.inl ⟨by rfl, ?_⟩) ?_; rotate_left; (intro w hw; clear hw; (try go_split_ands); go_simp; try (with_reducible rfl)); simp only [Act.put, List.setIfInBounds_toArray, List.set_cons_zero, List.set_cons_succ])
              have q0 := kk.head.at 0
              have f0 := kk.head.frozen 0
              simp only [List.getElem?_cons_zero] at q0
              (refine Walk.go (i := 9) (o := { dst := none, op := Op.store 51 (Operand.tmp 6) (Operand.tmp 24), type := 0, pos := "law.go:74", after := #[{ on := 7, ground := Ground.data }, { on := 5, ground := Ground.data }, { on := 3, ground := Ground.chain }, { on := 0, ground := Ground.phase }, { on := 1, ground := Ground.phase }, { on := 2, ground := Ground.phase }, { on := 3, ground := Ground.phase }, { on := 4, ground := Ground.phase }, { on := 5, ground := Ground.phase }, { on := 6, ground := Ground.textOnly Departure.lateStores }, { on := 7, ground := Ground.phase }, { on := 8, ground := Ground.phase }], guard := none }) (by kernel_rfl) rfl (fun K hK => ?_); go_simp; (replace kk := kk.set 0 (.int .i64 0); clear q0 f0); refine hK.out _ _ (⟨fun _ => (kk.get (b := w.heap.size) (t := 25) (c := tbl c pv) (by simp)).all, fun _ => trivial⟩) ?_; clear hK K; try simp only [Act.put, List.setIfInBounds_toArray, List.set_cons_zero, List.set_cons_succ])
              revert kk
              generalize z2.setCell ⟨NA, 0, none⟩ (.int .i64 0) = U9
              intro kk
              replace kk := kk.swap
              have q0 := kk.head.at 0
              have f0 := kk.head.frozen 0
              simp only [List.getElem?_cons_zero] at q0
              (refine Walk.go (i := 10) (o := { dst := none, op := Op.store 51 (Operand.tmp 7) (Operand.tmp 25), type := 0, pos := "law.go:74", after := #[{ on := 8, ground := Ground.data }, { on := 6, ground := Ground.data }, { on := 9, ground := Ground.chain }, { on := 0, ground := Ground.phase }, { on := 1, ground := Ground.phase }, { on := 2, ground := Ground.phase }, { on := 3, ground := Ground.phase }, { on := 4, ground := Ground.phase }, { on := 5, ground := Ground.phase }, { on := 6, ground := Ground.phase }, { on := 7, ground := Ground.phase }, { on := 8, ground := Ground.phase }, { on := 9, ground := Ground.phase }], guard := none }) (by kernel_rfl) rfl (fun K hK => ?_); go_simp; (replace kk := kk.set 0 (.int .i64 0); clear q0 f0); refine hK.out _ _ (⟨fun _ => (kk.get (b := w.heap.size) (t := 25) (c := tbl c pv) (by simp)).all, fun _ => trivial⟩) ?_; clear hK K; try simp only [Act.put, List.setIfInBounds_toArray, List.set_cons_zero, List.set_cons_succ])
              refine Walk.done (by kernel_rfl) ?_ _
              go_wp2_with fail
              go_meet
              case rel => exact ⟨_, _, rfl, rfl, kk.swap⟩
          · go_simp; (replace kk := kk.made 51 [.int .i64 0]); refine hK.out _ _ (⟨fun _ => (kk.get (b := w.heap.size) (t := 25) (c := tbl c pv) (by simp)).all, fun _ => trivial⟩) ?_; clear hK K; try simp only [Act.put, List.setIfInBounds_toArray, List.set_cons_zero, List.set_cons_succ]
            revert kk
            obtain ⟨NA, hNA⟩ : ∃ n, V15.heap.size = n := ⟨_, rfl⟩
            rw [hNA]
            clear hNA
            generalize V15.alloc (.cells [.int .i64 0].toArray 51) = V18
            intro kk
            (refine Walk.go (i := 2) (o := { dst := some 22, op := Op.call { callee := Callee.value (Operand.func 25), args := #[Operand.tmp 21], argTypes := #[3] }, type := 51, pos := "law.go:74", after := #[{ on := 1, ground := Ground.data }], guard := none }) (by kernel_rfl) rfl (fun K hK => ?_); go_simp; ((go_at_call 25; refine (of_any _ _).mono ?_; rintro e z1 ⟨rfl, dd⟩; replace kk := kk.step dd; clear dd)); refine hK.out _ _ (⟨fun _ => (kk.get (b := w.heap.size) (t := 25) (c := tbl c pv) (by simp)).all, fun _ => trivial⟩) ?_; clear hK K; try simp only [Act.put, List.setIfInBounds_toArray, List.set_cons_zero, List.set_cons_succ])
            (refine Walk.go (i := 3) (o := { dst := some 23, op := Op.call { callee := Callee.value (Operand.func 27), args := #[Operand.tmp 20, Operand.tmp 22], argTypes := #[25, 51] }, type := 52, pos := "law.go:74", after := #[{ on := 0, ground := Ground.data }, { on := 2, ground := Ground.data }, { on := 2, ground := Ground.chain }], guard := none }) (by kernel_rfl) rfl (fun K hK => ?_); go_simp; ((go_at_call 27; refine (h5 c pv l _ hb hI _ (HV.out.but kk.but) hx hl (hT _ _ HT.out kk.but)).mono ?_; rintro e z2 ⟨rfl, dd⟩; rw [HNV.out.1, HNV.out.2]; replace kk := kk.step dd; clear dd)); refine hK.out _ _ (⟨fun _ => (kk.get (b := w.heap.size) (t := 25) (c := tbl c pv) (by simp)).all, fun _ => trivial⟩) ?_; clear hK K; try simp only [Act.put, List.setIfInBounds_toArray, List.set_cons_zero, List.set_cons_succ])
            (refine Walk.take (i := 4) (oi := { dst := some 19, op := Op.move (Operand.tmp 23), type := 52, pos := "law.go:74", after := #[{ on := 3, ground := Ground.data }], guard := none }) (v := ?_) rfl (by kernel_rfl) (by kernel_rfl) (by kernel_rfl) (by kernel_rfl) (fun _ _ _ h => h) (Or.inl ⟨by rfl, ?_⟩) ?_; rotate_left; (intro w hw; clear hw; (try go_split_ands); go_simp; try (with_reducible rfl)); simp only [Act.put, List.setIfInBounds_toArray, List.set_cons_zero, List.set_cons_succ])
            (refine Walk.take (i := 5) (oi := { dst := some 24, op := Op.extract (Operand.tmp 19) 0, type := 51, pos := "law.go:74", after := #[{ on := 4, ground := Ground.data }], guard := none }) (v := ?_) rfl (by kernel_rfl) (by kernel_rfl) (by kernel_rfl) (by kernel_rfl) (fun _ _ _ h => h) (Or.inl ⟨by rfl, ?_⟩) ?_; rotate_left; (intro w hw; clear hw; (try go_split_ands); go_simp; try (with_reducible rfl)); simp only [Act.put, List.setIfInBounds_toArray, List.set_cons_zero, List.set_cons_succ])
            (refine Walk.take (i := 6) (oi := { dst := some 25, op := Op.extract (Operand.tmp 19) 1, type := 51, pos := "law.go:74", after := #[{ on := 4, ground := Ground.data }, { on := 9, ground := Ground.gcOnly Departure.lateStores }], guard := none }) (v := ?_) rfl (by kernel_rfl) (by kernel_rfl) (by kernel_rfl) (by kernel_rfl) (fun _ _ _ h => h) (Or.inl ⟨by rfl, ?_⟩) ?_; rotate_left; (intro w hw; clear hw; (try go_split_ands); go_simp; try (with_reducible rfl)); simp only [Act.put, List.setIfInBounds_toArray, List.set_cons_zero, List.set_cons_succ])
            have q0 := kk.head.at 0
            have f0 := kk.head.frozen 0
            simp only [List.getElem?_cons_zero] at q0
            (refine Walk.go (i := 9) (o := { dst := none, op := Op.store 51 (Operand.tmp 6) (Operand.tmp 24), type := 0, pos := "law.go:74", after := #[{ on := 7, ground := Ground.data }, { on := 5, ground := Ground.data }, { on := 3, ground := Ground.chain }, { on := 0, ground := Ground.phase }, { on := 1, ground := Ground.phase }, { on := 2, ground := Ground.phase }, { on := 3, ground := Ground.phase }, { on := 4, ground := Ground.phase }, { on := 5, ground := Ground.phase }, { on := 6, ground := Ground.textOnly Departure.lateStores }, { on := 7, ground := Ground.phase }, { on := 8, ground := Ground.phase }], guard := none }) (by kernel_rfl) rfl (fun K hK => ?_); go_simp; (replace kk := kk.set 0 (.int .i64 0); clear q0 f0); refine hK.out _ _ (⟨fun _ => (kk.get (b := w.heap.size) (t := 25) (c := tbl c pv) (by simp)).all, fun _ => trivial⟩) ?_; clear hK K; try simp only [Act.put, List.setIfInBounds_toArray, List.set_cons_zero, List.set_cons_succ])
            revert kk
            generalize z2.setCell ⟨NA, 0, none⟩ (.int .i64 0) = U9
            intro kk
            replace kk := kk.swap
            have q0 := kk.head.at 0
            have f0 := kk.head.frozen 0
            simp only [List.getElem?_cons_zero] at q0
            (refine Walk.go (i := 10) (o := { dst := none, op := Op.store 51 (Operand.tmp 7) (Operand.tmp 25), type := 0, pos := "law.go:74", after := #[{ on := 8, ground := Ground.data }, { on := 6, ground := Ground.data }, { on := 9, ground := Ground.chain }, { on := 0, ground := Ground.phase }, { on := 1, ground := Ground.phase }, { on := 2, ground := Ground.phase }, { on := 3, ground := Ground.phase }, { on := 4, ground := Ground.phase }, { on := 5, ground := Ground.phase }, { on := 6, ground := Ground.phase }, { on := 7, ground := Ground.phase }, { on := 8, ground := Ground.phase }, { on := 9, ground := Ground.phase }], guard := none }) (by kernel_rfl) rfl (fun K hK => ?_); go_simp; (replace kk := kk.set 0 (.int .i64 0); clear q0 f0); refine hK.out _ _ (⟨fun _ => (kk.get (b := w.heap.size) (t := 25) (c := tbl c pv) (by simp)).all, fun _ => trivial⟩) ?_; clear hK K; try simp only [Act.put, List.setIfInBounds_toArray, List.set_cons_zero, List.set_cons_succ])
            refine Walk.done (by kernel_rfl) ?_ _
            go_wp2_with fail
            go_meet
            case rel => exact ⟨_, _, rfl, rfl, kk.swap⟩
      case rest =>
        clear kk
        obtain ⟨NA, NB, rfl, rfl, kk⟩ := hcut
        go_wp2_with fail
        replace kk := kk.drew
        refine wp_region_till (S := fun U => U.cell? ⟨NA, 0, none⟩ = some (.int .i64 0) ∧ U.cell? ⟨NB, 0, none⟩ = some (.int .i64 0) ∧ U.cell? ⟨CB, 1, none⟩ = some (.int .i64 0) ∧ U.cell? ⟨CB, 0, none⟩ = some (.int .i64 0)) (R := fun _ => True) (k := 100) (m := 100) (by kernel_rfl) ⟨(kk.get (b := NA) (t := 51) (c := [.int .i64 0]) (by simp)).at 0, (kk.get (b := NB) (t := 51) (c := [.int .i64 0]) (by simp)).at 0, (kk.get (b := CB) (t := 36) (c := [.int .i64 0, .int .i64 0]) (by simp)).at 1, (kk.get (b := CB) (t := 36) (c := [.int .i64 0, .int .i64 0]) (by simp)).at 0⟩ trivial ?_
        revert kk
        generalize wc.drew = WH
        intro kk
        (refine Walk.take (i := 0) (oi := { dst := some 26, op := Op.load 51 (Operand.tmp 6), type := 51, pos := "law.go:75", after := #[], guard := none }) (v := ?_) rfl (by kernel_rfl) (by kernel_rfl) (by kernel_rfl) (by kernel_rfl) (fun _ _ _ h => h) (Or.inl ⟨by rfl, ?_⟩) ?_; rotate_left; (intro w hw; have hS1 := hw.1 (by kernel_rfl); clear hw; (try dsimp only at hS1); (try go_split_ands); go_simp; try (with_reducible rfl)); simp only [Act.put, List.setIfInBounds_toArray, List.set_cons_zero, List.set_cons_succ])
        (refine Walk.take (i := 2) (oi := { dst := some 28, op := Op.fieldAddr 36 (Operand.tmp 5) 1, type := 0, pos := "law.go:75", after := #[], guard := none }) (v := ?_) rfl (by kernel_rfl) (by kernel_rfl) (by kernel_rfl) (by kernel_rfl) (fun _ _ _ h => h) (Or.inl ⟨by rfl, ?_⟩) ?_; rotate_left; (intro w hw; clear hw; (try go_split_ands); go_simp; try (with_reducible rfl)); simp only [Act.put, List.setIfInBounds_toArray, List.set_cons_zero, List.set_cons_succ])
        (refine Walk.take (i := 3) (oi := { dst := some 29, op := Op.load 3 (Operand.tmp 28), type := 3, pos := "law.go:75", after := #[{ on := 2, ground := Ground.data }], guard := none }) (v := ?_) rfl (by kernel_rfl) (by kernel_rfl) (by kernel_rfl) (by kernel_rfl) (fun _ _ _ h => h) (Or.inl ⟨by rfl, ?_⟩) ?_; rotate_left; (intro w hw; have hS1 := hw.1 (by kernel_rfl); clear hw; (try dsimp only at hS1); (try go_split_ands); go_simp; try (with_reducible rfl)); simp only [Act.put, List.setIfInBounds_toArray, List.set_cons_zero, List.set_cons_succ])
        (refine Walk.go (i := 1) (o := { dst := some 27, op := Op.call { callee := Callee.value (Operand.func 26), args := #[Operand.tmp 26, Operand.const (Value.pointer none)], argTypes := #[51, 62] }, type := 3, pos := "law.go:75", after := #[{ on := 0, ground := Ground.data }], guard := none }) (by kernel_rfl) rfl (fun K hK => ?_); go_simp; ((go_at_call 26; refine (tell_none _ _).mono ?_; rintro e v1 ⟨rfl, dd⟩; replace kk := kk.step dd; clear dd)); refine hK.out _ _ (⟨fun _ => ⟨(kk.get (b := NA) (t := 51) (c := [.int .i64 0]) (by simp)).at 0, (kk.get (b := NB) (t := 51) (c := [.int .i64 0]) (by simp)).at 0, (kk.get (b := CB) (t := 36) (c := [.int .i64 0, .int .i64 0]) (by simp)).at 1, (kk.get (b := CB) (t := 36) (c := [.int .i64 0, .int .i64 0]) (by simp)).at 0⟩, fun _ => trivial⟩) ?_; clear hK K; try simp only [Act.put, List.setIfInBounds_toArray, List.set_cons_zero, List.set_cons_succ])
        (refine Walk.take (i := 4) (oi := { dst := some 30, op := Op.binOp BinOp.eql 3 (Operand.tmp 27) (Operand.tmp 29) 3, type := 4, pos := "law.go:75", after := #[{ on := 1, ground := Ground.data }, { on := 3, ground := Ground.data }], guard := none }) (v := ?_) rfl (by kernel_rfl) (by kernel_rfl) (by kernel_rfl) (by kernel_rfl) (fun _ _ _ h => h) (Or.inl ⟨by rfl, ?_⟩) ?_; rotate_left; (intro w hw; clear hw; (try go_split_ands); go_simp; try (with_reducible rfl)); simp only [Act.put, List.setIfInBounds_toArray, List.set_cons_zero, List.set_cons_succ])
        (refine Walk.take (i := 5) (oi := { dst := some 31, op := Op.move (Operand.tmp 30), type := 4, pos := "law.go:75", after := #[{ on := 4, ground := Ground.data }, { on := 1, ground := Ground.chain }], guard := none }) (v := ?_) rfl (by kernel_rfl) (by kernel_rfl) (by kernel_rfl) (by kernel_rfl) (fun _ _ _ h => h) (Or.inl ⟨by rfl, ?_⟩) ?_; rotate_left; (intro w hw; clear hw; (try go_split_ands); go_simp; try (with_reducible rfl)); simp only [Act.put, List.setIfInBounds_toArray, List.set_cons_zero, List.set_cons_succ])
        (refine Walk.take (i := 6) (oi := { dst := some 32, op := Op.load 51 (Operand.tmp 7), type := 51, pos := "law.go:75", after := #[{ on := 5, ground := Ground.guard }], guard := some (5, true) }) (v := ?_) rfl (by kernel_rfl) (by kernel_rfl) (by kernel_rfl) (by kernel_rfl) (fun _ _ _ h => h) (Or.inl ⟨by rfl, ?_⟩) ?_; rotate_left; (intro w hw; have hS1 := hw.1 (by kernel_rfl); clear hw; (try dsimp only at hS1); (try go_split_ands); go_simp; try (with_reducible rfl)); simp only [Act.put, List.setIfInBounds_toArray, List.set_cons_zero, List.set_cons_succ])
        (refine Walk.take (i := 8) (oi := { dst := some 34, op := Op.fieldAddr 36 (Operand.tmp 5) 0, type := 0, pos := "law.go:75", after := #[{ on := 5, ground := Ground.guard }], guard := some (5, true) }) (v := ?_) rfl (by kernel_rfl) (by kernel_rfl) (by kernel_rfl) (by kernel_rfl) (fun _ _ _ h => h) (Or.inl ⟨by rfl, ?_⟩) ?_; rotate_left; (intro w hw; clear hw; (try go_split_ands); go_simp; try (with_reducible rfl)); simp only [Act.put, List.setIfInBounds_toArray, List.set_cons_zero, List.set_cons_succ])
        (refine Walk.take (i := 9) (oi := { dst := some 35, op := Op.load 3 (Operand.tmp 34), type := 3, pos := "law.go:75", after := #[{ on := 8, ground := Ground.data }, { on := 5, ground := Ground.guard }], guard := some (5, true) }) (v := ?_) rfl (by kernel_rfl) (by kernel_rfl) (by kernel_rfl) (by kernel_rfl) (fun _ _ _ h => h) (Or.inl ⟨by rfl, ?_⟩) ?_; rotate_left; (intro w hw; have hS1 := hw.1 (by kernel_rfl); clear hw; (try dsimp only at hS1); (try go_split_ands); go_simp; try (with_reducible rfl)); simp only [Act.put, List.setIfInBounds_toArray, List.set_cons_zero, List.set_cons_succ])
        (refine Walk.go (i := 7) (o := { dst := some 33, op := Op.call { callee := Callee.value (Operand.func 26), args := #[Operand.tmp 32, Operand.const (Value.pointer none)], argTypes := #[51, 62] }, type := 3, pos := "law.go:75", after := #[{ on := 6, ground := Ground.data }, { on := 5, ground := Ground.chain }, { on := 5, ground := Ground.guard }], guard := some (5, true) }) (by kernel_rfl) rfl (fun K hK => ?_); go_simp; ((go_at_call 26; refine (tell_none _ _).mono ?_; rintro e v2 ⟨rfl, dd⟩; replace kk := kk.step dd; clear dd)); refine hK.out _ _ (⟨fun _ => ⟨(kk.get (b := NA) (t := 51) (c := [.int .i64 0]) (by simp)).at 0, (kk.get (b := NB) (t := 51) (c := [.int .i64 0]) (by simp)).at 0, (kk.get (b := CB) (t := 36) (c := [.int .i64 0, .int .i64 0]) (by simp)).at 1, (kk.get (b := CB) (t := 36) (c := [.int .i64 0, .int .i64 0]) (by simp)).at 0⟩, fun _ => trivial⟩) ?_; clear hK K; try simp only [Act.put, List.setIfInBounds_toArray, List.set_cons_zero, List.set_cons_succ])
        (refine Walk.take (i := 10) (oi := { dst := some 36, op := Op.binOp BinOp.eql 3 (Operand.tmp 33) (Operand.tmp 35) 3, type := 4, pos := "law.go:75", after := #[{ on := 7, ground := Ground.data }, { on := 9, ground := Ground.data }, { on := 5, ground := Ground.guard }], guard := some (5, true) }) (v := ?_) rfl (by kernel_rfl) (by kernel_rfl) (by kernel_rfl) (by kernel_rfl) (fun _ _ _ h => h) (Or.inl ⟨by rfl, ?_⟩) ?_; rotate_left; (intro w hw; clear hw; (try go_split_ands); go_simp; try (with_reducible rfl)); simp only [Act.put, List.setIfInBounds_toArray, List.set_cons_zero, List.set_cons_succ])
        (refine Walk.take (i := 11) (oi := { dst := some 37, op := Op.pick (Operand.tmp 31) (Operand.tmp 36) (Operand.const (Value.bool false)), type := 4, pos := "law.go:75", after := #[{ on := 5, ground := Ground.data }, { on := 10, ground := Ground.data }], guard := none }) (v := ?_) rfl (by kernel_rfl) (by kernel_rfl) (by kernel_rfl) (by kernel_rfl) (fun _ _ _ h => h) (Or.inl ⟨by rfl, ?_⟩) ?_; rotate_left; (intro w hw; clear hw; (try go_split_ands); go_simp; try (with_reducible rfl)); simp only [Act.put, List.setIfInBounds_toArray, List.set_cons_zero, List.set_cons_succ])
        (refine Walk.take (i := 12) (oi := { dst := some 4, op := Op.assign (Operand.tmp 37), type := 4, pos := "law.go:75", after := #[{ on := 11, ground := Ground.data }, { on := 7, ground := Ground.chain }, { on := 0, ground := Ground.phase }, { on := 1, ground := Ground.phase }, { on := 2, ground := Ground.phase }, { on := 3, ground := Ground.phase }, { on := 4, ground := Ground.phase }, { on := 5, ground := Ground.phase }, { on := 6, ground := Ground.phase }, { on := 7, ground := Ground.phase }, { on := 8, ground := Ground.phase }, { on := 9, ground := Ground.phase }, { on := 10, ground := Ground.phase }, { on := 11, ground := Ground.phase }], guard := none }) (v := ?_) rfl (by kernel_rfl) (by kernel_rfl) (by kernel_rfl) (by kernel_rfl) (fun _ _ _ h => h) (Or.inl ⟨by rfl, ?_⟩) ?_; rotate_left; (intro w hw; clear hw; (try go_split_ands); go_simp; try (with_reducible rfl)); simp only [Act.put, List.setIfInBounds_toArray, List.set_cons_zero, List.set_cons_succ])
        refine Walk.done (by kernel_rfl) ?_ _
        go_wp2_with fail
        go_ret
        exact ⟨rfl, kk.but⟩

end Go.Proofs.Ytadcfndjbhcfbaa
