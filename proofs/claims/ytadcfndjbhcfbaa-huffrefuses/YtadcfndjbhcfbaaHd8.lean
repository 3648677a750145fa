/- What the program's CodeSec answers. -/
import Derived.Test.YtadcfndjbhcfbaaHd7
import Derived.Test.YtadcfndjbhcfbaaHu9
namespace Go.Proofs.Ytadcfndjbhcfbaa
set_option linter.unusedVariables false
open Go.ChangeShapes Go.WideShapes Go.ChangeAt Go.RowKit

set_option maxRecDepth 100000 in
theorem zero256 : ∀ (W : World), (zeroValue 63).run Try.prog W = .ok (.agg (tab .i64 256 (fun _ => 0)).toArray) W :=
  (zero_of_info (n := 256) (by kernel_rfl)).1

theorem View256 {W : World} {b : Nat} {f : Nat → Int} (h : Cells W b 63 (tab .i64 256 f)) : View W .i64 (.slice (some ⟨b, 0, none⟩) 256 256) ((List.range 256).map f) := by
  refine ⟨some ⟨b, 0, none⟩, 256, by simp, fun _ => ⟨b, 0, rfl, h.lt, fun i hi => ?_⟩⟩
  have hi' : i < 256 := by simpa using hi
  rw [Nat.zero_add, h.cell i hi']
  simp

theorem cod_in (c : Nat → Int) (l : List Int) (v : Nat) : I64 (codV c l v) ∧ I64 (codN c l v) := by
  rcases cod_cases c l v with ⟨h1, h2⟩ | ⟨ho, p, hp, _, h1, h2⟩
  · rw [h1, h2]; exact ⟨⟨by omega, by omega⟩, ⟨by omega, by omega⟩⟩
  · have q := p_in ho hp
    have := pow_to (lenP c p) q.2.1
    rw [h1, h2]; exact ⟨⟨by omega, by omega⟩, ⟨by omega, by omega⟩⟩

theorem word_range (f : Nat → Int) (b : Int) : word ((List.range 256).map f) b = if 0 ≤ b ∧ b ≤ 255 then f b.toNat else 0 := by
  by_cases h : 0 ≤ b ∧ b ≤ 255
  · rw [if_pos h]
    have e : b = (b.toNat : Int) := by omega
    generalize hn : b.toNat = n at *
    subst e
    rw [word_at _ _ (by simp; omega)]
    simp
  · rw [if_neg h, word_out _ _ (by simp; omega)]

theorem upd_lt (f : Nat → Int) (k : Nat) : tab .i64 256 (upd (fun j => if j < k then f j else 0) k (f k)) = tab .i64 256 (fun j => if j < k + 1 then f j else 0) := tab_congr _ _ _ _ (fun j _ => by
  unfold upd
  by_cases e : j = k
  · subst e; rw [if_pos rfl, if_pos (by omega)]
  · rw [if_neg e]; dsimp only
    by_cases h : j < k
    · rw [if_pos h, if_pos (by omega)]
    · rw [if_neg h, if_neg (by omega)])

set_option maxHeartbeats 6400000 in
set_option maxRecDepth 100000 in
theorem codeSec_spec (c : Nat → Int) (pv : Value) (l : List Int) (b : Int) (hb : I64 b) (hI : ∀ j, j < 16 → I64 (c j)) (w : World) (hv : View w .u8 pv l) (hx : ∀ x ∈ l, 0 ≤ x ∧ x ≤ 255) (hl : l.length ≤ 140737488355328) : Calls Try.prog 27 #[.agg (tbl c pv).toArray, S64 b] w fun e w' => e = .returned (.tuple #[S64 (codVI c l b), S64 (codNI c l b)]) ∧ But Nowhere w w' := by
  have HV : Hid (View w .u8 pv l) := hv
  obtain ⟨ao, cap, rfl⟩ := hv.slice
  clear hv
  have huT := Try.underlying25
  have hiT : (Try.prog.info? 25).map (·.size) = some (tbl c (.slice ao l.length cap)).length := by rw [tbl_length]; kernel_rfl
  have hz := zero256
  have HIV : Hid (I64s ((List.range 256).map (codV c l))) := fun x hx => by
    obtain ⟨j, _, rfl⟩ := List.mem_map.1 hx
    exact (cod_in c l j).1
  have HIN : Hid (I64s ((List.range 256).map (codN c l))) := fun x hx => by
    obtain ⟨j, _, rfl⟩ := List.mem_map.1 hx
    exact (cod_in c l j).2
  have HWV : Hid (word ((List.range 256).map (codV c l)) b = codVI c l b) := word_range (codV c l) b
  have HWN : Hid (word ((List.range 256).map (codN c l)) b = codNI c l b) := word_range (codN c l) b
  have kk := ((((((Keep.start w).made 25 (tbl c (.slice ao l.length cap))).made 51 [.int .i64 b]).made 51 [.int .i64 0]).made 51 [.int .i64 0]).made 63 (tab .i64 256 (fun _ => 0))).made 63 (tab .i64 256 (fun _ => 0))
  simp only [World.size_alloc] at kk
  have hR := (kk.get (b := w.heap.size) (t := 25) (c := tbl c (.slice ao l.length cap)) (by simp)).all
  go_enter Try.func27, Try.ntmps27
  go_wp2_with (refine wpList_load_mid rfl 25 (.tmp 2) rfl (w.heap.size) 0 rfl (tbl c (.slice ao l.length cap)) _ ?_ huT rfl hiT ?_; exact hR)
  clear hR huT hiT hz
  revert kk
  generalize (((((w.alloc (.cells (tbl c (.slice ao l.length cap)).toArray 25)).alloc (.cells #[.int .i64 b] 51)).alloc (.cells #[.int .i64 0] 51)).alloc (.cells #[.int .i64 0] 51)).alloc (.cells (tab .i64 256 (fun _ => 0)).toArray 63)).alloc (.cells (tab .i64 256 (fun _ => 0)).toArray 63) = W0
  intro kk
  refine (codes_spec c _ l hI W0 (HV.out.but kk.but) hx hl).mono ?_
  rintro e W1 ⟨rfl, dd⟩
  replace kk := kk.step dd
  clear dd
  have HC : Hid (∀ k : Nat, k < 256 → ∀ V : World, (Instr.index 37 (.agg (tab .i64 512 (both (codN c l) (codV c l))).toArray) (.int .i64 (k : Int))).run Try.prog V = .ok (.agg #[.int .i64 (codN c l k), .int .i64 (codV c l k)]) V) := fun k hk V => by
    rw [index_code _ k hk V]
    have e1 : both (codN c l) (codV c l) (k * 2) = codN c l k := by unfold both; rw [if_pos (by omega), show k * 2 / 2 = k by omega]
    have e2 : both (codN c l) (codV c l) (k * 2 + 1) = codV c l k := by unfold both; rw [if_neg (by omega), show (k * 2 + 1) / 2 = k by omega]
    rw [e1, e2]
  have k0 : Keep w W1 [(w.heap.size + 1 + 1 + 1 + 1 + 1, 63, tab .i64 256 (fun j => if j < 0 then codN c l j else 0)), (w.heap.size + 1 + 1 + 1 + 1, 63, tab .i64 256 (fun j => if j < 0 then codV c l j else 0)), (w.heap.size + 1 + 1 + 1, 51, [.int .i64 0]), (w.heap.size + 1 + 1, 51, [.int .i64 0]), (w.heap.size + 1, 51, [.int .i64 b]), (w.heap.size, 25, tbl c (.slice ao l.length cap))] := by
    have e : ∀ f : Nat → Int, tab .i64 256 (fun j => if j < 0 then f j else 0) = tab .i64 256 (fun _ => 0) := fun f => tab_congr _ _ _ _ (fun j _ => by simp)
    rw [e, e]
    exact kk
  clear kk
  go_wp2_with fail
  go_loopw [12] (fun i V => ∃ k : Nat, k ≤ 256 ∧ i = .int .i64 k ∧ Keep w V [(w.heap.size + 1 + 1 + 1 + 1 + 1, 63, tab .i64 256 (fun j => if j < k then codN c l j else 0)), (w.heap.size + 1 + 1 + 1 + 1, 63, tab .i64 256 (fun j => if j < k then codV c l j else 0)), (w.heap.size + 1 + 1 + 1, 51, [.int .i64 0]), (w.heap.size + 1 + 1, 51, [.int .i64 0]), (w.heap.size + 1, 51, [.int .i64 b]), (w.heap.size, 25, tbl c (.slice ao l.length cap))]) (fun i _ => 256 - (intOf i).toNat)
  case atStart => exact ⟨0, by omega, rfl, k0⟩
  case round =>
    clear k0
    obtain ⟨k, hk, rfl, kk⟩ := hrel
    by_cases hlt : (k : Int) < 256
    · have hkN : k < 256 := by omega
      have i0 : (0 : Int) ≤ (k : Int) := by omega
      have hx := HC.out k hkN
      have kc := kk.made 36 [.int .i64 (codN c l k), .int .i64 (codV c l k)]
      have l4 := (kk.get (b := w.heap.size + 1 + 1 + 1 + 1) (t := 63) (c := tab .i64 256 (fun j => if j < k then codV c l j else 0)) (by simp)).lt
      have l5 := (kk.get (b := w.heap.size + 1 + 1 + 1 + 1 + 1) (t := 63) (c := tab .i64 256 (fun j => if j < k then codN c l j else 0)) (by simp)).lt
      have hU1 : tab .i64 256 (upd (fun j => if j < k then codV c l j else 0) k (codV c l k)) = tab .i64 256 (fun j => if j < (k + 1) then codV c l j else 0) := upd_lt (codV c l) k
      have hU2 : tab .i64 256 (upd (fun j => if j < k then codN c l j else 0) k (codN c l k)) = tab .i64 256 (fun j => if j < (k + 1) then codN c l j else 0) := upd_lt (codN c l) k
      have HU : Hid _ := And.intro hU1 hU2
      clear kk hU1 hU2
      obtain ⟨Nk, hNk⟩ : ∃ x, codN c l k = x := ⟨_, rfl⟩
      obtain ⟨Vk, hVk⟩ : ∃ x, codV c l k = x := ⟨_, rfl⟩
      rw [hNk, hVk] at hx kc HU
      clear hNk hVk
      go_wp2_with fail
      revert kc
      generalize wr.alloc (.cells #[.int .i64 Nk, .int .i64 Vk] 36) = W5
      obtain ⟨CB, hCB⟩ : ∃ n, wr.heap.size = n := ⟨_, rfl⟩
      rw [hCB] at l4 l5 ⊢
      clear hCB hx
      intro kc
      have gCd := kc.head
      have hC4 : CB ≠ w.heap.size + 1 + 1 + 1 + 1 := by omega
      have hC5 : CB ≠ w.heap.size + 1 + 1 + 1 + 1 + 1 := by omega
      have g4 := kc.get (b := w.heap.size + 1 + 1 + 1 + 1) (t := 63) (c := tab .i64 256 (fun j => if j < k then codV c l j else 0)) (by simp)
      have g5 := (kc.get (b := w.heap.size + 1 + 1 + 1 + 1 + 1) (t := 63) (c := tab .i64 256 (fun j => if j < k then codN c l j else 0)) (by simp)).far (c := w.heap.size + 1 + 1 + 1 + 1) (by omega) k (.int .i64 Vk)
      have q4 := g4.cell k hkN
      have f4 := g4.frozen k
      have q5 := g5.cell k hkN
      have f5 := g5.frozen k
      have kX := (kc.drop.swap.setTab k Vk).swap.setTab k Nk
      rw [HU.out.1, HU.out.2] at kX
      have HX : Hid _ := kX.drew
      clear kX kc g4 g5
      refine wp_region_till (S := fun V' => V'.cell? ⟨CB, 0, none⟩ = some (.int .i64 Nk) ∧ V'.cell? ⟨CB, 1, none⟩ = some (.int .i64 Vk)) (R := fun _ => True) (k := 100) (m := 100) (by kernel_rfl) ⟨gCd.at 0, gCd.at 1⟩ trivial ?_
      (refine Walk.take (i := 0) (oi := { dst := some 16, op := Op.move (Operand.tmp 8), type := 3, pos := "huff.go:65", after := #[], guard := none }) (v := ?_) rfl (by kernel_rfl) (by kernel_rfl) (by kernel_rfl) (by kernel_rfl) (fun _ _ _ h => h) (Or.inl ⟨by rfl, ?_⟩) ?_; rotate_left; (intro w hw; clear hw; (try go_split_ands); go_simp; try (with_reducible rfl)); simp only [Act.put, List.setIfInBounds_toArray, List.set_cons_zero, List.set_cons_succ])
      (refine Walk.take (i := 1) (oi := { dst := some 17, op := Op.move (Operand.tmp 8), type := 3, pos := "huff.go:65", after := #[{ on := 7, ground := Ground.gcOnly Departure.lateStores }], guard := none }) (v := ?_) rfl (by kernel_rfl) (by kernel_rfl) (by kernel_rfl) (by kernel_rfl) (fun _ _ _ h => h) (Or.inl ⟨by rfl, ?_⟩) ?_; rotate_left; (intro w hw; clear hw; (try go_split_ands); go_simp; try (with_reducible rfl)); simp only [Act.put, List.setIfInBounds_toArray, List.set_cons_zero, List.set_cons_succ])
      (refine Walk.take (i := 2) (oi := { dst := some 18, op := Op.fieldAddr 36 (Operand.tmp 9) 1, type := 0, pos := "huff.go:65", after := #[], guard := none }) (v := ?_) rfl (by kernel_rfl) (by kernel_rfl) (by kernel_rfl) (by kernel_rfl) (fun _ _ _ h => h) (Or.inl ⟨by rfl, ?_⟩) ?_; rotate_left; (intro w hw; clear hw; (try go_split_ands); go_simp; try (with_reducible rfl)); simp only [Act.put, List.setIfInBounds_toArray, List.set_cons_zero, List.set_cons_succ])
      (refine Walk.take (i := 3) (oi := { dst := some 19, op := Op.load 3 (Operand.tmp 18), type := 3, pos := "huff.go:65", after := #[{ on := 2, ground := Ground.data }], guard := none }) (v := ?_) rfl (by kernel_rfl) (by kernel_rfl) (by kernel_rfl) (by kernel_rfl) (fun _ _ _ h => h) (Or.inl ⟨by rfl, ?_⟩) ?_; rotate_left; (intro w hw; have hS1 := hw.1 (by kernel_rfl); clear hw; (try dsimp only at hS1); (try go_split_ands); go_simp; try (with_reducible rfl)); simp only [Act.put, List.setIfInBounds_toArray, List.set_cons_zero, List.set_cons_succ])
      (refine Walk.take (i := 4) (oi := { dst := some 20, op := Op.fieldAddr 36 (Operand.tmp 9) 0, type := 0, pos := "huff.go:65", after := #[{ on := 7, ground := Ground.gcOnly Departure.lateStores }], guard := none }) (v := ?_) rfl (by kernel_rfl) (by kernel_rfl) (by kernel_rfl) (by kernel_rfl) (fun _ _ _ h => h) (Or.inl ⟨by rfl, ?_⟩) ?_; rotate_left; (intro w hw; clear hw; (try go_split_ands); go_simp; try (with_reducible rfl)); simp only [Act.put, List.setIfInBounds_toArray, List.set_cons_zero, List.set_cons_succ])
      (refine Walk.take (i := 5) (oi := { dst := some 21, op := Op.load 3 (Operand.tmp 20), type := 3, pos := "huff.go:65", after := #[{ on := 4, ground := Ground.data }, { on := 7, ground := Ground.gcOnly Departure.lateStores }], guard := none }) (v := ?_) rfl (by kernel_rfl) (by kernel_rfl) (by kernel_rfl) (by kernel_rfl) (fun _ _ _ h => h) (Or.inl ⟨by rfl, ?_⟩) ?_; rotate_left; (intro w hw; have hS1 := hw.1 (by kernel_rfl); clear hw; (try dsimp only at hS1); (try go_split_ands); go_simp; try (with_reducible rfl)); simp only [Act.put, List.setIfInBounds_toArray, List.set_cons_zero, List.set_cons_succ])
      (refine Walk.take (i := 6) (oi := { dst := some 22, op := Op.indexAddr 63 (Operand.tmp 6) (Operand.tmp 16), type := 0, pos := "huff.go:65", after := #[{ on := 0, ground := Ground.data }, { on := 0, ground := Ground.phase }, { on := 1, ground := Ground.textOnly Departure.lateStores }, { on := 2, ground := Ground.phase }, { on := 3, ground := Ground.phase }, { on := 4, ground := Ground.textOnly Departure.lateStores }, { on := 5, ground := Ground.textOnly Departure.lateStores }], guard := none }) (v := ?_) rfl (by kernel_rfl) (by kernel_rfl) (by kernel_rfl) (by kernel_rfl) (fun _ _ _ h => h) (Or.inl ⟨by rfl, ?_⟩) ?_; rotate_left; (intro w hw; clear hw; (try go_split_ands); go_simp; try (with_reducible rfl)); simp only [Act.put, List.setIfInBounds_toArray, List.set_cons_zero, List.set_cons_succ])
      have gC_1 := gCd.far (c := w.heap.size + 1 + 1 + 1 + 1) hC4 k (.int .i64 Vk)
      (refine Walk.go (i := 7) (o := { dst := none, op := Op.store 3 (Operand.tmp 22) (Operand.tmp 19), type := 0, pos := "huff.go:65", after := #[{ on := 6, ground := Ground.data }, { on := 3, ground := Ground.data }, { on := 0, ground := Ground.phase }, { on := 1, ground := Ground.textOnly Departure.lateStores }, { on := 2, ground := Ground.phase }, { on := 3, ground := Ground.phase }, { on := 4, ground := Ground.textOnly Departure.lateStores }, { on := 5, ground := Ground.textOnly Departure.lateStores }], guard := none }) (by kernel_rfl) rfl (fun K hK => ?_); go_simp; (skip); refine hK.out _ _ (⟨fun _ => ⟨gC_1.at 0, gC_1.at 1⟩, fun _ => trivial⟩) ?_; clear hK K; try simp only [Act.put, List.setIfInBounds_toArray, List.set_cons_zero, List.set_cons_succ])
      (refine Walk.take (i := 8) (oi := { dst := some 23, op := Op.indexAddr 63 (Operand.tmp 7) (Operand.tmp 17), type := 0, pos := "huff.go:65", after := #[{ on := 1, ground := Ground.data }, { on := 0, ground := Ground.phase }, { on := 1, ground := Ground.phase }, { on := 2, ground := Ground.phase }, { on := 3, ground := Ground.phase }, { on := 4, ground := Ground.phase }, { on := 5, ground := Ground.phase }, { on := 6, ground := Ground.phase }, { on := 7, ground := Ground.phase }], guard := none }) (v := ?_) rfl (by kernel_rfl) (by kernel_rfl) (by kernel_rfl) (by kernel_rfl) (fun _ _ _ h => h) (Or.inl ⟨by rfl, ?_⟩) ?_; rotate_left; (intro w hw; clear hw; (try go_split_ands); go_simp; try (with_reducible rfl)); simp only [Act.put, List.setIfInBounds_toArray, List.set_cons_zero, List.set_cons_succ])
      have gC := (gCd.far (c := w.heap.size + 1 + 1 + 1 + 1) hC4 k (.int .i64 Vk)).far (c := w.heap.size + 1 + 1 + 1 + 1 + 1) hC5 k (.int .i64 Nk)
      (refine Walk.go (i := 9) (o := { dst := none, op := Op.store 3 (Operand.tmp 23) (Operand.tmp 21), type := 0, pos := "huff.go:65", after := #[{ on := 8, ground := Ground.data }, { on := 5, ground := Ground.data }, { on := 7, ground := Ground.chain }, { on := 0, ground := Ground.phase }, { on := 1, ground := Ground.phase }, { on := 2, ground := Ground.phase }, { on := 3, ground := Ground.phase }, { on := 4, ground := Ground.phase }, { on := 5, ground := Ground.phase }, { on := 6, ground := Ground.phase }, { on := 7, ground := Ground.phase }], guard := none }) (by kernel_rfl) rfl (fun K hK => ?_); go_simp; (skip); refine hK.out _ _ (⟨fun _ => ⟨gC.at 0, gC.at 1⟩, fun _ => trivial⟩) ?_; clear hK K; try simp only [Act.put, List.setIfInBounds_toArray, List.set_cons_zero, List.set_cons_succ])
      refine Walk.done (by kernel_rfl) ?_ _
      clear gC gC_1 gCd q4 f4 q5 f5
      go_wp2_with fail
      go_roundw
      case rel => exact ⟨k + 1, by omega, by go_num, HX.out⟩
      case measure => simp [intOf]; omega
    · obtain rfl : k = 256 := by omega
      have e : ∀ f : Nat → Int, tab .i64 256 (fun j => if j < 256 then f j else 0) = tab .i64 256 f := fun f => tab_congr _ _ _ _ (fun j hj => by rw [if_pos hj])
      rw [e, e] at kk
      have hIV := HIV.out
      have hIN := HIN.out
      clear e HC HV
      go_wp2_with fail
      replace kk := kk.drew
      refine wp_region_till (S := fun V' => V'.cell? ⟨w.heap.size + 1, 0, none⟩ = some (.int .i64 b)) (R := fun _ => True) (k := 100) (m := 100) (by kernel_rfl) ((kk.get (b := w.heap.size + 1) (t := 51) (c := [.int .i64 b]) (by simp)).at 0) trivial ?_
      revert kk
      generalize wr.drew = WG
      intro kk
      (refine Walk.take (i := 0) (oi := { dst := some 25, op := Op.slice 63 (Operand.tmp 6) none none none, type := 65, pos := "huff.go:67", after := #[], guard := none }) (v := ?_) rfl (by kernel_rfl) (by kernel_rfl) (by kernel_rfl) (by kernel_rfl) (fun _ _ _ h => h) (Or.inl ⟨by rfl, ?_⟩) ?_; rotate_left; (intro w hw; clear hw; (try go_split_ands); go_simp; try (with_reducible rfl)); simp only [Act.put, List.setIfInBounds_toArray, List.set_cons_zero, List.set_cons_succ])
      (refine Walk.take (i := 1) (oi := { dst := some 26, op := Op.load 51 (Operand.tmp 3), type := 51, pos := "huff.go:67", after := #[], guard := none }) (v := ?_) rfl (by kernel_rfl) (by kernel_rfl) (by kernel_rfl) (by kernel_rfl) (fun _ _ _ h => h) (Or.inl ⟨by rfl, ?_⟩) ?_; rotate_left; (intro w hw; have hS1 := hw.1 (by kernel_rfl); clear hw; (try dsimp only at hS1); (try go_split_ands); go_simp; try (with_reducible rfl)); simp only [Act.put, List.setIfInBounds_toArray, List.set_cons_zero, List.set_cons_succ])
      (refine Walk.take (i := 3) (oi := { dst := some 28, op := Op.slice 63 (Operand.tmp 7) none none none, type := 65, pos := "huff.go:67", after := #[], guard := none }) (v := ?_) rfl (by kernel_rfl) (by kernel_rfl) (by kernel_rfl) (by kernel_rfl) (fun _ _ _ h => h) (Or.inl ⟨by rfl, ?_⟩) ?_; rotate_left; (intro w hw; clear hw; (try go_split_ands); go_simp; try (with_reducible rfl)); simp only [Act.put, List.setIfInBounds_toArray, List.set_cons_zero, List.set_cons_succ])
      (refine Walk.take (i := 4) (oi := { dst := some 29, op := Op.load 51 (Operand.tmp 3), type := 51, pos := "huff.go:67", after := #[], guard := none }) (v := ?_) rfl (by kernel_rfl) (by kernel_rfl) (by kernel_rfl) (by kernel_rfl) (fun _ _ _ h => h) (Or.inl ⟨by rfl, ?_⟩) ?_; rotate_left; (intro w hw; have hS1 := hw.1 (by kernel_rfl); clear hw; (try dsimp only at hS1); (try go_split_ands); go_simp; try (with_reducible rfl)); simp only [Act.put, List.setIfInBounds_toArray, List.set_cons_zero, List.set_cons_succ])
      (refine Walk.go (i := 2) (o := { dst := some 27, op := Op.call { callee := Callee.value (Operand.func 36), args := #[Operand.tmp 25, Operand.tmp 26], argTypes := #[65, 51] }, type := 51, pos := "huff.go:67", after := #[{ on := 0, ground := Ground.data }, { on := 1, ground := Ground.data }], guard := none }) (by kernel_rfl) rfl (fun K hK => ?_); go_simp; ((go_at_call 36; refine (look_any (View256 (kk.get (b := w.heap.size + 1 + 1 + 1 + 1) (t := 63) (c := tab .i64 256 (codV c l)) (by simp))) hIV (by simp) b hb).mono ?_; rintro e y1 ⟨rfl, dd⟩; rw [HWV.out]; replace kk := kk.step dd; clear dd)); refine hK.out _ _ (⟨fun _ => (kk.get (b := w.heap.size + 1) (t := 51) (c := [.int .i64 b]) (by simp)).at 0, fun _ => trivial⟩) ?_; clear hK K; try simp only [Act.put, List.setIfInBounds_toArray, List.set_cons_zero, List.set_cons_succ])
      (refine Walk.go (i := 5) (o := { dst := some 30, op := Op.call { callee := Callee.value (Operand.func 36), args := #[Operand.tmp 28, Operand.tmp 29], argTypes := #[65, 51] }, type := 51, pos := "huff.go:67", after := #[{ on := 3, ground := Ground.data }, { on := 4, ground := Ground.data }, { on := 2, ground := Ground.chain }], guard := none }) (by kernel_rfl) rfl (fun K hK => ?_); go_simp; ((go_at_call 36; refine (look_any (View256 (kk.get (b := w.heap.size + 1 + 1 + 1 + 1 + 1) (t := 63) (c := tab .i64 256 (codN c l)) (by simp))) hIN (by simp) b hb).mono ?_; rintro e y2 ⟨rfl, dd⟩; rw [HWN.out]; replace kk := kk.step dd; clear dd)); refine hK.out _ _ (⟨fun _ => (kk.get (b := w.heap.size + 1) (t := 51) (c := [.int .i64 b]) (by simp)).at 0, fun _ => trivial⟩) ?_; clear hK K; try simp only [Act.put, List.setIfInBounds_toArray, List.set_cons_zero, List.set_cons_succ])
      have g2 := kk.get (b := w.heap.size + 1 + 1) (t := 51) (c := [.int .i64 0]) (by simp)
      have g3 := kk.get (b := w.heap.size + 1 + 1 + 1) (t := 51) (c := [.int .i64 0]) (by simp)
      have gb := kk.get (b := w.heap.size + 1) (t := 51) (c := [.int .i64 b]) (by simp)
      have hbb := kk.but
      have c2 := g2.at 0
      have f2 := g2.frozen 0
      have c3 := (g3.far (c := w.heap.size + 1 + 1) (by omega) 0 (.int .i64 (codVI c l b))).at 0
      have f3 := (g3.far (c := w.heap.size + 1 + 1) (by omega) 0 (.int .i64 (codVI c l b))).frozen 0
      simp only [List.getElem?_cons_zero] at c2 c3
      have b1 := gb.far (c := w.heap.size + 1 + 1) (by omega) 0 (.int .i64 (codVI c l b))
      have b2 := b1.far (c := w.heap.size + 1 + 1 + 1) (by omega) 0 (.int .i64 (codNI c l b))
      have X2 := (g2.set 0 (.int .i64 (codVI c l b))).far (c := w.heap.size + 1 + 1 + 1) (by omega) 0 (.int .i64 (codNI c l b))
      have X3 := (g3.far (c := w.heap.size + 1 + 1) (by omega) 0 (.int .i64 (codVI c l b))).set 0 (.int .i64 (codNI c l b))
      have XB := (hbb.setCell (p := ⟨w.heap.size + 1 + 1, 0, none⟩) (fun q => by simp at q; omega) (.int .i64 (codVI c l b))).setCell (p := ⟨w.heap.size + 1 + 1 + 1, 0, none⟩) (fun q => by simp at q; omega) (.int .i64 (codNI c l b))
      (refine Walk.go (i := 6) (o := { dst := none, op := Op.store 51 (Operand.tmp 4) (Operand.tmp 27), type := 0, pos := "huff.go:67", after := #[{ on := 2, ground := Ground.data }, { on := 5, ground := Ground.chain }, { on := 0, ground := Ground.phase }, { on := 1, ground := Ground.phase }, { on := 2, ground := Ground.phase }, { on := 3, ground := Ground.textOnly Departure.lateStoresUnsure }, { on := 4, ground := Ground.textOnly Departure.lateStores }, { on := 5, ground := Ground.textOnly Departure.lateStoresUnsure }], guard := none }) (by kernel_rfl) rfl (fun K hK => ?_); go_simp; (skip); refine hK.out _ _ (⟨fun _ => b1.at 0, fun _ => trivial⟩) ?_; clear hK K; try simp only [Act.put, List.setIfInBounds_toArray, List.set_cons_zero, List.set_cons_succ])
      (refine Walk.go (i := 7) (o := { dst := none, op := Op.store 51 (Operand.tmp 5) (Operand.tmp 30), type := 0, pos := "huff.go:67", after := #[{ on := 5, ground := Ground.data }, { on := 6, ground := Ground.chain }, { on := 0, ground := Ground.phase }, { on := 1, ground := Ground.phase }, { on := 2, ground := Ground.phase }, { on := 3, ground := Ground.phase }, { on := 4, ground := Ground.phase }, { on := 5, ground := Ground.phase }, { on := 6, ground := Ground.phase }], guard := none }) (by kernel_rfl) rfl (fun K hK => ?_); go_simp; (skip); refine hK.out _ _ (⟨fun _ => b2.at 0, fun _ => trivial⟩) ?_; clear hK K; try simp only [Act.put, List.setIfInBounds_toArray, List.set_cons_zero, List.set_cons_succ])
      refine Walk.done (by kernel_rfl) ?_ _
      go_wp2_with fail
      exact bodyPost_ret (results_sec2 rfl _ _ _ _ _ _ rfl rfl (X2.at 0) (X3.at 0)) rfl ⟨rfl, XB⟩

end Go.Proofs.Ytadcfndjbhcfbaa
