/- What the program's FindSec answers. -/
import Derived.Sort.CutIn
import Derived.Test.YtadcfndjbhcfbaaHd6
import Derived.Test.YtadcfndjbhcfbaaHuLook
namespace Go.Proofs.Ytadcfndjbhcfbaa
set_option linter.unusedVariables false
open Go.ChangeShapes Go.WideShapes Go.ChangeAt Go.RowKit Go.Shelf

attribute [local go_sem] Oper.semAt_some wide_fn wide_depth Fence.inRound_fn Fence.inRound_depth

theorem results_sec2 {fn : Func} {p q : Tmp} (h : fn.results = #[.cell p 51, .cell q 51]) (tmps : Array Value) (w : World) (g1 g2 : Nat) (a b : Int) (hp : tmps.getD p undef = .pointer (some ⟨g1, 0, none⟩)) (hq : tmps.getD q undef = .pointer (some ⟨g2, 0, none⟩))
    (k1 : w.cell? ⟨g1, 0, none⟩ = some (.int .i64 a)) (k2 : w.cell? ⟨g2, 0, none⟩ = some (.int .i64 b)) :
    (results fn tmps).run Try.prog w = .ok (.tuple #[S64 a, S64 b]) w := by
  have hu := Try.underlying51
  have h2 := Try.underlying2
  have hp' : tmps[p]?.getD undef = .pointer (some ⟨g1, 0, none⟩) := by simpa using hp
  have hq' : tmps[q]?.getD undef = .pointer (some ⟨g2, 0, none⟩) := by simpa using hq
  simp only [results, h]
  go_simp

theorem ediv_in (b q : Int) (hb : I64 b) (hq : 1 ≤ q) : I64 (b / q) := by
  by_cases h : 0 ≤ b
  · have h1 := Int.ediv_nonneg h (show 0 ≤ q by omega)
    have h2 := Int.ediv_le_self q h
    exact ⟨by omega, by have := hb.2; omega⟩
  · have h1 : b / q < 0 := Int.ediv_neg_of_neg_of_pos (by omega) (by omega)
    have h2 : b ≤ b / q := by
      rw [Int.le_ediv_iff_mul_le (by omega)]
      have h3 := Int.mul_nonneg (show 0 ≤ -b by omega) (show 0 ≤ q - 1 by omega)
      rw [Int.neg_mul, Int.mul_sub, Int.mul_one] at h3
      omega
    exact ⟨by have := hb.1; omega, by omega⟩

/-- What the first i codes find. -/
def Part (c : Nat → Int) (l : List Int) (b : Int) (i : Nat) (v n : Int) : Prop :=
  (∃ p, ∃ hp : p < l.length, p < i ∧ Begins c p b ∧ v = l[p] ∧ n = ((lenP c p : Nat) : Int)) ∨ (v = 0 ∧ n = 0 ∧ ∀ p, p < i → ¬ Begins c p b)

theorem Part.step {c : Nat → Int} {l : List Int} {b : Int} {i : Nat} {v n : Int} (h : Part c l b i v n) (hi : i < l.length) (P : Prop) [Decidable P] (hP : P ↔ Begins c i b) : Part c l b (i + 1) (if P then l[i] else v) (if P then ((lenP c i : Nat) : Int) else n) := by
  by_cases e : P
  · rw [if_pos e, if_pos e]; exact .inl ⟨i, hi, by omega, hP.1 e, rfl, rfl⟩
  · rw [if_neg e, if_neg e]
    rcases h with ⟨p, hp, h1, h2, h3, h4⟩ | ⟨h1, h2, h3⟩
    · exact .inl ⟨p, hp, by omega, h2, h3, h4⟩
    · refine .inr ⟨h1, h2, fun p hp => ?_⟩
      by_cases e2 : p = i
      · subst e2; exact fun q => e (hP.2 q)
      · exact h3 p (by omega)

theorem Part.in {c : Nat → Int} {l : List Int} {b : Int} {i : Nat} {v n : Int} (h : Part c l b i v n) (hx : ∀ x ∈ l, 0 ≤ x ∧ x ≤ 255) (ho : OkT c l) : I64 v ∧ I64 n := by
  rcases h with ⟨p, hp, h1, h2, h3, h4⟩ | ⟨h1, h2, h3⟩
  · have := hx _ (List.getElem_mem hp)
    have q := p_in ho hp
    rw [h3, h4]
    exact ⟨⟨by omega, by omega⟩, ⟨by omega, by omega⟩⟩
  · rw [h1, h2]; exact ⟨⟨by omega, by omega⟩, ⟨by omega, by omega⟩⟩

theorem Part.finds {c : Nat → Int} {l : List Int} {b v n : Int} (h : Part c l b (toldN c l) v n) : Finds c l b v n := by
  rcases h with ⟨p, hp, h1, h2, rfl, rfl⟩ | ⟨rfl, rfl, h3⟩
  · exact finds_yes (toldN_ok h1).1 hp h2
  · exact finds_no h3

set_option maxHeartbeats 6400000 in
set_option maxRecDepth 100000 in
theorem findSec_spec (c : Nat → Int) (pv : Value) (l : List Int) (b : Int) (hb : I64 b) (hI : ∀ j, j < 16 → I64 (c j)) (w : World) (hv : View w .u8 pv l) (hx : ∀ x ∈ l, 0 ≤ x ∧ x ≤ 255) (hl : l.length ≤ 140737488355328) : Calls Try.prog 24 #[.agg (tbl c pv).toArray, S64 b] w fun e w' => ∃ v n, e = .returned (.tuple #[S64 v, S64 n]) ∧ Finds c l b v n ∧ But Nowhere w w' := by
  have HV : Hid (View w .u8 pv l) := hv
  obtain ⟨ao, cap, rfl⟩ := hv.slice
  have huT := Try.underlying25
  have hiT : (Try.prog.info? 25).map (·.size) = some (tbl c (.slice ao l.length cap)).length := by rw [tbl_length]; kernel_rfl
  have hmx : Try.prog.follows .mixedOrders = true := by kernel_rfl
  refine (callsIn_wide (n := 3)).1 ?_
  refine callsIn_of_wp_quiet Try.func24 rfl trivial ?_ rfl
  simp only [Try.ntmps24, List.size_toArray, List.length_cons, List.length_nil, Nat.reduceAdd, Nat.reduceSub, Array.replicate_succ, Array.replicate_zero, List.push_toArray, List.append_toArray, List.nil_append, List.cons_append]
  have kk := ((((Keep.start w).made 25 (tbl c (.slice ao l.length cap))).made 51 [.int .i64 b]).made 51 [.int .i64 0]).made 51 [.int .i64 0]
  simp only [World.size_alloc] at kk
  gi_wp2_with fail
  revert kk
  generalize (((w.alloc (.cells (tbl c (.slice ao l.length cap)).toArray 25)).alloc (.cells #[.int .i64 b] 51)).alloc (.cells #[.int .i64 0] 51)).alloc (.cells #[.int .i64 0] 51) = W0
  intro kk
  refine (callsIn_wide.2 (of_any 0 W0)).mono ?_
  rintro e W1 ⟨rfl, dd⟩
  replace kk := kk.step dd
  clear dd
  gi_wp2_with fail
  refine (callsIn_wide.2 (of_any 0 W1)).mono ?_
  rintro e W2 ⟨rfl, dd⟩
  replace kk := kk.step dd
  have HWF : Hid (w.heap.size + 1 + 1 + 1 < W2.heap.size) := kk.head.lt
  replace kk := (kk.made 51 [.int .i64 0]).made 51 [.int .i64 0]
  clear dd
  simp only [World.size_alloc] at kk
  have hR := (kk.get (b := w.heap.size) (t := 25) (c := tbl c (.slice ao l.length cap)) (by simp)).all
  gi_wp2_with (refine wpListIn_load_mid rfl 25 (.tmp 2) rfl (w.heap.size) 0 rfl (tbl c (.slice ao l.length cap)) _ ?_ huT rfl hiT ?_; exact hR)
  clear hR huT hiT
  revert kk
  generalize (W2.alloc (.cells #[.int .i64 0] 51)).alloc (.cells #[.int .i64 0] 51) = W3
  obtain ⟨fb, hfb⟩ : ∃ n, W2.heap.size = n := ⟨_, rfl⟩
  rw [hfb]
  obtain ⟨nb, hnb⟩ : ∃ n, fb + 1 = n := ⟨_, rfl⟩
  rw [hnb]
  intro kk
  have HNB : Hid (fb + 1 = nb) := hnb
  have hwf : w.heap.size + 1 + 1 + 1 < fb := hfb ▸ HWF.out
  clear hfb hnb
  refine (callsIn_wide.2 (told_any c _ l W3 (HV.out.but kk.but))).mono ?_
  rintro e W4 ⟨tb, rfl, k1⟩
  have htb := k1.new (tb, 25, tbl c (.slice ao l.length cap)) (by simp)
  simp only at htb
  have ktb := k1.head
  have hz0 := kk.head.lt
  replace kk := kk.step k1.but
  have hz1 := k1.but.size
  have hV1 := HV.out.but kk.but
  have hF0 := kk.get (b := fb) (t := 51) (c := [.int .i64 0]) (by simp)
  have hN0 := kk.head
  have nfb := kk.new (fb, 51, [.int .i64 0]) (by simp)
  simp only at nfb
  have HOFF := view_off HV.out (fun k => k = fb ∨ k = nb) (fun k q => by have := HNB.out; omega)
  gi_wp2_with fail
  have hnbe : fb + 1 = nb := HNB.out
  have hFl : fb < W4.heap.size := hF0.lt
  have hNl : nb < W4.heap.size := hN0.lt
  refine range_till (T := (fun k => k = fb ∨ k = nb)) (fun i W => ∃ v n, Part c l b i v n ∧ Cells W fb 51 [.int .i64 v] ∧ Cells W nb 51 [.int .i64 n])
    (fun _ => False) (told1_iter c _ l tb hI hx hl) rfl (enters_of Try.func37 (by kernel_rfl) rfl) (fun _ => rfl)
    (fun i U hU _ => ⟨ktb.but hU (by omega), hV1.butS hU HOFF⟩) (fun k hk => by have := HNB.out; omega) (fun i U U' ⟨v, n, hj⟩ hb => ⟨v, n, hj.1, hj.2.1.but hb (by omega), hj.2.2.but hb (by omega)⟩) (fun U U' hj hb => hj) ⟨0, 0, .inr ⟨rfl, rfl, fun p hp => by omega⟩, hF0, hN0⟩ ?_ ?_ ?_
  · intro lo i W KK hlo hlt hi hbW hJ hK
    obtain ⟨hok, hil⟩ := toldN_ok hi
    have sm := p_in hok hil
    have gC0 := Cells.new W 36 [.int .i64 ((lenP c i : Nat) : Int), .int .i64 (numP c i)]
    have hlo1 : W4.heap.size ≤ W.heap.size := hbW.size
    obtain ⟨v, hv⟩ : ∃ v : Nat, l[i] = (v : Int) := ⟨l[i].toNat, by have := hx _ (List.getElem_mem hil); omega⟩
    have hv1 : v < 256 := by have := hx _ (List.getElem_mem hil); omega
    rw [show toldA c l i = #[.int .u8 (v : Int), codeA c i] by unfold toldA; rw [List.getD_eq_getElem?_getD, List.getElem?_eq_getElem hil, ← hv]; rfl]
    unfold codeA
    gi_wp2_with fail
    refine hK _ _ ((But.refl _ _).alloc _) ?_
    clear hJ hK hbW hi
    intro U hU hlU hbU hJ
    have lw := hU.size
    simp only [World.size_alloc] at lw
    have gC := gC0.but hU (by omega)
    obtain ⟨sb, hsb⟩ : ∃ b, W.heap.size = b := ⟨_, rfl⟩
    rw [hsb] at gC lw hlo1 ⊢
    obtain ⟨v0, n0, hPart, gF, gN⟩ := hJ
    have hI0 := hPart.in hx hok
    have HST : Hid (∀ (P : Prop) [Decidable P], (P ↔ b / 2 ^ (16 - lenP c i) = numP c i) → Part c l b (i + 1) (if P then (v : Int) else v0) (if P then ((lenP c i : Nat) : Int) else n0)) := fun P _ hP => hv ▸ hPart.step hil P hP
    obtain ⟨L, hL⟩ : ∃ L : Nat, lenP c i = L := ⟨_, rfl⟩
    obtain ⟨Vn, hVn⟩ : ∃ V : Int, numP c i = V := ⟨_, rfl⟩
    have HPL := pow_to L
    rw [hL] at gC HST sm ⊢
    rw [hVn] at gC HST sm ⊢
    have gB := (kk.get (b := w.heap.size + 1) (t := 51) (c := [.int .i64 b]) (by simp)).but hbU (by omega)
    have hsub : IntKind.i64.wrap (16 - (L : Int)) = ((16 - L : Nat) : Int) := by rw [wrap_i64_eq]; rw [w64 _ (by omega)]; omega
    have hIV : I64 Vn := by have := HPL sm.2.1; exact ⟨by omega, by omega⟩
    obtain ⟨M, hM⟩ : ∃ M : Nat, 16 - L = M := ⟨_, rfl⟩
    rw [hM] at hsub HST
    have hM16 : M ≤ 16 := by omega
    have hsh : (shN (M : Int)).toNat = M := by unfold shN; omega
    have hbq : I64 (b / 2 ^ M) := ediv_in b _ hb (one_le_pow M)
    have HSELV : Hid (selF (eqM (b / 2 ^ M) Vn) (v : Int) v0 = if b / 2 ^ M = Vn then (v : Int) else v0) := selF_mask _ _ _ ⟨by omega, by omega⟩ hI0.1
    have HSELL : Hid (selF (eqM (b / 2 ^ M) Vn) (L : Int) n0 = if b / 2 ^ M = Vn then (L : Int) else n0) := selF_mask _ _ _ ⟨by omega, by omega⟩ hI0.2
    obtain ⟨vx, hvx⟩ : ∃ x, (if b / 2 ^ M = Vn then (v : Int) else v0) = x := ⟨_, rfl⟩
    obtain ⟨nx, hnx⟩ : ∃ x, (if b / 2 ^ M = Vn then (L : Int) else n0) = x := ⟨_, rfl⟩
    rw [hvx] at HSELV
    rw [hnx] at HSELL
    have hwv : IntKind.i64.wrap (v : Int) = v := by rw [wrap_i64_eq]; exact w64 _ (by omega)
    have hP1 := HST.out (b / 2 ^ M = Vn) Iff.rfl
    rw [hvx, hnx] at hP1
    have HP1 : Hid (Part c l b (i + 1) vx nx) := hP1
    have hFN : fb ≠ nb := by have := HNB.out; omega
    have hCF : sb ≠ fb := by omega
    have hCN : sb ≠ nb := by omega
    have lF := gF.lt
    have lN := gN.lt
    have lC := gC.lt
    clear gC0 hU hlU hsb hL hVn hv hM hPart kk HST hvx hnx hP1 HPL ktb hV1 hF0 hN0 k1 HV hnbe
    have kk := Keep.start U
    gi_wp2_with fail
    gi_cut [10] from 17 (fun s V => ∃ NX, s = .pointer (some ⟨NX, 0, none⟩) ∧ Keep U V [(NX, 51, [.int .i64 (eqM (b / 2 ^ M) Vn)])])
    case first =>
      replace kk := kk.drew
      refine round_region_till (S := fun V' => V'.cell? ⟨sb, 0, none⟩ = some (.int .i64 (L : Int)) ∧ V'.cell? ⟨sb, 1, none⟩ = some (.int .i64 Vn) ∧ V'.cell? ⟨w.heap.size + 1, 0, none⟩ = some (.int .i64 b)) (R := fun _ => True) (k := 100) (m := 100) (by kernel_rfl) (by kernel_rfl) (by rintro ⟨_, _, ⟨-, (⟨q, _⟩ | ⟨q, _⟩)⟩⟩ <;> cases q) ⟨(gC.but kk.but (not_nowhere _)).at 0, (gC.but kk.but (not_nowhere _)).at 1, (gB.but kk.but (not_nowhere _)).at 0⟩ trivial ?_
      revert kk
      generalize U.drew = WG
      intro kk
      (refine Walk.take (i := 0) (oi := { dst := some 17, op := Op.load 51 (Operand.tmp 3), type := 51, pos := "huff.go:54", after := #[], guard := none }) (v := ?_) rfl (by kernel_rfl) (by kernel_rfl) (by kernel_rfl) (by kernel_rfl) (fun _ _ _ h => h) (Or.inl ⟨by rfl, ?_⟩) ?_; rotate_left; (intro w hw; have hS1 := hw.1 (by kernel_rfl); clear hw; (try dsimp only at hS1); (try go_split_ands); go_simp; try (with_reducible rfl)); simp only [Act.put, List.setIfInBounds_toArray, List.set_cons_zero, List.set_cons_succ])
      (refine Walk.take (i := 1) (oi := { dst := some 18, op := Op.fieldAddr 36 (Operand.tmp 9) 0, type := 0, pos := "huff.go:54", after := #[], guard := none }) (v := ?_) rfl (by kernel_rfl) (by kernel_rfl) (by kernel_rfl) (by kernel_rfl) (fun _ _ _ h => h) (Or.inl ⟨by rfl, ?_⟩) ?_; rotate_left; (intro w hw; clear hw; (try go_split_ands); go_simp; try (with_reducible rfl)); simp only [Act.put, List.setIfInBounds_toArray, List.set_cons_zero, List.set_cons_succ])
      (refine Walk.take (i := 2) (oi := { dst := some 19, op := Op.load 3 (Operand.tmp 18), type := 3, pos := "huff.go:54", after := #[{ on := 1, ground := Ground.data }], guard := none }) (v := ?_) rfl (by kernel_rfl) (by kernel_rfl) (by kernel_rfl) (by kernel_rfl) (fun _ _ _ h => h) (Or.inl ⟨by rfl, ?_⟩) ?_; rotate_left; (intro w hw; have hS1 := hw.1 (by kernel_rfl); clear hw; (try dsimp only at hS1); (try go_split_ands); go_simp; try (with_reducible rfl)); simp only [Act.put, List.setIfInBounds_toArray, List.set_cons_zero, List.set_cons_succ])
      (refine Walk.take (i := 3) (oi := { dst := some 20, op := Op.binOp BinOp.sub 3 (Operand.const (Value.int IntKind.i64 16)) (Operand.tmp 19) 3, type := 3, pos := "huff.go:54", after := #[{ on := 2, ground := Ground.data }], guard := none }) (v := ?_) rfl (by kernel_rfl) (by kernel_rfl) (by kernel_rfl) (by kernel_rfl) (fun _ _ _ h => h) (Or.inl ⟨by rfl, ?_⟩) ?_; rotate_left; (intro w hw; clear hw; (try go_split_ands); go_simp; try (with_reducible rfl)); simp only [Act.put, List.setIfInBounds_toArray, List.set_cons_zero, List.set_cons_succ])
      (refine Walk.take (i := 5) (oi := { dst := some 22, op := Op.fieldAddr 36 (Operand.tmp 9) 1, type := 0, pos := "huff.go:54", after := #[], guard := none }) (v := ?_) rfl (by kernel_rfl) (by kernel_rfl) (by kernel_rfl) (by kernel_rfl) (fun _ _ _ h => h) (Or.inl ⟨by rfl, ?_⟩) ?_; rotate_left; (intro w hw; clear hw; (try go_split_ands); go_simp; try (with_reducible rfl)); simp only [Act.put, List.setIfInBounds_toArray, List.set_cons_zero, List.set_cons_succ])
      (refine Walk.take (i := 6) (oi := { dst := some 23, op := Op.load 3 (Operand.tmp 22), type := 3, pos := "huff.go:54", after := #[{ on := 5, ground := Ground.data }], guard := none }) (v := ?_) rfl (by kernel_rfl) (by kernel_rfl) (by kernel_rfl) (by kernel_rfl) (fun _ _ _ h => h) (Or.inl ⟨by rfl, ?_⟩) ?_; rotate_left; (intro w hw; have hS1 := hw.1 (by kernel_rfl); clear hw; (try dsimp only at hS1); (try go_split_ands); go_simp; try (with_reducible rfl)); simp only [Act.put, List.setIfInBounds_toArray, List.set_cons_zero, List.set_cons_succ])
      refine Walk.both (i := 4) (j := 9) (oi := { dst := some 21, op := Op.call { callee := Callee.value (Operand.func 32), args := #[Operand.tmp 17, Operand.tmp 20], argTypes := #[51, 3] }, type := 51, pos := "huff.go:54", after := #[{ on := 0, ground := Ground.data }, { on := 3, ground := Ground.data }], guard := none }) (oj := { dst := some 10, op := Op.alloc 51, type := 0, pos := "huff.go:54", after := #[], guard := none }) (by kernel_rfl) rfl rfl (fun K hK => ?_) (fun K hK => ?_)
      · go_simp; ((go_at_call 32; refine (shr_any b _ _).mono ?_; rintro e z1 ⟨rfl, dd⟩; rw [hsh]; replace kk := kk.step dd; clear dd)); refine hK.out _ _ (⟨fun _ => ⟨(gC.but kk.but (not_nowhere _)).at 0, (gC.but kk.but (not_nowhere _)).at 1, (gB.but kk.but (not_nowhere _)).at 0⟩, fun _ => trivial⟩) ?_; clear hK K; try simp only [Act.put, List.setIfInBounds_toArray, List.set_cons_zero, List.set_cons_succ]
        refine Walk.both (i := 7) (j := 9) (oi := { dst := some 24, op := Op.call { callee := Callee.value (Operand.func 25), args := #[Operand.tmp 23], argTypes := #[3] }, type := 51, pos := "huff.go:54", after := #[{ on := 6, ground := Ground.data }, { on := 4, ground := Ground.chain }], guard := none }) (oj := { dst := some 10, op := Op.alloc 51, type := 0, pos := "huff.go:54", after := #[], guard := none }) (by kernel_rfl) rfl rfl (fun K hK => ?_) (fun K hK => ?_)
        · go_simp; ((go_at_call 25; refine (of_any Vn _).mono ?_; rintro e z2 ⟨rfl, dd⟩; replace kk := kk.step dd; clear dd)); refine hK.out _ _ (⟨fun _ => ⟨(gC.but kk.but (not_nowhere _)).at 0, (gC.but kk.but (not_nowhere _)).at 1, (gB.but kk.but (not_nowhere _)).at 0⟩, fun _ => trivial⟩) ?_; clear hK K; try simp only [Act.put, List.setIfInBounds_toArray, List.set_cons_zero, List.set_cons_succ]
          refine Walk.both (i := 8) (j := 9) (oi := { dst := some 25, op := Op.call { callee := Callee.value (Operand.func 33), args := #[Operand.tmp 21, Operand.tmp 24], argTypes := #[51, 51] }, type := 51, pos := "huff.go:54", after := #[{ on := 4, ground := Ground.data }, { on := 7, ground := Ground.data }, { on := 7, ground := Ground.chain }], guard := none }) (oj := { dst := some 10, op := Op.alloc 51, type := 0, pos := "huff.go:54", after := #[], guard := none }) (by kernel_rfl) rfl rfl (fun K hK => ?_) (fun K hK => ?_)
          · go_simp; ((go_at_call 33; refine (equal_mask (b / 2 ^ M) Vn _ hbq hIV).mono ?_; rintro e z3 ⟨rfl, dd⟩; replace kk := kk.step dd; clear dd)); refine hK.out _ _ (⟨fun _ => ⟨(gC.but kk.but (not_nowhere _)).at 0, (gC.but kk.but (not_nowhere _)).at 1, (gB.but kk.but (not_nowhere _)).at 0⟩, fun _ => trivial⟩) ?_; clear hK K; try simp only [Act.put, List.setIfInBounds_toArray, List.set_cons_zero, List.set_cons_succ]
            (refine Walk.go (i := 9) (o := { dst := some 10, op := Op.alloc 51, type := 0, pos := "huff.go:54", after := #[], guard := none }) (by kernel_rfl) rfl (fun K hK => ?_); go_simp; (replace kk := kk.made 51 [.int .i64 0]); refine hK.out _ _ (⟨fun _ => ⟨(gC.but kk.but (not_nowhere _)).at 0, (gC.but kk.but (not_nowhere _)).at 1, (gB.but kk.but (not_nowhere _)).at 0⟩, fun _ => trivial⟩) ?_; clear hK K; try simp only [Act.put, List.setIfInBounds_toArray, List.set_cons_zero, List.set_cons_succ])
            revert kk
            obtain ⟨NX, hNX⟩ : ∃ n, z3.heap.size = n := ⟨_, rfl⟩
            rw [hNX]
            clear hNX
            generalize z3.alloc (.cells [.int .i64 0].toArray 51) = V1
            intro kk
            have q0 := kk.head.at 0
            have f0 := kk.head.frozen 0
            simp only [List.getElem?_cons_zero] at q0
            (refine Walk.go (i := 10) (o := { dst := none, op := Op.store 51 (Operand.tmp 10) (Operand.tmp 25), type := 0, pos := "huff.go:54", after := #[{ on := 9, ground := Ground.data }, { on := 8, ground := Ground.data }, { on := 8, ground := Ground.chain }, { on := 0, ground := Ground.phase }, { on := 1, ground := Ground.phase }, { on := 2, ground := Ground.phase }, { on := 3, ground := Ground.phase }, { on := 4, ground := Ground.phase }, { on := 5, ground := Ground.phase }, { on := 6, ground := Ground.phase }, { on := 7, ground := Ground.phase }, { on := 8, ground := Ground.phase }, { on := 9, ground := Ground.phase }], guard := none }) (by kernel_rfl) rfl (fun K hK => ?_); go_simp; (replace kk := kk.set 0 (.int .i64 (eqM (b / 2 ^ M) Vn)); clear q0 f0); refine hK.out _ _ (⟨fun _ => ⟨(gC.but kk.but (not_nowhere _)).at 0, (gC.but kk.but (not_nowhere _)).at 1, (gB.but kk.but (not_nowhere _)).at 0⟩, fun _ => trivial⟩) ?_; clear hK K; try simp only [Act.put, List.setIfInBounds_toArray, List.set_cons_zero, List.set_cons_succ])
            refine Walk.done (by kernel_rfl) ?_ _
            gi_wp2_with fail
            gi_meet
            case rel => exact ⟨_, rfl, kk⟩
          · go_simp; (replace kk := kk.made 51 [.int .i64 0]); refine hK.out _ _ (⟨fun _ => ⟨(gC.but kk.but (not_nowhere _)).at 0, (gC.but kk.but (not_nowhere _)).at 1, (gB.but kk.but (not_nowhere _)).at 0⟩, fun _ => trivial⟩) ?_; clear hK K; try simp only [Act.put, List.setIfInBounds_toArray, List.set_cons_zero, List.set_cons_succ]
            revert kk
            obtain ⟨NX, hNX⟩ : ∃ n, z2.heap.size = n := ⟨_, rfl⟩
            rw [hNX]
            clear hNX
            generalize z2.alloc (.cells [.int .i64 0].toArray 51) = V2
            intro kk
            (refine Walk.go (i := 8) (o := { dst := some 25, op := Op.call { callee := Callee.value (Operand.func 33), args := #[Operand.tmp 21, Operand.tmp 24], argTypes := #[51, 51] }, type := 51, pos := "huff.go:54", after := #[{ on := 4, ground := Ground.data }, { on := 7, ground := Ground.data }, { on := 7, ground := Ground.chain }], guard := none }) (by kernel_rfl) rfl (fun K hK => ?_); go_simp; ((go_at_call 33; refine (equal_mask (b / 2 ^ M) Vn _ hbq hIV).mono ?_; rintro e z3 ⟨rfl, dd⟩; replace kk := kk.step dd; clear dd)); refine hK.out _ _ (⟨fun _ => ⟨(gC.but kk.but (not_nowhere _)).at 0, (gC.but kk.but (not_nowhere _)).at 1, (gB.but kk.but (not_nowhere _)).at 0⟩, fun _ => trivial⟩) ?_; clear hK K; try simp only [Act.put, List.setIfInBounds_toArray, List.set_cons_zero, List.set_cons_succ])
            have q0 := kk.head.at 0
            have f0 := kk.head.frozen 0
            simp only [List.getElem?_cons_zero] at q0
            (refine Walk.go (i := 10) (o := { dst := none, op := Op.store 51 (Operand.tmp 10) (Operand.tmp 25), type := 0, pos := "huff.go:54", after := #[{ on := 9, ground := Ground.data }, { on := 8, ground := Ground.data }, { on := 8, ground := Ground.chain }, { on := 0, ground := Ground.phase }, { on := 1, ground := Ground.phase }, { on := 2, ground := Ground.phase }, { on := 3, ground := Ground.phase }, { on := 4, ground := Ground.phase }, { on := 5, ground := Ground.phase }, { on := 6, ground := Ground.phase }, { on := 7, ground := Ground.phase }, { on := 8, ground := Ground.phase }, { on := 9, ground := Ground.phase }], guard := none }) (by kernel_rfl) rfl (fun K hK => ?_); go_simp; (replace kk := kk.set 0 (.int .i64 (eqM (b / 2 ^ M) Vn)); clear q0 f0); refine hK.out _ _ (⟨fun _ => ⟨(gC.but kk.but (not_nowhere _)).at 0, (gC.but kk.but (not_nowhere _)).at 1, (gB.but kk.but (not_nowhere _)).at 0⟩, fun _ => trivial⟩) ?_; clear hK K; try simp only [Act.put, List.setIfInBounds_toArray, List.set_cons_zero, List.set_cons_succ])
            refine Walk.done (by kernel_rfl) ?_ _
            gi_wp2_with fail
            gi_meet
            case rel => exact ⟨_, rfl, kk⟩
        · go_simp; (replace kk := kk.made 51 [.int .i64 0]); refine hK.out _ _ (⟨fun _ => ⟨(gC.but kk.but (not_nowhere _)).at 0, (gC.but kk.but (not_nowhere _)).at 1, (gB.but kk.but (not_nowhere _)).at 0⟩, fun _ => trivial⟩) ?_; clear hK K; try simp only [Act.put, List.setIfInBounds_toArray, List.set_cons_zero, List.set_cons_succ]
          revert kk
          obtain ⟨NX, hNX⟩ : ∃ n, z1.heap.size = n := ⟨_, rfl⟩
          rw [hNX]
          clear hNX
          generalize z1.alloc (.cells [.int .i64 0].toArray 51) = V3
          intro kk
          (refine Walk.go (i := 7) (o := { dst := some 24, op := Op.call { callee := Callee.value (Operand.func 25), args := #[Operand.tmp 23], argTypes := #[3] }, type := 51, pos := "huff.go:54", after := #[{ on := 6, ground := Ground.data }, { on := 4, ground := Ground.chain }], guard := none }) (by kernel_rfl) rfl (fun K hK => ?_); go_simp; ((go_at_call 25; refine (of_any Vn _).mono ?_; rintro e z2 ⟨rfl, dd⟩; replace kk := kk.step dd; clear dd)); refine hK.out _ _ (⟨fun _ => ⟨(gC.but kk.but (not_nowhere _)).at 0, (gC.but kk.but (not_nowhere _)).at 1, (gB.but kk.but (not_nowhere _)).at 0⟩, fun _ => trivial⟩) ?_; clear hK K; try simp only [Act.put, List.setIfInBounds_toArray, List.set_cons_zero, List.set_cons_succ])
          (refine Walk.go (i := 8) (o := { dst := some 25, op := Op.call { callee := Callee.value (Operand.func 33), args := #[Operand.tmp 21, Operand.tmp 24], argTypes := #[51, 51] }, type := 51, pos := "huff.go:54", after := #[{ on := 4, ground := Ground.data }, { on := 7, ground := Ground.data }, { on := 7, ground := Ground.chain }], guard := none }) (by kernel_rfl) rfl (fun K hK => ?_); go_simp; ((go_at_call 33; refine (equal_mask (b / 2 ^ M) Vn _ hbq hIV).mono ?_; rintro e z3 ⟨rfl, dd⟩; replace kk := kk.step dd; clear dd)); refine hK.out _ _ (⟨fun _ => ⟨(gC.but kk.but (not_nowhere _)).at 0, (gC.but kk.but (not_nowhere _)).at 1, (gB.but kk.but (not_nowhere _)).at 0⟩, fun _ => trivial⟩) ?_; clear hK K; try simp only [Act.put, List.setIfInBounds_toArray, List.set_cons_zero, List.set_cons_succ])
          have q0 := kk.head.at 0
          have f0 := kk.head.frozen 0
          simp only [List.getElem?_cons_zero] at q0
          (refine Walk.go (i := 10) (o := { dst := none, op := Op.store 51 (Operand.tmp 10) (Operand.tmp 25), type := 0, pos := "huff.go:54", after := #[{ on := 9, ground := Ground.data }, { on := 8, ground := Ground.data }, { on := 8, ground := Ground.chain }, { on := 0, ground := Ground.phase }, { on := 1, ground := Ground.phase }, { on := 2, ground := Ground.phase }, { on := 3, ground := Ground.phase }, { on := 4, ground := Ground.phase }, { on := 5, ground := Ground.phase }, { on := 6, ground := Ground.phase }, { on := 7, ground := Ground.phase }, { on := 8, ground := Ground.phase }, { on := 9, ground := Ground.phase }], guard := none }) (by kernel_rfl) rfl (fun K hK => ?_); go_simp; (replace kk := kk.set 0 (.int .i64 (eqM (b / 2 ^ M) Vn)); clear q0 f0); refine hK.out _ _ (⟨fun _ => ⟨(gC.but kk.but (not_nowhere _)).at 0, (gC.but kk.but (not_nowhere _)).at 1, (gB.but kk.but (not_nowhere _)).at 0⟩, fun _ => trivial⟩) ?_; clear hK K; try simp only [Act.put, List.setIfInBounds_toArray, List.set_cons_zero, List.set_cons_succ])
          refine Walk.done (by kernel_rfl) ?_ _
          gi_wp2_with fail
          gi_meet
          case rel => exact ⟨_, rfl, kk⟩
      · go_simp; (replace kk := kk.made 51 [.int .i64 0]); refine hK.out _ _ (⟨fun _ => ⟨(gC.but kk.but (not_nowhere _)).at 0, (gC.but kk.but (not_nowhere _)).at 1, (gB.but kk.but (not_nowhere _)).at 0⟩, fun _ => trivial⟩) ?_; clear hK K; try simp only [Act.put, List.setIfInBounds_toArray, List.set_cons_zero, List.set_cons_succ]
        revert kk
        obtain ⟨NX, hNX⟩ : ∃ n, WG.heap.size = n := ⟨_, rfl⟩
        rw [hNX]
        clear hNX
        generalize WG.alloc (.cells [.int .i64 0].toArray 51) = V4
        intro kk
        (refine Walk.go (i := 4) (o := { dst := some 21, op := Op.call { callee := Callee.value (Operand.func 32), args := #[Operand.tmp 17, Operand.tmp 20], argTypes := #[51, 3] }, type := 51, pos := "huff.go:54", after := #[{ on := 0, ground := Ground.data }, { on := 3, ground := Ground.data }], guard := none }) (by kernel_rfl) rfl (fun K hK => ?_); go_simp; ((go_at_call 32; refine (shr_any b _ _).mono ?_; rintro e z1 ⟨rfl, dd⟩; rw [hsh]; replace kk := kk.step dd; clear dd)); refine hK.out _ _ (⟨fun _ => ⟨(gC.but kk.but (not_nowhere _)).at 0, (gC.but kk.but (not_nowhere _)).at 1, (gB.but kk.but (not_nowhere _)).at 0⟩, fun _ => trivial⟩) ?_; clear hK K; try simp only [Act.put, List.setIfInBounds_toArray, List.set_cons_zero, List.set_cons_succ])
        (refine Walk.go (i := 7) (o := { dst := some 24, op := Op.call { callee := Callee.value (Operand.func 25), args := #[Operand.tmp 23], argTypes := #[3] }, type := 51, pos := "huff.go:54", after := #[{ on := 6, ground := Ground.data }, { on := 4, ground := Ground.chain }], guard := none }) (by kernel_rfl) rfl (fun K hK => ?_); go_simp; ((go_at_call 25; refine (of_any Vn _).mono ?_; rintro e z2 ⟨rfl, dd⟩; replace kk := kk.step dd; clear dd)); refine hK.out _ _ (⟨fun _ => ⟨(gC.but kk.but (not_nowhere _)).at 0, (gC.but kk.but (not_nowhere _)).at 1, (gB.but kk.but (not_nowhere _)).at 0⟩, fun _ => trivial⟩) ?_; clear hK K; try simp only [Act.put, List.setIfInBounds_toArray, List.set_cons_zero, List.set_cons_succ])
        (refine Walk.go (i := 8) (o := { dst := some 25, op := Op.call { callee := Callee.value (Operand.func 33), args := #[Operand.tmp 21, Operand.tmp 24], argTypes := #[51, 51] }, type := 51, pos := "huff.go:54", after := #[{ on := 4, ground := Ground.data }, { on := 7, ground := Ground.data }, { on := 7, ground := Ground.chain }], guard := none }) (by kernel_rfl) rfl (fun K hK => ?_); go_simp; ((go_at_call 33; refine (equal_mask (b / 2 ^ M) Vn _ hbq hIV).mono ?_; rintro e z3 ⟨rfl, dd⟩; replace kk := kk.step dd; clear dd)); refine hK.out _ _ (⟨fun _ => ⟨(gC.but kk.but (not_nowhere _)).at 0, (gC.but kk.but (not_nowhere _)).at 1, (gB.but kk.but (not_nowhere _)).at 0⟩, fun _ => trivial⟩) ?_; clear hK K; try simp only [Act.put, List.setIfInBounds_toArray, List.set_cons_zero, List.set_cons_succ])
        have q0 := kk.head.at 0
        have f0 := kk.head.frozen 0
        simp only [List.getElem?_cons_zero] at q0
        (refine Walk.go (i := 10) (o := { dst := none, op := Op.store 51 (Operand.tmp 10) (Operand.tmp 25), type := 0, pos := "huff.go:54", after := #[{ on := 9, ground := Ground.data }, { on := 8, ground := Ground.data }, { on := 8, ground := Ground.chain }, { on := 0, ground := Ground.phase }, { on := 1, ground := Ground.phase }, { on := 2, ground := Ground.phase }, { on := 3, ground := Ground.phase }, { on := 4, ground := Ground.phase }, { on := 5, ground := Ground.phase }, { on := 6, ground := Ground.phase }, { on := 7, ground := Ground.phase }, { on := 8, ground := Ground.phase }, { on := 9, ground := Ground.phase }], guard := none }) (by kernel_rfl) rfl (fun K hK => ?_); go_simp; (replace kk := kk.set 0 (.int .i64 (eqM (b / 2 ^ M) Vn)); clear q0 f0); refine hK.out _ _ (⟨fun _ => ⟨(gC.but kk.but (not_nowhere _)).at 0, (gC.but kk.but (not_nowhere _)).at 1, (gB.but kk.but (not_nowhere _)).at 0⟩, fun _ => trivial⟩) ?_; clear hK K; try simp only [Act.put, List.setIfInBounds_toArray, List.set_cons_zero, List.set_cons_succ])
        refine Walk.done (by kernel_rfl) ?_ _
        gi_wp2_with fail
        gi_meet
        case rel => exact ⟨_, rfl, kk⟩
    case rest =>
      clear kk
      obtain ⟨NX, rfl, kx⟩ := hcut
      have gX := kx.head
      have bU := kx.but
      have gC1 := gC.but bU (not_nowhere _)
      have g0 := gF.but bU (not_nowhere _)
      have g1 := gN.but bU (not_nowhere _)
      have hXF : NX ≠ fb := by have := kx.new (NX, 51, [.int .i64 (eqM (b / 2 ^ M) Vn)]) (by simp); simp only at this; omega
      have hXN : NX ≠ nb := by have := kx.new (NX, 51, [.int .i64 (eqM (b / 2 ^ M) Vn)]) (by simp); simp only at this; omega
      have bT : But (fun k => k = fb ∨ k = nb) U wc := bU.mono (fun _ _ f => f.elim)
      clear kx gC gF gN bU gB hbU
      generalize eqM (b / 2 ^ M) Vn = mk at *
      have kk := (Keep.start wc).drew
      gi_wp2_with fail
      refine round_region_till (S := fun V' => V'.cell? ⟨NX, 0, none⟩ = some (.int .i64 mk) ∧ V'.cell? ⟨fb, 0, none⟩ = some (.int .i64 v0)) (R := fun _ => True) (k := 6) (m := 100) (by kernel_rfl) (by kernel_rfl) (by rintro ⟨_, _, ⟨-, (⟨q, _⟩ | ⟨q, _⟩)⟩⟩ <;> cases q) ⟨(gX.but kk.but (not_nowhere _)).at 0, (g0.but kk.but (not_nowhere _)).at 0⟩ trivial ?_
      revert kk
      generalize wc.drew = WG
      intro kk
      (refine Walk.take (i := 0) (oi := { dst := some 26, op := Op.load 51 (Operand.tmp 10), type := 51, pos := "huff.go:55", after := #[], guard := none }) (v := ?_) rfl (by kernel_rfl) (by kernel_rfl) (by kernel_rfl) (by kernel_rfl) (fun _ _ _ h => h) (Or.inl ⟨by rfl, ?_⟩) ?_; rotate_left; (intro w hw; have hS1 := hw.1 (by kernel_rfl); clear hw; (try dsimp only at hS1); (try go_split_ands); go_simp; try (with_reducible rfl)); simp only [Act.put, List.setIfInBounds_toArray, List.set_cons_zero, List.set_cons_succ])
      (refine Walk.take (i := 1) (oi := { dst := some 27, op := Op.move (Operand.tmp 8), type := 5, pos := "huff.go:55", after := #[], guard := none }) (v := ?_) rfl (by kernel_rfl) (by kernel_rfl) (by kernel_rfl) (by kernel_rfl) (fun _ _ _ h => h) (Or.inl ⟨by rfl, ?_⟩) ?_; rotate_left; (intro w hw; clear hw; (try go_split_ands); go_simp; try (with_reducible rfl)); simp only [Act.put, List.setIfInBounds_toArray, List.set_cons_zero, List.set_cons_succ])
      (refine Walk.take (i := 2) (oi := { dst := some 28, op := Op.convert 5 3 (Operand.tmp 27), type := 3, pos := "huff.go:55", after := #[{ on := 1, ground := Ground.data }], guard := none }) (v := ?_) rfl (by kernel_rfl) (by kernel_rfl) (by kernel_rfl) (by kernel_rfl) (fun _ _ _ h => h) (Or.inl ⟨by rfl, ?_⟩) ?_; rotate_left; (intro w hw; clear hw; (try go_split_ands); go_simp; try (with_reducible rfl)); simp only [Act.put, List.setIfInBounds_toArray, List.set_cons_zero, List.set_cons_succ])
      (refine Walk.take (i := 4) (oi := { dst := some 30, op := Op.load 51 (Operand.tmp 6), type := 51, pos := "huff.go:55", after := #[], guard := none }) (v := ?_) rfl (by kernel_rfl) (by kernel_rfl) (by kernel_rfl) (by kernel_rfl) (fun _ _ _ h => h) (Or.inl ⟨by rfl, ?_⟩) ?_; rotate_left; (intro w hw; have hS1 := hw.1 (by kernel_rfl); clear hw; (try dsimp only at hS1); (try go_split_ands); go_simp; try (with_reducible rfl)); simp only [Act.put, List.setIfInBounds_toArray, List.set_cons_zero, List.set_cons_succ])
      (refine Walk.go (i := 3) (o := { dst := some 29, op := Op.call { callee := Callee.value (Operand.func 25), args := #[Operand.tmp 28], argTypes := #[3] }, type := 51, pos := "huff.go:55", after := #[{ on := 2, ground := Ground.data }], guard := none }) (by kernel_rfl) rfl (fun K hK => ?_); go_simp; ((go_at_call 25; refine (of_any _ _).mono ?_; rintro e y1 ⟨rfl, dd⟩; replace kk := kk.step dd; clear dd)); refine hK.out _ _ (⟨fun _ => ⟨(gX.but kk.but (not_nowhere _)).at 0, (g0.but kk.but (not_nowhere _)).at 0⟩, fun _ => trivial⟩) ?_; clear hK K; try simp only [Act.put, List.setIfInBounds_toArray, List.set_cons_zero, List.set_cons_succ])
      (refine Walk.go (i := 5) (o := { dst := some 31, op := Op.call { callee := Callee.value (Operand.func 34), args := #[Operand.tmp 26, Operand.tmp 29, Operand.tmp 30], argTypes := #[51, 51, 51] }, type := 51, pos := "huff.go:55", after := #[{ on := 0, ground := Ground.data }, { on := 3, ground := Ground.data }, { on := 4, ground := Ground.data }, { on := 3, ground := Ground.chain }], guard := none }) (by kernel_rfl) rfl (fun K hK => ?_); go_simp; ((go_at_call 34; refine (select_any _ _ _ _).mono ?_; rintro e y2 ⟨rfl, dd⟩; rw [HSELV.out]; replace kk := kk.step dd; clear dd)); refine hK.out _ _ (⟨fun _ => ⟨(gX.but kk.but (not_nowhere _)).at 0, (g0.but kk.but (not_nowhere _)).at 0⟩, fun _ => trivial⟩) ?_; clear hK K; try simp only [Act.put, List.setIfInBounds_toArray, List.set_cons_zero, List.set_cons_succ])
      have q0 := (g0.but kk.but (not_nowhere _)).at 0
      have f0 := (g0.but kk.but (not_nowhere _)).frozen 0
      simp only [List.getElem?_cons_zero] at q0
      (refine Walk.go (i := 6) (o := { dst := none, op := Op.store 51 (Operand.tmp 6) (Operand.tmp 31), type := 0, pos := "huff.go:55", after := #[{ on := 5, ground := Ground.data }, { on := 5, ground := Ground.chain }, { on := 0, ground := Ground.phase }, { on := 1, ground := Ground.phase }, { on := 2, ground := Ground.phase }, { on := 3, ground := Ground.phase }, { on := 4, ground := Ground.phase }, { on := 5, ground := Ground.phase }], guard := none }) (by kernel_rfl) rfl (fun K hK => ?_); go_simp; (skip); refine hK.out _ _ (⟨fun q => absurd q (by decide), fun _ => trivial⟩) ?_; clear hK K; try simp only [Act.put, List.setIfInBounds_toArray, List.set_cons_zero, List.set_cons_succ])
      refine Walk.done (by kernel_rfl) ?_ _
      have gX2 := (gX.but kk.but (not_nowhere _)).far (c := fb) hXF 0 (.int .i64 vx)
      have gC2 := (gC1.but kk.but (not_nowhere _)).far (c := fb) hCF 0 (.int .i64 vx)
      have gF2 := (g0.but kk.but (not_nowhere _)).set 0 (.int .i64 vx)
      have gN2 := (g1.but kk.but (not_nowhere _)).far (c := fb) (Ne.symm hFN) 0 (.int .i64 vx)
      have bT2 := (bT.trans (kk.but.mono (fun _ _ f => f.elim))).setCell (p := ⟨fb, 0, none⟩) (fun _ => .inl rfl) (.int .i64 vx)
      clear gX g0 g1 gC1 bT kk
      revert gX2 gC2 gF2 gN2 bT2
      generalize y2.setCell ⟨fb, 0, none⟩ (.int .i64 vx) = wd
      intro gX gC gF g0 bT
      have kk := (Keep.start wd).drew
      gi_wp2_with fail
      refine round_region_till (S := fun V' => V'.cell? ⟨NX, 0, none⟩ = some (.int .i64 mk) ∧ V'.cell? ⟨nb, 0, none⟩ = some (.int .i64 n0) ∧ V'.cell? ⟨sb, 0, none⟩ = some (.int .i64 (L : Int))) (R := fun V' => V'.cell? ⟨sb, 0, none⟩ = some (.int .i64 (L : Int))) (k := 6) (m := 3) (by kernel_rfl) (by kernel_rfl) (by rintro ⟨_, _, ⟨-, (⟨q, _⟩ | ⟨q, _⟩)⟩⟩ <;> cases q) ⟨(gX.but kk.but (not_nowhere _)).at 0, (g0.but kk.but (not_nowhere _)).at 0, (gC.but kk.but (not_nowhere _)).at 0⟩ ((gC.but kk.but (not_nowhere _)).at 0) ?_
      revert kk
      generalize wd.drew = WG
      intro kk
      (refine Walk.take (i := 0) (oi := { dst := some 32, op := Op.load 51 (Operand.tmp 10), type := 51, pos := "huff.go:56", after := #[], guard := none }) (v := ?_) rfl (by kernel_rfl) (by kernel_rfl) (by kernel_rfl) (by kernel_rfl) (fun _ _ _ h => h) (Or.inl ⟨by rfl, ?_⟩) ?_; rotate_left; (intro w hw; have hS1 := hw.1 (by kernel_rfl); clear hw; (try dsimp only at hS1); (try go_split_ands); go_simp; try (with_reducible rfl)); simp only [Act.put, List.setIfInBounds_toArray, List.set_cons_zero, List.set_cons_succ])
      (refine Walk.take (i := 1) (oi := { dst := some 33, op := Op.fieldAddr 36 (Operand.tmp 9) 0, type := 0, pos := "huff.go:56", after := #[], guard := none }) (v := ?_) rfl (by kernel_rfl) (by kernel_rfl) (by kernel_rfl) (by kernel_rfl) (fun _ _ _ h => h) (Or.inl ⟨by rfl, ?_⟩) ?_; rotate_left; (intro w hw; clear hw; (try go_split_ands); go_simp; try (with_reducible rfl)); simp only [Act.put, List.setIfInBounds_toArray, List.set_cons_zero, List.set_cons_succ])
      (refine Walk.take (i := 2) (oi := { dst := some 34, op := Op.load 3 (Operand.tmp 33), type := 3, pos := "huff.go:56", after := #[{ on := 1, ground := Ground.data }], guard := none }) (v := ?_) rfl (by kernel_rfl) (by kernel_rfl) (by kernel_rfl) (by kernel_rfl) (fun _ _ _ h => h) (Or.inl ⟨by rfl, ?_⟩) ?_; rotate_left; (intro w hw; have hS1 := hw.1 (by kernel_rfl); clear hw; (try dsimp only at hS1); (try go_split_ands); go_simp; try (with_reducible rfl)); simp only [Act.put, List.setIfInBounds_toArray, List.set_cons_zero, List.set_cons_succ])
      (refine Walk.take (i := 4) (oi := { dst := some 36, op := Op.load 51 (Operand.tmp 7), type := 51, pos := "huff.go:56", after := #[], guard := none }) (v := ?_) rfl (by kernel_rfl) (by kernel_rfl) (by kernel_rfl) (by kernel_rfl) (fun _ _ _ h => h) (Or.inl ⟨by rfl, ?_⟩) ?_; rotate_left; (intro w hw; have hS1 := hw.1 (by kernel_rfl); clear hw; (try dsimp only at hS1); (try go_split_ands); go_simp; try (with_reducible rfl)); simp only [Act.put, List.setIfInBounds_toArray, List.set_cons_zero, List.set_cons_succ])
      (refine Walk.go (i := 3) (o := { dst := some 35, op := Op.call { callee := Callee.value (Operand.func 25), args := #[Operand.tmp 34], argTypes := #[3] }, type := 51, pos := "huff.go:56", after := #[{ on := 2, ground := Ground.data }], guard := none }) (by kernel_rfl) rfl (fun K hK => ?_); go_simp; ((go_at_call 25; refine (of_any _ _).mono ?_; rintro e y1 ⟨rfl, dd⟩; replace kk := kk.step dd; clear dd)); refine hK.out _ _ (⟨fun _ => ⟨(gX.but kk.but (not_nowhere _)).at 0, (g0.but kk.but (not_nowhere _)).at 0, (gC.but kk.but (not_nowhere _)).at 0⟩, fun q => absurd q (by decide)⟩) ?_; clear hK K; try simp only [Act.put, List.setIfInBounds_toArray, List.set_cons_zero, List.set_cons_succ])
      (refine Walk.go (i := 5) (o := { dst := some 37, op := Op.call { callee := Callee.value (Operand.func 34), args := #[Operand.tmp 32, Operand.tmp 35, Operand.tmp 36], argTypes := #[51, 51, 51] }, type := 51, pos := "huff.go:56", after := #[{ on := 0, ground := Ground.data }, { on := 3, ground := Ground.data }, { on := 4, ground := Ground.data }, { on := 3, ground := Ground.chain }], guard := none }) (by kernel_rfl) rfl (fun K hK => ?_); go_simp; ((go_at_call 34; refine (select_any _ _ _ _).mono ?_; rintro e y2 ⟨rfl, dd⟩; rw [HSELL.out]; replace kk := kk.step dd; clear dd)); refine hK.out _ _ (⟨fun _ => ⟨(gX.but kk.but (not_nowhere _)).at 0, (g0.but kk.but (not_nowhere _)).at 0, (gC.but kk.but (not_nowhere _)).at 0⟩, fun q => absurd q (by decide)⟩) ?_; clear hK K; try simp only [Act.put, List.setIfInBounds_toArray, List.set_cons_zero, List.set_cons_succ])
      have q0 := (g0.but kk.but (not_nowhere _)).at 0
      have f0 := (g0.but kk.but (not_nowhere _)).frozen 0
      simp only [List.getElem?_cons_zero] at q0
      (refine Walk.go (i := 6) (o := { dst := none, op := Op.store 51 (Operand.tmp 7) (Operand.tmp 37), type := 0, pos := "huff.go:56", after := #[{ on := 5, ground := Ground.data }, { on := 5, ground := Ground.chain }, { on := 0, ground := Ground.phase }, { on := 1, ground := Ground.phase }, { on := 2, ground := Ground.phase }, { on := 3, ground := Ground.phase }, { on := 4, ground := Ground.phase }, { on := 5, ground := Ground.phase }], guard := none }) (by kernel_rfl) rfl (fun K hK => ?_); go_simp; (skip); refine hK.out _ _ (⟨fun q => absurd q (by decide), fun q => absurd q (by decide)⟩) ?_; clear hK K; try simp only [Act.put, List.setIfInBounds_toArray, List.set_cons_zero, List.set_cons_succ])
      refine Walk.done (by kernel_rfl) ?_ _
      gi_wp2_with fail
      exact ⟨(bT.trans (kk.but.mono (fun _ _ f => f.elim))).setCell (p := ⟨nb, 0, none⟩) (fun _ => .inr rfl) _, _, _, HP1.out, (gF.but kk.but (not_nowhere _)).far (c := nb) hFN 0 _, (g0.but kk.but (not_nowhere _)).set 0 _⟩
  · intro W' hb hJ hD hlt
    obtain ⟨v, n, hPart, gF, gN⟩ := hJ
    have HF : Hid (Finds c l b v n) := hPart.finds
    have hbb : But Nowhere w W' := kk.but.step hb (fun k hk q => by omega)
    have g2 := (kk.get (b := w.heap.size + 1 + 1) (t := 51) (c := [.int .i64 0]) (by simp)).but hb (by omega)
    have g3 := (kk.get (b := w.heap.size + 1 + 1 + 1) (t := 51) (c := [.int .i64 0]) (by simp)).but hb (by omega)
    have k1 := gF.far (c := w.heap.size + 1 + 1) (by omega) 0 (.int .i64 v)
    have k2 := gN.far (c := w.heap.size + 1 + 1) (by omega) 0 (.int .i64 v)
    have c2 := g2.at 0
    have f2 := g2.frozen 0
    have c3 := (g3.far (c := w.heap.size + 1 + 1) (by omega) 0 (.int .i64 v)).at 0
    have f3 := (g3.far (c := w.heap.size + 1 + 1) (by omega) 0 (.int .i64 v)).frozen 0
    simp only [List.getElem?_cons_zero] at c2 c3
    have X2 := (g2.set 0 (.int .i64 v)).far (c := w.heap.size + 1 + 1 + 1) (by omega) 0 (.int .i64 n)
    have X3 := (g3.far (c := w.heap.size + 1 + 1) (by omega) 0 (.int .i64 v)).set 0 (.int .i64 n)
    have XB := ((But.refl (fun k => k = w.heap.size + 1 + 1 ∨ k = w.heap.size + 1 + 1 + 1) W').setCell (p := ⟨w.heap.size + 1 + 1, 0, none⟩) (fun _ => .inl rfl) (.int .i64 v)).setCell (p := ⟨w.heap.size + 1 + 1 + 1, 0, none⟩) (fun _ => .inr rfl) (.int .i64 n)
    have XD := (XB.block W4.heap.size hlt (by omega)).trans hD
    have HX : Hid _ := And.intro (hbb.step XB (fun k hk q => by omega)) (And.intro X2 (And.intro X3 XD))
    have hq0 := gF.drew.at 0
    have hq1 := gN.drew.at 0
    clear X2 X3 XB XD hbb hb hD hF0 hN0 hV1 ktb g2 g3 hPart
    gi_wp2_with fail
    refine wide_region_till (S := fun V' => V'.cell? ⟨fb, 0, none⟩ = some (.int .i64 v) ∧ V'.cell? ⟨nb, 0, none⟩ = some (.int .i64 n)) (R := fun _ => True) (k := 3) (m := 100) (by kernel_rfl) (by kernel_rfl) (by rintro ⟨_, _, q⟩; exact q) ⟨hq0, hq1⟩ trivial ?_
    (refine Walk.take (i := 0) (oi := { dst := some 38, op := Op.load 51 (Operand.tmp 6), type := 51, pos := "huff.go:58", after := #[], guard := none }) (v := ?_) rfl (by kernel_rfl) (by kernel_rfl) (by kernel_rfl) (by kernel_rfl) (fun _ _ _ h => h) (Or.inl ⟨by rfl, ?_⟩) ?_; rotate_left; (intro w hw; have hS1 := hw.1 (by kernel_rfl); clear hw; (try dsimp only at hS1); (try go_split_ands); go_simp; try (with_reducible rfl)); simp only [Act.put, List.setIfInBounds_toArray, List.set_cons_zero, List.set_cons_succ])
    (refine Walk.take (i := 1) (oi := { dst := some 39, op := Op.load 51 (Operand.tmp 7), type := 51, pos := "huff.go:58", after := #[{ on := 2, ground := Ground.gcOnly Departure.lateStores }], guard := none }) (v := ?_) rfl (by kernel_rfl) (by kernel_rfl) (by kernel_rfl) (by kernel_rfl) (fun _ _ _ h => h) (Or.inl ⟨by rfl, ?_⟩) ?_; rotate_left; (intro w hw; have hS1 := hw.1 (by kernel_rfl); clear hw; (try dsimp only at hS1); (try go_split_ands); go_simp; try (with_reducible rfl)); simp only [Act.put, List.setIfInBounds_toArray, List.set_cons_zero, List.set_cons_succ])
    (refine Walk.go (i := 2) (o := { dst := none, op := Op.store 51 (Operand.tmp 4) (Operand.tmp 38), type := 0, pos := "huff.go:58", after := #[{ on := 0, ground := Ground.data }, { on := 0, ground := Ground.phase }, { on := 1, ground := Ground.textOnly Departure.lateStores }], guard := none }) (by kernel_rfl) rfl (fun K hK => ?_); go_simp; (skip); refine hK.out _ _ (⟨fun _ => ⟨k1.at 0, k2.at 0⟩, fun _ => trivial⟩) ?_; clear hK K; try simp only [Act.put, List.setIfInBounds_toArray, List.set_cons_zero, List.set_cons_succ])
    (refine Walk.go (i := 3) (o := { dst := none, op := Op.store 51 (Operand.tmp 5) (Operand.tmp 39), type := 0, pos := "huff.go:58", after := #[{ on := 1, ground := Ground.data }, { on := 2, ground := Ground.chain }, { on := 0, ground := Ground.phase }, { on := 1, ground := Ground.phase }, { on := 2, ground := Ground.phase }], guard := none }) (by kernel_rfl) rfl (fun K hK => ?_); go_simp; (skip); refine hK.out _ _ (⟨fun q => absurd q (by decide), fun _ => trivial⟩) ?_; clear hK K; try simp only [Act.put, List.setIfInBounds_toArray, List.set_cons_zero, List.set_cons_succ])
    refine Walk.done (by kernel_rfl) ?_ _
    gi_wp2_with fail
    refine ⟨by simp, .inl ⟨_, _, rfl, run_takeDeferred HX.out.2.2.2, ?_⟩⟩
    have bD := But.putObj (S := fun k => k = W4.heap.size) (But.refl (fun k => k = W4.heap.size) ((W'.setCell ⟨w.heap.size + 1 + 1, 0, none⟩ (.int .i64 v)).setCell ⟨w.heap.size + 1 + 1 + 1, 0, none⟩ (.int .i64 n)).drew) (fun _ => rfl) (.deferred none)
    refine ⟨_, results_sec2 rfl _ _ _ _ _ _ rfl rfl ((HX.out.2.1.drew.but bD (by omega)).at 0) ((HX.out.2.2.1.drew.but bD (by omega)).at 0), _, _, rfl, HF.out, ?_⟩
    exact HX.out.1.drew.step bD (fun k hk q => by have := kk.but.size; omega)
  · intro W' hb hJ
    exact hJ.elim

end Go.Proofs.Ytadcfndjbhcfbaa
