/- What Put and Take of package scan do. -/
import Derived.Test.YthfdabcknagjoaaScan4
namespace Go.Proofs.Ythfdabcknagjoaa
open Go.ChangeShapes Go.WideShapes Go.ChangeAt Go.RowKit Go.Shelf

attribute [local go_sem] Oper.semAt_some wide_fn wide_depth Fence.inRound_fn Fence.inRound_depth

/-- A word, k bytes laid over it; what is taken with k bytes more. -/
def putI (a s C i x : Int) : Nat → Int
  | 0 => x
  | k + 1 => bits .or .i64 (putI a s C i x k) (bits .and .i64 (eqM (wrap64 (a + k)) i) (bits .and .i64 (s / 2 ^ (shN (8 * (C - 1 - k))).toNat) 255))
def putF (a s C i x : Int) : Int := putI a s C i x C.toNat
def takeI (a C i x y : Int) : Nat → Int
  | 0 => y
  | k + 1 => bits .or .i64 (takeI a C i x y k) (wrap64 (bits .and .i64 (eqM (wrap64 (a + k)) i) (bits .and .i64 x 255) * 2 ^ (shN (8 * (C - 1 - k))).toNat))
def takeF (a C i x y : Int) : Int := takeI a C i x y C.toNat

theorem putF_in (a s C i x : Int) (hx : I64 x) : I64 (putF a s C i x) := by
  unfold putF
  cases C.toNat with
  | zero => exact hx
  | succ k => exact or_in _ _

theorem takeF_in (a C i x y : Int) (hy : I64 y) : I64 (takeF a C i x y) := by
  unfold takeF
  cases C.toNat with
  | zero => exact hy
  | succ k => exact or_in _ _

theorem clip8 (n : Int) : 0 ≤ clipF n 0 8 ∧ clipF n 0 8 ≤ 8 := by unfold clipF; split <;> (try split) <;> omega

set_option maxHeartbeats 6400000 in
set_option maxRecDepth 100000 in
theorem put_o {w : World} {b g : Nat} {o : Option Nat} {v : Value} {es : List Ev} {l : List Int} (h : Bf w b g (ptr o) l) (hr : RcO w o v es) (hb : ¬ FootO o v b) (hg : ¬ FootO o v g) (hI : I64s l) (hl : es.length + 3 * l.length ≤ 900000) (a s n f u : Int) :
    Calls Try.prog 25 #[.pointer (some ⟨b, 0, none⟩), S64 a, S64 s, .int .i64 n, .int .i64 f, .int .i64 u] w
      fun e w' => e = .returned (.tuple #[]) ∧ SetO w w' b g o v (more o es (scanE 2 (clipF f 0 l.length) (clipF u 0 l.length) (clipF u 0 l.length - clipF f 0 l.length).toNat)) (upd (putF a s (clipF n 0 8)) l (clipF f 0 l.length) (clipF u 0 l.length - clipF f 0 l.length).toNat) := by
  obtain ⟨cA0, cA1⟩ := clip_bounds f l.length
  obtain ⟨cB0, cB1⟩ := clip_bounds u l.length
  obtain ⟨cC0, cC8⟩ := clip8 n
  have HP := spread_any a n
  have HW := fun (w : World) (h : Bf w b g (ptr o) l) => window_some h f u
  revert cA0 cA1 cB0 cB1 HW cC0 cC8 HP
  generalize clipF f 0 l.length = A
  generalize clipF u 0 l.length = B
  generalize clipF n 0 8 = C
  intro cA0 cA1 cB0 cB1 cC0 cC8 HP HW
  refine (callsIn_wide (n := 6)).1 ?_
  refine callsIn_of_wp_marks Try.func25 rfl trivial ?_ rfl
  simp only [Try.ntmps25, List.size_toArray, List.length_cons, List.length_nil, Nat.reduceAdd, Nat.reduceSub, Array.replicate_succ, Array.replicate_zero, List.push_toArray, List.append_toArray, List.nil_append, List.cons_append]
  gi_wp2_with fail
  have b0 : But Nowhere w ((((w.alloc (.cells #[.pointer (some ⟨b, 0, none⟩)] 40)).alloc (.cells #[.int .i64 a] 29)).alloc (.cells #[.int .i64 s] 29)).alloc (.cells #[.int .i64 n] 3)) := ((((But.refl _ _).alloc _).alloc _).alloc _).alloc _
  have H4 := h.but b0 (not_nowhere _) (not_nowhere _)
  have bB := (((Box.new w 40 (.pointer (some ⟨b, 0, none⟩))).alloc (.cells #[.int .i64 a] 29)).alloc (.cells #[.int .i64 s] 29)).alloc (.cells #[.int .i64 n] 3)
  have bA := ((Box.new (w.alloc (.cells #[.pointer (some ⟨b, 0, none⟩)] 40)) 29 (.int .i64 a)).alloc (.cells #[.int .i64 s] 29)).alloc (.cells #[.int .i64 n] 3)
  have bS := (Box.new ((w.alloc (.cells #[.pointer (some ⟨b, 0, none⟩)] 40)).alloc (.cells #[.int .i64 a] 29)) 29 (.int .i64 s)).alloc (.cells #[.int .i64 n] 3)
  have bN := Box.new (((w.alloc (.cells #[.pointer (some ⟨b, 0, none⟩)] 40)).alloc (.cells #[.int .i64 a] 29)).alloc (.cells #[.int .i64 s] 29)) 3 (.int .i64 n)
  refine (callsIn_wide.2 (HW _ H4)).mono ?_
  rintro e w1 ⟨rfl, hbx, hfx, htx, b1, z1⟩
  simp only [World.size_alloc] at hbx hfx htx z1 bA bS bN
  replace bB := bB.but b1 (not_nowhere _)
  replace bA := bA.but b1 (not_nowhere _)
  replace bS := bS.but b1 (not_nowhere _)
  replace bN := bN.but b1 (not_nowhere _)
  have bw := b0.trans b1
  clear b0 b1 H4 HW
  gi_wp2_with fail
  have nf : ∀ k, w.heap.size ≤ k → ¬ FootO o v k := fun k hk q => by have := hr.foot_lt q; omega
  have lg := h.row.lt
  have lb := h.lt
  refine scan_range (T := fun _ => False) (b := b) (g := g) (o := o) (v0 := v) (es := es) (l := l) (fun i => more o es (scanE 2 A B i)) (fun i => upd (putF a s C) l A i) (fun _ _ => True) rfl rfl
    (.start (h.but bw (not_nowhere _) (not_nowhere _)) (hr.but bw (fun _ _ f => f)) hb hg id id (fun _ q => q.elim)) hbx htx hfx
    ⟨nf _ (by omega), by omega, id⟩ ⟨nf _ (by omega), by omega, id⟩ ⟨nf _ (by omega), by omega, id⟩
    cA0 cB1 cA1 cB0 (fun _ => upd_length _ _ _ _) rfl (by omega) (fun i hi => by have := more_le o es (scanE 2 A B i); rw [scanE_length] at this; omega) (by simp [scanE, rep]) (fun _ _ _ _ _ => trivial) trivial ?_ ?_
  · intro lo i v1 W r K hlo hlt hi hlr hmv hbW hS hJ hK
    gi_wp2_with fail
    refine hK _ _ (((But.refl _ _).alloc _).alloc _) ?_
    have nW : ∀ k, W.heap.size ≤ k → ¬ FootO o v1 k := fun k hk q => by have := hS.rc.foot_lt q; omega
    clear hS hJ hlr hK hbW
    rintro U hU ⟨r', hlU⟩ hbU hS hJ
    have off : ∀ k, w.heap.size ≤ k → ¬ (FootO o v k ∨ k = g ∨ False) := fun k hk q => q.elim (nf _ hk) (fun q => q.elim (fun q => by omega) id)
    have lw : W.heap.size + 2 ≤ U.heap.size := by have := hU.size; simp only [World.size_alloc] at this; omega
    have b0 := bB.but hbU (off _ (by omega))
    have b1 := bA.but hbU (off _ (by omega))
    have b2 := bS.but hbU (off _ (by omega))
    have b3 := bN.but hbU (off _ (by omega))
    have b4 := ((Box.new W 3 (.int .i64 (A + i))).alloc (.cells #[.int .i64 (word (upd (putF a s C) l A i) (A + i))] 29)).but hU (by omega)
    have b5 := (Box.new (W.alloc (.cells #[.int .i64 (A + i)] 3)) 29 (.int .i64 (word (upd (putF a s C) l A i) (A + i)))).but hU (by simp; omega)
    simp only [World.size_alloc] at b5
    have cA := b1.cell
    have cN := b3.cell
    gi_wp2_with fail
    refine (CallsIn.inRound _ (callsIn_wide.2 (HP _))).mono ?_
    rintro e U1 ⟨rfl, ba, bn, bU1, zU1⟩
    gi_wp2_with fail
    have hl1 : U1.heap[lo]? = some (.loop r') := (bU1.block _ (size_lt_of hlU) (not_nowhere _)).trans hlU
    have iI : I64 (A + i) := by omega
    have iL := upd_in (f := putF a s C) l A i hI (fun i x hx => putF_in _ _ _ _ _ hx)
    have iW := word_in iL (A + i)
    have hle : (more o (more o es (scanE 2 A B i)) [(1, A + i)]).length ≤ 1000000 := by
      have h1 := more_le o (more o es (scanE 2 A B i)) [(1, A + i)]
      have h2 := more_le o es (scanE 2 A B i)
      rw [scanE_length] at h2
      simp only [List.length_singleton] at h1
      omega
    have e1 := seenAt_nat (upd (putF a s C) l A i) A i cA0 (by rw [upd_length]; omega)
    have e2 : upd (putF a s C) l A (i + 1) = lay (upd (putF a s C) l A i) (A + i) (putI a s C (A + i) (word (upd (putF a s C) l A i) (A + i)) C.toNat) := rfl
    have E2 : Hid (upd (putF a s C) l A (i + 1) = lay (upd (putF a s C) l A i) (A + i) (putI a s C (A + i) (word (upd (putF a s C) l A i) (A + i)) C.toNat)) := e2
    have E1 : Hid (seenAt (upd (putF a s C) l A i) (A + i) = [(1, A + i)]) := e1
    clear e1 e2 iL hlU cA cN cA0 cA1 cB0 cB1
    refine spread_range (T := fun k => k = W.heap.size + 1) (x := a) (C := C) (fun j X => Box X (W.heap.size + 1) 29 (.int .i64 (putI a s C (A + i) (word (upd (putF a s C) l A i) (A + i)) j))) hl1 rfl rfl bn ba (by omega) (by omega) cC0 cC8 (by rintro k rfl; omega) (fun j X Y hj hk => (hk _ rfl).trans hj) (b5.but bU1 (not_nowhere _)) ?_ ?_
    · intro lo2 j X K2 hlo2 hlt2 hj hbX hJX hK2
      have lX := hbX.size
      gi_wp2_with fail
      refine hK2 _ _ ((But.refl _ _).alloc _) ?_
      clear hK2 hbX hJX
      intro U2 hU2 hbU2 hJ2
      have cW := hJ2.drew.cell
      have fW := hJ2.drew.frozen
      have cP := ((Box.new X 29 (.int .i64 (wrap64 (a + j)))).but hU2 (by omega)).drew.cell
      have cI := ((b4.but bU1 (not_nowhere _)).but hbU2 (by omega)).drew.cell
      have cS := ((b2.but bU1 (not_nowhere _)).but hbU2 (by omega)).drew.cell
      have HF : Hid (∀ W3, But Nowhere U2 W3 → But (fun k => k = W.heap.size + 1) U2 (W3.setCell ⟨W.heap.size + 1, 0, none⟩ (.int .i64 (bits .or .i64 (putI a s C (A + i) (word (upd (putF a s C) l A i) (A + i)) j) (bits .and .i64 (eqM (wrap64 (a + j)) (A + i)) (bits .and .i64 (s / 2 ^ (shN (8 * (C - 1 - j))).toNat) 255))))) ∧ Box (W3.setCell ⟨W.heap.size + 1, 0, none⟩ (.int .i64 (bits .or .i64 (putI a s C (A + i) (word (upd (putF a s C) l A i) (A + i)) j) (bits .and .i64 (eqM (wrap64 (a + j)) (A + i)) (bits .and .i64 (s / 2 ^ (shN (8 * (C - 1 - j))).toNat) 255))))) (W.heap.size + 1) 29 (.int .i64 (putI a s C (A + i) (word (upd (putF a s C) l A i) (A + i)) (j + 1)))) := by
        intro W3 h3
        exact ⟨But.setCell (S := fun k => k = W.heap.size + 1) (h3.mono (fun _ _ f => f.elim)) (fun _ => rfl) _, (hJ2.but h3 (not_nowhere _)).set _⟩
      clear hJ2 hS hJ b0 b1 b2 b3 b4 b5 hU hU2 hbU2 hbU iW hl
      generalize word (upd (putF a s C) l A i) (A + i) = x0 at *
      generalize putI a s C (A + i) x0 j = pj at *
      gi_wp2_with fail
      refine round_region_till (S := fun x => x.cell? ⟨W.heap.size + 1, 0, none⟩ = some (.int .i64 pj) ∧ x.cell? ⟨X.heap.size, 0, none⟩ = some (.int .i64 (wrap64 (a + j))) ∧ x.cell? ⟨W.heap.size, 0, none⟩ = some (.int .i64 (A + i)) ∧ x.cell? ⟨w.heap.size + 1 + 1, 0, none⟩ = some (.int .i64 s)) (R := fun _ => True) (k := 10) (m := 100) (by kernel_rfl) (by kernel_rfl) (by rintro ⟨_, _, ⟨q, _⟩⟩; cases q) ⟨cW, cP, cI, cS⟩ trivial ?_
      (refine Walk.take (i := 0) (oi := { dst := some 27, op := Op.load 29 (Operand.tmp 13), type := 29, pos := "scan.go:63", after := #[], guard := none }) (v := ?_) rfl (by kernel_rfl) (by kernel_rfl) (by kernel_rfl) (by kernel_rfl) (fun _ _ _ h => h) (Or.inl ⟨by rfl, ?_⟩) ?_; rotate_left; (intro w hw; have hS1 := hw.1 (by kernel_rfl); clear hw; (try dsimp only at hS1); (try go_split_ands); go_simp; try (with_reducible rfl)); simp only [Act.put, List.setIfInBounds_toArray, List.set_cons_zero, List.set_cons_succ])
      (refine Walk.take (i := 1) (oi := { dst := some 28, op := Op.load 29 (Operand.tmp 14), type := 29, pos := "scan.go:63", after := #[], guard := none }) (v := ?_) rfl (by kernel_rfl) (by kernel_rfl) (by kernel_rfl) (by kernel_rfl) (fun _ _ _ h => h) (Or.inl ⟨by rfl, ?_⟩) ?_; rotate_left; (intro w hw; have hS1 := hw.1 (by kernel_rfl); clear hw; (try dsimp only at hS1); (try go_split_ands); go_simp; try (with_reducible rfl)); simp only [Act.put, List.setIfInBounds_toArray, List.set_cons_zero, List.set_cons_succ])
      (refine Walk.take (i := 2) (oi := { dst := some 29, op := Op.load 3 (Operand.tmp 12), type := 3, pos := "scan.go:63", after := #[], guard := none }) (v := ?_) rfl (by kernel_rfl) (by kernel_rfl) (by kernel_rfl) (by kernel_rfl) (fun _ _ _ h => h) (Or.inl ⟨by rfl, ?_⟩) ?_; rotate_left; (intro w hw; have hS1 := hw.1 (by kernel_rfl); clear hw; (try dsimp only at hS1); (try go_split_ands); go_simp; try (with_reducible rfl)); simp only [Act.put, List.setIfInBounds_toArray, List.set_cons_zero, List.set_cons_succ])
      (refine Walk.take (i := 4) (oi := { dst := some 31, op := Op.load 29 (Operand.tmp 8), type := 29, pos := "scan.go:63", after := #[], guard := none }) (v := ?_) rfl (by kernel_rfl) (by kernel_rfl) (by kernel_rfl) (by kernel_rfl) (fun _ _ _ h => h) (Or.inl ⟨by rfl, ?_⟩) ?_; rotate_left; (intro w hw; have hS1 := hw.1 (by kernel_rfl); clear hw; (try dsimp only at hS1); (try go_split_ands); go_simp; try (with_reducible rfl)); simp only [Act.put, List.setIfInBounds_toArray, List.set_cons_zero, List.set_cons_succ])
      (refine Walk.take (i := 5) (oi := { dst := some 32, op := Op.move (Operand.tmp 15), type := 3, pos := "scan.go:63", after := #[], guard := none }) (v := ?_) rfl (by kernel_rfl) (by kernel_rfl) (by kernel_rfl) (by kernel_rfl) (fun _ _ _ h => h) (Or.inl ⟨by rfl, ?_⟩) ?_; rotate_left; (intro w hw; have hS1 := hw.1 (by kernel_rfl); clear hw; (try dsimp only at hS1); (try go_split_ands); go_simp; try (with_reducible rfl)); simp only [Act.put, List.setIfInBounds_toArray, List.set_cons_zero, List.set_cons_succ])
      (refine Walk.go (i := 3) (o := { dst := some 30, op := Op.call { callee := Callee.value (Operand.func 41), args := #[Operand.tmp 28, Operand.tmp 29], argTypes := #[29, 3] }, type := 29, pos := "scan.go:63", after := #[{ on := 1, ground := Ground.data }, { on := 2, ground := Ground.data }], guard := none }) (by kernel_rfl) rfl (fun K hK => ?_); go_simp; ((go_at_call 41; refine (here_any _ _ _ (w64_in _) iI).mono ?_; rintro e x3 ⟨rfl, d3⟩; replace cP := d3.keeps (not_nowhere _) cP; replace cI := d3.keeps (not_nowhere _) cI; replace cS := d3.keeps (not_nowhere _) cS; replace fW := d3.thaws (not_nowhere _) cW fW; replace cW := d3.keeps (not_nowhere _) cW)); refine hK.out _ _ (⟨fun _ => ⟨cW, cP, cI, cS⟩, fun _ => trivial⟩) ?_; clear hK K; try simp only [Act.put, List.setIfInBounds_toArray, List.set_cons_zero, List.set_cons_succ])
      (refine Walk.go (i := 6) (o := { dst := some 33, op := Op.call { callee := Callee.value (Operand.func 45), args := #[Operand.tmp 31, Operand.tmp 32], argTypes := #[29, 3] }, type := 29, pos := "scan.go:63", after := #[{ on := 4, ground := Ground.data }, { on := 5, ground := Ground.data }, { on := 3, ground := Ground.chain }], guard := none }) (by kernel_rfl) rfl (fun K hK => ?_); go_simp; ((go_at_call 45; refine (shr_any _ _ _).mono ?_; rintro e x6 ⟨rfl, d6⟩; replace cP := d6.keeps (not_nowhere _) cP; replace cI := d6.keeps (not_nowhere _) cI; replace cS := d6.keeps (not_nowhere _) cS; replace fW := d6.thaws (not_nowhere _) cW fW; replace cW := d6.keeps (not_nowhere _) cW)); refine hK.out _ _ (⟨fun _ => ⟨cW, cP, cI, cS⟩, fun _ => trivial⟩) ?_; clear hK K; try simp only [Act.put, List.setIfInBounds_toArray, List.set_cons_zero, List.set_cons_succ])
      (refine Walk.go (i := 7) (o := { dst := some 34, op := Op.call { callee := Callee.value (Operand.func 56), args := #[Operand.tmp 33], argTypes := #[29] }, type := 29, pos := "scan.go:63", after := #[{ on := 6, ground := Ground.data }, { on := 6, ground := Ground.chain }], guard := none }) (by kernel_rfl) rfl (fun K hK => ?_); go_simp; ((go_at_call 56; refine (low_any _ _).mono ?_; rintro e x7 ⟨rfl, d7⟩; replace cP := d7.keeps (not_nowhere _) cP; replace cI := d7.keeps (not_nowhere _) cI; replace cS := d7.keeps (not_nowhere _) cS; replace fW := d7.thaws (not_nowhere _) cW fW; replace cW := d7.keeps (not_nowhere _) cW)); refine hK.out _ _ (⟨fun _ => ⟨cW, cP, cI, cS⟩, fun _ => trivial⟩) ?_; clear hK K; try simp only [Act.put, List.setIfInBounds_toArray, List.set_cons_zero, List.set_cons_succ])
      (refine Walk.go (i := 8) (o := { dst := some 35, op := Op.call { callee := Callee.value (Operand.func 55), args := #[Operand.tmp 30, Operand.tmp 34], argTypes := #[29, 29] }, type := 29, pos := "scan.go:63", after := #[{ on := 3, ground := Ground.data }, { on := 7, ground := Ground.data }, { on := 7, ground := Ground.chain }], guard := none }) (by kernel_rfl) rfl (fun K hK => ?_); go_simp; ((go_at_call 55; refine (and_any _ _ _).mono ?_; rintro e x8 ⟨rfl, d8⟩; replace cP := d8.keeps (not_nowhere _) cP; replace cI := d8.keeps (not_nowhere _) cI; replace cS := d8.keeps (not_nowhere _) cS; replace fW := d8.thaws (not_nowhere _) cW fW; replace cW := d8.keeps (not_nowhere _) cW)); refine hK.out _ _ (⟨fun _ => ⟨cW, cP, cI, cS⟩, fun _ => trivial⟩) ?_; clear hK K; try simp only [Act.put, List.setIfInBounds_toArray, List.set_cons_zero, List.set_cons_succ])
      (refine Walk.go (i := 9) (o := { dst := some 36, op := Op.call { callee := Callee.value (Operand.func 54), args := #[Operand.tmp 27, Operand.tmp 35], argTypes := #[29, 29] }, type := 29, pos := "scan.go:63", after := #[{ on := 0, ground := Ground.data }, { on := 8, ground := Ground.data }, { on := 8, ground := Ground.chain }], guard := none }) (by kernel_rfl) rfl (fun K hK => ?_); go_simp; ((go_at_call 54; refine (or_any _ _ _).mono ?_; rintro e x9 ⟨rfl, d9⟩; replace cP := d9.keeps (not_nowhere _) cP; replace cI := d9.keeps (not_nowhere _) cI; replace cS := d9.keeps (not_nowhere _) cS; replace fW := d9.thaws (not_nowhere _) cW fW; replace cW := d9.keeps (not_nowhere _) cW)); refine hK.out _ _ (⟨fun _ => ⟨cW, cP, cI, cS⟩, fun _ => trivial⟩) ?_; clear hK K; try simp only [Act.put, List.setIfInBounds_toArray, List.set_cons_zero, List.set_cons_succ])
      (refine Walk.go (i := 10) (o := { dst := none, op := Op.store 29 (Operand.tmp 13) (Operand.tmp 36), type := 0, pos := "scan.go:63", after := #[{ on := 9, ground := Ground.data }, { on := 9, ground := Ground.chain }, { on := 0, ground := Ground.phase }, { on := 1, ground := Ground.phase }, { on := 2, ground := Ground.phase }, { on := 3, ground := Ground.phase }, { on := 4, ground := Ground.phase }, { on := 5, ground := Ground.phase }, { on := 6, ground := Ground.phase }, { on := 7, ground := Ground.phase }, { on := 8, ground := Ground.phase }, { on := 9, ground := Ground.phase }], guard := none }) (by kernel_rfl) rfl (fun K hK => ?_); go_simp; (skip); refine hK.out _ _ (⟨fun q => absurd q (by decide), fun _ => trivial⟩) ?_; clear hK K; try simp only [Act.put, List.setIfInBounds_toArray, List.set_cons_zero, List.set_cons_succ])
      refine Walk.done (by kernel_rfl) ?_ _
      have HH := HF.out _ ((But.refl Nowhere U2).drew.trans (d3.trans (d6.trans (d7.trans (d8.trans d9)))))
      gi_wp2_with fail
    · intro W2 hb2 hj2
      have bUW : But (fun k => k = W.heap.size + 1) U W2 := (bU1.mono (fun _ _ f => f.elim)).step hb2 (fun _ _ f => f)
      have s2 := hS.bf.but bUW (by omega) (by omega)
      have r2 := hS.rc.but bUW (fun k hk e => nW k (by omega) hk)
      have cB := (b0.but bUW (by omega)).cell
      have cI := (b4.but bUW (by omega)).cell
      have cW := hj2.cell
      have HX : Hid (∀ W3, SetO W2 W3 b g o v1 (more o (more o (more o es (scanE 2 A B i)) [(1, A + i)]) (seenAt (upd (putF a s C) l A i) (A + i))) (lay (upd (putF a s C) l A i) (A + i) (putI a s C (A + i) (word (upd (putF a s C) l A i) (A + i)) C.toNat)) → ∃ v', Scw (fun _ => False) W.heap.size U W3 o b g v1 v' (more o es (scanE 2 A B (i + 1))) (upd (putF a s C) l A (i + 1))) := by
        rintro W3 ⟨v', r3, m3, f3, b3⟩
        rw [E1.out, more_more, more_more] at r3
        rw [E2.out, scanE_succ]
        exact ⟨v', f3, r3, m3.imp id (fun e x hx => by have := e x hx; have := bUW.size; omega), (bUW.mono (fun k _ f => .inr (.inr (.inr (by omega))))).step b3 (fun k _ f => f.imp id (fun q => .inl q))⟩
      have so := set_o s2 r2 hS.ob hS.og hle
      clear hS hJ b0 b1 b2 b3 b4 b5 hU hbU iW hl hj2 bUW s2 r2 E1 E2
      generalize putI a s C (A + i) (word (upd (putF a s C) l A i) (A + i)) C.toNat = pj at *
      gi_wp2_with fail
      refine (CallsIn.inRound _ (callsIn_wide.2 (so _ _))).mono ?_
      rintro e W3 ⟨rfl, h3⟩
      have HH := HX.out W3 h3
      clear h3 HX so
      gi_wp2_with fail
  · intro v1 W' hS hJ hD
    gi_wp2_with fail
    refine ⟨by simp, .inl ⟨_, _, rfl, run_takeDeferred hD, ?_⟩⟩
    refine ⟨_, results_none rfl _ _ _, rfl, ?_⟩
    refine Scn.setO (Scn.close (S := fun k => k = w1.heap.size) hS bw (fun _ q => q.elim) (But.putObj (S := fun k => k = w1.heap.size) (But.refl _ _) (fun _ => rfl) _) ?_) (But.refl _ _) (fun _ q => q.elim)
    rintro k rfl
    exact ⟨by omega, hS.rc.not_deferred hD, by omega, by omega⟩

set_option maxHeartbeats 6400000 in
set_option maxRecDepth 100000 in
theorem take_o {w : World} {b g : Nat} {o : Option Nat} {v : Value} {es : List Ev} {l : List Int} (h : Bf w b g (ptr o) l) (hr : RcO w o v es) (hb : ¬ FootO o v b) (hg : ¬ FootO o v g) (hl : es.length + 3 * l.length ≤ 900000) (a n f u : Int) :
    Calls Try.prog 26 #[.pointer (some ⟨b, 0, none⟩), S64 a, .int .i64 n, .int .i64 f, .int .i64 u] w
      fun e w' => e = .returned (S64 (acc (takeF a (clipF n 0 8)) l (clipF f 0 l.length) (clipF u 0 l.length - clipF f 0 l.length).toNat)) ∧ LaidO w w' o v (more o es (scanE 1 (clipF f 0 l.length) (clipF u 0 l.length) (clipF u 0 l.length - clipF f 0 l.length).toNat)) := by
  obtain ⟨cA0, cA1⟩ := clip_bounds f l.length
  obtain ⟨cB0, cB1⟩ := clip_bounds u l.length
  obtain ⟨cC0, cC8⟩ := clip8 n
  have HP := spread_any a n
  have HW := fun (w : World) (h : Bf w b g (ptr o) l) => window_some h f u
  revert cA0 cA1 cB0 cB1 HW cC0 cC8 HP
  generalize clipF f 0 l.length = A
  generalize clipF u 0 l.length = B
  generalize clipF n 0 8 = C
  intro cA0 cA1 cB0 cB1 cC0 cC8 HP HW
  refine (callsIn_wide (n := 6)).1 ?_
  refine callsIn_of_wp_marks Try.func26 rfl trivial ?_ rfl
  simp only [Try.ntmps26, List.size_toArray, List.length_cons, List.length_nil, Nat.reduceAdd, Nat.reduceSub, Array.replicate_succ, Array.replicate_zero, List.push_toArray, List.append_toArray, List.nil_append, List.cons_append]
  gi_wp2_with (gi_at_call 15; refine (callsIn_wide.2 (of_at _ _)).mono ?_; rintro e w' ⟨rfl, rfl⟩)
  have b0 : But Nowhere w (((((w.alloc (.cells #[.int .i64 a] 29)).alloc (.cells #[.int .i64 n] 3)).alloc (.cells #[.int .i64 0] 29)).alloc (cell1 0)).alloc (.cells #[.int .i64 0] 29)) := (((((But.refl _ _).alloc _).alloc _).alloc _).alloc _).alloc _
  have H4 := h.but b0 (not_nowhere _) (not_nowhere _)
  have bA := ((((Box.new w 29 (.int .i64 a)).alloc (.cells #[.int .i64 n] 3)).alloc (.cells #[.int .i64 0] 29)).alloc (cell1 0)).alloc (.cells #[.int .i64 0] 29)
  have bN := (((Box.new (w.alloc (.cells #[.int .i64 a] 29)) 3 (.int .i64 n)).alloc (.cells #[.int .i64 0] 29)).alloc (cell1 0)).alloc (.cells #[.int .i64 0] 29)
  have bR := ((Box.new ((w.alloc (.cells #[.int .i64 a] 29)).alloc (.cells #[.int .i64 n] 3)) 29 (.int .i64 0)).alloc (cell1 0)).alloc (.cells #[.int .i64 0] 29)
  have bF := Box.new ((((w.alloc (.cells #[.int .i64 a] 29)).alloc (.cells #[.int .i64 n] 3)).alloc (.cells #[.int .i64 0] 29)).alloc (cell1 0)) 29 (.int .i64 0)
  refine (callsIn_wide.2 (HW _ H4)).mono ?_
  rintro e w1 ⟨rfl, hbx, hfx, htx, b1, z1⟩
  simp only [World.size_alloc] at hbx hfx htx z1 bN bR bF
  replace bA := bA.but b1 (not_nowhere _)
  replace bN := bN.but b1 (not_nowhere _)
  replace bR := bR.but b1 (not_nowhere _)
  replace bF := bF.but b1 (not_nowhere _)
  have bw := b0.trans b1
  clear b0 b1 H4 HW
  gi_wp2_with fail
  have nf : ∀ k, w.heap.size ≤ k → ¬ FootO o v k := fun k hk q => by have := hr.foot_lt q; omega
  have lg := h.row.lt
  have lb := h.lt
  refine scan_range (T := fun k => k = w.heap.size + 1 + 1 + 1 + 1) (b := b) (g := g) (o := o) (v0 := v) (es := es) (l := l) (fun i => more o es (scanE 1 A B i)) (fun _ => l) (fun i W => Box W (w.heap.size + 1 + 1 + 1 + 1) 29 (.int .i64 (acc (takeF a C) l A i))) rfl rfl
    (.start (h.but bw (not_nowhere _) (not_nowhere _)) (hr.but bw (fun _ _ f => f)) hb hg (by omega) (by omega) (by rintro k rfl; exact ⟨by omega, nf _ (by omega)⟩)) hbx htx hfx
    ⟨nf _ (by omega), by omega, by omega⟩ ⟨nf _ (by omega), by omega, by omega⟩ ⟨nf _ (by omega), by omega, by omega⟩
    cA0 cB1 cA1 cB0 (fun _ => rfl) rfl (by omega) (fun i hi => by have := more_le o es (scanE 1 A B i); rw [scanE_length] at this; omega) (by simp [scanE, rep]) (fun i W W' hj hk => (hk _ rfl).trans hj) bF ?_ ?_
  · intro lo i v1 W r K hlo hlt hi hlr hmv hbW hS hJ hK
    gi_wp2_with fail
    refine hK _ _ (((But.refl _ _).alloc _).alloc _) ?_
    clear hS hJ hlr hK hbW
    rintro U hU ⟨r', hlU⟩ hbU hS hJ
    have off : ∀ k, w.heap.size ≤ k → k ≠ w.heap.size + 1 + 1 + 1 + 1 → ¬ (FootO o v k ∨ k = g ∨ k = w.heap.size + 1 + 1 + 1 + 1) := fun k hk hn q => q.elim (nf _ hk) (fun q => q.elim (fun q => by omega) hn)
    have lw : W.heap.size + 2 ≤ U.heap.size := by have := hU.size; simp only [World.size_alloc] at this; omega
    have b1 := bA.but hbU (off _ (by omega) (by omega))
    have b3 := bN.but hbU (off _ (by omega) (by omega))
    have b4 := ((Box.new W 3 (.int .i64 (A + i))).alloc (.cells #[.int .i64 (word l (A + i))] 29)).but hU (by omega)
    have b5 := (Box.new (W.alloc (.cells #[.int .i64 (A + i)] 3)) 29 (.int .i64 (word l (A + i)))).but hU (by simp; omega)
    simp only [World.size_alloc] at b5
    have cA := b1.cell
    have cN := b3.cell
    gi_wp2_with fail
    refine (CallsIn.inRound _ (callsIn_wide.2 (HP _))).mono ?_
    rintro e U1 ⟨rfl, ba, bn, bU1, zU1⟩
    gi_wp2_with fail
    have hl1 : U1.heap[lo]? = some (.loop r') := (bU1.block _ (size_lt_of hlU) (not_nowhere _)).trans hlU
    have iI : I64 (A + i) := by omega
    have lF := bF.lt
    clear hlU cA cN
    refine spread_range (T := fun k => k = w.heap.size + 1 + 1 + 1 + 1) (x := a) (C := C) (fun j X => Box X (w.heap.size + 1 + 1 + 1 + 1) 29 (.int .i64 (takeI a C (A + i) (word l (A + i)) (acc (takeF a C) l A i) j))) hl1 rfl rfl bn ba (by omega) (by omega) cC0 cC8 (by rintro k rfl; omega) (fun j X Y hj hk => (hk _ rfl).trans hj) (hJ.but bU1 (not_nowhere _)) ?_ ?_
    · intro lo2 j X K2 hlo2 hlt2 hj hbX hJX hK2
      have lX := hbX.size
      gi_wp2_with fail
      refine hK2 _ _ ((But.refl _ _).alloc _) ?_
      clear hK2 hbX hJX
      intro U2 hU2 hbU2 hJ2
      have cT := hJ2.drew.cell
      have fT := hJ2.drew.frozen
      have cP := ((Box.new X 29 (.int .i64 (wrap64 (a + j)))).but hU2 (by omega)).drew.cell
      have cI := ((b4.but bU1 (not_nowhere _)).but hbU2 (by omega)).drew.cell
      have cW := ((b5.but bU1 (not_nowhere _)).but hbU2 (by omega)).drew.cell
      have HF : Hid (∀ W3, But Nowhere U2 W3 → But (fun k => k = w.heap.size + 1 + 1 + 1 + 1) U2 (W3.setCell ⟨w.heap.size + 1 + 1 + 1 + 1, 0, none⟩ (.int .i64 (bits .or .i64 (takeI a C (A + i) (word l (A + i)) (acc (takeF a C) l A i) j) (wrap64 (bits .and .i64 (eqM (wrap64 (a + j)) (A + i)) (bits .and .i64 (word l (A + i)) 255) * 2 ^ (shN (8 * (C - 1 - j))).toNat))))) ∧ Box (W3.setCell ⟨w.heap.size + 1 + 1 + 1 + 1, 0, none⟩ (.int .i64 (bits .or .i64 (takeI a C (A + i) (word l (A + i)) (acc (takeF a C) l A i) j) (wrap64 (bits .and .i64 (eqM (wrap64 (a + j)) (A + i)) (bits .and .i64 (word l (A + i)) 255) * 2 ^ (shN (8 * (C - 1 - j))).toNat))))) (w.heap.size + 1 + 1 + 1 + 1) 29 (.int .i64 (takeI a C (A + i) (word l (A + i)) (acc (takeF a C) l A i) (j + 1)))) := by
        intro W3 h3
        exact ⟨But.setCell (S := fun k => k = w.heap.size + 1 + 1 + 1 + 1) (h3.mono (fun _ _ f => f.elim)) (fun _ => rfl) _, (hJ2.but h3 (not_nowhere _)).set _⟩
      clear hJ2 hS hJ b1 b3 b4 b5 hU hU2 hbU2 hbU hl cA0 cA1 cB0 cB1
      generalize acc (takeF a C) l A i = y0 at *
      generalize word l (A + i) = x0 at *
      generalize takeI a C (A + i) x0 y0 j = pj at *
      gi_wp2_with fail
      refine round_region_till (S := fun x => x.cell? ⟨w.heap.size + 1 + 1 + 1 + 1, 0, none⟩ = some (.int .i64 pj) ∧ x.cell? ⟨X.heap.size, 0, none⟩ = some (.int .i64 (wrap64 (a + j))) ∧ x.cell? ⟨W.heap.size, 0, none⟩ = some (.int .i64 (A + i)) ∧ x.cell? ⟨W.heap.size + 1, 0, none⟩ = some (.int .i64 x0)) (R := fun _ => True) (k := 10) (m := 100) (by kernel_rfl) (by kernel_rfl) (by rintro ⟨_, _, ⟨q, _⟩⟩; cases q) ⟨cT, cP, cI, cW⟩ trivial ?_
      (refine Walk.take (i := 0) (oi := { dst := some 28, op := Op.load 29 (Operand.tmp 11), type := 29, pos := "scan.go:74", after := #[], guard := none }) (v := ?_) rfl (by kernel_rfl) (by kernel_rfl) (by kernel_rfl) (by kernel_rfl) (fun _ _ _ h => h) (Or.inl ⟨by rfl, ?_⟩) ?_; rotate_left; (intro w hw; have hS1 := hw.1 (by kernel_rfl); clear hw; (try dsimp only at hS1); (try go_split_ands); go_simp; try (with_reducible rfl)); simp only [Act.put, List.setIfInBounds_toArray, List.set_cons_zero, List.set_cons_succ])
      (refine Walk.take (i := 1) (oi := { dst := some 29, op := Op.load 29 (Operand.tmp 14), type := 29, pos := "scan.go:74", after := #[], guard := none }) (v := ?_) rfl (by kernel_rfl) (by kernel_rfl) (by kernel_rfl) (by kernel_rfl) (fun _ _ _ h => h) (Or.inl ⟨by rfl, ?_⟩) ?_; rotate_left; (intro w hw; have hS1 := hw.1 (by kernel_rfl); clear hw; (try dsimp only at hS1); (try go_split_ands); go_simp; try (with_reducible rfl)); simp only [Act.put, List.setIfInBounds_toArray, List.set_cons_zero, List.set_cons_succ])
      (refine Walk.take (i := 2) (oi := { dst := some 30, op := Op.load 3 (Operand.tmp 12), type := 3, pos := "scan.go:74", after := #[], guard := none }) (v := ?_) rfl (by kernel_rfl) (by kernel_rfl) (by kernel_rfl) (by kernel_rfl) (fun _ _ _ h => h) (Or.inl ⟨by rfl, ?_⟩) ?_; rotate_left; (intro w hw; have hS1 := hw.1 (by kernel_rfl); clear hw; (try dsimp only at hS1); (try go_split_ands); go_simp; try (with_reducible rfl)); simp only [Act.put, List.setIfInBounds_toArray, List.set_cons_zero, List.set_cons_succ])
      (refine Walk.take (i := 4) (oi := { dst := some 32, op := Op.load 29 (Operand.tmp 13), type := 29, pos := "scan.go:74", after := #[], guard := none }) (v := ?_) rfl (by kernel_rfl) (by kernel_rfl) (by kernel_rfl) (by kernel_rfl) (fun _ _ _ h => h) (Or.inl ⟨by rfl, ?_⟩) ?_; rotate_left; (intro w hw; have hS1 := hw.1 (by kernel_rfl); clear hw; (try dsimp only at hS1); (try go_split_ands); go_simp; try (with_reducible rfl)); simp only [Act.put, List.setIfInBounds_toArray, List.set_cons_zero, List.set_cons_succ])
      (refine Walk.take (i := 7) (oi := { dst := some 35, op := Op.move (Operand.tmp 15), type := 3, pos := "scan.go:74", after := #[], guard := none }) (v := ?_) rfl (by kernel_rfl) (by kernel_rfl) (by kernel_rfl) (by kernel_rfl) (fun _ _ _ h => h) (Or.inl ⟨by rfl, ?_⟩) ?_; rotate_left; (intro w hw; have hS1 := hw.1 (by kernel_rfl); clear hw; (try dsimp only at hS1); (try go_split_ands); go_simp; try (with_reducible rfl)); simp only [Act.put, List.setIfInBounds_toArray, List.set_cons_zero, List.set_cons_succ])
      (refine Walk.go (i := 3) (o := { dst := some 31, op := Op.call { callee := Callee.value (Operand.func 41), args := #[Operand.tmp 29, Operand.tmp 30], argTypes := #[29, 3] }, type := 29, pos := "scan.go:74", after := #[{ on := 1, ground := Ground.data }, { on := 2, ground := Ground.data }], guard := none }) (by kernel_rfl) rfl (fun K hK => ?_); go_simp; ((go_at_call 41; refine (here_any _ _ _ (w64_in _) iI).mono ?_; rintro e x3 ⟨rfl, d3⟩; replace cP := d3.keeps (not_nowhere _) cP; replace cI := d3.keeps (not_nowhere _) cI; replace cW := d3.keeps (not_nowhere _) cW; replace fT := d3.thaws (not_nowhere _) cT fT; replace cT := d3.keeps (not_nowhere _) cT)); refine hK.out _ _ (⟨fun _ => ⟨cT, cP, cI, cW⟩, fun _ => trivial⟩) ?_; clear hK K; try simp only [Act.put, List.setIfInBounds_toArray, List.set_cons_zero, List.set_cons_succ])
      (refine Walk.go (i := 5) (o := { dst := some 33, op := Op.call { callee := Callee.value (Operand.func 56), args := #[Operand.tmp 32], argTypes := #[29] }, type := 29, pos := "scan.go:74", after := #[{ on := 4, ground := Ground.data }, { on := 3, ground := Ground.chain }], guard := none }) (by kernel_rfl) rfl (fun K hK => ?_); go_simp; ((go_at_call 56; refine (low_any _ _).mono ?_; rintro e x7 ⟨rfl, d7⟩; replace cP := d7.keeps (not_nowhere _) cP; replace cI := d7.keeps (not_nowhere _) cI; replace cW := d7.keeps (not_nowhere _) cW; replace fT := d7.thaws (not_nowhere _) cT fT; replace cT := d7.keeps (not_nowhere _) cT)); refine hK.out _ _ (⟨fun _ => ⟨cT, cP, cI, cW⟩, fun _ => trivial⟩) ?_; clear hK K; try simp only [Act.put, List.setIfInBounds_toArray, List.set_cons_zero, List.set_cons_succ])
      (refine Walk.go (i := 6) (o := { dst := some 34, op := Op.call { callee := Callee.value (Operand.func 55), args := #[Operand.tmp 31, Operand.tmp 33], argTypes := #[29, 29] }, type := 29, pos := "scan.go:74", after := #[{ on := 3, ground := Ground.data }, { on := 5, ground := Ground.data }, { on := 5, ground := Ground.chain }], guard := none }) (by kernel_rfl) rfl (fun K hK => ?_); go_simp; ((go_at_call 55; refine (and_any _ _ _).mono ?_; rintro e x8 ⟨rfl, d8⟩; replace cP := d8.keeps (not_nowhere _) cP; replace cI := d8.keeps (not_nowhere _) cI; replace cW := d8.keeps (not_nowhere _) cW; replace fT := d8.thaws (not_nowhere _) cT fT; replace cT := d8.keeps (not_nowhere _) cT)); refine hK.out _ _ (⟨fun _ => ⟨cT, cP, cI, cW⟩, fun _ => trivial⟩) ?_; clear hK K; try simp only [Act.put, List.setIfInBounds_toArray, List.set_cons_zero, List.set_cons_succ])
      (refine Walk.go (i := 8) (o := { dst := some 36, op := Op.call { callee := Callee.value (Operand.func 57), args := #[Operand.tmp 34, Operand.tmp 35], argTypes := #[29, 3] }, type := 29, pos := "scan.go:74", after := #[{ on := 6, ground := Ground.data }, { on := 7, ground := Ground.data }, { on := 6, ground := Ground.chain }], guard := none }) (by kernel_rfl) rfl (fun K hK => ?_); go_simp; ((go_at_call 57; refine (shl_num _ _ _).mono ?_; rintro e x6 ⟨rfl, d6⟩; replace cP := d6.keeps (not_nowhere _) cP; replace cI := d6.keeps (not_nowhere _) cI; replace cW := d6.keeps (not_nowhere _) cW; replace fT := d6.thaws (not_nowhere _) cT fT; replace cT := d6.keeps (not_nowhere _) cT)); refine hK.out _ _ (⟨fun _ => ⟨cT, cP, cI, cW⟩, fun _ => trivial⟩) ?_; clear hK K; try simp only [Act.put, List.setIfInBounds_toArray, List.set_cons_zero, List.set_cons_succ])
      (refine Walk.go (i := 9) (o := { dst := some 37, op := Op.call { callee := Callee.value (Operand.func 54), args := #[Operand.tmp 28, Operand.tmp 36], argTypes := #[29, 29] }, type := 29, pos := "scan.go:74", after := #[{ on := 0, ground := Ground.data }, { on := 8, ground := Ground.data }, { on := 8, ground := Ground.chain }], guard := none }) (by kernel_rfl) rfl (fun K hK => ?_); go_simp; ((go_at_call 54; refine (or_any _ _ _).mono ?_; rintro e x9 ⟨rfl, d9⟩; replace cP := d9.keeps (not_nowhere _) cP; replace cI := d9.keeps (not_nowhere _) cI; replace cW := d9.keeps (not_nowhere _) cW; replace fT := d9.thaws (not_nowhere _) cT fT; replace cT := d9.keeps (not_nowhere _) cT)); refine hK.out _ _ (⟨fun _ => ⟨cT, cP, cI, cW⟩, fun _ => trivial⟩) ?_; clear hK K; try simp only [Act.put, List.setIfInBounds_toArray, List.set_cons_zero, List.set_cons_succ])
      (refine Walk.go (i := 10) (o := { dst := none, op := Op.store 29 (Operand.tmp 11) (Operand.tmp 37), type := 0, pos := "scan.go:74", after := #[{ on := 9, ground := Ground.data }, { on := 9, ground := Ground.chain }, { on := 0, ground := Ground.phase }, { on := 1, ground := Ground.phase }, { on := 2, ground := Ground.phase }, { on := 3, ground := Ground.phase }, { on := 4, ground := Ground.phase }, { on := 5, ground := Ground.phase }, { on := 6, ground := Ground.phase }, { on := 7, ground := Ground.phase }, { on := 8, ground := Ground.phase }, { on := 9, ground := Ground.phase }], guard := none }) (by kernel_rfl) rfl (fun K hK => ?_); go_simp; (skip); refine hK.out _ _ (⟨fun q => absurd q (by decide), fun _ => trivial⟩) ?_; clear hK K; try simp only [Act.put, List.setIfInBounds_toArray, List.set_cons_zero, List.set_cons_succ])
      refine Walk.done (by kernel_rfl) ?_ _
      have HH := HF.out _ ((But.refl Nowhere U2).drew.trans (d3.trans (d7.trans (d8.trans (d6.trans d9)))))
      gi_wp2_with fail
    · intro W2 hb2 hj2
      have HH : ∃ v', Scw (fun k => k = w.heap.size + 1 + 1 + 1 + 1) W.heap.size U W2 o b g v1 v' (more o es (scanE 1 A B (i + 1))) l ∧ Box W2 (w.heap.size + 1 + 1 + 1 + 1) 29 (.int .i64 (acc (takeF a C) l A (i + 1))) := by
        refine ⟨v1, Scn.scw ?_ (by omega), hj2⟩
        rw [scanE_succ, ← more_more]
        exact hS.own ((bU1.mono (fun _ _ f => f.elim)).step hb2 (fun _ _ f => f))
      clear hS hJ b1 b3 b4 b5 hU hbU hl hj2 hb2
      gi_wp2_with fail
  · intro v1 W' hS hJ hD
    have cF := hJ.cell
    have bR' := hS.box bR (nf _ (by omega)) (by omega) (by omega)
    have cR := bR'.cell
    have fR := bR'.frozen
    gi_wp2_with fail
    have hD2 : (W'.setCell ⟨w.heap.size + 1 + 1, 0, none⟩ (.int .i64 (acc (takeF a C) l A (B - A).toNat))).heap[w1.heap.size]? = some (.deferred (some [])) := (Below.heap_setCell _ _ _ _ (by simp; omega)).trans hD
    refine ⟨by simp, .inl ⟨_, _, rfl, run_takeDeferred hD2, ?_⟩⟩
    refine ⟨_, results_sec rfl _ _ _ _ rfl ?_, rfl, ?_⟩
    · exact (World.cell?_of_block (World.putObj_heap_other (by simp; omega))).trans (cell_set cR)
    · refine Scn.laidO (Scn.close (S := fun k => k = w.heap.size + 1 + 1 ∨ k = w1.heap.size) hS bw (by rintro k rfl; omega) ?_ ?_) h.row (But.refl _ _) (fun _ q => q.elim)
      · exact (But.setCell (But.refl _ _) (fun _ => .inl rfl) _).putObj (fun _ => .inr rfl) _
      · rintro k (rfl | rfl)
        · exact ⟨by omega, hS.mv.foot (by omega) (nf _ (by omega)), by omega, by omega⟩
        · exact ⟨by omega, hS.rc.not_deferred hD, by omega, by omega⟩

end Go.Proofs.Ythfdabcknagjoaa
