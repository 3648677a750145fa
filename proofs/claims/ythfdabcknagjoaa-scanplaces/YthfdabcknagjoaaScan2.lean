/- What the iterators of package scan do, whatever their rounds do: window$1, spread$1. -/
import Derived.RangeFuncLeaves
import Derived.RangeFuncBound
import Derived.Shelf.Abstract
import Derived.Shelf.RegionOpen
import Derived.OwnWalkIn
import Derived.TacticsInMore
import Derived.LoopNIn
import Derived.LoopIn
import Derived.Test.YthfdabcknagjoaaScn
import Derived.Test.YthfdabcknagjoaaBuf3
import Derived.Test.YthfdabcknagjoaaRound
namespace Go.Proofs.Ythfdabcknagjoaa
open Go.ChangeShapes Go.WideShapes Go.ChangeAt Go.RowKit Go.Shelf

theorem wide_fn (k : Nat) : Fence.wide.fn k = True := rfl
theorem wide_depth : Fence.wide.depth = none := rfl

attribute [local go_sem] Oper.semAt_some wide_fn wide_depth Fence.inRound_fn Fence.inRound_depth

theorem seenAt_nat (l : List Int) (A : Int) (k : Nat) (h0 : 0 ≤ A) (h1 : A + k < l.length) : seenAt l (A + k) = [(1, A + k)] := seenAt_in l _ (by omega) h1

set_option maxHeartbeats 3200000 in
set_option maxRecDepth 100000 in
theorem window1_in {T : Nat → Prop} {w0 W : World} {o : Option Nat} {b g : Nat} {v0 v : Value} {es : List Ev} {n lo bx tx fx : Nat} {A B : Int} (L : Nat) (esf : Nat → List Ev) (lf : Nat → List Int) (J : Nat → World → Prop)
    (hbx : Box w0 bx 40 (.pointer (some ⟨b, 0, none⟩))) (htx : Box w0 tx 3 (.int .i64 B)) (hfx : Box w0 fx 3 (.int .i64 A))
    (nbx : ¬ FootO o v0 bx ∧ bx ≠ g ∧ ¬ T bx) (ntx : ¬ FootO o v0 tx ∧ tx ≠ g ∧ ¬ T tx) (nfx : ¬ FootO o v0 fx ∧ fx ≠ g ∧ ¬ T fx)
    (hA : 0 ≤ A) (hB : B ≤ L) (hAL : A ≤ L) (hB0 : 0 ≤ B) (hL : L ≤ 1048576) (hlf : ∀ i, (lf i).length = L) (hes : es.length ≤ 999998) (hesf : ∀ i, i ≤ (B - A).toNat → (esf i).length ≤ 999998)
    (hJ : ∀ i v es l W W', Scn T w0 W o b g v0 v es l → J i W → But (FootO o v) W W' → J i W')
    (hY : ∀ i v W, i < (B - A).toNat → Scn T w0 W o b g v0 v (more o (esf i) [(1, A + i)]) (lf i) → J i W →
      YieldAt Fence.wide (n - 1) Try.prog lo #[.int .i64 (A + i), S64 (word (lf i) (A + i))] W fun e W' => e = .returned (.bool true) ∧ ∃ v', Scn T w0 W' o b g v0 v' (esf (i + 1)) (lf (i + 1)) ∧ J (i + 1) W')
    (h0 : Scn T w0 W o b g v0 v es (lf 0)) (hbr : esf 0 = more o es [(2, max (B - A) 0)]) (hJ0 : J 0 W) :
    CallsIn Fence.wide n Try.prog 75 #[.func (.yield lo) #[] #[], .pointer (some ⟨bx, 0, none⟩), .pointer (some ⟨tx, 0, none⟩), .pointer (some ⟨fx, 0, none⟩)] W
      fun e W' => (∃ v, e = .returned v) ∧ ∃ v', Scn T w0 W' o b g v0 v' (esf (B - A).toNat) (lf (B - A).toNat) ∧ J (B - A).toNat W' := by
  have HL : Hid (∀ i, (lf i).length = L) := hlf
  have HE : Hid (∀ i, i ≤ (B - A).toNat → (esf i).length ≤ 999998) := hesf
  have HY := hY
  have HJ := hJ
  have hD := h0.drew
  have cB := (hD.box hbx nbx.1 nbx.2.1 nbx.2.2).cell
  have cT := (hD.box htx ntx.1 ntx.2.1 ntx.2.2).cell
  have cF := (hD.box hfx nfx.1 nfx.2.1 nfx.2.2).cell
  have tr := trace_some hD.bf
  have hw1 : IntKind.i64.wrap (B - A) = B - A := by rw [wrap_i64_eq]; exact w64 _ (by omega)
  have hmx : Try.prog.follows .mixedOrders = true := by kernel_rfl
  obtain ⟨M, hM⟩ : ∃ M, max (B - A) 0 = M := ⟨_, rfl⟩
  clear hlf hesf hY
  refine callsIn_of_wp Try.func75 rfl trivial ?_ rfl
  simp only [Try.ntmps75, List.size_toArray, List.length_cons, List.length_nil, Nat.reduceAdd, Nat.reduceSub, Array.replicate_succ, Array.replicate_zero, List.push_toArray, List.append_toArray, List.nil_append, List.cons_append]
  gi_wp2
  refine wide_region_till (S := fun x => x.cell? ⟨bx, 0, none⟩ = some (.pointer (some ⟨b, 0, none⟩)) ∧ x.cell? ⟨tx, 0, none⟩ = some (.int .i64 B) ∧ x.cell? ⟨fx, 0, none⟩ = some (.int .i64 A)) (R := fun _ => True) (k := 100) (m := 100) (by kernel_rfl) (by kernel_rfl) (by rintro ⟨_, _, ⟨_, q⟩, _⟩; cases q) ⟨cB, cT, cF⟩ trivial ?_
  (refine Walk.take (i := 0) (oi := { dst := some 6, op := Op.load 40 (Operand.tmp 1), type := 40, pos := "scan.go:84", after := #[], guard := none }) (v := ?_) rfl (by kernel_rfl) (by kernel_rfl) (by kernel_rfl) (by kernel_rfl) (fun _ _ _ h => h) (Or.inl ⟨by rfl, ?_⟩) ?_; rotate_left; (intro w hw; have hS1 := hw.1 (by kernel_rfl); clear hw; (try dsimp only at hS1); (try go_split_ands); go_simp; try (with_reducible rfl)); simp only [Act.put, List.setIfInBounds_toArray, List.set_cons_zero, List.set_cons_succ])
  (refine Walk.take (i := 2) (oi := { dst := some 8, op := Op.load 3 (Operand.tmp 2), type := 3, pos := "scan.go:84", after := #[], guard := none }) (v := ?_) rfl (by kernel_rfl) (by kernel_rfl) (by kernel_rfl) (by kernel_rfl) (fun _ _ _ h => h) (Or.inl ⟨by rfl, ?_⟩) ?_; rotate_left; (intro w hw; have hS1 := hw.1 (by kernel_rfl); clear hw; (try dsimp only at hS1); (try go_split_ands); go_simp; try (with_reducible rfl)); simp only [Act.put, List.setIfInBounds_toArray, List.set_cons_zero, List.set_cons_succ])
  (refine Walk.take (i := 3) (oi := { dst := some 9, op := Op.load 3 (Operand.tmp 3), type := 3, pos := "scan.go:84", after := #[], guard := none }) (v := ?_) rfl (by kernel_rfl) (by kernel_rfl) (by kernel_rfl) (by kernel_rfl) (fun _ _ _ h => h) (Or.inl ⟨by rfl, ?_⟩) ?_; rotate_left; (intro w hw; have hS1 := hw.1 (by kernel_rfl); clear hw; (try dsimp only at hS1); (try go_split_ands); go_simp; try (with_reducible rfl)); simp only [Act.put, List.setIfInBounds_toArray, List.set_cons_zero, List.set_cons_succ])
  (refine Walk.take (i := 4) (oi := { dst := some 10, op := Op.binOp BinOp.sub 3 (Operand.tmp 8) (Operand.tmp 9) 3, type := 3, pos := "scan.go:84", after := #[{ on := 2, ground := Ground.data }, { on := 3, ground := Ground.data }], guard := none }) (v := ?_) rfl (by kernel_rfl) (by kernel_rfl) (by kernel_rfl) (by kernel_rfl) (fun _ _ _ h => h) (Or.inl ⟨by rfl, ?_⟩) ?_; rotate_left; (intro w hw; clear hw; (try go_split_ands); go_simp; try (with_reducible rfl)); simp only [Act.put, List.setIfInBounds_toArray, List.set_cons_zero, List.set_cons_succ])
  (refine Walk.take (i := 5) (oi := { dst := some 11, op := Op.call { callee := Callee.builtin Builtin.max, args := #[Operand.tmp 10, Operand.const (Value.int IntKind.i64 0)], argTypes := #[3, 3] }, type := 3, pos := "scan.go:84", after := #[{ on := 4, ground := Ground.data }], guard := none }) (v := .int .i64 M) rfl (by kernel_rfl) (by kernel_rfl) (by kernel_rfl) (by kernel_rfl) (fun _ _ _ h => h) (Or.inl ⟨by rfl, ?_⟩) ?_)
  · intro w _
    go_simp
    rw [← hM]
    split <;> omega
  simp only [Act.put, List.setIfInBounds_toArray, List.set_cons_zero, List.set_cons_succ]
  (refine Walk.go (i := 1) (o := { dst := some 7, op := Op.call { callee := Callee.value (Operand.func 28), args := #[Operand.tmp 6], argTypes := #[40] }, type := 51, pos := "scan.go:84", after := #[{ on := 0, ground := Ground.data }], guard := none }) (by kernel_rfl) rfl (fun K hK => ?_); go_simp; ((go_at_call 28; refine tr.mono ?_; rintro e w' ⟨rfl, rfl⟩)); refine hK.out _ _ (⟨fun _ => ⟨cB, cT, cF⟩, fun _ => trivial⟩) ?_; clear hK K; try simp only [Act.put, List.setIfInBounds_toArray, List.set_cons_zero, List.set_cons_succ])
  (refine Walk.go (i := 6) (o := { dst := some 12, op := Op.call { callee := Callee.value (Operand.func 76), args := #[Operand.tmp 7, Operand.tmp 11], argTypes := #[51, 3] }, type := 0, pos := "scan.go:84", after := #[{ on := 1, ground := Ground.data }, { on := 5, ground := Ground.data }, { on := 1, ground := Ground.chain }], guard := none }) (by kernel_rfl) rfl (fun K hK => ?_); go_simp; ((go_at_call 76; refine (br_o o v es _ _ hD.rc (by omega)).mono ?_; rintro e w1 ⟨rfl, hL1⟩; have hL2 := hD.laid hL1; obtain ⟨v1, h1, b1⟩ := hL2; have cB1 := (h1.box hbx nbx.1 nbx.2.1 nbx.2.2).cell; have cT1 := (h1.box htx ntx.1 ntx.2.1 ntx.2.2).cell; have cF1 := (h1.box hfx nfx.1 nfx.2.1 nfx.2.2).cell)); refine hK.out _ _ (⟨fun _ => ⟨cB1, cT1, cF1⟩, fun _ => trivial⟩) ?_; clear hK K; try simp only [Act.put, List.setIfInBounds_toArray, List.set_cons_zero, List.set_cons_succ])
  refine Walk.done (by kernel_rfl) ?_ _
  have j1 := HJ 0 v es _ _ _ h0 hJ0 b1.ofDrew
  rw [hM] at hbr
  rw [← hbr] at h1
  clear tr hD cB cT cF hL1 b1 hw1 hM h0 hJ0 hes hbr cB1 cT1
  gi_wp2
  gi_loopw [5] (fun i wr => ∃ (k : Nat) (v2 : Value), k ≤ (B - A).toNat ∧ i = .int .i64 (A + k) ∧ Scn T w0 wr o b g v0 v2 (esf k) (lf k) ∧ J k wr) (fun i _ => (B - intOf i).toNat)
  case atStart => exact ⟨0, v1, Nat.zero_le _, by simp, h1, j1⟩
  case round =>
    clear h1 j1 cF1
    obtain ⟨k, v2, hk, rfl, hs, hj⟩ := hrel
    have cB := (hs.box hbx nbx.1 nbx.2.1 nbx.2.2).cell
    have cT := (hs.box htx ntx.1 ntx.2.1 ntx.2.2).cell
    by_cases hlt : A + (k : Int) < B
    · have hkN : k < (B - A).toNat := by omega
      have hlen := HL.out k
      have hle := HE.out k (by omega)
      gi_wp2
      refine (callsIn_wide.2 (get_o hs.bf hs.rc hs.ob hs.og (by omega) (A + k))).mono ?_
      rintro e w3 ⟨rfl, hL3⟩
      rw [seenAt_nat _ _ _ hA (by omega)] at hL3
      obtain ⟨v3, h3, b3⟩ := hs.laid hL3
      have j3 := HJ k v2 _ _ _ _ hs hj b3
      obtain ⟨fn, tmps, assign, body, hy, hR⟩ := HY k v3 w3 hkN h3 j3
      clear hL3 b3 hs hj j3 h3 cB cT
      gi_wp2
      refine hR.mono ?_
      rintro e W4 ⟨rfl, v4, h4, j4⟩
      clear hy hR
      gi_wp2
      go_roundw
      case rel => exact ⟨k + 1, v4, by omega, by go_num, h4, j4⟩
      case measure => simp [intOf]; omega
    · have hkN : k = (B - A).toNat := by omega
      gi_wp2
      go_end0
      first | exact ⟨⟨_, rfl⟩, ⟨v2, hs⟩, hj⟩ | (rw [← hkN]; exact ⟨⟨_, rfl⟩, ⟨v2, hs⟩, hj⟩)

set_option maxHeartbeats 3200000 in
set_option maxRecDepth 100000 in
theorem spread1_in {n lo nb ab : Nat} {a C : Int} {W : World} (J : Nat → World → Prop) (h0 : 0 ≤ C) (h8 : C ≤ 8)
    (hJ : ∀ i W W', J i W → But Nowhere W W' → J i W') (hJb : ∀ i W, J i W → Box W nb 3 (.int .i64 C) ∧ Box W ab 29 (.int .i64 a))
    (hY : ∀ i W, i < C.toNat → J i W → YieldAt Fence.wide (n - 1) Try.prog lo #[S64 (wrap64 (a + i)), .int .i64 (8 * (C - 1 - i))] W fun e W' => e = .returned (.bool true) ∧ J (i + 1) W')
    (hJ0 : J 0 W) :
    CallsIn Fence.wide n Try.prog 80 #[.func (.yield lo) #[] #[], .pointer (some ⟨nb, 0, none⟩), .pointer (some ⟨ab, 0, none⟩)] W
      fun e W' => (∃ v, e = .returned v) ∧ J C.toNat W' := by
  have hmx : Try.prog.follows .mixedOrders = true := by kernel_rfl
  have hw1 : IntKind.i64.wrap (C - 1) = C - 1 := by rw [wrap_i64_eq]; exact w64 _ (by omega)
  have cN := (hJb 0 W hJ0).1.cell
  refine callsIn_of_wp Try.func80 rfl trivial ?_ rfl
  simp only [Try.ntmps80, List.size_toArray, List.length_cons, List.length_nil, Nat.reduceAdd, Nat.reduceSub, Array.replicate_succ, Array.replicate_zero, List.push_toArray, List.append_toArray, List.nil_append, List.cons_append]
  gi_wp2
  gi_loopw [6] (fun i wr => ∃ (k : Nat), k ≤ C.toNat ∧ i = .int .i64 k ∧ J k wr) (fun i _ => (C - intOf i).toNat)
  case atStart => exact ⟨0, Nat.zero_le _, by simp, hJ0⟩
  case round =>
    obtain ⟨k, hk, rfl, hj⟩ := hrel
    clear cN hJ0
    by_cases hlt : (k : Int) < C
    · have hkN : k < C.toNat := by omega
      have cN := (hJb k _ hj).1.drew.cell
      have cA := (hJb k _ hj).2.drew.cell
      have hw2 : IntKind.i64.wrap (C - 1 - (k : Int)) = C - 1 - k := by rw [wrap_i64_eq]; exact w64 _ (by omega)
      have hw3 : IntKind.i64.wrap (8 * (C - 1 - (k : Int))) = 8 * (C - 1 - k) := by rw [wrap_i64_eq]; exact w64 _ (by omega)
      have jd := hJ k _ _ hj (But.refl Nowhere _).drew
      clear hj
      gi_wp2
      gi_region_with_o (first | (gi_at_call 15; refine (callsIn_wide.2 (of_any _ _)).mono ?_; rintro e w1 ⟨rfl, b1⟩; replace cN := b1.keeps (not_nowhere _) cN; replace cA := b1.keeps (not_nowhere _) cA) | (gi_at_call 47; refine (callsIn_wide.2 (add_any _ _ _)).mono ?_; rintro e w2 ⟨rfl, b2⟩; replace cN := b2.keeps (not_nowhere _) cN; have j2 := hJ k _ _ (hJ k _ _ jd b1) b2; obtain ⟨fn, tmps, assign, body, hy, hR⟩ := hY k w2 hkN j2) | (refine hR.mono ?_; rintro e W4 ⟨rfl, j4⟩))
      all_goals
        clear hy hR jd j2 b1 b2
        gi_wp2
        go_roundw
        case rel => exact ⟨k + 1, by omega, by go_num, j4⟩
        case measure => simp [intOf]; omega
    · have hkN : k = C.toNat := by omega
      gi_wp2
      go_end0
      first | exact ⟨⟨_, rfl⟩, hj⟩ | (rw [← hkN]; exact ⟨⟨_, rfl⟩, hj⟩)

end Go.Proofs.Ythfdabcknagjoaa
