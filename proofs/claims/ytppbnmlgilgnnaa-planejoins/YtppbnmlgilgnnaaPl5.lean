/- All blocks, told one by one: spots. -/
import Derived.Test.YtppbnmlgilgnnaaPl4
namespace Go.Proofs.Ytppbnmlgilgnnaa
open Go.ChangeShapes Go.WideShapes Go.ChangeAt Go.RowKit Go.Shelf

attribute [local go_sem] Oper.semAt_some wide_fn wide_depth Fence.inRound_fn Fence.inRound_depth

/-- A list of spots that can be read. -/
def SpotsAt (W : World) (v : Value) (l : List Spot) : Prop := ∃ g cap, v = .slice (some ⟨g, 0, none⟩) l.length cap ∧ g < W.heap.size ∧ ∀ j u, (spotsC l)[j]? = some u → W.cell? ⟨g, j, none⟩ = some u

theorem SpotsAt.but {S : Nat → Prop} {W W' : World} {v : Value} {l : List Spot} (h : SpotsAt W v l) (hb : But S W W') (hs : ∀ k, v.ownBlock = some k → ¬ S k) : SpotsAt W' v l := by
  obtain ⟨g, cap, rfl, hg, hc⟩ := h
  exact ⟨g, cap, rfl, Nat.lt_of_lt_of_le hg hb.size, fun j u hj => (hb.cell (p := ⟨g, j, none⟩) hg (hs g rfl)).trans (hc j u hj)⟩

theorem Lst.spots {w W : World} {v : Value} {l : List Spot} (h : Lst w W 91 8 v l.length (spotsC l)) (hl : 0 < l.length) : SpotsAt W v l := by
  obtain ⟨g, cap, rfl, hg, -, -, hc, -⟩ := h.at hl
  exact ⟨g, cap, rfl, hg, hc⟩

theorem SpotsAt.eight {W : World} {g n cap : Nat} {l : List Spot} (h : SpotsAt W (.slice (some ⟨g, 0, none⟩) n cap) l) (i : Nat) (hi : i < l.length) :
    (W.cell? ⟨g, i * 8, none⟩ = some (.int .i64 l[i].mcu) ∧ W.cell? ⟨g, i * 8 + 1, none⟩ = some (.int .i64 l[i].block) ∧ W.cell? ⟨g, i * 8 + 2, none⟩ = some (.int .i64 l[i].part) ∧ W.cell? ⟨g, i * 8 + 3, none⟩ = some (.int .i64 l[i].parts)) ∧
    W.cell? ⟨g, i * 8 + 4, none⟩ = some (.int .i64 l[i].x) ∧ W.cell? ⟨g, i * 8 + 5, none⟩ = some (.int .i64 l[i].y) ∧ W.cell? ⟨g, i * 8 + 6, none⟩ = some (.int .i64 l[i].wide) ∧ W.cell? ⟨g, i * 8 + 7, none⟩ = some (.int .i64 l[i].high) := by
  obtain ⟨g', cap', e, -, hc⟩ := h
  cases e
  have q := fun j (hj : j < 8) => spotsC_at l i hi j hj
  exact ⟨⟨hc _ _ (q 0 (by omega)), hc _ _ (q 1 (by omega)), hc _ _ (q 2 (by omega)), hc _ _ (q 3 (by omega))⟩, hc _ _ (q 4 (by omega)), hc _ _ (q 5 (by omega)), hc _ _ (q 6 (by omega)), hc _ _ (q 7 (by omega))⟩

/-- Block number i of an image whose grid is A wide, of MCUs w by h. -/
def spotAt (A w h : Int) (l : List Spot) (j i : Nat) : Spot :=
  let s := l.getD i ⟨0, 0, 0, 1, 0, 0, 1, 1⟩
  ⟨j, s.block, s.part, s.parts, s.x + j % A * w, s.y + j / A * h, s.wide, s.high⟩

theorem unit_ok (m : Int) : ∀ s ∈ unitL m, 0 ≤ s.x ∧ s.x ≤ 8 ∧ 0 ≤ s.y ∧ s.y ≤ 8 ∧ 1 ≤ s.wide ∧ s.wide ≤ 2 ∧ 1 ≤ s.high ∧ s.high ≤ 2 ∧ 0 ≤ s.part ∧ s.part ≤ 2 ∧ 1 ≤ s.parts ∧ s.parts ≤ 3 := by
  intro s hs
  unfold unitL at hs
  (repeat' split at hs) <;>
  · simp only [List.mem_cons, List.not_mem_nil, or_false] at hs
    (repeat' rcases hs with rfl | hs) <;> (try subst hs) <;> simp

theorem unit_pos (m : Int) : 0 < (unitL m).length ∧ (unitL m).length ≤ 6 := by unfold unitL; (repeat' split) <;> simp

set_option maxHeartbeats 1600000 in
set_option maxRecDepth 100000 in
theorem spots_any (W H m q i c : Int) (hm : 1 ≤ m ∧ m ≤ 4) (w : World) : Calls Try.prog 45 #[pV W H m q i c] w fun e w' => ∃ ab db fb wb hb v,
    e = .returned (.func (.func 71) #[] #[.pointer (some ⟨ab, 0, none⟩), .pointer (some ⟨db, 0, none⟩), .pointer (some ⟨fb, 0, none⟩), .pointer (some ⟨wb, 0, none⟩), .pointer (some ⟨hb, 0, none⟩)]) ∧ But Nowhere w w' ∧
    (Cells w' ab 3 [.int .i64 (gridW W H m)] ∧ Cells w' db 3 [.int .i64 (gridH W H m)] ∧ Cells w' fb 82 [v] ∧ Cells w' wb 3 [.int .i64 (sideW m)] ∧ Cells w' hb 3 [.int .i64 (sideH m)] ∧ SpotsAt w' v (unitL m)) ∧
    (w.heap.size ≤ ab ∧ w.heap.size ≤ db ∧ w.heap.size ≤ fb ∧ w.heap.size ≤ wb ∧ w.heap.size ≤ hb ∧ ∀ k, v.ownBlock = some k → w.heap.size ≤ k) := by
  obtain ⟨gw, hgw⟩ : ∃ a, gridW W H m = a := ⟨_, rfl⟩
  obtain ⟨gh, hgh⟩ : ∃ a, gridH W H m = a := ⟨_, rfl⟩
  obtain ⟨sw, hsw⟩ : ∃ a, sideW m = a := ⟨_, rfl⟩
  obtain ⟨sh, hsh⟩ : ∃ a, sideH m = a := ⟨_, rfl⟩
  rw [hgw, hgh, hsw, hsh]
  have kk := (Keep.start w).made 23 (pC W H m q i c)
  go_enter Try.func45, Try.ntmps45
  go_wp2_with fail
  refine (grid_any _ _ _ _ _ _ _).mono ?_
  rintro e w1 ⟨rfl, b1⟩
  rw [hgw, hgh]
  replace kk := kk.step b1
  clear b1 hgw hgh
  have c2 := kk.head.at 2
  simp only [List.getElem?_cons_zero, List.getElem?_cons_succ] at c2
  have l1 := kk.head.lt
  replace kk := (kk.made 3 [.int .i64 gw]).made 3 [.int .i64 gh]
  simp only [World.size_alloc] at kk
  go_wp2_with fail
  clear c2
  revert kk
  generalize (w1.alloc (.cells #[.int .i64 gw] 3)).alloc (.cells #[.int .i64 gh] 3) = w2
  intro kk
  refine (side_any _ _).mono ?_
  rintro e w3 ⟨rfl, b3⟩
  rw [hsw, hsh]
  replace kk := kk.step b3
  clear b3 hsw hsh
  have c2 := (kk.get (b := w.heap.size) (t := 23) (c := pC W H m q i c) (by simp)).at 2
  simp only [List.getElem?_cons_zero, List.getElem?_cons_succ] at c2
  have l3 := (kk.get (b := w.heap.size) (t := 23) (c := pC W H m q i c) (by simp)).lt
  replace kk := (kk.made 3 [.int .i64 sw]).made 3 [.int .i64 sh]
  simp only [World.size_alloc] at kk
  go_wp2_with fail
  clear c2
  revert kk
  generalize (w3.alloc (.cells #[.int .i64 sw] 3)).alloc (.cells #[.int .i64 sh] 3) = w4
  intro kk
  have n4 : w.heap.size ≤ w4.heap.size := Nat.le_of_lt (kk.get (b := w.heap.size) (t := 23) (c := pC W H m q i c) (by simp)).lt
  refine (unit_any m hm _).mono ?_
  rintro e w5 ⟨v, rfl, L⟩
  replace kk := kk.step L.but
  obtain ⟨vo, vc, rfl⟩ := L.slice
  have P5 := L.spots (unit_pos m).1
  replace kk := kk.made 82 [.slice vo (unitL m).length vc]
  have HL : Hid (SpotsAt (w5.alloc (.cells #[.slice vo (unitL m).length vc] 82)) (.slice vo (unitL m).length vc) (unitL m)) := P5.but ((But.refl Nowhere w5).alloc _) (fun _ _ f => f)
  have HN : Hid (∀ k, (Value.slice vo (unitL m).length vc).ownBlock = some k → w.heap.size ≤ k) := fun k hk => Nat.le_trans n4 (L.new k hk)
  clear P5 L
  go_wp2_with fail
  go_ret
  refine ⟨_, _, _, _, _, _, rfl, kk.but, ⟨kk.get (by simp), kk.get (by simp), kk.get (by simp), kk.get (by simp), kk.get (by simp), HL.out⟩, ?_, ?_, ?_, ?_, ?_, HN.out⟩
  · exact kk.new (w1.heap.size, 3, [.int .i64 gw]) (by simp)
  · exact kk.new (w1.heap.size + 1, 3, [.int .i64 gh]) (by simp)
  · exact kk.new (w5.heap.size, 82, [.slice vo (unitL m).length vc]) (by simp)
  · exact kk.new (w3.heap.size, 3, [.int .i64 sw]) (by simp)
  · exact kk.new (w3.heap.size + 1, 3, [.int .i64 sh]) (by simp)


set_option maxHeartbeats 6400000 in
set_option maxRecDepth 100000 in
theorem spots_iter (A D w h : Int) (l : List Spot) (v : Value) (ab db fb wb hb : Nat) (hA : 1 ≤ A ∧ A ≤ 8192) (hD : 1 ≤ D ∧ D ≤ 8192) (hw : 0 ≤ w ∧ w ≤ 16) (hh : 0 ≤ h ∧ h ≤ 16) (hl : 0 < l.length ∧ l.length ≤ 6)
    (hs : ∀ s ∈ l, 0 ≤ s.x ∧ s.x ≤ 8 ∧ 0 ≤ s.y ∧ s.y ≤ 8) :
    Iter Try.prog 71 #[.pointer (some ⟨ab, 0, none⟩), .pointer (some ⟨db, 0, none⟩), .pointer (some ⟨fb, 0, none⟩), .pointer (some ⟨wb, 0, none⟩), .pointer (some ⟨hb, 0, none⟩)] ((A * D).toNat * l.length)
      (fun i => #[(spotAt A w h l (i / l.length) (i % l.length)).val]) (fun W => Cells W ab 3 [.int .i64 A] ∧ Cells W db 3 [.int .i64 D] ∧ Cells W fb 82 [v] ∧ Cells W wb 3 [.int .i64 w] ∧ Cells W hb 3 [.int .i64 h] ∧ SpotsAt W v l) := by
  obtain ⟨C, hC, C0, C4⟩ : ∃ C, A * D = C ∧ 0 ≤ C ∧ C ≤ 8192 * 8192 := ⟨_, rfl, Int.mul_nonneg (by omega) (by omega), Int.mul_le_mul hA.2 hD.2 (by omega) (by omega)⟩
  intro n lo W J HJ HI HY hJ0
  rw [hC] at HY ⊢
  have hmx : Try.prog.follows .mixedOrders = true := by kernel_rfl
  obtain ⟨M, hM⟩ : ∃ M, l.length = M := ⟨_, rfl⟩
  rw [hM] at HY hl ⊢
  have HM : Hid (l.length = M) := hM
  have i0 := HI 0 W hJ0
  have cA := i0.1.at 0
  have cD := i0.2.1.at 0
  simp only [List.getElem?_cons_zero] at cA cD
  obtain ⟨g, cap, rfl, -, -⟩ := i0.2.2.2.2.2
  rw [hM] at HI
  have e0 : wrap64 (A * D) = C := by rw [hC]; exact w64 _ (by omega)
  clear i0 hM
  refine callsIn_of_wp Try.func71 rfl trivial ?_ rfl
  simp only [Try.ntmps71, List.size_toArray, List.length_cons, List.length_nil, Nat.reduceAdd, Nat.reduceSub, Array.replicate_succ, Array.replicate_zero, List.push_toArray, List.append_toArray, List.nil_append, List.cons_append]
  gi_wp2
  try rw [e0]
  clear cA cD e0 hC
  gi_loopw [13] (fun i wr => ∃ (j : Nat), j ≤ C.toNat ∧ i = .int .i64 j ∧ J (j * M) wr) (fun i _ => (C - intOf i).toNat)
  case atStart => exact ⟨0, Nat.zero_le _, by simp, by simpa using hJ0⟩
  case round =>
    clear hJ0
    obtain ⟨j, hj', rfl, hj⟩ := hrel
    by_cases hlt : (j : Int) < C
    · have hjN : j < C.toNat := by omega
      have cF := (HI _ _ hj).2.2.1.at 0
      simp only [List.getElem?_cons_zero] at cF
      gi_wp2
      obtain ⟨wo, rfl⟩ : ∃ wo : World, wo = wr := ⟨_, rfl⟩
      gi_loopw [18] (fun i wr => ∃ (k : Nat), k ≤ M ∧ i = .int .i64 k ∧ J (j * M + k) wr) (fun i _ => (M - intOf i).toNat)
      case atStart => exact ⟨0, Nat.zero_le _, by simp, hj⟩
      case round =>
        clear hj cF
        obtain ⟨k, hk', rfl, hj⟩ := hrel
        by_cases hkt : (k : Int) < M
        · have hkN : k < M := by omega
          have hkl : k < l.length := by rw [HM.out]; exact hkN
          obtain ⟨⟨c0, c1, c2, c3⟩, c4, c5, c6, c7⟩ := (HI _ _ hj).2.2.2.2.2.eight k hkl
          have hs' := hs _ (List.getElem_mem hkl)
          have hY := HY (j * M + k)
          have e1 : (j * M + k) / M = j := by rw [Nat.mul_comm, Nat.mul_add_div (by omega), Nat.div_eq_of_lt hkN]; rfl
          have e2 : (j * M + k) % M = k := by rw [Nat.mul_comm, Nat.mul_add_mod, Nat.mod_eq_of_lt hkN]
          have e3 : j * M + k < C.toNat * M := by
            have : (j + 1) * M ≤ C.toNat * M := Nat.mul_le_mul_right M (by omega)
            rw [Nat.add_mul] at this; omega
          rw [e1, e2] at hY
          have e4 : l.getD k ⟨0, 0, 0, 1, 0, 0, 1, 1⟩ = l[k] := by simp [List.getD, List.getElem?_eq_getElem hkl]
          simp only [spotAt, e4] at hY
          clear e1 e2 e4
          revert c0 c1 c2 c3 c4 c5 c6 c7 hs' hY
          generalize l[k] = s
          intro c0 c1 c2 c3 c4 c5 c6 c7 hs' hY
          have q0 : 0 ≤ (j : Int) % A := Int.emod_nonneg _ (by omega)
          have q1 : (j : Int) % A < A := Int.emod_lt_of_pos _ (by omega)
          have q2 : 0 ≤ (j : Int) / A := Int.ediv_nonneg (by omega) (by omega)
          have q3 : (j : Int) / A ≤ j := Int.ediv_le_self _ (by omega)
          have m0 : 0 ≤ (j : Int) % A * w := Int.mul_nonneg q0 hw.1
          have m1 : (j : Int) % A * w ≤ 8192 * 16 := Int.mul_le_mul (by omega) hw.2 hw.1 (by omega)
          have m2 : 0 ≤ (j : Int) / A * h := Int.mul_nonneg q2 hh.1
          have m3 : (j : Int) / A * h ≤ (8192 * 8192) * 16 := Int.mul_le_mul (by omega) hh.2 hh.1 (by omega)
          have q4 : 1 ≤ A := hA.1
          have q5 : ¬ A = 0 := by omega
          have r1 : (j : Int).tmod A = (j : Int) % A := Int.tmod_eq_emod_of_nonneg (by omega)
          have r2 : (j : Int).tdiv A = (j : Int) / A := Int.tdiv_eq_ediv_of_nonneg (by omega)
          have r3 : IntKind.i64.wrap ((j : Int) / A) = (j : Int) / A := by rw [wrap_i64_eq]; exact w64 _ (by omega)
          have r4 : IntKind.i64.wrap ((j : Int) % A * w) = (j : Int) % A * w := by rw [wrap_i64_eq]; exact w64 _ (by omega)
          have r5 : IntKind.i64.wrap ((j : Int) / A * h) = (j : Int) / A * h := by rw [wrap_i64_eq]; exact w64 _ (by omega)
          have r6 : IntKind.i64.wrap (s.x + (j : Int) % A * w) = s.x + (j : Int) % A * w := by rw [wrap_i64_eq]; exact w64 _ (by omega)
          have r7 : IntKind.i64.wrap (s.y + (j : Int) / A * h) = s.y + (j : Int) / A * h := by rw [wrap_i64_eq]; exact w64 _ (by omega)
          clear m0 m1 m2 m3 q0 q1 q2 q3
          have i0 : (0 : Int) ≤ (k : Int) := by omega
          have kk := (Keep.start wr).made 91 [.int .i64 (j : Int), .int .i64 s.block, .int .i64 s.part, .int .i64 s.parts, .int .i64 (s.x), .int .i64 (s.y), .int .i64 s.wide, .int .i64 s.high]
          gi_wp2
          clear c0 c1 c2 c3 c4 c5 c6 c7
          revert kk
          generalize wr.alloc (.cells #[.int .i64 (j : Int), .int .i64 s.block, .int .i64 s.part, .int .i64 s.parts, .int .i64 s.x, .int .i64 s.y, .int .i64 s.wide, .int .i64 s.high] 91) = W1
          intro kk
          replace kk := kk.drew
          have hi := HI _ _ (HJ _ _ _ hj kk.but)
          have cc4 := kk.head.at 4
          have cc5 := kk.head.at 5
          have cA := hi.1.at 0
          have cW := hi.2.2.2.1.at 0
          have cH := hi.2.2.2.2.1.at 0
          have ff := kk.head.frozen 4
          simp only [List.getElem?_cons_zero, List.getElem?_cons_succ] at cc4 cc5 cA cW cH
          clear hi
          refine wide_region_till (S := fun x => x.cell? ⟨wr.heap.size, 4, none⟩ = some (.int .i64 (s.x)) ∧ x.cell? ⟨wr.heap.size, 5, none⟩ = some (.int .i64 (s.y)) ∧ x.cell? ⟨ab, 0, none⟩ = some (.int .i64 A) ∧ x.cell? ⟨wb, 0, none⟩ = some (.int .i64 w) ∧ x.cell? ⟨hb, 0, none⟩ = some (.int .i64 h)) (R := fun _ => True) (k := 9) (m := 100) (by kernel_rfl) (by kernel_rfl) (by rintro ⟨_, _, ⟨_, q⟩, _⟩; cases q) ⟨cc4, cc5, cA, cW, cH⟩ trivial ?_
          revert kk cc4 cc5 cA cW cH ff
          generalize W1.drew = D1
          intro kk cc4 cc5 cA cW cH ff
          (refine Walk.take (i := 0) (oi := { dst := some 24, op := Op.fieldAddr 91 (Operand.tmp 9) 4, type := 0, pos := "plane.go:184", after := #[], guard := none }) (v := ?_) rfl (by kernel_rfl) (by kernel_rfl) (by kernel_rfl) (by kernel_rfl) (fun _ _ _ h => h) (Or.inl ⟨by rfl, ?_⟩) ?_; rotate_left; (intro w hw; clear hw; (try go_split_ands); go_simp; try (with_reducible rfl)); simp only [Act.put, List.setIfInBounds_toArray, List.set_cons_zero, List.set_cons_succ])
          (refine Walk.take (i := 1) (oi := { dst := some 25, op := Op.load 3 (Operand.tmp 24), type := 3, pos := "plane.go:184", after := #[{ on := 0, ground := Ground.data }], guard := none }) (v := ?_) rfl (by kernel_rfl) (by kernel_rfl) (by kernel_rfl) (by kernel_rfl) (fun _ _ _ h => h) (Or.inl ⟨by rfl, ?_⟩) ?_; rotate_left; (intro w hw; have hS1 := hw.1 (by kernel_rfl); clear hw; (try dsimp only at hS1); (try go_split_ands); go_simp; try (with_reducible rfl)); simp only [Act.put, List.setIfInBounds_toArray, List.set_cons_zero, List.set_cons_succ])
          (refine Walk.take (i := 2) (oi := { dst := some 26, op := Op.move (Operand.tmp 7), type := 3, pos := "plane.go:184", after := #[], guard := none }) (v := ?_) rfl (by kernel_rfl) (by kernel_rfl) (by kernel_rfl) (by kernel_rfl) (fun _ _ _ h => h) (Or.inl ⟨by rfl, ?_⟩) ?_; rotate_left; (intro w hw; clear hw; (try go_split_ands); go_simp; try (with_reducible rfl)); simp only [Act.put, List.setIfInBounds_toArray, List.set_cons_zero, List.set_cons_succ])
          (refine Walk.take (i := 3) (oi := { dst := some 27, op := Op.load 3 (Operand.tmp 1), type := 3, pos := "plane.go:184", after := #[], guard := none }) (v := ?_) rfl (by kernel_rfl) (by kernel_rfl) (by kernel_rfl) (by kernel_rfl) (fun _ _ _ h => h) (Or.inl ⟨by rfl, ?_⟩) ?_; rotate_left; (intro w hw; have hS1 := hw.1 (by kernel_rfl); clear hw; (try dsimp only at hS1); (try go_split_ands); go_simp; try (with_reducible rfl)); simp only [Act.put, List.setIfInBounds_toArray, List.set_cons_zero, List.set_cons_succ])
          (refine Walk.take (i := 4) (oi := { dst := some 28, op := Op.binOp BinOp.rem 3 (Operand.tmp 26) (Operand.tmp 27) 3, type := 3, pos := "plane.go:184", after := #[{ on := 2, ground := Ground.data }, { on := 3, ground := Ground.data }], guard := none }) (v := ?_) rfl (by kernel_rfl) (by kernel_rfl) (by kernel_rfl) (by kernel_rfl) (fun _ _ _ h => h) (Or.inl ⟨by rfl, ?_⟩) ?_; rotate_left; (intro w hw; clear hw; (try go_split_ands); go_simp; try (with_reducible rfl)); simp only [Act.put, List.setIfInBounds_toArray, List.set_cons_zero, List.set_cons_succ])
          (refine Walk.take (i := 5) (oi := { dst := some 29, op := Op.load 3 (Operand.tmp 4), type := 3, pos := "plane.go:184", after := #[], guard := none }) (v := ?_) rfl (by kernel_rfl) (by kernel_rfl) (by kernel_rfl) (by kernel_rfl) (fun _ _ _ h => h) (Or.inl ⟨by rfl, ?_⟩) ?_; rotate_left; (intro w hw; have hS1 := hw.1 (by kernel_rfl); clear hw; (try dsimp only at hS1); (try go_split_ands); go_simp; try (with_reducible rfl)); simp only [Act.put, List.setIfInBounds_toArray, List.set_cons_zero, List.set_cons_succ])
          (refine Walk.take (i := 6) (oi := { dst := some 30, op := Op.binOp BinOp.mul 3 (Operand.tmp 28) (Operand.tmp 29) 3, type := 3, pos := "plane.go:184", after := #[{ on := 4, ground := Ground.data }, { on := 5, ground := Ground.data }], guard := none }) (v := ?_) rfl (by kernel_rfl) (by kernel_rfl) (by kernel_rfl) (by kernel_rfl) (fun _ _ _ h => h) (Or.inl ⟨by rfl, ?_⟩) ?_; rotate_left; (intro w hw; clear hw; (try go_split_ands); go_simp; try (with_reducible rfl)); simp only [Act.put, List.setIfInBounds_toArray, List.set_cons_zero, List.set_cons_succ])
          (refine Walk.take (i := 7) (oi := { dst := some 31, op := Op.binOp BinOp.add 3 (Operand.tmp 25) (Operand.tmp 30) 3, type := 3, pos := "plane.go:184", after := #[{ on := 1, ground := Ground.data }, { on := 6, ground := Ground.data }], guard := none }) (v := ?_) rfl (by kernel_rfl) (by kernel_rfl) (by kernel_rfl) (by kernel_rfl) (fun _ _ _ h => h) (Or.inl ⟨by rfl, ?_⟩) ?_; rotate_left; (intro w hw; clear hw; (try go_split_ands); go_simp; try (with_reducible rfl)); simp only [Act.put, List.setIfInBounds_toArray, List.set_cons_zero, List.set_cons_succ])
          (refine Walk.take (i := 8) (oi := { dst := some 32, op := Op.fieldAddr 91 (Operand.tmp 9) 4, type := 0, pos := "plane.go:184", after := #[{ on := 0, ground := Ground.phase }, { on := 1, ground := Ground.phase }, { on := 2, ground := Ground.phase }, { on := 3, ground := Ground.phase }, { on := 4, ground := Ground.phase }, { on := 5, ground := Ground.phase }, { on := 6, ground := Ground.phase }, { on := 7, ground := Ground.phase }], guard := none }) (v := ?_) rfl (by kernel_rfl) (by kernel_rfl) (by kernel_rfl) (by kernel_rfl) (fun _ _ _ h => h) (Or.inl ⟨by rfl, ?_⟩) ?_; rotate_left; (intro w hw; clear hw; (try go_split_ands); go_simp; try (with_reducible rfl)); simp only [Act.put, List.setIfInBounds_toArray, List.set_cons_zero, List.set_cons_succ])
          (refine Walk.go (i := 9) (o := { dst := none, op := Op.store 3 (Operand.tmp 32) (Operand.tmp 31), type := 0, pos := "plane.go:184", after := #[{ on := 8, ground := Ground.data }, { on := 7, ground := Ground.data }, { on := 0, ground := Ground.phase }, { on := 1, ground := Ground.phase }, { on := 2, ground := Ground.phase }, { on := 3, ground := Ground.phase }, { on := 4, ground := Ground.phase }, { on := 5, ground := Ground.phase }, { on := 6, ground := Ground.phase }, { on := 7, ground := Ground.phase }], guard := none }) (by kernel_rfl) rfl (fun K hK => ?_); go_simp; (skip); refine hK.out _ _ (⟨fun q => absurd q (by decide), fun _ => trivial⟩) ?_; clear hK K; try simp only [Act.put, List.setIfInBounds_toArray, List.set_cons_zero, List.set_cons_succ])
          refine Walk.done (by kernel_rfl) ?_ _
          replace kk := kk.set 4 (.int .i64 (s.x + (j : Int) % A * w))
          simp only [List.set_cons_zero, List.set_cons_succ] at kk
          clear cc4 cc5 cA cW cH ff
          revert kk
          generalize D1.setCell ⟨wr.heap.size, 4, none⟩ (.int .i64 (s.x + (j : Int) % A * w)) = W2
          intro kk
          gi_wp2
          replace kk := kk.drew
          have hi := HI _ _ (HJ _ _ _ hj kk.but)
          have cc4 := kk.head.at 4
          have cc5 := kk.head.at 5
          have cA := hi.1.at 0
          have cW := hi.2.2.2.1.at 0
          have cH := hi.2.2.2.2.1.at 0
          have ff := kk.head.frozen 5
          simp only [List.getElem?_cons_zero, List.getElem?_cons_succ] at cc4 cc5 cA cW cH
          clear hi
          refine wide_region_till (S := fun x => x.cell? ⟨wr.heap.size, 4, none⟩ = some (.int .i64 (s.x + (j : Int) % A * w)) ∧ x.cell? ⟨wr.heap.size, 5, none⟩ = some (.int .i64 (s.y)) ∧ x.cell? ⟨ab, 0, none⟩ = some (.int .i64 A) ∧ x.cell? ⟨wb, 0, none⟩ = some (.int .i64 w) ∧ x.cell? ⟨hb, 0, none⟩ = some (.int .i64 h)) (R := fun _ => True) (k := 9) (m := 100) (by kernel_rfl) (by kernel_rfl) (by rintro ⟨_, _, ⟨_, q⟩, _⟩; cases q) ⟨cc4, cc5, cA, cW, cH⟩ trivial ?_
          revert kk cc4 cc5 cA cW cH ff
          generalize W2.drew = D2
          intro kk cc4 cc5 cA cW cH ff
          (refine Walk.take (i := 0) (oi := { dst := some 33, op := Op.fieldAddr 91 (Operand.tmp 9) 5, type := 0, pos := "plane.go:185", after := #[], guard := none }) (v := ?_) rfl (by kernel_rfl) (by kernel_rfl) (by kernel_rfl) (by kernel_rfl) (fun _ _ _ h => h) (Or.inl ⟨by rfl, ?_⟩) ?_; rotate_left; (intro w hw; clear hw; (try go_split_ands); go_simp; try (with_reducible rfl)); simp only [Act.put, List.setIfInBounds_toArray, List.set_cons_zero, List.set_cons_succ])
          (refine Walk.take (i := 1) (oi := { dst := some 34, op := Op.load 3 (Operand.tmp 33), type := 3, pos := "plane.go:185", after := #[{ on := 0, ground := Ground.data }], guard := none }) (v := ?_) rfl (by kernel_rfl) (by kernel_rfl) (by kernel_rfl) (by kernel_rfl) (fun _ _ _ h => h) (Or.inl ⟨by rfl, ?_⟩) ?_; rotate_left; (intro w hw; have hS1 := hw.1 (by kernel_rfl); clear hw; (try dsimp only at hS1); (try go_split_ands); go_simp; try (with_reducible rfl)); simp only [Act.put, List.setIfInBounds_toArray, List.set_cons_zero, List.set_cons_succ])
          (refine Walk.take (i := 2) (oi := { dst := some 35, op := Op.move (Operand.tmp 7), type := 3, pos := "plane.go:185", after := #[], guard := none }) (v := ?_) rfl (by kernel_rfl) (by kernel_rfl) (by kernel_rfl) (by kernel_rfl) (fun _ _ _ h => h) (Or.inl ⟨by rfl, ?_⟩) ?_; rotate_left; (intro w hw; clear hw; (try go_split_ands); go_simp; try (with_reducible rfl)); simp only [Act.put, List.setIfInBounds_toArray, List.set_cons_zero, List.set_cons_succ])
          (refine Walk.take (i := 3) (oi := { dst := some 36, op := Op.load 3 (Operand.tmp 1), type := 3, pos := "plane.go:185", after := #[], guard := none }) (v := ?_) rfl (by kernel_rfl) (by kernel_rfl) (by kernel_rfl) (by kernel_rfl) (fun _ _ _ h => h) (Or.inl ⟨by rfl, ?_⟩) ?_; rotate_left; (intro w hw; have hS1 := hw.1 (by kernel_rfl); clear hw; (try dsimp only at hS1); (try go_split_ands); go_simp; try (with_reducible rfl)); simp only [Act.put, List.setIfInBounds_toArray, List.set_cons_zero, List.set_cons_succ])
          (refine Walk.take (i := 4) (oi := { dst := some 37, op := Op.binOp BinOp.quo 3 (Operand.tmp 35) (Operand.tmp 36) 3, type := 3, pos := "plane.go:185", after := #[{ on := 2, ground := Ground.data }, { on := 3, ground := Ground.data }], guard := none }) (v := ?_) rfl (by kernel_rfl) (by kernel_rfl) (by kernel_rfl) (by kernel_rfl) (fun _ _ _ h => h) (Or.inl ⟨by rfl, ?_⟩) ?_; rotate_left; (intro w hw; clear hw; (try go_split_ands); go_simp; try (with_reducible rfl)); simp only [Act.put, List.setIfInBounds_toArray, List.set_cons_zero, List.set_cons_succ])
          (refine Walk.take (i := 5) (oi := { dst := some 38, op := Op.load 3 (Operand.tmp 5), type := 3, pos := "plane.go:185", after := #[], guard := none }) (v := ?_) rfl (by kernel_rfl) (by kernel_rfl) (by kernel_rfl) (by kernel_rfl) (fun _ _ _ h => h) (Or.inl ⟨by rfl, ?_⟩) ?_; rotate_left; (intro w hw; have hS1 := hw.1 (by kernel_rfl); clear hw; (try dsimp only at hS1); (try go_split_ands); go_simp; try (with_reducible rfl)); simp only [Act.put, List.setIfInBounds_toArray, List.set_cons_zero, List.set_cons_succ])
          (refine Walk.take (i := 6) (oi := { dst := some 39, op := Op.binOp BinOp.mul 3 (Operand.tmp 37) (Operand.tmp 38) 3, type := 3, pos := "plane.go:185", after := #[{ on := 4, ground := Ground.data }, { on := 5, ground := Ground.data }], guard := none }) (v := ?_) rfl (by kernel_rfl) (by kernel_rfl) (by kernel_rfl) (by kernel_rfl) (fun _ _ _ h => h) (Or.inl ⟨by rfl, ?_⟩) ?_; rotate_left; (intro w hw; clear hw; (try go_split_ands); go_simp; try (with_reducible rfl)); simp only [Act.put, List.setIfInBounds_toArray, List.set_cons_zero, List.set_cons_succ])
          (refine Walk.take (i := 7) (oi := { dst := some 40, op := Op.binOp BinOp.add 3 (Operand.tmp 34) (Operand.tmp 39) 3, type := 3, pos := "plane.go:185", after := #[{ on := 1, ground := Ground.data }, { on := 6, ground := Ground.data }], guard := none }) (v := ?_) rfl (by kernel_rfl) (by kernel_rfl) (by kernel_rfl) (by kernel_rfl) (fun _ _ _ h => h) (Or.inl ⟨by rfl, ?_⟩) ?_; rotate_left; (intro w hw; clear hw; (try go_split_ands); go_simp; try (with_reducible rfl)); simp only [Act.put, List.setIfInBounds_toArray, List.set_cons_zero, List.set_cons_succ])
          (refine Walk.take (i := 8) (oi := { dst := some 41, op := Op.fieldAddr 91 (Operand.tmp 9) 5, type := 0, pos := "plane.go:185", after := #[{ on := 0, ground := Ground.phase }, { on := 1, ground := Ground.phase }, { on := 2, ground := Ground.phase }, { on := 3, ground := Ground.phase }, { on := 4, ground := Ground.phase }, { on := 5, ground := Ground.phase }, { on := 6, ground := Ground.phase }, { on := 7, ground := Ground.phase }], guard := none }) (v := ?_) rfl (by kernel_rfl) (by kernel_rfl) (by kernel_rfl) (by kernel_rfl) (fun _ _ _ h => h) (Or.inl ⟨by rfl, ?_⟩) ?_; rotate_left; (intro w hw; clear hw; (try go_split_ands); go_simp; try (with_reducible rfl)); simp only [Act.put, List.setIfInBounds_toArray, List.set_cons_zero, List.set_cons_succ])
          (refine Walk.go (i := 9) (o := { dst := none, op := Op.store 3 (Operand.tmp 41) (Operand.tmp 40), type := 0, pos := "plane.go:185", after := #[{ on := 8, ground := Ground.data }, { on := 7, ground := Ground.data }, { on := 0, ground := Ground.phase }, { on := 1, ground := Ground.phase }, { on := 2, ground := Ground.phase }, { on := 3, ground := Ground.phase }, { on := 4, ground := Ground.phase }, { on := 5, ground := Ground.phase }, { on := 6, ground := Ground.phase }, { on := 7, ground := Ground.phase }], guard := none }) (by kernel_rfl) rfl (fun K hK => ?_); go_simp; (skip); refine hK.out _ _ (⟨fun q => absurd q (by decide), fun _ => trivial⟩) ?_; clear hK K; try simp only [Act.put, List.setIfInBounds_toArray, List.set_cons_zero, List.set_cons_succ])
          refine Walk.done (by kernel_rfl) ?_ _
          replace kk := kk.set 5 (.int .i64 (s.y + (j : Int) / A * h))
          simp only [List.set_cons_zero, List.set_cons_succ] at kk
          clear cc4 cc5 cA cW cH ff
          revert kk
          generalize D2.setCell ⟨wr.heap.size, 5, none⟩ (.int .i64 (s.y + (j : Int) / A * h)) = W3
          intro kk
          have d0 := kk.head.at 0
          have d1 := kk.head.at 1
          have d2 := kk.head.at 2
          have d3 := kk.head.at 3
          have d4 := kk.head.at 4
          have d5 := kk.head.at 5
          have d6 := kk.head.at 6
          have d7 := kk.head.at 7
          simp only [List.getElem?_cons_zero, List.getElem?_cons_succ] at d0 d1 d2 d3 d4 d5 d6 d7
          obtain ⟨fn, tmps, assign, body, hy, hR⟩ := hY W3 e3 (HJ _ _ _ hj kk.but)
          clear hY hj kk
          gi_wp2
          refine hR.mono ?_
          rintro e W4 ⟨rfl, j4⟩
          clear hy hR d0 d1 d2 d3 d4 d5 d6 d7
          gi_wp2
          go_roundw
          case rel => exact ⟨k + 1, by omega, by go_num, j4⟩
          case measure => simp [intOf]; omega
        · have hkN : k = M := by omega
          gi_wp2
          go_roundw
          case rel => exact ⟨j + 1, by omega, by go_num, by rw [Nat.add_mul, Nat.one_mul, ← hkN]; exact hkN ▸ hj⟩
          case measure => simp [intOf]; omega
    · have hjN : j = C.toNat := by omega
      gi_wp2
      go_end0
      exact ⟨⟨_, rfl⟩, by rw [← hjN]; exact hj⟩

end Go.Proofs.Ytppbnmlgilgnnaa
