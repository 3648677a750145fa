/- An image that goes on beyond its ends as its last pixels: its SAMPLES are the same. -/
import Derived.Test.YtppbnmlgilgnnaaDoorPl12
namespace Go.Proofs.YtppbnmlgilgnnaaDoor
open Go.ChangeShapes Go.WideShapes Go.ChangeAt Go.RowKit

/-- The pixel within, of pixel r of an image that is W' wide. -/
def edgeAt (W H W' : Nat) (r : Nat) : Nat := min (r / W') (H - 1) * W + min (r % W') (W - 1)

/-- The words of the greater image. -/
def edgeF (W H W' P : Nat) (l : List Int) (j : Nat) : Int := gn l (edgeAt W H W' (j / P) * P + j % P)

theorem edgeAt_lt (W H W' r : Nat) (h1 : 1 ≤ W) (h2 : 1 ≤ H) : edgeAt W H W' r < W * H := by
  unfold edgeAt
  have a : min (r / W') (H - 1) * W ≤ (H - 1) * W := Nat.mul_le_mul_right W (by omega)
  have b : (H - 1) * W + W = W * H := by
    rw [Nat.mul_comm W H, ← Nat.succ_mul]
    congr 1
    omega
  omega

theorem parts_same (m : Int) (l l' : List Int) (q q' part : Nat) (hp : part < partsN m) (h : (q + 1) * partsN m ≤ l.length) (h' : (q' + 1) * partsN m ≤ l'.length)
    (hs : ∀ c, c < partsN m → gn l' (q' * partsN m + c) = gn l (q * partsN m + c)) : gat (partsL m l') ((q' * partsN m + part : Nat) : Int) = gat (partsL m l) ((q * partsN m + part : Nat) : Int) := by
  unfold gat
  rw [Int.toNat_natCast, Int.toNat_natCast]
  by_cases h1 : m = 1
  · have e : ∀ l, partsL m l = l := fun l => by unfold partsL; rw [if_pos h1]
    rw [e, e]
    exact hs part hp
  · have e : ∀ l, partsL m l = (List.range l.length).map (turnA luma1 luma2 luma3 l) := fun l => by unfold partsL; rw [if_neg h1]
    have h3 : partsN m = 3 := by unfold partsN; rw [if_neg h1]
    rw [h3] at hp h h' hs ⊢
    rw [e, e, List.getD_eq_getElem?_getD, List.getElem?_map, List.getElem?_range (by omega), Option.map_some, Option.getD_some, List.getD_eq_getElem?_getD, List.getElem?_map, List.getElem?_range (by omega), Option.map_some, Option.getD_some]
    unfold turnA
    have z0 : (q * 3 + part) / 3 * 3 = q * 3 := by omega
    have z1 : (q * 3 + part) % 3 = part := by omega
    have y0 : (q' * 3 + part) / 3 * 3 = q' * 3 := by omega
    have y1 : (q' * 3 + part) % 3 = part := by omega
    rw [z0, z1, y0, y1]
    have a0 := hs 0 (by omega)
    have a1 := hs 1 (by omega)
    have a2 := hs 2 (by omega)
    rw [Nat.add_zero, Nat.add_zero] at a0
    rw [a0, a1, a2]

theorem edgeF_in (W H W' P : Nat) (l : List Int) (h : ∀ x ∈ l, 0 ≤ x ∧ x ≤ 255) (j : Nat) : 0 ≤ edgeF W H W' P l j ∧ edgeF W H W' P l j ≤ 255 := by
  unfold edgeF gn
  rw [List.getD_eq_getElem?_getD]
  cases e : l[edgeAt W H W' (j / P) * P + j % P]? with
  | none => simp
  | some x => exact h x (List.mem_of_getElem? e)

/-- Both sides of the greater image are whole MCUs, and its grid is the same. -/
theorem grid_edge {W H m : Int} (f : Fit W H m) (hW : W ≤ 40) (hH : H ≤ 24) :
    Fit (gridW W H m * sideW m) (gridH W H m * sideH m) m ∧ gridW (gridW W H m * sideW m) (gridH W H m * sideH m) m = gridW W H m ∧ gridH (gridW W H m * sideW m) (gridH W H m * sideH m) m = gridH W H m ∧
      W ≤ gridW W H m * sideW m ∧ gridW W H m * sideW m ≤ 56 ∧ H ≤ gridH W H m * sideH m ∧ gridH W H m * sideH m ≤ 40 := by
  have sd := side_fit f.m
  have a := ceil_in W (sideW m) f.w.1 f.w.2 sd.1 sd.2.1
  have b := ceil_in H (sideH m) f.h.1 f.h.2 sd.2.2.1 sd.2.2.2
  obtain ⟨e1, e2, g1, g2, g3, g4⟩ := f.grid
  rw [← e1] at a
  rw [← e2] at b
  obtain ⟨-, -, -, a1, a2⟩ := a
  obtain ⟨-, -, -, b1, b2⟩ := b
  have hw := f.w
  have hh := f.h
  obtain ⟨A, hA⟩ : ∃ A, gridW W H m = A := ⟨_, rfl⟩
  obtain ⟨B, hB⟩ : ∃ B, gridH W H m = B := ⟨_, rfl⟩
  obtain ⟨X, hX⟩ : ∃ X, sideW m = X := ⟨_, rfl⟩
  obtain ⟨Y, hY⟩ : ∃ Y, sideH m = Y := ⟨_, rfl⟩
  rw [hA, hX] at a1 a2
  rw [hB, hY] at b1 b2
  rw [hA] at g1 g2
  rw [hB] at g3 g4
  rw [hX, hY] at sd
  rw [hA, hB, hX, hY]
  rw [Int.sub_mul, Int.one_mul] at a2 b2
  obtain ⟨U, hU⟩ : ∃ U, A * X = U := ⟨_, rfl⟩
  obtain ⟨V, hV⟩ : ∃ V, B * Y = V := ⟨_, rfl⟩
  rw [hU] at a1 a2
  rw [hV] at b1 b2
  have hUV : U * V ≤ 56 * 40 := Int.mul_le_mul (by omega) (by omega) (by omega) (by omega)
  have f' : Fit U V m := ⟨f.m, by omega, by omega, by omega⟩
  rw [hU, hV]
  refine ⟨f', ?_, ?_, by omega, by omega, by omega, by omega⟩
  · rw [f'.grid.1, hX, (ceil_in U X (by omega) (by omega) (by omega) (by omega)).1, ← hU, show A * X + X - 1 = (X - 1) + A * X by omega, Int.add_mul_ediv_right _ _ (by omega), Int.ediv_eq_zero_of_lt (by omega) (by omega)]
    omega
  · rw [f'.grid.2.1, hY, (ceil_in V Y (by omega) (by omega) (by omega) (by omega)).1, ← hV, show B * Y + Y - 1 = (Y - 1) + B * Y by omega, Int.add_mul_ediv_right _ _ (by omega), Int.ediv_eq_zero_of_lt (by omega) (by omega)]
    omega

theorem sample_same (W H W' H' : Int) (pl pl' : List Int) (s : Spot) (k : Int) (h : ∀ n, gat pl' (idxF W' H' s (s.x + k % 8 * s.wide) (s.y + k / 8 * s.high) n) = gat pl (idxF W H s (s.x + k % 8 * s.wide) (s.y + k / 8 * s.high) n)) : sampleF W' H' pl' s k = sampleF W H pl s k := by
  unfold sampleF
  rw [funext h]

theorem split_edge {W H W' H' m : Int} (f : Fit W H m) (f' : Fit W' H' m) (e1 : gridW W' H' m = gridW W H m) (e2 : gridH W' H' m = gridH W H m) (hW : W ≤ W') (hH : H ≤ H') (l l' : List Int) (hl : (l.length : Int) = W * H * partsN m) (hl' : (l'.length : Int) = W' * H' * partsN m)
    (hf : ∀ j, j < l'.length → gn l' j = edgeF W.toNat H.toNat W'.toNat (partsN m) l j) (i j : Nat) (hi : i < (gridW W H m * gridH W H m).toNat) (hj : j < (unitL m).length * 64) :
    splitF W' H' m l' i j = splitF W H m l i j := by
  obtain ⟨pa, x, y, wi, hh, hsp, hok, hpa⟩ := spot_form f i (j / 64) hi (by omega)
  unfold splitF
  rw [e1, hsp]
  refine sample_same _ _ _ _ _ _ _ _ (fun n => ?_)
  have hok' := hok
  obtain ⟨s1, s2, s3, s4, s5, s6, s7, s8, s9, s10, s11, s12⟩ := hok'
  dsimp only at s1 s2 s3 s4 s5 s6 s7 s8 s9 s10 s11 s12 ⊢
  obtain ⟨k, hk⟩ : ∃ k : Nat, j % 64 = k := ⟨_, rfl⟩
  rw [hk]
  have m0 : 0 ≤ (k : Int) % 8 * wi := Int.mul_nonneg (by omega) (by omega)
  have m2 : 0 ≤ (k : Int) / 8 * hh := Int.mul_nonneg (by omega) (by omega)
  have h1 := f.w
  have h2 := f.h
  have h3 := f'.w
  have h4 := f'.h
  unfold idxF
  dsimp only
  obtain ⟨X, hX⟩ : ∃ X, x + (k : Int) % 8 * wi + (n : Int) % wi = X := ⟨_, rfl⟩
  obtain ⟨Y, hY⟩ : ∃ Y, y + (k : Int) / 8 * hh + (n : Int) / wi = Y := ⟨_, rfl⟩
  have X0 : 0 ≤ X := by have : 0 ≤ (n : Int) % wi := Int.emod_nonneg _ (by omega); omega
  have Y0 : 0 ≤ Y := by have : 0 ≤ (n : Int) / wi := Int.ediv_nonneg (by omega) (by omega); omega
  rw [hX, hY]
  obtain ⟨Xn, rfl⟩ : ∃ Xn : Nat, X = Xn := ⟨X.toNat, by omega⟩
  obtain ⟨Yn, rfl⟩ : ∃ Yn : Nat, Y = Yn := ⟨Y.toNat, by omega⟩
  obtain ⟨Wn, rfl⟩ : ∃ Wn : Nat, W = Wn := ⟨W.toNat, by omega⟩
  obtain ⟨Hn, rfl⟩ : ∃ Hn : Nat, H = Hn := ⟨H.toNat, by omega⟩
  obtain ⟨Un, rfl⟩ : ∃ Un : Nat, W' = Un := ⟨W'.toNat, by omega⟩
  obtain ⟨Vn, rfl⟩ : ∃ Vn : Nat, H' = Vn := ⟨H'.toNat, by omega⟩
  obtain ⟨pn, rfl⟩ : ∃ pn : Nat, pa = pn := ⟨pa.toNat, by omega⟩
  simp only [Int.toNat_natCast] at hf
  have c1 : min (Yn : Int) ((Vn : Int) - 1) = ((min Yn (Vn - 1) : Nat) : Int) := by omega
  have c2 : min (Xn : Int) ((Un : Int) - 1) = ((min Xn (Un - 1) : Nat) : Int) := by omega
  have c3 : min (Yn : Int) ((Hn : Int) - 1) = ((min Yn (Hn - 1) : Nat) : Int) := by omega
  have c4 : min (Xn : Int) ((Wn : Int) - 1) = ((min Xn (Wn - 1) : Nat) : Int) := by omega
  rw [c1, c2, c3, c4]
  have d1 : (((min Yn (Vn - 1) : Nat) : Int) * (Un : Int) + ((min Xn (Un - 1) : Nat) : Int)) * ((partsN m : Nat) : Int) + (pn : Int) = (((min Yn (Vn - 1) * Un + min Xn (Un - 1)) * partsN m + pn : Nat) : Int) := by simp
  have d2 : (((min Yn (Hn - 1) : Nat) : Int) * (Wn : Int) + ((min Xn (Wn - 1) : Nat) : Int)) * ((partsN m : Nat) : Int) + (pn : Int) = (((min Yn (Hn - 1) * Wn + min Xn (Wn - 1)) * partsN m + pn : Nat) : Int) := by simp
  rw [d1, d2]
  have hUp : 0 < Un := by omega
  have q1 : (min Yn (Vn - 1) * Un + min Xn (Un - 1)) / Un = min Yn (Vn - 1) := by
    rw [Nat.add_comm, Nat.add_mul_div_right _ _ hUp, Nat.div_eq_of_lt (by omega)]; omega
  have q2 : (min Yn (Vn - 1) * Un + min Xn (Un - 1)) % Un = min Xn (Un - 1) := by
    rw [Nat.add_comm, Nat.add_mul_mod_self_right, Nat.mod_eq_of_lt (by omega)]
  have q3 : edgeAt Wn Hn Un (min Yn (Vn - 1) * Un + min Xn (Un - 1)) = min Yn (Hn - 1) * Wn + min Xn (Wn - 1) := by
    unfold edgeAt
    have t1 : min (min Yn (Vn - 1)) (Hn - 1) = min Yn (Hn - 1) := by omega
    have t2 : min (min Xn (Un - 1)) (Wn - 1) = min Xn (Wn - 1) := by omega
    rw [q1, q2, t1, t2]
  have in1 : min Yn (Vn - 1) * Un + min Xn (Un - 1) + 1 ≤ Un * Vn := by
    have := edgeAt_lt Un Vn Un (min Yn (Vn - 1) * Un + min Xn (Un - 1)) (by omega) (by omega)
    unfold edgeAt at this
    have t1 : min (min Yn (Vn - 1)) (Vn - 1) = min Yn (Vn - 1) := by omega
    have t2 : min (min Xn (Un - 1)) (Un - 1) = min Xn (Un - 1) := by omega
    rw [q1, q2, t1, t2] at this
    omega
  have in2 : min Yn (Hn - 1) * Wn + min Xn (Wn - 1) + 1 ≤ Wn * Hn := by
    rw [← q3]
    exact edgeAt_lt _ _ _ _ (by omega) (by omega)
  have L1 : l.length = Wn * Hn * partsN m := by
    have : ((Wn * Hn * partsN m : Nat) : Int) = (Wn : Int) * (Hn : Int) * ((partsN m : Nat) : Int) := by simp
    omega
  have L2 : l'.length = Un * Vn * partsN m := by
    have : ((Un * Vn * partsN m : Nat) : Int) = (Un : Int) * (Vn : Int) * ((partsN m : Nat) : Int) := by simp
    omega
  have hP : 0 < partsN m := by unfold partsN; split <;> omega
  revert q3 in1 in2
  generalize min Yn (Vn - 1) * Un + min Xn (Un - 1) = q'
  generalize min Yn (Hn - 1) * Wn + min Xn (Wn - 1) = q
  intro q3 in1 in2
  have in3 : (q' + 1) * partsN m ≤ l'.length := by rw [L2]; exact Nat.mul_le_mul_right _ in1
  refine parts_same m l l' q q' pn (by omega) (by rw [L1]; exact Nat.mul_le_mul_right _ in2) in3 (fun c hc => ?_)
  rw [Nat.add_mul] at in3
  rw [hf _ (by omega)]
  unfold edgeF
  rw [Nat.add_comm (q' * partsN m) c, Nat.add_mul_div_right _ _ hP, Nat.div_eq_of_lt hc, Nat.zero_add, q3, Nat.add_mul_mod_self_right, Nat.mod_eq_of_lt hc]

set_option maxHeartbeats 400000 in
/-- Many elements more, out of another list. -/
theorem Lst.more {P : Program} {w w1 : World} {st t : TypeId} {z : Value} {size bytes : Nat} (E : ElemInfo P st t z size bytes) {s : Value} {n : Nat} {xs : List Value} (h : Lst w w1 t size s n xs) (ad : Addr) (m c : Nat) (news : List Value) (hl : news.length = m * size) (hnews : ∀ j u, news[j]? = some u → w1.cell? (ad.add j) = some u) (h1 : ∀ u ∈ news, u.oneCell' = true) (hm : 0 < m) (hn : n + m ≤ 100000000) (hb : bytes ≤ 10000) :
    ∃ g cap w2, (Builtin.append_ #[st, st] st #[s, .slice (some ad) m c]).run P w1 = .ok (.slice (some ⟨g, 0, none⟩) (n + m) cap) w2 ∧ Lst w w2 t size (.slice (some ⟨g, 0, none⟩) (n + m) cap) (n + m) (xs ++ news) ∧
      But (fun k => s.ownBlock = some k) w1 w2 ∧ (s.ownBlock = some g ∨ w1.heap.size ≤ g) := by
  obtain ⟨i0, hi0, hz0, hz1, hz2⟩ := info_parts E.info
  have hbytes : (n + m) * bytes ≤ 140737488355328 := Nat.le_trans (Nat.mul_le_mul hn hb) (by decide)
  obtain ⟨g, cap, w', hr, k2, k3, k4, k5⟩ := run_append_lies (P := P) w1 st st 0 t i0 z size bytes E.under hi0 hz0 hz1 hz2 E.cells E.pos s n xs h.own ad m c news hl hnews h1 hm (by unfold maxLen; omega) hbytes (by omega) _ rfl
  have hbut : But (fun k => s.ownBlock = some k) w1 w' := (But.refl _ _).grown k3 (fun k hk _ => hk)
  have hg : s.ownBlock = some g ∨ w1.heap.size ≤ g := k4.imp id (fun e => by omega)
  refine ⟨g, cap, w', hr, ⟨k2, fun x hx => ?_, h.but.step hbut (fun k hk f => by have := h.new k f; omega)⟩, hbut, hg⟩
  simp [Value.ownBlock] at hx
  subst hx
  rcases hg with e | e
  · exact h.new _ e
  · exact Nat.le_trans h.but.size e

/-- At an append whose run is known, in a region that draws. -/
theorem wp_append_run {P : Program} {w : World} {o : Oper} {a : Act} {K : Act → World → Prop} {Q : Exit → Act → World → Prop} (s x : Operand) (t : TypeId)
    (ho : o.op = .call { callee := .builtin .append, args := #[s, x], argTypes := #[t, t] }) (v u : Value) (hs : a.eval s = v) (hx : a.eval x = u) (v' : Value) (w' : World)
    (hr : (Builtin.append_ #[t, t] o.type #[v, u]).run P w = .ok v' w') (h : K (a.put o.dst v') w') : o.wp P a w K Q := by
  unfold Oper.wp execOp
  simp only [ho, resolve, invoke, builtin, Sem.run_bind, Sem.run_pure, Result.andThen_ok, List.map_toArray, List.map_cons, List.map_nil, hs, hx, hr]
  exact h

set_option maxRecDepth 100000 in
/-- Some bytes of a list. -/
theorem slice_mid8 (g n c l p : Nat) (hp : 0 < p) (h : l + p ≤ c) (w : World) : (Instr.slice 24 (.slice (some ⟨g, 0, none⟩) n c) (some (.int .i64 (l : Int))) (some (.int .i64 ((l + p : Nat) : Int))) none).run Tryd.prog w = .ok (.slice (some ⟨g, l, none⟩) p (c - l)) w := by
  have hi : (Tryd.prog.info? (Tryd.prog.elem 24)).map (·.size) = some 1 := by kernel_rfl
  rw [run_slice_lh w _ _ _ _ (by kernel_rfl) .i64 .i64 (l : Int) ((l + p : Nat) : Int) (by omega) (by omega) (by omega)]
  cases hq : Tryd.prog.info? (Tryd.prog.elem 24) with
  | none => simp [hq] at hi
  | some i =>
    have hs : i.size = 1 := by simpa [hq] using hi
    have h1 : ¬ c = l := by omega
    simp [sizeOf, typeInfo, hq, hs, sliced, h1, Addr.add]
    omega

theorem edge_news (Wn Hn Un P : Nat) (li : List Int) (V : World) (gi k : Nat) (hP : 0 < P) (hc : ∀ j u, (ints .u8 li)[j]? = some u → V.cell? ⟨gi, j, none⟩ = some u) (hin : (edgeAt Wn Hn Un k + 1) * P ≤ li.length) :
    ∀ j u, ((List.range P).map (fun c => Value.int .u8 (edgeF Wn Hn Un P li (k * P + c))))[j]? = some u → V.cell? ⟨gi, edgeAt Wn Hn Un k * P + j, none⟩ = some u := by
  intro j u hj
  have hjP : j < P := by have := (List.getElem?_eq_some_iff.1 hj).1; simpa using this
  rw [List.getElem?_map, List.getElem?_range hjP, Option.map_some] at hj
  rw [Nat.add_mul, Nat.one_mul] at hin
  refine hc _ _ ?_
  rw [ints_at _ _ _ (by omega), ← hj, gn_at]
  unfold edgeF
  rw [Nat.add_comm (k * P) j, Nat.add_mul_div_right _ _ hP, Nat.div_eq_of_lt hjP, Nat.zero_add, Nat.add_mul_mod_self_right, Nat.mod_eq_of_lt hjP]

theorem edge_grow (e : Nat → Int) (k P : Nat) : ints .u8 ((List.range ((k + 1) * P)).map e) = ints .u8 ((List.range (k * P)).map e) ++ (List.range P).map (fun c => Value.int .u8 (e (k * P + c))) := by
  rw [Nat.add_mul, Nat.one_mul, List.range_add, List.map_append, ints_append]
  congr 1
  simp [ints]

set_option maxHeartbeats 800000 in
theorem edge_round {w w9 V : World} {NB gi c k P Wn Hn Un : Nat} {U U' : Int} {rb : Bool} {pv : Value} {li : List Int} (hP : 0 < P) (LL : Lst w V 5 1 pv (k * P) (ints .u8 ((List.range (k * P)).map (edgeF Wn Hn Un P li)))) (HM : Cells V NB 26 (imC U U' rb pv)) (hbN : But (fun x => x = NB) w9 V) (hnew : ∀ x, pv.ownBlock = some x → w9.heap.size ≤ x)
    (hNB : NB < w9.heap.size) (hwN : w.heap.size ≤ NB) (hc : ∀ j u, (ints .u8 li)[j]? = some u → V.cell? ⟨gi, j, none⟩ = some u) (hin : (edgeAt Wn Hn Un k + 1) * P ≤ li.length) (hk : (k + 1) * P ≤ 10000000) :
    ∃ g cap W4, (Builtin.append_ #[24, 24] 24 #[pv, .slice (some ⟨gi, edgeAt Wn Hn Un k * P, none⟩) P c]).run Tryd.prog V = .ok (.slice (some ⟨g, 0, none⟩) (k * P + P) cap) W4 ∧ W4.cell? ⟨NB, 3, none⟩ = some pv ∧ W4.frozen? ⟨NB, 3, none⟩ = false ∧
      Lst w (W4.setCell ⟨NB, 3, none⟩ (.slice (some ⟨g, 0, none⟩) (k * P + P) cap)) 5 1 (.slice (some ⟨g, 0, none⟩) (k * P + P) cap) ((k + 1) * P) (ints .u8 ((List.range ((k + 1) * P)).map (edgeF Wn Hn Un P li))) ∧
      Cells (W4.setCell ⟨NB, 3, none⟩ (.slice (some ⟨g, 0, none⟩) (k * P + P) cap)) NB 26 (imC U U' rb (.slice (some ⟨g, 0, none⟩) (k * P + P) cap)) ∧ But (fun x => x = NB) w9 (W4.setCell ⟨NB, 3, none⟩ (.slice (some ⟨g, 0, none⟩) (k * P + P) cap)) ∧
      (∀ x, (Value.slice (some ⟨g, 0, none⟩) (k * P + P) cap).ownBlock = some x → w9.heap.size ≤ x) ∧ ∀ (p : Addr) (u : Value), p.block < w9.heap.size → V.cell? p = some u → W4.cell? p = some u := by
  have hk' : k * P + P ≤ 10000000 := by rw [Nat.add_mul, Nat.one_mul] at hk; exact hk
  obtain ⟨g, cap, W4, hrun, L4, b4, hg4⟩ := Lst.more Tryd.elemByte LL ⟨gi, edgeAt Wn Hn Un k * P, none⟩ P c ((List.range P).map (fun c => Value.int .u8 (edgeF Wn Hn Un P li (k * P + c)))) (by simp) (fun j u hj => by rw [Addr.add_mid]; exact edge_news Wn Hn Un P li V gi k hP hc hin j u hj)
    (fun u hu => by simp only [List.mem_map] at hu; obtain ⟨a, _, rfl⟩ := hu; rfl) hP (by omega) (by omega)
  have hM4 := HM.but b4 (fun e => by have := hnew _ e; omega)
  have hgn : w9.heap.size ≤ g := by
    rcases hg4 with e | e
    · exact hnew g e
    · have := hbN.size; omega
  have hgM : g ≠ NB := by omega
  have c3 := hM4.at 3
  simp only [List.getElem?_cons_zero, List.getElem?_cons_succ] at c3
  refine ⟨g, cap, W4, hrun, c3, hM4.frozen 3, ?_, hM4.set 3 _, ?_, fun x hx => ?_, fun p u hp h => b4.keeps (fun e => by have := hnew _ e; omega) h⟩
  · have := L4.stepS (S := fun x => x = NB) (But.setCell (S := fun x => x = NB) (p := ⟨NB, 3, none⟩) (But.refl _ _) (fun _ => rfl) (.slice (some ⟨g, 0, none⟩) (k * P + P) cap)) (fun x hx' e => by simp [Value.ownBlock] at hx'; subst hx'; exact hgM e) (fun x e => by omega)
    rw [edge_grow]
    rw [show (k + 1) * P = k * P + P by rw [Nat.add_mul, Nat.one_mul]]
    exact this
  · exact (hbN.step b4 (fun x hx e => by have := hnew x e; omega)).setCell (p := ⟨NB, 3, none⟩) (fun _ => rfl) _
  · simp [Value.ownBlock] at hx
    omega

end Go.Proofs.YtppbnmlgilgnnaaDoor
