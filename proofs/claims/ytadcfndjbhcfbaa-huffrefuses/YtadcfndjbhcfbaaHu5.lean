/- Some table of choices: the law's Table of layer 10. -/
import Derived.Test.YtadcfndjbhcfbaaHu4
import Derived.Test.YtadcfndjbhcfbaaLst
import Derived.Test.YtadcfndjbhcfbaaBld
namespace Go.Proofs.Ytadcfndjbhcfbaa
set_option linter.unusedVariables false
open Go.ChangeShapes Go.WideShapes Go.ChangeAt Go.RowKit

/-- At an append whose run is known, in a region that draws. -/
theorem wp_append_run {P : Program} {w : World} {o : Oper} {a : Act} {K : Act → World → Prop} {Q : Exit → Act → World → Prop} (s x : Operand) (t : TypeId)
    (ho : o.op = .call { callee := .builtin .append, args := #[s, x], argTypes := #[t, t] }) (v u : Value) (hs : a.eval s = v) (hx : a.eval x = u) (v' : Value) (w' : World)
    (hr : (Builtin.append_ #[t, t] o.type #[v, u]).run P w = .ok v' w') (h : K (a.put o.dst v') w') : o.wp P a w K Q := by
  unfold Oper.wp execOp
  simp only [ho, resolve, invoke, builtin, Sem.run_bind, Sem.run_pure, Result.andThen_ok, List.map_toArray, List.map_cons, List.map_nil, hs, hx, hr]
  exact h

theorem Try.elemByte : ElemInfo Try.prog 23 5 (.int .u8 0) 1 1 := ⟨Try.underlying23, by kernel_rfl, rfl, by omega⟩

theorem tbl_set (c : Nat → Int) (pv : Value) (j : Nat) (h : j < 16) (x : Int) : (tbl c pv).set j (.int .i64 x) = tbl (upd c j x) pv := by
  unfold tbl
  rw [List.set_append_left _ _ (by rw [tab_length]; exact h), tab_set]
theorem tbl_setV (c : Nat → Int) (pv v : Value) : (tbl c pv).set 16 v = tbl c v := by
  unfold tbl
  rw [List.set_append_right _ _ (by rw [tab_length]; omega), tab_length]
  rfl

theorem pow16 (n : Nat) (h : n < 17) : (2 : Int) ^ n ≤ 65536 := (show ∀ n, n < 17 → (2 : Int) ^ n ≤ 65536 by decide) n h

theorem tmod_bd (y m : Int) (h : 0 ≤ y) : ∃ q, y.tmod m = q ∧ 0 ≤ q ∧ q ≤ y := by
  refine ⟨_, rfl, ?_⟩
  obtain ⟨a, rfl⟩ := Int.eq_ofNat_of_zero_le h
  have key : ∀ b : Nat, (0 : Int) ≤ ((a % b : Nat) : Int) ∧ ((a % b : Nat) : Int) ≤ (a : Int) := fun b => by
    have := Nat.mod_le a b
    omega
  cases m with
  | ofNat b => exact key b
  | negSucc b => exact key (b + 1)

/-- A table that is being made in block NB: its list lies elsewhere. -/
structure TJ (w w9 V : World) (NB : Nat) (cs : Nat → Int) (xs : List Int) (pv : Value) : Prop where
  lst : Lst w V 5 1 pv xs.length (ints .u8 xs)
  tab : Cells V NB 25 (tbl cs pv)
  but : But (fun x => x = NB) w9 V
  new : ∀ x, pv.ownBlock = some x → w9.heap.size ≤ x
  nb : NB < w9.heap.size
  wn : w.heap.size ≤ NB

theorem TJ.step {w w9 V V' : World} {NB : Nat} {cs : Nat → Int} {xs : List Int} {pv : Value} (h : TJ w w9 V NB cs xs pv) (hb : But Nowhere V V') : TJ w w9 V' NB cs xs pv :=
  ⟨h.lst.step hb, h.tab.but hb (not_nowhere _), h.but.step hb (fun _ _ f => f.elim), h.new, h.nb, h.wn⟩

theorem TJ.count {w w9 V : World} {NB : Nat} {cs : Nat → Int} {xs : List Int} {pv : Value} (h : TJ w w9 V NB cs xs pv) (j : Nat) (hj : j < 16) (x : Int) : TJ w w9 (V.setCell ⟨NB, j, none⟩ (.int .i64 x)) NB (upd cs j x) xs pv := by
  have hS : But (fun x => x = NB) V (V.setCell ⟨NB, j, none⟩ (.int .i64 x)) := But.setCell (S := fun x => x = NB) (p := ⟨NB, j, none⟩) (But.refl _ _) (fun _ => rfl) _
  refine ⟨h.lst.stepS hS (fun k hk e => by have := h.new k hk; have := h.nb; omega) (fun k e => by have := h.wn; omega), ?_, h.but.setCell (p := ⟨NB, j, none⟩) (fun _ => rfl) _, h.new, h.nb, h.wn⟩
  have := h.tab.set j (.int .i64 x)
  rwa [tbl_set _ _ _ hj] at this

set_option maxHeartbeats 800000 in
theorem TJ.push {w w9 V : World} {NB : Nat} {cs : Nat → Int} {xs : List Int} {pv : Value} (h : TJ w w9 V NB cs xs pv) (a : Int) (hn : xs.length ≤ 10000000) (B : Nat) (hB : V.heap.size = B) :
    ∃ g cap W4, (Builtin.append_ #[23, 23] 23 #[pv, .slice (some ⟨B, 0, none⟩) 1 1]).run Try.prog (V.alloc (.cells [.int .u8 a].toArray 5)) = .ok (.slice (some ⟨g, 0, none⟩) (xs.length + 1) cap) W4 ∧ W4.cell? ⟨NB, 16, none⟩ = some pv ∧ W4.frozen? ⟨NB, 16, none⟩ = false ∧
      TJ w w9 (W4.setCell ⟨NB, 16, none⟩ (.slice (some ⟨g, 0, none⟩) (xs.length + 1) cap)) NB cs (xs ++ [a]) (.slice (some ⟨g, 0, none⟩) (xs.length + 1) cap) ∧ ∀ (p : Addr) (u : Value), p.block < w9.heap.size → V.cell? p = some u → W4.cell? p = some u := by
  subst hB
  obtain ⟨g, cap, W4, hrun, L4, b4, hg4⟩ := Lst.push Try.elemByte h.lst [.int .u8 a] rfl (by simp [Value.oneCell']) (by omega) (by omega) _ rfl
  have hM4 := h.tab.but b4 (fun e => by have := h.new _ e; have := h.nb; omega)
  have hsz := h.but.size
  have hgn : w9.heap.size ≤ g := by
    rcases hg4 with e | e
    · exact h.new g e
    · omega
  have hnb := h.nb
  have hwn := h.wn
  refine ⟨g, cap, W4, hrun, hM4.vals, hM4.frozen 16, ⟨?_, ?_, ?_, fun x hx => ?_, hnb, hwn⟩, fun p u hp hpu => b4.keeps (fun e => by have := h.new _ e; omega) hpu⟩
  · have := L4.stepS (S := fun x => x = NB) (But.setCell (S := fun x => x = NB) (p := ⟨NB, 16, none⟩) (But.refl _ _) (fun _ => rfl) (.slice (some ⟨g, 0, none⟩) (xs.length + 1) cap)) (fun x hx' e => by simp [Value.ownBlock] at hx'; omega) (fun x e => by omega)
    rw [ints_append, List.length_append]
    exact this
  · have := hM4.set 16 (.slice (some ⟨g, 0, none⟩) (xs.length + 1) cap)
    rwa [tbl_setV] at this
  · exact (h.but.step b4 (fun x hx e => by have := h.new x e; omega)).setCell (p := ⟨NB, 16, none⟩) (fun _ => rfl) _
  · simp [Value.ownBlock] at hx
    omega

theorem tbl_all (c : Nat → Int) (po : Option Addr) (n m : Nat) : (tbl c (.slice po n m)).toArray.all (·.oneCell') = true := all_oneCell_toArray (fun v hv => by
  unfold tbl at hv
  rcases List.mem_append.1 hv with h | h
  · exact tab_one _ _ _ v h
  · simp at h; subst h; rfl)

/-- What stands when the table is told. -/
theorem table_end {w V : World} {cs : Nat → Int} {po : Option Addr} {LN pc : Nat} {ys : List Int} (hS0 : Cells V w.heap.size 25 (Value.int .i64 0 :: Value.int .i64 0 :: Value.int .i64 0 :: Value.int .i64 0 :: Value.int .i64 0 :: Value.int .i64 0 :: Value.int .i64 0 :: Value.int .i64 0 :: Value.int .i64 0 :: Value.int .i64 0 :: Value.int .i64 0 :: Value.int .i64 0 :: Value.int .i64 0 :: Value.int .i64 0 :: Value.int .i64 0 :: Value.int .i64 0 :: Value.slice none 0 0 :: [])) (hv : View V .u8 (.slice po LN pc) ys) (hb : But Nowhere w V) (hoff : ∀ b off sp, po = some ⟨b, off, sp⟩ → LN ≠ 0 → b ≠ w.heap.size) :
    V.there w.heap.size 0 (tbl cs (.slice po LN pc)).toArray.size ∧ Cells (V.setCells w.heap.size 0 (tbl cs (.slice po LN pc))) w.heap.size 25 (tbl cs (.slice po LN pc)) ∧ View (V.setCells w.heap.size 0 (tbl cs (.slice po LN pc))) .u8 (.slice po LN pc) ys ∧ But Nowhere w (V.setCells w.heap.size 0 (tbl cs (.slice po LN pc))) := by
  refine ⟨hS0.there 0 _ (by simp [tbl_length]), Cells.lay_any (tbl cs (.slice po LN pc)) [] (Value.int .i64 0 :: Value.int .i64 0 :: Value.int .i64 0 :: Value.int .i64 0 :: Value.int .i64 0 :: Value.int .i64 0 :: Value.int .i64 0 :: Value.int .i64 0 :: Value.int .i64 0 :: Value.int .i64 0 :: Value.int .i64 0 :: Value.int .i64 0 :: Value.int .i64 0 :: Value.int .i64 0 :: Value.int .i64 0 :: Value.int .i64 0 :: Value.slice none 0 0 :: []) hS0 (by rw [tbl_length]; rfl), ?_, But.setCells _ hb (fun q => by omega) 0⟩
  refine View.butS (S := fun x => x = w.heap.size) hv (But.setCells (S := fun x => x = w.heap.size) _ (But.refl _ _) (fun _ => rfl) 0) (fun b off sp n c e hn => ?_)
  simp only [Value.slice.injEq] at e
  obtain ⟨rfl, rfl, rfl⟩ := e
  exact hoff b off sp rfl hn

set_option maxHeartbeats 6400000 in
set_option maxRecDepth 100000 in
theorem table_law (v : Value) (l : List Int) (w : World) (hv : View w .u8 v l) (hx : ∀ x ∈ l, 0 ≤ x ∧ x ≤ 255) (hl : l.length ≤ 140737488355328) : Calls Try.prog 12 #[v] w fun e w' =>
    ∃ cs pv xs, e = .returned (.agg (tbl cs pv).toArray) ∧ View w' .u8 pv xs ∧ (∀ x ∈ xs, 0 ≤ x ∧ x ≤ 255) ∧ (∀ j, j < 16 → I64 (cs j)) ∧ xs.length ≤ 4096 ∧ But Nowhere w w' := by
  have HV : Hid (View w .u8 v l) := hv
  obtain ⟨vo, vc, rfl⟩ := hv.slice
  clear hv
  have hu := Try.underlying25
  have hiA : ∀ c pv, (Try.prog.info? 25).map (·.size) = some (tbl c pv).length := fun c pv => by rw [tbl_length]; kernel_rfl
  have hiB : (Try.prog.info? 25).map (·.size) = some (tbl (fun _ => 0) (.slice none 0 0)).toArray.size := by rw [List.size_toArray, tbl_length]; kernel_rfl
  have hal : (tbl (fun _ => 0) (.slice none 0 0)).toArray.all (·.oneCell') = true := by kernel_rfl
  have kk := ((Keep.start w).made 25 (Value.int .i64 0 :: Value.int .i64 0 :: Value.int .i64 0 :: Value.int .i64 0 :: Value.int .i64 0 :: Value.int .i64 0 :: Value.int .i64 0 :: Value.int .i64 0 :: Value.int .i64 0 :: Value.int .i64 0 :: Value.int .i64 0 :: Value.int .i64 0 :: Value.int .i64 0 :: Value.int .i64 0 :: Value.int .i64 0 :: Value.int .i64 0 :: Value.slice none 0 0 :: [])).made 25 (Value.int .i64 0 :: Value.int .i64 0 :: Value.int .i64 0 :: Value.int .i64 0 :: Value.int .i64 0 :: Value.int .i64 0 :: Value.int .i64 0 :: Value.int .i64 0 :: Value.int .i64 0 :: Value.int .i64 0 :: Value.int .i64 0 :: Value.int .i64 0 :: Value.int .i64 0 :: Value.int .i64 0 :: Value.int .i64 0 :: Value.int .i64 0 :: Value.slice none 0 0 :: [])
  simp only [World.size_alloc] at kk
  have hth := kk.head.there 0 (tbl (fun _ => 0) (.slice none 0 0)).toArray.size (by simp [tbl_length])
  replace kk := kk.laid_any (tbl (fun _ => 0) (.slice none 0 0)) rfl
  have HK : Hid _ := kk
  clear kk
  go_enter Try.func12, Try.ntmps12
  go_upto_region 2 with (refine wpList_store_mid rfl 25 (.tmp 3) (.tmp 9) rfl (w.heap.size + 1) 0 (tbl (fun _ => 0) (.slice none 0 0)).toArray rfl rfl ?_ hiB hal ?_; exact hth)
  clear hth hiB hal
  have kk := HK.out
  clear HK
  revert kk
  generalize ((w.alloc (.cells (Value.int .i64 0 :: Value.int .i64 0 :: Value.int .i64 0 :: Value.int .i64 0 :: Value.int .i64 0 :: Value.int .i64 0 :: Value.int .i64 0 :: Value.int .i64 0 :: Value.int .i64 0 :: Value.int .i64 0 :: Value.int .i64 0 :: Value.int .i64 0 :: Value.int .i64 0 :: Value.int .i64 0 :: Value.int .i64 0 :: Value.int .i64 0 :: Value.slice none 0 0 :: []).toArray 25)).alloc (.cells (Value.int .i64 0 :: Value.int .i64 0 :: Value.int .i64 0 :: Value.int .i64 0 :: Value.int .i64 0 :: Value.int .i64 0 :: Value.int .i64 0 :: Value.int .i64 0 :: Value.int .i64 0 :: Value.int .i64 0 :: Value.int .i64 0 :: Value.int .i64 0 :: Value.int .i64 0 :: Value.int .i64 0 :: Value.int .i64 0 :: Value.int .i64 0 :: Value.slice none 0 0 :: []).toArray 25)).setCells (w.heap.size + 1) 0 (tbl (fun _ => 0) (.slice none 0 0)) = W9
  intro kk
  try simp only [Act.put]
  have jj : TJ w W9 W9 (w.heap.size + 1) (fun _ => 0) [] (.slice none 0 0) := ⟨(Lst.start w 5 1).step kk.but, kk.head, But.refl _ _, by simp [Value.ownBlock], kk.head.lt, by omega⟩
  have H0 : Hid _ := And.intro kk.swap.head (And.intro (show w.heap.size < W9.heap.size by have := kk.head.lt; omega) kk.but)
  have HV9 : Hid _ := HV.out.but kk.but
  clear kk
  go_wp2_with fail
  go_loopw [4, 5, 6] (fun le vv i V => ∃ n : Nat, n ≤ 16 ∧ i = .int .i64 n ∧ ∃ (h u : Int) (cs : Nat → Int) (xs : List Int) (pv : Value), le = .int .i64 (2 * h) ∧ vv = .int .i64 u ∧ h ≤ 150 ∧ -(128 * 2 ^ n) + 128 ≤ h ∧ u ≤ 127 * n ∧ (xs.length : Int) = u ∧ (∀ x ∈ xs, 0 ≤ x ∧ x ≤ 255) ∧ (∀ j, j < 16 → I64 (cs j)) ∧ TJ w W9 V (w.heap.size + 1) cs xs pv) (fun _ _ i _ => 16 - (intOf i).toNat)
  case atStart => exact ⟨0, Nat.zero_le _, rfl, 1, 0, _, [], _, rfl, rfl, by omega, by omega, by omega, by simp, by simp, fun _ _ => ⟨by omega, by omega⟩, jj⟩
  case round =>
    clear jj
    obtain ⟨n, hn, rfl, h, u, cs, xs, pv, rfl, rfl, hh, hlo, hu1, hxl, hxb, hcs, jj⟩ := hrel
    have hpw := pow16 n (by omega)
    have hp1 := one_le_pow n
    have hps : (2 : Int) ^ (n + 1) = 2 * 2 ^ n := by rw [Int.pow_succ]; omega
    by_cases hlt : n < 16
    · by_cases hnl : n < l.length
      · have n0 : (0 : Int) ≤ (n : Int) := by omega
        have n1 : (n : Int) < 16 := by omega
        have n2 : (n : Int) < (l.length : Int) := by omega
        obtain ⟨-, vb, off, hao, hvb, c0⟩ := HV.out.at n hnl
        obtain ⟨-, vb', off', hao', -, cz⟩ := HV.out.at 0 (by omega)
        rw [hao] at hao'
        simp only [Option.some.injEq, Addr.mk.injEq, and_true] at hao'
        obtain ⟨rfl, rfl⟩ := hao'
        subst hao
        obtain ⟨y, hye⟩ : ∃ y, l[n] = y := ⟨_, rfl⟩
        obtain ⟨z, hze⟩ : ∃ y, l[0]'(by omega) = y := ⟨_, rfl⟩
        have hy := hx _ (List.getElem_mem hnl)
        have hzb := hx _ (List.getElem_mem (show 0 < l.length by omega))
        rw [hye] at c0 hy
        rw [hze] at cz hzb
        rw [Nat.add_zero] at cz
        clear hye hze
        replace c0 := jj.lst.but.keeps (not_nowhere _) c0
        have i00 : (0 : Int) < (l.length : Int) := by omega
        have i01 : 0 < l.length := by omega
        have HVB : Hid (vb < W9.heap.size) := by have := H0.out.2.1; exact (show vb < W9.heap.size by omega)
        obtain ⟨q, hq, hq0, hq1⟩ := tmod_bd y (2 * h + 1) hy.1
        have hne : ¬ 2 * h + 1 = 0 := by omega
        have w1 : wrap64 (2 * h + 1) = 2 * h + 1 := w64 _ (by omega)
        have HJ : Hid _ := jj
        have HX : Hid _ := And.intro hxb hcs
        have HCZ : Hid _ := cz
        have HXL : Hid _ := hxl
        have HLO : Hid _ := And.intro hlo (And.intro hu1 hps)
        clear jj hxb hcs cz hxl hlo
        by_cases hy2 : 250 < y
        · go_upto_region 10 with fail
          clear w1 hne hq
          have hN : 0 ≤ y % 16 ∧ y % 16 ≤ 127 := by omega
          revert hN
          generalize y % 16 = N1
          intro hN
          obtain ⟨hN0, hN1⟩ := hN
          have q0 := HJ.out.tab.cnt n hlt
          have f0 := HJ.out.tab.frozen n
          have HJN : Hid _ := HJ.out.count n hlt N1
          obtain ⟨h2, hif, h2a, h2b⟩ : ∃ h2, (if 300 < wrap64 (2 * wrap64 (2 * h - N1)) then 300 else wrap64 (2 * wrap64 (2 * h - N1))) = 2 * h2 ∧ h2 ≤ 150 ∧ -(128 * 2 ^ (n + 1)) + 128 ≤ h2 := by
            have := HLO.out
            rw [w64 (2 * h - N1) (by omega), w64 (2 * (2 * h - N1)) (by omega)]
            by_cases hm : 300 < 2 * (2 * h - N1)
            · exact ⟨150, by rw [if_pos hm]; rfl, by omega, by omega⟩
            · exact ⟨2 * h - N1, by rw [if_neg hm], by omega, by omega⟩
          have HIF : Hid _ := hif
          clear hif
          go_upto_region 12 with fail
          rw [HIF.out]
          clear HIF
          clear q0 f0 c0
          have hjn := HJN.out
          revert hjn
          generalize wr.setCell ⟨w.heap.size + 1, n, none⟩ (.int .i64 N1) = W2
          intro hjn
          clear HJN HJ
          go_wp2_with fail
          go_loopw [5, 8] (fun vv kv V => ∃ k : Nat, (k : Int) ≤ N1 ∧ kv = .int .i64 k ∧ ∃ (u' : Int) (ys : List Int) (pv' : Value), vv = .int .i64 u' ∧ u' = u + k ∧ (ys.length : Int) = u' ∧ (∀ x ∈ ys, 0 ≤ x ∧ x ≤ 255) ∧ TJ w W9 V (w.heap.size + 1) (upd cs n N1) ys pv') (fun _ kv _ => (N1 - intOf kv).toNat)
          case atStart => exact ⟨0, by omega, rfl, u, xs, pv, rfl, by simp, HXL.out, HX.out.1, hjn⟩
          case round =>
            clear hjn
            obtain ⟨k, hk, rfl, u', ys, pv', rfl, hu', hyl, hyb, jj⟩ := hrel
            have HU : Hid _ := hu'
            have hu2 : 0 ≤ u' := by omega
            have hu3 : u' ≤ 127 * 16 := by have := HLO.out.2.1; omega
            by_cases hkn : (k : Int) < N1
            · have k0 : (0 : Int) ≤ (k : Int) := by omega
              obtain ⟨P, hP⟩ : ∃ P, u' * 37 = P := ⟨_, rfl⟩
              obtain ⟨Q, hQ⟩ : ∃ Q, P + z = Q := ⟨_, rfl⟩
              obtain ⟨av, hav⟩ : ∃ a, IntKind.u8.wrap Q = a := ⟨_, rfl⟩
              have hab : 0 ≤ av ∧ av ≤ 255 := by rw [← hav, IntKind.wrap_u8]; omega
              have r1 : IntKind.i64.wrap (u' * 37) = P := by rw [hP, wrap_i64_eq]; exact w64 _ (by omega)
              have r2 : IntKind.i64.wrap z = z := by rw [wrap_i64_eq]; exact w64 _ (by omega)
              have r3 : IntKind.i64.wrap (P + z) = Q := by rw [hQ, wrap_i64_eq]; exact w64 _ (by omega)
              have jd := jj.step (But.refl Nowhere _).drew
              have t16 := jd.tab.vals
              have tz := jd.lst.but.keeps (not_nowhere _) HCZ.out
              obtain ⟨g, cap, W4, hrun, k4, f4, J4, hkeep⟩ := jd.push av (by omega) _ rfl
              have HJ4 : Hid _ := J4
              have HYL : Hid _ := hyl
              have HYB : Hid _ := hyb
              clear hP hQ J4 jj hyl hyb hu'
              go_wp2_with fail
              refine wp_region_till (S := fun V => V.cell? ⟨w.heap.size + 1, 16, none⟩ = some pv' ∧ V.cell? ⟨vb, off, none⟩ = some (.int .u8 z)) (R := fun _ => True) (k := 13) (m := 100) (by kernel_rfl) ⟨t16, tz⟩ trivial ?_
              (refine Walk.take (i := 0) (oi := { dst := some 54, op := Op.fieldAddr 25 (Operand.tmp 3) 1, type := 0, pos := "law.go:30", after := #[], guard := none }) (v := ?_) rfl (by kernel_rfl) (by kernel_rfl) (by kernel_rfl) (by kernel_rfl) (fun _ _ _ h => h) (Or.inl ⟨by rfl, ?_⟩) ?_; rotate_left; (intro w hw; clear hw; (try go_split_ands); go_simp; try (with_reducible rfl)); simp only [Act.put, List.setIfInBounds_toArray, List.set_cons_zero, List.set_cons_succ])
              (refine Walk.take (i := 1) (oi := { dst := some 55, op := Op.load 23 (Operand.tmp 54), type := 23, pos := "law.go:30", after := #[{ on := 0, ground := Ground.data }], guard := none }) (v := ?_) rfl (by kernel_rfl) (by kernel_rfl) (by kernel_rfl) (by kernel_rfl) (fun _ _ _ h => h) (Or.inl ⟨by rfl, ?_⟩) ?_; rotate_left; (intro w hw; have hS1 := hw.1 (by kernel_rfl); clear hw; (try dsimp only at hS1); (try go_split_ands); go_simp; try (with_reducible rfl)); simp only [Act.put, List.setIfInBounds_toArray, List.set_cons_zero, List.set_cons_succ])
              (refine Walk.take (i := 2) (oi := { dst := some 56, op := Op.move (Operand.tmp 5), type := 3, pos := "law.go:30", after := #[], guard := none }) (v := ?_) rfl (by kernel_rfl) (by kernel_rfl) (by kernel_rfl) (by kernel_rfl) (fun _ _ _ h => h) (Or.inl ⟨by rfl, ?_⟩) ?_; rotate_left; (intro w hw; clear hw; (try go_split_ands); go_simp; try (with_reducible rfl)); simp only [Act.put, List.setIfInBounds_toArray, List.set_cons_zero, List.set_cons_succ])
              (refine Walk.take (i := 3) (oi := { dst := some 57, op := Op.binOp BinOp.mul 3 (Operand.tmp 56) (Operand.const (Value.int IntKind.i64 37)) 3, type := 3, pos := "law.go:30", after := #[{ on := 2, ground := Ground.data }], guard := none }) (v := ?_) rfl (by kernel_rfl) (by kernel_rfl) (by kernel_rfl) (by kernel_rfl) (fun _ _ _ h => h) (Or.inl ⟨by rfl, ?_⟩) ?_; rotate_left; (intro w hw; clear hw; (try go_split_ands); go_simp; try (with_reducible rfl)); simp only [Act.put, List.setIfInBounds_toArray, List.set_cons_zero, List.set_cons_succ])
              (refine Walk.take (i := 4) (oi := { dst := some 58, op := Op.move (Operand.tmp 0), type := 23, pos := "law.go:30", after := #[], guard := none }) (v := ?_) rfl (by kernel_rfl) (by kernel_rfl) (by kernel_rfl) (by kernel_rfl) (fun _ _ _ h => h) (Or.inl ⟨by rfl, ?_⟩) ?_; rotate_left; (intro w hw; clear hw; (try go_split_ands); go_simp; try (with_reducible rfl)); simp only [Act.put, List.setIfInBounds_toArray, List.set_cons_zero, List.set_cons_succ])
              (refine Walk.take (i := 5) (oi := { dst := some 59, op := Op.indexAddr 23 (Operand.tmp 58) (Operand.const (Value.int IntKind.i64 0)), type := 0, pos := "law.go:30", after := #[{ on := 4, ground := Ground.data }], guard := none }) (v := ?_) rfl (by kernel_rfl) (by kernel_rfl) (by kernel_rfl) (by kernel_rfl) (fun _ _ _ h => h) (Or.inl ⟨by rfl, ?_⟩) ?_; rotate_left; (intro w hw; clear hw; (try go_split_ands); go_simp; try (with_reducible rfl)); simp only [Act.put, List.setIfInBounds_toArray, List.set_cons_zero, List.set_cons_succ])
              (refine Walk.take (i := 6) (oi := { dst := some 60, op := Op.load 5 (Operand.tmp 59), type := 5, pos := "law.go:30", after := #[{ on := 5, ground := Ground.data }], guard := none }) (v := ?_) rfl (by kernel_rfl) (by kernel_rfl) (by kernel_rfl) (by kernel_rfl) (fun _ _ _ h => h) (Or.inl ⟨by rfl, ?_⟩) ?_; rotate_left; (intro w hw; have hS1 := hw.1 (by kernel_rfl); clear hw; (try dsimp only at hS1); (try go_split_ands); go_simp; try (with_reducible rfl)); simp only [Act.put, List.setIfInBounds_toArray, List.set_cons_zero, List.set_cons_succ])
              (refine Walk.take (i := 7) (oi := { dst := some 61, op := Op.convert 5 3 (Operand.tmp 60), type := 3, pos := "law.go:30", after := #[{ on := 6, ground := Ground.data }], guard := none }) (v := ?_) rfl (by kernel_rfl) (by kernel_rfl) (by kernel_rfl) (by kernel_rfl) (fun _ _ _ h => h) (Or.inl ⟨by rfl, ?_⟩) ?_; rotate_left; (intro w hw; clear hw; (try go_split_ands); go_simp; try (with_reducible rfl)); simp only [Act.put, List.setIfInBounds_toArray, List.set_cons_zero, List.set_cons_succ])
              (refine Walk.take (i := 8) (oi := { dst := some 62, op := Op.binOp BinOp.add 3 (Operand.tmp 57) (Operand.tmp 61) 3, type := 3, pos := "law.go:30", after := #[{ on := 3, ground := Ground.data }, { on := 7, ground := Ground.data }], guard := none }) (v := ?_) rfl (by kernel_rfl) (by kernel_rfl) (by kernel_rfl) (by kernel_rfl) (fun _ _ _ h => h) (Or.inl ⟨by rfl, ?_⟩) ?_; rotate_left; (intro w hw; clear hw; (try go_split_ands); go_simp; try (with_reducible rfl)); simp only [Act.put, List.setIfInBounds_toArray, List.set_cons_zero, List.set_cons_succ])
              (refine Walk.take (i := 9) (oi := { dst := some 63, op := Op.convert 3 5 (Operand.tmp 62), type := 5, pos := "law.go:30", after := #[{ on := 8, ground := Ground.data }], guard := none }) (v := ?_) rfl (by kernel_rfl) (by kernel_rfl) (by kernel_rfl) (by kernel_rfl) (fun _ _ _ h => h) (Or.inl ⟨by rfl, ?_⟩) ?_; rotate_left; (intro w hw; clear hw; (try go_split_ands); go_simp; try (with_reducible rfl)); simp only [Act.put, List.setIfInBounds_toArray, List.set_cons_zero, List.set_cons_succ])
              (refine Walk.go (i := 10) (o := { dst := some 64, op := Op.buildSlice 23 1 #[(0, Operand.tmp 63)], type := 23, pos := "law.go:30", after := #[{ on := 9, ground := Ground.data }], guard := none }) (by kernel_rfl) rfl (fun K hK => ?_); refine wp_build_one Try.elemByte (.tmp 63) rfl (.int .u8 av) (by rfl) [.int .u8 av] rfl rfl (by omega) _ rfl ?_; refine hK.out _ _ ⟨fun _ => ⟨((But.refl Nowhere _).alloc _).keeps (not_nowhere _) t16, ((But.refl Nowhere _).alloc _).keeps (not_nowhere _) tz⟩, fun _ => trivial⟩ ?_; clear hK K; try simp only [Act.put, List.setIfInBounds_toArray, List.set_cons_zero, List.set_cons_succ])
              (refine Walk.go (i := 11) (o := { dst := some 65, op := Op.call { callee := Callee.builtin Builtin.append, args := #[Operand.tmp 55, Operand.tmp 64], argTypes := #[23, 23] }, type := 23, pos := "law.go:30", after := #[{ on := 1, ground := Ground.data }, { on := 10, ground := Ground.data }], guard := none }) (by kernel_rfl) rfl (fun K hK => ?_); refine wp_append_run (.tmp 55) (.tmp 64) 23 rfl _ _ rfl rfl _ W4 hrun ?_; refine hK.out _ _ ⟨fun _ => ⟨k4, hkeep ⟨vb, off, none⟩ _ HVB.out tz⟩, fun _ => trivial⟩ ?_; clear hK K; try simp only [Act.put, List.setIfInBounds_toArray, List.set_cons_zero, List.set_cons_succ])
              (refine Walk.take (i := 12) (oi := { dst := some 66, op := Op.fieldAddr 25 (Operand.tmp 3) 1, type := 0, pos := "law.go:30", after := #[{ on := 0, ground := Ground.phase }, { on := 1, ground := Ground.phase }, { on := 2, ground := Ground.phase }, { on := 3, ground := Ground.phase }, { on := 4, ground := Ground.phase }, { on := 5, ground := Ground.phase }, { on := 6, ground := Ground.phase }, { on := 7, ground := Ground.phase }, { on := 8, ground := Ground.phase }, { on := 9, ground := Ground.phase }, { on := 10, ground := Ground.phase }, { on := 11, ground := Ground.phase }], guard := none }) (v := ?_) rfl (by kernel_rfl) (by kernel_rfl) (by kernel_rfl) (by kernel_rfl) (fun _ _ _ h => h) (Or.inl ⟨by rfl, ?_⟩) ?_; rotate_left; (intro w hw; clear hw; (try go_split_ands); go_simp; try (with_reducible rfl)); simp only [Act.put, List.setIfInBounds_toArray, List.set_cons_zero, List.set_cons_succ])
              (refine Walk.go (i := 13) (o := { dst := none, op := Op.store 23 (Operand.tmp 66) (Operand.tmp 65), type := 0, pos := "law.go:30", after := #[{ on := 12, ground := Ground.data }, { on := 11, ground := Ground.data }, { on := 11, ground := Ground.chain }, { on := 0, ground := Ground.phase }, { on := 1, ground := Ground.phase }, { on := 2, ground := Ground.phase }, { on := 3, ground := Ground.phase }, { on := 4, ground := Ground.phase }, { on := 5, ground := Ground.phase }, { on := 6, ground := Ground.phase }, { on := 7, ground := Ground.phase }, { on := 8, ground := Ground.phase }, { on := 9, ground := Ground.phase }, { on := 10, ground := Ground.phase }, { on := 11, ground := Ground.phase }], guard := none }) (by kernel_rfl) rfl (fun K hK => ?_); go_simp; (skip); refine hK.out _ _ (⟨fun q => absurd q (by decide), fun _ => trivial⟩) ?_; clear hK K; try simp only [Act.put, List.setIfInBounds_toArray, List.set_cons_zero, List.set_cons_succ])
              refine Walk.done (by kernel_rfl) ?_ _
              clear hrun k4 f4 t16 tz jd r1 r2 r3 hav hkeep
              go_wp2_with fail
              go_roundw
              case rel => exact ⟨k + 1, by omega, by go_num, u' + 1, ys ++ [av], _, rfl, by have := HU.out; omega, by have := HYL.out; simp; omega, fun x hx' => by
                rcases List.mem_append.1 hx' with h1 | h1
                · exact HYB.out x h1
                · simp at h1; omega, HJ4.out⟩
              case measure => simp [intOf]; omega
            · have HJE : Hid _ := jj
              have HYL : Hid _ := hyl
              have HYB : Hid _ := hyb
              clear jj hyl hyb hu'
              go_wp2_with fail
              go_roundw
              case rel => exact ⟨n + 1, by omega, by go_num, h2, u', upd cs n N1, ys, pv', rfl, rfl, h2a, h2b, by have := HU.out; have := HLO.out; omega, HYL.out, HYB.out, fun j hj => by
                unfold upd
                split
                · exact ⟨by omega, by omega⟩
                · exact HX.out.2 j hj, HJE.out⟩
              case measure => simp [intOf]; omega
        · go_upto_region 10 with fail
          clear w1 hne hq
          have hN : 0 ≤ q / 2 ∧ q / 2 ≤ 127 := by omega
          revert hN
          generalize q / 2 = N1
          intro hN
          obtain ⟨hN0, hN1⟩ := hN
          have q0 := HJ.out.tab.cnt n hlt
          have f0 := HJ.out.tab.frozen n
          have HJN : Hid _ := HJ.out.count n hlt N1
          obtain ⟨h2, hif, h2a, h2b⟩ : ∃ h2, (if 300 < wrap64 (2 * wrap64 (2 * h - N1)) then 300 else wrap64 (2 * wrap64 (2 * h - N1))) = 2 * h2 ∧ h2 ≤ 150 ∧ -(128 * 2 ^ (n + 1)) + 128 ≤ h2 := by
            have := HLO.out
            rw [w64 (2 * h - N1) (by omega), w64 (2 * (2 * h - N1)) (by omega)]
            by_cases hm : 300 < 2 * (2 * h - N1)
            · exact ⟨150, by rw [if_pos hm]; rfl, by omega, by omega⟩
            · exact ⟨2 * h - N1, by rw [if_neg hm], by omega, by omega⟩
          have HIF : Hid _ := hif
          clear hif
          go_upto_region 12 with fail
          rw [HIF.out]
          clear HIF
          clear q0 f0 c0
          have hjn := HJN.out
          revert hjn
          generalize wr.setCell ⟨w.heap.size + 1, n, none⟩ (.int .i64 N1) = W2
          intro hjn
          clear HJN HJ
          go_wp2_with fail
          go_loopw [5, 8] (fun vv kv V => ∃ k : Nat, (k : Int) ≤ N1 ∧ kv = .int .i64 k ∧ ∃ (u' : Int) (ys : List Int) (pv' : Value), vv = .int .i64 u' ∧ u' = u + k ∧ (ys.length : Int) = u' ∧ (∀ x ∈ ys, 0 ≤ x ∧ x ≤ 255) ∧ TJ w W9 V (w.heap.size + 1) (upd cs n N1) ys pv') (fun _ kv _ => (N1 - intOf kv).toNat)
          case atStart => exact ⟨0, by omega, rfl, u, xs, pv, rfl, by simp, HXL.out, HX.out.1, hjn⟩
          case round =>
            clear hjn
            obtain ⟨k, hk, rfl, u', ys, pv', rfl, hu', hyl, hyb, jj⟩ := hrel
            have HU : Hid _ := hu'
            have hu2 : 0 ≤ u' := by omega
            have hu3 : u' ≤ 127 * 16 := by have := HLO.out.2.1; omega
            by_cases hkn : (k : Int) < N1
            · have k0 : (0 : Int) ≤ (k : Int) := by omega
              obtain ⟨P, hP⟩ : ∃ P, u' * 37 = P := ⟨_, rfl⟩
              obtain ⟨Q, hQ⟩ : ∃ Q, P + z = Q := ⟨_, rfl⟩
              obtain ⟨av, hav⟩ : ∃ a, IntKind.u8.wrap Q = a := ⟨_, rfl⟩
              have hab : 0 ≤ av ∧ av ≤ 255 := by rw [← hav, IntKind.wrap_u8]; omega
              have r1 : IntKind.i64.wrap (u' * 37) = P := by rw [hP, wrap_i64_eq]; exact w64 _ (by omega)
              have r2 : IntKind.i64.wrap z = z := by rw [wrap_i64_eq]; exact w64 _ (by omega)
              have r3 : IntKind.i64.wrap (P + z) = Q := by rw [hQ, wrap_i64_eq]; exact w64 _ (by omega)
              have jd := jj.step (But.refl Nowhere _).drew
              have t16 := jd.tab.vals
              have tz := jd.lst.but.keeps (not_nowhere _) HCZ.out
              obtain ⟨g, cap, W4, hrun, k4, f4, J4, hkeep⟩ := jd.push av (by omega) _ rfl
              have HJ4 : Hid _ := J4
              have HYL : Hid _ := hyl
              have HYB : Hid _ := hyb
              clear hP hQ J4 jj hyl hyb hu'
              go_wp2_with fail
              refine wp_region_till (S := fun V => V.cell? ⟨w.heap.size + 1, 16, none⟩ = some pv' ∧ V.cell? ⟨vb, off, none⟩ = some (.int .u8 z)) (R := fun _ => True) (k := 13) (m := 100) (by kernel_rfl) ⟨t16, tz⟩ trivial ?_
              (refine Walk.take (i := 0) (oi := { dst := some 54, op := Op.fieldAddr 25 (Operand.tmp 3) 1, type := 0, pos := "law.go:30", after := #[], guard := none }) (v := ?_) rfl (by kernel_rfl) (by kernel_rfl) (by kernel_rfl) (by kernel_rfl) (fun _ _ _ h => h) (Or.inl ⟨by rfl, ?_⟩) ?_; rotate_left; (intro w hw; clear hw; (try go_split_ands); go_simp; try (with_reducible rfl)); simp only [Act.put, List.setIfInBounds_toArray, List.set_cons_zero, List.set_cons_succ])
              (refine Walk.take (i := 1) (oi := { dst := some 55, op := Op.load 23 (Operand.tmp 54), type := 23, pos := "law.go:30", after := #[{ on := 0, ground := Ground.data }], guard := none }) (v := ?_) rfl (by kernel_rfl) (by kernel_rfl) (by kernel_rfl) (by kernel_rfl) (fun _ _ _ h => h) (Or.inl ⟨by rfl, ?_⟩) ?_; rotate_left; (intro w hw; have hS1 := hw.1 (by kernel_rfl); clear hw; (try dsimp only at hS1); (try go_split_ands); go_simp; try (with_reducible rfl)); simp only [Act.put, List.setIfInBounds_toArray, List.set_cons_zero, List.set_cons_succ])
              (refine Walk.take (i := 2) (oi := { dst := some 56, op := Op.move (Operand.tmp 5), type := 3, pos := "law.go:30", after := #[], guard := none }) (v := ?_) rfl (by kernel_rfl) (by kernel_rfl) (by kernel_rfl) (by kernel_rfl) (fun _ _ _ h => h) (Or.inl ⟨by rfl, ?_⟩) ?_; rotate_left; (intro w hw; clear hw; (try go_split_ands); go_simp; try (with_reducible rfl)); simp only [Act.put, List.setIfInBounds_toArray, List.set_cons_zero, List.set_cons_succ])
              (refine Walk.take (i := 3) (oi := { dst := some 57, op := Op.binOp BinOp.mul 3 (Operand.tmp 56) (Operand.const (Value.int IntKind.i64 37)) 3, type := 3, pos := "law.go:30", after := #[{ on := 2, ground := Ground.data }], guard := none }) (v := ?_) rfl (by kernel_rfl) (by kernel_rfl) (by kernel_rfl) (by kernel_rfl) (fun _ _ _ h => h) (Or.inl ⟨by rfl, ?_⟩) ?_; rotate_left; (intro w hw; clear hw; (try go_split_ands); go_simp; try (with_reducible rfl)); simp only [Act.put, List.setIfInBounds_toArray, List.set_cons_zero, List.set_cons_succ])
              (refine Walk.take (i := 4) (oi := { dst := some 58, op := Op.move (Operand.tmp 0), type := 23, pos := "law.go:30", after := #[], guard := none }) (v := ?_) rfl (by kernel_rfl) (by kernel_rfl) (by kernel_rfl) (by kernel_rfl) (fun _ _ _ h => h) (Or.inl ⟨by rfl, ?_⟩) ?_; rotate_left; (intro w hw; clear hw; (try go_split_ands); go_simp; try (with_reducible rfl)); simp only [Act.put, List.setIfInBounds_toArray, List.set_cons_zero, List.set_cons_succ])
              (refine Walk.take (i := 5) (oi := { dst := some 59, op := Op.indexAddr 23 (Operand.tmp 58) (Operand.const (Value.int IntKind.i64 0)), type := 0, pos := "law.go:30", after := #[{ on := 4, ground := Ground.data }], guard := none }) (v := ?_) rfl (by kernel_rfl) (by kernel_rfl) (by kernel_rfl) (by kernel_rfl) (fun _ _ _ h => h) (Or.inl ⟨by rfl, ?_⟩) ?_; rotate_left; (intro w hw; clear hw; (try go_split_ands); go_simp; try (with_reducible rfl)); simp only [Act.put, List.setIfInBounds_toArray, List.set_cons_zero, List.set_cons_succ])
              (refine Walk.take (i := 6) (oi := { dst := some 60, op := Op.load 5 (Operand.tmp 59), type := 5, pos := "law.go:30", after := #[{ on := 5, ground := Ground.data }], guard := none }) (v := ?_) rfl (by kernel_rfl) (by kernel_rfl) (by kernel_rfl) (by kernel_rfl) (fun _ _ _ h => h) (Or.inl ⟨by rfl, ?_⟩) ?_; rotate_left; (intro w hw; have hS1 := hw.1 (by kernel_rfl); clear hw; (try dsimp only at hS1); (try go_split_ands); go_simp; try (with_reducible rfl)); simp only [Act.put, List.setIfInBounds_toArray, List.set_cons_zero, List.set_cons_succ])
              (refine Walk.take (i := 7) (oi := { dst := some 61, op := Op.convert 5 3 (Operand.tmp 60), type := 3, pos := "law.go:30", after := #[{ on := 6, ground := Ground.data }], guard := none }) (v := ?_) rfl (by kernel_rfl) (by kernel_rfl) (by kernel_rfl) (by kernel_rfl) (fun _ _ _ h => h) (Or.inl ⟨by rfl, ?_⟩) ?_; rotate_left; (intro w hw; clear hw; (try go_split_ands); go_simp; try (with_reducible rfl)); simp only [Act.put, List.setIfInBounds_toArray, List.set_cons_zero, List.set_cons_succ])
              (refine Walk.take (i := 8) (oi := { dst := some 62, op := Op.binOp BinOp.add 3 (Operand.tmp 57) (Operand.tmp 61) 3, type := 3, pos := "law.go:30", after := #[{ on := 3, ground := Ground.data }, { on := 7, ground := Ground.data }], guard := none }) (v := ?_) rfl (by kernel_rfl) (by kernel_rfl) (by kernel_rfl) (by kernel_rfl) (fun _ _ _ h => h) (Or.inl ⟨by rfl, ?_⟩) ?_; rotate_left; (intro w hw; clear hw; (try go_split_ands); go_simp; try (with_reducible rfl)); simp only [Act.put, List.setIfInBounds_toArray, List.set_cons_zero, List.set_cons_succ])
              (refine Walk.take (i := 9) (oi := { dst := some 63, op := Op.convert 3 5 (Operand.tmp 62), type := 5, pos := "law.go:30", after := #[{ on := 8, ground := Ground.data }], guard := none }) (v := ?_) rfl (by kernel_rfl) (by kernel_rfl) (by kernel_rfl) (by kernel_rfl) (fun _ _ _ h => h) (Or.inl ⟨by rfl, ?_⟩) ?_; rotate_left; (intro w hw; clear hw; (try go_split_ands); go_simp; try (with_reducible rfl)); simp only [Act.put, List.setIfInBounds_toArray, List.set_cons_zero, List.set_cons_succ])
              (refine Walk.go (i := 10) (o := { dst := some 64, op := Op.buildSlice 23 1 #[(0, Operand.tmp 63)], type := 23, pos := "law.go:30", after := #[{ on := 9, ground := Ground.data }], guard := none }) (by kernel_rfl) rfl (fun K hK => ?_); refine wp_build_one Try.elemByte (.tmp 63) rfl (.int .u8 av) (by rfl) [.int .u8 av] rfl rfl (by omega) _ rfl ?_; refine hK.out _ _ ⟨fun _ => ⟨((But.refl Nowhere _).alloc _).keeps (not_nowhere _) t16, ((But.refl Nowhere _).alloc _).keeps (not_nowhere _) tz⟩, fun _ => trivial⟩ ?_; clear hK K; try simp only [Act.put, List.setIfInBounds_toArray, List.set_cons_zero, List.set_cons_succ])
              (refine Walk.go (i := 11) (o := { dst := some 65, op := Op.call { callee := Callee.builtin Builtin.append, args := #[Operand.tmp 55, Operand.tmp 64], argTypes := #[23, 23] }, type := 23, pos := "law.go:30", after := #[{ on := 1, ground := Ground.data }, { on := 10, ground := Ground.data }], guard := none }) (by kernel_rfl) rfl (fun K hK => ?_); refine wp_append_run (.tmp 55) (.tmp 64) 23 rfl _ _ rfl rfl _ W4 hrun ?_; refine hK.out _ _ ⟨fun _ => ⟨k4, hkeep ⟨vb, off, none⟩ _ HVB.out tz⟩, fun _ => trivial⟩ ?_; clear hK K; try simp only [Act.put, List.setIfInBounds_toArray, List.set_cons_zero, List.set_cons_succ])
              (refine Walk.take (i := 12) (oi := { dst := some 66, op := Op.fieldAddr 25 (Operand.tmp 3) 1, type := 0, pos := "law.go:30", after := #[{ on := 0, ground := Ground.phase }, { on := 1, ground := Ground.phase }, { on := 2, ground := Ground.phase }, { on := 3, ground := Ground.phase }, { on := 4, ground := Ground.phase }, { on := 5, ground := Ground.phase }, { on := 6, ground := Ground.phase }, { on := 7, ground := Ground.phase }, { on := 8, ground := Ground.phase }, { on := 9, ground := Ground.phase }, { on := 10, ground := Ground.phase }, { on := 11, ground := Ground.phase }], guard := none }) (v := ?_) rfl (by kernel_rfl) (by kernel_rfl) (by kernel_rfl) (by kernel_rfl) (fun _ _ _ h => h) (Or.inl ⟨by rfl, ?_⟩) ?_; rotate_left; (intro w hw; clear hw; (try go_split_ands); go_simp; try (with_reducible rfl)); simp only [Act.put, List.setIfInBounds_toArray, List.set_cons_zero, List.set_cons_succ])
              (refine Walk.go (i := 13) (o := { dst := none, op := Op.store 23 (Operand.tmp 66) (Operand.tmp 65), type := 0, pos := "law.go:30", after := #[{ on := 12, ground := Ground.data }, { on := 11, ground := Ground.data }, { on := 11, ground := Ground.chain }, { on := 0, ground := Ground.phase }, { on := 1, ground := Ground.phase }, { on := 2, ground := Ground.phase }, { on := 3, ground := Ground.phase }, { on := 4, ground := Ground.phase }, { on := 5, ground := Ground.phase }, { on := 6, ground := Ground.phase }, { on := 7, ground := Ground.phase }, { on := 8, ground := Ground.phase }, { on := 9, ground := Ground.phase }, { on := 10, ground := Ground.phase }, { on := 11, ground := Ground.phase }], guard := none }) (by kernel_rfl) rfl (fun K hK => ?_); go_simp; (skip); refine hK.out _ _ (⟨fun q => absurd q (by decide), fun _ => trivial⟩) ?_; clear hK K; try simp only [Act.put, List.setIfInBounds_toArray, List.set_cons_zero, List.set_cons_succ])
              refine Walk.done (by kernel_rfl) ?_ _
              clear hrun k4 f4 t16 tz jd r1 r2 r3 hav hkeep
              go_wp2_with fail
              go_roundw
              case rel => exact ⟨k + 1, by omega, by go_num, u' + 1, ys ++ [av], _, rfl, by have := HU.out; omega, by have := HYL.out; simp; omega, fun x hx' => by
                rcases List.mem_append.1 hx' with h1 | h1
                · exact HYB.out x h1
                · simp at h1; omega, HJ4.out⟩
              case measure => simp [intOf]; omega
            · have HJE : Hid _ := jj
              have HYL : Hid _ := hyl
              have HYB : Hid _ := hyb
              clear jj hyl hyb hu'
              go_wp2_with fail
              go_roundw
              case rel => exact ⟨n + 1, by omega, by go_num, h2, u', upd cs n N1, ys, pv', rfl, rfl, h2a, h2b, by have := HU.out; have := HLO.out; omega, HYL.out, HYB.out, fun j hj => by
                unfold upd
                split
                · exact ⟨by omega, by omega⟩
                · exact HX.out.2 j hj, HJE.out⟩
              case measure => simp [intOf]; omega
      · have hu2 : u ≤ 2032 := by omega
        obtain ⟨po, pc, rfl⟩ := jj.lst.slice
        have t16 := jj.tab.vals
        have hTab := jj.tab
        have hS0 := Cells.but H0.out.1 jj.but (show ¬ (w.heap.size = w.heap.size + 1) by omega)
        have hBw := jj.lst.but
        have hVw : View wr .u8 (.slice po xs.length pc) xs := View.of_owns jj.lst.own
        have hoff : ∀ b off sp, po = some ⟨b, off, sp⟩ → xs.length ≠ 0 → b ≠ w.heap.size := fun b off sp e _ => by
          have h1 := jj.new b (by rw [e]; rfl)
          have := H0.out.2.1
          omega
        have HJ : Hid _ := jj
        have HXB : Hid _ := hxb
        have HCS : Hid _ := hcs
        clear jj hxb hcs hlo hps hpw hp1
        have a1 : ¬ (16 : Int) < (l.length : Int) := by omega
        have hr := hTab.all
        have hal2 : (tbl cs (.slice po xs.length pc)).toArray.all (·.oneCell') = true := tbl_all _ _ _ _
        have hi2 : (Try.prog.info? 25).map (·.size) = some (tbl cs (.slice po xs.length pc)).toArray.size := by rw [List.size_toArray, tbl_length]; kernel_rfl
        obtain ⟨hth, hF, hVf, hBf⟩ := table_end (cs := cs) hS0 hVw hBw hoff
        have HF : Hid _ := And.intro hF (And.intro hVf hBf)
        clear hF hVf hBf hS0 hVw hBw hoff hTab
        go_wp2_with (first | (refine wpList_load_mid rfl 25 (.tmp 3) rfl (w.heap.size + 1) 0 rfl (tbl cs (.slice po xs.length pc)) _ ?_ hu rfl (hiA _ _) ?_; exact hr) | (refine wpList_store_mid rfl 25 (.tmp 2) (.tmp 91) rfl w.heap.size 0 (tbl cs (.slice po xs.length pc)).toArray rfl rfl ?_ hi2 hal2 ?_; exact hth))
        have hlen : (xs).length ≤ 4096 := by first | omega | (simp; done) | (simp; omega)
        first
          | exact bodyPost_ret (results_cells rfl HF.out.1 hu rfl (hiA _ _) _ rfl) rfl ⟨cs, _, xs, rfl, HF.out.2.1, HXB.out, HCS.out, hlen, HF.out.2.2⟩
          | exact bodyPost_ret (results_cells rfl HF.out.1 hu rfl (hiA _ _) _ rfl) rfl ⟨cs, _, rfl, xs, HF.out.2.1, HXB.out, HCS.out, hlen, HF.out.2.2⟩
    · obtain rfl : n = 16 := by omega
      have hu2 : u ≤ 2032 := by omega
      obtain ⟨po, pc, rfl⟩ := jj.lst.slice
      have t16 := jj.tab.vals
      have hTab := jj.tab
      have hS0 := Cells.but H0.out.1 jj.but (show ¬ (w.heap.size = w.heap.size + 1) by omega)
      have hBw := jj.lst.but
      have hVw : View wr .u8 (.slice po xs.length pc) xs := View.of_owns jj.lst.own
      have hoff : ∀ b off sp, po = some ⟨b, off, sp⟩ → xs.length ≠ 0 → b ≠ w.heap.size := fun b off sp e _ => by
        have h1 := jj.new b (by rw [e]; rfl)
        have := H0.out.2.1
        omega
      have HJ : Hid _ := jj
      have HXB : Hid _ := hxb
      have HCS : Hid _ := hcs
      clear jj hxb hcs hlo hps hpw hp1
      by_cases ha : 16 < l.length
      · have a1 : (16 : Int) < (l.length : Int) := by omega
        obtain ⟨-, vb, off, hao, -, c0⟩ := HV.out.at 16 ha
        subst hao
        replace c0 := hBw.keeps (not_nowhere _) c0
        generalize l[16] = y at *
        by_cases hb : 230 < y
        · by_cases hd : 1 < xs.length
          · have d1 : (1 : Int) < (xs.length : Int) := by omega
            have d0 : (0 : Int) < (xs.length : Int) := by omega
            have d00 : 0 < xs.length := by omega
            obtain ⟨g, cap', hpv, hg1, hg2, hcap, hcell, hfro⟩ := HJ.out.lst.at (show 0 < xs.length by omega)
            simp only [Value.slice.injEq] at hpv
            obtain ⟨rfl, -, rfl⟩ := hpv
            have hgw : W9.heap.size ≤ g := HJ.out.new g rfl
            have hgn := HJ.out.nb
            have e0 := hcell 0 _ (ints_at .u8 xs 0 (by omega))
            have e1 := hcell 1 _ (ints_at .u8 xs 1 (by omega))
            have f0 := hfro 0
            have hxb1 := HXB.out _ (List.getElem_mem (show 1 < xs.length by omega))
            obtain ⟨X1, hX1⟩ : ∃ x, xs[1]'(by omega) = x := ⟨_, rfl⟩
            obtain ⟨X0, hX0⟩ : ∃ x, xs[0]'(by omega) = x := ⟨_, rfl⟩
            rw [hX1] at e1 hxb1
            rw [hX0] at e0
            have hV2 : View (wr.drew.setCell ⟨g, 0, none⟩ (.int .u8 X1)) .u8 (.slice (some ⟨g, 0, none⟩) xs.length pc) (xs.set 0 X1) := by
              refine ⟨some ⟨g, 0, none⟩, pc, by simp, fun _ => ⟨g, 0, rfl, ?_, fun i hi => ?_⟩⟩
              · rw [World.size_setCell]; exact hg1
              · have hi' : i < xs.length := by simpa using hi
                rw [Nat.zero_add]
                by_cases h0 : i = 0
                · subst h0
                  rw [List.getElem_set_self]
                  exact cell_set (show wr.drew.cell? ⟨g, 0, none⟩ = some (.int .u8 X0) from e0)
                · have hne : (⟨g, 0, none⟩ : Addr) ≠ ⟨g, i, none⟩ := by intro e; simp only [Addr.mk.injEq] at e; omega
                  have hoth := World.cell?_setCell_other (w := wr.drew) (a := ⟨g, 0, none⟩) (b := ⟨g, i, none⟩) (v := .int .u8 X1) hne
                  rw [hoth, List.getElem_set_ne (by omega)]
                  exact hcell i _ (ints_at .u8 xs i hi')
            have hb2 : But (fun x => x = g) wr (wr.drew.setCell ⟨g, 0, none⟩ (.int .u8 X1)) := But.setCell (S := fun x => x = g) (p := ⟨g, 0, none⟩) ((But.refl _ _).drew) (fun _ => rfl) _
            have h10 := H0.out.2.1
            have hTab2 := Cells.but hTab hb2 (show ¬ (w.heap.size + 1 = g) by omega)
            have hS2 := Cells.but hS0 hb2 (show ¬ (w.heap.size = g) by omega)
            have hBw2 : But Nowhere w (wr.drew.setCell ⟨g, 0, none⟩ (.int .u8 X1)) := hBw.drew.setCell (fun q => by exfalso; simp at q; omega) _
            have hyb2 : ∀ x ∈ xs.set 0 X1, 0 ≤ x ∧ x ≤ 255 := fun x hx' => by
              rcases List.mem_or_eq_of_mem_set hx' with h1 | h1
              · exact HXB.out x h1
              · rw [h1]; exact hxb1
            have HYB : Hid _ := hyb2
            have H9 : Hid _ := And.intro hTab2 (And.intro hS2 (And.intro hBw2 hV2))
            have HOF : Hid _ := hoff
            clear hTab hS0 hBw hVw hoff hV2 hb2 hTab2 hS2 hBw2 hyb2 hcell hfro hX1 hX0 hxb1
            go_wp2_with fail
            have d00 : 0 < u := by omega
            have d01 : 1 < u := by omega
            refine wp_region_till (S := fun V => V.cell? ⟨w.heap.size + 1, 16, none⟩ = some (.slice (some ⟨g, 0, none⟩) xs.length pc) ∧ V.cell? ⟨g, 1, none⟩ = some (.int .u8 X1)) (R := fun _ => True) (k := 7) (m := 100) (by kernel_rfl) ⟨t16, e1⟩ trivial ?_
            (refine Walk.take (i := 0) (oi := { dst := some 84, op := Op.fieldAddr 25 (Operand.tmp 3) 1, type := 0, pos := "law.go:35", after := #[], guard := none }) (v := ?_) rfl (by kernel_rfl) (by kernel_rfl) (by kernel_rfl) (by kernel_rfl) (fun _ _ _ h => h) (Or.inl ⟨by rfl, ?_⟩) ?_; rotate_left; (intro w hw; clear hw; (try go_split_ands); go_simp; try (with_reducible rfl)); simp only [Act.put, List.setIfInBounds_toArray, List.set_cons_zero, List.set_cons_succ])
            (refine Walk.take (i := 1) (oi := { dst := some 85, op := Op.load 23 (Operand.tmp 84), type := 23, pos := "law.go:35", after := #[{ on := 0, ground := Ground.data }], guard := none }) (v := ?_) rfl (by kernel_rfl) (by kernel_rfl) (by kernel_rfl) (by kernel_rfl) (fun _ _ _ h => h) (Or.inl ⟨by rfl, ?_⟩) ?_; rotate_left; (intro w hw; have hS1 := hw.1 (by kernel_rfl); clear hw; (try dsimp only at hS1); (try go_split_ands); go_simp; try (with_reducible rfl)); simp only [Act.put, List.setIfInBounds_toArray, List.set_cons_zero, List.set_cons_succ])
            (refine Walk.take (i := 2) (oi := { dst := some 86, op := Op.fieldAddr 25 (Operand.tmp 3) 1, type := 0, pos := "law.go:35", after := #[], guard := none }) (v := ?_) rfl (by kernel_rfl) (by kernel_rfl) (by kernel_rfl) (by kernel_rfl) (fun _ _ _ h => h) (Or.inl ⟨by rfl, ?_⟩) ?_; rotate_left; (intro w hw; clear hw; (try go_split_ands); go_simp; try (with_reducible rfl)); simp only [Act.put, List.setIfInBounds_toArray, List.set_cons_zero, List.set_cons_succ])
            (refine Walk.take (i := 3) (oi := { dst := some 87, op := Op.load 23 (Operand.tmp 86), type := 23, pos := "law.go:35", after := #[{ on := 2, ground := Ground.data }], guard := none }) (v := ?_) rfl (by kernel_rfl) (by kernel_rfl) (by kernel_rfl) (by kernel_rfl) (fun _ _ _ h => h) (Or.inl ⟨by rfl, ?_⟩) ?_; rotate_left; (intro w hw; have hS1 := hw.1 (by kernel_rfl); clear hw; (try dsimp only at hS1); (try go_split_ands); go_simp; try (with_reducible rfl)); simp only [Act.put, List.setIfInBounds_toArray, List.set_cons_zero, List.set_cons_succ])
            (refine Walk.take (i := 4) (oi := { dst := some 88, op := Op.indexAddr 23 (Operand.tmp 87) (Operand.const (Value.int IntKind.i64 1)), type := 0, pos := "law.go:35", after := #[{ on := 3, ground := Ground.data }], guard := none }) (v := ?_) rfl (by kernel_rfl) (by kernel_rfl) (by kernel_rfl) (by kernel_rfl) (fun _ _ _ h => h) (Or.inl ⟨by rfl, ?_⟩) ?_; rotate_left; (intro w hw; clear hw; (try go_split_ands); go_simp; try (with_reducible rfl)); simp only [Act.put, List.setIfInBounds_toArray, List.set_cons_zero, List.set_cons_succ])
            (refine Walk.take (i := 5) (oi := { dst := some 89, op := Op.load 5 (Operand.tmp 88), type := 5, pos := "law.go:35", after := #[{ on := 4, ground := Ground.data }], guard := none }) (v := ?_) rfl (by kernel_rfl) (by kernel_rfl) (by kernel_rfl) (by kernel_rfl) (fun _ _ _ h => h) (Or.inl ⟨by rfl, ?_⟩) ?_; rotate_left; (intro w hw; have hS1 := hw.1 (by kernel_rfl); clear hw; (try dsimp only at hS1); (try go_split_ands); go_simp; try (with_reducible rfl)); simp only [Act.put, List.setIfInBounds_toArray, List.set_cons_zero, List.set_cons_succ])
            (refine Walk.take (i := 6) (oi := { dst := some 90, op := Op.indexAddr 23 (Operand.tmp 85) (Operand.const (Value.int IntKind.i64 0)), type := 0, pos := "law.go:35", after := #[{ on := 1, ground := Ground.data }, { on := 0, ground := Ground.phase }, { on := 1, ground := Ground.phase }, { on := 2, ground := Ground.phase }, { on := 3, ground := Ground.phase }, { on := 4, ground := Ground.phase }, { on := 5, ground := Ground.phase }], guard := none }) (v := ?_) rfl (by kernel_rfl) (by kernel_rfl) (by kernel_rfl) (by kernel_rfl) (fun _ _ _ h => h) (Or.inl ⟨by rfl, ?_⟩) ?_; rotate_left; (intro w hw; clear hw; (try go_split_ands); go_simp; try (with_reducible rfl)); simp only [Act.put, List.setIfInBounds_toArray, List.set_cons_zero, List.set_cons_succ])
            (refine Walk.go (i := 7) (o := { dst := none, op := Op.store 5 (Operand.tmp 90) (Operand.tmp 89), type := 0, pos := "law.go:35", after := #[{ on := 6, ground := Ground.data }, { on := 5, ground := Ground.data }, { on := 0, ground := Ground.phase }, { on := 1, ground := Ground.phase }, { on := 2, ground := Ground.phase }, { on := 3, ground := Ground.phase }, { on := 4, ground := Ground.phase }, { on := 5, ground := Ground.phase }], guard := none }) (by kernel_rfl) rfl (fun K hK => ?_); go_simp; (skip); refine hK.out _ _ (⟨fun q => absurd q (by decide), fun _ => trivial⟩) ?_; clear hK K; try simp only [Act.put, List.setIfInBounds_toArray, List.set_cons_zero, List.set_cons_succ])
            refine Walk.done (by kernel_rfl) ?_ _
            have hTab := H9.out.1
            have hS0 := H9.out.2.1
            have hBw := H9.out.2.2.1
            have hVw := H9.out.2.2.2
            have hoff := HOF.out
            clear t16 e1 e0 f0 c0
            have hr := hTab.all
            have hal2 : (tbl cs (.slice (some ⟨g, 0, none⟩) xs.length pc)).toArray.all (·.oneCell') = true := tbl_all _ _ _ _
            have hi2 : (Try.prog.info? 25).map (·.size) = some (tbl cs (.slice (some ⟨g, 0, none⟩) xs.length pc)).toArray.size := by rw [List.size_toArray, tbl_length]; kernel_rfl
            obtain ⟨hth, hF, hVf, hBf⟩ := table_end (cs := cs) hS0 hVw hBw hoff
            have HF : Hid _ := And.intro hF (And.intro hVf hBf)
            clear hF hVf hBf hS0 hVw hBw hoff hTab
            go_wp2_with (first | (refine wpList_load_mid rfl 25 (.tmp 3) rfl (w.heap.size + 1) 0 rfl (tbl cs (.slice (some ⟨g, 0, none⟩) xs.length pc)) _ ?_ hu rfl (hiA _ _) ?_; exact hr) | (refine wpList_store_mid rfl 25 (.tmp 2) (.tmp 91) rfl w.heap.size 0 (tbl cs (.slice (some ⟨g, 0, none⟩) xs.length pc)).toArray rfl rfl ?_ hi2 hal2 ?_; exact hth))
            have hlen : (xs.set 0 X1).length ≤ 4096 := by first | omega | (simp; done) | (simp; omega)
            first
              | exact bodyPost_ret (results_cells rfl HF.out.1 hu rfl (hiA _ _) _ rfl) rfl ⟨cs, _, xs.set 0 X1, rfl, HF.out.2.1, HYB.out, HCS.out, hlen, HF.out.2.2⟩
              | exact bodyPost_ret (results_cells rfl HF.out.1 hu rfl (hiA _ _) _ rfl) rfl ⟨cs, _, rfl, xs.set 0 X1, HF.out.2.1, HYB.out, HCS.out, hlen, HF.out.2.2⟩
          · have d1 : ¬ (1 : Int) < (xs.length : Int) := by omega
            have hr := hTab.all
            have hal2 : (tbl cs (.slice po xs.length pc)).toArray.all (·.oneCell') = true := tbl_all _ _ _ _
            have hi2 : (Try.prog.info? 25).map (·.size) = some (tbl cs (.slice po xs.length pc)).toArray.size := by rw [List.size_toArray, tbl_length]; kernel_rfl
            obtain ⟨hth, hF, hVf, hBf⟩ := table_end (cs := cs) hS0 hVw hBw hoff
            have HF : Hid _ := And.intro hF (And.intro hVf hBf)
            clear hF hVf hBf hS0 hVw hBw hoff hTab
            go_wp2_with (first | (refine wpList_load_mid rfl 25 (.tmp 3) rfl (w.heap.size + 1) 0 rfl (tbl cs (.slice po xs.length pc)) _ ?_ hu rfl (hiA _ _) ?_; exact hr) | (refine wpList_store_mid rfl 25 (.tmp 2) (.tmp 91) rfl w.heap.size 0 (tbl cs (.slice po xs.length pc)).toArray rfl rfl ?_ hi2 hal2 ?_; exact hth))
            have hlen : (xs).length ≤ 4096 := by first | omega | (simp; done) | (simp; omega)
            first
              | exact bodyPost_ret (results_cells rfl HF.out.1 hu rfl (hiA _ _) _ rfl) rfl ⟨cs, _, xs, rfl, HF.out.2.1, HXB.out, HCS.out, hlen, HF.out.2.2⟩
              | exact bodyPost_ret (results_cells rfl HF.out.1 hu rfl (hiA _ _) _ rfl) rfl ⟨cs, _, rfl, xs, HF.out.2.1, HXB.out, HCS.out, hlen, HF.out.2.2⟩
        · skip
          have hr := hTab.all
          have hal2 : (tbl cs (.slice po xs.length pc)).toArray.all (·.oneCell') = true := tbl_all _ _ _ _
          have hi2 : (Try.prog.info? 25).map (·.size) = some (tbl cs (.slice po xs.length pc)).toArray.size := by rw [List.size_toArray, tbl_length]; kernel_rfl
          obtain ⟨hth, hF, hVf, hBf⟩ := table_end (cs := cs) hS0 hVw hBw hoff
          have HF : Hid _ := And.intro hF (And.intro hVf hBf)
          clear hF hVf hBf hS0 hVw hBw hoff hTab
          go_wp2_with (first | (refine wpList_load_mid rfl 25 (.tmp 3) rfl (w.heap.size + 1) 0 rfl (tbl cs (.slice po xs.length pc)) _ ?_ hu rfl (hiA _ _) ?_; exact hr) | (refine wpList_store_mid rfl 25 (.tmp 2) (.tmp 91) rfl w.heap.size 0 (tbl cs (.slice po xs.length pc)).toArray rfl rfl ?_ hi2 hal2 ?_; exact hth))
          have hlen : (xs).length ≤ 4096 := by first | omega | (simp; done) | (simp; omega)
          first
            | exact bodyPost_ret (results_cells rfl HF.out.1 hu rfl (hiA _ _) _ rfl) rfl ⟨cs, _, xs, rfl, HF.out.2.1, HXB.out, HCS.out, hlen, HF.out.2.2⟩
            | exact bodyPost_ret (results_cells rfl HF.out.1 hu rfl (hiA _ _) _ rfl) rfl ⟨cs, _, rfl, xs, HF.out.2.1, HXB.out, HCS.out, hlen, HF.out.2.2⟩
      · have a1 : ¬ (16 : Int) < (l.length : Int) := by omega
        have hr := hTab.all
        have hal2 : (tbl cs (.slice po xs.length pc)).toArray.all (·.oneCell') = true := tbl_all _ _ _ _
        have hi2 : (Try.prog.info? 25).map (·.size) = some (tbl cs (.slice po xs.length pc)).toArray.size := by rw [List.size_toArray, tbl_length]; kernel_rfl
        obtain ⟨hth, hF, hVf, hBf⟩ := table_end (cs := cs) hS0 hVw hBw hoff
        have HF : Hid _ := And.intro hF (And.intro hVf hBf)
        clear hF hVf hBf hS0 hVw hBw hoff hTab
        go_wp2_with (first | (refine wpList_load_mid rfl 25 (.tmp 3) rfl (w.heap.size + 1) 0 rfl (tbl cs (.slice po xs.length pc)) _ ?_ hu rfl (hiA _ _) ?_; exact hr) | (refine wpList_store_mid rfl 25 (.tmp 2) (.tmp 91) rfl w.heap.size 0 (tbl cs (.slice po xs.length pc)).toArray rfl rfl ?_ hi2 hal2 ?_; exact hth))
        have hlen : (xs).length ≤ 4096 := by first | omega | (simp; done) | (simp; omega)
        first
          | exact bodyPost_ret (results_cells rfl HF.out.1 hu rfl (hiA _ _) _ rfl) rfl ⟨cs, _, xs, rfl, HF.out.2.1, HXB.out, HCS.out, hlen, HF.out.2.2⟩
          | exact bodyPost_ret (results_cells rfl HF.out.1 hu rfl (hiA _ _) _ rfl) rfl ⟨cs, _, rfl, xs, HF.out.2.1, HXB.out, HCS.out, hlen, HF.out.2.2⟩

end Go.Proofs.Ytadcfndjbhcfbaa
