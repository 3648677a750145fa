/- The document's Best of layer 11. -/
import Derived.Test.YtlpeplihbdcklaaOp5
import Derived.Test.YtlpeplihbdcklaaHu5
namespace Go.Proofs.Ytlpeplihbdcklaa
set_option linter.unusedVariables false
open Go.ChangeShapes Go.WideShapes Go.ChangeAt Go.RowKit

theorem make260 (W : World) : (Instr.makeSlice 22 (.int .i64 260) (.int .i64 260)).run Try.prog W = .ok (.slice (some ⟨W.heap.size, 0, none⟩) 260 260) (W.alloc (.cells (tab .i64 260 (fun _ => 0)).toArray 3)) := by
  rw [← tab_zero]
  exact make_any Try.elemI 260 (.int .i64 0) (by intro j hj; have : j = 0 := (by omega); subst this; rfl) (by omega) (by omega) W

theorem cnt_set {z : Nat → Nat} {k : Nat} (h : 0 < z k) : upd (cntF z k) (z k) (cntF z k (z k) + 1) = cntF z (k + 1) := by
  funext s
  unfold upd
  show _ = cntF z k s + (if 0 < z k ∧ z k = s then 1 else 0)
  by_cases e : s = z k
  · subst e; rw [if_pos rfl, if_pos ⟨h, rfl⟩]
  · rw [if_neg e, if_neg (fun q => e q.2.symm)]; omega

theorem cnt_same {z : Nat → Nat} {k : Nat} (h : ¬ 0 < z k) : cntF z k = cntF z (k + 1) := by
  funext s
  show _ = cntF z k s + (if 0 < z k ∧ z k = s then 1 else 0)
  rw [if_neg (fun q => h q.1)]; omega

theorem cntF_le (z : Nat → Nat) : ∀ k s, cntF z k s ≤ k
  | 0, s => by show (0 : Int) ≤ _; omega
  | k + 1, s => by
    have := cntF_le z k s
    show cntF z k s + (if 0 < z k ∧ z k = s then 1 else 0) ≤ _
    split <;> omega

/-- The counts may be made shorter. -/
theorem cnt_gd {W : Nat → Int} (h : Wt W) : Gd (cntF (szF W) 257) 259 := by
  by_cases hx : ∃ v, v < 256 ∧ 0 < W v
  · obtain ⟨v, hv, hw⟩ := hx
    exact .inl ⟨_, (many_le _ _).2, full_start h hv hw⟩
  · have hz := size_all_none h (fun v hv hw => hx ⟨v, hv, hw⟩)
    exact .inr (fun s => sm_zero (fun i hi => by rw [hz i hi, if_neg (by omega)]))

theorem cut_bd {f : Nat → Int} (h : Gd f 259) (s : Nat) (hs : s < 260) : 0 ≤ cutAll 243 f s ∧ cutAll 243 f s ≤ 257 := by
  rcases h with ⟨T, hT, hf⟩ | h
  · exact Gd.bd (.inl ⟨T, hT, Full.cutAll hT 243 hf (by omega)⟩) s hs
  · rw [cutAll_none 243 f (fun s _ _ => by rw [h s]; exact Int.le_refl _), h s]; omega

theorem TJ.congr {w w9 V : World} {NB : Nat} {cs cs' : Nat → Int} {xs : List Int} {pv : Value} (h : TJ w w9 V NB cs xs pv) (e : ∀ n, n < 16 → cs n = cs' n) : TJ w w9 V NB cs' xs pv := by
  refine ⟨h.lst, ?_, h.but, h.new, h.nb, h.wn⟩
  have := h.tab
  unfold tbl at this ⊢
  rw [tab_congr _ _ _ _ e] at this
  exact this

theorem row_len_le (z : Nat → Nat) (s : Nat) : ∀ k, (rowTo z s k).length ≤ k
  | 0 => Nat.le_refl _
  | k + 1 => by
    have := row_len_le z s k
    unfold rowTo
    split
    · rw [List.length_append, List.length_singleton]; omega
    · omega
theorem vals_len_le (z : Nat → Nat) : ∀ m, (valsTo z m).length ≤ 256 * m
  | 0 => Nat.le_refl _
  | m + 1 => by
    have := vals_len_le z m
    have := row_len_le z (m + 1) 256
    unfold valsTo
    rw [List.length_append]
    omega

theorem row_yes {z : Nat → Nat} {s k : Nat} (h : z k = s) (l : List Int) : l ++ rowTo z s (k + 1) = (l ++ rowTo z s k) ++ [(k : Int)] := by
  rw [List.append_assoc]
  congr 1
  exact if_pos h
theorem row_no {z : Nat → Nat} {s k : Nat} (h : ¬ z k = s) : rowTo z s (k + 1) = rowTo z s k := if_neg h

set_option maxHeartbeats 6400000 in
set_option maxRecDepth 100000 in
theorem refBest_any (pv : Value) (l : List Int) (hI : ∀ x ∈ l, I64 x) (hl : l.length ≤ 140737488355328) (w : World) (hv : View w .i64 pv l) : Calls Try.prog 20 #[pv] w fun e w' => ∃ pv', e = .returned (.agg (tbl (tabC (szF (wtF l))) pv').toArray) ∧ View w' .u8 pv' (tabV (szF (wtF l))) ∧ But Nowhere w w' := by
  have HV : Hid (View w .i64 pv l) := hv
  have HI : Hid _ := hI
  clear hv hI
  have hu := Try.underlying30
  have hiA : ∀ c pv, (Try.prog.info? 30).map (·.size) = some (tbl c pv).length := fun c pv => by rw [tbl_length]; kernel_rfl
  have hiB : (Try.prog.info? 30).map (·.size) = some (tbl (fun _ => 0) (.slice none 0 0)).toArray.size := by rw [List.size_toArray, tbl_length]; kernel_rfl
  have hal : (tbl (fun _ => 0) (.slice none 0 0)).toArray.all (·.oneCell') = true := by kernel_rfl
  have hm := make260
  have kk := (Keep.start w).made 30 (Value.int .i64 0 :: Value.int .i64 0 :: Value.int .i64 0 :: Value.int .i64 0 :: Value.int .i64 0 :: Value.int .i64 0 :: Value.int .i64 0 :: Value.int .i64 0 :: Value.int .i64 0 :: Value.int .i64 0 :: Value.int .i64 0 :: Value.int .i64 0 :: Value.int .i64 0 :: Value.int .i64 0 :: Value.int .i64 0 :: Value.int .i64 0 :: Value.slice none 0 0 :: [])
  go_enter Try.func20, Try.ntmps20
  go_upto_region 2 with (go_at_call 33; refine (refAll_any _ l HI.out hl _ (HV.out.but kk.but)).mono ?_; rintro e x ⟨gs, rfl, k2⟩; replace kk := kk.join1 k2; clear k2)
  replace kk := kk.made 3 (tab .i64 260 (fun _ => 0))
  have HK : Hid _ := kk
  clear kk
  go_wp2_with fail
  have kk := HK.out
  clear HK hm
  revert kk
  obtain ⟨gn, hgn⟩ : ∃ n, x.heap.size = n := ⟨_, rfl⟩
  rw [hgn]
  clear hgn
  generalize (x.alloc (.cells (tab .i64 260 (fun _ => 0)).toArray 3)) = W1
  intro kk
  obtain ⟨z, hz⟩ : ∃ z, (szF (wtF l)) = z := ⟨_, rfl⟩
  have HZL : Hid (∀ i, z i < 260) := fun i => by rw [← hz]; exact size_lt _ i
  have HGD : Hid (Gd (cntF z 257) 259) := by rw [← hz]; exact cnt_gd (wtF_wt l)
  rw [hz] at kk
  have HZ : Hid ((szF (wtF l)) = z) := hz
  clear hz
  go_loopw [5] (fun i V => ∃ k : Nat, k ≤ 257 ∧ i = .int .i64 k ∧ Keep w V [(gn, 3, tab .i64 260 (cntF z k)), (gs, 3, tab .i64 257 (fun i => (z i : Int))), (w.heap.size, 30, (Value.int .i64 0 :: Value.int .i64 0 :: Value.int .i64 0 :: Value.int .i64 0 :: Value.int .i64 0 :: Value.int .i64 0 :: Value.int .i64 0 :: Value.int .i64 0 :: Value.int .i64 0 :: Value.int .i64 0 :: Value.int .i64 0 :: Value.int .i64 0 :: Value.int .i64 0 :: Value.int .i64 0 :: Value.int .i64 0 :: Value.int .i64 0 :: Value.slice none 0 0 :: []))]) (fun i _ => 257 - (intOf i).toNat)
  case atStart => exact ⟨0, Nat.zero_le _, rfl, kk⟩
  case round =>
    clear kk
    obtain ⟨k, hk, rfl, kk⟩ := hrel
    by_cases hlt : k < 257
    · have i0 : (0 : Int) ≤ (k : Int) := by omega
      have i1 : (k : Int) < 257 := by omega
      have c0 := (kk.get (b := gs) (t := 3) (c := tab .i64 257 (fun i => (z i : Int))) (by simp)).cell k hlt
      have hzk := HZL.out k
      by_cases hpos : 0 < z k
      · have c1 := kk.head.cell (z k) hzk
        have f1 := kk.head.frozen (z k)
        have hbd := cntF_le z k (z k)
        have hb0 := cntF_pos z k (z k)
        replace kk := kk.set (z k) (.int .i64 (cntF z k (z k) + 1))
        rw [tab_set, cnt_set hpos] at kk
        have HX : Hid _ := kk
        clear kk
        have z0 : (0 : Int) < (z k : Int) := by omega
        have z1 : (z k : Int) < 260 := by omega
        generalize z k = m at *
        generalize cntF z k m = C at *
        go_wp2_with fail
        go_roundw
        case rel => exact ⟨k + 1, by omega, by go_num, HX.out⟩
        case measure => simp [intOf]; omega
      · rw [cnt_same hpos] at kk
        have HX : Hid _ := kk
        clear kk
        obtain e0 : z k = 0 := by omega
        rw [e0] at c0
        clear hpos hzk
        go_wp2_with fail
        go_roundw
        case rel => exact ⟨k + 1, by omega, by go_num, HX.out⟩
        case measure => simp [intOf]; omega
    · obtain rfl : k = 257 := by omega
      replace kk := kk.made 30 (Value.int .i64 0 :: Value.int .i64 0 :: Value.int .i64 0 :: Value.int .i64 0 :: Value.int .i64 0 :: Value.int .i64 0 :: Value.int .i64 0 :: Value.int .i64 0 :: Value.int .i64 0 :: Value.int .i64 0 :: Value.int .i64 0 :: Value.int .i64 0 :: Value.int .i64 0 :: Value.int .i64 0 :: Value.int .i64 0 :: Value.int .i64 0 :: Value.slice none 0 0 :: [])
      have hth := kk.head.there 0 (tbl (fun _ => 0) (.slice none 0 0)).toArray.size (by simp [tbl_length])
      replace kk := kk.laid_any (tbl (fun _ => 0) (.slice none 0 0)) rfl
      go_upto_region 9 with (refine wpList_store_mid rfl 30 (.tmp 6) (.tmp 33) rfl wr.heap.size 0 (tbl (fun _ => 0) (.slice none 0 0)).toArray rfl rfl ?_ hiB hal ?_; exact hth)
      clear hth hiB hal
      revert kk
      obtain ⟨NB, hNB⟩ : ∃ n, wr.heap.size = n := ⟨_, rfl⟩
      rw [hNB]
      clear hNB
      generalize ((wr.alloc (.cells (Value.int .i64 0 :: Value.int .i64 0 :: Value.int .i64 0 :: Value.int .i64 0 :: Value.int .i64 0 :: Value.int .i64 0 :: Value.int .i64 0 :: Value.int .i64 0 :: Value.int .i64 0 :: Value.int .i64 0 :: Value.int .i64 0 :: Value.int .i64 0 :: Value.int .i64 0 :: Value.int .i64 0 :: Value.int .i64 0 :: Value.int .i64 0 :: Value.slice none 0 0 :: []).toArray 30)).setCells NB 0 (tbl (fun _ => 0) (.slice none 0 0))) = W2
      intro kk
      try simp only [Act.put]
      go_wp2_with (go_at_call 35; refine (refShorter_any (cntF z 257) gn HGD.out _ (kk.get (b := gn) (t := 3) (c := tab .i64 260 (cntF z 257)) (by simp))).mono ?_; rintro e y ⟨gl, lcap, R, rfl, k2⟩; replace kk := kk.join1 k2; clear k2)
      have HLB : Hid (∀ s, s < 260 → 0 ≤ lenL z s ∧ lenL z s ≤ 257) := cut_bd HGD.out
      have hLe : cutAll 243 (cntF z 257) = lenL z := rfl
      rw [hLe] at kk
      clear hLe
      have HL9 : Hid (Cells y gl 3 (tab .i64 260 (lenL z) ++ R)) := kk.head
      have HS9 : Hid (Cells y gs 3 (tab .i64 257 (fun i => (z i : Int)))) := kk.get (by simp)
      have HR9 : Hid (Cells y w.heap.size 30 (Value.int .i64 0 :: Value.int .i64 0 :: Value.int .i64 0 :: Value.int .i64 0 :: Value.int .i64 0 :: Value.int .i64 0 :: Value.int .i64 0 :: Value.int .i64 0 :: Value.int .i64 0 :: Value.int .i64 0 :: Value.int .i64 0 :: Value.int .i64 0 :: Value.int .i64 0 :: Value.int .i64 0 :: Value.int .i64 0 :: Value.int .i64 0 :: Value.slice none 0 0 :: [])) := kk.get (by simp)
      have hpw := List.pairwise_cons.1 kk.apart
      have hpw2 := List.pairwise_cons.1 hpw.2
      have HNL : Hid (gl ≠ NB) := hpw.1 (NB, 30, tbl (fun _ => 0) (.slice none 0 0)) (by simp)
      have HNS : Hid (NB ≠ gs) := hpw2.1 (gs, 3, tab .i64 257 (fun i => (z i : Int))) (by simp)
      have HNR : Hid (NB ≠ w.heap.size) := hpw2.1 (w.heap.size, 30, (Value.int .i64 0 :: Value.int .i64 0 :: Value.int .i64 0 :: Value.int .i64 0 :: Value.int .i64 0 :: Value.int .i64 0 :: Value.int .i64 0 :: Value.int .i64 0 :: Value.int .i64 0 :: Value.int .i64 0 :: Value.int .i64 0 :: Value.int .i64 0 :: Value.int .i64 0 :: Value.int .i64 0 :: Value.int .i64 0 :: Value.int .i64 0 :: Value.slice none 0 0 :: [])) (by simp)
      have hcN : Cells y NB 30 (tbl (fun _ => 0) (.slice none 0 0)) := kk.get (by simp)
      have jj : TJ w y y NB (fun _ => 0) [] (.slice none 0 0) := ⟨(Lst.start w 5 1).step kk.but, hcN, But.refl _ _, by simp [Value.ownBlock], hcN.lt, kk.new (NB, 30, tbl (fun _ => 0) (.slice none 0 0)) (by simp)⟩
      clear hpw hpw2 hcN kk
      go_loopw [8, 9] (fun la i V => ∃ k : Nat, 1 ≤ k ∧ k ≤ 17 ∧ i = .int .i64 k ∧ la = .int .i64 ((anyTo (lenL z) (k - 1) : Nat) : Int) ∧ TJ w y V NB (fun n => if n + 1 < k then lenL z (n + 1) else 0) [] (.slice none 0 0)) (fun _ i _ => 17 - (intOf i).toNat)
      case atStart => exact ⟨1, by omega, by omega, rfl, rfl, jj.congr (fun n _ => (if_neg (by omega)).symm)⟩
      case round =>
        clear jj
        obtain ⟨k, k1, hk, rfl, rfl, jj⟩ := hrel
        by_cases hlt : k ≤ 16
        · have i0 : (0 : Int) ≤ (k : Int) := by omega
          have i1 : (k : Int) ≤ 16 := by omega
          have i2 : (k : Int) < 260 := by omega
          obtain ⟨P, hP⟩ : ∃ P, k - 1 = P := ⟨_, rfl⟩
          have rp : (k : Int) - 1 = (P : Int) := by omega
          have p0 : (0 : Int) ≤ (P : Int) := by omega
          have p1 : (P : Int) < 16 := by omega
          have HP : Hid (k - 1 = P) := hP
          have cL := ((HL9.out.but jj.but HNL.out)).cellA k (by omega)
          have cN := jj.tab.cnt P (by omega)
          have fN := jj.tab.frozen P
          have hb := HLB.out k (by omega)
          replace jj := jj.count P (by omega) (lenL z k)
          replace jj := jj.congr (cs' := fun n => if n + 1 < k + 1 then lenL z (n + 1) else 0) (fun n _ => by
            unfold upd
            by_cases e : n = P
            · rw [if_pos e, if_pos (by omega), show n + 1 = k by omega]
            · rw [if_neg e]
              show (if n + 1 < k then lenL z (n + 1) else 0) = _
              by_cases q : n + 1 < k
              · rw [if_pos q, if_pos (by omega)]
              · rw [if_neg q, if_neg (by omega)])
          have HJ : Hid _ := jj
          clear jj hP
          go_upto_region 15 with fail
          have jj := HJ.out
          clear HJ cL cN fN
          revert jj
          generalize wr.setCell ⟨NB, P, none⟩ (.int .i64 (lenL z k)) = W3
          intro jj
          have cL := ((HL9.out.but jj.but HNL.out)).cellA k (by omega)
          have HJ : Hid _ := jj
          clear jj
          have HA1 : Hid (0 < lenL z k → anyTo (lenL z) (k + 1 - 1) = k) := fun h => anyTo_not _ k k1 (by omega)
          have HA0 : Hid (¬ 0 < lenL z k → anyTo (lenL z) (k + 1 - 1) = anyTo (lenL z) (k - 1)) := fun h => anyTo_zero _ k k1 (by omega)
          generalize lenL z k = C at cL hb HA1 HA0
          by_cases hC : 0 < C
          · have HA : Hid _ := HA1.out hC
            clear HA1 HA0
            go_wp2_with fail
            go_roundw
            case rel => exact ⟨k + 1, by omega, by omega, by go_num, by rw [HA.out], HJ.out⟩
            case measure => simp [intOf]; omega
          · have HA : Hid _ := HA0.out hC
            clear HA1 HA0
            go_wp2_with fail
            go_roundw
            case rel => exact ⟨k + 1, by omega, by omega, by go_num, by rw [HA.out], HJ.out⟩
            case measure => simp [intOf]; omega
        · obtain rfl : k = 17 := by omega
          clear hk hlt k1
          have hmt : anyTo (lenL z) (17 - 1) = topL z := rfl
          have hm16 : topL z ≤ 16 := anyTo_le _ _
          rw [hmt]
          clear hmt
          obtain ⟨m, hm⟩ : ∃ m, topL z = m := ⟨_, rfl⟩
          have HM : Hid (topL z = m) := hm
          rw [hm] at hm16 ⊢
          clear hm
          have m0 : (0 : Int) ≤ (m : Int) := by omega
          by_cases hpos : 0 < m
          · have mp : (0 : Int) < (m : Int) := by omega
            obtain ⟨P, hP⟩ : ∃ P, m - 1 = P := ⟨_, rfl⟩
            have rp : (m : Int) - 1 = (P : Int) := by omega
            have p0 : (0 : Int) ≤ (P : Int) := by omega
            have p1 : (P : Int) < 16 := by omega
            have cN := jj.tab.cnt P (by omega)
            rw [if_pos (show P + 1 < 17 by omega), show P + 1 = m by omega] at cN
            have fN := jj.tab.frozen P
            have hb := HLB.out m (by omega)
            replace jj := jj.count P (by omega) (lenL z m - 1)
            replace jj := jj.congr (cs' := tabC z) (fun n hn => by
              unfold upd tabC
              rw [HM.out]
              by_cases e : n = P
              · rw [if_pos e, if_pos (by omega), show n + 1 = m by omega]
              · rw [if_neg e]
                show (if n + 1 < 17 then lenL z (n + 1) else 0) = _
                rw [if_pos (show n + 1 < 17 by omega), if_neg (by omega)])
            have HJ : Hid _ := jj
            clear jj hP
            go_upto_region 19 with fail
            have jj := HJ.out
            clear HJ cN fN
            revert jj
            generalize wr.setCell ⟨NB, P, none⟩ (.int .i64 (lenL z m - 1)) = W3
            intro jj
            clear rp p0 p1 hb mp hpos m0 hm16
            go_wp2_with fail
            try simp only [show ((17 : Nat) : Int) = 17 from rfl]
            try simp only [show ((0 : Nat) : Int) = 0 from rfl]
            go_loopw [10, 11] (fun s _ V => ∃ (k : Nat) (pv : Value), 1 ≤ k ∧ k ≤ 260 ∧ s = .int .i64 k ∧ TJ w y V NB (tabC z) (valsTo z (k - 1)) pv) (fun s _ _ => 260 - (intOf s).toNat)
            case atStart => exact ⟨1, _, by omega, by omega, rfl, jj⟩
            case round =>
              clear jj
              obtain ⟨k, pv, k1, hk, rfl, jj⟩ := hrel
              by_cases hlt : k < 260
              · have i0 : (0 : Int) ≤ (k : Int) := by omega
                have i1 : (k : Int) < 260 := by omega
                go_wp2_with fail
                go_loopw [11] (fun v V => ∃ (u : Nat) (pv : Value), u ≤ 256 ∧ v = .int .i64 u ∧ TJ w y V NB (tabC z) (valsTo z (k - 1) ++ rowTo z k u) pv) (fun v _ => 256 - (intOf v).toNat)
                case atStart => exact ⟨0, _, Nat.zero_le _, rfl, by rw [show rowTo z k 0 = [] from rfl, List.append_nil]; exact jj⟩
                case round =>
                  clear jj pv
                  obtain ⟨u, pv, hu2, rfl, jj⟩ := hrel
                  by_cases hlu : u < 256
                  · have u0 : (0 : Int) ≤ (u : Int) := by omega
                    have u1 : (u : Int) < 256 := by omega
                    have u2 : (u : Int) < 257 := by omega
                    have cS := (HS9.out.but jj.but (fun e => HNS.out e.symm)).cell u (by omega)
                    by_cases hzu : z u = k
                    · rw [hzu] at cS
                      have kb : IntKind.u8.wrap (u : Int) = u := by rw [IntKind.wrap_u8]; omega
                      have hlen : (valsTo z (k - 1) ++ rowTo z k u).length ≤ 10000000 := by
                        have := vals_len_le z (k - 1)
                        have := row_len_le z k u
                        rw [List.length_append]
                        omega
                      obtain ⟨g4, cap4, W6, hrun, c4, f4, j4, -⟩ := jj.push (u : Int) hlen wr.heap.size rfl
                      have c16 := jj.tab.vals
                      rw [← row_yes hzu (valsTo z (k - 1))] at j4
                      generalize (valsTo z (k - 1) ++ rowTo z k u).length = LN at hrun j4
                      have HJ4 : Hid _ := j4
                      have HRUN : Hid _ := hrun
                      clear hrun j4 jj hzu hlen
                      go_wp2_with (at_builtin; refine wpList_append_run rfl (.tmp 79) (.tmp 82) 23 rfl pv (.slice (some ⟨wr.heap.size, 0, none⟩) 1 1) (by rfl) (by rfl) (.slice (some ⟨g4, 0, none⟩) (LN + 1) cap4) W6 HRUN.out ?_)
                      clear c4 f4 c16 HRUN
                      go_roundw
                      case rel => exact ⟨u + 1, _, by omega, by go_num, HJ4.out⟩
                      case measure => simp [intOf]; omega
                    · have hne : ((z u : Int) == (k : Int)) = false := by simp; omega
                      rw [← row_no hzu] at jj
                      have HJ : Hid _ := jj
                      clear jj hzu
                      generalize z u = zu at cS hne
                      go_wp2_with fail
                      go_roundw
                      case rel => exact ⟨u + 1, _, by omega, by go_num, HJ.out⟩
                      case measure => simp [intOf]; omega
                  · obtain rfl : u = 256 := by omega
                    have HJ : Hid (TJ w y wr NB (tabC z) (valsTo z (k + 1 - 1)) pv) := by
                      obtain ⟨k', rfl⟩ : ∃ k', k = k' + 1 := ⟨k - 1, by omega⟩
                      exact jj
                    clear jj
                    go_wp2_with fail
                    go_roundw
                    case rel => exact ⟨k + 1, _, by omega, by omega, by go_num, HJ.out⟩
                    case measure => simp [intOf]; omega
              · obtain rfl : k = 260 := by omega
                have hq : (fun m => valsTo z m) (260 - 1) = tabV z := rfl
                dsimp only at hq
                rw [hq] at jj
                clear hq
                obtain ⟨ys, hys⟩ : ∃ ys, tabV z = ys := ⟨_, rfl⟩
                obtain ⟨cs, hcs⟩ : ∃ cs, tabC z = cs := ⟨_, rfl⟩
                have HYS : Hid (tabV z = ys ∧ tabC z = cs) := ⟨hys, hcs⟩
                rw [hys, hcs] at jj
                clear hys hcs
                obtain ⟨po, pc, rfl⟩ := jj.lst.slice
                have hTab := jj.tab
                have hS0 := Cells.but HR9.out jj.but (fun e => HNR.out e.symm)
                have hBw := jj.lst.but
                have hVw : View wr .u8 (.slice po ys.length pc) ys := View.of_owns jj.lst.own
                have hoff : ∀ b off sp, po = some ⟨b, off, sp⟩ → ys.length ≠ 0 → b ≠ w.heap.size := fun b off sp e _ => by
                  have h1 := jj.new b (by rw [e]; rfl)
                  have := HR9.out.lt
                  omega
                have hr := hTab.all
                have hal2 : (tbl (cs) (.slice po ys.length pc)).toArray.all (·.oneCell') = true := tbl_all _ _ _ _
                have hi2 : (Try.prog.info? 30).map (·.size) = some (tbl (cs) (.slice po ys.length pc)).toArray.size := by rw [List.size_toArray, tbl_length]; kernel_rfl
                obtain ⟨hth, hF, hVf, hBf⟩ := table_end (cs := cs) hS0 hVw hBw hoff
                have HF : Hid _ := And.intro hF (And.intro hVf hBf)
                clear hF hVf hBf hS0 hVw hBw hoff hTab jj
                go_wp2_with (first | (refine wpList_load_mid rfl 30 (.tmp 6) rfl NB 0 rfl (tbl (cs) (.slice po ys.length pc)) _ ?_ hu rfl (hiA _ _) ?_; exact hr) | (refine wpList_store_mid rfl 30 (.tmp 2) (.tmp 85) rfl w.heap.size 0 (tbl (cs) (.slice po ys.length pc)).toArray rfl rfl ?_ hi2 hal2 ?_; exact hth))
                refine bodyPost_ret (results_cells rfl HF.out.1 hu rfl (hiA _ _) _ rfl) rfl ⟨.slice po ys.length pc, ?_, ?_, HF.out.2.2⟩
                · rw [HZ.out, HYS.out.2]
                · rw [HZ.out, HYS.out.1]; exact HF.out.2.1
          · obtain rfl : m = 0 := by omega
            replace jj := jj.congr (cs' := tabC z) (fun n hn => by
              unfold tabC
              rw [HM.out]
              show (if n + 1 < 17 then lenL z (n + 1) else 0) = _
              rw [if_pos (show n + 1 < 17 by omega), if_neg (by omega)])
            clear hpos m0 hm16
            go_wp2_with fail
            try simp only [show ((17 : Nat) : Int) = 17 from rfl]
            try simp only [show ((0 : Nat) : Int) = 0 from rfl]
            go_loopw [10, 11] (fun s _ V => ∃ (k : Nat) (pv : Value), 1 ≤ k ∧ k ≤ 260 ∧ s = .int .i64 k ∧ TJ w y V NB (tabC z) (valsTo z (k - 1)) pv) (fun s _ _ => 260 - (intOf s).toNat)
            case atStart => exact ⟨1, _, by omega, by omega, rfl, jj⟩
            case round =>
              clear jj
              obtain ⟨k, pv, k1, hk, rfl, jj⟩ := hrel
              by_cases hlt : k < 260
              · have i0 : (0 : Int) ≤ (k : Int) := by omega
                have i1 : (k : Int) < 260 := by omega
                go_wp2_with fail
                go_loopw [11] (fun v V => ∃ (u : Nat) (pv : Value), u ≤ 256 ∧ v = .int .i64 u ∧ TJ w y V NB (tabC z) (valsTo z (k - 1) ++ rowTo z k u) pv) (fun v _ => 256 - (intOf v).toNat)
                case atStart => exact ⟨0, _, Nat.zero_le _, rfl, by rw [show rowTo z k 0 = [] from rfl, List.append_nil]; exact jj⟩
                case round =>
                  clear jj pv
                  obtain ⟨u, pv, hu2, rfl, jj⟩ := hrel
                  by_cases hlu : u < 256
                  · have u0 : (0 : Int) ≤ (u : Int) := by omega
                    have u1 : (u : Int) < 256 := by omega
                    have u2 : (u : Int) < 257 := by omega
                    have cS := (HS9.out.but jj.but (fun e => HNS.out e.symm)).cell u (by omega)
                    by_cases hzu : z u = k
                    · rw [hzu] at cS
                      have kb : IntKind.u8.wrap (u : Int) = u := by rw [IntKind.wrap_u8]; omega
                      have hlen : (valsTo z (k - 1) ++ rowTo z k u).length ≤ 10000000 := by
                        have := vals_len_le z (k - 1)
                        have := row_len_le z k u
                        rw [List.length_append]
                        omega
                      obtain ⟨g4, cap4, W6, hrun, c4, f4, j4, -⟩ := jj.push (u : Int) hlen wr.heap.size rfl
                      have c16 := jj.tab.vals
                      rw [← row_yes hzu (valsTo z (k - 1))] at j4
                      generalize (valsTo z (k - 1) ++ rowTo z k u).length = LN at hrun j4
                      have HJ4 : Hid _ := j4
                      have HRUN : Hid _ := hrun
                      clear hrun j4 jj hzu hlen
                      go_wp2_with (at_builtin; refine wpList_append_run rfl (.tmp 79) (.tmp 82) 23 rfl pv (.slice (some ⟨wr.heap.size, 0, none⟩) 1 1) (by rfl) (by rfl) (.slice (some ⟨g4, 0, none⟩) (LN + 1) cap4) W6 HRUN.out ?_)
                      clear c4 f4 c16 HRUN
                      go_roundw
                      case rel => exact ⟨u + 1, _, by omega, by go_num, HJ4.out⟩
                      case measure => simp [intOf]; omega
                    · have hne : ((z u : Int) == (k : Int)) = false := by simp; omega
                      rw [← row_no hzu] at jj
                      have HJ : Hid _ := jj
                      clear jj hzu
                      generalize z u = zu at cS hne
                      go_wp2_with fail
                      go_roundw
                      case rel => exact ⟨u + 1, _, by omega, by go_num, HJ.out⟩
                      case measure => simp [intOf]; omega
                  · obtain rfl : u = 256 := by omega
                    have HJ : Hid (TJ w y wr NB (tabC z) (valsTo z (k + 1 - 1)) pv) := by
                      obtain ⟨k', rfl⟩ : ∃ k', k = k' + 1 := ⟨k - 1, by omega⟩
                      exact jj
                    clear jj
                    go_wp2_with fail
                    go_roundw
                    case rel => exact ⟨k + 1, _, by omega, by omega, by go_num, HJ.out⟩
                    case measure => simp [intOf]; omega
              · obtain rfl : k = 260 := by omega
                have hq : (fun m => valsTo z m) (260 - 1) = tabV z := rfl
                dsimp only at hq
                rw [hq] at jj
                clear hq
                obtain ⟨ys, hys⟩ : ∃ ys, tabV z = ys := ⟨_, rfl⟩
                obtain ⟨cs, hcs⟩ : ∃ cs, tabC z = cs := ⟨_, rfl⟩
                have HYS : Hid (tabV z = ys ∧ tabC z = cs) := ⟨hys, hcs⟩
                rw [hys, hcs] at jj
                clear hys hcs
                obtain ⟨po, pc, rfl⟩ := jj.lst.slice
                have hTab := jj.tab
                have hS0 := Cells.but HR9.out jj.but (fun e => HNR.out e.symm)
                have hBw := jj.lst.but
                have hVw : View wr .u8 (.slice po ys.length pc) ys := View.of_owns jj.lst.own
                have hoff : ∀ b off sp, po = some ⟨b, off, sp⟩ → ys.length ≠ 0 → b ≠ w.heap.size := fun b off sp e _ => by
                  have h1 := jj.new b (by rw [e]; rfl)
                  have := HR9.out.lt
                  omega
                have hr := hTab.all
                have hal2 : (tbl (cs) (.slice po ys.length pc)).toArray.all (·.oneCell') = true := tbl_all _ _ _ _
                have hi2 : (Try.prog.info? 30).map (·.size) = some (tbl (cs) (.slice po ys.length pc)).toArray.size := by rw [List.size_toArray, tbl_length]; kernel_rfl
                obtain ⟨hth, hF, hVf, hBf⟩ := table_end (cs := cs) hS0 hVw hBw hoff
                have HF : Hid _ := And.intro hF (And.intro hVf hBf)
                clear hF hVf hBf hS0 hVw hBw hoff hTab jj
                go_wp2_with (first | (refine wpList_load_mid rfl 30 (.tmp 6) rfl NB 0 rfl (tbl (cs) (.slice po ys.length pc)) _ ?_ hu rfl (hiA _ _) ?_; exact hr) | (refine wpList_store_mid rfl 30 (.tmp 2) (.tmp 85) rfl w.heap.size 0 (tbl (cs) (.slice po ys.length pc)).toArray rfl rfl ?_ hi2 hal2 ?_; exact hth))
                refine bodyPost_ret (results_cells rfl HF.out.1 hu rfl (hiA _ _) _ rfl) rfl ⟨.slice po ys.length pc, ?_, ?_, HF.out.2.2⟩
                · rw [HZ.out, HYS.out.2]
                · rw [HZ.out, HYS.out.1]; exact HF.out.2.1

end Go.Proofs.Ytlpeplihbdcklaa
