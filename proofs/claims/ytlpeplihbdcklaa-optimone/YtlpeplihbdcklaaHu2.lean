/- What the document's Codes of layer 10 answers. -/
import Derived.Test.YtlpeplihbdcklaaHu1
import Derived.Deep.WholeRow
namespace Go.Proofs.Ytlpeplihbdcklaa
set_option linter.unusedVariables false
open Go.ChangeShapes Go.WideShapes Go.ChangeAt Go.RowKit

set_option maxRecDepth 100000 in
theorem zero512 : ∀ (W : World), (zeroValue 35).run Try.prog W = .ok (.agg (tab .i64 512 (fun _ => 0)).toArray) W :=
  (zero_of_info (n := 512) (by kernel_rfl)).1

/-- Pairs of numbers, one behind the other. -/
def both (f g : Nat → Int) (j : Nat) : Int := if j % 2 = 0 then f (j / 2) else g (j / 2)

theorem both_congr (f g f' g' : Nat → Int) (h : ∀ v, v < 256 → f v = f' v ∧ g v = g' v) : tab .i64 512 (both f g) = tab .i64 512 (both f' g') := tab_congr _ _ _ _ (fun j hj => by
  have := h (j / 2) (by omega)
  unfold both
  split
  · exact this.1
  · exact this.2)

theorem both_zero (f g : Nat → Int) (h : ∀ v, v < 256 → f v = 0 ∧ g v = 0) : tab .i64 512 (fun _ => 0) = tab .i64 512 (both f g) := tab_congr _ _ _ _ (fun j hj => by
  have := h (j / 2) (by omega)
  unfold both
  split
  · exact this.1.symm
  · exact this.2.symm)

theorem both_set (f g : Nat → Int) (v : Nat) (a b : Int) : ((tab .i64 512 (both f g)).set (v * 2) (.int .i64 a)).set (v * 2 + 1) (.int .i64 b) = tab .i64 512 (both (upd f v a) (upd g v b)) := by
  rw [tab_set, tab_set]
  refine tab_congr _ _ _ _ (fun j hj => ?_)
  unfold upd both
  dsimp only
  by_cases e : j % 2 = 0
  · rw [if_neg (show ¬ j = v * 2 + 1 by omega)]
    by_cases h : j = v * 2
    · rw [if_pos h, if_pos e, if_pos (show j / 2 = v by omega)]
    · rw [if_neg h, if_pos e, if_pos e, if_neg (show ¬ j / 2 = v by omega)]
  · by_cases h : j = v * 2 + 1
    · rw [if_pos h, if_neg e, if_pos (show j / 2 = v by omega)]
    · rw [if_neg h, if_neg (show ¬ j = v * 2 by omega), if_neg e, if_neg e, if_neg (show ¬ j / 2 = v by omega)]

theorem to_set (c : Nat → Int) (l : List Int) (hl : l.Nodup) (p : Nat) (hp : p < l.length) (v : Nat) (hv : l[p] = (v : Int)) : tab .i64 512 (both (upd (toN c l p) v ((lenP c p : Nat) : Int)) (upd (toV c l p) v (numP c p))) = tab .i64 512 (both (toN c l (p + 1)) (toV c l (p + 1))) := both_congr _ _ _ _ (fun u hu => by
  have := to_succ c l hl p hp u
  rw [this.1, this.2, hv]
  unfold upd
  by_cases e : u = v
  · subst e; simp
  · rw [if_neg e, if_neg e, if_neg (by omega), if_neg (by omega)]; exact ⟨rfl, rfl⟩)

set_option maxHeartbeats 6400000 in
set_option maxRecDepth 100000 in
theorem refCodes_any (c : Nat → Int) (pv : Value) (l : List Int) (hI : ∀ j, j < 16 → I64 (c j)) (w : World) (hv : View w .u8 pv l) (hx : ∀ x ∈ l, 0 ≤ x ∧ x ≤ 255) (hl : l.length ≤ 140737488355328) : Calls Try.prog 37 #[.agg (tbl c pv).toArray] w fun e w' => e = .returned (.agg (tab .i64 512 (both (codN c l) (codV c l))).toArray) ∧ But Nowhere w w' := by
  have HV : Hid (View w .u8 pv l) := hv
  obtain ⟨ao, cap, rfl⟩ := hv.slice
  clear hv
  have hu := Try.underlying35
  have huT := Try.underlying30
  have hiA : ∀ f, (Try.prog.info? 35).map (·.size) = some (tab .i64 512 f).length := fun f => by rw [tab_length]; kernel_rfl
  have hiB : ∀ f, (Try.prog.info? 35).map (·.size) = some (tab .i64 512 f).toArray.size := fun f => by rw [List.size_toArray, tab_length]; kernel_rfl
  have hiT : (Try.prog.info? 30).map (·.size) = some (tbl c (.slice ao l.length cap)).length := by rw [tbl_length]; kernel_rfl
  have HI : Hid _ := And.intro hiB hiA
  have hz := zero512
  have kk := (((Keep.start w).made 30 (tbl c (.slice ao l.length cap))).made 35 (tab .i64 512 (fun _ => 0))).made 35 (tab .i64 512 (fun _ => 0))
  simp only [World.size_alloc] at kk
  have hth := kk.head.there 0 (tab .i64 512 (fun _ => 0)).toArray.size (by rw [List.size_toArray, tab_length]; omega)
  replace kk := kk.layAll (fun _ => 0)
  clear hiB
  go_enter Try.func37, Try.ntmps37
  go_upto_region 2 with (refine wpList_store_mid rfl 35 (.tmp 3) (.tmp 8) rfl (w.heap.size + 1 + 1) 0 (tab .i64 512 (fun _ => 0)).toArray rfl rfl ?_ (HI.out.1 _) (tab_all _ _ _) ?_; exact hth)
  clear hz hth
  have hiB := HI.out.1
  revert kk
  generalize ((((w.alloc (.cells (tbl c (.slice ao l.length cap)).toArray 30)).alloc (.cells (tab .i64 512 (fun _ => 0)).toArray 35)).alloc (.cells (tab .i64 512 (fun _ => 0)).toArray 35))).setCells (w.heap.size + 1 + 1) 0 (tab .i64 512 (fun _ => 0)) = W1
  intro kk
  try simp only [Act.put]
  have hr := (kk.get (b := w.heap.size) (t := 30) (c := tbl c (.slice ao l.length cap)) (by simp)).all
  go_wp2_with (refine wpList_load_mid rfl 30 (.tmp 1) rfl (w.heap.size) 0 rfl (tbl c (.slice ao l.length cap)) _ ?_ huT rfl hiT ?_; exact hr)
  refine (refCheck_any c _ l hI _ (HV.out.but kk.but) hx hl).mono ?_
  rintro e x1 ⟨rfl, dd⟩
  replace kk := kk.step dd
  clear dd hr
  by_cases hB : checkB c l = true
  · have hok := (checkB_iff c l).1 hB
    have HOK : Hid _ := hok
    rw [hB]
    clear hok
    rw [show tab .i64 512 (fun _ => 0) = tab .i64 512 (both (toN c l 0) (toV c l 0)) from both_zero _ _ (fun v _ => to_zero c l v)] at kk
    have HL : Hid (l.length ≤ 256) := HOK.out.most
    go_wp2_with fail
    go_loopw [4, 5, 6] (fun e a i V => ∃ m : Nat, m ≤ 16 ∧ i = .int .i64 ((m : Int) + 1) ∧ e = .int .i64 (endC c m) ∧ a = .int .i64 (cnt c m) ∧ Keep w V [(w.heap.size + 1 + 1, 35, tab .i64 512 (both (toN c l ((cnt c m).toNat)) (toV c l ((cnt c m).toNat)))), (w.heap.size + 1, 35, tab .i64 512 (fun _ => 0)), (w.heap.size, 30, tbl c (.slice ao l.length cap))]) (fun _ _ i _ => 17 - (intOf i).toNat)
    case atStart => exact ⟨0, Nat.zero_le _, rfl, rfl, rfl, kk⟩
    case round =>
      clear kk
      obtain ⟨m, hm, rfl, rfl, rfl, kk⟩ := hrel
      by_cases hlt : m < 16
      · have n0 : (0 : Int) ≤ (m : Int) := by omega
        have n1 : (m : Int) < 16 := by omega
        have hok := HOK.out.ok
        have q1 := endC_pos hok m (by omega)
        have q2 := endC_most hok m (by omega)
        have q6 : (2 : Int) ^ m ≤ 32768 := by
          have := Nat.pow_le_pow_right (n := 2) (by decide) (show m ≤ 15 by omega)
          have e : (2 : Nat) ^ 15 = 32768 := by decide
          rw [e] at this
          exact_mod_cast this
        have q7 : endC c m ≤ 32768 := Int.le_trans q2 q6
        clear q2 q6
        obtain ⟨A, hA⟩ : ∃ A : Nat, cnt c m = (A : Int) := ⟨(cnt c m).toNat, by have := cnt_pos hok m (by omega); omega⟩
        have hx0 := (hok m hlt).1
        have hx1 := (hok m hlt).2.1
        have hA1 : cnt c (m + 1) = A + c m := by show cnt c m + c m = _; rw [hA]
        have hA2 : (A : Int) + c m ≤ l.length := by have := cnt_mono hok (m + 1) 16 (by omega) (by omega); rw [hA1, HOK.out.sum] at this; exact this
        have hE1 : endC c (m + 1) = 2 * endC c m + c m := rfl
        have HP : Hid (∀ k p : Nat, (k : Int) < c m → p = A + k → ((lenP c p : Nat) : Int) = (m : Int) + 1 ∧ numP c p = 2 * endC c m + k) := fun k p hk hp => by
          have := p_at hok m hlt k ⟨by omega, hk⟩ p (by rw [hA]; omega)
          exact ⟨by rw [this.1]; omega, this.2⟩
        have HC0 : Hid (∀ V, Cells V (w.heap.size) 30 (tbl c (.slice ao l.length cap)) → V.cell? ⟨w.heap.size, m, none⟩ = some (.int .i64 (c m))) := fun V h => h.cnt m hlt
        have H1 : Hid _ := And.intro hA1 hE1
        rw [hA] at kk ⊢
        rw [Int.toNat_natCast] at kk
        clear hA hA1 hE1 hok
        revert H1
        revert HC0
        revert HP
        revert hA2
        revert hx1
        revert hx0
        revert q7
        revert q1
        generalize c m = x
        generalize endC c m = E
        intro q1 q7 hx0 hx1 hA2 HP HC0 H1
        go_wp2_with fail
        go_loopw [4, 5, 7] (fun e a i V => ∃ k p : Nat, (k : Int) ≤ x ∧ p = A + k ∧ i = .int .i64 k ∧ e = .int .i64 (2 * E + (k : Int)) ∧ a = .int .i64 (p : Int) ∧ Keep w V [(w.heap.size + 1 + 1, 35, tab .i64 512 (both (toN c l (p)) (toV c l (p)))), (w.heap.size + 1, 35, tab .i64 512 (fun _ => 0)), (w.heap.size, 30, tbl c (.slice ao l.length cap))]) (fun _ _ i _ => (x - intOf i).toNat)
        case atStart => exact ⟨0, A, by omega, rfl, rfl, by simp, rfl, kk⟩
        case round =>
          clear kk
          obtain ⟨k, p, hk, hp, rfl, rfl, rfl, kk⟩ := hrel
          have c0 := HC0.out _ (kk.get (b := w.heap.size) (t := 30) (c := tbl c (.slice ao l.length cap)) (by simp))
          by_cases hkx : (k : Int) < x
          · have hpl : p < l.length := by omega
            have k0 : (0 : Int) ≤ (k : Int) := by omega
            have p0 : (0 : Int) ≤ (p : Int) := by omega
            have p1 : (p : Int) < (l.length : Int) := by omega
            have t16 := (kk.get (b := w.heap.size) (t := 30) (c := tbl c (.slice ao l.length cap)) (by simp)).vals
            obtain ⟨-, vb, off, hao, -, e1⟩ := (HV.out.but kk.but).at p hpl
            obtain ⟨v, hv⟩ : ∃ v : Nat, l[p] = (v : Int) := ⟨l[p].toNat, by have := hx _ (List.getElem_mem hpl); omega⟩
            have hv1 : v < 256 := by have := hx _ (List.getElem_mem hpl); omega
            have v0 : (0 : Int) ≤ (v : Int) := by omega
            have v1 : (v : Int) < 256 := by omega
            rw [hv] at e1
            obtain ⟨g1, g2⟩ := HP.out k p hkx hp
            have q0 := kk.head.cell (v * 2) (by omega)
            have q2 := kk.head.cell (v * 2 + 1) (by omega)
            have f0 := kk.head.frozen (v * 2)
            have f1 := kk.head.frozen (v * 2 + 1)
            have kX := (kk.set (v * 2) (.int .i64 ((lenP c p : Nat) : Int))).set (v * 2 + 1) (.int .i64 (numP c p))
            rw [both_set, to_set c l HOK.out.once p hpl v hv, g1, g2] at kX
            have HX : Hid _ := kX
            have HPP : Hid (p = A + k) := hp
            clear kX kk hp g1 g2 hv
            rw [hao] at t16
            clear hao
            go_wp2_with fail
            clear t16 e1 q0 q2 f0 f1 c0
            go_roundw
            case rel => exact ⟨k + 1, p + 1, by omega, by have := HPP.out; omega, by go_num, by go_num, by go_num, HX.out⟩
            case measure => simp [intOf]; omega
          · obtain rfl : x = (k : Int) := by omega
            have HK : Hid _ := kk
            have HPP : Hid (p = A + k) := hp
            clear kk hp
            go_wp2_with fail
            go_roundw
            case rel => exact ⟨m + 1, by omega, by go_num, by rw [H1.out.2], by rw [H1.out.1, HPP.out]; simp, by rw [H1.out.1, show ((A : Int) + (k : Int)).toNat = A + k by omega]; have := HK.out; rw [HPP.out] at this; exact this⟩
            case measure => simp [intOf]; omega
      · obtain rfl : m = 16 := by omega
        rw [HOK.out.sum, Int.toNat_natCast] at kk
        have hcc : tab .i64 512 (both (toN c l (l.length)) (toV c l (l.length))) = tab .i64 512 (both (codN c l) (codV c l)) := both_congr _ _ _ _ (fun v _ => by unfold codN codV; rw [if_pos hB, if_pos hB]; exact ⟨rfl, rfl⟩)
        rw [hcc] at kk
        clear hcc
        have hr1 := kk.head.all
        replace kk := kk.swap
        have hth := kk.head.there 0 (tab .i64 512 (both (codN c l) (codV c l))).toArray.size (by simp [tab_length])
        have kX := kk.layAll (both (codN c l) (codV c l))
        have HX : Hid _ := And.intro kX.head kX.but
        clear kX kk
        go_wp2_with (first | (refine wpList_load_mid rfl 35 (.tmp 3) rfl (w.heap.size + 1 + 1) 0 rfl (tab .i64 512 (both (codN c l) (codV c l))) _ ?_ hu rfl (hiA _) ?_; exact hr1) | (refine wpList_store_mid rfl 35 (.tmp 2) (.tmp 41) rfl (w.heap.size + 1) 0 (tab .i64 512 (both (codN c l) (codV c l))).toArray rfl rfl ?_ (hiB _) (tab_all _ _ _) ?_; exact hth))
        exact bodyPost_ret (results_cells rfl HX.out.1 hu rfl (hiA _) _ rfl) rfl ⟨rfl, HX.out.2⟩
  · have hB' : checkB c l = false := by simpa using hB
    rw [hB']
    have hno : ¬ OkT c l := fun h => hB ((checkB_iff c l).2 h)
    rw [both_zero (codN c l) (codV c l) (fun v _ => cod_not hno v)] at kk
    clear hB hB' hno
    have hr1 := kk.head.all
    replace kk := kk.swap
    have hth := kk.head.there 0 (tab .i64 512 (both (codN c l) (codV c l))).toArray.size (by simp [tab_length])
    have kX := kk.layAll (both (codN c l) (codV c l))
    have HX : Hid _ := And.intro kX.head kX.but
    clear kX kk
    go_wp2_with (first | (refine wpList_load_mid rfl 35 (.tmp 3) rfl (w.heap.size + 1 + 1) 0 rfl (tab .i64 512 (both (codN c l) (codV c l))) _ ?_ hu rfl (hiA _) ?_; exact hr1) | (refine wpList_store_mid rfl 35 (.tmp 2) (.tmp 12) rfl (w.heap.size + 1) 0 (tab .i64 512 (both (codN c l) (codV c l))).toArray rfl rfl ?_ (hiB _) (tab_all _ _ _) ?_; exact hth))
    exact bodyPost_ret (results_cells rfl HX.out.1 hu rfl (hiA _) _ rfl) rfl ⟨rfl, HX.out.2⟩


end Go.Proofs.Ytlpeplihbdcklaa
