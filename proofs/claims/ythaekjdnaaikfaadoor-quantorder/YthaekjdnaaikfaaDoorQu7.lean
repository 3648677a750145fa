/- Tables of steps: the program's, the document's, both beside each other; the chapter's examples. -/
import Derived.Test.YthaekjdnaaikfaaDoorQu5
import Derived.Test.YthaekjdnaaikfaaDoorLst
namespace Go.Proofs.YthaekjdnaaikfaaDoor
set_option linter.unusedVariables false
open Go.ChangeShapes Go.WideShapes Go.ChangeAt Go.RowKit

theorem Tryd.elemI : ElemInfo Tryd.prog 29 3 (.int .i64 0) 1 8 := ⟨Tryd.underlying29, by kernel_rfl, rfl, by omega⟩

theorem tab_snoc (kd : IntKind) (k : Nat) (f : Nat → Int) : tab kd (k + 1) f = tab kd k f ++ [.int kd (f k)] := by
  unfold tab
  rw [List.range_succ, List.map_append]
  rfl

theorem tab_ints (n : Nat) (f : Nat → Int) : tab .i64 n f = ints .i64 ((List.range n).map f) := by
  unfold tab ints
  rw [List.map_map]
  rfl

theorem table_start (f : Nat → Int) : tab .i64 64 (fun j => if j < 0 then f j else 0) = tab .i64 64 (fun _ => 0) := tab_congr _ _ _ _ (fun j hj => if_neg (by omega))
theorem table_set (f : Nat → Int) (k : Nat) : (tab .i64 64 (fun j => if j < k then f j else 0)).set k (.int .i64 (f k)) = tab .i64 64 (fun j => if j < k + 1 then f j else 0) := tab_grow .i64 64 f (fun _ => 0) k
theorem table_full (f : Nat → Int) : tab .i64 64 (fun j => if j < 64 then f j else 0) = tab .i64 64 f := tab_congr _ _ _ _ (fun j hj => if_pos hj)

theorem Cells.view {W : World} {g : Nat} {t : TypeId} {f : Nat → Int} (h : Cells W g t (tab .i64 64 f)) : Sts W (.slice (some ⟨g, 0, none⟩) 64 64) f := Tb.view (k := .i64) ⟨g, rfl, h⟩

theorem tdiv_hund (a : Int) (h : 0 ≤ a) : a.tdiv 100 = a / 100 := Int.tdiv_eq_ediv_of_nonneg h

set_option maxHeartbeats 1600000 in
set_option maxRecDepth 100000 in
theorem table_any (part quality : Int) (w : World) (ht : QTab w) : Calls Tryd.prog 24 #[.int .i64 part, .int .i64 quality] w fun e w' => ∃ g, e = .returned (.slice (some ⟨g, 0, none⟩) 64 64) ∧ Keep w w' [(g, 3, tab .i64 64 (tableF part quality))] := by
  have HT : Hid (QTab w) := ht
  clear ht
  have hm : ∀ W : World, (Instr.makeSlice 29 (.int .i64 64) (.int .i64 64)).run Tryd.prog W = .ok (.slice (some ⟨W.heap.size, 0, none⟩) 64 64) (W.alloc (.cells (List.replicate 64 (Value.int .i64 0)).toArray 3)) := fun W => make_any Tryd.elemI 64 (.int .i64 0) (by intro j hj; have : j = 0 := (by omega); subst this; rfl) (by omega) (by omega) W
  have hb := scaleF_bd quality
  have HF : Hid (∀ k, k < 64 → 0 ≤ scaleF quality * lst (pl part) k ∧ scaleF quality * lst (pl part) k ≤ 605000 ∧ clipF ((scaleF quality * lst (pl part) k + 50) / 100) 1 255 = tableF part quality k) := fun k hk => by
    have := mulS_bd hb (lst_bd _ (pl_lt part) k hk)
    exact ⟨this.1, this.2, rfl⟩
  clear hb
  have kk := (Keep.start w).zero 3
  go_enter Tryd.func24, Tryd.ntmps24
  go_wp2_with (go_at_call 37; refine (scaleOf_any _ _).mono ?_; rintro e w' ⟨rfl, rfl⟩)
  revert kk
  generalize w'.alloc (.cells (Value.int .i64 0 :: Value.int .i64 0 :: Value.int .i64 0 :: Value.int .i64 0 :: Value.int .i64 0 :: Value.int .i64 0 :: Value.int .i64 0 :: Value.int .i64 0 :: Value.int .i64 0 :: Value.int .i64 0 :: Value.int .i64 0 :: Value.int .i64 0 :: Value.int .i64 0 :: Value.int .i64 0 :: Value.int .i64 0 :: Value.int .i64 0 :: Value.int .i64 0 :: Value.int .i64 0 :: Value.int .i64 0 :: Value.int .i64 0 :: Value.int .i64 0 :: Value.int .i64 0 :: Value.int .i64 0 :: Value.int .i64 0 :: Value.int .i64 0 :: Value.int .i64 0 :: Value.int .i64 0 :: Value.int .i64 0 :: Value.int .i64 0 :: Value.int .i64 0 :: Value.int .i64 0 :: Value.int .i64 0 :: Value.int .i64 0 :: Value.int .i64 0 :: Value.int .i64 0 :: Value.int .i64 0 :: Value.int .i64 0 :: Value.int .i64 0 :: Value.int .i64 0 :: Value.int .i64 0 :: Value.int .i64 0 :: Value.int .i64 0 :: Value.int .i64 0 :: Value.int .i64 0 :: Value.int .i64 0 :: Value.int .i64 0 :: Value.int .i64 0 :: Value.int .i64 0 :: Value.int .i64 0 :: Value.int .i64 0 :: Value.int .i64 0 :: Value.int .i64 0 :: Value.int .i64 0 :: Value.int .i64 0 :: Value.int .i64 0 :: Value.int .i64 0 :: Value.int .i64 0 :: Value.int .i64 0 :: Value.int .i64 0 :: Value.int .i64 0 :: Value.int .i64 0 :: Value.int .i64 0 :: Value.int .i64 0 :: Value.int .i64 0 :: []).toArray 3) = W1
  intro kk
  go_loopw [13] (fun i V => ∃ k : Nat, k ≤ 64 ∧ i = .int .i64 k ∧ Keep w' V [(w'.heap.size, 3, tab .i64 64 (fun j => if j < k then tableF part quality j else 0))]) (fun i _ => 64 - (intOf i).toNat)
  case atStart => exact ⟨0, Nat.zero_le _, rfl, by rw [table_start]; exact kk⟩
  case round =>
    clear kk hm
    obtain ⟨k, hk, rfl, kk⟩ := hrel
    by_cases hlt : k < 64
    · have i0 : (0 : Int) ≤ (k : Int) := by omega
      have i1 : (k : Int) < 64 := by omega
      obtain ⟨h0, h1, h2⟩ := HF.out k hlt
      have q0 := kk.head.cell k hlt
      have f0 := kk.head.frozen k
      have kX := kk.set k (.int .i64 (tableF part quality k))
      rw [table_set] at kX
      have HX : Hid _ := kX
      have HK : Hid _ := kk
      clear kX kk
      have r1 : ∀ _ : True, wrap64 (scaleF quality * lst (pl part) k) = scaleF quality * lst (pl part) k := fun _ => w64 _ (by omega)
      have r2 : ∀ _ : True, wrap64 (scaleF quality * lst (pl part) k + 50) = scaleF quality * lst (pl part) k + 50 := fun _ => w64 _ (by omega)
      have r3 : ∀ _ : True, (scaleF quality * lst (pl part) k + 50).tdiv 100 = (scaleF quality * lst (pl part) k + 50) / 100 := fun _ => tdiv_hund _ (by omega)
      have H3 : Hid (clipF (wrap64 ((scaleF quality * lst (pl part) k + 50) / 100)) 1 255 = tableF part quality k) := by rw [w64 _ (by omega)]; exact h2
      have H2 : Hid _ := h2
      clear h2
      go_wp2_with (first | (go_at_call 39; refine (listed_any _ k hlt _ (HT.out.but HK.out.but)).mono ?_; rintro e w' ⟨rfl, rfl⟩) | (go_at_call 38; refine (numClip_any _ _ _ _).mono ?_; rintro e w' ⟨rfl, rfl⟩; first | rw [H2.out] | rw [H3.out]))
      go_roundw
      case rel => exact ⟨k + 1, by omega, by go_num, HX.out⟩
      case measure => simp [intOf]; omega
    · obtain rfl : k = 64 := by omega
      rw [table_full] at kk
      have HX : Hid _ := kk
      clear kk
      go_wp2_with fail
      go_ret
      exact ⟨_, rfl, HX.out⟩

set_option maxHeartbeats 1600000 in
set_option maxRecDepth 100000 in
theorem refTable_any (part quality : Int) (w : World) : Calls Tryd.prog 25 #[.int .i64 part, .int .i64 quality] w fun e w' => ∃ v, e = .returned v ∧ Sts w' v (tableF part quality) ∧ But Nowhere w w' := by
  have hcl := clipF_bd quality 1 100 (by omega)
  have hsc : scaleF quality = if clipF quality 1 100 < 50 then 5000 / clipF quality 1 100 else 200 - 2 * clipF quality 1 100 := rfl
  have hb := scaleF_bd quality
  have HF : Hid (∀ k, k < 64 → 0 ≤ lst (pl part) k * scaleF quality ∧ lst (pl part) k * scaleF quality ≤ 605000 ∧ clipF ((lst (pl part) k * scaleF quality + 50) / 100) 1 255 = tableF part quality k) := fun k hk => by
    have := mulS_bd hb (lst_bd _ (pl_lt part) k hk)
    unfold tableF
    rw [Int.mul_comm (lst (pl part) k)]
    exact ⟨this.1, this.2, rfl⟩
  revert HF
  revert hb
  revert hsc
  generalize scaleF quality = sc
  revert hcl
  obtain ⟨c, hc⟩ : ∃ c, clipF quality 1 100 = c := ⟨_, rfl⟩
  rw [hc]
  intro hcl hsc hb HF
  have HC : Hid _ := hc
  clear hc
  have hmain : ∀ (w2 : World) (hb2 : But Nowhere w w2), True := fun _ _ => trivial
  clear hmain
  go_enter Tryd.func25, Tryd.ntmps25
  have hd : (c < 50 ∧ sc = 5000 / c) ∨ (¬ c < 50 ∧ sc = 200 - 2 * c) := by
    by_cases h : c < 50
    · exact .inl ⟨h, by rw [hsc, if_pos h]⟩
    · exact .inr ⟨h, by rw [hsc, if_neg h]⟩
  clear hsc
  rcases hd with ⟨hlow, hs⟩ | ⟨hlow, hs⟩
  all_goals
    go_upto_region 5 with (go_at_call 26; refine (refClip_any _ _ _ _).mono ?_; rintro e w' ⟨rfl, rfl⟩; rw [HC.out])
    rw [← hs]
    clear hs hlow hcl HC
    go_wp2_with fail
    refine (base_any part _).mono ?_
    rintro e x1 ⟨g, rfl, kk⟩
    have HB : Hid _ := kk
    clear kk
    go_wp2_with fail
    go_loopw [8, 9] (fun o i V => ∃ k : Nat, k ≤ 64 ∧ i = .int .i64 k ∧ Lst x1 V 3 1 o k (tab .i64 k (tableF part quality))) (fun _ i _ => 64 - (intOf i).toNat)
    case atStart => exact ⟨0, Nat.zero_le _, rfl, by simpa [tab] using Lst.start x1 3 1⟩
    case round =>
      obtain ⟨k, hk, rfl, LL⟩ := hrel
      obtain ⟨po, pc, rfl⟩ := LL.slice
      by_cases hlt : k < 64
      · have i0 : (0 : Int) ≤ (k : Int) := by omega
        have i1 : (k : Int) < 64 := by omega
        obtain ⟨h0, h1, h2⟩ := HF.out k hlt
        have c0 := LL.but.keeps (not_nowhere _) (HB.out.head.cell k hlt)
        have r1 : ∀ _ : True, wrap64 (lst (pl part) k * sc) = lst (pl part) k * sc := fun _ => w64 _ (by omega)
        have r2 : ∀ _ : True, wrap64 (lst (pl part) k * sc + 50) = lst (pl part) k * sc + 50 := fun _ => w64 _ (by omega)
        have r3 : ∀ _ : True, (lst (pl part) k * sc + 50).tdiv 100 = (lst (pl part) k * sc + 50) / 100 := fun _ => tdiv_hund _ (by omega)
        have H3 : Hid (clipF (wrap64 ((lst (pl part) k * sc + 50) / 100)) 1 255 = tableF part quality k) := by rw [w64 _ (by omega)]; exact h2
        have H2 : Hid _ := h2
        have H0 : Hid _ := h0
        clear h2 h0 h1
        have HL : Hid _ := LL
        clear LL
        have hh := H0.out
        obtain ⟨g', cap, W4, hrun, L4, b4, hg4⟩ := Lst.push Tryd.elemI HL.out [.int .i64 (tableF part quality k)] rfl (by simp [Value.oneCell']) (by omega) (by omega) _ rfl
        rw [← tab_snoc] at L4
        have HX : Hid _ := L4
        have HR : Hid _ := hrun
        clear L4 b4 hg4 HL hrun
        go_wp2_with (first | (go_at_call 26; refine (refClip_any _ _ _ _).mono ?_; rintro e w' ⟨rfl, rfl⟩; first | rw [H2.out] | rw [H3.out]) | (at_builtin; refine wpList_append_run rfl _ _ _ rfl _ _ (by rfl) (by rfl) _ _ HR.out ?_))
        go_roundw
        case rel => exact ⟨k + 1, by omega, by go_num, HX.out⟩
        case measure => simp [intOf]; omega
      · obtain rfl : k = 64 := by omega
        have h9 := LL.own
        rw [tab_ints] at h9
        have HX : Hid _ := And.intro (View.of_owns h9) (HB.out.but.trans LL.but)
        clear LL h9
        go_wp2_with fail
        go_ret
        exact ⟨_, rfl, HX.out.1, HX.out.2⟩

end Go.Proofs.YthaekjdnaaikfaaDoor
