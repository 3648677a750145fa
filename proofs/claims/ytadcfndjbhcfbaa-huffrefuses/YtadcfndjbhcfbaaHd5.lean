/- What the program's Codes answers. -/
import Derived.Test.YtadcfndjbhcfbaaHd4
namespace Go.Proofs.Ytadcfndjbhcfbaa
set_option linter.unusedVariables false
open Go.ChangeShapes Go.WideShapes Go.ChangeAt Go.RowKit Go.Shelf

attribute [local go_sem] Oper.semAt_some wide_fn wide_depth Fence.inRound_fn Fence.inRound_depth

theorem toldN_ok {c : Nat → Int} {l : List Int} {i : Nat} (h : i < toldN c l) : OkT c l ∧ i < l.length := by
  unfold toldN at h
  cases hB : checkB c l
  · rw [hB] at h; simp at h
  · rw [hB, if_pos rfl] at h; exact ⟨(checkB_iff c l).1 hB, h⟩

theorem told_codes (c : Nat → Int) (l : List Int) : tab .i64 512 (both (toN c l (toldN c l)) (toV c l (toldN c l))) = tab .i64 512 (both (codN c l) (codV c l)) := both_congr _ _ _ _ (fun v _ => by
  unfold codN codV toldN
  cases hB : checkB c l
  · simpa using to_zero c l v
  · simp)

theorem view_off {w : World} {pv : Value} {l : List Int} (h : View w .u8 pv l) (T : Nat → Prop) (hT : ∀ k, T k → w.heap.size ≤ k) : Off T pv := View.off h (fun b hb q => by have := hT b q; omega)

set_option maxHeartbeats 6400000 in
set_option maxRecDepth 100000 in
theorem codes_spec (c : Nat → Int) (pv : Value) (l : List Int) (hI : ∀ j, j < 16 → I64 (c j)) (w : World) (hv : View w .u8 pv l) (hx : ∀ x ∈ l, 0 ≤ x ∧ x ≤ 255) (hl : l.length ≤ 140737488355328) : Calls Try.prog 17 #[.agg (tbl c pv).toArray] w fun e w' => e = .returned (.agg (tab .i64 512 (both (codN c l) (codV c l))).toArray) ∧ But Nowhere w w' := by
  have HV : Hid (View w .u8 pv l) := hv
  have HOFF := view_off hv (fun k => k = w.heap.size + 1 + 1) (fun k q => by omega)
  obtain ⟨ao, cap, rfl⟩ := hv.slice
  clear hv
  have huT := Try.underlying25
  have hu := Try.underlying37
  have hiT : (Try.prog.info? 25).map (·.size) = some (tbl c (.slice ao l.length cap)).length := by rw [tbl_length]; kernel_rfl
  have hiA : ∀ f, (Try.prog.info? 37).map (·.size) = some (tab .i64 512 f).length := fun f => by rw [tab_length]; kernel_rfl
  have hiB : ∀ f, (Try.prog.info? 37).map (·.size) = some (tab .i64 512 f).toArray.size := fun f => by rw [List.size_toArray, tab_length]; kernel_rfl
  have HI : Hid _ := And.intro hiA hiB
  clear hiA hiB
  have hz := zero512
  refine (callsIn_wide (n := 3)).1 ?_
  refine callsIn_of_wp_quiet Try.func17 rfl trivial ?_ rfl
  simp only [Try.ntmps17, List.size_toArray, List.length_cons, List.length_nil, Nat.reduceAdd, Nat.reduceSub, Array.replicate_succ, Array.replicate_zero, List.push_toArray, List.append_toArray, List.nil_append, List.cons_append]
  have kk := (((Keep.start w).made 25 (tbl c (.slice ao l.length cap))).made 37 (tab .i64 512 (fun _ => 0))).made 37 (tab .i64 512 (fun _ => 0))
  simp only [World.size_alloc] at kk
  have hR := (kk.get (b := w.heap.size) (t := 25) (c := tbl c (.slice ao l.length cap)) (by simp)).all
  gi_wp2_with (refine wpListIn_load_mid rfl 25 (.tmp 1) rfl (w.heap.size) 0 rfl (tbl c (.slice ao l.length cap)) _ ?_ huT rfl hiT ?_; exact hR)
  clear hR huT hiT hz
  revert kk
  generalize ((w.alloc (.cells (tbl c (.slice ao l.length cap)).toArray 25)).alloc (.cells (tab .i64 512 (fun _ => 0)).toArray 37)).alloc (.cells (tab .i64 512 (fun _ => 0)).toArray 37) = W0
  intro kk
  refine (callsIn_wide.2 (told_any c _ l W0 (HV.out.but kk.but))).mono ?_
  rintro e W1 ⟨tb, rfl, k1⟩
  have htb := k1.new (tb, 25, tbl c (.slice ao l.length cap)) (by simp)
  simp only at htb
  have ktb := k1.head
  have hz0 := kk.head.lt
  replace kk := kk.step k1.but
  have hz1 := k1.but.size
  have hV1 := HV.out.but kk.but
  have hcb := kk.head
  rw [show (tab .i64 512 (fun _ => 0)) = tab .i64 512 (both (toN c l 0) (toV c l 0)) from both_zero _ _ (fun v _ => to_zero c l v)] at hcb
  gi_wp2_with fail
  refine range_till (T := fun k => k = w.heap.size + 1 + 1) (fun i W => Cells W (w.heap.size + 1 + 1) 37 (tab .i64 512 (both (toN c l i) (toV c l i))))
    (fun _ => False) (told1_iter c _ l tb hI hx hl) rfl (enters_of Try.func37 (by kernel_rfl) rfl) (fun _ => rfl)
    (fun i U hU _ => ⟨ktb.but hU (by omega), hV1.butS hU HOFF⟩) (fun k hk => by omega) (fun i U U' hj hb => hj.but hb (by omega)) (fun U U' hj hb => hj) hcb ?_ ?_ ?_
  · intro lo i W KK hlo hlt hi hbW hJ hK
    obtain ⟨hok, hil⟩ := toldN_ok hi
    have gC0 := Cells.new W 36 [.int .i64 ((lenP c i : Nat) : Int), .int .i64 (numP c i)]
    have hlo1 : W1.heap.size ≤ W.heap.size := hbW.size
    obtain ⟨v, hv⟩ : ∃ v : Nat, l[i] = (v : Int) := ⟨l[i].toNat, by have := hx _ (List.getElem_mem hil); omega⟩
    have hv1 : v < 256 := by have := hx _ (List.getElem_mem hil); omega
    have HST : Hid _ := to_set c l hok.once i hil v hv
    rw [show toldA c l i = #[.int .u8 (v : Int), codeA c i] by unfold toldA; rw [List.getD_eq_getElem?_getD, List.getElem?_eq_getElem hil, ← hv]; rfl]
    unfold codeA
    gi_wp2_with fail
    refine hK _ _ ((But.refl _ _).alloc _) ?_
    clear hJ hK hbW hi
    intro U hU hlU hbU hJ
    have lw := hU.size
    simp only [World.size_alloc] at lw
    have gC := gC0.but hU (by omega)
    obtain ⟨sb, hsb⟩ : ∃ b, W.heap.size = b := ⟨_, rfl⟩
    rw [hsb] at gC lw hlo1 ⊢
    obtain ⟨L, hL⟩ : ∃ L : Nat, lenP c i = L := ⟨_, rfl⟩
    obtain ⟨Vn, hVn⟩ : ∃ V : Int, numP c i = V := ⟨_, rfl⟩
    rw [hL] at gC HST ⊢
    rw [hVn] at gC HST ⊢
    have cN := gC.at 0
    have cV := gC.at 1
    simp only [List.getElem?_cons_zero, List.getElem?_cons_succ] at cN cV
    have v0 : (0 : Int) ≤ (v : Int) := by omega
    have v2 : (v : Int) < 256 := by omega
    have q0 := hJ.cell (v * 2) (by omega)
    have q2 := hJ.cell (v * 2 + 1) (by omega)
    have f0 := hJ.frozen (v * 2)
    have f1 := hJ.frozen (v * 2 + 1)
    have kX := (hJ.set (v * 2) (.int .i64 (L : Int))).set (v * 2 + 1) (.int .i64 Vn)
    rw [both_set, HST.out] at kX
    have bX := ((But.refl (fun k => k = w.heap.size + 1 + 1) U).setCell (p := ⟨w.heap.size + 1 + 1, v * 2, none⟩) (fun _ => rfl) (.int .i64 (L : Int))).setCell (p := ⟨w.heap.size + 1 + 1, v * 2 + 1, none⟩) (fun _ => rfl) (.int .i64 Vn)
    have HX : Hid _ := And.intro bX kX
    clear gC0 hU hlU hsb hL hVn gC hJ kX bX hv
    gi_wp2_with fail
    exact HX.out
  · intro W' hb hJ hD hlt
    rw [told_codes] at hJ
    have hr1 := hJ.all
    have hc2 := (kk.get (b := w.heap.size + 1) (t := 37) (c := (tab .i64 512 (fun _ => 0))) (by simp)).but hb (by omega)
    have hth := hc2.there 0 (tab .i64 512 (both (codN c l) (codV c l))).toArray.size (by simp [tab_length])
    have hc3 := hc2.layAll (both (codN c l) (codV c l))
    have hbb : But Nowhere w W' := kk.but.step hb (fun k hk q => by omega)
    have hb3 := But.setCells (S := fun k => k = w.heap.size + 1) (tab .i64 512 (both (codN c l) (codV c l))) (But.refl (fun k => k = w.heap.size + 1) W') (fun _ => rfl) 0
    have hD3 := (hb3.block W1.heap.size hlt (by omega)).trans hD
    have HX : Hid _ := And.intro hc3 (And.intro hD3 (hbb.step hb3 (fun k hk q => by omega)))
    have hiB := HI.out.2
    have hiA := HI.out.1
    clear hc3 hD3 hb3 hbb hc2 hJ hb hD hcb hV1 ktb
    gi_wp2_with (first | (refine wpListIn_load_mid rfl 37 (.tmp 3) rfl (w.heap.size + 1 + 1) 0 rfl (tab .i64 512 (both (codN c l) (codV c l))) _ ?_ hu rfl (hiA _) ?_; exact hr1) | (refine wpListIn_store_mid rfl 37 (.tmp 2) (.tmp 13) rfl (w.heap.size + 1) 0 (tab .i64 512 (both (codN c l) (codV c l))).toArray rfl rfl ?_ (hiB _) (tab_all _ _ _) ?_; exact hth))
    refine ⟨by simp, .inl ⟨_, _, rfl, run_takeDeferred HX.out.2.1, ?_⟩⟩
    have hne : w.heap.size + 1 ≠ W1.heap.size := by omega
    have bD := But.putObj (S := fun k => k = W1.heap.size) (But.refl (fun k => k = W1.heap.size) (W'.setCells (w.heap.size + 1) 0 (tab .i64 512 (both (codN c l) (codV c l))))) (fun _ => rfl) (.deferred none)
    refine ⟨_, results_cells rfl (HX.out.1.but bD hne) hu rfl (hiA _) _ rfl, rfl, ?_⟩
    exact HX.out.2.2.step bD (fun k hk q => by have := kk.but.size; omega)
  · intro W' hb hJ
    exact hJ.elim

end Go.Proofs.Ytadcfndjbhcfbaa
