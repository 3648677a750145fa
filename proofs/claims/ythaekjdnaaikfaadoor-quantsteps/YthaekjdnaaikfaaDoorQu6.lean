/- What the document's Forward and Back of layer 9 answer. -/
import Derived.Test.YthaekjdnaaikfaaDoorQu5
namespace Go.Proofs.YthaekjdnaaikfaaDoor
set_option linter.unusedVariables false
open Go.ChangeShapes Go.WideShapes Go.ChangeAt Go.RowKit

set_option maxHeartbeats 6400000 in
set_option maxRecDepth 100000 in
theorem qForwardRef_any (b q : Nat → Int) (v : Value) (w : World) (hv : Sts w v q) (hq : Stp q) : Calls Tryd.prog 16 #[.agg (tab .i64 64 b).toArray, v] w fun e w' =>
    e = .returned (.agg (tab .i64 64 (qfwd b q)).toArray) ∧ But Nowhere w w' := by
  obtain ⟨sb, off, cap, rfl, hc⟩ := hv.all
  have HC : Hid _ := hc
  clear hc hv
  have hu := Tryd.underlying27
  have hiA : (Tryd.prog.info? 27).map (·.size) = some (tab .i64 64 (qfwd b q)).length := by rw [tab_length]; kernel_rfl
  have hiB : (Tryd.prog.info? 27).map (·.size) = some (tab .i64 64 (qfwd b q)).toArray.size := by rw [List.size_toArray, tab_length]; kernel_rfl
  have hiC : (Tryd.prog.info? 27).map (fun i => i.size) = some (tab .i64 64 (qfwd b q)).length := by rw [tab_length]; kernel_rfl
  have hi64 : (Tryd.prog.info? 27).map (·.size) = some 64 := by kernel_rfl
  have hall : (Value.int .i64 0 :: Value.int .i64 0 :: Value.int .i64 0 :: Value.int .i64 0 :: Value.int .i64 0 :: Value.int .i64 0 :: Value.int .i64 0 :: Value.int .i64 0 :: Value.int .i64 0 :: Value.int .i64 0 :: Value.int .i64 0 :: Value.int .i64 0 :: Value.int .i64 0 :: Value.int .i64 0 :: Value.int .i64 0 :: Value.int .i64 0 :: Value.int .i64 0 :: Value.int .i64 0 :: Value.int .i64 0 :: Value.int .i64 0 :: Value.int .i64 0 :: Value.int .i64 0 :: Value.int .i64 0 :: Value.int .i64 0 :: Value.int .i64 0 :: Value.int .i64 0 :: Value.int .i64 0 :: Value.int .i64 0 :: Value.int .i64 0 :: Value.int .i64 0 :: Value.int .i64 0 :: Value.int .i64 0 :: Value.int .i64 0 :: Value.int .i64 0 :: Value.int .i64 0 :: Value.int .i64 0 :: Value.int .i64 0 :: Value.int .i64 0 :: Value.int .i64 0 :: Value.int .i64 0 :: Value.int .i64 0 :: Value.int .i64 0 :: Value.int .i64 0 :: Value.int .i64 0 :: Value.int .i64 0 :: Value.int .i64 0 :: Value.int .i64 0 :: Value.int .i64 0 :: Value.int .i64 0 :: Value.int .i64 0 :: Value.int .i64 0 :: Value.int .i64 0 :: Value.int .i64 0 :: Value.int .i64 0 :: Value.int .i64 0 :: Value.int .i64 0 :: Value.int .i64 0 :: Value.int .i64 0 :: Value.int .i64 0 :: Value.int .i64 0 :: Value.int .i64 0 :: Value.int .i64 0 :: Value.int .i64 0 :: Value.int .i64 0 :: []).toArray.all (·.oneCell') = true := by have := tab_all .i64 64 (fun _ => 0); rw [← sixtyfour] at this; exact this
  have HZ : Hid _ := And.intro hi64 hall
  clear hi64 hall
  have kk := (((Keep.start w).made 27 (tab .i64 64 b)).zero 27).zeroed
  have hth := there_zero ((w.alloc (.cells (tab .i64 64 b).toArray 27)).alloc (.cells (Value.int .i64 0 :: Value.int .i64 0 :: Value.int .i64 0 :: Value.int .i64 0 :: Value.int .i64 0 :: Value.int .i64 0 :: Value.int .i64 0 :: Value.int .i64 0 :: Value.int .i64 0 :: Value.int .i64 0 :: Value.int .i64 0 :: Value.int .i64 0 :: Value.int .i64 0 :: Value.int .i64 0 :: Value.int .i64 0 :: Value.int .i64 0 :: Value.int .i64 0 :: Value.int .i64 0 :: Value.int .i64 0 :: Value.int .i64 0 :: Value.int .i64 0 :: Value.int .i64 0 :: Value.int .i64 0 :: Value.int .i64 0 :: Value.int .i64 0 :: Value.int .i64 0 :: Value.int .i64 0 :: Value.int .i64 0 :: Value.int .i64 0 :: Value.int .i64 0 :: Value.int .i64 0 :: Value.int .i64 0 :: Value.int .i64 0 :: Value.int .i64 0 :: Value.int .i64 0 :: Value.int .i64 0 :: Value.int .i64 0 :: Value.int .i64 0 :: Value.int .i64 0 :: Value.int .i64 0 :: Value.int .i64 0 :: Value.int .i64 0 :: Value.int .i64 0 :: Value.int .i64 0 :: Value.int .i64 0 :: Value.int .i64 0 :: Value.int .i64 0 :: Value.int .i64 0 :: Value.int .i64 0 :: Value.int .i64 0 :: Value.int .i64 0 :: Value.int .i64 0 :: Value.int .i64 0 :: Value.int .i64 0 :: Value.int .i64 0 :: Value.int .i64 0 :: Value.int .i64 0 :: Value.int .i64 0 :: Value.int .i64 0 :: Value.int .i64 0 :: Value.int .i64 0 :: Value.int .i64 0 :: Value.int .i64 0 :: Value.int .i64 0 :: []).toArray 27))
  simp only [World.size_alloc] at kk hth
  go_enter Tryd.func16, Tryd.ntmps16
  go_wp2_with (refine wpList_store_mid rfl 27 (.tmp 5) (.tmp 8) rfl (w.heap.size + 1 + 1) 0 (Value.int .i64 0 :: Value.int .i64 0 :: Value.int .i64 0 :: Value.int .i64 0 :: Value.int .i64 0 :: Value.int .i64 0 :: Value.int .i64 0 :: Value.int .i64 0 :: Value.int .i64 0 :: Value.int .i64 0 :: Value.int .i64 0 :: Value.int .i64 0 :: Value.int .i64 0 :: Value.int .i64 0 :: Value.int .i64 0 :: Value.int .i64 0 :: Value.int .i64 0 :: Value.int .i64 0 :: Value.int .i64 0 :: Value.int .i64 0 :: Value.int .i64 0 :: Value.int .i64 0 :: Value.int .i64 0 :: Value.int .i64 0 :: Value.int .i64 0 :: Value.int .i64 0 :: Value.int .i64 0 :: Value.int .i64 0 :: Value.int .i64 0 :: Value.int .i64 0 :: Value.int .i64 0 :: Value.int .i64 0 :: Value.int .i64 0 :: Value.int .i64 0 :: Value.int .i64 0 :: Value.int .i64 0 :: Value.int .i64 0 :: Value.int .i64 0 :: Value.int .i64 0 :: Value.int .i64 0 :: Value.int .i64 0 :: Value.int .i64 0 :: Value.int .i64 0 :: Value.int .i64 0 :: Value.int .i64 0 :: Value.int .i64 0 :: Value.int .i64 0 :: Value.int .i64 0 :: Value.int .i64 0 :: Value.int .i64 0 :: Value.int .i64 0 :: Value.int .i64 0 :: Value.int .i64 0 :: Value.int .i64 0 :: Value.int .i64 0 :: Value.int .i64 0 :: Value.int .i64 0 :: Value.int .i64 0 :: Value.int .i64 0 :: Value.int .i64 0 :: Value.int .i64 0 :: Value.int .i64 0 :: Value.int .i64 0 :: Value.int .i64 0 :: []).toArray rfl rfl hth HZ.out.1 HZ.out.2 ?_)
  clear hth HZ
  revert kk
  generalize (((w.alloc (.cells (tab .i64 64 b).toArray 27)).alloc (.cells (Value.int .i64 0 :: Value.int .i64 0 :: Value.int .i64 0 :: Value.int .i64 0 :: Value.int .i64 0 :: Value.int .i64 0 :: Value.int .i64 0 :: Value.int .i64 0 :: Value.int .i64 0 :: Value.int .i64 0 :: Value.int .i64 0 :: Value.int .i64 0 :: Value.int .i64 0 :: Value.int .i64 0 :: Value.int .i64 0 :: Value.int .i64 0 :: Value.int .i64 0 :: Value.int .i64 0 :: Value.int .i64 0 :: Value.int .i64 0 :: Value.int .i64 0 :: Value.int .i64 0 :: Value.int .i64 0 :: Value.int .i64 0 :: Value.int .i64 0 :: Value.int .i64 0 :: Value.int .i64 0 :: Value.int .i64 0 :: Value.int .i64 0 :: Value.int .i64 0 :: Value.int .i64 0 :: Value.int .i64 0 :: Value.int .i64 0 :: Value.int .i64 0 :: Value.int .i64 0 :: Value.int .i64 0 :: Value.int .i64 0 :: Value.int .i64 0 :: Value.int .i64 0 :: Value.int .i64 0 :: Value.int .i64 0 :: Value.int .i64 0 :: Value.int .i64 0 :: Value.int .i64 0 :: Value.int .i64 0 :: Value.int .i64 0 :: Value.int .i64 0 :: Value.int .i64 0 :: Value.int .i64 0 :: Value.int .i64 0 :: Value.int .i64 0 :: Value.int .i64 0 :: Value.int .i64 0 :: Value.int .i64 0 :: Value.int .i64 0 :: Value.int .i64 0 :: Value.int .i64 0 :: Value.int .i64 0 :: Value.int .i64 0 :: Value.int .i64 0 :: Value.int .i64 0 :: Value.int .i64 0 :: Value.int .i64 0 :: Value.int .i64 0 :: []).toArray 27)).alloc (.cells (Value.int .i64 0 :: Value.int .i64 0 :: Value.int .i64 0 :: Value.int .i64 0 :: Value.int .i64 0 :: Value.int .i64 0 :: Value.int .i64 0 :: Value.int .i64 0 :: Value.int .i64 0 :: Value.int .i64 0 :: Value.int .i64 0 :: Value.int .i64 0 :: Value.int .i64 0 :: Value.int .i64 0 :: Value.int .i64 0 :: Value.int .i64 0 :: Value.int .i64 0 :: Value.int .i64 0 :: Value.int .i64 0 :: Value.int .i64 0 :: Value.int .i64 0 :: Value.int .i64 0 :: Value.int .i64 0 :: Value.int .i64 0 :: Value.int .i64 0 :: Value.int .i64 0 :: Value.int .i64 0 :: Value.int .i64 0 :: Value.int .i64 0 :: Value.int .i64 0 :: Value.int .i64 0 :: Value.int .i64 0 :: Value.int .i64 0 :: Value.int .i64 0 :: Value.int .i64 0 :: Value.int .i64 0 :: Value.int .i64 0 :: Value.int .i64 0 :: Value.int .i64 0 :: Value.int .i64 0 :: Value.int .i64 0 :: Value.int .i64 0 :: Value.int .i64 0 :: Value.int .i64 0 :: Value.int .i64 0 :: Value.int .i64 0 :: Value.int .i64 0 :: Value.int .i64 0 :: Value.int .i64 0 :: Value.int .i64 0 :: Value.int .i64 0 :: Value.int .i64 0 :: Value.int .i64 0 :: Value.int .i64 0 :: Value.int .i64 0 :: Value.int .i64 0 :: Value.int .i64 0 :: Value.int .i64 0 :: Value.int .i64 0 :: Value.int .i64 0 :: Value.int .i64 0 :: Value.int .i64 0 :: Value.int .i64 0 :: Value.int .i64 0 :: []).toArray 27)).setCells (w.heap.size + 1 + 1) 0 (Value.int .i64 0 :: Value.int .i64 0 :: Value.int .i64 0 :: Value.int .i64 0 :: Value.int .i64 0 :: Value.int .i64 0 :: Value.int .i64 0 :: Value.int .i64 0 :: Value.int .i64 0 :: Value.int .i64 0 :: Value.int .i64 0 :: Value.int .i64 0 :: Value.int .i64 0 :: Value.int .i64 0 :: Value.int .i64 0 :: Value.int .i64 0 :: Value.int .i64 0 :: Value.int .i64 0 :: Value.int .i64 0 :: Value.int .i64 0 :: Value.int .i64 0 :: Value.int .i64 0 :: Value.int .i64 0 :: Value.int .i64 0 :: Value.int .i64 0 :: Value.int .i64 0 :: Value.int .i64 0 :: Value.int .i64 0 :: Value.int .i64 0 :: Value.int .i64 0 :: Value.int .i64 0 :: Value.int .i64 0 :: Value.int .i64 0 :: Value.int .i64 0 :: Value.int .i64 0 :: Value.int .i64 0 :: Value.int .i64 0 :: Value.int .i64 0 :: Value.int .i64 0 :: Value.int .i64 0 :: Value.int .i64 0 :: Value.int .i64 0 :: Value.int .i64 0 :: Value.int .i64 0 :: Value.int .i64 0 :: Value.int .i64 0 :: Value.int .i64 0 :: Value.int .i64 0 :: Value.int .i64 0 :: Value.int .i64 0 :: Value.int .i64 0 :: Value.int .i64 0 :: Value.int .i64 0 :: Value.int .i64 0 :: Value.int .i64 0 :: Value.int .i64 0 :: Value.int .i64 0 :: Value.int .i64 0 :: Value.int .i64 0 :: Value.int .i64 0 :: Value.int .i64 0 :: Value.int .i64 0 :: Value.int .i64 0 :: Value.int .i64 0 :: []) = W3
  intro kk
  try simp only [Act.put]
  go_loopw [6] (fun i V => ∃ k : Nat, k ≤ 64 ∧ i = .int .i64 k ∧ Keep w V [(w.heap.size + 1 + 1, 27, tab .i64 64 (fun j => if j < k then qfwd b q j else 0)), (w.heap.size + 1, 27, tab .i64 64 (fun _ => 0)), (w.heap.size, 27, tab .i64 64 b)]) (fun i _ => 64 - (intOf i).toNat)
  case atStart => exact ⟨0, Nat.zero_le _, rfl, by rw [fwd_start]; exact kk⟩
  case round =>
    clear kk
    obtain ⟨k, hk, rfl, kk⟩ := hrel
    by_cases hlt : k < 64
    · have i0 : (0 : Int) ≤ (k : Int) := by omega
      have i1 : (k : Int) < 64 := by omega
      have hz := zz_lt k hlt
      have j0 : (0 : Int) ≤ ((zz k : Nat) : Int) := by omega
      have j1 : ((zz k : Nat) : Int) < 64 := by omega
      have HQ : Hid _ := hq (zz k) hz
      have HN : Hid _ := clipF_bd (b (zz k)) (-32767) 32767 (by omega)
      go_wp2_with fail
      refine (refZig_in k hlt _).mono ?_
      rintro e x1 ⟨rfl, dd⟩
      replace kk := kk.step dd
      clear dd
      have c0 := (kk.get (b := w.heap.size) (t := 27) (c := tab .i64 64 b) (by simp)).cell (zz k) hz
      go_wp2_with (go_at_call 26; refine (refClip_any _ _ _ _).mono ?_; rintro e w' ⟨rfl, rfl⟩)
      refine (refZig_in k hlt _).mono ?_
      rintro e x2 ⟨rfl, dd⟩
      replace kk := kk.step dd
      clear dd c0
      have c0 := kk.but.keeps (not_nowhere _) (HC.out (zz k) hz)
      have q0 := kk.head.cell k hlt
      have f0 := kk.head.frozen k
      go_upto_region 7 with (first | (go_at_call 26; refine (refClip_any _ _ _ _).mono ?_; rintro e w' ⟨rfl, rfl⟩) | (go_at_call 28; refine (refRound_in _ _ _ (by have := HN.out; omega) (by have := HN.out; omega) HQ.out.1 (by have := HQ.out; omega)).mono ?_; rintro e w' ⟨rfl, rfl⟩))
      replace kk := kk.set k (.int .i64 (clipF (nearF (clipF (b (zz k)) (-32767) 32767) (q (zz k))) (-1023) 1023))
      clear c0 q0 f0
      revert kk
      generalize w'.setCell ⟨w.heap.size + 1 + 1, k, none⟩ (.int .i64 (clipF (nearF (clipF (b (zz k)) (-32767) 32767) (q (zz k))) (-1023) 1023)) = WV
      intro kk
      have hf0 : k = 0 → clipF (nearF (clipF (b (zz k)) (-32767) 32767) (q (zz k))) (-1024) 1023 = qfwd b q k := fun hk0 => by unfold qfwd leastF; rw [if_pos hk0]
      have hf1 : ¬ k = 0 → clipF (nearF (clipF (b (zz k)) (-32767) 32767) (q (zz k))) (-1023) 1023 = qfwd b q k := fun hk0 => by unfold qfwd leastF; rw [if_neg hk0]
      revert hf1
      revert hf0
      revert kk
      generalize nearF (clipF (b (zz k)) (-32767) 32767) (q (zz k)) = nn
      intro kk hf0 hf1
      by_cases hk0 : k = 0
      · have hf := hf0 hk0
        clear hf0 hf1
        subst hk0
        have q0 := kk.head.at 0
        have f0 := kk.head.frozen 0
        rw [List.getElem?_set_self (by rw [tab_length]; exact hlt)] at q0
        have kX := kk.set 0 (.int .i64 (clipF nn (-1024) 1023))
        rw [List.set_set, hf, fwd_set] at kX
        have HX : Hid _ := kX
        have HF : Hid _ := hf
        clear kX kk hf
        go_wp2_with (go_at_call 26; refine (refClip_any _ _ _ _).mono ?_; rintro e w' ⟨rfl, rfl⟩; rw [HF.out])
        go_roundw
        case rel => exact ⟨0 + 1, by omega, by go_num, HX.out⟩
        case measure => simp [intOf]
      · have hf := hf1 hk0
        rw [hf, fwd_set] at kk
        have HX : Hid _ := kk
        clear kk hf hf0 hf1
        have hk00 : ¬ (k : Int) = 0 := by omega
        go_wp2_with fail
        go_roundw
        case rel => exact ⟨k + 1, by omega, by go_num, HX.out⟩
        case measure => simp [intOf]; omega
    · obtain rfl : k = 64 := by omega
      rw [fwd_full] at kk
      have hr1 := kk.head.all
      replace kk := kk.swap
      have hth := kk.head.there 0 (tab .i64 64 (qfwd b q)).toArray.size (by rw [List.size_toArray, tab_length, tab_length]; omega)
      have kX := kk.layAll (qfwd b q)
      have HX : Hid _ := And.intro kX.head kX.but
      clear kX kk
      go_wp2_with (first | (refine wpList_load_mid rfl 27 (.tmp 5) rfl (w.heap.size + 1 + 1) 0 rfl (tab .i64 64 (qfwd b q)) _ ?_ hu rfl hiA ?_; exact hr1) | (refine wpList_store_mid rfl 27 (.tmp 4) (.tmp 34) rfl (w.heap.size + 1) 0 (tab .i64 64 (qfwd b q)).toArray rfl rfl ?_ hiB (tab_all _ _ _) ?_; exact hth))
      exact bodyPost_ret (results_cells rfl HX.out.1 hu rfl hiC _ rfl) rfl ⟨rfl, HX.out.2⟩

set_option maxHeartbeats 6400000 in
set_option maxRecDepth 100000 in
theorem qBackRef_any (z q : Nat → Int) (v : Value) (w : World) (hv : Sts w v q) (hq : Stp q) : Calls Tryd.prog 19 #[.agg (tab .i64 64 z).toArray, v] w fun e w' =>
    e = .returned (.agg (tab .i64 64 (qbck z q)).toArray) ∧ But Nowhere w w' := by
  obtain ⟨sb, off, cap, rfl, hc⟩ := hv.all
  have HC : Hid _ := hc
  clear hc hv
  have hu := Tryd.underlying27
  have hiA : (Tryd.prog.info? 27).map (·.size) = some (tab .i64 64 (qbck z q)).length := by rw [tab_length]; kernel_rfl
  have hiB : (Tryd.prog.info? 27).map (·.size) = some (tab .i64 64 (qbck z q)).toArray.size := by rw [List.size_toArray, tab_length]; kernel_rfl
  have hiC : (Tryd.prog.info? 27).map (fun i => i.size) = some (tab .i64 64 (qbck z q)).length := by rw [tab_length]; kernel_rfl
  have hi64 : (Tryd.prog.info? 27).map (·.size) = some 64 := by kernel_rfl
  have hall : (Value.int .i64 0 :: Value.int .i64 0 :: Value.int .i64 0 :: Value.int .i64 0 :: Value.int .i64 0 :: Value.int .i64 0 :: Value.int .i64 0 :: Value.int .i64 0 :: Value.int .i64 0 :: Value.int .i64 0 :: Value.int .i64 0 :: Value.int .i64 0 :: Value.int .i64 0 :: Value.int .i64 0 :: Value.int .i64 0 :: Value.int .i64 0 :: Value.int .i64 0 :: Value.int .i64 0 :: Value.int .i64 0 :: Value.int .i64 0 :: Value.int .i64 0 :: Value.int .i64 0 :: Value.int .i64 0 :: Value.int .i64 0 :: Value.int .i64 0 :: Value.int .i64 0 :: Value.int .i64 0 :: Value.int .i64 0 :: Value.int .i64 0 :: Value.int .i64 0 :: Value.int .i64 0 :: Value.int .i64 0 :: Value.int .i64 0 :: Value.int .i64 0 :: Value.int .i64 0 :: Value.int .i64 0 :: Value.int .i64 0 :: Value.int .i64 0 :: Value.int .i64 0 :: Value.int .i64 0 :: Value.int .i64 0 :: Value.int .i64 0 :: Value.int .i64 0 :: Value.int .i64 0 :: Value.int .i64 0 :: Value.int .i64 0 :: Value.int .i64 0 :: Value.int .i64 0 :: Value.int .i64 0 :: Value.int .i64 0 :: Value.int .i64 0 :: Value.int .i64 0 :: Value.int .i64 0 :: Value.int .i64 0 :: Value.int .i64 0 :: Value.int .i64 0 :: Value.int .i64 0 :: Value.int .i64 0 :: Value.int .i64 0 :: Value.int .i64 0 :: Value.int .i64 0 :: Value.int .i64 0 :: Value.int .i64 0 :: Value.int .i64 0 :: []).toArray.all (·.oneCell') = true := by have := tab_all .i64 64 (fun _ => 0); rw [← sixtyfour] at this; exact this
  have HZ : Hid _ := And.intro hi64 hall
  clear hi64 hall
  have kk := (((Keep.start w).made 27 (tab .i64 64 z)).zero 27).zeroed
  have hth := there_zero ((w.alloc (.cells (tab .i64 64 z).toArray 27)).alloc (.cells (Value.int .i64 0 :: Value.int .i64 0 :: Value.int .i64 0 :: Value.int .i64 0 :: Value.int .i64 0 :: Value.int .i64 0 :: Value.int .i64 0 :: Value.int .i64 0 :: Value.int .i64 0 :: Value.int .i64 0 :: Value.int .i64 0 :: Value.int .i64 0 :: Value.int .i64 0 :: Value.int .i64 0 :: Value.int .i64 0 :: Value.int .i64 0 :: Value.int .i64 0 :: Value.int .i64 0 :: Value.int .i64 0 :: Value.int .i64 0 :: Value.int .i64 0 :: Value.int .i64 0 :: Value.int .i64 0 :: Value.int .i64 0 :: Value.int .i64 0 :: Value.int .i64 0 :: Value.int .i64 0 :: Value.int .i64 0 :: Value.int .i64 0 :: Value.int .i64 0 :: Value.int .i64 0 :: Value.int .i64 0 :: Value.int .i64 0 :: Value.int .i64 0 :: Value.int .i64 0 :: Value.int .i64 0 :: Value.int .i64 0 :: Value.int .i64 0 :: Value.int .i64 0 :: Value.int .i64 0 :: Value.int .i64 0 :: Value.int .i64 0 :: Value.int .i64 0 :: Value.int .i64 0 :: Value.int .i64 0 :: Value.int .i64 0 :: Value.int .i64 0 :: Value.int .i64 0 :: Value.int .i64 0 :: Value.int .i64 0 :: Value.int .i64 0 :: Value.int .i64 0 :: Value.int .i64 0 :: Value.int .i64 0 :: Value.int .i64 0 :: Value.int .i64 0 :: Value.int .i64 0 :: Value.int .i64 0 :: Value.int .i64 0 :: Value.int .i64 0 :: Value.int .i64 0 :: Value.int .i64 0 :: Value.int .i64 0 :: Value.int .i64 0 :: []).toArray 27))
  simp only [World.size_alloc] at kk hth
  go_enter Tryd.func19, Tryd.ntmps19
  go_wp2_with (refine wpList_store_mid rfl 27 (.tmp 5) (.tmp 7) rfl (w.heap.size + 1 + 1) 0 (Value.int .i64 0 :: Value.int .i64 0 :: Value.int .i64 0 :: Value.int .i64 0 :: Value.int .i64 0 :: Value.int .i64 0 :: Value.int .i64 0 :: Value.int .i64 0 :: Value.int .i64 0 :: Value.int .i64 0 :: Value.int .i64 0 :: Value.int .i64 0 :: Value.int .i64 0 :: Value.int .i64 0 :: Value.int .i64 0 :: Value.int .i64 0 :: Value.int .i64 0 :: Value.int .i64 0 :: Value.int .i64 0 :: Value.int .i64 0 :: Value.int .i64 0 :: Value.int .i64 0 :: Value.int .i64 0 :: Value.int .i64 0 :: Value.int .i64 0 :: Value.int .i64 0 :: Value.int .i64 0 :: Value.int .i64 0 :: Value.int .i64 0 :: Value.int .i64 0 :: Value.int .i64 0 :: Value.int .i64 0 :: Value.int .i64 0 :: Value.int .i64 0 :: Value.int .i64 0 :: Value.int .i64 0 :: Value.int .i64 0 :: Value.int .i64 0 :: Value.int .i64 0 :: Value.int .i64 0 :: Value.int .i64 0 :: Value.int .i64 0 :: Value.int .i64 0 :: Value.int .i64 0 :: Value.int .i64 0 :: Value.int .i64 0 :: Value.int .i64 0 :: Value.int .i64 0 :: Value.int .i64 0 :: Value.int .i64 0 :: Value.int .i64 0 :: Value.int .i64 0 :: Value.int .i64 0 :: Value.int .i64 0 :: Value.int .i64 0 :: Value.int .i64 0 :: Value.int .i64 0 :: Value.int .i64 0 :: Value.int .i64 0 :: Value.int .i64 0 :: Value.int .i64 0 :: Value.int .i64 0 :: Value.int .i64 0 :: Value.int .i64 0 :: []).toArray rfl rfl hth HZ.out.1 HZ.out.2 ?_)
  clear hth HZ
  revert kk
  generalize (((w.alloc (.cells (tab .i64 64 z).toArray 27)).alloc (.cells (Value.int .i64 0 :: Value.int .i64 0 :: Value.int .i64 0 :: Value.int .i64 0 :: Value.int .i64 0 :: Value.int .i64 0 :: Value.int .i64 0 :: Value.int .i64 0 :: Value.int .i64 0 :: Value.int .i64 0 :: Value.int .i64 0 :: Value.int .i64 0 :: Value.int .i64 0 :: Value.int .i64 0 :: Value.int .i64 0 :: Value.int .i64 0 :: Value.int .i64 0 :: Value.int .i64 0 :: Value.int .i64 0 :: Value.int .i64 0 :: Value.int .i64 0 :: Value.int .i64 0 :: Value.int .i64 0 :: Value.int .i64 0 :: Value.int .i64 0 :: Value.int .i64 0 :: Value.int .i64 0 :: Value.int .i64 0 :: Value.int .i64 0 :: Value.int .i64 0 :: Value.int .i64 0 :: Value.int .i64 0 :: Value.int .i64 0 :: Value.int .i64 0 :: Value.int .i64 0 :: Value.int .i64 0 :: Value.int .i64 0 :: Value.int .i64 0 :: Value.int .i64 0 :: Value.int .i64 0 :: Value.int .i64 0 :: Value.int .i64 0 :: Value.int .i64 0 :: Value.int .i64 0 :: Value.int .i64 0 :: Value.int .i64 0 :: Value.int .i64 0 :: Value.int .i64 0 :: Value.int .i64 0 :: Value.int .i64 0 :: Value.int .i64 0 :: Value.int .i64 0 :: Value.int .i64 0 :: Value.int .i64 0 :: Value.int .i64 0 :: Value.int .i64 0 :: Value.int .i64 0 :: Value.int .i64 0 :: Value.int .i64 0 :: Value.int .i64 0 :: Value.int .i64 0 :: Value.int .i64 0 :: Value.int .i64 0 :: Value.int .i64 0 :: []).toArray 27)).alloc (.cells (Value.int .i64 0 :: Value.int .i64 0 :: Value.int .i64 0 :: Value.int .i64 0 :: Value.int .i64 0 :: Value.int .i64 0 :: Value.int .i64 0 :: Value.int .i64 0 :: Value.int .i64 0 :: Value.int .i64 0 :: Value.int .i64 0 :: Value.int .i64 0 :: Value.int .i64 0 :: Value.int .i64 0 :: Value.int .i64 0 :: Value.int .i64 0 :: Value.int .i64 0 :: Value.int .i64 0 :: Value.int .i64 0 :: Value.int .i64 0 :: Value.int .i64 0 :: Value.int .i64 0 :: Value.int .i64 0 :: Value.int .i64 0 :: Value.int .i64 0 :: Value.int .i64 0 :: Value.int .i64 0 :: Value.int .i64 0 :: Value.int .i64 0 :: Value.int .i64 0 :: Value.int .i64 0 :: Value.int .i64 0 :: Value.int .i64 0 :: Value.int .i64 0 :: Value.int .i64 0 :: Value.int .i64 0 :: Value.int .i64 0 :: Value.int .i64 0 :: Value.int .i64 0 :: Value.int .i64 0 :: Value.int .i64 0 :: Value.int .i64 0 :: Value.int .i64 0 :: Value.int .i64 0 :: Value.int .i64 0 :: Value.int .i64 0 :: Value.int .i64 0 :: Value.int .i64 0 :: Value.int .i64 0 :: Value.int .i64 0 :: Value.int .i64 0 :: Value.int .i64 0 :: Value.int .i64 0 :: Value.int .i64 0 :: Value.int .i64 0 :: Value.int .i64 0 :: Value.int .i64 0 :: Value.int .i64 0 :: Value.int .i64 0 :: Value.int .i64 0 :: Value.int .i64 0 :: Value.int .i64 0 :: Value.int .i64 0 :: Value.int .i64 0 :: []).toArray 27)).setCells (w.heap.size + 1 + 1) 0 (Value.int .i64 0 :: Value.int .i64 0 :: Value.int .i64 0 :: Value.int .i64 0 :: Value.int .i64 0 :: Value.int .i64 0 :: Value.int .i64 0 :: Value.int .i64 0 :: Value.int .i64 0 :: Value.int .i64 0 :: Value.int .i64 0 :: Value.int .i64 0 :: Value.int .i64 0 :: Value.int .i64 0 :: Value.int .i64 0 :: Value.int .i64 0 :: Value.int .i64 0 :: Value.int .i64 0 :: Value.int .i64 0 :: Value.int .i64 0 :: Value.int .i64 0 :: Value.int .i64 0 :: Value.int .i64 0 :: Value.int .i64 0 :: Value.int .i64 0 :: Value.int .i64 0 :: Value.int .i64 0 :: Value.int .i64 0 :: Value.int .i64 0 :: Value.int .i64 0 :: Value.int .i64 0 :: Value.int .i64 0 :: Value.int .i64 0 :: Value.int .i64 0 :: Value.int .i64 0 :: Value.int .i64 0 :: Value.int .i64 0 :: Value.int .i64 0 :: Value.int .i64 0 :: Value.int .i64 0 :: Value.int .i64 0 :: Value.int .i64 0 :: Value.int .i64 0 :: Value.int .i64 0 :: Value.int .i64 0 :: Value.int .i64 0 :: Value.int .i64 0 :: Value.int .i64 0 :: Value.int .i64 0 :: Value.int .i64 0 :: Value.int .i64 0 :: Value.int .i64 0 :: Value.int .i64 0 :: Value.int .i64 0 :: Value.int .i64 0 :: Value.int .i64 0 :: Value.int .i64 0 :: Value.int .i64 0 :: Value.int .i64 0 :: Value.int .i64 0 :: Value.int .i64 0 :: Value.int .i64 0 :: Value.int .i64 0 :: Value.int .i64 0 :: []) = W3
  intro kk
  try simp only [Act.put]
  go_loopw [6] (fun i V => ∃ k : Nat, k ≤ 64 ∧ i = .int .i64 k ∧ Keep w V [(w.heap.size + 1 + 1, 27, tab .i64 64 (fun j => if uz j < k then qbck z q j else 0)), (w.heap.size + 1, 27, tab .i64 64 (fun _ => 0)), (w.heap.size, 27, tab .i64 64 z)]) (fun i _ => 64 - (intOf i).toNat)
  case atStart => exact ⟨0, Nat.zero_le _, rfl, by rw [back_start]; exact kk⟩
  case round =>
    clear kk
    obtain ⟨k, hk, rfl, kk⟩ := hrel
    by_cases hlt : k < 64
    · have i0 : (0 : Int) ≤ (k : Int) := by omega
      have i1 : (k : Int) < 64 := by omega
      have hz := zz_lt k hlt
      have j0 : (0 : Int) ≤ ((zz k : Nat) : Int) := by omega
      have j1 : ((zz k : Nat) : Int) < 64 := by omega
      have hbb := back_bd (z := z k) (hq (zz k) hz)
      have HP : ∀ _ : True, IntKind.i64.wrap (clipF (z k) (-2048) 2047 * q (zz k)) = (clipF (z k) (-2048) 2047 * q (zz k)) := fun _ => by rw [wrap_i64_eq]; exact w64 _ (by omega)
      clear hbb
      replace kk := kk.drew
      go_wp2_with fail
      refine wp_region_till (S := fun V => V.cell? ⟨w.heap.size, k, none⟩ = some (.int .i64 (z k)) ∧ V.cell? ⟨sb, off + zz k, none⟩ = some (.int .i64 (q (zz k)))) (R := fun _ => True) (k := 13) (m := 100) (by kernel_rfl) ⟨(kk.get (b := w.heap.size) (t := 27) (c := tab .i64 64 z) (by simp)).cell k hlt, kk.but.keeps (not_nowhere _) (HC.out (zz k) hz)⟩ trivial ?_
      revert kk
      generalize wr.drew = WG
      intro kk
      (refine Walk.take (i := 0) (oi := { dst := some 12, op := Op.move (Operand.tmp 6), type := 3, pos := "ref.go:82", after := #[], guard := none }) (v := ?_) rfl (by kernel_rfl) (by kernel_rfl) (by kernel_rfl) (by kernel_rfl) (fun _ _ _ h => h) (Or.inl ⟨by rfl, ?_⟩) ?_; rotate_left; (intro w hw; clear hw; (try go_split_ands); go_simp; try (with_reducible rfl)); simp only [Act.put, List.setIfInBounds_toArray, List.set_cons_zero, List.set_cons_succ])
      (refine Walk.take (i := 2) (oi := { dst := some 14, op := Op.move (Operand.tmp 6), type := 3, pos := "ref.go:82", after := #[], guard := none }) (v := ?_) rfl (by kernel_rfl) (by kernel_rfl) (by kernel_rfl) (by kernel_rfl) (fun _ _ _ h => h) (Or.inl ⟨by rfl, ?_⟩) ?_; rotate_left; (intro w hw; clear hw; (try go_split_ands); go_simp; try (with_reducible rfl)); simp only [Act.put, List.setIfInBounds_toArray, List.set_cons_zero, List.set_cons_succ])
      (refine Walk.take (i := 3) (oi := { dst := some 15, op := Op.indexAddr 27 (Operand.tmp 2) (Operand.tmp 14), type := 0, pos := "ref.go:82", after := #[{ on := 2, ground := Ground.data }], guard := none }) (v := ?_) rfl (by kernel_rfl) (by kernel_rfl) (by kernel_rfl) (by kernel_rfl) (fun _ _ _ h => h) (Or.inl ⟨by rfl, ?_⟩) ?_; rotate_left; (intro w hw; clear hw; (try go_split_ands); go_simp; try (with_reducible rfl)); simp only [Act.put, List.setIfInBounds_toArray, List.set_cons_zero, List.set_cons_succ])
      (refine Walk.take (i := 4) (oi := { dst := some 16, op := Op.load 3 (Operand.tmp 15), type := 3, pos := "ref.go:82", after := #[{ on := 3, ground := Ground.data }], guard := none }) (v := ?_) rfl (by kernel_rfl) (by kernel_rfl) (by kernel_rfl) (by kernel_rfl) (fun _ _ _ h => h) (Or.inl ⟨by rfl, ?_⟩) ?_; rotate_left; (intro w hw; have hS1 := hw.1 (by kernel_rfl); clear hw; (try dsimp only at hS1); (try go_split_ands); go_simp; try (with_reducible rfl)); simp only [Act.put, List.setIfInBounds_toArray, List.set_cons_zero, List.set_cons_succ])
      (refine Walk.take (i := 6) (oi := { dst := some 18, op := Op.move (Operand.tmp 1), type := 29, pos := "ref.go:82", after := #[], guard := none }) (v := ?_) rfl (by kernel_rfl) (by kernel_rfl) (by kernel_rfl) (by kernel_rfl) (fun _ _ _ h => h) (Or.inl ⟨by rfl, ?_⟩) ?_; rotate_left; (intro w hw; clear hw; (try go_split_ands); go_simp; try (with_reducible rfl)); simp only [Act.put, List.setIfInBounds_toArray, List.set_cons_zero, List.set_cons_succ])
      (refine Walk.take (i := 7) (oi := { dst := some 19, op := Op.move (Operand.tmp 6), type := 3, pos := "ref.go:82", after := #[], guard := none }) (v := ?_) rfl (by kernel_rfl) (by kernel_rfl) (by kernel_rfl) (by kernel_rfl) (fun _ _ _ h => h) (Or.inl ⟨by rfl, ?_⟩) ?_; rotate_left; (intro w hw; clear hw; (try go_split_ands); go_simp; try (with_reducible rfl)); simp only [Act.put, List.setIfInBounds_toArray, List.set_cons_zero, List.set_cons_succ])
      (refine Walk.go (i := 1) (o := { dst := some 13, op := Op.call { callee := Callee.value (Operand.func 11), args := #[Operand.tmp 12], argTypes := #[3] }, type := 3, pos := "ref.go:82", after := #[{ on := 0, ground := Ground.data }], guard := none }) (by kernel_rfl) rfl (fun K hK => ?_); go_simp; ((go_at_call 11; refine (refZig_in k hlt _).mono ?_; rintro e y1 ⟨rfl, dd⟩; replace kk := kk.step dd; clear dd)); refine hK.out _ _ (⟨fun _ => ⟨(kk.get (b := w.heap.size) (t := 27) (c := tab .i64 64 z) (by simp)).cell k hlt, kk.but.keeps (not_nowhere _) (HC.out (zz k) hz)⟩, fun _ => trivial⟩) ?_; clear hK K; try simp only [Act.put, List.setIfInBounds_toArray, List.set_cons_zero, List.set_cons_succ])
      (refine Walk.go (i := 5) (o := { dst := some 17, op := Op.call { callee := Callee.value (Operand.func 26), args := #[Operand.tmp 16, Operand.const (Value.int IntKind.i64 (-2048)), Operand.const (Value.int IntKind.i64 2047)], argTypes := #[3, 3, 3] }, type := 3, pos := "ref.go:82", after := #[{ on := 4, ground := Ground.data }, { on := 1, ground := Ground.chain }], guard := none }) (by kernel_rfl) rfl (fun K hK => ?_); go_simp; ((go_at_call 26; refine (refClip_any _ _ _ _).mono ?_; rintro e y2 ⟨rfl, rfl⟩)); refine hK.out _ _ (⟨fun _ => ⟨(kk.get (b := w.heap.size) (t := 27) (c := tab .i64 64 z) (by simp)).cell k hlt, kk.but.keeps (not_nowhere _) (HC.out (zz k) hz)⟩, fun _ => trivial⟩) ?_; clear hK K; try simp only [Act.put, List.setIfInBounds_toArray, List.set_cons_zero, List.set_cons_succ])
      (refine Walk.go (i := 8) (o := { dst := some 20, op := Op.call { callee := Callee.value (Operand.func 11), args := #[Operand.tmp 19], argTypes := #[3] }, type := 3, pos := "ref.go:82", after := #[{ on := 7, ground := Ground.data }, { on := 5, ground := Ground.chain }], guard := none }) (by kernel_rfl) rfl (fun K hK => ?_); go_simp; ((go_at_call 11; refine (refZig_in k hlt _).mono ?_; rintro e y3 ⟨rfl, dd⟩; replace kk := kk.step dd; clear dd)); refine hK.out _ _ (⟨fun _ => ⟨(kk.get (b := w.heap.size) (t := 27) (c := tab .i64 64 z) (by simp)).cell k hlt, kk.but.keeps (not_nowhere _) (HC.out (zz k) hz)⟩, fun _ => trivial⟩) ?_; clear hK K; try simp only [Act.put, List.setIfInBounds_toArray, List.set_cons_zero, List.set_cons_succ])
      (refine Walk.take (i := 9) (oi := { dst := some 21, op := Op.indexAddr 29 (Operand.tmp 18) (Operand.tmp 20), type := 0, pos := "ref.go:82", after := #[{ on := 6, ground := Ground.data }, { on := 8, ground := Ground.data }], guard := none }) (v := ?_) rfl (by kernel_rfl) (by kernel_rfl) (by kernel_rfl) (by kernel_rfl) (fun _ _ _ h => h) (Or.inl ⟨by rfl, ?_⟩) ?_; rotate_left; (intro w hw; clear hw; (try go_split_ands); go_simp; try (with_reducible rfl)); simp only [Act.put, List.setIfInBounds_toArray, List.set_cons_zero, List.set_cons_succ])
      (refine Walk.take (i := 10) (oi := { dst := some 22, op := Op.load 3 (Operand.tmp 21), type := 3, pos := "ref.go:82", after := #[{ on := 9, ground := Ground.data }], guard := none }) (v := ?_) rfl (by kernel_rfl) (by kernel_rfl) (by kernel_rfl) (by kernel_rfl) (fun _ _ _ h => h) (Or.inl ⟨by rfl, ?_⟩) ?_; rotate_left; (intro w hw; have hS1 := hw.1 (by kernel_rfl); clear hw; (try dsimp only at hS1); (try go_split_ands); go_simp; try (with_reducible rfl)); simp only [Act.put, List.setIfInBounds_toArray, List.set_cons_zero, List.set_cons_succ])
      (refine Walk.take (i := 11) (oi := { dst := some 23, op := Op.binOp BinOp.mul 3 (Operand.tmp 17) (Operand.tmp 22) 3, type := 3, pos := "ref.go:82", after := #[{ on := 5, ground := Ground.data }, { on := 10, ground := Ground.data }], guard := none }) (v := ?_) rfl (by kernel_rfl) (by kernel_rfl) (by kernel_rfl) (by kernel_rfl) (fun _ _ _ h => h) (Or.inl ⟨by rfl, ?_⟩) ?_; rotate_left; (intro w hw; clear hw; (try go_split_ands); go_simp; try (with_reducible rfl)); simp only [Act.put, List.setIfInBounds_toArray, List.set_cons_zero, List.set_cons_succ])
      (refine Walk.take (i := 12) (oi := { dst := some 24, op := Op.indexAddr 27 (Operand.tmp 5) (Operand.tmp 13), type := 0, pos := "ref.go:82", after := #[{ on := 1, ground := Ground.data }, { on := 0, ground := Ground.phase }, { on := 1, ground := Ground.phase }, { on := 2, ground := Ground.phase }, { on := 3, ground := Ground.phase }, { on := 4, ground := Ground.phase }, { on := 5, ground := Ground.phase }, { on := 6, ground := Ground.phase }, { on := 7, ground := Ground.phase }, { on := 8, ground := Ground.phase }, { on := 9, ground := Ground.phase }, { on := 10, ground := Ground.phase }, { on := 11, ground := Ground.phase }], guard := none }) (v := ?_) rfl (by kernel_rfl) (by kernel_rfl) (by kernel_rfl) (by kernel_rfl) (fun _ _ _ h => h) (Or.inl ⟨by rfl, ?_⟩) ?_; rotate_left; (intro w hw; clear hw; (try go_split_ands); go_simp; try (with_reducible rfl)); simp only [Act.put, List.setIfInBounds_toArray, List.set_cons_zero, List.set_cons_succ])
      have q0 := kk.head.cell (zz k) hz
      have f0 := kk.head.frozen (zz k)
      (refine Walk.go (i := 13) (o := { dst := none, op := Op.store 3 (Operand.tmp 24) (Operand.tmp 23), type := 0, pos := "ref.go:82", after := #[{ on := 12, ground := Ground.data }, { on := 11, ground := Ground.data }, { on := 8, ground := Ground.chain }, { on := 0, ground := Ground.phase }, { on := 1, ground := Ground.phase }, { on := 2, ground := Ground.phase }, { on := 3, ground := Ground.phase }, { on := 4, ground := Ground.phase }, { on := 5, ground := Ground.phase }, { on := 6, ground := Ground.phase }, { on := 7, ground := Ground.phase }, { on := 8, ground := Ground.phase }, { on := 9, ground := Ground.phase }, { on := 10, ground := Ground.phase }, { on := 11, ground := Ground.phase }], guard := none }) (by kernel_rfl) rfl (fun K hK => ?_); go_simp; (replace kk := kk.set (zz k) (.int .i64 (clipF (z k) (-2048) 2047 * q (zz k))); rw [bck_set z q k hlt] at kk; clear q0 f0); refine hK.out _ _ (⟨fun q => absurd q (by decide), fun _ => trivial⟩) ?_; clear hK K; try simp only [Act.put, List.setIfInBounds_toArray, List.set_cons_zero, List.set_cons_succ])
      refine Walk.done (by kernel_rfl) ?_ _
      have HX : Hid _ := kk
      clear kk HP
      go_wp2_with fail
      go_roundw
      case rel => exact ⟨k + 1, by omega, by go_num, HX.out⟩
      case measure => simp [intOf]; omega
    · obtain rfl : k = 64 := by omega
      rw [back_full] at kk
      have hr1 := kk.head.all
      replace kk := kk.swap
      have hth := kk.head.there 0 (tab .i64 64 (qbck z q)).toArray.size (by rw [List.size_toArray, tab_length, tab_length]; omega)
      have kX := kk.layAll (qbck z q)
      have HX : Hid _ := And.intro kX.head kX.but
      clear kX kk
      go_wp2_with (first | (refine wpList_load_mid rfl 27 (.tmp 5) rfl (w.heap.size + 1 + 1) 0 rfl (tab .i64 64 (qbck z q)) _ ?_ hu rfl hiA ?_; exact hr1) | (refine wpList_store_mid rfl 27 (.tmp 4) (.tmp 25) rfl (w.heap.size + 1) 0 (tab .i64 64 (qbck z q)).toArray rfl rfl ?_ hiB (tab_all _ _ _) ?_; exact hth))
      exact bodyPost_ret (results_cells rfl HX.out.1 hu rfl hiC _ rfl) rfl ⟨rfl, HX.out.2⟩

end Go.Proofs.YthaekjdnaaikfaaDoor
