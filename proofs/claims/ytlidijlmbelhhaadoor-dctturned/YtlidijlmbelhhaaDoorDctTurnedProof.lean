/- For every list of bytes and every byte k, the law DctTurned of layer 8 returns true: a block below 0 has its frequencies below 0; one whose rows are its columns has them so, too. No condition. -/
import Derived.Test.YtlidijlmbelhhaaDoorDcTab
import Derived.Test.YtlidijlmbelhhaaDoorDcTr
import Derived.Test.YtlidijlmbelhhaaDoorDc9
import Derived.Test.YtlidijlmbelhhaaDoorFrame
import Derived.Test.YtlidijlmbelhhaaDoorRows
import Derived.Test.YtlidijlmbelhhaaDoorDcTab
import Derived.Test.YtlidijlmbelhhaaDoorCards
import Derived.Test.YtlidijlmbelhhaaDoorTie
namespace Go.Proofs.YtlidijlmbelhhaaDoor.dctTurned
open Go.ChangeShapes Go.WideShapes Go.ChangeAt Go.RowKit
set_option linter.unusedVariables false

theorem own : ownKnob Tryd.prog.godebug = none := by kernel_rfl
theorem laidOut : laidOutB Tryd.prog = true := by kernel_rfl
theorem readable : ∀ t ∈ Tryd.f7.params.toList, Tryd.prog.readableRec t = true ∧ t < Tryd.prog.types.size := by
  rw [Tryd.params7]
  simp only [List.mem_cons, List.not_mem_nil, or_false, forall_eq_or_imp, forall_eq]
  refine ⟨⟨by kernel_rfl, of_decide_eq_true (by kernel_rfl)⟩, ⟨by kernel_rfl, of_decide_eq_true (by kernel_rfl)⟩⟩

set_option maxHeartbeats 20000000 in
set_option maxRecDepth 100000 in
theorem walk (w : World) (hT : Tab w) (v0 : Value) (l0 : List Int) (s0 : View w .u8 v0 l0) (x0 : ∀ x ∈ l0, 0 ≤ x ∧ x ≤ 255) (n0 : l0.length ≤ 140737488355328) (a1 : Int) (w1 : (Lit.int .u8 a1).wf = true) :
    Calls Tryd.prog 7 #[v0, .int .u8 a1] w fun e w' => e = .returned (.bool true) ∧ But Nowhere w w' := by
  have hu := Tryd.underlying23
  have hiA : ∀ f, (Tryd.prog.info? 23).map (·.size) = some (tab .i64 64 f).length := fun f => by rw [tab_length]; kernel_rfl
  have hiB : ∀ f, (Tryd.prog.info? 23).map (·.size) = some (tab .i64 64 f).toArray.size := fun f => by rw [List.size_toArray, tab_length]; kernel_rfl
  have hi64 : (Tryd.prog.info? 23).map (·.size) = some 64 := by kernel_rfl
  have hall : (Value.int .i64 0 :: Value.int .i64 0 :: Value.int .i64 0 :: Value.int .i64 0 :: Value.int .i64 0 :: Value.int .i64 0 :: Value.int .i64 0 :: Value.int .i64 0 :: Value.int .i64 0 :: Value.int .i64 0 :: Value.int .i64 0 :: Value.int .i64 0 :: Value.int .i64 0 :: Value.int .i64 0 :: Value.int .i64 0 :: Value.int .i64 0 :: Value.int .i64 0 :: Value.int .i64 0 :: Value.int .i64 0 :: Value.int .i64 0 :: Value.int .i64 0 :: Value.int .i64 0 :: Value.int .i64 0 :: Value.int .i64 0 :: Value.int .i64 0 :: Value.int .i64 0 :: Value.int .i64 0 :: Value.int .i64 0 :: Value.int .i64 0 :: Value.int .i64 0 :: Value.int .i64 0 :: Value.int .i64 0 :: Value.int .i64 0 :: Value.int .i64 0 :: Value.int .i64 0 :: Value.int .i64 0 :: Value.int .i64 0 :: Value.int .i64 0 :: Value.int .i64 0 :: Value.int .i64 0 :: Value.int .i64 0 :: Value.int .i64 0 :: Value.int .i64 0 :: Value.int .i64 0 :: Value.int .i64 0 :: Value.int .i64 0 :: Value.int .i64 0 :: Value.int .i64 0 :: Value.int .i64 0 :: Value.int .i64 0 :: Value.int .i64 0 :: Value.int .i64 0 :: Value.int .i64 0 :: Value.int .i64 0 :: Value.int .i64 0 :: Value.int .i64 0 :: Value.int .i64 0 :: Value.int .i64 0 :: Value.int .i64 0 :: Value.int .i64 0 :: Value.int .i64 0 :: Value.int .i64 0 :: Value.int .i64 0 :: Value.int .i64 0 :: []).toArray.all (·.oneCell') = true := by have := tab_all .i64 64 (fun _ => 0); rw [← sixtyfour] at this; exact this
  have HZ : Hid _ := And.intro hi64 hall
  clear hi64 hall
  have u1 := u8_in w1
  go_enter Tryd.func7, Tryd.ntmps7
  go_wp2_with fail
  refine (block_any v0 l0 a1 u1 w s0 x0 (by omega)).mono ?_
  rintro e x1 ⟨f, rfl, hf, dd⟩
  have kk := (Keep.start w).step dd
  clear dd
  replace kk := kk.zero 23
  have hth := kk.head.there 0 (tab .i64 64 f).toArray.size (by rw [List.size_toArray, tab_length, tab_length]; omega)
  replace kk := kk.layAll f
  have HX : Hid _ := kk
  clear kk
  go_upto_region 2 with (refine wpList_store_mid rfl 23 (.tmp 5) (.tmp 15) rfl x1.heap.size 0 (tab .i64 64 f).toArray rfl rfl ?_ (hiB _) (tab_all _ _ _) ?_; exact hth)
  have kk := HX.out
  clear HX hth
  revert kk
  obtain ⟨BB, hBB⟩ : ∃ b, x1.heap.size = b := ⟨_, rfl⟩
  rw [hBB]
  clear hBB
  generalize (x1.alloc (.cells (Value.int .i64 0 :: Value.int .i64 0 :: Value.int .i64 0 :: Value.int .i64 0 :: Value.int .i64 0 :: Value.int .i64 0 :: Value.int .i64 0 :: Value.int .i64 0 :: Value.int .i64 0 :: Value.int .i64 0 :: Value.int .i64 0 :: Value.int .i64 0 :: Value.int .i64 0 :: Value.int .i64 0 :: Value.int .i64 0 :: Value.int .i64 0 :: Value.int .i64 0 :: Value.int .i64 0 :: Value.int .i64 0 :: Value.int .i64 0 :: Value.int .i64 0 :: Value.int .i64 0 :: Value.int .i64 0 :: Value.int .i64 0 :: Value.int .i64 0 :: Value.int .i64 0 :: Value.int .i64 0 :: Value.int .i64 0 :: Value.int .i64 0 :: Value.int .i64 0 :: Value.int .i64 0 :: Value.int .i64 0 :: Value.int .i64 0 :: Value.int .i64 0 :: Value.int .i64 0 :: Value.int .i64 0 :: Value.int .i64 0 :: Value.int .i64 0 :: Value.int .i64 0 :: Value.int .i64 0 :: Value.int .i64 0 :: Value.int .i64 0 :: Value.int .i64 0 :: Value.int .i64 0 :: Value.int .i64 0 :: Value.int .i64 0 :: Value.int .i64 0 :: Value.int .i64 0 :: Value.int .i64 0 :: Value.int .i64 0 :: Value.int .i64 0 :: Value.int .i64 0 :: Value.int .i64 0 :: Value.int .i64 0 :: Value.int .i64 0 :: Value.int .i64 0 :: Value.int .i64 0 :: Value.int .i64 0 :: Value.int .i64 0 :: Value.int .i64 0 :: Value.int .i64 0 :: Value.int .i64 0 :: Value.int .i64 0 :: Value.int .i64 0 :: []).toArray 23)).setCells BB 0 (tab .i64 64 f) = WBB
  intro kk
  try simp only [Act.put]
  go_upto_region 3 with (refine wpList_store_mid rfl 23 (.tmp 6) (.tmp 16) rfl WBB.heap.size 0 (Value.int .i64 0 :: Value.int .i64 0 :: Value.int .i64 0 :: Value.int .i64 0 :: Value.int .i64 0 :: Value.int .i64 0 :: Value.int .i64 0 :: Value.int .i64 0 :: Value.int .i64 0 :: Value.int .i64 0 :: Value.int .i64 0 :: Value.int .i64 0 :: Value.int .i64 0 :: Value.int .i64 0 :: Value.int .i64 0 :: Value.int .i64 0 :: Value.int .i64 0 :: Value.int .i64 0 :: Value.int .i64 0 :: Value.int .i64 0 :: Value.int .i64 0 :: Value.int .i64 0 :: Value.int .i64 0 :: Value.int .i64 0 :: Value.int .i64 0 :: Value.int .i64 0 :: Value.int .i64 0 :: Value.int .i64 0 :: Value.int .i64 0 :: Value.int .i64 0 :: Value.int .i64 0 :: Value.int .i64 0 :: Value.int .i64 0 :: Value.int .i64 0 :: Value.int .i64 0 :: Value.int .i64 0 :: Value.int .i64 0 :: Value.int .i64 0 :: Value.int .i64 0 :: Value.int .i64 0 :: Value.int .i64 0 :: Value.int .i64 0 :: Value.int .i64 0 :: Value.int .i64 0 :: Value.int .i64 0 :: Value.int .i64 0 :: Value.int .i64 0 :: Value.int .i64 0 :: Value.int .i64 0 :: Value.int .i64 0 :: Value.int .i64 0 :: Value.int .i64 0 :: Value.int .i64 0 :: Value.int .i64 0 :: Value.int .i64 0 :: Value.int .i64 0 :: Value.int .i64 0 :: Value.int .i64 0 :: Value.int .i64 0 :: Value.int .i64 0 :: Value.int .i64 0 :: Value.int .i64 0 :: Value.int .i64 0 :: Value.int .i64 0 :: []).toArray rfl rfl (there_zero WBB) HZ.out.1 HZ.out.2 ?_)
  replace kk := kk.zeroed
  revert kk
  obtain ⟨NB, hNB⟩ : ∃ b, WBB.heap.size = b := ⟨_, rfl⟩
  rw [hNB]
  clear hNB
  generalize (WBB.alloc (.cells (Value.int .i64 0 :: Value.int .i64 0 :: Value.int .i64 0 :: Value.int .i64 0 :: Value.int .i64 0 :: Value.int .i64 0 :: Value.int .i64 0 :: Value.int .i64 0 :: Value.int .i64 0 :: Value.int .i64 0 :: Value.int .i64 0 :: Value.int .i64 0 :: Value.int .i64 0 :: Value.int .i64 0 :: Value.int .i64 0 :: Value.int .i64 0 :: Value.int .i64 0 :: Value.int .i64 0 :: Value.int .i64 0 :: Value.int .i64 0 :: Value.int .i64 0 :: Value.int .i64 0 :: Value.int .i64 0 :: Value.int .i64 0 :: Value.int .i64 0 :: Value.int .i64 0 :: Value.int .i64 0 :: Value.int .i64 0 :: Value.int .i64 0 :: Value.int .i64 0 :: Value.int .i64 0 :: Value.int .i64 0 :: Value.int .i64 0 :: Value.int .i64 0 :: Value.int .i64 0 :: Value.int .i64 0 :: Value.int .i64 0 :: Value.int .i64 0 :: Value.int .i64 0 :: Value.int .i64 0 :: Value.int .i64 0 :: Value.int .i64 0 :: Value.int .i64 0 :: Value.int .i64 0 :: Value.int .i64 0 :: Value.int .i64 0 :: Value.int .i64 0 :: Value.int .i64 0 :: Value.int .i64 0 :: Value.int .i64 0 :: Value.int .i64 0 :: Value.int .i64 0 :: Value.int .i64 0 :: Value.int .i64 0 :: Value.int .i64 0 :: Value.int .i64 0 :: Value.int .i64 0 :: Value.int .i64 0 :: Value.int .i64 0 :: Value.int .i64 0 :: Value.int .i64 0 :: Value.int .i64 0 :: Value.int .i64 0 :: Value.int .i64 0 :: []).toArray 23)).setCells NB 0 (Value.int .i64 0 :: Value.int .i64 0 :: Value.int .i64 0 :: Value.int .i64 0 :: Value.int .i64 0 :: Value.int .i64 0 :: Value.int .i64 0 :: Value.int .i64 0 :: Value.int .i64 0 :: Value.int .i64 0 :: Value.int .i64 0 :: Value.int .i64 0 :: Value.int .i64 0 :: Value.int .i64 0 :: Value.int .i64 0 :: Value.int .i64 0 :: Value.int .i64 0 :: Value.int .i64 0 :: Value.int .i64 0 :: Value.int .i64 0 :: Value.int .i64 0 :: Value.int .i64 0 :: Value.int .i64 0 :: Value.int .i64 0 :: Value.int .i64 0 :: Value.int .i64 0 :: Value.int .i64 0 :: Value.int .i64 0 :: Value.int .i64 0 :: Value.int .i64 0 :: Value.int .i64 0 :: Value.int .i64 0 :: Value.int .i64 0 :: Value.int .i64 0 :: Value.int .i64 0 :: Value.int .i64 0 :: Value.int .i64 0 :: Value.int .i64 0 :: Value.int .i64 0 :: Value.int .i64 0 :: Value.int .i64 0 :: Value.int .i64 0 :: Value.int .i64 0 :: Value.int .i64 0 :: Value.int .i64 0 :: Value.int .i64 0 :: Value.int .i64 0 :: Value.int .i64 0 :: Value.int .i64 0 :: Value.int .i64 0 :: Value.int .i64 0 :: Value.int .i64 0 :: Value.int .i64 0 :: Value.int .i64 0 :: Value.int .i64 0 :: Value.int .i64 0 :: Value.int .i64 0 :: Value.int .i64 0 :: Value.int .i64 0 :: Value.int .i64 0 :: Value.int .i64 0 :: Value.int .i64 0 :: Value.int .i64 0 :: Value.int .i64 0 :: []) = WNB
  intro kk
  try simp only [Act.put]
  go_upto_region 4 with (refine wpList_store_mid rfl 23 (.tmp 7) (.tmp 17) rfl WNB.heap.size 0 (Value.int .i64 0 :: Value.int .i64 0 :: Value.int .i64 0 :: Value.int .i64 0 :: Value.int .i64 0 :: Value.int .i64 0 :: Value.int .i64 0 :: Value.int .i64 0 :: Value.int .i64 0 :: Value.int .i64 0 :: Value.int .i64 0 :: Value.int .i64 0 :: Value.int .i64 0 :: Value.int .i64 0 :: Value.int .i64 0 :: Value.int .i64 0 :: Value.int .i64 0 :: Value.int .i64 0 :: Value.int .i64 0 :: Value.int .i64 0 :: Value.int .i64 0 :: Value.int .i64 0 :: Value.int .i64 0 :: Value.int .i64 0 :: Value.int .i64 0 :: Value.int .i64 0 :: Value.int .i64 0 :: Value.int .i64 0 :: Value.int .i64 0 :: Value.int .i64 0 :: Value.int .i64 0 :: Value.int .i64 0 :: Value.int .i64 0 :: Value.int .i64 0 :: Value.int .i64 0 :: Value.int .i64 0 :: Value.int .i64 0 :: Value.int .i64 0 :: Value.int .i64 0 :: Value.int .i64 0 :: Value.int .i64 0 :: Value.int .i64 0 :: Value.int .i64 0 :: Value.int .i64 0 :: Value.int .i64 0 :: Value.int .i64 0 :: Value.int .i64 0 :: Value.int .i64 0 :: Value.int .i64 0 :: Value.int .i64 0 :: Value.int .i64 0 :: Value.int .i64 0 :: Value.int .i64 0 :: Value.int .i64 0 :: Value.int .i64 0 :: Value.int .i64 0 :: Value.int .i64 0 :: Value.int .i64 0 :: Value.int .i64 0 :: Value.int .i64 0 :: Value.int .i64 0 :: Value.int .i64 0 :: Value.int .i64 0 :: Value.int .i64 0 :: []).toArray rfl rfl (there_zero WNB) HZ.out.1 HZ.out.2 ?_)
  replace kk := kk.zeroed
  revert kk
  obtain ⟨TB, hTB⟩ : ∃ b, WNB.heap.size = b := ⟨_, rfl⟩
  rw [hTB]
  clear hTB
  generalize (WNB.alloc (.cells (Value.int .i64 0 :: Value.int .i64 0 :: Value.int .i64 0 :: Value.int .i64 0 :: Value.int .i64 0 :: Value.int .i64 0 :: Value.int .i64 0 :: Value.int .i64 0 :: Value.int .i64 0 :: Value.int .i64 0 :: Value.int .i64 0 :: Value.int .i64 0 :: Value.int .i64 0 :: Value.int .i64 0 :: Value.int .i64 0 :: Value.int .i64 0 :: Value.int .i64 0 :: Value.int .i64 0 :: Value.int .i64 0 :: Value.int .i64 0 :: Value.int .i64 0 :: Value.int .i64 0 :: Value.int .i64 0 :: Value.int .i64 0 :: Value.int .i64 0 :: Value.int .i64 0 :: Value.int .i64 0 :: Value.int .i64 0 :: Value.int .i64 0 :: Value.int .i64 0 :: Value.int .i64 0 :: Value.int .i64 0 :: Value.int .i64 0 :: Value.int .i64 0 :: Value.int .i64 0 :: Value.int .i64 0 :: Value.int .i64 0 :: Value.int .i64 0 :: Value.int .i64 0 :: Value.int .i64 0 :: Value.int .i64 0 :: Value.int .i64 0 :: Value.int .i64 0 :: Value.int .i64 0 :: Value.int .i64 0 :: Value.int .i64 0 :: Value.int .i64 0 :: Value.int .i64 0 :: Value.int .i64 0 :: Value.int .i64 0 :: Value.int .i64 0 :: Value.int .i64 0 :: Value.int .i64 0 :: Value.int .i64 0 :: Value.int .i64 0 :: Value.int .i64 0 :: Value.int .i64 0 :: Value.int .i64 0 :: Value.int .i64 0 :: Value.int .i64 0 :: Value.int .i64 0 :: Value.int .i64 0 :: Value.int .i64 0 :: Value.int .i64 0 :: []).toArray 23)).setCells TB 0 (Value.int .i64 0 :: Value.int .i64 0 :: Value.int .i64 0 :: Value.int .i64 0 :: Value.int .i64 0 :: Value.int .i64 0 :: Value.int .i64 0 :: Value.int .i64 0 :: Value.int .i64 0 :: Value.int .i64 0 :: Value.int .i64 0 :: Value.int .i64 0 :: Value.int .i64 0 :: Value.int .i64 0 :: Value.int .i64 0 :: Value.int .i64 0 :: Value.int .i64 0 :: Value.int .i64 0 :: Value.int .i64 0 :: Value.int .i64 0 :: Value.int .i64 0 :: Value.int .i64 0 :: Value.int .i64 0 :: Value.int .i64 0 :: Value.int .i64 0 :: Value.int .i64 0 :: Value.int .i64 0 :: Value.int .i64 0 :: Value.int .i64 0 :: Value.int .i64 0 :: Value.int .i64 0 :: Value.int .i64 0 :: Value.int .i64 0 :: Value.int .i64 0 :: Value.int .i64 0 :: Value.int .i64 0 :: Value.int .i64 0 :: Value.int .i64 0 :: Value.int .i64 0 :: Value.int .i64 0 :: Value.int .i64 0 :: Value.int .i64 0 :: Value.int .i64 0 :: Value.int .i64 0 :: Value.int .i64 0 :: Value.int .i64 0 :: Value.int .i64 0 :: Value.int .i64 0 :: Value.int .i64 0 :: Value.int .i64 0 :: Value.int .i64 0 :: Value.int .i64 0 :: Value.int .i64 0 :: Value.int .i64 0 :: Value.int .i64 0 :: Value.int .i64 0 :: Value.int .i64 0 :: Value.int .i64 0 :: Value.int .i64 0 :: Value.int .i64 0 :: Value.int .i64 0 :: Value.int .i64 0 :: Value.int .i64 0 :: Value.int .i64 0 :: []) = WTB
  intro kk
  try simp only [Act.put]
  replace kk := kk.swap
  have HF : Hid _ := hf
  have h4 : ∀ j, j < 64 → -4096 ≤ f j ∧ f j ≤ 4096 := fun j hj => by have := hf j hj; omega
  have HN : Hid (∀ j, j < 64 → fwd (fun i => -f i) j = -fwd f j) := fun j hj => fwd_neg f h4 j hj
  have HT : Hid (∀ j, j < 64 → fwd (fun i => f (tr i)) (tr j) = fwd f j) := fun j hj => fwd_tr f h4 j hj
  clear hf h4 HZ
  go_wp2_with fail
  go_loopw [8] (fun i V => ∃ k : Nat, k ≤ 64 ∧ i = .int .i64 k ∧ Keep w V [(NB, 23, tab .i64 64 (fun j => if j < k then -f j else 0)), (TB, 23, tab .i64 64 (fun j => if tr j < k then f (tr j) else 0)), (BB, 23, tab .i64 64 f)]) (fun i _ => 64 - (intOf i).toNat)
  case atStart => exact ⟨0, Nat.zero_le _, rfl, by rw [tab_congr .i64 64 (fun j => if j < 0 then -f j else 0) (fun _ => 0) (fun j _ => if_neg (by omega)), tab_congr .i64 64 (fun j => if tr j < 0 then f (tr j) else 0) (fun _ => 0) (fun j _ => if_neg (by omega))]; exact kk⟩
  case round =>
    clear kk
    obtain ⟨k, hk, rfl, kk⟩ := hrel
    by_cases hlt : k < 64
    · have i0 : (0 : Int) ≤ (k : Int) := by omega
      have i1 : (k : Int) < 64 := by omega
      have b1 := HF.out k hlt
      have cN := kk.head.cell k hlt
      have fN := kk.head.frozen k
      simp only [Nat.lt_irrefl, if_false] at cN
      have cB := (kk.get (b := BB) (t := 23) (c := tab .i64 64 f) (by simp)).cell k hlt
      have r0 : wrap64 (-f k) = -f k := w64 _ (by omega)
      go_upto_region 8 with fail
      have kX := kk.set k (.int .i64 (-f k))
      rw [tab_grow .i64 64 (fun j => -f j) (fun _ => 0) k] at kX
      replace kk := kX.swap
      clear kX cN fN cB r0
      revert kk
      generalize wr.setCell ⟨NB, k, none⟩ (.int .i64 (-f k)) = V
      intro kk
      have t1 := tr_lt k hlt
      have cT := kk.head.cell (k % 8 * 8 + k / 8) t1
      have fT := kk.head.frozen (k % 8 * 8 + k / 8)
      have cB := (kk.get (b := BB) (t := 23) (c := tab .i64 64 f) (by simp)).cell k hlt
      obtain ⟨cv, hcv⟩ : ∃ x, (if tr (k % 8 * 8 + k / 8) < k then f (tr (k % 8 * 8 + k / 8)) else 0) = x := ⟨_, rfl⟩
      rw [hcv] at cT
      clear hcv
      have kX : Keep w (V.setCell ⟨TB, k % 8 * 8 + k / 8, none⟩ (.int .i64 (f k))) _ := kk.setTab (tr k) (f k)
      rw [tab_congr .i64 64 _ _ (tr_step f k hlt)] at kX
      obtain ⟨⟨r1, r2⟩, ⟨r3, r4, r5⟩, r6, r7⟩ := tr_plain k hlt
      have HX : Hid _ := kX.swap
      clear kX kk
      go_upto_region 6 with fail
      clear r1 r2 r3 r4 r5 r6 r7 cT fT cB
      go_wp2_with fail
      go_roundw
      case rel => exact ⟨k + 1, by omega, by go_num, HX.out⟩
      case measure => simp [intOf]; omega
    · obtain rfl : k = 64 := by omega
      rw [tab_full .i64 64 (fun j => -f j) (fun _ => 0), tab_congr .i64 64 (fun j => if tr j < 64 then f (tr j) else 0) (fun j => f (tr j)) (fun j hj => if_pos (tr_lt j hj))] at kk
      have hr := (kk.get (b := BB) (t := 23) (c := tab .i64 64 f) (by simp)).all
      go_wp2_with (refine wpList_load_mid rfl 23 (.tmp 5) rfl BB 0 rfl (tab .i64 64 f) _ ?_ hu rfl (hiA _) ?_; exact hr)
      refine (dctForward_any _ _ (hT.but kk.but)).mono ?_
      rintro e x2 ⟨rfl, dd⟩
      replace kk := kk.step dd
      clear dd hr
      replace kk := kk.zero 23
      have hth := kk.head.there 0 (tab .i64 64 (fwd f)).toArray.size (by rw [List.size_toArray, tab_length, tab_length]; omega)
      replace kk := kk.layAll (fwd f)
      have HX : Hid _ := kk
      clear kk
      go_upto_region 10 with (refine wpList_store_mid rfl 23 (.tmp 9) (.tmp 39) rfl x2.heap.size 0 (tab .i64 64 (fwd f)).toArray rfl rfl ?_ (hiB _) (tab_all _ _ _) ?_; exact hth)
      have kk := HX.out
      clear HX hth
      revert kk
      obtain ⟨FB, hFB⟩ : ∃ b, x2.heap.size = b := ⟨_, rfl⟩
      rw [hFB]
      clear hFB
      generalize (x2.alloc (.cells (Value.int .i64 0 :: Value.int .i64 0 :: Value.int .i64 0 :: Value.int .i64 0 :: Value.int .i64 0 :: Value.int .i64 0 :: Value.int .i64 0 :: Value.int .i64 0 :: Value.int .i64 0 :: Value.int .i64 0 :: Value.int .i64 0 :: Value.int .i64 0 :: Value.int .i64 0 :: Value.int .i64 0 :: Value.int .i64 0 :: Value.int .i64 0 :: Value.int .i64 0 :: Value.int .i64 0 :: Value.int .i64 0 :: Value.int .i64 0 :: Value.int .i64 0 :: Value.int .i64 0 :: Value.int .i64 0 :: Value.int .i64 0 :: Value.int .i64 0 :: Value.int .i64 0 :: Value.int .i64 0 :: Value.int .i64 0 :: Value.int .i64 0 :: Value.int .i64 0 :: Value.int .i64 0 :: Value.int .i64 0 :: Value.int .i64 0 :: Value.int .i64 0 :: Value.int .i64 0 :: Value.int .i64 0 :: Value.int .i64 0 :: Value.int .i64 0 :: Value.int .i64 0 :: Value.int .i64 0 :: Value.int .i64 0 :: Value.int .i64 0 :: Value.int .i64 0 :: Value.int .i64 0 :: Value.int .i64 0 :: Value.int .i64 0 :: Value.int .i64 0 :: Value.int .i64 0 :: Value.int .i64 0 :: Value.int .i64 0 :: Value.int .i64 0 :: Value.int .i64 0 :: Value.int .i64 0 :: Value.int .i64 0 :: Value.int .i64 0 :: Value.int .i64 0 :: Value.int .i64 0 :: Value.int .i64 0 :: Value.int .i64 0 :: Value.int .i64 0 :: Value.int .i64 0 :: Value.int .i64 0 :: Value.int .i64 0 :: Value.int .i64 0 :: []).toArray 23)).setCells FB 0 (tab .i64 64 (fwd f)) = WFB
      intro kk
      try simp only [Act.put]
      have hr := (kk.get (b := NB) (t := 23) (c := tab .i64 64 (fun j => -f j)) (by simp)).all
      go_wp2_with (refine wpList_load_mid rfl 23 (.tmp 6) rfl NB 0 rfl (tab .i64 64 (fun j => -f j)) _ ?_ hu rfl (hiA _) ?_; exact hr)
      refine (dctForward_any _ _ (hT.but kk.but)).mono ?_
      rintro e x3 ⟨rfl, dd⟩
      replace kk := kk.step dd
      clear dd hr
      replace kk := kk.zero 23
      have hth := kk.head.there 0 (tab .i64 64 (fwd (fun j => -f j))).toArray.size (by rw [List.size_toArray, tab_length, tab_length]; omega)
      replace kk := kk.layAll (fwd (fun j => -f j))
      have HX : Hid _ := kk
      clear kk
      go_upto_region 11 with (refine wpList_store_mid rfl 23 (.tmp 10) (.tmp 41) rfl x3.heap.size 0 (tab .i64 64 (fwd (fun j => -f j))).toArray rfl rfl ?_ (hiB _) (tab_all _ _ _) ?_; exact hth)
      have kk := HX.out
      clear HX hth
      revert kk
      obtain ⟨GB, hGB⟩ : ∃ b, x3.heap.size = b := ⟨_, rfl⟩
      rw [hGB]
      clear hGB
      generalize (x3.alloc (.cells (Value.int .i64 0 :: Value.int .i64 0 :: Value.int .i64 0 :: Value.int .i64 0 :: Value.int .i64 0 :: Value.int .i64 0 :: Value.int .i64 0 :: Value.int .i64 0 :: Value.int .i64 0 :: Value.int .i64 0 :: Value.int .i64 0 :: Value.int .i64 0 :: Value.int .i64 0 :: Value.int .i64 0 :: Value.int .i64 0 :: Value.int .i64 0 :: Value.int .i64 0 :: Value.int .i64 0 :: Value.int .i64 0 :: Value.int .i64 0 :: Value.int .i64 0 :: Value.int .i64 0 :: Value.int .i64 0 :: Value.int .i64 0 :: Value.int .i64 0 :: Value.int .i64 0 :: Value.int .i64 0 :: Value.int .i64 0 :: Value.int .i64 0 :: Value.int .i64 0 :: Value.int .i64 0 :: Value.int .i64 0 :: Value.int .i64 0 :: Value.int .i64 0 :: Value.int .i64 0 :: Value.int .i64 0 :: Value.int .i64 0 :: Value.int .i64 0 :: Value.int .i64 0 :: Value.int .i64 0 :: Value.int .i64 0 :: Value.int .i64 0 :: Value.int .i64 0 :: Value.int .i64 0 :: Value.int .i64 0 :: Value.int .i64 0 :: Value.int .i64 0 :: Value.int .i64 0 :: Value.int .i64 0 :: Value.int .i64 0 :: Value.int .i64 0 :: Value.int .i64 0 :: Value.int .i64 0 :: Value.int .i64 0 :: Value.int .i64 0 :: Value.int .i64 0 :: Value.int .i64 0 :: Value.int .i64 0 :: Value.int .i64 0 :: Value.int .i64 0 :: Value.int .i64 0 :: Value.int .i64 0 :: Value.int .i64 0 :: Value.int .i64 0 :: []).toArray 23)).setCells GB 0 (tab .i64 64 (fwd (fun j => -f j))) = WGB
      intro kk
      try simp only [Act.put]
      have hr := (kk.get (b := TB) (t := 23) (c := tab .i64 64 (fun j => f (tr j))) (by simp)).all
      go_wp2_with (refine wpList_load_mid rfl 23 (.tmp 7) rfl TB 0 rfl (tab .i64 64 (fun j => f (tr j))) _ ?_ hu rfl (hiA _) ?_; exact hr)
      refine (dctForward_any _ _ (hT.but kk.but)).mono ?_
      rintro e x4 ⟨rfl, dd⟩
      replace kk := kk.step dd
      clear dd hr
      replace kk := kk.zero 23
      have hth := kk.head.there 0 (tab .i64 64 (fwd (fun j => f (tr j)))).toArray.size (by rw [List.size_toArray, tab_length, tab_length]; omega)
      replace kk := kk.layAll (fwd (fun j => f (tr j)))
      have HX : Hid _ := kk
      clear kk
      go_upto_region 12 with (refine wpList_store_mid rfl 23 (.tmp 11) (.tmp 43) rfl x4.heap.size 0 (tab .i64 64 (fwd (fun j => f (tr j)))).toArray rfl rfl ?_ (hiB _) (tab_all _ _ _) ?_; exact hth)
      have kk := HX.out
      clear HX hth
      revert kk
      obtain ⟨HB, hHB⟩ : ∃ b, x4.heap.size = b := ⟨_, rfl⟩
      rw [hHB]
      clear hHB
      generalize (x4.alloc (.cells (Value.int .i64 0 :: Value.int .i64 0 :: Value.int .i64 0 :: Value.int .i64 0 :: Value.int .i64 0 :: Value.int .i64 0 :: Value.int .i64 0 :: Value.int .i64 0 :: Value.int .i64 0 :: Value.int .i64 0 :: Value.int .i64 0 :: Value.int .i64 0 :: Value.int .i64 0 :: Value.int .i64 0 :: Value.int .i64 0 :: Value.int .i64 0 :: Value.int .i64 0 :: Value.int .i64 0 :: Value.int .i64 0 :: Value.int .i64 0 :: Value.int .i64 0 :: Value.int .i64 0 :: Value.int .i64 0 :: Value.int .i64 0 :: Value.int .i64 0 :: Value.int .i64 0 :: Value.int .i64 0 :: Value.int .i64 0 :: Value.int .i64 0 :: Value.int .i64 0 :: Value.int .i64 0 :: Value.int .i64 0 :: Value.int .i64 0 :: Value.int .i64 0 :: Value.int .i64 0 :: Value.int .i64 0 :: Value.int .i64 0 :: Value.int .i64 0 :: Value.int .i64 0 :: Value.int .i64 0 :: Value.int .i64 0 :: Value.int .i64 0 :: Value.int .i64 0 :: Value.int .i64 0 :: Value.int .i64 0 :: Value.int .i64 0 :: Value.int .i64 0 :: Value.int .i64 0 :: Value.int .i64 0 :: Value.int .i64 0 :: Value.int .i64 0 :: Value.int .i64 0 :: Value.int .i64 0 :: Value.int .i64 0 :: Value.int .i64 0 :: Value.int .i64 0 :: Value.int .i64 0 :: Value.int .i64 0 :: Value.int .i64 0 :: Value.int .i64 0 :: Value.int .i64 0 :: Value.int .i64 0 :: Value.int .i64 0 :: Value.int .i64 0 :: []).toArray 23)).setCells HB 0 (tab .i64 64 (fwd (fun j => f (tr j)))) = WHB
      intro kk
      try simp only [Act.put]
      go_wp2_with fail
      go_loopw [12] (fun i V => ∃ k : Nat, k ≤ 64 ∧ i = .int .i64 k ∧ Keep w V [(HB, 23, tab .i64 64 (fwd (fun j => f (tr j)))), (GB, 23, tab .i64 64 (fwd (fun j => -f j))), (FB, 23, tab .i64 64 (fwd f)), (NB, 23, tab .i64 64 (fun j => -f j)), (TB, 23, tab .i64 64 (fun j => f (tr j))), (BB, 23, tab .i64 64 f)]) (fun i _ => 64 - (intOf i).toNat)
      case atStart => exact ⟨0, Nat.zero_le _, rfl, kk⟩
      case round =>
        clear kk
        obtain ⟨k, hk, rfl, kk⟩ := hrel
        by_cases hlt : k < 64
        · have i0 : (0 : Int) ≤ (k : Int) := by omega
          have i1 : (k : Int) < 64 := by omega
          replace kk := kk.drew
          have t1 := tr_lt k hlt
          have cH : wr.drew.cell? ⟨HB, ((k : Int) % 8 * 8 + (k : Int) / 8).toNat, none⟩ = some (.int .i64 (fwd (fun j => f (tr j)) (tr k))) := by
            rw [show ((k : Int) % 8 * 8 + (k : Int) / 8).toNat = tr k by unfold tr; omega]
            exact kk.head.cell (tr k) t1
          have cG := (kk.get (b := GB) (t := 23) (c := tab .i64 64 (fwd (fun j => -f j))) (by simp)).cell k hlt
          have cF := (kk.get (b := FB) (t := 23) (c := tab .i64 64 (fwd f)) (by simp)).cell k hlt
          rw [HT.out k hlt] at cH
          rw [HN.out k hlt] at cG
          obtain ⟨P, hP⟩ : ∃ z, fwd f k = z := ⟨_, rfl⟩
          have hP2 := (fwd_ends f HF.out k hlt).1
          rw [hP] at cH cG cF hP2
          have HX : Hid _ := kk
          clear kk hP
          go_wp2_with fail
          have r0 : IntKind.i64.wrap (-P) = -P := by rw [wrap_i64_eq]; exact w64 _ (by omega)
          obtain ⟨⟨r1, r2⟩, ⟨-, r4, -⟩, r6, r7⟩ := tr_plain k hlt
          obtain ⟨r3, r5⟩ := tr_drawn k hlt
          refine wp_region_till (S := fun V => V.cell? ⟨GB, k, none⟩ = some (.int .i64 (-P)) ∧ V.cell? ⟨FB, k, none⟩ = some (.int .i64 P) ∧ V.cell? ⟨HB, ((k : Int) % 8 * 8 + (k : Int) / 8).toNat, none⟩ = some (.int .i64 P)) (R := fun _ => True) (k := 100) (m := 100) (by kernel_rfl) ⟨cG, cF, cH⟩ trivial ?_
          clear cG cF cH
          focus
            (refine Walk.take (i := 0) (oi := { dst := some 48, op := Op.move (Operand.tmp 12), type := 3, pos := "law.go:106", after := #[], guard := none }) (v := ?_) rfl (by kernel_rfl) (by kernel_rfl) (by kernel_rfl) (by kernel_rfl) (fun _ _ _ h => h) (Or.inl ⟨by rfl, ?_⟩) ?_; rotate_left; (intro w hw; clear hw; (try go_split_ands); go_simp; try (with_reducible rfl)); simp only [Act.put, List.setIfInBounds_toArray, List.set_cons_zero, List.set_cons_succ])
            (refine Walk.take (i := 1) (oi := { dst := some 49, op := Op.indexAddr 23 (Operand.tmp 10) (Operand.tmp 48), type := 0, pos := "law.go:106", after := #[{ on := 0, ground := Ground.data }], guard := none }) (v := ?_) rfl (by kernel_rfl) (by kernel_rfl) (by kernel_rfl) (by kernel_rfl) (fun _ _ _ h => h) (Or.inl ⟨by rfl, ?_⟩) ?_; rotate_left; (intro w hw; clear hw; (try go_split_ands); go_simp; try (with_reducible rfl)); simp only [Act.put, List.setIfInBounds_toArray, List.set_cons_zero, List.set_cons_succ])
            (refine Walk.take (i := 2) (oi := { dst := some 50, op := Op.load 3 (Operand.tmp 49), type := 3, pos := "law.go:106", after := #[{ on := 1, ground := Ground.data }], guard := none }) (v := ?_) rfl (by kernel_rfl) (by kernel_rfl) (by kernel_rfl) (by kernel_rfl) (fun _ _ _ h => h) (Or.inl ⟨by rfl, ?_⟩) ?_; rotate_left; (intro w hw; have hS1 := hw.1 (by kernel_rfl); clear hw; (try dsimp only at hS1); (try go_split_ands); go_simp; try (with_reducible rfl)); simp only [Act.put, List.setIfInBounds_toArray, List.set_cons_zero, List.set_cons_succ])
            (refine Walk.take (i := 3) (oi := { dst := some 51, op := Op.move (Operand.tmp 12), type := 3, pos := "law.go:106", after := #[], guard := none }) (v := ?_) rfl (by kernel_rfl) (by kernel_rfl) (by kernel_rfl) (by kernel_rfl) (fun _ _ _ h => h) (Or.inl ⟨by rfl, ?_⟩) ?_; rotate_left; (intro w hw; clear hw; (try go_split_ands); go_simp; try (with_reducible rfl)); simp only [Act.put, List.setIfInBounds_toArray, List.set_cons_zero, List.set_cons_succ])
            (refine Walk.take (i := 4) (oi := { dst := some 52, op := Op.indexAddr 23 (Operand.tmp 9) (Operand.tmp 51), type := 0, pos := "law.go:106", after := #[{ on := 3, ground := Ground.data }], guard := none }) (v := ?_) rfl (by kernel_rfl) (by kernel_rfl) (by kernel_rfl) (by kernel_rfl) (fun _ _ _ h => h) (Or.inl ⟨by rfl, ?_⟩) ?_; rotate_left; (intro w hw; clear hw; (try go_split_ands); go_simp; try (with_reducible rfl)); simp only [Act.put, List.setIfInBounds_toArray, List.set_cons_zero, List.set_cons_succ])
            (refine Walk.take (i := 5) (oi := { dst := some 53, op := Op.load 3 (Operand.tmp 52), type := 3, pos := "law.go:106", after := #[{ on := 4, ground := Ground.data }], guard := none }) (v := ?_) rfl (by kernel_rfl) (by kernel_rfl) (by kernel_rfl) (by kernel_rfl) (fun _ _ _ h => h) (Or.inl ⟨by rfl, ?_⟩) ?_; rotate_left; (intro w hw; have hS1 := hw.1 (by kernel_rfl); clear hw; (try dsimp only at hS1); (try go_split_ands); go_simp; try (with_reducible rfl)); simp only [Act.put, List.setIfInBounds_toArray, List.set_cons_zero, List.set_cons_succ])
            (refine Walk.take (i := 6) (oi := { dst := some 54, op := Op.unOp UnOp.neg 3 (Operand.tmp 53), type := 3, pos := "law.go:106", after := #[{ on := 5, ground := Ground.data }], guard := none }) (v := ?_) rfl (by kernel_rfl) (by kernel_rfl) (by kernel_rfl) (by kernel_rfl) (fun _ _ _ h => h) (Or.inl ⟨by rfl, ?_⟩) ?_; rotate_left; (intro w hw; clear hw; (try go_split_ands); go_simp; try (with_reducible rfl)); simp only [Act.put, List.setIfInBounds_toArray, List.set_cons_zero, List.set_cons_succ])
            (refine Walk.take (i := 7) (oi := { dst := some 55, op := Op.binOp BinOp.neq 3 (Operand.tmp 50) (Operand.tmp 54) 3, type := 4, pos := "law.go:106", after := #[{ on := 2, ground := Ground.data }, { on := 6, ground := Ground.data }], guard := none }) (v := ?_) rfl (by kernel_rfl) (by kernel_rfl) (by kernel_rfl) (by kernel_rfl) (fun _ _ _ h => h) (Or.inl ⟨by rfl, ?_⟩) ?_; rotate_left; (intro w hw; clear hw; (try go_split_ands); go_simp; try (with_reducible rfl)); simp only [Act.put, List.setIfInBounds_toArray, List.set_cons_zero, List.set_cons_succ])
            (refine Walk.take (i := 8) (oi := { dst := some 56, op := Op.move (Operand.tmp 55), type := 4, pos := "law.go:106", after := #[{ on := 7, ground := Ground.data }], guard := none }) (v := ?_) rfl (by kernel_rfl) (by kernel_rfl) (by kernel_rfl) (by kernel_rfl) (fun _ _ _ h => h) (Or.inl ⟨by rfl, ?_⟩) ?_; rotate_left; (intro w hw; clear hw; (try go_split_ands); go_simp; try (with_reducible rfl)); simp only [Act.put, List.setIfInBounds_toArray, List.set_cons_zero, List.set_cons_succ])
            (refine Walk.take (i := 9) (oi := { dst := some 57, op := Op.move (Operand.tmp 12), type := 3, pos := "law.go:106", after := #[{ on := 8, ground := Ground.guard }], guard := some (8, false) }) (v := ?_) rfl (by kernel_rfl) (by kernel_rfl) (by kernel_rfl) (by kernel_rfl) (fun _ _ _ h => h) (Or.inl ⟨by rfl, ?_⟩) ?_; rotate_left; (intro w hw; clear hw; (try go_split_ands); go_simp; try (with_reducible rfl)); simp only [Act.put, List.setIfInBounds_toArray, List.set_cons_zero, List.set_cons_succ])
            (refine Walk.take (i := 10) (oi := { dst := some 58, op := Op.binOp BinOp.rem 3 (Operand.tmp 57) (Operand.const (Value.int IntKind.i64 8)) 3, type := 3, pos := "law.go:106", after := #[{ on := 9, ground := Ground.data }, { on := 8, ground := Ground.guard }], guard := some (8, false) }) (v := ?_) rfl (by kernel_rfl) (by kernel_rfl) (by kernel_rfl) (by kernel_rfl) (fun _ _ _ h => h) (Or.inl ⟨by rfl, ?_⟩) ?_; rotate_left; (intro w hw; clear hw; (try go_split_ands); go_simp; try (with_reducible rfl)); simp only [Act.put, List.setIfInBounds_toArray, List.set_cons_zero, List.set_cons_succ])
            (refine Walk.take (i := 11) (oi := { dst := some 59, op := Op.binOp BinOp.mul 3 (Operand.tmp 58) (Operand.const (Value.int IntKind.i64 8)) 3, type := 3, pos := "law.go:106", after := #[{ on := 10, ground := Ground.data }, { on := 8, ground := Ground.guard }], guard := some (8, false) }) (v := ?_) rfl (by kernel_rfl) (by kernel_rfl) (by kernel_rfl) (by kernel_rfl) (fun _ _ _ h => h) (Or.inl ⟨by rfl, ?_⟩) ?_; rotate_left; (intro w hw; clear hw; (try go_split_ands); go_simp; try (with_reducible rfl)); simp only [Act.put, List.setIfInBounds_toArray, List.set_cons_zero, List.set_cons_succ])
            (refine Walk.take (i := 12) (oi := { dst := some 60, op := Op.move (Operand.tmp 12), type := 3, pos := "law.go:106", after := #[{ on := 8, ground := Ground.guard }], guard := some (8, false) }) (v := ?_) rfl (by kernel_rfl) (by kernel_rfl) (by kernel_rfl) (by kernel_rfl) (fun _ _ _ h => h) (Or.inl ⟨by rfl, ?_⟩) ?_; rotate_left; (intro w hw; clear hw; (try go_split_ands); go_simp; try (with_reducible rfl)); simp only [Act.put, List.setIfInBounds_toArray, List.set_cons_zero, List.set_cons_succ])
            (refine Walk.take (i := 13) (oi := { dst := some 61, op := Op.binOp BinOp.quo 3 (Operand.tmp 60) (Operand.const (Value.int IntKind.i64 8)) 3, type := 3, pos := "law.go:106", after := #[{ on := 12, ground := Ground.data }, { on := 8, ground := Ground.guard }], guard := some (8, false) }) (v := ?_) rfl (by kernel_rfl) (by kernel_rfl) (by kernel_rfl) (by kernel_rfl) (fun _ _ _ h => h) (Or.inl ⟨by rfl, ?_⟩) ?_; rotate_left; (intro w hw; clear hw; (try go_split_ands); go_simp; try (with_reducible rfl)); simp only [Act.put, List.setIfInBounds_toArray, List.set_cons_zero, List.set_cons_succ])
            (refine Walk.take (i := 14) (oi := { dst := some 62, op := Op.binOp BinOp.add 3 (Operand.tmp 59) (Operand.tmp 61) 3, type := 3, pos := "law.go:106", after := #[{ on := 11, ground := Ground.data }, { on := 13, ground := Ground.data }, { on := 8, ground := Ground.guard }], guard := some (8, false) }) (v := ?_) rfl (by kernel_rfl) (by kernel_rfl) (by kernel_rfl) (by kernel_rfl) (fun _ _ _ h => h) (Or.inl ⟨by rfl, ?_⟩) ?_; rotate_left; (intro w hw; clear hw; (try go_split_ands); go_simp; try (with_reducible rfl)); simp only [Act.put, List.setIfInBounds_toArray, List.set_cons_zero, List.set_cons_succ])
            (refine Walk.take (i := 15) (oi := { dst := some 63, op := Op.indexAddr 23 (Operand.tmp 11) (Operand.tmp 62), type := 0, pos := "law.go:106", after := #[{ on := 14, ground := Ground.data }, { on := 8, ground := Ground.guard }], guard := some (8, false) }) (v := ?_) rfl (by kernel_rfl) (by kernel_rfl) (by kernel_rfl) (by kernel_rfl) (fun _ _ _ h => h) (Or.inl ⟨by rfl, ?_⟩) ?_; rotate_left; (intro w hw; clear hw; (try go_split_ands); go_simp; try (with_reducible rfl)); simp only [Act.put, List.setIfInBounds_toArray, List.set_cons_zero, List.set_cons_succ])
            (refine Walk.take (i := 16) (oi := { dst := some 64, op := Op.load 3 (Operand.tmp 63), type := 3, pos := "law.go:106", after := #[{ on := 15, ground := Ground.data }, { on := 8, ground := Ground.guard }], guard := some (8, false) }) (v := ?_) rfl (by kernel_rfl) (by kernel_rfl) (by kernel_rfl) (by kernel_rfl) (fun _ _ _ h => h) (Or.inl ⟨by rfl, ?_⟩) ?_; rotate_left; (intro w hw; have hS1 := hw.1 (by kernel_rfl); clear hw; (try dsimp only at hS1); (try go_split_ands); go_simp; try (with_reducible rfl)); simp only [Act.put, List.setIfInBounds_toArray, List.set_cons_zero, List.set_cons_succ])
            (refine Walk.take (i := 17) (oi := { dst := some 65, op := Op.move (Operand.tmp 12), type := 3, pos := "law.go:106", after := #[{ on := 8, ground := Ground.guard }], guard := some (8, false) }) (v := ?_) rfl (by kernel_rfl) (by kernel_rfl) (by kernel_rfl) (by kernel_rfl) (fun _ _ _ h => h) (Or.inl ⟨by rfl, ?_⟩) ?_; rotate_left; (intro w hw; clear hw; (try go_split_ands); go_simp; try (with_reducible rfl)); simp only [Act.put, List.setIfInBounds_toArray, List.set_cons_zero, List.set_cons_succ])
            (refine Walk.take (i := 18) (oi := { dst := some 66, op := Op.indexAddr 23 (Operand.tmp 9) (Operand.tmp 65), type := 0, pos := "law.go:106", after := #[{ on := 17, ground := Ground.data }, { on := 8, ground := Ground.guard }], guard := some (8, false) }) (v := ?_) rfl (by kernel_rfl) (by kernel_rfl) (by kernel_rfl) (by kernel_rfl) (fun _ _ _ h => h) (Or.inl ⟨by rfl, ?_⟩) ?_; rotate_left; (intro w hw; clear hw; (try go_split_ands); go_simp; try (with_reducible rfl)); simp only [Act.put, List.setIfInBounds_toArray, List.set_cons_zero, List.set_cons_succ])
            (refine Walk.take (i := 19) (oi := { dst := some 67, op := Op.load 3 (Operand.tmp 66), type := 3, pos := "law.go:106", after := #[{ on := 18, ground := Ground.data }, { on := 8, ground := Ground.guard }], guard := some (8, false) }) (v := ?_) rfl (by kernel_rfl) (by kernel_rfl) (by kernel_rfl) (by kernel_rfl) (fun _ _ _ h => h) (Or.inl ⟨by rfl, ?_⟩) ?_; rotate_left; (intro w hw; have hS1 := hw.1 (by kernel_rfl); clear hw; (try dsimp only at hS1); (try go_split_ands); go_simp; try (with_reducible rfl)); simp only [Act.put, List.setIfInBounds_toArray, List.set_cons_zero, List.set_cons_succ])
            (refine Walk.take (i := 20) (oi := { dst := some 68, op := Op.binOp BinOp.neq 3 (Operand.tmp 64) (Operand.tmp 67) 3, type := 4, pos := "law.go:106", after := #[{ on := 16, ground := Ground.data }, { on := 19, ground := Ground.data }, { on := 8, ground := Ground.guard }], guard := some (8, false) }) (v := ?_) rfl (by kernel_rfl) (by kernel_rfl) (by kernel_rfl) (by kernel_rfl) (fun _ _ _ h => h) (Or.inl ⟨by rfl, ?_⟩) ?_; rotate_left; (intro w hw; clear hw; (try go_split_ands); go_simp; try (with_reducible rfl)); simp only [Act.put, List.setIfInBounds_toArray, List.set_cons_zero, List.set_cons_succ])
            (refine Walk.take (i := 21) (oi := { dst := some 69, op := Op.pick (Operand.tmp 56) (Operand.const (Value.bool true)) (Operand.tmp 68), type := 4, pos := "law.go:106", after := #[{ on := 8, ground := Ground.data }, { on := 20, ground := Ground.data }], guard := none }) (v := ?_) rfl (by kernel_rfl) (by kernel_rfl) (by kernel_rfl) (by kernel_rfl) (fun _ _ _ h => h) (Or.inl ⟨by rfl, ?_⟩) ?_; rotate_left; (intro w hw; clear hw; (try go_split_ands); go_simp; try (with_reducible rfl)); simp only [Act.put, List.setIfInBounds_toArray, List.set_cons_zero, List.set_cons_succ])
            refine Walk.done (by kernel_rfl) ?_ _
            clear r0 r1 r2 r3 r4 r5 r6 r7
            go_wp2_with fail
            go_roundw
            case rel => exact ⟨k + 1, by omega, by go_num, HX.out⟩
            case measure => simp [intOf]; omega
        · go_wp2_with (go_at_call 12; refine (known_any _ (hT.but kk.but)).mono ?_; rintro e x9 ⟨rfl, dd⟩; replace kk := kk.step dd; clear dd)
          go_ret
          exact ⟨rfl, kk.but⟩

set_option maxRecDepth 100000 in
theorem lifted (os : Os) (started : os.Started) (H : Type) (enc : TypeId × Value → H) :
    ReturnsInHanded {} Tryd.checked os 7 .any (fun w args => (Rows.dctTurnedSpec.pre enc Tryd.prog Tryd.f7 Rows.dctTurnedRow.domain false w args ∧ laidMetH Tryd.prog Rows.dctTurnedRow.laid w) ∧ sizedMet enc Tryd.prog Tryd.f7 (OpenSpec.ofChange Rows.dctTurnedSpec) false w args) (Rows.dctTurnedSpec.post enc Tryd.prog Tryd.f7 false true false false) := by
  refine returnsInHanded_of_change_and (C := Tryd.checked) (X := fun w _ => laidMetH Tryd.prog laidL w) (fun _ _ _ hh h => h.of_heap hh) own started (by kernel_rfl) Tryd.func7
    (ChangeSpec.witness_shaped (enc := enc) (C := Tryd.checked) (os := os) (X := fun w _ => laidMetH Tryd.prog laidL w) false (World.laidAll Tryd.prog os laidL) #[.slice none 0 0, .int .u8 0] 8 (World.laidAll_os _ _ _) (World.shaped_of_ZipB (by kernel_rfl) (by kernel_rfl)) (by kernel_rfl) (by kernel_rfl) (by kernel_rfl) (by rw [MakeChecks.laidMetH_plain _ _ _ (by kernel_rfl)]; exact laidMet_laidAll _ (by kernel_rfl) (by kernel_rfl))) ?_
  intro W base args ds gs before hval0 hW hcnd hsz0 hL0 _
  have hTW := tab_of_laid hL0
  have hval : ∀ (j : Nat) t v, Tryd.f7.params[j]? = some t → args[j]? = some v → Value.okWide Tryd.prog W .any base t v := hval0
  have hsz : (DataW.weightsEach Tryd.prog (Tryd.f7.params.toList ++ Rows.dctTurnedSpec.plain.varTypes Tryd.prog) (ds ++ gs)).all (· ≤ reachBytes) = true := hsz0
  have hW' := hW
  obtain ⟨p, q, hA0, hV, rfl, hfz, hnd⟩ := hW
  have hA : DataW.TrodAll enc Tryd.prog W 0 (fun _ => true) true Tryd.f7.params.toList args.toList ds p := hA0
  rw [Tryd.params7] at hA hval hsz
  obtain ⟨v0, vs0, d0, ds0, p0, q0, hargs, rfl, rfl, h0, r0⟩ := trodAll_cons hA
  obtain ⟨v1, vs1, d1, ds1, p1, q1, rfl, rfl, rfl, h1, r1⟩ := trodAll_cons r0
  obtain ⟨rfl, rfl, rfl⟩ := trodAll_nil r1
  obtain rfl : args = #[v0, v1] := by cases args; simp_all
  obtain ⟨rfl, rfl⟩ := trodVars_none hV
  obtain ⟨l0, ⟨s0, x0⟩, e0⟩ := open_bytes (hval 0 24 v0 rfl rfl) h0
  have n0 := bytes_small hsz (j := 0) rfl rfl e0
  obtain ⟨a1, rfl, rfl, rfl, w1⟩ := open_int Tryd.underlying5 (hval 1 5 v1 rfl rfl) h1
  clear hA0 hval0
  refine (walk W hTW v0 l0 s0 x0 n0 a1 w1).mono fun e W' ⟨he, hg⟩ => ?_
  subst he
  exact ⟨_, rfl, law_post laidOut readable rfl Tryd.underlying4 rfl rfl hW' hg.below⟩

theorem over : Rows.dctTurnedRow.holds Tryd.pinned (OpenSpec.ofChange Rows.dctTurnedSpec) :=
  OpenClaim.holds_of_wide 7 Tryd.f7 rfl rfl rfl rfl rfl rfl rfl ⟨rfl, rfl, rfl, rfl, rfl⟩ rfl rfl rfl rfl rfl (by kernel_rfl) Tryd.func7 (by kernel_rfl)
    (of_decide_eq_true (by kernel_rfl)) (by unfold Func.isWrapper; first | (rw [if_pos (by decide +kernel)]; kernel_rfl) | (rw [if_neg (by decide +kernel)]; exact ⟨rfl, rfl⟩))
    (fun os started H enc _ => lifted os started H enc)

end Go.Proofs.YtlidijlmbelhhaaDoor.dctTurned
namespace Go.Proofs.YtlidijlmbelhhaaDoor
set_option maxRecDepth 100000 in
theorem dctTurned_holds : Rows.DctTurnedCardSaid :=
  Claim7.holds_tied_plain_at .later [] [.data] true (true, "c0c7664018938c434e71cfd2d2174dff01844ca891f7fb176941030ca0ec6212") false dctTurned.over (fun _ h => by cases h) (by kernel_rfl) (fun _ h => by cases h) dctTurned_row_tie rfl ⟨rfl, rfl⟩ (by kernel_rfl) rfl
    (fun f fn hf hfn => by
      obtain rfl : f = 7 := Option.some.inj ((show Tryd.prog.funcNamed "cyanotype/cyanotypelaw08.DctTurned" = some 7 by kernel_rfl).symm.trans hf) |>.symm
      obtain rfl : fn = Tryd.f7 := (Option.some.inj (Tryd.func7.symm.trans hfn)).symm
      exact ⟨by kernel_rfl, fun j t ht => by
        rw [Tryd.params7] at ht
        have hm : t ∈ [24, 5] := by simpa using Array.mem_of_getElem? ht
        have hall : ([24, 5].all fun u => !Tryd.prog.wantsStandIn u) = true := by kernel_rfl
        exact (show Tryd.prog.wantsStandIn t = false by simpa using List.all_eq_true.1 hall t hm)⟩)
    (by kernel_rfl)
#print axioms dctTurned_holds
end Go.Proofs.YtlidijlmbelhhaaDoor
