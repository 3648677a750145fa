/- The codes as the program lays them, by rising lengths: laid. -/
import Derived.RangeFuncBound
import Derived.Shelf.Abstract
import Derived.Shelf.RegionOpen
import Derived.OwnWalkIn
import Derived.TacticsInMore
import Derived.LoopNIn
import Derived.LoopIn
import Derived.Test.YtadcfndjbhcfbaaHuCnt
import Derived.Test.YtadcfndjbhcfbaaHuArg
import Derived.Test.YtadcfndjbhcfbaaMidIn
import Derived.Test.YtadcfndjbhcfbaaLv
namespace Go.Proofs.Ytadcfndjbhcfbaa
set_option linter.unusedVariables false
open Go.ChangeShapes Go.WideShapes Go.ChangeAt Go.RowKit Go.Shelf

theorem wide_fn (k : Nat) : Fence.wide.fn k = True := rfl
theorem wide_depth : Fence.wide.depth = none := rfl

attribute [local go_sem] Oper.semAt_some wide_fn wide_depth Fence.inRound_fn Fence.inRound_depth

/-- A place, and its code. -/
abbrev codeA (c : Nat → Int) (p : Nat) : Value := .agg #[.int .i64 ((lenP c p : Nat) : Int), .int .i64 (numP c p)]

theorem laid_any (c : Nat → Int) (w : World) : Calls Try.prog 38 #[.agg (tab .i64 16 c).toArray] w fun e w' => ∃ b, e = .returned (.func (.func 47) #[] #[.pointer (some ⟨b, 0, none⟩)]) ∧ Keep w w' [(b, 22, tab .i64 16 c)] := by
  have kk := (Keep.start w).made 22 (tab .i64 16 c)
  go_enter Try.func38, Try.ntmps38
  go_wp2_with fail
  go_ret
  exact ⟨_, rfl, kk⟩

theorem index_sixteen (f : Nat → Int) (k : Nat) (hk : k < 16) (w : World) : (Instr.index 22 (.agg (tab .i64 16 f).toArray) (.int .i64 (k : Int))).run Try.prog w = .ok (.int .i64 (f k)) w := by
  have h := Try.underlying22
  have he := Try.underlying3
  have hp := tab_at .i64 16 f k hk
  simp [Instr.index, run_underlying h, asIntOf, hk, part, isAgg, run_underlying he, hp, go_sem]

set_option maxHeartbeats 3200000 in
set_option maxRecDepth 100000 in
theorem laid1_iter (c : Nat → Int) (hc : Cnt c) (cb : Nat) :
    IterS Try.prog 47 #[.pointer (some ⟨cb, 0, none⟩)] (cnt c 16).toNat
      (fun p => #[.int .i64 p, codeA c p]) (fun W => Cells W cb 22 (tab .i64 16 c)) := by
  intro n lo W J D HJ HD HI HY hJ0
  have hu := Try.underlying22
  have hi16 : (Try.prog.info? 22).map (·.size) = some (tab .i64 16 c).length := by rw [tab_length]; kernel_rfl
  have hmx : Try.prog.follows .mixedOrders = true := by kernel_rfl
  have hC : W.rangeAt cb 0 (tab .i64 16 c) := by
    intro j v hv
    have hj : j < 16 := by have := (List.getElem?_eq_some_iff.1 hv).1; rwa [tab_length] at this
    rw [tab_at _ _ _ _ hj] at hv
    rw [Nat.zero_add, (HI 0 W hJ0).cell j hj, ← hv]
  have hTot := hc.most 16 (Nat.le_refl _)
  have hIx := fun k hk V => index_sixteen c k hk V
  obtain ⟨W0, hW0⟩ : ∃ W0, W0 = W := ⟨_, rfl⟩
  have hz0 : W0.heap.size ≤ W.heap.size := by rw [hW0]; exact Nat.le_refl _
  rw [← hW0] at HJ HD HY
  clear hW0
  refine callsIn_of_wp Try.func47 rfl trivial ?_ rfl
  simp only [Try.ntmps47, List.size_toArray, List.length_cons, List.length_nil, Nat.reduceAdd, Nat.reduceSub, Array.replicate_succ, Array.replicate_zero, List.push_toArray, List.append_toArray, List.nil_append, List.cons_append]
  gi_wp2_with (refine wpListIn_load_mid rfl 22 (.tmp 1) rfl cb 0 rfl (tab .i64 16 c) _ ?_ hu rfl hi16 ?_; exact hC)
  clear hC hi16 hu
  gi_loopw [3, 4, 8] (fun p x i wr => ∃ (k : Nat), k ≤ 16 ∧ i = .int .i64 k ∧ p = .int .i64 (cnt c k) ∧ x = .int .i64 (2 * endC c k) ∧ W0.heap.size ≤ wr.heap.size ∧ J (cnt c k).toNat wr) (fun _ _ i _ => (16 - intOf i).toNat)
  case atStart => exact ⟨0, Nat.zero_le _, by simp, rfl, rfl, hz0, hJ0⟩
  case round =>
    clear hJ0 hz0
    obtain ⟨k, hk, rfl, rfl, rfl, hz, hj⟩ := hrel
    by_cases hlt : (k : Int) < 16
    · have hkN : k < 16 := by omega
      have i0 : (0 : Int) ≤ (k : Int) := by omega
      have hx := hIx k hkN
      have q1 := hc k hkN
      have q2 := hc.endSmall k (by omega)
      have q3 := hc.pos k (by omega)
      have q4 := hc.most k (by omega)
      have hs1 : endC c (k + 1) = 2 * endC c k + c k := rfl
      have hs2 : cnt c (k + 1) = cnt c k + c k := rfl
      have hm16 := hc.mono (k + 1) 16 (by omega) (Nat.le_refl _)
      have HAT : Hid (∀ m : Nat, (m : Int) < c k → ∃ p : Nat, (p : Int) = cnt c k + m ∧ p < (cnt c 16).toNat ∧ lenP c p = k + 1 ∧ numP c p = 2 * endC c k + m) := fun m hm => by
        have := hc.at k hkN m ⟨by omega, hm⟩ (cnt c k + m).toNat (by omega)
        exact ⟨(cnt c k + m).toNat, by omega, by omega, this.1, this.2⟩
      obtain ⟨x, hxk⟩ : ∃ x, c k = x := ⟨_, rfl⟩
      obtain ⟨E, hE⟩ : ∃ x, endC c k = x := ⟨_, rfl⟩
      obtain ⟨N, hN⟩ : ∃ x, cnt c k = x := ⟨_, rfl⟩
      rw [hxk] at hx hs1 hs2 HAT q1
      rw [hE] at hs1 HAT q2 ⊢
      rw [hN] at hs2 HAT q3 q4 hj ⊢
      have HS : Hid _ := And.intro hs1 hs2
      clear hs1 hs2 hxk hE hN hIx
      gi_wp2
      gi_loopw [3, 4, 13] (fun p v i wr => ∃ (m : Nat), (m : Int) ≤ x ∧ i = .int .i64 m ∧ p = .int .i64 (N + m) ∧ v = .int .i64 (2 * E + m) ∧ W0.heap.size ≤ wr.heap.size ∧ J (N + m).toNat wr) (fun _ _ i _ => (x - intOf i).toNat)
      case atStart => exact ⟨0, by omega, by simp, by simp, by simp, hz, by simpa using hj⟩
      case round =>
        clear hj hz
        obtain ⟨m, hm, rfl, rfl, rfl, hz, hj⟩ := hrel
        by_cases hlm : (m : Int) < x
        · obtain ⟨p, p1, p2, p3, p4⟩ := HAT.out m hlm
          rw [← p1, Int.toNat_natCast] at hj
          obtain ⟨fn, tmps, assign, body, hy, hR⟩ := HY p _ p2 hz hj
          rw [← p1, ← p4]
          have hk1 : ((lenP c p : Nat) : Int) = (k : Int) + 1 := by rw [p3]; simp
          have hr1 : numP c p + 1 = 2 * E + ((m + 1 : Nat) : Int) := by rw [p4]; push_cast; omega
          have hb0 : 0 ≤ numP c p ∧ numP c p ≤ 50000000 := by rw [p4]; omega
          have hbp : (p : Int) ≤ 5000 := by omega
          unfold codeA at hy
          rw [hk1] at hy
          have HP : Hid _ := And.intro p1 hr1
          clear p1 p2 p3 p4 hj hr1
          gi_wp2
          refine hR.mono ?_
          rintro e W4 ⟨hbW, (⟨rfl, j4⟩ | ⟨rfl, d4⟩)⟩
          · have hz4 : W0.heap.size ≤ W4.heap.size := Nat.le_trans hz hbW.size
            clear hy hR hbW
            gi_wp2
            go_roundw
            case rel => exact ⟨m + 1, by omega, by go_num, by rw [HP.out.1]; go_num, by rw [HP.out.2], hz4, by have := HP.out.1; rw [show (N + ((m + 1 : Nat) : Int)).toNat = p + 1 by omega]; exact j4⟩
            case measure => simp [intOf]; omega
          · clear hy hR
            gi_wp2
            try simp only [Exit.inBlock, Exit.then]
            exact bodyPost_ret (results_none rfl _ _ _) rfl ⟨⟨_, rfl⟩, .inr d4⟩
        · obtain rfl : (m : Int) = x := by omega
          gi_wp2
          go_roundw
          case rel => exact ⟨k + 1, by omega, by go_num, by rw [HS.out.2], by rw [HS.out.1]; go_num, hz, by rw [HS.out.2]; exact hj⟩
          case measure => simp [intOf]; omega
    · obtain rfl : k = 16 := by omega
      gi_wp2
      go_end0
      exact ⟨⟨_, rfl⟩, .inl hj⟩

end Go.Proofs.Ytadcfndjbhcfbaa
