import Derived.Test.YtlpeplihbdcklaaOp6
import Derived.Test.YtlpeplihbdcklaaMgA

/- Arrays of 257 numbers; how often each value comes, the program's. -/
namespace Go.Proofs.Ytlpeplihbdcklaa
set_option linter.unusedVariables false
open Go.ChangeShapes Go.WideShapes Go.ChangeAt Go.RowKit

theorem zero257 : ∀ (W : World), (zeroValue 47).run Try.prog W = .ok (.agg (tab .i64 257 (fun _ => 0)).toArray) W :=
  (zero_of_info (n := 257) (by kernel_rfl)).1
theorem info257 (f : Nat → Int) : (Try.prog.info? 47).map (·.size) = some (tab .i64 257 f).length := by rw [tab_length]; kernel_rfl
theorem infoB257 (f : Nat → Int) : (Try.prog.info? 47).map (·.size) = some (tab .i64 257 f).toArray.size := by rw [List.size_toArray, tab_length]; kernel_rfl

theorem index_257 (f : Nat → Int) (k : Nat) (hk : k < 257) (w : World) : (Instr.index 47 (.agg (tab .i64 257 f).toArray) (.int .i64 (k : Int))).run Try.prog w = .ok (.int .i64 (f k)) w := by
  have h := Try.underlying47
  have h0 : 0 ≤ (k : Int) ∧ (k : Int) < ((257 : Nat) : Int) := by omega
  have ha := tab_at .i64 257 f k hk
  simp [Instr.index, run_underlying h, asIntOf, h0, part, go_sem, ha, hk]

theorem clip_max (x : Int) : min (max x 0) 1048576 = clipW x := by unfold clipW; split <;> (try split) <;> omega

/-- What is in one block is laid into the other. -/
theorem counted_end {w W : World} {a b : Nat} {t : TypeId} {f g : Nat → Int} {l : List Bk} (h : Keep w W ((a, t, tab .i64 257 f) :: (b, t, tab .i64 257 g) :: l)) : Cells (W.setCells b 0 (tab .i64 257 f)) b t (tab .i64 257 f) ∧ But Nowhere w (W.setCells b 0 (tab .i64 257 f)) := by
  have h2 := h.swap.drop
  have hb := h.swap.new (b, t, tab .i64 257 g) (by simp)
  simp only at hb
  exact ⟨h.swap.head.layAll f, h.but.setCells _ (fun q => by omega) 0⟩

set_option maxHeartbeats 3200000 in
set_option maxRecDepth 100000 in
theorem counted_any (ao : Option Addr) (cap : Nat) (l : List Int) (hI : ∀ x ∈ l, I64 x) (hl : l.length ≤ 140737488355328) (hcap : l.length ≤ cap) (w : World) (hv : View w .i64 (.slice ao l.length cap) l) :
    Calls Try.prog 22 #[.slice ao l.length cap] w fun e w' => e = .returned (.agg (tab .i64 257 (wtF l)).toArray) ∧ But Nowhere w w' := by
  have hu := Try.underlying47
  have hz := zero257
  obtain ⟨m, hm⟩ : ∃ m, min l.length 256 = m := ⟨_, rfl⟩
  have r1 : min (l.length : Int) 256 = (m : Int) := by omega
  have m0 : (0 : Int) ≤ (m : Int) := by omega
  have m1 : (m : Int) ≤ (cap : Int) := by omega
  have kk := ((Keep.start w).made 47 (tab .i64 257 (fun _ => 0))).made 47 (tab .i64 257 (fun _ => 0))
  simp only [World.size_alloc] at kk
  go_enter Try.func22, Try.ntmps22
  have HV : 0 < l.length → ∃ b off, ao = some ⟨b, off, none⟩ ∧ b < w.heap.size ∧ ∀ i (hi : i < l.length), w.cell? ⟨b, off + i, none⟩ = some (.int .i64 l[i]) := fun h => by
    obtain ⟨ao', cap', e, h'⟩ := hv
    cases e
    exact h' (by intro q; subst q; simp at h)
  clear hv r1 m0 m1
  have c0 : (0 : Int) ≤ (l.length : Int) := by omega
  have c1 : (l.length : Int) ≤ (cap : Int) := by omega
  by_cases q : (l.length : Int) ≤ 256
  · have hm0 : ¬ 256 < (l.length : Int) := by omega
    go_upto_region 3 with fail
    go_loopw [12] (fun i V => ∃ k : Nat, k ≤ l.length ∧ i = .int .i64 k ∧ Keep w V [(w.heap.size + 1, 47, tab .i64 257 (fun j => if j < k then wtF l j else 0)), (w.heap.size, 47, tab .i64 257 (fun _ => 0))]) (fun i _ => l.length - (intOf i).toNat)
    case atStart => exact ⟨0, Nat.zero_le _, rfl, by rw [wt_start]; exact kk⟩
    case round =>
      clear kk
      obtain ⟨k, hk, rfl, kk⟩ := hrel
      by_cases hlt : k < l.length
      · have hk1 : k < l.length := by omega
        have hk2 : k < 257 := by omega
        have i0 : (0 : Int) ≤ (k : Int) := by omega
        have i1 : (k : Int) < ((l.length : Nat) : Int) := by omega
        have i2 : (k : Int) < 257 := by omega
        have i3 : (k : Int) < (l.length : Int) := by omega
        obtain ⟨b, off, rfl, hbl, hcell⟩ := HV (by omega)
        have c0 := (kk.but.cell (p := ⟨b, off + k, none⟩) hbl (not_nowhere _)).trans (hcell k hk1)
        have f0 := kk.head.frozen k
        have x0 := kk.head.cell k hk2
        have hw : wtF l k = clipW l[k] := wtF_at l k hk1 (by omega)
        have kk2 := kk.set k (.int .i64 (wtF l k))
        rw [wt_set] at kk2
        rw [hw] at kk2
        have HK : Hid _ := kk2
        clear kk kk2 HV hw
        generalize l[k] = x at *
        rcases (show (x < 0 ∧ clipW x = 0) ∨ (1048576 < x ∧ clipW x = 1048576) ∨ ((0 ≤ x ∧ x ≤ 1048576) ∧ clipW x = x) by unfold clipW; split <;> (try split) <;> omega) with ⟨h1, e⟩ | ⟨h1, e⟩ | ⟨⟨h1, h2⟩, e⟩
        all_goals rw [e] at HK
        · have h3 : ¬ 0 < x := by omega
          have h4 : ¬ 0 ≤ x := by omega
          have d1 : max x 0 = 0 := by omega
          go_wp2_with fail
          go_roundw
          case rel => exact ⟨k + 1, by omega, by go_num, HK.out⟩
          case measure => simp [intOf]; omega
        · have h3 : 0 < x := by omega
          have d1 : max x 0 = x := by omega
          have d2 : min x 1048576 = 1048576 := by omega
          go_wp2_with fail
          go_roundw
          case rel => exact ⟨k + 1, by omega, by go_num, HK.out⟩
          case measure => simp [intOf]; omega
        · have d1 : max x 0 = x := by omega
          have d2 : min x 1048576 = x := by omega
          go_wp2_with fail
          go_roundw
          case rel => exact ⟨k + 1, by omega, by go_num, HK.out⟩
          case measure => simp [intOf]; omega
      · obtain rfl : k = l.length := by omega
        have f0 := kk.head.frozen 256
        have x0 := kk.head.cell 256 (by omega)
        have kk2 := kk.set 256 (.int .i64 1)
        rw [wt_last l _ (by omega) (by omega)] at kk2
        have HK : Hid _ := kk2
        have HF : Hid _ := counted_end kk2
        have hr := kk2.head.all
        have hth := (kk2.swap.head.there 0 (tab .i64 257 (wtF l)).toArray.size (by rw [List.size_toArray, tab_length, tab_length]; omega))
        clear kk kk2
        go_wp2_with (first | (refine wpList_load_mid rfl 47 (.tmp 3) rfl (w.heap.size + 1) 0 rfl (tab .i64 257 (wtF l)) _ ?_ hu rfl (info257 _) ?_; exact hr) | (refine wpList_store_mid rfl 47 (.tmp 2) (.tmp 24) rfl w.heap.size 0 (tab .i64 257 (wtF l)).toArray rfl rfl ?_ (infoB257 _) (tab_all _ _ _) ?_; exact hth))
        exact bodyPost_ret (results_cells rfl HF.out.1 hu rfl (info257 _) _ rfl) rfl ⟨rfl, HF.out.2⟩
  · have hm0 : 256 < (l.length : Int) := by omega
    have c2 : (256 : Int) ≤ (cap : Int) := by omega
    have c3 : max (256 : Int) 0 = 256 := rfl
    go_upto_region 3 with fail
    go_loopw [12] (fun i V => ∃ k : Nat, k ≤ 256 ∧ i = .int .i64 k ∧ Keep w V [(w.heap.size + 1, 47, tab .i64 257 (fun j => if j < k then wtF l j else 0)), (w.heap.size, 47, tab .i64 257 (fun _ => 0))]) (fun i _ => 256 - (intOf i).toNat)
    case atStart => exact ⟨0, Nat.zero_le _, rfl, by rw [wt_start]; exact kk⟩
    case round =>
      clear kk
      obtain ⟨k, hk, rfl, kk⟩ := hrel
      by_cases hlt : k < 256
      · have hk1 : k < l.length := by omega
        have hk2 : k < 257 := by omega
        have i0 : (0 : Int) ≤ (k : Int) := by omega
        have i1 : (k : Int) < ((256 : Nat) : Int) := by omega
        have i2 : (k : Int) < 257 := by omega
        have i3 : (k : Int) < (l.length : Int) := by omega
        obtain ⟨b, off, rfl, hbl, hcell⟩ := HV (by omega)
        have c0 := (kk.but.cell (p := ⟨b, off + k, none⟩) hbl (not_nowhere _)).trans (hcell k hk1)
        have f0 := kk.head.frozen k
        have x0 := kk.head.cell k hk2
        have hw : wtF l k = clipW l[k] := wtF_at l k hk1 (by omega)
        have kk2 := kk.set k (.int .i64 (wtF l k))
        rw [wt_set] at kk2
        rw [hw] at kk2
        have HK : Hid _ := kk2
        clear kk kk2 HV hw
        generalize l[k] = x at *
        rcases (show (x < 0 ∧ clipW x = 0) ∨ (1048576 < x ∧ clipW x = 1048576) ∨ ((0 ≤ x ∧ x ≤ 1048576) ∧ clipW x = x) by unfold clipW; split <;> (try split) <;> omega) with ⟨h1, e⟩ | ⟨h1, e⟩ | ⟨⟨h1, h2⟩, e⟩
        all_goals rw [e] at HK
        · have h3 : ¬ 0 < x := by omega
          have h4 : ¬ 0 ≤ x := by omega
          have d1 : max x 0 = 0 := by omega
          go_wp2_with fail
          go_roundw
          case rel => exact ⟨k + 1, by omega, by go_num, HK.out⟩
          case measure => simp [intOf]; omega
        · have h3 : 0 < x := by omega
          have d1 : max x 0 = x := by omega
          have d2 : min x 1048576 = 1048576 := by omega
          go_wp2_with fail
          go_roundw
          case rel => exact ⟨k + 1, by omega, by go_num, HK.out⟩
          case measure => simp [intOf]; omega
        · have d1 : max x 0 = x := by omega
          have d2 : min x 1048576 = x := by omega
          go_wp2_with fail
          go_roundw
          case rel => exact ⟨k + 1, by omega, by go_num, HK.out⟩
          case measure => simp [intOf]; omega
      · obtain rfl : k = 256 := by omega
        have f0 := kk.head.frozen 256
        have x0 := kk.head.cell 256 (by omega)
        have kk2 := kk.set 256 (.int .i64 1)
        rw [wt_last l _ (by omega) (by omega)] at kk2
        have HK : Hid _ := kk2
        have HF : Hid _ := counted_end kk2
        have hr := kk2.head.all
        have hth := (kk2.swap.head.there 0 (tab .i64 257 (wtF l)).toArray.size (by rw [List.size_toArray, tab_length, tab_length]; omega))
        clear kk kk2
        go_wp2_with (first | (refine wpList_load_mid rfl 47 (.tmp 3) rfl (w.heap.size + 1) 0 rfl (tab .i64 257 (wtF l)) _ ?_ hu rfl (info257 _) ?_; exact hr) | (refine wpList_store_mid rfl 47 (.tmp 2) (.tmp 24) rfl w.heap.size 0 (tab .i64 257 (wtF l)).toArray rfl rfl ?_ (infoB257 _) (tab_all _ _ _) ?_; exact hth))
        exact bodyPost_ret (results_cells rfl HF.out.1 hu rfl (info257 _) _ rfl) rfl ⟨rfl, HF.out.2⟩

end Go.Proofs.Ytlpeplihbdcklaa

/- The greatest length of which there are any; how many codes of each length there are. -/
namespace Go.Proofs.Ytlpeplihbdcklaa
set_option linter.unusedVariables false
open Go.ChangeShapes Go.WideShapes Go.ChangeAt Go.RowKit

set_option maxHeartbeats 1600000 in
theorem greatest_any (b n cap : Nat) (T : TypeId) (f : Nat → Int) (x : Int) (h1 : 1 ≤ n) (h2 : n ≤ 257) (w : World) (hc : Cells w b T (tab .i64 257 f)) :
    Calls Try.prog 43 #[.slice (some ⟨b, 0, none⟩) n cap] w fun e w' => e = .returned (.int .i64 (anyTo f (n - 1))) ∧ But Nowhere w w' := by
  have r1 : IntKind.i64.wrap ((n : Int) - 1) = (n : Int) - 1 := by rw [wrap_i64_eq, w64 _ (by omega)]
  go_enter Try.func43, Try.ntmps43
  go_upto_region 2 with fail
  go_loopw [3] (fun v V => ∃ q : Nat, q ≤ n - 1 ∧ v = .int .i64 q ∧ anyTo f (n - 1) = anyTo f q ∧ V = w) (fun v _ => (intOf v).toNat)
  case atStart => exact ⟨n - 1, Nat.le_refl _, by rw [show ((n - 1 : Nat) : Int) = (n : Int) - 1 by omega], rfl, rfl⟩
  case round =>
    obtain ⟨q, hq, rfl, hany, rfl⟩ := hrel
    by_cases q0 : q = 0
    · subst q0
      have HA : Hid (anyTo f (n - 1) = 0) := hany
      clear hany
      go_wp2_with fail
      go_ret
      rw [HA.out]
      exact ⟨rfl, But.refl _ _⟩
    · have d1 : decide ((q : Int) > 0) = true := by simp; omega
      have z0 : (0 : Int) ≤ (q : Int) := by omega
      have z1 : (q : Int) < (n : Int) := by omega
      have c0 := hc.cell q (by omega)
      have r2 : IntKind.i64.wrap ((q : Int) - 1) = (q : Int) - 1 := by rw [wrap_i64_eq, w64 _ (by omega)]
      by_cases hz : f q = 0
      · have HA : Hid (anyTo f (n - 1) = anyTo f (q - 1)) := by show _ = _; rw [hany, anyTo_zero f q (by omega) hz]
        rw [hz] at c0
        clear hany hz
        go_wp2_with fail
        go_roundw
        case rel => exact ⟨q - 1, by omega, by rw [show ((q - 1 : Nat) : Int) = (q : Int) - 1 by omega], HA.out, trivial⟩
        case measure => simp [intOf]; omega
      · have HA : Hid (anyTo f (n - 1) = q) := by show _ = _; rw [hany, anyTo_not f q (by omega) hz]
        have d2 : (f q == 0) = false := by simpa using hz
        clear hany hz
        go_wp2_with fail
        go_ret
        rw [HA.out]
        exact ⟨rfl, But.refl _ _⟩

theorem anyTo_congr {f g : Nat → Int} : ∀ k, (∀ j, 1 ≤ j → j ≤ k → f j = g j) → anyTo f k = anyTo g k
  | 0, _ => rfl
  | k + 1, h => by
    unfold anyTo
    rw [h (k + 1) (by omega) (Nat.le_refl _), anyTo_congr k (fun j h1 h2 => h j h1 (by omega))]

/-- How many of those that come are of size s. -/
def tally (W : Nat → Int) (z : Nat → Nat) (n s : Nat) : Int := sm (fun i => if 0 < W i ∧ z i = s then 1 else 0) n
theorem tally_bd (W : Nat → Int) (z : Nat → Nat) (n s : Nat) : 0 ≤ tally W z n s ∧ tally W z n s ≤ n := by
  refine ⟨sm_pos (fun i _ => by split <;> omega), ?_⟩
  induction n with
  | zero => exact Int.le_refl _
  | succ n ih =>
    have ih' : sm (fun i => if 0 < W i ∧ z i = s then 1 else 0) n ≤ (n : Int) := ih
    show sm (fun i => if 0 < W i ∧ z i = s then 1 else 0) n + (if 0 < W n ∧ z n = s then 1 else 0) ≤ ((n + 1 : Nat) : Int)
    split <;> omega

theorem tally_set (W : Nat → Int) (z : Nat → Nat) (k : Nat) (h : 0 < W k) : upd (tally W z k) (z k) (tally W z k (z k) + 1) = tally W z (k + 1) := by
  funext s
  unfold upd tally
  show _ = sm (fun i => if 0 < W i ∧ z i = s then 1 else 0) k + (if 0 < W k ∧ z k = s then 1 else 0)
  by_cases e : s = z k
  · subst e; rw [if_pos rfl, if_pos ⟨h, rfl⟩]
  · rw [if_neg e, if_neg (fun q => e q.2.symm), Int.add_zero]
theorem tally_skip (W : Nat → Int) (z : Nat → Nat) (k : Nat) (h : ¬ 0 < W k) : tally W z k = tally W z (k + 1) := by
  funext s
  show _ = sm (fun i => if 0 < W i ∧ z i = s then 1 else 0) k + (if 0 < W k ∧ z k = s then 1 else 0)
  rw [if_neg (fun q => h q.1), Int.add_zero]
  rfl

set_option maxHeartbeats 3200000 in
set_option maxRecDepth 100000 in
theorem tallied_any (W : Nat → Int) (z : Nat → Nat) (hz : ∀ i, i < 257 → z i < 257) (w : World) :
    Calls Try.prog 26 #[.agg (tab .i64 257 W).toArray, .agg (tab .i64 257 (fun i => (z i : Int))).toArray] w fun e w' => e = .returned (.agg (tab .i64 257 (tally W z 257)).toArray) ∧ But Nowhere w w' := by
  have hu := Try.underlying47
  have hz0 := zero257
  have kk := ((((Keep.start w).made 47 (tab .i64 257 W)).made 47 (tab .i64 257 (fun i => (z i : Int)))).made 47 (tab .i64 257 (fun _ => 0))).made 47 (tab .i64 257 (fun _ => 0))
  simp only [World.size_alloc] at kk
  have hr := (kk.front 2 (by simp)).head.all
  go_enter Try.func26, Try.ntmps26
  go_upto_region 3 with (refine wpList_load_mid rfl 47 (.tmp 3) rfl (w.heap.size + 1) 0 rfl (tab .i64 257 (fun i => (z i : Int))) _ ?_ hu rfl (info257 _) ?_; exact hr)
  clear hr hz0
  go_loopw [9] (fun v V => ∃ k : Nat, k ≤ 257 ∧ v = .int .i64 k ∧ Keep w V [(w.heap.size + 1 + 1 + 1, 47, tab .i64 257 (tally W z k)), (w.heap.size + 1 + 1, 47, tab .i64 257 (fun _ => 0)), (w.heap.size + 1, 47, tab .i64 257 (fun i => (z i : Int))), (w.heap.size, 47, tab .i64 257 W)]) (fun v _ => 257 - (intOf v).toNat)
  case atStart => exact ⟨0, Nat.zero_le _, rfl, kk⟩
  case round =>
    clear kk
    obtain ⟨k, hk, rfl, kk⟩ := hrel
    by_cases hlt : k < 257
    · have z0 : (0 : Int) ≤ (k : Int) := by omega
      have z1 : (k : Int) < 257 := by omega
      have x0 := index_257 (fun i => (z i : Int)) k hlt
      have c0 := (kk.front 3 (by simp)).head.cell k hlt
      have hzk := hz k hlt
      have t0 : (0 : Int) ≤ (z k : Int) := by omega
      have t1 : (z k : Int) < 257 := by omega
      have c1 := kk.head.cell (z k) hzk
      have f1 := kk.head.frozen (z k)
      have tb := tally_bd W z k (z k)
      have r1 : IntKind.i64.wrap (tally W z k (z k) + 1) = tally W z k (z k) + 1 := by rw [wrap_i64_eq, w64 _ (by omega)]
      by_cases hp : 0 < W k
      · have d1 : decide (W k > 0) = true := by simpa using hp
        have kk2 := kk.set (z k) (.int .i64 (tally W z k (z k) + 1))
        rw [tab_set, tally_set W z k hp] at kk2
        have HK : Hid _ := kk2
        clear kk kk2 tb hp
        generalize tally W z k (z k) = A at *
        generalize W k = B at *
        generalize z k = C at *
        go_wp2_with fail
        go_roundw
        case rel => exact ⟨k + 1, by omega, by go_num, HK.out⟩
        case measure => simp [intOf]; omega
      · have d1 : decide (W k > 0) = false := by simpa using hp
        rw [tally_skip W z k hp] at kk
        have HK : Hid _ := kk
        clear kk hp tb r1 c1 f1
        generalize W k = B at *
        go_wp2_with fail
        go_roundw
        case rel => exact ⟨k + 1, by omega, by go_num, HK.out⟩
        case measure => simp [intOf]; omega
    · obtain rfl : k = 257 := by omega
      have HF : Hid _ := counted_end kk
      have hr := kk.head.all
      have hth := (kk.swap.head.there 0 (tab .i64 257 (tally W z 257)).toArray.size (by rw [List.size_toArray, tab_length, tab_length]; omega))
      clear kk
      go_wp2_with (first | (refine wpList_load_mid rfl 47 (.tmp 5) rfl (w.heap.size + 1 + 1 + 1) 0 rfl (tab .i64 257 (tally W z 257)) _ ?_ hu rfl (info257 _) ?_; exact hr) | (refine wpList_store_mid rfl 47 (.tmp 4) (.tmp 23) rfl (w.heap.size + 1 + 1) 0 (tab .i64 257 (tally W z 257)).toArray rfl rfl ?_ (infoB257 _) (tab_all _ _ _) ?_; exact hth))
      exact bodyPost_ret (results_cells rfl HF.out.1 hu rfl (info257 _) _ rfl) rfl ⟨rfl, HF.out.2⟩

end Go.Proofs.Ytlpeplihbdcklaa

/- Codes that are too long made shorter; the last code left out. -/
namespace Go.Proofs.Ytlpeplihbdcklaa
set_option linter.unusedVariables false
open Go.ChangeShapes Go.WideShapes Go.ChangeAt Go.RowKit

/-- Counts that fill just what there is, or none of any length. -/
def Sd (f : Nat → Int) (i : Nat) : Prop := (∃ T, T ≤ 257 ∧ Full f i T) ∨ ((0 ≤ f 0 ∧ f 0 ≤ 257) ∧ ∀ s, 0 < s → f s = 0)

theorem Sd.bd {f : Nat → Int} {i : Nat} (h : Sd f i) (s : Nat) (hs : s < 260) : 0 ≤ f s ∧ f s ≤ 257 := by
  rcases h with ⟨T, hT, hf⟩ | ⟨h0, h⟩
  · exact Gd.bd (.inl ⟨T, hT, hf⟩) s hs
  · rcases Nat.eq_zero_or_pos s with e | e
    · subst e; exact h0
    · rw [h s e]; omega

theorem Sd.less {f : Nat → Int} {i : Nat} (h : Sd f (i + 1)) (h0 : ¬ 0 < f (i + 1)) (hi : i + 1 < 260) : Sd f i := by
  rcases h with ⟨T, hT, hf⟩ | h
  · rcases Gd.less (.inl ⟨T, hT, hf⟩) h0 hi with a | a
    · exact .inl a
    · exact .inr ⟨by rw [a 0]; omega, fun s _ => a s⟩
  · exact .inr h

theorem Sd.cut {f : Nat → Int} {i : Nat} (h : Sd f i) (h1 : 17 ≤ i) (h2 : i < 260) (h3 : 0 < f i) : Sd (cut1 f i) i ∧ cut1 f i i = f i - 2 ∧ (∃ j, 1 ≤ j ∧ j ≤ i - 2 ∧ f j ≠ 0) := by
  rcases h with ⟨T, hT, hf⟩ | ⟨-, h⟩
  · obtain ⟨a, b⟩ := hf.cut h1 h2 hT h3
    exact ⟨.inl ⟨T, hT, a⟩, b, hf.shorter h1 h2 hT⟩
  · rw [h i (by omega)] at h3; omega

theorem four_cut' (f : Nat → Int) (i j : Nat) (hi : 2 ≤ i) (hj : anyTo f (i - 2) = j) (hji : j ≤ i - 2) :
    upd (upd (upd (upd f i (f i - 2)) (i - 1) (f (i - 1) + 1)) j (f j - 1)) (j + 1) ((if j + 1 = i - 1 then f (i - 1) + 1 else f (j + 1)) + 2) = cut1 f i := by
  rw [← four_cut f i j hi hj hji]
  generalize upd (upd f i (f i - 2)) (i - 1) (f (i - 1) + 1) = g
  funext s
  unfold upd
  by_cases e1 : s = j
  · subst e1; rw [if_neg (by omega), if_pos rfl, if_pos rfl]
  · rw [if_neg e1, if_neg e1]

set_option maxHeartbeats 6400000 in
set_option maxRecDepth 100000 in
theorem shortened_any (f : Nat → Int) (hG : Sd f 256) (w : World) : Calls Try.prog 25 #[.agg (tab .i64 257 f).toArray] w fun e w' => e = .returned (.agg (tab .i64 257 (cutAll 240 f)).toArray) ∧ But Nowhere w w' := by
  have hu := Try.underlying47
  have hz0 := zero257
  have kk := ((Keep.start w).made 47 (tab .i64 257 f)).made 47 (tab .i64 257 (fun _ => 0))
  simp only [World.size_alloc] at kk
  replace kk := kk.swap
  have HG : Hid (Sd f 256) := hG
  clear hG
  go_enter Try.func25, Try.ntmps25
  go_upto_region 2 with fail
  clear hz0
  go_loopw [3, 4] (fun v _ V => ∃ (i : Nat) (h : Nat → Int), 16 ≤ i ∧ i ≤ 256 ∧ v = .int .i64 (i : Int) ∧ Sd h i ∧ cutAll (i - 16) h = cutAll 240 f ∧ Keep w V [(w.heap.size, 47, tab .i64 257 h), (w.heap.size + 1, 47, tab .i64 257 (fun _ => 0))]) (fun v _ _ => (intOf v).toNat)
  case atStart => exact ⟨256, f, by omega, by omega, rfl, HG.out, rfl, kk⟩
  case round =>
    clear kk
    obtain ⟨i, h, hi1, hi2, rfl, hg, hcut, kk⟩ := hrel
    have i0 : (0 : Int) ≤ (i : Int) := by omega
    have i1 : (i : Int) < 257 := by omega
    by_cases hlt : 17 ≤ i
    · have i3 : (16 : Int) < (i : Int) := by omega
      rw [cutAll_step h i hlt] at hcut
      go_upto_region 4 with fail
      go_loopw [4] (fun _ V => ∃ (k : Nat) (h : Nat → Int), h i ≤ 2 * k ∧ Sd h i ∧ cutAll (i - 1 - 16) (cutAt i k h) = cutAll 240 f ∧ Keep w V [(w.heap.size, 47, tab .i64 257 h), (w.heap.size + 1, 47, tab .i64 257 (fun _ => 0))]) (fun _ V => (intOf ((V.cell? ⟨w.heap.size, i, none⟩).getD (.int .i64 0))).toNat)
      case atStart => exact ⟨300, h, by have := hg.bd i (by omega); omega, hg, hcut, kk⟩
      case round =>
        clear kk hg hcut h
        obtain ⟨k, h, hk, hg, hcut, kk⟩ := hrel
        have c0 := kk.head.cell i (by omega)
        have hM := c0
        by_cases hpos : 0 < h i
        · have d1 : decide (h i > 0) = true := by simpa using hpos
          obtain ⟨k', rfl⟩ : ∃ k', k = k' + 1 := ⟨k - 1, by omega⟩
          rw [cutAt_pos hpos] at hcut
          obtain ⟨hg', he', j0, j1, j2, j3⟩ := hg.cut hlt (by omega) hpos
          obtain ⟨b1, b2⟩ := anyTo_at h (i - 2) j0 j1 j2 j3
          have HC : Hid (cutAll (i - 1 - 16) (cutAt i k' (cut1 h i)) = cutAll 240 f) := hcut
          have HG2 : Hid (Sd (cut1 h i) i) := hg'
          have HE : Hid (cut1 h i i = h i - 2) := he'
          obtain ⟨q, hq⟩ : ∃ q, anyTo h (i - 2) = q := ⟨_, rfl⟩
          have q1 : 1 ≤ q := by omega
          have q2 : q ≤ i - 2 := by rw [← hq]; exact anyTo_le _ _
          have HJ : Hid (anyTo h (i - 2) = q) := hq
          have HBD : Hid (∀ s, s < 260 → 0 ≤ h s ∧ h s ≤ 257) := hg.bd
          have HM : Hid _ := hM
          have HPOS : Hid (0 < h i) := hpos
          have HBi := HBD.out i (by omega)
          have HBq := HBD.out q (by omega)
          have HBr := HBD.out (q + 1) (by omega)
          have HBp := HBD.out (i - 1) (by omega)
          clear hcut hg' he' j1 j2 j3 b1 b2 hg hM hq c0 hpos
          obtain ⟨P, hP⟩ : ∃ P, i - 1 = P := ⟨_, rfl⟩
          rw [hP] at HBp
          have rp : (i : Int) - 1 = (P : Int) := by omega
          have p0 : (0 : Int) ≤ (P : Int) := by omega
          have p1 : (P : Int) < 257 := by omega
          have p2 : (P : Int) ≤ 257 := by omega
          have z0 : (0 : Int) ≤ (q : Int) := by omega
          have z1 : (q : Int) < 257 := by omega
          have z2 : (0 : Int) ≤ (q : Int) + 1 := by omega
          have z3 : (q : Int) + 1 < 257 := by omega
          have s1 : IntKind.i64.wrap (h i - 2) = h i - 2 := by rw [wrap_i64_eq, w64 _ (by omega)]
          have s2 : IntKind.i64.wrap (h P + 1) = h P + 1 := by rw [wrap_i64_eq, w64 _ (by omega)]
          have s3 : IntKind.i64.wrap (h q - 1) = h q - 1 := by rw [wrap_i64_eq, w64 _ (by omega)]
          have s4 : IntKind.i64.wrap ((i : Int) - 1) = (P : Int) := by rw [wrap_i64_eq, w64 _ (by omega)]; exact rp
          have s5 : IntKind.i64.wrap ((q : Int) + 1) = (q : Int) + 1 := by rw [wrap_i64_eq, w64 _ (by omega)]
          obtain ⟨Y, hY⟩ : ∃ Y, (if q + 1 = P then h P + 1 else h (q + 1)) = Y := ⟨_, rfl⟩
          have HBY : 0 ≤ Y ∧ Y ≤ 258 := by rw [← hY]; split <;> omega
          have s6 : IntKind.i64.wrap (Y + 2) = Y + 2 := by rw [wrap_i64_eq, w64 _ (by omega)]
          have HY : Hid _ := hY
          have HP : Hid _ := hP
          have hPi : P ≠ i := by omega
          have hqP : q < P := by omega
          clear hY hP HBi HBq HBr HBp HBY
          have e0 : h i = h i := rfl
          have eP : upd h i (h i - 2) P = h P := if_neg hPi
          have eQ : upd (upd h i (h i - 2)) P (h P + 1) q = h q := by unfold upd; rw [if_neg (show ¬ q = P by omega), if_neg (show ¬ q = i by omega)]
          have eY : upd (upd (upd h i (h i - 2)) P (h P + 1)) q (h q - 1) (q + 1) = Y := by
            rw [← HY.out]
            unfold upd
            rw [if_neg (show ¬ q + 1 = q by omega)]
            by_cases e : q + 1 = P
            · rw [if_pos e, if_pos e]
            · rw [if_neg e, if_neg e, if_neg (show ¬ q + 1 = i by omega)]
          have HQ : Hid _ := And.intro eP (And.intro eQ eY)
          clear eP eQ eY
          have hA : Try.prog.arrayLen 47 = 257 := by kernel_rfl
          have c0 := kk.head.cell i (by omega)
          have f0 := kk.head.frozen i
          replace kk := kk.set i (.int .i64 (h i - 2))
          rw [tab_set] at kk
          have HX : Hid _ := kk
          clear kk
          go_upto_region 6 with fail
          have kk := HX.out
          clear HX f0 c0
          revert kk
          generalize wr.setCell ⟨w.heap.size, i, none⟩ (.int .i64 (h i - 2)) = W1
          intro kk
          have c0 := kk.head.cell P (by omega)
          rw [HQ.out.1] at c0
          have f0 := kk.head.frozen P
          replace kk := kk.set P (.int .i64 (h P + 1))
          rw [tab_set] at kk
          have HX : Hid _ := kk
          clear kk
          go_upto_region 7 with fail
          have kk := HX.out
          clear HX f0 c0
          revert kk
          generalize W1.setCell ⟨w.heap.size, P, none⟩ (.int .i64 (h P + 1)) = W2
          intro kk
          go_upto_region 8 with (go_at_call 43; refine (greatest_any w.heap.size P 257 _ _ 0 (by omega) (by omega) _ kk.head).mono ?_; rintro e y ⟨rfl, dy⟩)
          replace kk := kk.step dy
          clear dy
          have ea : anyTo (upd (upd h i (h i - 2)) P (h P + 1)) (P - 1) = q := by
            rw [← HJ.out, show i - 2 = P - 1 by have := HP.out; omega]
            refine anyTo_congr _ (fun j j1 j2 => ?_)
            unfold upd
            rw [if_neg (show ¬ j = P by omega), if_neg (show ¬ j = i by omega)]
          rw [ea]
          clear ea
          have c0 := kk.head.cell q (by omega)
          rw [HQ.out.2.1] at c0
          have f0 := kk.head.frozen q
          replace kk := kk.set q (.int .i64 (h q - 1))
          rw [tab_set] at kk
          have HX : Hid _ := kk
          clear kk
          go_upto_region 9 with fail
          have kk := HX.out
          clear HX f0 c0
          revert kk
          generalize y.setCell ⟨w.heap.size, q, none⟩ (.int .i64 (h q - 1)) = W3
          intro kk
          have c0 := kk.head.cell (q + 1) (by omega)
          rw [HQ.out.2.2] at c0
          have f0 := kk.head.frozen (q + 1)
          replace kk := kk.set (q + 1) (.int .i64 (Y + 2))
          rw [tab_set] at kk
          have e4 := four_cut' h i q (by omega) HJ.out q2
          rw [HP.out, HY.out] at e4
          rw [e4] at kk
          have HX : Hid _ := kk
          have HM2 := kk.head.cell i (by omega)
          rw [HE.out] at HM2
          have HM3 : Hid _ := HM2
          clear kk e4 HM2
          go_wp2_with fail
          go_roundw
          case rel => exact ⟨k', cut1 h i, by rw [HE.out]; omega, HG2.out, HC.out, HX.out⟩
          case measure =>
            have h0 := HPOS.out
            rw [HM.out, HM3.out]
            simp only [intOf, Option.getD_some]
            omega
        · have d1 : decide (h i > 0) = false := by simpa using hpos
          have HS : Hid (cutAll (i - 1 - 16) h = cutAll 240 f) := by show _ = _; rw [← hcut, cutAt_zero hpos]
          have HG3 : Hid (Sd h (i - 1)) := by
            obtain ⟨i', rfl⟩ : ∃ i', i = i' + 1 := ⟨i - 1, by omega⟩
            exact hg.less hpos (by omega)
          have HK : Hid _ := kk
          have rp : IntKind.i64.wrap ((i : Int) - 1) = ((i - 1 : Nat) : Int) := by rw [wrap_i64_eq, w64 _ (by omega)]; omega
          clear kk hg hcut hpos
          go_wp2_with fail
          go_roundw
          case rel => exact ⟨i - 1, h, by omega, by omega, rfl, HG3.out, HS.out, HK.out⟩
          case measure => simp [intOf]; omega
    · obtain rfl : i = 16 := by omega
      have e : h = cutAll 240 f := hcut
      subst e
      have HF : Hid _ := counted_end kk
      have hr := kk.head.all
      have hth := (kk.swap.head.there 0 (tab .i64 257 (cutAll 240 f)).toArray.size (by rw [List.size_toArray, tab_length, tab_length]; omega))
      clear kk
      go_wp2_with (first | (refine wpList_load_mid rfl 47 (.tmp 1) rfl w.heap.size 0 rfl (tab .i64 257 (cutAll 240 f)) _ ?_ hu rfl (info257 _) ?_; exact hr) | (refine wpList_store_mid rfl 47 (.tmp 2) (.tmp 39) rfl (w.heap.size + 1) 0 (tab .i64 257 (cutAll 240 f)).toArray rfl rfl ?_ (infoB257 _) (tab_all _ _ _) ?_; exact hth))
      exact bodyPost_ret (results_cells rfl HF.out.1 hu rfl (info257 _) _ rfl) rfl ⟨rfl, HF.out.2⟩

set_option maxHeartbeats 1600000 in
set_option maxRecDepth 100000 in
theorem told257_any (f : Nat → Int) (hb : ∀ s, s < 257 → -1000000 ≤ f s ∧ f s ≤ 1000000) (w : World) : Calls Try.prog 24 #[.agg (tab .i64 257 f).toArray] w fun e w' => e = .returned (.agg (tab .i64 257 (upd f (anyTo f 256) (f (anyTo f 256) - 1))).toArray) ∧ But Nowhere w w' := by
  have hu := Try.underlying47
  have hz0 := zero257
  have hA : Try.prog.arrayLen 47 = 257 := by kernel_rfl
  have kk := ((Keep.start w).made 47 (tab .i64 257 f)).made 47 (tab .i64 257 (fun _ => 0))
  simp only [World.size_alloc] at kk
  replace kk := kk.swap
  have hq := anyTo_le f 256
  obtain ⟨q, e⟩ : ∃ q, anyTo f 256 = q := ⟨_, rfl⟩
  have HB := hb q (by omega)
  have s1 : IntKind.i64.wrap (f q - 1) = f q - 1 := by rw [wrap_i64_eq, w64 _ (by omega)]
  have z0 : (0 : Int) ≤ (q : Int) := by omega
  have z1 : (q : Int) < 257 := by omega
  have HE : Hid (anyTo f 256 = q) := e
  rw [e]
  clear e hq HB hb
  go_enter Try.func24, Try.ntmps24
  go_upto_region 1 with fail
  clear hz0
  revert kk
  generalize (w.alloc (.cells (tab .i64 257 f).toArray 47)).alloc (.cells (tab .i64 257 (fun _ => 0)).toArray 47) = W0
  intro kk
  go_upto_region 2 with (go_at_call 43; refine (greatest_any w.heap.size 257 257 _ _ 0 (by omega) (by omega) _ kk.head).mono ?_; rintro e y ⟨rfl, dy⟩; replace kk := kk.step dy; clear dy; rw [show (257 : Nat) - 1 = 256 from rfl, HE.out]; have c0 := kk.head.cell q (by omega); have f0 := kk.head.frozen q; replace kk := kk.set q (.int .i64 (f q - 1)); rw [tab_set] at kk; have HX : Hid _ := kk; clear kk)
  have kk := HX.out
  clear HX
  have HF : Hid _ := counted_end kk
  have hr := kk.head.all
  have hth := (kk.swap.head.there 0 (tab .i64 257 (upd f q (f q - 1))).toArray.size (by rw [List.size_toArray, tab_length, tab_length]; omega))
  clear kk
  go_wp2_with (first | (refine wpList_load_mid rfl 47 (.tmp 1) rfl w.heap.size 0 rfl (tab .i64 257 (upd f q (f q - 1))) _ ?_ hu rfl (info257 _) ?_; exact hr) | (refine wpList_store_mid rfl 47 (.tmp 2) (.tmp 9) rfl (w.heap.size + 1) 0 (tab .i64 257 (upd f q (f q - 1))).toArray rfl rfl ?_ (infoB257 _) (tab_all _ _ _) ?_; exact hth))
  exact bodyPost_ret (results_cells rfl HF.out.1 hu rfl (info257 _) _ rfl) rfl ⟨rfl, HF.out.2⟩

end Go.Proofs.Ytlpeplihbdcklaa

/- Trees of all values that come, as a heap. -/
namespace Go.Proofs.Ytlpeplihbdcklaa
set_option linter.unusedVariables false
open Go.ChangeShapes Go.WideShapes Go.ChangeAt Go.RowKit

/-- Values lie in a block of numbers. -/
theorem TV.far {W : World} {t : Tr} (h : TV W t) {b : Nat} {cur : Array Value} {ty : TypeId} {fr : Nat × Nat} (hb : W.heap[b]? = some (.cells cur ty fr)) (hty : ty ≠ 3) : t.b ≠ b := by
  obtain ⟨c, h1, _⟩ := h
  intro e
  rw [e, hb] at h1
  cases h1
  exact hty rfl

theorem TV.hb {W : World} {t : Tr} (h : TV W t) {db cap m : Nat} {g : Nat → Tr} (H : Hb W db cap m g) : t.b ≠ db := by
  obtain ⟨cur, h1, _⟩ := H.blk
  exact h.far h1 (by decide)
theorem TV.cells {W : World} {t : Tr} (h : TV W t) {b : Nat} {l : List Value} (H : Cells W b 62 l) : t.b ≠ b := h.far (fr := (0, 0)) H (by decide)

/-- The trees of the first k values, one by one. -/
structure Planted (W : Nat → Int) (k m : Nat) (g : Nat → Tr) : Prop where
  le : m ≤ k
  inj : Inj g m
  num : ∀ i, i < m → (g i).n < k ∧ 0 < W (g i).n ∧ (g i).w = W (g i).n ∧ (g i).l = [((g i).n : Int)]
  all : ∀ a, a < k → 0 < W a → ∃ i, i < m ∧ (g i).n = a

theorem Planted.start (W : Nat → Int) (g : Nat → Tr) : Planted W 0 0 g := ⟨Nat.le_refl _, fun i j hi => by omega, fun i hi => by omega, fun a ha => by omega⟩

theorem Planted.skip {W : Nat → Int} {k m : Nat} {g : Nat → Tr} (h : Planted W k m g) (hw : ¬ 0 < W k) : Planted W (k + 1) m g :=
  ⟨by have := h.le; omega, h.inj, fun i hi => by have := h.num i hi; exact ⟨by omega, this.2⟩, fun a ha hp => by
    by_cases e : a = k
    · subst e; exact absurd hp hw
    · exact h.all a (by omega) hp⟩

theorem Planted.more {W : Nat → Int} {k m : Nat} {g : Nat → Tr} (h : Planted W k m g) (hw : 0 < W k) (b cap : Nat) : Planted W (k + 1) (m + 1) (putT g m ⟨k, W k, b, cap, [(k : Int)]⟩) := by
  have pr : ∀ t : Tr, putT g m t m = t := fun t => by unfold putT; rw [if_pos rfl]
  have pl : ∀ (t : Tr) (i : Nat), i < m → putT g m t i = g i := fun t i hi => by unfold putT; rw [if_neg (by omega)]
  have cases : ∀ i, i < m + 1 → i < m ∨ i = m := fun i hi => by omega
  refine ⟨by have := h.le; omega, fun i j hi hj e => ?_, fun i hi => ?_, fun a ha hp => ?_⟩
  · rcases cases i hi with h1 | rfl
    · rw [pl _ i h1] at e
      rcases cases j hj with h2 | rfl
      · rw [pl _ j h2] at e; exact h.inj i j h1 h2 e
      · rw [pr] at e
        have e' : (g i).n = k := e
        have := (h.num i h1).1; omega
    · rw [pr] at e
      rcases cases j hj with h2 | rfl
      · rw [pl _ j h2] at e
        have e' : k = (g j).n := e
        have := (h.num j h2).1; omega
      · rfl
  · rcases cases i hi with h1 | rfl
    · rw [pl _ i h1]; have := h.num i h1; exact ⟨by omega, this.2⟩
    · rw [pr]; exact ⟨by show k < k + 1; omega, hw, rfl, rfl⟩
  · by_cases e : a = k
    · exact ⟨m, by omega, by rw [pr]; exact e.symm⟩
    · obtain ⟨i, hi, e2⟩ := h.all a (by omega) hp
      exact ⟨i, by omega, by rw [pl _ i hi]; exact e2⟩

theorem Planted.grow {W : Nat → Int} {m : Nat} {g : Nat → Tr} (h : Planted W 257 m g) : Grow W (startF W) m g := by
  refine ⟨h.inj, fun i hi => ?_, fun a ha hw => h.all a ha hw, fun i hi x => ?_, fun i hi => ?_⟩
  · obtain ⟨h1, h2, h3, h4⟩ := h.num i hi
    exact ⟨h1, h2, h3⟩
  · obtain ⟨h1, h2, h3, h4⟩ := h.num i hi
    rw [h4, List.mem_singleton]
    constructor
    · rintro rfl
      exact ⟨(g i).n, h1, rfl, h2, rfl⟩
    · rintro ⟨a, ha, rfl, hw, e⟩
      have e' : a = (g i).n := e
      rw [e']
  · obtain ⟨h1, h2, h3, h4⟩ := h.num i hi
    rw [h4]
    simp

set_option maxHeartbeats 3200000 in
set_option maxRecDepth 100000 in
theorem planted_any (W : Nat → Int) (hW : Wt W) (hb : ∀ i, i < 257 → W i ≤ 1048576) (w : World) : Calls Try.prog 38 #[.agg (tab .i64 257 W).toArray] w fun e w' =>
    ∃ db cap m g, e = .returned (hv db m cap) ∧ Hb w' db cap m g ∧ Heap g m 0 ∧ Grow W (startF W) m g ∧ (∀ i, i < m → TV w' (g i)) ∧ m ≤ 257 ∧ w.heap.size ≤ db ∧ But Nowhere w w' := by
  have hu := Try.underlying47
  have huW := Try.underlying62
  have kk := ((Keep.start w).made 47 (tab .i64 257 W)).made 62 [.slice none 0 0]
  simp only [World.size_alloc] at kk
  have hr := (kk.swap).head.all
  have hc0 := kk.head
  have hbut := kk.but
  have L0 := Lst.start (w.alloc (.cells (tab .i64 257 W).toArray 47) |>.alloc (.cells #[.slice none 0 0] 62)) 66 3
  have L1 := L0.back hbut
  go_enter Try.func38, Try.ntmps38
  go_upto_region 3 with (refine wpList_load_mid rfl 47 (.tmp 1) rfl w.heap.size 0 rfl (tab .i64 257 W) _ ?_ hu rfl (info257 _) ?_; exact hr)
  clear hr
  go_loopw [7] (fun v V => ∃ (k m : Nat) (s : Value) (g : Nat → Tr), k ≤ 257 ∧ v = .int .i64 k ∧ Cells V (w.heap.size + 1) 62 [s] ∧ Lst w V 66 3 s m (trs m g) ∧ s.ownBlock ≠ some (w.heap.size + 1) ∧ Planted W k m g ∧ (∀ i, i < m → TV V (g i)) ∧ But Nowhere w V) (fun v _ => 257 - (intOf v).toNat)
  case atStart => exact ⟨0, 0, _, fun _ => ⟨0, 0, 0, 0, []⟩, Nat.zero_le _, rfl, hc0, L1, by simp [Value.ownBlock], Planted.start W _, fun i hi => by omega, hbut⟩
  case round =>
    clear hc0 L0 L1 hbut kk
    obtain ⟨k, m, s, g, hk, rfl, hc, L, hs, P, T, hB⟩ := hrel
    by_cases hlt : k < 257
    · have z0 : (0 : Int) ≤ (k : Int) := by omega
      have z1 : (k : Int) < 257 := by omega
      have x0 := index_257 W k hlt
      by_cases hp : 0 < W k
      · have d1 : decide (W k > 0) = true := by simpa using hp
        have hm := P.le
        obtain ⟨t, ht⟩ : ∃ t : Tr, t = ⟨k, W k, wr.heap.size, 1, [(k : Int)]⟩ := ⟨_, rfl⟩
        have b1 : But Nowhere wr (wr.alloc (.cells #[.int .i64 (k : Int)] 3)) := (But.refl _ _).alloc _
        have tt : TV (wr.alloc (.cells #[.int .i64 (k : Int)] 3)) t := by
          subst ht
          refine ⟨_, heap_alloc_new wr _, fun i hi => ?_⟩
          have hi' : i < 1 := hi
          obtain rfl : i = 0 := by omega
          rfl
        have c0 := hc.at 0
        obtain ⟨V1, hV1⟩ : ∃ V1, wr.alloc (.cells #[.int .i64 (k : Int)] 3) = V1 := ⟨_, rfl⟩
        rw [hV1] at b1 tt
        obtain ⟨B, hB1⟩ : ∃ B, V1.heap.size = B := ⟨_, rfl⟩
        obtain ⟨g', cap', w2, hrun, L2, b2, hat⟩ := (L.step b1).push (P := Try.prog) Try.elemT (trC t) rfl (trC_one t rfl) (by omega) (by omega) B hB1
        have hc2 := (hc.but b1 (not_nowhere _)).but b2 hs
        have c2 := hc2.at 0
        have f2 := hc2.frozen 0
        have hne : g' ≠ w.heap.size + 1 := by
          rcases hat with e | e
          · intro q; rw [q] at e; exact hs e
          · have := hc.lt; have := b1.size; omega
        have b3 : But (fun k => k = w.heap.size + 1) w2 (w2.setCell ⟨w.heap.size + 1, 0, none⟩ (.slice (some ⟨g', 0, none⟩) (m + 1) cap')) := But.setCell (S := fun k => k = w.heap.size + 1) (But.refl _ _) (fun _ => rfl) _
        have HX : Hid (Cells (w2.setCell ⟨w.heap.size + 1, 0, none⟩ (.slice (some ⟨g', 0, none⟩) (m + 1) cap')) (w.heap.size + 1) 62 [.slice (some ⟨g', 0, none⟩) (m + 1) cap'] ∧
            Lst w (w2.setCell ⟨w.heap.size + 1, 0, none⟩ (.slice (some ⟨g', 0, none⟩) (m + 1) cap')) 66 3 (.slice (some ⟨g', 0, none⟩) (m + 1) cap') (m + 1) (trs (m + 1) (putT g m t)) ∧
            Planted W (k + 1) (m + 1) (putT g m t) ∧ (∀ i, i < m + 1 → TV (w2.setCell ⟨w.heap.size + 1, 0, none⟩ (.slice (some ⟨g', 0, none⟩) (m + 1) cap')) (putT g m t i)) ∧ But Nowhere w (w2.setCell ⟨w.heap.size + 1, 0, none⟩ (.slice (some ⟨g', 0, none⟩) (m + 1) cap'))) := by
          have hcs : Cells (w2.setCell ⟨w.heap.size + 1, 0, none⟩ (.slice (some ⟨g', 0, none⟩) (m + 1) cap')) (w.heap.size + 1) 62 [.slice (some ⟨g', 0, none⟩) (m + 1) cap'] := hc2.set 0 _
          have L3 := L2.stepS b3 (fun k hk => by simp [Value.ownBlock] at hk; omega) (fun k hk => by omega)
          rw [trs_push] at L3
          have tvs : ∀ x : Tr, TV V1 x → TV (w2.setCell ⟨w.heap.size + 1, 0, none⟩ (.slice (some ⟨g', 0, none⟩) (m + 1) cap')) x := fun x hx => by
            have n1 : x.b ≠ w.heap.size + 1 := hx.cells (hc.but b1 (not_nowhere _))
            refine (hx.but b2 (fun e => ?_)).but b3 n1
            rcases (L.step b1).own.2 with ⟨e1, -⟩ | ⟨gg, cp, cur, e1, _, e2, _⟩
            · rw [e1] at e; simp [Value.ownBlock] at e
            · rw [e1] at e
              simp [Value.ownBlock] at e
              exact hx.far e2 (by decide) e.symm
          refine ⟨hcs, L3, ?_, fun i hi => ?_, L3.but⟩
          · rw [ht]; exact P.more hp _ _
          · by_cases q : i = m
            · subst q; unfold putT; rw [if_pos rfl]; exact tvs t tt
            · unfold putT; rw [if_neg q]; exact tvs _ ((T i (by omega)).but b1 (not_nowhere _))
        clear hc2 b3 L2 L P T hB b1 b2 tt hat
        have hwt : trC t = [.int .i64 (k : Int), .int .i64 (W k), .slice (some ⟨wr.heap.size, 0, none⟩) 1 1] := by subst ht; rfl
        go_wp2_with (first
          | (refine wpList_build_one Try.elemI rfl (.tmp 16) rfl (.int .i64 (k : Int)) rfl [.int .i64 (k : Int)] rfl rfl (by omega) wr.heap.size rfl ?_; rw [show ([Value.int .i64 (k : Int)] : List Value).toArray = #[.int .i64 (k : Int)] from rfl, hV1])
          | (refine wpList_build_one Try.elemT rfl (.tmp 18) rfl (.agg (trC t).toArray) (by rw [hwt]; rfl) (trC t) rfl rfl (by omega) B hB1 ?_)
          | (refine wpList_append_run rfl (.tmp 13) (.tmp 19) 62 rfl s (.slice (some ⟨B, 0, none⟩) 1 1) rfl rfl _ w2 hrun ?_))
        go_roundw
        case rel => exact ⟨k + 1, m + 1, _, putT g m t, by omega, by go_num, HX.out.1, HX.out.2.1, by simp [Value.ownBlock]; exact hne, HX.out.2.2.1, HX.out.2.2.2.1, HX.out.2.2.2.2⟩
        case measure => simp [intOf]; omega
      · have d1 : decide (W k > 0) = false := by simpa using hp
        have HX : Hid _ := And.intro hc (And.intro L (And.intro hs (And.intro (P.skip hp) (And.intro T hB))))
        clear hc L hs P T hB hp
        go_wp2_with fail
        go_roundw
        case rel => exact ⟨k + 1, m, s, g, by omega, by go_num, HX.out⟩
        case measure => simp [intOf]; omega
    · obtain rfl : k = 257 := by omega
      have G := P.grow
      obtain ⟨i0, hi0, -⟩ := P.all 256 (by omega) (by rw [hW.one]; omega)
      obtain ⟨db, cap, rfl, h1, h2, h3, -⟩ := L.at (by omega)
      have hm := P.le
      have hne : w.heap.size + 1 ≠ db := by intro q; apply hs; simp [Value.ownBlock, q]
      have H : Hb wr db cap m g := Hb.of_own L.own (fun i hi => rfl)
      have c0 : wr.cell? ⟨w.heap.size + 1, 0, none⟩ = some (hv db m cap) := hc.at 0
      go_upto_region 9 with (go_at_call 51; refine (init_any (w.heap.size + 1) db cap m g hne (by omega) _ c0 H).mono ?_; rintro e y ⟨rfl, g', Hy, Xy, Py, dy⟩)
      have cy : y.cell? ⟨w.heap.size + 1, 0, none⟩ = some (hv db m cap) := (hc.but dy hne).at 0
      go_wp2_with fail
      go_ret
      exact ⟨db, cap, m, g', rfl, Hy, Py, G.mx Xy, Xy.every (P := fun t => TV y t) (fun i hi => (T i hi).but dy ((T i hi).hb H)), hm, h2, hB.step dy (fun k hk e => by omega)⟩

end Go.Proofs.Ytlpeplihbdcklaa

/- Sizes of all, the program's. -/
namespace Go.Proofs.Ytlpeplihbdcklaa
set_option linter.unusedVariables false
open Go.ChangeShapes Go.WideShapes Go.ChangeAt Go.RowKit

attribute [local go_sem] ta_tree

theorem Grow.len {W : Nat → Int} {f : Fo} {m : Nat} {g : Nat → Tr} (G : Grow W f m g) (i : Nat) (hi : i < m) : (g i).l.length ≤ 257 := by
  have := List.Nodup.length_le_of_subset (G.once i hi) (l₂ := (List.range 257).map Int.ofNat) (fun x hx => by
    obtain ⟨a, ha, rfl, -⟩ := (G.mem i hi x).1 hx
    exact List.mem_map.2 ⟨a, List.mem_range.2 ha, rfl⟩)
  simpa using this

theorem Grow.pos {W : Nat → Int} {f : Fo} {m : Nat} {g : Nat → Tr} (G : Grow W f m g) (I : FInv W 257 f) (i : Nat) (hi : i < m) : 0 < (g i).l.length := by
  obtain ⟨h1, h2, h3⟩ := G.num i hi
  apply Classical.byContradiction
  intro q
  have e : (g i).l = [] := List.eq_nil_of_length_eq_zero (by omega)
  rw [I.weight _ h1 h2, sm_zero (fun a ha => by
    by_cases c : 0 < W a ∧ f.tree a = (g i).n
    · have := (G.mem i hi a).2 ⟨a, ha, rfl, c.1, c.2⟩
      rw [e] at this
      simp at this
    · rw [if_neg c])] at h2
  omega

/-- Sizes, once the first p of a list have a bit more. -/
def szAt (f : Fo) (l : List Int) (p j : Nat) : Int := (f.size j : Int) + if (j : Int) ∈ l.take p then 1 else 0
theorem szAt_zero (f : Fo) (l : List Int) : szAt f l 0 = fun j => (f.size j : Int) := by
  funext j
  unfold szAt
  rw [List.take_zero, if_neg (by simp), Int.add_zero]
theorem szAt_next (f : Fo) (l : List Int) (hl : l.Nodup) (p : Nat) (hp : p < l.length) (x : Nat) (hx : l[p] = (x : Int)) : szAt f l p x = f.size x ∧ upd (szAt f l p) x ((f.size x : Int) + 1) = szAt f l (p + 1) := by
  have hn : (x : Int) ∉ l.take p := by
    rw [← hx]
    intro h
    obtain ⟨i, hi, e⟩ := List.getElem_of_mem h
    have hip : i < p := by rw [List.length_take] at hi; omega
    rw [List.getElem_take] at e
    have := (List.getElem_inj hl).1 e
    omega
  refine ⟨by unfold szAt; rw [if_neg hn, Int.add_zero], ?_⟩
  funext j
  unfold upd szAt
  rw [List.take_succ_eq_append_getElem hp, hx]
  by_cases e : j = x
  · subst e; rw [if_pos rfl, if_pos (by simp)]
  · rw [if_neg e]
    congr 1
    have : ((j : Int) ∈ l.take p ++ [(x : Int)]) ↔ (j : Int) ∈ l.take p := by
      rw [List.mem_append, List.mem_singleton]
      exact ⟨fun h => h.elim id (fun q => absurd q (by omega)), .inl⟩
    by_cases q : (j : Int) ∈ l.take p
    · rw [if_pos q, if_pos (this.2 q)]
    · rw [if_neg q, if_neg (fun r => q (this.1 r))]

theorem szAt_end {W : Nat → Int} {f : Fo} {r : Nat} {g : Nat → Tr} (G : Grow W f (r + 2) g) (I : FInv W 257 f) {A B : Nat} (hA : (g (r + 1)).n = A) (hB : (g r).n = B) (n : Nat) (hn : ((g (r + 1)).l ++ (g r).l).length = n) :
    tab .i64 257 (szAt f ((g (r + 1)).l ++ (g r).l) n) = tab .i64 257 (fun j => ((joinF f A B).size j : Int)) := by
  refine tab_congr _ _ _ _ (fun j hj => ?_)
  unfold szAt
  rw [← hn, List.take_length]
  show _ = (((if f.tree j = A ∨ f.tree j = B then f.size j + 1 else f.size j : Nat)) : Int)
  have key : ((j : Int) ∈ (g (r + 1)).l ++ (g r).l) ↔ (f.tree j = A ∨ f.tree j = B) := by
    rw [List.mem_append, G.mem (r + 1) (by omega), G.mem r (by omega), hA, hB]
    constructor
    · rintro (⟨a, h2, h3, h4, h5⟩ | ⟨a, h2, h3, h4, h5⟩)
      · obtain rfl : j = a := by omega
        exact .inl h5
      · obtain rfl : j = a := by omega
        exact .inr h5
    · intro h
      by_cases hw : 0 < W j
      · exact h.imp (fun e => ⟨j, hj, rfl, hw, e⟩) (fun e => ⟨j, hj, rfl, hw, e⟩)
      · exfalso
        obtain ⟨e1, e2, e3⟩ := I.dead j hj hw
        have a1 := (G.num (r + 1) (by omega)).2.1
        have b1 := (G.num r (by omega)).2.1
        rw [hA] at a1
        rw [hB] at b1
        rw [e1] at h
        rcases h with q | q
        · rw [q] at e3; omega
        · rw [q] at e3; omega
  by_cases q : f.tree j = A ∨ f.tree j = B
  · rw [if_pos (key.2 q), if_pos q]; omega
  · rw [if_neg (fun c => q (key.1 c)), if_neg q]; omega

theorem alive_pos (w : Nat → Int) : 0 ≤ alive w 257 := sm_pos (fun i _ => by split <;> omega)
theorem kn_ne {wc V : World} {gn b : Nat} {l k k0 : List Value} (h : Cells wc gn 66 l) (hs : Cells V b 47 k) (hb : But (fun x => x = b) wc V) (h0 : Cells wc b 47 k0) : gn ≠ b := by
  intro e
  have h1 : wc.heap[gn]? = _ := h
  have h2 : wc.heap[b]? = _ := h0
  rw [e, h2] at h1
  cases h1

theorem kk3_there {W : World} {b : Nat} {t : TypeId} {x y z : Value} (h : Cells W b t [x, y, z]) (u : Tr) : W.there b 0 (trC u).toArray.size := h.there 0 3 (by simp)
theorem kk3_lay {W : World} {b : Nat} {t : TypeId} {x y z : Value} (h : Cells W b t [x, y, z]) (u : Tr) : Cells (W.setCells b 0 (trC u)) b t (trC u) := ((h.set 0 _).set 1 _).set 2 _
theorem kk_lay {V W : World} {l : List Bk} {b : Nat} {t : TypeId} {x y z : Value} (kk : Keep V W l) (hm : (b, t, [x, y, z]) ∈ l) (u : Tr) : But Nowhere V (W.setCells b 0 (trC u)) := kk.but.setCells _ (fun q => by have := kk.new _ hm; simp only at this; omega) 0
theorem rel_end {V W : World} {l : List Bk} {gn : Nat} {x y z : Value} (kk : Keep V W l) (hm : (gn, 66, [x, y, z]) ∈ l) {n ob oc : Nat} {u : Int} {vs : List Int} (tv : TV W ⟨n, u, ob, oc, vs⟩) :
    ∃ gn' ob' oc', Value.pointer (some ⟨gn, 0, none⟩) = .pointer (some ⟨gn', 0, none⟩) ∧ Cells (W.setCells gn 0 (trC ⟨n, u, ob, oc, vs⟩)) gn' 66 (trC ⟨n, u, ob', oc', vs⟩) ∧ TV (W.setCells gn 0 (trC ⟨n, u, ob, oc, vs⟩)) ⟨n, u, ob', oc', vs⟩ ∧ But Nowhere V (W.setCells gn 0 (trC ⟨n, u, ob, oc, vs⟩)) ∧ V.heap.size ≤ gn' := by
  have hc := kk.get hm
  refine ⟨gn, ob, oc, rfl, kk3_lay hc _, tv.but (S := fun k => k = gn) ((But.refl (fun k => k = gn) W).setCells _ (fun _ => rfl) 0) (fun e => tv.far (fr := (0, 0)) hc (by decide) e), kk_lay kk hm _, kk.new _ hm⟩

theorem new_tree (y : World) (t : Tr) : Cells ((y.alloc (.cells #[.int .i64 0, .int .i64 0, .slice none 0 0] 66)).setCells y.heap.size 0 (trC t)) y.heap.size 66 (trC t) ∧ But Nowhere y ((y.alloc (.cells #[.int .i64 0, .int .i64 0, .slice none 0 0] 66)).setCells y.heap.size 0 (trC t)) :=
  ⟨kk3_lay (Cells.new y 66 [.int .i64 0, .int .i64 0, .slice none 0 0]) t, ((But.refl _ _).alloc _).setCells _ (fun q => by omega) 0⟩

structure GS (w V : World) (W : Nat → Int) (hb : Nat) (f : Fo) (m : Nat) (g : Nat → Tr) (db cap : Nat) : Prop where
  rn : Rn W f
  gr : Grow W f m g
  hp : Heap g m 0
  blk : Hb V db cap m g
  var : Cells V hb 62 [hv db m cap]
  ne : hb ≠ db
  le : m ≤ 257
  tv : ∀ i, i < m → TV V (g i)
  sz : Cells V (w.heap.size + 1 + 1) 47 (tab .i64 257 (fun j => (f.size j : Int)))
  rs : Cells V (w.heap.size + 1) 47 (tab .i64 257 (fun _ => 0))
  but : But Nowhere w V
  nb : w.heap.size ≤ hb
  nd : w.heap.size ≤ db

theorem Hb.ne257 {W : World} {db cap m b : Nat} {g : Nat → Tr} {l : List Value} (H : Hb W db cap m g) (h : Cells W b 47 l) : b ≠ db := by
  obtain ⟨cur, h1, _⟩ := H.blk
  intro e
  have h2 : W.heap[b]? = _ := h
  rw [e, h1] at h2
  cases h2
theorem Cells.neW {W : World} {b c : Nat} {l k : List Value} (H : Cells W c 62 k) (h : Cells W b 47 l) : b ≠ c := by
  intro e
  have h2 : W.heap[b]? = _ := h
  have h1 : W.heap[c]? = _ := H
  rw [e, h1] at h2
  cases h2

set_option maxHeartbeats 6400000 in
set_option maxRecDepth 100000 in
theorem grown_any (W : Nat → Int) (hW : Wt W) (hb : ∀ i, i < 257 → W i ≤ 1048576) (w : World) : Calls Try.prog 23 #[.agg (tab .i64 257 W).toArray] w fun e w' => e = .returned (.agg (tab .i64 257 (fun i => ((szF W i : Nat) : Int))).toArray) ∧ But Nowhere w w' := by
  have hu := Try.underlying47
  have huW := Try.underlying62
  have huT := Try.underlying66
  have hz := zero257
  have hiB : ∀ t, (Try.prog.info? 66).map (·.size) = some (trC t).toArray.size := fun t => by kernel_rfl
  have hi3 : ∀ t, (Try.prog.info? 66).map (·.size) = some (trC t).length := fun t => by kernel_rfl
  have kk := (((Keep.start w).made 47 (tab .i64 257 W)).made 47 (tab .i64 257 (fun _ => 0))).made 47 (tab .i64 257 (fun _ => 0))
  simp only [World.size_alloc] at kk
  have hr := (kk.front 2 (by simp)).head.all
  go_enter Try.func23, Try.ntmps23
  go_upto_region 3 with (first
    | (refine wpList_load_mid rfl 47 (.tmp 1) rfl w.heap.size 0 rfl (tab .i64 257 W) _ ?_ hu rfl (info257 _) ?_; exact hr)
    | (go_at_call 38; refine (planted_any W hW hb _).mono ?_; rintro e y ⟨db, cap, m, g, rfl, Hy, Py, Gy, Ty, My, Dy, By⟩; have f1 := (Cells.new y 62 [.slice none 0 0]); have c1 := f1.at 0; have f2 := f1.frozen 0))
  have S0 : GS w (y.alloc (.cells #[hv db m cap] 62)) W y.heap.size (startF W) m g db cap := by
    have ba : But Nowhere y (y.alloc (.cells #[hv db m cap] 62)) := (But.refl _ _).alloc _
    have hlt := Hy.lt
    have ks := (kk.head.but By (not_nowhere _)).but ba (not_nowhere _)
    have kr := (kk.swap.head.but By (not_nowhere _)).but ba (not_nowhere _)
    have hs := kk.but.size
    have hs2 := By.size
    refine ⟨Rn.start hW, Gy, Py, Hy.but ba (not_nowhere _), Cells.new y _ _, by omega, My, fun i hi => (Ty i hi).but ba (not_nowhere _), ?_, kr, (kk.but.trans By).trans ba, by omega, by omega⟩
    exact ks.of_eq (tab_congr _ _ _ _ (fun j hj => rfl))
  clear kk hr hz Hy Py Gy Ty My Dy By f1 c1 f2
  revert S0
  obtain ⟨HB, hHB⟩ : ∃ n, y.heap.size = n := ⟨_, rfl⟩
  rw [hHB]
  clear hHB
  generalize y.alloc (.cells #[.slice (some ⟨db, 0, none⟩) m cap] 62) = V0
  intro S0
  go_loopw [5] (fun _ V => ∃ f m g db cap, GS w V W HB f m g db cap) (fun _ V => match V.cell? ⟨HB, 0, none⟩ with | some (.slice _ n _) => n | _ => 0)
  case atStart => exact ⟨_, _, _, _, _, S0⟩
  case round =>
    clear S0 V0
    obtain ⟨f, m, g, db, cap, G⟩ := hrel
    have c0 : wr.cell? ⟨HB, 0, none⟩ = some (hv db m cap) := G.var.at 0
    have HM0 : wr.cell? ⟨HB, 0, none⟩ = some (hv db m cap) := c0
    by_cases q : m ≤ 1
    · have d1 : decide ((m : Int) > 1) = false := by simp; omega
      have HE : Hid (f.size = szF W) := G.rn.done (G.gr.ends q)
      go_upto_region 13 with (go_at_call 39; refine (hp_len db m cap _).mono ?_; rintro e y1 ⟨rfl, d0⟩)
      have ks := G.sz.but d0 (not_nowhere _)
      have kr := G.rs.but d0 (not_nowhere _)
      have hr := ks.all
      have hth := kr.there 0 (tab .i64 257 (fun j => (f.size j : Int))).toArray.size (by rw [List.size_toArray, tab_length, tab_length]; omega)
      have HF : Hid (Cells (y1.setCells (w.heap.size + 1) 0 (tab .i64 257 (fun j => (f.size j : Int)))) (w.heap.size + 1) 47 (tab .i64 257 (fun j => (f.size j : Int))) ∧ But Nowhere w (y1.setCells (w.heap.size + 1) 0 (tab .i64 257 (fun j => (f.size j : Int))))) :=
        ⟨kr.layAll _, (G.but.step d0 (fun _ _ h => h.elim)).setCells _ (fun q => by omega) 0⟩
      clear ks kr G
      go_wp2_with (first | (refine wpList_load_mid rfl 47 (.tmp 3) rfl (w.heap.size + 1 + 1) 0 rfl (tab .i64 257 (fun j => (f.size j : Int))) _ ?_ hu rfl (info257 _) ?_; exact hr) | (refine wpList_store_mid rfl 47 (.tmp 2) (.tmp 52) rfl (w.heap.size + 1) 0 (tab .i64 257 (fun j => (f.size j : Int))).toArray rfl rfl ?_ (infoB257 _) (tab_all _ _ _) ?_; exact hth))
      refine bodyPost_ret (results_cells rfl HF.out.1 hu rfl (info257 _) _ rfl) rfl ⟨?_, HF.out.2⟩
      rw [HE.out]
    · obtain ⟨r, rfl⟩ : ∃ r, m = r + 2 := ⟨m - 2, by omega⟩
      have d1 : decide (((r + 2 : Nat) : Int) > 1) = true := by simp; omega
      have hmle := G.le
      have HM : Hid (wr.cell? ⟨HB, 0, none⟩ = some (hv db (r + 2) cap)) := HM0
      clear HM0
      go_upto_region 4 with (go_at_call 39; refine (hp_len db (r + 2) cap _).mono ?_; rintro e y1 ⟨rfl, d0⟩)
      obtain ⟨a, ha⟩ : ∃ a, g 0 = a := ⟨_, rfl⟩
      have l0 := G.var.lt
      have l1 := G.blk.lt
      go_upto_region 5 with (first
        | (go_at_call 40; refine (heapPop_any HB db cap (r + 1) g G.ne (by omega) _ (G.var.but d0 (not_nowhere _)) (G.blk.but d0 (not_nowhere _)) G.hp).mono ?_; rw [ha]; rintro e y2 ⟨rfl, g1, C1, H1, P1, e1, X1, b1⟩)
        | (refine wpList_store_mid rfl 66 (.tmp 5) (.tmp 17) rfl y2.heap.size 0 (trC a).toArray rfl rfl ?_ (hiB _) (all_oneC _ rfl) ?_; exact kk3_there (Cells.new y2 66 [.int .i64 0, .int .i64 0, .slice none 0 0]) _))
      obtain ⟨na, ba⟩ := new_tree y2 a
      have l2 := b1.size
      have l3 := d0.size
      revert na ba
      obtain ⟨ga, hga⟩ : ∃ n, y2.heap.size = n := ⟨_, rfl⟩
      rw [hga]
      generalize (y2.alloc (.cells #[.int .i64 0, .int .i64 0, .slice none 0 0] 66)).setCells ga 0 (trC a) = V2
      intro na ba
      try simp only [Act.put]
      obtain ⟨b, hb2⟩ : ∃ b, g1 0 = b := ⟨_, rfl⟩
      go_upto_region 6 with (first
        | (go_at_call 40; refine (heapPop_any HB db cap r g1 G.ne (by omega) _ (C1.but ba (not_nowhere _)) (H1.but ba (not_nowhere _)) P1).mono ?_; rw [hb2]; rintro e y4 ⟨rfl, g2, C2, H2, P2, e2, X2, b2⟩)
        | (refine wpList_store_mid rfl 66 (.tmp 6) (.tmp 20) rfl y4.heap.size 0 (trC b).toArray rfl rfl ?_ (hiB _) (all_oneC _ rfl) ?_; exact kk3_there (Cells.new y4 66 [.int .i64 0, .int .i64 0, .slice none 0 0]) _))
      obtain ⟨nb, bb⟩ := new_tree y4 b
      have l4 := b2.size
      have l5 := ba.size
      revert nb bb
      obtain ⟨gb, hgb⟩ : ∃ n, y4.heap.size = n := ⟨_, rfl⟩
      rw [hgb]
      generalize (y4.alloc (.cells #[.int .i64 0, .int .i64 0, .slice none 0 0] 66)).setCells gb 0 (trC b) = V4
      intro nb bb
      try simp only [Act.put]
      have X : Mx (r + 2) g g2 := X1.trans (X2.up (by omega))
      have eA : g2 (r + 1) = a := by rw [X2.out (r + 1) (by omega), e1]
      have eB : g2 r = b := e2
      have G2 := G.gr.mx X
      have hpair : pairOf 257 f.w = some (a.n, b.n) := by
        rw [← ha, ← hb2]
        exact G.gr.pair G.hp X1 (e1.trans ha.symm) P1
      have ne1 : w.heap.size + 1 + 1 ≠ HB := G.var.neW G.sz
      have ne2 : w.heap.size + 1 + 1 ≠ db := G.blk.ne257 G.sz
      have ne3 : w.heap.size + 1 ≠ HB := G.var.neW G.rs
      have ne4 : w.heap.size + 1 ≠ db := G.blk.ne257 G.rs
      -- from the round's beginning to V4
      have bAll : But (fun k => k = HB ∨ k = db) wr V4 := (((((d0.mono (fun _ _ h => h.elim)).trans b1).step ba (fun _ _ h => h.elim)).trans b2).step bb (fun _ _ h => h.elim))
      have tAll : ∀ i, i < r + 2 → TV V4 (g2 i) := X.every (P := fun t => TV V4 t) (fun i hi => (G.tv i hi).but bAll (fun h => h.elim (fun e => (G.tv i hi).cells G.var e) (fun e => (G.tv i hi).hb G.blk e)))
      have TA : Hid (TV V4 a) := by have := tAll (r + 1) (by omega); rw [eA] at this; exact this
      have TB : Hid (TV V4 b) := by have := tAll r (by omega); rw [eB] at this; exact this
      have la : 0 < a.l.length := by rw [← eA]; exact G2.pos G.rn.inv (r + 1) (by omega)
      have lb : 0 < b.l.length := by rw [← eB]; exact G2.pos G.rn.inv r (by omega)
      have lab : a.l.length + b.l.length ≤ 1000000 := by
        have h1 := G2.len (r + 1) (by omega)
        have h2 := G2.len r (by omega)
        rw [eA] at h1
        rw [eB] at h2
        omega
      have wa : 0 ≤ a.w ∧ a.w ≤ 269484032 := by
        have h1 := G2.num (r + 1) (by omega)
        rw [eA] at h1
        rw [h1.2.2]
        exact G.rn.inv.light (fun i hi => ⟨hW.pos i hi, hb i hi⟩) a.n h1.1
      have wb : 0 ≤ b.w ∧ b.w ≤ 269484032 := by
        have h1 := G2.num r (by omega)
        rw [eB] at h1
        rw [h1.2.2]
        exact G.rn.inv.light (fun i hi => ⟨hW.pos i hi, hb i hi⟩) b.n h1.1
      have rsum : IntKind.i64.wrap (a.w + b.w) = a.w + b.w := by rw [wrap_i64_eq, w64 _ (by omega)]
      have naV : Cells V4 ga 66 (trC a) := (na.but b2 (by omega)).but bb (not_nowhere _)
      have HNA : Hid _ := And.intro naV nb
      have HG : Hid _ := And.intro G (And.intro G2 (And.intro hpair (And.intro bAll tAll)))
      have HV4 : Hid _ := And.intro ((C2.but bb (not_nowhere _))) (And.intro (H2.but bb (not_nowhere _)) P2)
      clear naV nb na ba bb C1 H1 P1 e1 X1 C2 H2 P2 e2 X2 b1 b2 d0 G G2 hpair bAll tAll X c0 d1
      go_cut [7] from 21 to 34 (fun s V' => ∃ gn ob oc, s = .pointer (some ⟨gn, 0, none⟩) ∧ Cells V' gn 66 (trC ⟨a.n, a.w + b.w, ob, oc, a.l ++ b.l⟩) ∧ TV V' ⟨a.n, a.w + b.w, ob, oc, a.l ++ b.l⟩ ∧ But Nowhere V4 V' ∧ V4.heap.size ≤ gn)
      case first =>
        have keepS : ∀ {V : World}, But Nowhere V4 V → (V.cell? ⟨ga, 0, none⟩ = some (.int .i64 ((a.n : Nat) : Int)) ∧ V.cell? ⟨ga, 1, none⟩ = some (.int .i64 a.w) ∧ V.cell? ⟨ga, 2, none⟩ = some a.v) ∧ V.cell? ⟨gb, 1, none⟩ = some (.int .i64 b.w) ∧ V.cell? ⟨gb, 2, none⟩ = some b.v := fun hV => by
          have h1 := HNA.out.1.but hV (not_nowhere _)
          have h2 := HNA.out.2.but hV (not_nowhere _)
          exact ⟨⟨h1.at 0, h1.at 1, h1.at 2⟩, h2.at 1, h2.at 2⟩
        have TO : True := trivial
        have kk := (Keep.start V4).drew
        refine wp_region_till (S := fun V => (V.cell? ⟨ga, 0, none⟩ = some (.int .i64 ((a.n : Nat) : Int)) ∧ V.cell? ⟨ga, 1, none⟩ = some (.int .i64 a.w) ∧ V.cell? ⟨ga, 2, none⟩ = some a.v) ∧ V.cell? ⟨gb, 1, none⟩ = some (.int .i64 b.w) ∧ V.cell? ⟨gb, 2, none⟩ = some b.v) (R := fun _ => True) (k := 100) (m := 100) (by kernel_rfl) (keepS kk.but) trivial ?_
        revert kk
        generalize V4.drew = VS
        intro kk
        (refine Walk.take (i := 0) (oi := { dst := some 21, op := Op.fieldAddr 66 (Operand.tmp 5) 0, type := 0, pos := "tree.go:59", after := #[], guard := none }) (v := ?_) rfl (by kernel_rfl) (by kernel_rfl) (by kernel_rfl) (by kernel_rfl) (fun _ _ _ h => h) (Or.inl ⟨by rfl, ?_⟩) ?_; rotate_left; (intro w hw; clear hw; (try go_split_ands); go_simp; try (with_reducible rfl)); simp only [Act.put, List.setIfInBounds_toArray, List.set_cons_zero, List.set_cons_succ])
        (refine Walk.take (i := 1) (oi := { dst := some 22, op := Op.load 3 (Operand.tmp 21), type := 3, pos := "tree.go:59", after := #[{ on := 0, ground := Ground.data }], guard := none }) (v := ?_) rfl (by kernel_rfl) (by kernel_rfl) (by kernel_rfl) (by kernel_rfl) (fun _ _ _ h => h) (Or.inl ⟨by rfl, ?_⟩) ?_; rotate_left; (intro w hw; have hS1 := hw.1 (by kernel_rfl); clear hw; (try dsimp only at hS1); (try go_split_ands); go_simp; try (with_reducible rfl)); simp only [Act.put, List.setIfInBounds_toArray, List.set_cons_zero, List.set_cons_succ])
        (refine Walk.take (i := 2) (oi := { dst := some 23, op := Op.fieldAddr 66 (Operand.tmp 5) 1, type := 0, pos := "tree.go:59", after := #[], guard := none }) (v := ?_) rfl (by kernel_rfl) (by kernel_rfl) (by kernel_rfl) (by kernel_rfl) (fun _ _ _ h => h) (Or.inl ⟨by rfl, ?_⟩) ?_; rotate_left; (intro w hw; clear hw; (try go_split_ands); go_simp; try (with_reducible rfl)); simp only [Act.put, List.setIfInBounds_toArray, List.set_cons_zero, List.set_cons_succ])
        (refine Walk.take (i := 3) (oi := { dst := some 24, op := Op.load 3 (Operand.tmp 23), type := 3, pos := "tree.go:59", after := #[{ on := 2, ground := Ground.data }], guard := none }) (v := ?_) rfl (by kernel_rfl) (by kernel_rfl) (by kernel_rfl) (by kernel_rfl) (fun _ _ _ h => h) (Or.inl ⟨by rfl, ?_⟩) ?_; rotate_left; (intro w hw; have hS1 := hw.1 (by kernel_rfl); clear hw; (try dsimp only at hS1); (try go_split_ands); go_simp; try (with_reducible rfl)); simp only [Act.put, List.setIfInBounds_toArray, List.set_cons_zero, List.set_cons_succ])
        (refine Walk.take (i := 4) (oi := { dst := some 25, op := Op.fieldAddr 66 (Operand.tmp 6) 1, type := 0, pos := "tree.go:59", after := #[], guard := none }) (v := ?_) rfl (by kernel_rfl) (by kernel_rfl) (by kernel_rfl) (by kernel_rfl) (fun _ _ _ h => h) (Or.inl ⟨by rfl, ?_⟩) ?_; rotate_left; (intro w hw; clear hw; (try go_split_ands); go_simp; try (with_reducible rfl)); simp only [Act.put, List.setIfInBounds_toArray, List.set_cons_zero, List.set_cons_succ])
        (refine Walk.take (i := 5) (oi := { dst := some 26, op := Op.load 3 (Operand.tmp 25), type := 3, pos := "tree.go:59", after := #[{ on := 4, ground := Ground.data }], guard := none }) (v := ?_) rfl (by kernel_rfl) (by kernel_rfl) (by kernel_rfl) (by kernel_rfl) (fun _ _ _ h => h) (Or.inl ⟨by rfl, ?_⟩) ?_; rotate_left; (intro w hw; have hS1 := hw.1 (by kernel_rfl); clear hw; (try dsimp only at hS1); (try go_split_ands); go_simp; try (with_reducible rfl)); simp only [Act.put, List.setIfInBounds_toArray, List.set_cons_zero, List.set_cons_succ])
        (refine Walk.take (i := 6) (oi := { dst := some 27, op := Op.binOp BinOp.add 3 (Operand.tmp 24) (Operand.tmp 26) 3, type := 3, pos := "tree.go:59", after := #[{ on := 3, ground := Ground.data }, { on := 5, ground := Ground.data }], guard := none }) (v := ?_) rfl (by kernel_rfl) (by kernel_rfl) (by kernel_rfl) (by kernel_rfl) (fun _ _ _ h => h) (Or.inl ⟨by rfl, ?_⟩) ?_; rotate_left; (intro w hw; clear hw; (try go_split_ands); go_simp; try (with_reducible rfl)); simp only [Act.put, List.setIfInBounds_toArray, List.set_cons_zero, List.set_cons_succ])
        (refine Walk.take (i := 7) (oi := { dst := some 28, op := Op.fieldAddr 66 (Operand.tmp 5) 2, type := 0, pos := "tree.go:59", after := #[], guard := none }) (v := ?_) rfl (by kernel_rfl) (by kernel_rfl) (by kernel_rfl) (by kernel_rfl) (fun _ _ _ h => h) (Or.inl ⟨by rfl, ?_⟩) ?_; rotate_left; (intro w hw; clear hw; (try go_split_ands); go_simp; try (with_reducible rfl)); simp only [Act.put, List.setIfInBounds_toArray, List.set_cons_zero, List.set_cons_succ])
        (refine Walk.take (i := 8) (oi := { dst := some 29, op := Op.load 22 (Operand.tmp 28), type := 22, pos := "tree.go:59", after := #[{ on := 7, ground := Ground.data }], guard := none }) (v := ?_) rfl (by kernel_rfl) (by kernel_rfl) (by kernel_rfl) (by kernel_rfl) (fun _ _ _ h => h) (Or.inl ⟨by rfl, ?_⟩) ?_; rotate_left; (intro w hw; have hS1 := hw.1 (by kernel_rfl); clear hw; (try dsimp only at hS1); (try go_split_ands); go_simp; try (with_reducible rfl)); simp only [Act.put, List.setIfInBounds_toArray, List.set_cons_zero, List.set_cons_succ])
        (refine Walk.take (i := 9) (oi := { dst := some 30, op := Op.fieldAddr 66 (Operand.tmp 6) 2, type := 0, pos := "tree.go:59", after := #[], guard := none }) (v := ?_) rfl (by kernel_rfl) (by kernel_rfl) (by kernel_rfl) (by kernel_rfl) (fun _ _ _ h => h) (Or.inl ⟨by rfl, ?_⟩) ?_; rotate_left; (intro w hw; clear hw; (try go_split_ands); go_simp; try (with_reducible rfl)); simp only [Act.put, List.setIfInBounds_toArray, List.set_cons_zero, List.set_cons_succ])
        (refine Walk.take (i := 10) (oi := { dst := some 31, op := Op.load 22 (Operand.tmp 30), type := 22, pos := "tree.go:59", after := #[{ on := 9, ground := Ground.data }], guard := none }) (v := ?_) rfl (by kernel_rfl) (by kernel_rfl) (by kernel_rfl) (by kernel_rfl) (fun _ _ _ h => h) (Or.inl ⟨by rfl, ?_⟩) ?_; rotate_left; (intro w hw; have hS1 := hw.1 (by kernel_rfl); clear hw; (try dsimp only at hS1); (try go_split_ands); go_simp; try (with_reducible rfl)); simp only [Act.put, List.setIfInBounds_toArray, List.set_cons_zero, List.set_cons_succ])
        refine Walk.both (i := 11) (j := 14) (oi := { dst := some 32, op := Op.buildSlice 86 2 #[(0, Operand.tmp 29), (1, Operand.tmp 31)], type := 86, pos := "tree.go:59", after := #[{ on := 8, ground := Ground.data }, { on := 10, ground := Ground.data }], guard := none }) (oj := { dst := some 7, op := Op.alloc 66, type := 0, pos := "tree.go:59", after := #[], guard := none }) (by kernel_rfl) rfl rfl (fun K hK => ?_) (fun K hK => ?_)
        · go_simp; (replace kk := kk.made 22 [a.v, b.v]); refine hK.out _ _ (⟨fun _ => keepS kk.but, fun _ => trivial⟩) ?_; clear hK K; try simp only [Act.put, List.setIfInBounds_toArray, List.set_cons_zero, List.set_cons_succ]
          revert kk
          revert TO
          obtain ⟨gq, hgq⟩ : ∃ n, VS.heap.size = n := ⟨_, rfl⟩
          rw [hgq]
          clear hgq
          generalize VS.alloc (.cells [a.v, b.v].toArray 22) = V1
          intro TO
          intro kk
          refine Walk.both (i := 12) (j := 14) (oi := { dst := some 33, op := Op.call { callee := Callee.value (Operand.func 41), args := #[Operand.tmp 32], argTypes := #[86] }, type := 22, pos := "tree.go:59", after := #[{ on := 11, ground := Ground.data }], guard := none }) (oj := { dst := some 7, op := Op.alloc 66, type := 0, pos := "tree.go:59", after := #[], guard := none }) (by kernel_rfl) rfl rfl (fun K hK => ?_) (fun K hK => ?_)
          · go_simp; ((go_at_call 41; refine (concat_any gq a b la lb lab _ (kk.get (b := gq) (t := 22) (c := [a.v, b.v]) (by simp)) (TA.out.but kk.but (not_nowhere _)) (TB.out.but kk.but (not_nowhere _))).mono ?_; rintro e y2 ⟨v, rfl, L⟩; have hsz := kk.but.size; obtain ⟨ob, oc, rfl, ho, TO⟩ := L.tv (by rw [List.length_append]; omega) a.n (a.w + b.w);  replace kk := kk.step L.but; clear L ho hsz)); refine hK.out _ _ (⟨fun _ => keepS kk.but, fun _ => trivial⟩) ?_; clear hK K; try simp only [Act.put, List.setIfInBounds_toArray, List.set_cons_zero, List.set_cons_succ]
            (refine Walk.take (i := 13) (oi := { dst := some 34, op := Op.build 66 #[(0, Operand.tmp 22), (1, Operand.tmp 27), (2, Operand.tmp 33)], type := 66, pos := "tree.go:59", after := #[{ on := 1, ground := Ground.data }, { on := 6, ground := Ground.data }, { on := 12, ground := Ground.data }], guard := none }) (v := ?_) rfl (by kernel_rfl) (by kernel_rfl) (by kernel_rfl) (by kernel_rfl) (fun _ _ _ h => h) (Or.inl ⟨by rfl, ?_⟩) ?_; rotate_left; (intro w hw; clear hw; (try go_split_ands); go_simp; try (with_reducible rfl)); simp only [Act.put, List.setIfInBounds_toArray, List.set_cons_zero, List.set_cons_succ])
            (refine Walk.go (i := 14) (o := { dst := some 7, op := Op.alloc 66, type := 0, pos := "tree.go:59", after := #[], guard := none }) (by kernel_rfl) rfl (fun K hK => ?_); go_simp; (replace kk := kk.made 66 [.int .i64 0, .int .i64 0, .slice none 0 0]; first | (replace TO := TO.but ((But.refl Nowhere _).alloc (.cells ([.int .i64 0, .int .i64 0, .slice none 0 0] : List Value).toArray 66)) (not_nowhere _)) | skip); refine hK.out _ _ (⟨fun _ => keepS kk.but, fun _ => trivial⟩) ?_; clear hK K; try simp only [Act.put, List.setIfInBounds_toArray, List.set_cons_zero, List.set_cons_succ])
            revert kk
            revert TO
            obtain ⟨gn, hgn⟩ : ∃ n, y2.heap.size = n := ⟨_, rfl⟩
            rw [hgn]
            clear hgn
            generalize y2.alloc (.cells [.int .i64 0, .int .i64 0, .slice none 0 0].toArray 66) = V2
            intro TO
            intro kk
            have hth := kk3_there (kk.get (b := gn) (t := 66) (c := [.int .i64 0, .int .i64 0, .slice none 0 0]) (by simp)) (⟨a.n, a.w + b.w, ob, oc, a.l ++ b.l⟩ : Tr)
            (refine Walk.go (i := 15) (o := { dst := none, op := Op.store 66 (Operand.tmp 7) (Operand.tmp 34), type := 0, pos := "tree.go:59", after := #[{ on := 14, ground := Ground.data }, { on := 13, ground := Ground.data }, { on := 12, ground := Ground.chain }, { on := 0, ground := Ground.phase }, { on := 1, ground := Ground.phase }, { on := 2, ground := Ground.phase }, { on := 3, ground := Ground.phase }, { on := 4, ground := Ground.phase }, { on := 5, ground := Ground.phase }, { on := 6, ground := Ground.phase }, { on := 7, ground := Ground.phase }, { on := 8, ground := Ground.phase }, { on := 9, ground := Ground.phase }, { on := 10, ground := Ground.phase }, { on := 11, ground := Ground.phase }, { on := 12, ground := Ground.phase }, { on := 13, ground := Ground.phase }, { on := 14, ground := Ground.phase }], guard := none }) (by kernel_rfl) rfl (fun K hK => ?_); refine wp_store_mid 66 (.tmp 7) (.tmp 34) rfl gn 0 (trC (⟨a.n, a.w + b.w, ob, oc, a.l ++ b.l⟩ : Tr)).toArray rfl rfl hth (hiB _) (all_oneC _ rfl) ?_; refine hK.out _ _ (⟨fun _ => keepS (kk_lay (b := gn) (t := 66) (x := .int .i64 0) (y := .int .i64 0) (z := .slice none 0 0) kk (by simp) (⟨a.n, a.w + b.w, ob, oc, a.l ++ b.l⟩ : Tr)), fun _ => trivial⟩) ?_; clear hK K; try simp only [Act.put])
            refine Walk.done (by kernel_rfl) ?_ _
            go_wp2_with fail
            go_meet
            case rel => exact rel_end (x := .int .i64 0) (y := .int .i64 0) (z := .slice none 0 0) kk (by simp) TO
          · go_simp; (replace kk := kk.made 66 [.int .i64 0, .int .i64 0, .slice none 0 0]; first | (replace TO := TO.but ((But.refl Nowhere _).alloc (.cells ([.int .i64 0, .int .i64 0, .slice none 0 0] : List Value).toArray 66)) (not_nowhere _)) | skip); refine hK.out _ _ (⟨fun _ => keepS kk.but, fun _ => trivial⟩) ?_; clear hK K; try simp only [Act.put, List.setIfInBounds_toArray, List.set_cons_zero, List.set_cons_succ]
            revert kk
            revert TO
            obtain ⟨gn, hgn⟩ : ∃ n, V1.heap.size = n := ⟨_, rfl⟩
            rw [hgn]
            clear hgn
            generalize V1.alloc (.cells [.int .i64 0, .int .i64 0, .slice none 0 0].toArray 66) = V3
            intro TO
            intro kk
            (refine Walk.go (i := 12) (o := { dst := some 33, op := Op.call { callee := Callee.value (Operand.func 41), args := #[Operand.tmp 32], argTypes := #[86] }, type := 22, pos := "tree.go:59", after := #[{ on := 11, ground := Ground.data }], guard := none }) (by kernel_rfl) rfl (fun K hK => ?_); go_simp; ((go_at_call 41; refine (concat_any gq a b la lb lab _ (kk.get (b := gq) (t := 22) (c := [a.v, b.v]) (by simp)) (TA.out.but kk.but (not_nowhere _)) (TB.out.but kk.but (not_nowhere _))).mono ?_; rintro e y2 ⟨v, rfl, L⟩; have hsz := kk.but.size; obtain ⟨ob, oc, rfl, ho, TO⟩ := L.tv (by rw [List.length_append]; omega) a.n (a.w + b.w);  replace kk := kk.step L.but; clear L ho hsz)); refine hK.out _ _ (⟨fun _ => keepS kk.but, fun _ => trivial⟩) ?_; clear hK K; try simp only [Act.put, List.setIfInBounds_toArray, List.set_cons_zero, List.set_cons_succ])
            (refine Walk.take (i := 13) (oi := { dst := some 34, op := Op.build 66 #[(0, Operand.tmp 22), (1, Operand.tmp 27), (2, Operand.tmp 33)], type := 66, pos := "tree.go:59", after := #[{ on := 1, ground := Ground.data }, { on := 6, ground := Ground.data }, { on := 12, ground := Ground.data }], guard := none }) (v := ?_) rfl (by kernel_rfl) (by kernel_rfl) (by kernel_rfl) (by kernel_rfl) (fun _ _ _ h => h) (Or.inl ⟨by rfl, ?_⟩) ?_; rotate_left; (intro w hw; clear hw; (try go_split_ands); go_simp; try (with_reducible rfl)); simp only [Act.put, List.setIfInBounds_toArray, List.set_cons_zero, List.set_cons_succ])
            have hth := kk3_there (kk.get (b := gn) (t := 66) (c := [.int .i64 0, .int .i64 0, .slice none 0 0]) (by simp)) (⟨a.n, a.w + b.w, ob, oc, a.l ++ b.l⟩ : Tr)
            (refine Walk.go (i := 15) (o := { dst := none, op := Op.store 66 (Operand.tmp 7) (Operand.tmp 34), type := 0, pos := "tree.go:59", after := #[{ on := 14, ground := Ground.data }, { on := 13, ground := Ground.data }, { on := 12, ground := Ground.chain }, { on := 0, ground := Ground.phase }, { on := 1, ground := Ground.phase }, { on := 2, ground := Ground.phase }, { on := 3, ground := Ground.phase }, { on := 4, ground := Ground.phase }, { on := 5, ground := Ground.phase }, { on := 6, ground := Ground.phase }, { on := 7, ground := Ground.phase }, { on := 8, ground := Ground.phase }, { on := 9, ground := Ground.phase }, { on := 10, ground := Ground.phase }, { on := 11, ground := Ground.phase }, { on := 12, ground := Ground.phase }, { on := 13, ground := Ground.phase }, { on := 14, ground := Ground.phase }], guard := none }) (by kernel_rfl) rfl (fun K hK => ?_); refine wp_store_mid 66 (.tmp 7) (.tmp 34) rfl gn 0 (trC (⟨a.n, a.w + b.w, ob, oc, a.l ++ b.l⟩ : Tr)).toArray rfl rfl hth (hiB _) (all_oneC _ rfl) ?_; refine hK.out _ _ (⟨fun _ => keepS (kk_lay (b := gn) (t := 66) (x := .int .i64 0) (y := .int .i64 0) (z := .slice none 0 0) kk (by simp) (⟨a.n, a.w + b.w, ob, oc, a.l ++ b.l⟩ : Tr)), fun _ => trivial⟩) ?_; clear hK K; try simp only [Act.put])
            refine Walk.done (by kernel_rfl) ?_ _
            go_wp2_with fail
            go_meet
            case rel => exact rel_end (x := .int .i64 0) (y := .int .i64 0) (z := .slice none 0 0) kk (by simp) TO
        · go_simp; (replace kk := kk.made 66 [.int .i64 0, .int .i64 0, .slice none 0 0]; first | (replace TO := TO.but ((But.refl Nowhere _).alloc (.cells ([.int .i64 0, .int .i64 0, .slice none 0 0] : List Value).toArray 66)) (not_nowhere _)) | skip); refine hK.out _ _ (⟨fun _ => keepS kk.but, fun _ => trivial⟩) ?_; clear hK K; try simp only [Act.put, List.setIfInBounds_toArray, List.set_cons_zero, List.set_cons_succ]
          revert kk
          revert TO
          obtain ⟨gn, hgn⟩ : ∃ n, VS.heap.size = n := ⟨_, rfl⟩
          rw [hgn]
          clear hgn
          generalize VS.alloc (.cells [.int .i64 0, .int .i64 0, .slice none 0 0].toArray 66) = V4
          intro TO
          intro kk
          (refine Walk.go (i := 11) (o := { dst := some 32, op := Op.buildSlice 86 2 #[(0, Operand.tmp 29), (1, Operand.tmp 31)], type := 86, pos := "tree.go:59", after := #[{ on := 8, ground := Ground.data }, { on := 10, ground := Ground.data }], guard := none }) (by kernel_rfl) rfl (fun K hK => ?_); go_simp; (replace kk := kk.made 22 [a.v, b.v]); refine hK.out _ _ (⟨fun _ => keepS kk.but, fun _ => trivial⟩) ?_; clear hK K; try simp only [Act.put, List.setIfInBounds_toArray, List.set_cons_zero, List.set_cons_succ])
          revert kk
          revert TO
          obtain ⟨gq, hgq⟩ : ∃ n, V4.heap.size = n := ⟨_, rfl⟩
          rw [hgq]
          clear hgq
          generalize V4.alloc (.cells [a.v, b.v].toArray 22) = V5
          intro TO
          intro kk
          (refine Walk.go (i := 12) (o := { dst := some 33, op := Op.call { callee := Callee.value (Operand.func 41), args := #[Operand.tmp 32], argTypes := #[86] }, type := 22, pos := "tree.go:59", after := #[{ on := 11, ground := Ground.data }], guard := none }) (by kernel_rfl) rfl (fun K hK => ?_); go_simp; ((go_at_call 41; refine (concat_any gq a b la lb lab _ (kk.get (b := gq) (t := 22) (c := [a.v, b.v]) (by simp)) (TA.out.but kk.but (not_nowhere _)) (TB.out.but kk.but (not_nowhere _))).mono ?_; rintro e y2 ⟨v, rfl, L⟩; have hsz := kk.but.size; obtain ⟨ob, oc, rfl, ho, TO⟩ := L.tv (by rw [List.length_append]; omega) a.n (a.w + b.w);  replace kk := kk.step L.but; clear L ho hsz)); refine hK.out _ _ (⟨fun _ => keepS kk.but, fun _ => trivial⟩) ?_; clear hK K; try simp only [Act.put, List.setIfInBounds_toArray, List.set_cons_zero, List.set_cons_succ])
          (refine Walk.take (i := 13) (oi := { dst := some 34, op := Op.build 66 #[(0, Operand.tmp 22), (1, Operand.tmp 27), (2, Operand.tmp 33)], type := 66, pos := "tree.go:59", after := #[{ on := 1, ground := Ground.data }, { on := 6, ground := Ground.data }, { on := 12, ground := Ground.data }], guard := none }) (v := ?_) rfl (by kernel_rfl) (by kernel_rfl) (by kernel_rfl) (by kernel_rfl) (fun _ _ _ h => h) (Or.inl ⟨by rfl, ?_⟩) ?_; rotate_left; (intro w hw; clear hw; (try go_split_ands); go_simp; try (with_reducible rfl)); simp only [Act.put, List.setIfInBounds_toArray, List.set_cons_zero, List.set_cons_succ])
          have hth := kk3_there (kk.get (b := gn) (t := 66) (c := [.int .i64 0, .int .i64 0, .slice none 0 0]) (by simp)) (⟨a.n, a.w + b.w, ob, oc, a.l ++ b.l⟩ : Tr)
          (refine Walk.go (i := 15) (o := { dst := none, op := Op.store 66 (Operand.tmp 7) (Operand.tmp 34), type := 0, pos := "tree.go:59", after := #[{ on := 14, ground := Ground.data }, { on := 13, ground := Ground.data }, { on := 12, ground := Ground.chain }, { on := 0, ground := Ground.phase }, { on := 1, ground := Ground.phase }, { on := 2, ground := Ground.phase }, { on := 3, ground := Ground.phase }, { on := 4, ground := Ground.phase }, { on := 5, ground := Ground.phase }, { on := 6, ground := Ground.phase }, { on := 7, ground := Ground.phase }, { on := 8, ground := Ground.phase }, { on := 9, ground := Ground.phase }, { on := 10, ground := Ground.phase }, { on := 11, ground := Ground.phase }, { on := 12, ground := Ground.phase }, { on := 13, ground := Ground.phase }, { on := 14, ground := Ground.phase }], guard := none }) (by kernel_rfl) rfl (fun K hK => ?_); refine wp_store_mid 66 (.tmp 7) (.tmp 34) rfl gn 0 (trC (⟨a.n, a.w + b.w, ob, oc, a.l ++ b.l⟩ : Tr)).toArray rfl rfl hth (hiB _) (all_oneC _ rfl) ?_; refine hK.out _ _ (⟨fun _ => keepS (kk_lay (b := gn) (t := 66) (x := .int .i64 0) (y := .int .i64 0) (z := .slice none 0 0) kk (by simp) (⟨a.n, a.w + b.w, ob, oc, a.l ++ b.l⟩ : Tr)), fun _ => trivial⟩) ?_; clear hK K; try simp only [Act.put])
          refine Walk.done (by kernel_rfl) ?_ _
          go_wp2_with fail
          go_meet
          case rel => exact rel_end (x := .int .i64 0) (y := .int .i64 0) (z := .slice none 0 0) kk (by simp) TO
      case rest =>
        obtain ⟨gn, ob, oc, rfl, kn, tO, bC, lgn⟩ := hcut
        obtain ⟨L, hL⟩ : ∃ L, a.l ++ b.l = L := ⟨_, rfl⟩
        obtain ⟨one, hone⟩ : ∃ one : Tr, (⟨a.n, a.w + b.w, ob, oc, a.l ++ b.l⟩ : Tr) = one := ⟨_, rfl⟩
        have l6 := bC.size
        have q2 : wc.cell? ⟨gn, 2, none⟩ = some (.slice (some ⟨ob, 0, none⟩) L.length oc) := by rw [← hL]; exact kn.at 2
        rw [hone] at kn tO
        have lL : L.length ≤ 600 := by
          have h1 := HG.out.2.1.len (r + 1) (by omega)
          have h2 := HG.out.2.1.len r (by omega)
          rw [eA] at h1
          rw [eB] at h2
          rw [← hL, List.length_append]
          omega
        go_upto_region 8 with fail
        -- what is as it was through the sizes' loop
        have sz0 : Cells wc (w.heap.size + 1 + 1) 47 (tab .i64 257 (szAt f L 0)) := by
          rw [szAt_zero]
          exact (HG.out.1.sz.but HG.out.2.2.2.1 (by omega)).but bC (not_nowhere _)
        have HTO : Hid (TV wc one) := tO
        have tcell : ∀ (p : Nat) (hp : p < L.length) {V : World}, But (fun k => k = w.heap.size + 1 + 1) wc V → V.cell? ⟨ob, p, none⟩ = some (.int .i64 L[p]) := fun p hp {V} hV => by
          have hT : one.b = ob := by rw [← hone]
          have hl : one.l = L := by rw [← hone]; exact hL
          have h1 := HTO.out.but hV (fun e => HTO.out.far (fr := (0, 0)) sz0 (by decide) e)
          have h2 := h1.cell p (by rw [hl]; exact hp)
          rw [hT] at h2
          rw [h2]
          congr 2
          simp only [hl]
        have hl1 : one.l = L := by rw [← hone]; exact hL
        have GJ := HG.out.2.1.join (A := a.n) (B := b.n) (by rw [eA]) (by rw [eB]) ob oc
        have wA : f.w a.n = a.w := by have h1 := HG.out.2.1.num (r + 1) (by omega); rw [eA] at h1; exact h1.2.2.symm
        have wB : f.w b.n = b.w := by have h1 := HG.out.2.1.num r (by omega); rw [eB] at h1; exact h1.2.2.symm
        have HEND := szAt_end HG.out.2.1 HG.out.1.rn.inv (A := a.n) (B := b.n) (by rw [eA]) (by rw [eB]) L.length (by rw [eA, eB, hL])
        rw [eA, eB] at GJ HEND
        rw [hL] at HEND
        rw [wA, wB, hone] at GJ
        have po : putT g2 r one r = one := if_pos rfl
        have ndL : L.Nodup := by
          have h1 := GJ.once r (by omega)
          rw [po, hl1] at h1
          exact h1
        have memL : ∀ x ∈ L, ∃ v : Nat, v < 257 ∧ x = v := fun x hx => by
          have h1 := (GJ.mem r (by omega) x).1 (by rw [po, hl1]; exact hx)
          obtain ⟨v, h2, h3, -⟩ := h1
          exact ⟨v, h2, h3⟩
        have HGJ : Hid _ := And.intro GJ (And.intro HEND (And.intro ndL memL))
        have HK7 : Hid _ := And.intro kn (And.intro bC sz0)
        clear GJ HEND ndL memL kn bC tO HNA wA wB TA TB la lb lab wa wb rsum q2 eA eB
        go_loopw [38] (fun v V => ∃ p : Nat, p ≤ L.length ∧ v = .int .i64 p ∧ Cells V (w.heap.size + 1 + 1) 47 (tab .i64 257 (szAt f L p)) ∧ But (fun k => k = w.heap.size + 1 + 1) wc V) (fun v _ => L.length - (intOf v).toNat)
        case atStart => exact ⟨0, Nat.zero_le _, rfl, sz0, But.refl _ _⟩
        case round =>
          clear sz0
          obtain ⟨p, hp, rfl, ks, bL⟩ := hrel
          by_cases hlt : p < L.length
          · have z0 : (0 : Int) ≤ (p : Int) := by omega
            have z1 : (p : Int) < (L.length : Int) := by omega
            obtain ⟨xv, x1, x2⟩ := HGJ.out.2.2.2 L[p] (List.getElem_mem hlt)
            have t0 := tcell p hlt bL
            rw [x2] at t0
            obtain ⟨y1, y2⟩ := szAt_next f L HGJ.out.2.2.1 p hlt xv x2
            have y0 : (0 : Int) ≤ (xv : Int) := by omega
            have y3 : (xv : Int) < 257 := by omega
            have s0 := ks.cell xv x1
            rw [y1] at s0
            have f0 := ks.frozen xv
            have rm := HG.out.1.rn.room xv
            have al := alive_pos f.w
            have r1 : IntKind.i64.wrap ((f.size xv : Int) + 1) = (f.size xv : Int) + 1 := by rw [wrap_i64_eq, w64 _ (by omega)]
            have ks2 := ks.set xv (.int .i64 ((f.size xv : Int) + 1))
            rw [tab_set, y2] at ks2
            have HX : Hid _ := And.intro ks2 (bL.setCell (p := ⟨w.heap.size + 1 + 1, xv, none⟩) (fun _ => rfl) (.int .i64 ((f.size xv : Int) + 1)))
            clear ks ks2 bL x2 y1 y2 rm al
            generalize f.size xv = z at *
            go_wp2_with fail
            go_roundw
            case rel => exact ⟨p + 1, by omega, by go_num, HX.out⟩
            case measure => simp [intOf]; omega
          · obtain rfl : p = L.length := by omega
            rw [HGJ.out.2.1] at ks
            have n0 := kn_ne HK7.out.1 ks bL HK7.out.2.2
            have kn2 := HK7.out.1.but bL n0
            have bC := HK7.out.2.1
            have bV4 := HG.out.2.2.2.1
            have cv := (HV4.out.1.but bC (not_nowhere _)).but bL (fun e => ne1 e.symm)
            have hv2 := (HV4.out.2.1.but bC (not_nowhere _)).but bL (fun e => ne2 e.symm)
            have hr := kn2.all
            have HST : Hid _ := And.intro ks (And.intro bL kn2)
            clear ks bL kn2
            go_wp2_with (first
              | (refine wpList_load_mid rfl 66 (.tmp 7) rfl gn 0 rfl (trC one) _ ?_ huT rfl (hi3 _) ?_; exact hr)
              | (go_at_call 42; refine (heapPush_any HB db cap r g2 one HG.out.1.ne (by omega) _ cv (hv2.less (Nat.le_refl _)) HV4.out.2.2).mono ?_; rintro e y5 ⟨rfl, db5, cap5, g5, C5, H5, P5, X5, b5, w5, n5⟩))
            go_roundw
            case rel =>
              have G := HG.out.1
              have hnb := G.nb
              have hnd := G.nd
              have hts : ∀ t : Tr, TV V4 t → TV wr t := fun t ht => by
                have h1 := ht.but HK7.out.2.1 (not_nowhere _)
                exact h1.but HST.out.2.1 (fun e => h1.far (fr := (0, 0)) HK7.out.2.2 (by decide) e)
              have htO : TV wr one := HTO.out.but HST.out.2.1 (fun e => HTO.out.far (fr := (0, 0)) HK7.out.2.2 (by decide) e)
              have htp : ∀ i, i < r + 1 → TV wr (putT g2 r one i) := fun i hi => by
                unfold putT
                split
                · exact htO
                · exact hts _ (HG.out.2.2.2.2 i (by omega))
              have wsz := bV4.size
              have wsz2 := bC.size
              have bw : But Nowhere w wr := (((G.but.step bV4 (fun k hk h => by omega)).step bC (fun _ _ h => h.elim)).step HST.out.2.1 (fun k hk h => by omega))
              have kr : Cells wr (w.heap.size + 1) 47 (tab .i64 257 (fun _ => 0)) := ((G.rs.but bV4 (by omega)).but bC (not_nowhere _)).but HST.out.2.1 (by omega)
              exact ⟨joinF f a.n b.n, r + 1, g5, db5, cap5, ⟨(G.rn.next HG.out.2.2.1).1, HGJ.out.1.mx X5, P5, H5, C5, n5, by omega, X5.every (P := fun t => TV y5 t) (fun i hi => (htp i hi).but b5 (fun h => h.elim (fun e => (htp i hi).cells cv e) (fun e => (htp i hi).hb hv2 e))), HST.out.1.but b5 (fun h => h.elim ne1 ne2), kr.but b5 (fun h => h.elim ne3 ne4), bw.step b5 (fun k hk h => by omega), hnb, by
                rcases w5 with e | e
                · omega
                · have := bw.size; omega⟩⟩
            case measure =>
              have m1 : y5.cell? ⟨HB, 0, none⟩ = some (hv db5 (r + 1) cap5) := C5.at 0
              rw [m1, HM.out]
              exact Nat.lt_succ_self _

end Go.Proofs.Ytlpeplihbdcklaa
