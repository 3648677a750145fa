/- What the program's Check asks: how many values there are, and that none comes twice. -/
import Derived.Test.YtadcfndjbhcfbaaHd1
import Derived.Test.YtadcfndjbhcfbaaHu6
import Derived.Test.YtadcfndjbhcfbaaHu2
namespace Go.Proofs.Ytadcfndjbhcfbaa
set_option linter.unusedVariables false
open Go.ChangeShapes Go.WideShapes Go.ChangeAt Go.RowKit

/-- 256 yes and no. -/
def flags (g : Nat → Bool) : List Value := (List.range 256).map fun j => .bool (g j)
theorem flags_length (g : Nat → Bool) : (flags g).length = 256 := by simp [flags]
theorem flags_at (g : Nat → Bool) (j : Nat) (h : j < 256) : (flags g)[j]? = some (.bool (g j)) := by simp [flags, h]
theorem flags_set (g : Nat → Bool) (v : Nat) (b : Bool) : (flags g).set v (.bool b) = flags (fun j => if j = v then b else g j) := by
  apply List.ext_getElem?
  intro j
  rw [List.getElem?_set]
  by_cases hj : j < 256
  · rw [flags_at _ _ hj, flags_length]
    by_cases e : v = j
    · subst e; rw [flags_at _ _ hj]; simp [hj]
    · rw [if_neg e, flags_at _ _ hj, if_neg (Ne.symm e)]
  · rw [flags_length, List.getElem?_eq_none (by rw [flags_length]; omega), List.getElem?_eq_none (by rw [flags_length]; omega)]
    split <;> (try split) <;> (try rfl) <;> omega
theorem flags_congr (g h : Nat → Bool) (e : ∀ j, j < 256 → g j = h j) : flags g = flags h := by
  unfold flags
  apply List.map_congr_left
  intro j hj
  rw [e j (by simpa using hj)]

set_option maxRecDepth 100000 in
theorem zeroFlags : ∀ (W : World), (zeroValue 70).run Try.prog W = .ok (.agg (flags (fun _ => false)).toArray) W :=
  (zero_of_info (n := 256) (by kernel_rfl)).1

/-- Counts that may be, and as many values. -/
def cntB (c : Nat → Int) (l : List Int) : Bool := (List.range 16).all (fun i => decide (0 ≤ c i ∧ c i ≤ 255)) && (decide (cnt c 16 = l.length) && decide (l.length ≤ 256))
theorem cntB_iff (c : Nat → Int) (l : List Int) : cntB c l = true ↔ Cnt c ∧ cnt c 16 = l.length ∧ l.length ≤ 256 := by
  unfold cntB Cnt
  simp only [Bool.and_eq_true, List.all_eq_true, List.mem_range, decide_eq_true_eq]
theorem cntB_yes {c : Nat → Int} {l : List Int} (h : Cnt c ∧ cnt c 16 = l.length ∧ l.length ≤ 256) : true = cntB c l := ((cntB_iff c l).2 h).symm
theorem cntB_no {c : Nat → Int} {l : List Int} (h : ¬ (Cnt c ∧ cnt c 16 = l.length ∧ l.length ≤ 256)) : false = cntB c l := by
  cases e : cntB c l
  · rfl
  · exact absurd ((cntB_iff c l).1 e) h

set_option maxHeartbeats 1600000 in
set_option maxRecDepth 100000 in
theorem isCounted_any (c : Nat → Int) (pv : Value) (l : List Int) (hI : ∀ j, j < 16 → I64 (c j)) (w : World) (hv : View w .u8 pv l) (hl : l.length ≤ 140737488355328) : Calls Try.prog 29 #[.agg (tbl c pv).toArray] w fun e w' => e = .returned (.bool (cntB c l)) ∧ But Nowhere w w' := by
  obtain ⟨ao, cap, rfl⟩ := hv.slice
  clear hv
  have hu := Try.underlying22
  have hi16 : (Try.prog.info? 22).map (·.size) = some (tab .i64 16 c).length := by rw [tab_length]; kernel_rfl
  have hIx := fun k hk V => index_sixteen c k hk V
  have kk := (Keep.start w).made 25 (tbl c (.slice ao l.length cap))
  go_enter Try.func29, Try.ntmps29
  have hR := tbl_range kk.head
  go_wp2_with (refine wpList_load_mid rfl 22 (.tmp 6) rfl (w.heap.size) 0 rfl (tab .i64 16 c) _ ?_ hu rfl hi16 ?_; exact hR)
  clear hR hu hi16
  revert kk
  generalize w.alloc (.cells (tbl c (.slice ao l.length cap)).toArray 25) = W1
  intro kk
  go_loopw [3, 8] (fun s i V => ∃ k : Nat, k ≤ 16 ∧ i = .int .i64 k ∧ s = .int .i64 (cnt c k) ∧ (∀ j, j < k → 0 ≤ c j ∧ c j ≤ 255) ∧ -100000 ≤ cnt c k ∧ cnt c k ≤ 255 * k ∧ Keep w V [(w.heap.size, 25, tbl c (.slice ao l.length cap))]) (fun _ i _ => 16 - (intOf i).toNat)
  case atStart => exact ⟨0, Nat.zero_le _, rfl, rfl, fun i hi => by omega, by show (-100000 : Int) ≤ 0; omega, by show (0 : Int) ≤ _; omega, kk⟩
  case round =>
    clear kk
    obtain ⟨k, hk, rfl, rfl, hc, hlo, hhi, kk⟩ := hrel
    have HC : Hid (∀ j, j < k → 0 ≤ c j ∧ c j ≤ 255) := hc
    clear hc
    by_cases hlt : (k : Int) < 16
    · have hkN : k < 16 := by omega
      have hx := hIx k hkN
      have hIk := hI k hkN
      have hs2 : cnt c (k + 1) = cnt c k + c k := rfl
      obtain ⟨x, hxk⟩ : ∃ x, c k = x := ⟨_, rfl⟩
      rw [hxk] at hx hs2 hIk
      have HX : Hid (c k = x) := hxk
      clear hIx hxk
      by_cases a : x < 0
      · have HB : Hid _ := kk.but
        clear kk
        go_wp2_with fail
        go_ret
        rw [← cntB_no (fun h => by have := (h.1 k hkN).1; rw [HX.out] at this; omega)]
        exact ⟨rfl, HB.out⟩
      · by_cases b : 255 < x
        · have HB : Hid _ := kk.but
          clear kk
          go_wp2_with fail
          go_ret
          rw [← cntB_no (fun h => by have := (h.1 k hkN).2; rw [HX.out] at this; omega)]
          exact ⟨rfl, HB.out⟩
        · have HS : Hid _ := hs2
          clear hs2
          obtain ⟨N, hN⟩ : ∃ N, cnt c k = N := ⟨_, rfl⟩
          rw [hN] at HS hlo hhi ⊢
          clear hN
          have hN2 : N ≤ 5000 := by omega
          go_wp2_with fail
          go_roundw
          case rel => exact ⟨k + 1, by omega, by go_num, by rw [HS.out], fun j hj => by
              by_cases e : j = k
              · subst e; rw [HX.out]; omega
              · exact HC.out j (by omega), by rw [HS.out]; omega, by rw [HS.out]; omega, kk⟩
          case measure => simp [intOf]; omega
    · obtain rfl : k = 16 := by omega
      have c16 := kk.head.vals
      have HB : Hid _ := kk.but
      obtain ⟨N, hN⟩ : ∃ N, cnt c 16 = N := ⟨_, rfl⟩
      rw [hN] at hlo hhi ⊢
      have HN : Hid (cnt c 16 = N) := hN
      clear kk hIx hN
      by_cases a : N = (l.length : Int)
      · subst a
        by_cases b : (l.length : Int) ≤ 256
        · go_wp2_with fail
          go_ret
          rw [← cntB_yes ⟨HC.out, HN.out, by omega⟩]
          exact ⟨rfl, HB.out⟩
        · go_wp2_with fail
          go_ret
          rw [← cntB_no (fun h => by omega)]
          exact ⟨rfl, HB.out⟩
      · go_wp2_with fail
        go_ret
        rw [← cntB_no (fun h => absurd (HN.out.symm.trans h.2.1) a)]
        exact ⟨rfl, HB.out⟩

set_option maxHeartbeats 3200000 in
set_option maxRecDepth 100000 in
theorem isOnce_any (pv : Value) (l : List Int) (w : World) (hv : View w .u8 pv l) (hx : ∀ x ∈ l, 0 ≤ x ∧ x ≤ 255) (hl : l.length ≤ 140737488355328) : Calls Try.prog 30 #[pv] w fun e w' => e = .returned (.bool (decide l.Nodup)) ∧ But Nowhere w w' := by
  have HV : Hid (View w .u8 pv l) := hv
  obtain ⟨ao, cap, rfl⟩ := hv.slice
  clear hv
  have hz := zeroFlags
  have kk := (Keep.start w).made 70 (flags (fun _ => false))
  go_enter Try.func30, Try.ntmps30
  go_wp2_with fail
  clear hz
  revert kk
  generalize w.alloc (.cells (flags (fun _ => false)).toArray 70) = W1
  intro kk
  rw [show flags (fun _ => false) = flags (fun v => decide ((v : Int) ∈ l.take 0)) from flags_congr _ _ (fun j _ => by simp)] at kk
  go_loopw [8] (fun i V => ∃ k : Nat, k ≤ l.length ∧ i = .int .i64 k ∧ (l.take k).Nodup ∧ Keep w V [(w.heap.size, 70, flags (fun v => decide ((v : Int) ∈ l.take k)))]) (fun i _ => l.length - (intOf i).toNat)
  case atStart => exact ⟨0, Nat.zero_le _, rfl, by simp, kk⟩
  case round =>
    clear kk
    obtain ⟨k, hk, rfl, hnd, kk⟩ := hrel
    by_cases hlt : (k : Int) < (l.length : Int)
    · have hkN : k < l.length := by omega
      have hVc := HV.out.but kk.but
      obtain ⟨-, vb, off, hao, -, e1⟩ := hVc.at k hkN
      clear hVc
      obtain ⟨x, hxe⟩ : ∃ x : Nat, l[k] = (x : Int) := ⟨(l[k]).toNat, by have := hx _ (List.getElem_mem hkN); omega⟩
      have hx255 : x < 256 := by have := hx _ (List.getElem_mem hkN); omega
      rw [hxe] at e1
      have hcell := (kk.head.at x).trans (flags_at _ x hx255)
      have htk : l.take (k + 1) = l.take k ++ [(x : Int)] := by rw [List.take_succ_eq_append_getElem hkN, hxe]
      have hxI : (x : Int) < 256 := by omega
      by_cases hm : (x : Int) ∈ l.take k
      · have hno : ¬ l.Nodup := fun h => by
          have := h.sublist (List.take_sublist (k + 1) l)
          rw [htk] at this
          exact (List.nodup_append.1 this).2.2 _ hm _ (by simp) rfl
        rw [decide_eq_true hm] at hcell
        have HB : Hid _ := And.intro hno kk.but
        clear kk hnd hm hno htk hxe hx
        subst hao
        go_wp2_with fail
        go_ret
        rw [decide_eq_false HB.out.1]
        exact ⟨rfl, HB.out.2⟩
      · rw [decide_eq_false hm] at hcell
        have hfr := kk.head.frozen x
        have k2 := kk.set x (.bool true)
        rw [flags_set] at k2
        have HB : Hid (Keep w _ _ ∧ (l.take (k + 1)).Nodup) := ⟨k2, by
          rw [htk, List.nodup_append]
          exact ⟨hnd, by simp, fun a ha b hb e => by simp at hb; subst hb; subst e; exact hm ha⟩⟩
        have HE : Hid (flags (fun j => if j = x then true else decide ((j : Int) ∈ l.take k)) = flags (fun v => decide ((v : Int) ∈ l.take (k + 1)))) := by
          refine flags_congr _ _ (fun j _ => ?_)
          rw [htk]
          by_cases e : j = x
          · subst e; simp
          · rw [if_neg e]
            have : ¬ (j : Int) = (x : Int) := by omega
            simp [this]
        clear kk k2 hnd hm htk hxe hx
        subst hao
        go_wp2_with fail
        go_roundw
        case rel => exact ⟨k + 1, by omega, by go_num, HB.out.2, by rw [← HE.out]; exact HB.out.1⟩
        case measure => simp [intOf]; omega
    · obtain rfl : k = l.length := by omega
      rw [List.take_length] at hnd
      have HB : Hid _ := And.intro hnd kk.but
      clear kk hnd
      go_wp2_with fail
      go_ret
      rw [decide_eq_true HB.out.1]
      exact ⟨rfl, HB.out.2⟩

end Go.Proofs.Ytadcfndjbhcfbaa
