/- What the calls of package trace tell of recorders: their events, how many of a kind, whether two are the same. -/
import Derived.Test.YthfdabcknagjoaaTrace
import Derived.Deep.QuietTactic
import Derived.BigQuiet
import Derived.WalkSpells
import Derived.Laws.StructEq
import Derived.Lib.SliceRun
namespace Go.Proofs.Ythfdabcknagjoaa
open Go.ChangeShapes Go.WideShapes Go.ChangeAt Go.RowKit

theorem But.drewN {S : Nat → Prop} {a w : World} (h : But S a w) (n : Nat) : But S a (w.drewN n) := ⟨h.os, h.tape, h.output, h.size, h.block⟩

theorem ret_int {k : IntKind} {a b : Int} (h : a = b) : Ending.returned (.int k a) = .returned (.int k b) := by rw [h]

/-- How many events have that kind. -/
def cnt (kind : Int) (l : List Ev) : Int := ((l.filter fun e => e.1 == kind).length : Nat)

theorem cnt_le (kind : Int) (l : List Ev) : 0 ≤ cnt kind l ∧ cnt kind l ≤ l.length := by
  unfold cnt; have := List.length_filter_le (fun e : Ev => e.1 == kind) l; omega

theorem cnt_snoc (kind : Int) (l : List Ev) (e : Ev) : cnt kind (l ++ [e]) = cnt kind l + if (e.1 == kind) = true then 1 else 0 := by
  unfold cnt; rw [List.filter_append]; cases h : e.1 == kind <;> simp [h]

theorem cnt_take (kind : Int) (l : List Ev) (k : Nat) (h : k < l.length) : cnt kind (l.take (k + 1)) = cnt kind (l.take k) + if (l[k].1 == kind) = true then 1 else 0 := by
  rw [List.take_succ_eq_append_getElem h, cnt_snoc]

set_option maxHeartbeats 400000 in
theorem all_some (b : Nat) (v : Value) (es : List Ev) (w : World) (h : Rec w b v es) : Calls Try.prog 59 #[.pointer (some ⟨b, 0, none⟩)] w fun e w' => e = .returned v ∧ w' = w := by
  have hc := h.cell
  rcases h.evs.form with ⟨rfl, _⟩ | ⟨g, cap, rfl, _⟩
  all_goals
    go_enter Try.func59, Try.ntmps59
    go_wp2
    go_ret
    exact ⟨rfl, rfl⟩

set_option maxHeartbeats 400000 in
theorem all_none (w : World) : Calls Try.prog 59 #[.pointer none] w fun e w' => e = .returned (.slice none 0 0) ∧ w' = w := by
  go_enter Try.func59, Try.ntmps59
  go_wp2
  go_ret
  exact ⟨rfl, rfl⟩

set_option maxHeartbeats 400000 in
theorem clone_any (v : Value) (es : List Ev) (w : World) (h : Evs w v es) (hl : es.length ≤ 1000000) : Calls Try.prog 62 #[v] w fun e w' => ∃ v', e = .returned v' ∧ Fresh w w' v' es := by
  have hq : ∀ (w : World) (a : Option Addr) (n c n' c' : Nat), (binOp .eql 41 (.slice a n c) (.slice none n' c')).run Try.prog w = .ok (.bool a.isNone) w := fun w a n c n' c' => Lib.run_eql_slice_nil w _ _ a n c n' c' Try.underlying41
  rcases h.form with ⟨rfl, rfl⟩ | ⟨g, cap, rfl, hg, _⟩
  · go_enter Try.func62, Try.ntmps62
    go_wp2
    go_ret
    exact ⟨_, rfl, World.ownsRow_nil _ _ _ _, by simp [Value.ownBlock], But.refl _ _⟩
  · obtain ⟨i0, hi0, hz0, hz1, hz2⟩ := info_parts Try.infoEv
    have hcs := World.ownsRow.cells (h.alloc (.cells #[] 65)) (g := g) rfl
    have hmade := World.ownsRow_made (base := 0) (e := 65) (size := 2) w #[] 0 (by omega) (by omega) rfl
    go_enter Try.func62, Try.ntmps62
    go_wp2_with (at_builtin; refine wpList_append_own_at _ rfl _ _ _ rfl 0 65 i0 _ 2 16 Try.underlying41 hi0 hz0 hz1 hz2 rfl (by omega) _ 0 [] (by rfl) hmade ⟨g, 0, none⟩ es.length cap (evCells es) (by rfl) (evCells_length es) hcs (evCells_one es) (by unfold maxLen; omega) (by omega) (by omega) ?_)
    intro v' w' hown hgrow _ hat
    go_wp2
    go_ret
    refine ⟨v', rfl, by simpa using hown, fun x hx => ?_, ((But.refl _ _).alloc _).grown hgrow (fun k hk hlt => ?_)⟩
    · rcases hat with e | e
      · rw [e] at hx; simp [Value.ownBlock] at hx; omega
      · rw [e] at hx; simp at hx; omega
    · simp [Value.ownBlock] at hk; omega

set_option maxHeartbeats 400000 in
theorem events_some (b : Nat) (v : Value) (es : List Ev) (w : World) (h : Rec w b v es) (hl : es.length ≤ 1000000) : Calls Try.prog 34 #[.pointer (some ⟨b, 0, none⟩)] w fun e w' => ∃ v', e = .returned v' ∧ Fresh w w' v' es := by
  go_enter Try.func34, Try.ntmps34
  go_wp2_with (first | (go_at_call 59; refine (all_some _ _ _ _ h).mono ?_; rintro e w' ⟨rfl, rfl⟩) | (go_at_call 62; refine (clone_any _ _ _ h.evs hl).mono ?_; rintro e w' ⟨v', rfl, hq⟩))
  go_ret
  exact ⟨_, rfl, hq⟩

set_option maxHeartbeats 400000 in
theorem events_none (w : World) : Calls Try.prog 34 #[.pointer none] w fun e w' => e = .returned (.slice none 0 0) ∧ w' = w := by
  have hq : ∀ (w : World) (a : Option Addr) (n c n' c' : Nat), (binOp .eql 41 (.slice a n c) (.slice none n' c')).run Try.prog w = .ok (.bool a.isNone) w := fun w a n c n' c' => Lib.run_eql_slice_nil w _ _ a n c n' c' Try.underlying41
  go_enter Try.func34, Try.ntmps34
  go_wp2_with (first | (go_at_call 59; refine (all_none _).mono ?_; rintro e w' ⟨rfl, rfl⟩) | go_in)
  go_ret
  exact ⟨rfl, rfl⟩

set_option maxHeartbeats 400000 in
theorem count_some (b : Nat) (v : Value) (es : List Ev) (kind : Int) (w : World) (h : Rec w b v es) (hl : es.length ≤ 1000000) : Calls Try.prog 29 #[.pointer (some ⟨b, 0, none⟩), .int .i64 kind] w fun e w' => e = .returned (.int .i64 (cnt kind es)) ∧ But Nowhere w w' := by
  rcases h.evs.form with ⟨rfl, rfl⟩ | ⟨g, cap, rfl, hg, hle, hcap, hcell⟩
  · go_enter Try.func29, Try.ntmps29
    go_wp2_with (go_at_call 59; refine (all_some _ _ _ _ h).mono ?_; rintro e w' ⟨rfl, rfl⟩)
    go_loopw [5, 11] (fun n i W => i = .int .i64 0 ∧ n = .int .i64 0 ∧ W = w') (fun _ _ _ => 0)
    case atStart => exact ⟨rfl, rfl, rfl⟩
    case round =>
      obtain ⟨rfl, rfl, rfl⟩ := hrel
      go_wp2
      go_ret
      exact ⟨rfl, But.refl _ _⟩
  · go_enter Try.func29, Try.ntmps29
    go_wp2_with (go_at_call 59; refine (all_some _ _ _ _ h).mono ?_; rintro e w' ⟨rfl, rfl⟩)
    go_loopw [5, 11] (fun n i W => ∃ k : Nat, k ≤ es.length ∧ i = .int .i64 k ∧ n = .int .i64 (cnt kind (es.take k)) ∧ But Nowhere w' W) (fun _ i _ => es.length - (intOf i).toNat)
    case atStart => exact ⟨0, Nat.zero_le _, rfl, rfl, But.refl _ _⟩
    case round =>
      obtain ⟨k, hk, rfl, rfl, hb⟩ := hrel
      have hcl := cnt_le kind (es.take k)
      have hll : (es.take k).length ≤ k := List.length_take_le _ _
      by_cases hlt : k < es.length
      · have hc := hcell k hlt
        rw [← hb.cell (p := ⟨g, k * 2, none⟩) hg (fun f => f), ← hb.cell (p := ⟨g, k * 2 + 1, none⟩) hg (fun f => f)] at hc
        obtain ⟨hc0, hc1⟩ := hc
        have HS : Hid _ := cnt_take kind es k hlt
        go_wp2
        all_goals
          go_roundw
          case rel => exact ⟨k + 1, by omega, by go_num, by rw [HS.out]; first | rw [if_pos ‹_›] | (rw [if_neg (by simp [*])]; go_num), hb.alloc _⟩
          case measure => simp [intOf]; omega
      · go_wp2
        go_ret
        exact ⟨ret_int (by rw [List.take_of_length_le (by omega)]), hb⟩

set_option maxHeartbeats 400000 in
theorem count_none (kind : Int) (w : World) : Calls Try.prog 29 #[.pointer none, .int .i64 kind] w fun e w' => e = .returned (.int .i64 0) ∧ But Nowhere w w' := by
  go_enter Try.func29, Try.ntmps29
  go_wp2_with (go_at_call 59; refine (all_none _).mono ?_; rintro e w' ⟨rfl, rfl⟩)
  go_loopw [5, 11] (fun n i W => i = .int .i64 0 ∧ n = .int .i64 0 ∧ W = w') (fun _ _ _ => 0)
  case atStart => exact ⟨rfl, rfl, rfl⟩
  case round =>
    obtain ⟨rfl, rfl, rfl⟩ := hrel
    go_wp2
    go_ret
    exact ⟨rfl, But.refl _ _⟩

theorem Try.stoodEv : Try.prog.stoodInHeld 65 = false := by kernel_rfl
theorem Try.guardEv : Try.prog.eqGuardType Try.prog.depth 65 = false := by kernel_rfl
theorem equalIn_ev (a b c d : Int) (w : World) : (Op.equalIn 10000 65 (.agg #[.int .i64 a, .int .i64 b]) (.agg #[.int .i64 c, .int .i64 d])).run Try.prog w = .ok (a == c && b == d) w := by
  have h0 := Try.underlying65
  have h3 := Try.underlying3
  rw [run_equalIn_agg w 9999 _ _ _ (by simp [Program.fieldsOf, h0]) Try.stoodEv]
  go_simp
  by_cases h1 : a = c <;> by_cases h2 : b = d <;> simp [h1, h2]

theorem equalIn_yes (x y : Ev) (h : x = y) (w : World) : (Op.equalIn 10000 65 (.agg #[.int .i64 x.1, .int .i64 x.2]) (.agg #[.int .i64 y.1, .int .i64 y.2])).run Try.prog w = .ok true w := by
  rw [equalIn_ev]; subst h; simp
theorem equalIn_no (x y : Ev) (h : x ≠ y) (w : World) : (Op.equalIn 10000 65 (.agg #[.int .i64 x.1, .int .i64 x.2]) (.agg #[.int .i64 y.1, .int .i64 y.2])).run Try.prog w = .ok false w := by
  rw [equalIn_ev]
  have : (x.1 == y.1 && x.2 == y.2) = false := by
    rw [Bool.eq_false_iff]; intro e; simp at e; exact h (Prod.ext e.1 e.2)
  rw [this]

/-- Are two lists of events the same? -/
def sameB (l m : List Ev) : Bool := decide (l = m)

theorem sameB_length (l m : List Ev) (h : l.length ≠ m.length) : sameB l m = false := by
  unfold sameB; simp; intro e; exact h (by rw [e])

theorem take_eq_succ (l m : List Ev) (k : Nat) (hl : k < l.length) (hm : k < m.length) (h : l.take k = m.take k) (e : l[k] = m[k]) : l.take (k + 1) = m.take (k + 1) := by
  rw [List.take_succ_eq_append_getElem hl, List.take_succ_eq_append_getElem hm, h, e]

theorem sameB_take (l m : List Ev) (k : Nat) (hl : l.length ≤ k) (hm : m.length ≤ k) (h : l.take k = m.take k) : sameB l m = true := by
  rw [List.take_of_length_le hl, List.take_of_length_le hm] at h; simp [sameB, h]

theorem sameB_at (l m : List Ev) (k : Nat) (hl : k < l.length) (hm : k < m.length) (h : l[k] ≠ m[k]) : sameB l m = false := by
  unfold sameB; simp; intro e; subst e; exact h rfl

theorem ret_bool {a b : Bool} (h : a = b) : Ending.returned (.bool a) = .returned (.bool b) := by rw [h]

set_option maxHeartbeats 400000 in
theorem equal_any (v u : Value) (es fs : List Ev) (w : World) (h : Evs w v es) (k : Evs w u fs) (hl : es.length ≤ 1000000) : Calls Try.prog 58 #[v, u] w fun e w' => e = .returned (.bool (sameB es fs)) ∧ But Nowhere w w' := by
  have hfl : fs.length ≤ maxLen := by rcases k.form with ⟨_, rfl⟩ | ⟨_, _, _, _, h1, h2, _⟩ <;> first | (simp; done) | omega
  unfold maxLen at hfl
  by_cases hne : es.length = fs.length
  · rcases h.form with ⟨rfl, rfl⟩ | ⟨g, cap, rfl, hg, hle, hcap, hcell⟩
    · have e0 : fs = [] := List.eq_nil_of_length_eq_zero (by simpa using hne.symm)
      subst e0
      rcases k.form with ⟨rfl, _⟩ | ⟨g, cap, rfl, _⟩
      all_goals
        go_enter Try.func58, Try.ntmps58
        go_wp2
        go_loopw [13] (fun i W => i = .int .i64 0 ∧ W = w) (fun _ _ => 0)
        case atStart => exact ⟨rfl, rfl⟩
        case round =>
          obtain ⟨rfl, rfl⟩ := hrel
          go_wp2
          go_ret
          exact ⟨rfl, But.refl _ _⟩
    · rcases k.form with ⟨rfl, rfl⟩ | ⟨g2, cap2, rfl, hg2, hle2, hcap2, hcell2⟩
      · have e0 : es = [] := List.eq_nil_of_length_eq_zero (by simpa using hne)
        subst e0
        go_enter Try.func58, Try.ntmps58
        go_wp2
        go_loopw [13] (fun i W => i = .int .i64 0 ∧ W = w) (fun _ _ => 0)
        case atStart => exact ⟨rfl, rfl⟩
        case round =>
          obtain ⟨rfl, rfl⟩ := hrel
          go_wp2
          go_ret
          exact ⟨rfl, But.refl _ _⟩
      · have hb : ((es.length : Int) != (fs.length : Int)) = false := by simp [hne]
        have HN : Hid _ := hne
        have hn1 : es.length ≤ fs.length := by omega
        have hn2 : fs.length ≤ es.length := by omega
        clear hne
        go_enter Try.func58, Try.ntmps58
        go_wp2
        go_loopw [13] (fun i W => ∃ n : Nat, n ≤ es.length ∧ i = .int .i64 n ∧ es.take n = fs.take n ∧ ∃ q, W = w.drewN q) (fun i _ => es.length - (intOf i).toNat)
        case atStart => exact ⟨0, Nat.zero_le _, rfl, rfl, 0, rfl⟩
        case round =>
          obtain ⟨n, hn, rfl, ht, q, rfl⟩ := hrel
          have HT : Hid _ := ht
          clear ht
          by_cases hlt : n < es.length
          · have hlt2 : n < fs.length := by omega
            obtain ⟨hc0, hc1⟩ := hcell n hlt
            obtain ⟨hd0, hd1⟩ := hcell2 n hlt2
            have i0 : (0 : Int) ≤ (n : Int) := by omega
            have i1 : (n : Int) < (es.length : Int) := by omega
            have i2 : (n : Int) < (fs.length : Int) := by omega
            have hgd := Try.guardEv
            by_cases he : es[n] = fs[n]
            · have heq := equalIn_yes es[n] fs[n] he
              have HE : Hid _ := he
              clear he
              go_wp2
              go_quiet (fail)
              go_wp2
              go_roundw
              case rel => exact ⟨n + 1, by omega, by go_num, take_eq_succ _ _ _ hlt hlt2 HT.out HE.out, _, rfl⟩
              case measure => simp [intOf]; omega
            · have heq := equalIn_no es[n] fs[n] he
              have HE : Hid _ := he
              clear he
              go_wp2
              go_quiet (fail)
              go_wp2
              go_ret
              exact ⟨ret_bool (sameB_at _ _ n hlt hlt2 HE.out).symm, ((But.refl _ _).drewN _).drewN _⟩
          · go_wp2
            go_ret
            exact ⟨ret_bool (sameB_take _ _ n (by omega) (by omega) HT.out).symm, (But.refl _ _).drewN _⟩
  · have HN : Hid _ := hne
    rcases h.form with ⟨rfl, rfl⟩ | ⟨g, cap, rfl, hg, hle, hcap, hcell⟩ <;> rcases k.form with ⟨rfl, rfl⟩ | ⟨g2, cap2, rfl, hg2, hle2, hcap2, hcell2⟩
    · exact absurd rfl hne
    · have hb : ((0 : Int) != (fs.length : Int)) = true := by simp at hne ⊢; omega
      clear hne
      go_enter Try.func58, Try.ntmps58
      go_wp2
      go_ret
      exact ⟨ret_bool (sameB_length _ _ HN.out).symm, But.refl _ _⟩
    · have hb : ((es.length : Int) != (0 : Int)) = true := by simp at hne ⊢; omega
      clear hne
      go_enter Try.func58, Try.ntmps58
      go_wp2
      go_ret
      exact ⟨ret_bool (sameB_length _ _ HN.out).symm, But.refl _ _⟩
    · have hb : ((es.length : Int) != (fs.length : Int)) = true := by simp; omega
      clear hne
      go_enter Try.func58, Try.ntmps58
      go_wp2
      go_ret
      exact ⟨ret_bool (sameB_length _ _ HN.out).symm, But.refl _ _⟩

set_option maxHeartbeats 400000 in
theorem same_some (a b : Nat) (v u : Value) (es fs : List Ev) (w : World) (h : Rec w a v es) (k : Rec w b u fs) (hl : es.length ≤ 1000000) : Calls Try.prog 27 #[.pointer (some ⟨a, 0, none⟩), .pointer (some ⟨b, 0, none⟩)] w fun e w' => e = .returned (.bool (sameB es fs)) ∧ But Nowhere w w' := by
  go_enter Try.func27, Try.ntmps27
  go_wp2_with fail
  refine (all_some _ _ _ _ h).mono ?_
  rintro e w' ⟨rfl, rfl⟩
  go_wp2_with fail
  refine (all_some _ _ _ _ k).mono ?_
  rintro e w' ⟨rfl, rfl⟩
  go_wp2_with fail
  refine (equal_any _ _ _ _ _ h.evs k.evs hl).mono ?_
  rintro e w' ⟨rfl, hq⟩
  go_wp2_with fail
  go_ret
  exact ⟨rfl, hq⟩

set_option maxHeartbeats 400000 in
theorem same_ns (b : Nat) (u : Value) (fs : List Ev) (w : World) (k : Rec w b u fs) : Calls Try.prog 27 #[.pointer none, .pointer (some ⟨b, 0, none⟩)] w fun e w' => e = .returned (.bool (sameB [] fs)) ∧ But Nowhere w w' := by
  go_enter Try.func27, Try.ntmps27
  go_wp2_with fail
  refine (all_none _).mono ?_
  rintro e w' ⟨rfl, rfl⟩
  go_wp2_with fail
  refine (all_some _ _ _ _ k).mono ?_
  rintro e w' ⟨rfl, rfl⟩
  go_wp2_with fail
  refine (equal_any _ _ [] _ _ (World.ownsRow_nil _ _ _ _) k.evs (by simp)).mono ?_
  rintro e w' ⟨rfl, hq⟩
  go_wp2_with fail
  go_ret
  exact ⟨rfl, hq⟩
end Go.Proofs.Ythfdabcknagjoaa
