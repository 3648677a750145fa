/- What each call of package sec answers, for every number that the secrets hold; of old memory nothing turns. -/
import Derived.Test.YtadcfndjbhcfbaaTrace
import Derived.Laws.Bits64
import Derived.RegionTactic
namespace Go.Proofs.Ytadcfndjbhcfbaa
open Go.ChangeShapes Go.WideShapes Go.ChangeAt Go.RowKit

/-- A secret that holds n. -/
abbrev S64 (n : Int) : Value := .agg #[.int .i64 n]

theorem Try.infoSec : (Try.prog.info? 51).map (fun i => i.size) = some 1 := by kernel_rfl

theorem results_sec {fn : Func} {p : Tmp} (h : fn.results = #[.cell p 51]) (tmps : Array Value) (w : World) (g : Nat) (n : Int) (hp : tmps.getD p undef = .pointer (some ⟨g, 0, none⟩)) (hg : w.cell? ⟨g, 0, none⟩ = some (.int .i64 n)) :
    (results fn tmps).run Try.prog w = .ok (S64 n) w := by
  have hu := Try.underlying51
  have h2 := Try.underlying2
  have hp' : tmps[p]?.getD undef = .pointer (some ⟨g, 0, none⟩) := by simpa using hp
  simp only [results, h]
  go_simp

/-- A block of one secret. -/
abbrev cell1 (n : Int) : Obj := .cells #[.int .i64 n] 51

set_option maxHeartbeats 400000 in
theorem of_at (a : Int) (w : World) : Calls Try.prog 25 #[.int .i64 a] w fun e w' => e = .returned (S64 a) ∧ w' = w.alloc (cell1 a) := by
  go_enter Try.func25, Try.ntmps25
  go_wp2
  exact bodyPost_ret (results_sec rfl _ _ _ a rfl (by go_simp)) rfl ⟨rfl, rfl⟩

theorem of_any (a : Int) (w : World) : Calls Try.prog 25 #[.int .i64 a] w fun e w' => e = .returned (S64 a) ∧ But Nowhere w w' :=
  (of_at a w).mono fun _ _ ⟨he, hw⟩ => ⟨he, hw ▸ (But.refl _ _).alloc _⟩

set_option maxHeartbeats 400000 in
theorem and_at (a b : Int) (w : World) : Calls Try.prog 44 #[S64 a, S64 b] w fun e w' => e = .returned (S64 (bits .and .i64 a b)) ∧ w' = ((w.alloc (cell1 a)).alloc (cell1 b)).alloc (cell1 (bits .and .i64 a b)) := by
  go_enter Try.func44, Try.ntmps44
  go_wp2
  exact bodyPost_ret (results_sec rfl _ _ _ (bits .and .i64 a b) rfl (by go_simp)) rfl ⟨rfl, rfl⟩

theorem and_any (a b : Int) (w : World) : Calls Try.prog 44 #[S64 a, S64 b] w fun e w' => e = .returned (S64 (bits .and .i64 a b)) ∧ But Nowhere w w' :=
  (and_at a b w).mono fun _ _ ⟨he, hw⟩ => ⟨he, hw ▸ (((But.refl _ _).alloc _).alloc _).alloc _⟩

set_option maxHeartbeats 400000 in
theorem or_at (a b : Int) (w : World) : Calls Try.prog 41 #[S64 a, S64 b] w fun e w' => e = .returned (S64 (bits .or .i64 a b)) ∧ w' = ((w.alloc (cell1 a)).alloc (cell1 b)).alloc (cell1 (bits .or .i64 a b)) := by
  go_enter Try.func41, Try.ntmps41
  go_wp2
  exact bodyPost_ret (results_sec rfl _ _ _ (bits .or .i64 a b) rfl (by go_simp)) rfl ⟨rfl, rfl⟩

theorem or_any (a b : Int) (w : World) : Calls Try.prog 41 #[S64 a, S64 b] w fun e w' => e = .returned (S64 (bits .or .i64 a b)) ∧ But Nowhere w w' :=
  (or_at a b w).mono fun _ _ ⟨he, hw⟩ => ⟨he, hw ▸ (((But.refl _ _).alloc _).alloc _).alloc _⟩

set_option maxHeartbeats 400000 in
theorem xor_at (a b : Int) (w : World) : Calls Try.prog 40 #[S64 a, S64 b] w fun e w' => e = .returned (S64 (bits .xor .i64 a b)) ∧ w' = ((w.alloc (cell1 a)).alloc (cell1 b)).alloc (cell1 (bits .xor .i64 a b)) := by
  go_enter Try.func40, Try.ntmps40
  go_wp2
  exact bodyPost_ret (results_sec rfl _ _ _ (bits .xor .i64 a b) rfl (by go_simp)) rfl ⟨rfl, rfl⟩

theorem xor_any (a b : Int) (w : World) : Calls Try.prog 40 #[S64 a, S64 b] w fun e w' => e = .returned (S64 (bits .xor .i64 a b)) ∧ But Nowhere w w' :=
  (xor_at a b w).mono fun _ _ ⟨he, hw⟩ => ⟨he, hw ▸ (((But.refl _ _).alloc _).alloc _).alloc _⟩

set_option maxHeartbeats 400000 in
theorem not_at (a : Int) (w : World) : Calls Try.prog 43 #[S64 a] w fun e w' => e = .returned (S64 (bits .xor .i64 (-1) a)) ∧ w' = (w.alloc (cell1 a)).alloc (cell1 (bits .xor .i64 (-1) a)) := by
  go_enter Try.func43, Try.ntmps43
  go_wp2
  exact bodyPost_ret (results_sec rfl _ _ _ (bits .xor .i64 (-1) a) rfl (by go_simp)) rfl ⟨rfl, rfl⟩

theorem not_any (a : Int) (w : World) : Calls Try.prog 43 #[S64 a] w fun e w' => e = .returned (S64 (bits .xor .i64 (-1) a)) ∧ But Nowhere w w' :=
  (not_at a w).mono fun _ _ ⟨he, hw⟩ => ⟨he, hw ▸ ((But.refl _ _).alloc _).alloc _⟩

set_option maxHeartbeats 400000 in
theorem neg_at (a : Int) (w : World) : Calls Try.prog 42 #[S64 a] w fun e w' => e = .returned (S64 (wrap64 (-a))) ∧ w' = (w.alloc (cell1 a)).alloc (cell1 (wrap64 (-a))) := by
  go_enter Try.func42, Try.ntmps42
  go_wp2
  exact bodyPost_ret (results_sec rfl _ _ _ (wrap64 (-a)) rfl (by go_simp)) rfl ⟨rfl, rfl⟩

theorem neg_any (a : Int) (w : World) : Calls Try.prog 42 #[S64 a] w fun e w' => e = .returned (S64 (wrap64 (-a))) ∧ But Nowhere w w' :=
  (neg_at a w).mono fun _ _ ⟨he, hw⟩ => ⟨he, hw ▸ ((But.refl _ _).alloc _).alloc _⟩

theorem ret_num {k : IntKind} {a b : Int} (h : a = b) : Ending.returned (.int k a) = .returned (.int k b) := by rw [h]

/-- By how much is shifted. -/
def shN (n : Int) : Int := min (max n 0) 63

theorem shN_in (n : Int) : 0 ≤ shN n ∧ shN n ≤ 63 := by unfold shN; omega

set_option maxHeartbeats 400000 in
theorem shift_any (n : Int) (w : World) : Calls Try.prog 39 #[.int .i64 n] w fun e w' => e = .returned (.int .u64 (shN n)) ∧ w' = w := by
  go_enter Try.func39, Try.ntmps39
  go_wp2
  all_goals
    go_ret
    exact ⟨ret_num (by unfold shN; omega), rfl⟩

set_option maxHeartbeats 400000 in
theorem shr_at (a n : Int) (w : World) : Calls Try.prog 32 #[S64 a, .int .i64 n] w fun e w' => e = .returned (S64 (a / 2 ^ (shN n).toNat)) ∧ w' = ((w.alloc (cell1 a)).alloc (cell1 (a / 2 ^ (shN n).toNat))).drew := by
  obtain ⟨h0, h1⟩ := shN_in n
  have h2 : shN n ≤ 64 := by omega
  go_enter Try.func32, Try.ntmps32
  go_wp2_with fail
  go_region_with (go_at_call 39; refine (shift_any _ _).mono ?_; rintro e w' ⟨rfl, rfl⟩)
  all_goals
    go_wp2
    exact bodyPost_ret (results_sec rfl _ _ _ (a / 2 ^ (shN n).toNat) rfl (by go_simp)) rfl ⟨rfl, rfl⟩

theorem shr_any (a n : Int) (w : World) : Calls Try.prog 32 #[S64 a, .int .i64 n] w fun e w' => e = .returned (S64 (a / 2 ^ (shN n).toNat)) ∧ But Nowhere w w' :=
  (shr_at a n w).mono fun _ _ ⟨he, hw⟩ => ⟨he, hw ▸ (((But.refl _ _).alloc _).alloc _).drew⟩

set_option maxHeartbeats 400000 in
theorem tell_none (a : Int) (w : World) : Calls Try.prog 26 #[S64 a, .pointer none] w fun e w' => e = .returned (.int .i64 a) ∧ But Nowhere w w' := by
  go_enter Try.func26, Try.ntmps26
  go_wp2_with fail
  refine (open_none _).mono ?_
  rintro e w1 ⟨rfl, hb⟩
  have hc := hb.cell (p := ⟨w.heap.size, 0, none⟩) (by simp) (fun f => f)
  rw [World.cell?_alloc_at (hn := by simp)] at hc
  go_wp2
  go_ret
  exact ⟨rfl, ((But.refl _ _).alloc _).step hb (fun _ _ f => f)⟩

set_option maxHeartbeats 400000 in
theorem tell_some (a : Int) (b : Nat) (v : Value) (es : List Ev) (w : World) (h : Rec w b v es) (hl : es.length ≤ 1000000) : Calls Try.prog 26 #[S64 a, .pointer (some ⟨b, 0, none⟩)] w fun e w' => e = .returned (.int .i64 a) ∧ Laid w w' b v (es ++ [(3, 0)]) := by
  have h1 := h.but ((But.refl Nowhere w).alloc (cell1 a)) (fun _ _ f => f)
  go_enter Try.func26, Try.ntmps26
  go_wp2_with fail
  refine (open_some _ _ _ _ h1 hl).mono ?_
  rintro e w1 ⟨rfl, v', hr, ho, hb⟩
  have hc := hb.cell (p := ⟨w.heap.size, 0, none⟩) (by simp) (fun f => by have := h.foot_lt f; simp at this)
  rw [World.cell?_alloc_at (hn := by simp)] at hc
  go_wp2
  go_ret
  exact ⟨rfl, v', hr, ho.imp (fun e => e) (fun e x hx => Nat.le_trans (by simp) (e x hx)), ((But.refl _ _).alloc _).step hb (fun _ _ f => f)⟩

end Go.Proofs.Ytadcfndjbhcfbaa
