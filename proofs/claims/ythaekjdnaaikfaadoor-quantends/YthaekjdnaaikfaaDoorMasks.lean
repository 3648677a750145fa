/- What Less, Equal, Select, Abs and Clip of package sec reckon, for every number; of old memory nothing turns. -/
import Derived.Test.YthaekjdnaaikfaaDoorSec
import Derived.Deep.RegionHeld3
namespace Go.Proofs.YthaekjdnaaikfaaDoor
open Go.ChangeShapes Go.WideShapes Go.ChangeAt Go.RowKit

theorem cell_lt {w : World} {p : Addr} {v : Value} (h : w.cell? p = some v) : p.block < w.heap.size := by
  have := World.new_ne w p h
  rcases Nat.lt_or_ge p.block w.heap.size with hl | hl
  · exact hl
  · exfalso
    have hn : w.heap[p.block]? = none := Array.getElem?_eq_none hl
    simp [World.cell?, hn] at h

theorem But.keeps {S : Nat → Prop} {w w' : World} {p : Addr} {v : Value} (hb : But S w w') (hs : ¬ S p.block) (h : w.cell? p = some v) : w'.cell? p = some v :=
  (hb.cell (cell_lt h) hs).trans h

theorem But.thaws {S : Nat → Prop} {w w' : World} {p : Addr} {v : Value} (hb : But S w w') (hs : ¬ S p.block) (h : w.cell? p = some v) (hf : w.frozen? p = false) : w'.frozen? p = false :=
  (hb.frozen (cell_lt h) hs).trans hf

theorem and_of {p q : Prop} (h : p → q) (hp : p) : p ∧ q := ⟨hp, h hp⟩

theorem and_of3 {p q r : Prop} (hp : p) (hq : q) (hr : r) : p ∧ q ∧ r := ⟨hp, hq, hr⟩

theorem But.ofEq {S : Nat → Prop} {w w' : World} (h : w' = w) : But S w w' := h ▸ But.refl _ _

theorem not_nowhere (k : Nat) : ¬ Nowhere k := fun f => f

theorem But.fresh {w w' : World} (hb : But Nowhere (w.alloc (.cells #[.int .i64 0] 36)) w') : (w'.cell? ⟨w.heap.size, 0, none⟩ = some (.int .i64 0) ∧ w'.frozen? ⟨w.heap.size, 0, none⟩ = false) ∧ w.heap.size ≤ w'.heap.size :=
  ⟨⟨hb.keeps (not_nowhere _) (by go_simp), hb.thaws (v := .int .i64 0) (not_nowhere _) (by go_simp) (by go_simp)⟩, Nat.le_trans (by simp) hb.size⟩

theorem But.freshD {w w' : World} (hb : But Nowhere (w.alloc (.cells #[.int .i64 0] 36)).drew w') : (w'.cell? ⟨w.heap.size, 0, none⟩ = some (.int .i64 0) ∧ w'.frozen? ⟨w.heap.size, 0, none⟩ = false) ∧ w.heap.size ≤ w'.heap.size :=
  ⟨⟨hb.keeps (not_nowhere _) (by go_simp), hb.thaws (v := .int .i64 0) (not_nowhere _) (by go_simp) (by go_simp)⟩, Nat.le_trans (by simp) hb.size⟩

theorem But.both {w w' : World} {p : Addr} {v : Value} (hb : But Nowhere w w') (h : w.cell? p = some v) (hf : w.frozen? p = false) : (w'.cell? p = some v ∧ w'.frozen? p = false) ∧ w.heap.size ≤ w'.heap.size :=
  ⟨⟨hb.keeps (not_nowhere _) h, hb.thaws (not_nowhere _) h hf⟩, hb.size⟩

theorem cell_set {w : World} {p : Addr} {v u : Value} (h : w.cell? p = some v) : (w.setCell p u).cell? p = some u := by go_simp

theorem But.sizeD {S : Nat → Prop} {w w' : World} (hb : But S w.drew w') : w.heap.size ≤ w'.heap.size := hb.size

/-- What Less reckons. -/
def lessF (a b : Int) : Int := bits .xor .i64 (wrap64 (a - b)) (bits .and .i64 (bits .xor .i64 a b) (bits .xor .i64 a (wrap64 (a - b)))) / 2 ^ (shN 63).toNat

set_option maxHeartbeats 3200000 in
set_option maxRecDepth 100000 in
theorem less_raw (a b : Int) (w : World) : Calls Tryd.prog 51 #[S64 a, S64 b] w fun e w' => e = .returned (S64 (lessF a b)) ∧ But Nowhere w w' := by
  unfold lessF
  generalize hd : wrap64 (a - b) = d
  have hsub := sub_any a b
  rw [hd] at hsub
  clear hd
  have Hsub : Hid (∀ w, Calls Tryd.prog 60 #[S64 a, S64 b] w fun e w' => e = .returned (S64 d) ∧ But Nowhere w w') := hsub
  clear hsub
  go_enter Tryd.func51, Tryd.ntmps51
  go_wp2_with fail
  refine (Hsub.out _).mono ?_
  rintro e w1 ⟨rfl, h1⟩
  clear Hsub
  have hA := h1.keeps (p := ⟨w.heap.size, 0, none⟩) (v := .int .i64 a) (not_nowhere _) (by go_simp)
  have hB := h1.keeps (p := ⟨w.heap.size + 1, 0, none⟩) (v := .int .i64 b) (not_nowhere _) (by go_simp)
  have hR := h1.keeps (p := ⟨w.heap.size + 1 + 1, 0, none⟩) (v := .int .i64 0) (not_nowhere _) (by go_simp)
  have hF := h1.thaws (p := ⟨w.heap.size + 1 + 1, 0, none⟩) (v := .int .i64 0) (not_nowhere _) (by go_simp) (by go_simp)
  have h0 : But Nowhere w w1 := ((((But.refl Nowhere w).alloc (cell1 a)).alloc (cell1 b)).alloc (cell1 0)).step h1 (fun _ _ f => f)
  clear h1
  go_wp2_with fail
  have g0 : But Nowhere w (w1.alloc (.cells #[.int .i64 d] 36)) := h0.alloc _
  have hb := (But.refl Nowhere w1).alloc (.cells #[.int .i64 d] 36)
  have kA := hb.keeps (not_nowhere _) hA
  have kB := hb.keeps (not_nowhere _) hB
  have kR := hb.keeps (not_nowhere _) hR
  have kF := hb.thaws (not_nowhere _) hR hF
  have kD : (w1.alloc (.cells #[.int .i64 d] 36)).cell? ⟨w1.heap.size, 0, none⟩ = some (.int .i64 d) := by go_simp
  clear hb hA hB hR hF h0
  revert g0 kA kB kR kF kD
  generalize w1.heap.size = t
  generalize w1.alloc (.cells #[.int .i64 d] 36) = W
  intro g0 kA kB kR kF kD
  clear w1
  go_region_held3 (fun w' => But Nowhere W w' ∧ w'.cell? ⟨w.heap.size, 0, none⟩ = some (.int .i64 a) ∧ w'.cell? ⟨w.heap.size + 1, 0, none⟩ = some (.int .i64 b) ∧ w'.cell? ⟨t, 0, none⟩ = some (.int .i64 d))
    ((go_split_ands; refine and_of (fun hq => ⟨hq.keeps (not_nowhere _) kA, hq.keeps (not_nowhere _) kB, hq.keeps (not_nowhere _) kD⟩) ?_; first | exact (But.refl _ _).drew | (refine But.step ?_ hb (fun _ _ f => f); assumption) | (refine But.alloc ?_ _; assumption) | (refine But.setCell ?_ ?_ _; assumption; intro q; exfalso; first | (simp at q; done) | (simp at q; omega)) | (refine But.alloc ?_ _; repeat (first | exact (But.refl _ _).drew | refine But.step ?_ (by assumption) (fun _ _ f => f))) | (refine But.drew ?_; refine But.alloc ?_ _; exact But.refl _ _)))
    (first | (go_at_call 61; refine (xor_any _ _ _).mono ?_; rintro e w' ⟨rfl, hb⟩; first | (have hx := But.freshD hb; obtain ⟨⟨hn, hf⟩, hz⟩ := hx) | (have hx := But.fresh hb; obtain ⟨⟨hn, hf⟩, hz⟩ := hx) | (have hx := But.both hb hn hf; obtain ⟨⟨hn, hf⟩, hz⟩ := hx) | have hz := But.sizeD hb | have hz := hb.size) | (go_at_call 62; refine (and_any _ _ _).mono ?_; rintro e w' ⟨rfl, hb⟩; first | (have hx := But.freshD hb; obtain ⟨⟨hn, hf⟩, hz⟩ := hx) | (have hx := But.fresh hb; obtain ⟨⟨hn, hf⟩, hz⟩ := hx) | (have hx := But.both hb hn hf; obtain ⟨⟨hn, hf⟩, hz⟩ := hx) | have hz := But.sizeD hb | have hz := hb.size))
  all_goals
    rename_i hh
    obtain ⟨q0, -, -, q3⟩ := hh
    have qR := q0.keeps (not_nowhere _) kR
    have qF := q0.thaws (not_nowhere _) kR kF
    have g1 := g0.trans q0
    clear q0
    try clear hb
    go_wp2_with fail
    refine (xor_any _ _ _).mono ?_
    rintro e w8 ⟨rfl, h8⟩
    have pR := h8.keeps (not_nowhere _) qR
    have pF := h8.thaws (not_nowhere _) qR qF
    have g2 := g1.trans h8
    clear q3 qR qF h8 g1
    go_wp2_with fail
    refine (shr_any _ _ _).mono ?_
    rintro e w9 ⟨rfl, h9⟩
    have qR := h9.keeps (not_nowhere _) pR
    have qF := h9.thaws (not_nowhere _) pR pF
    have g3 := g2.trans h9
    clear pR pF h9 g2
    go_wp2_with fail
    exact bodyPost_ret (results_sec rfl _ _ _ _ rfl (cell_set qR)) rfl ⟨rfl, g3.setCell (fun q => by exfalso; simp at q; omega) _⟩

/-- What a cell holds. -/
def held (w : World) (p : Addr) : Value := (w.cell? p).getD undef

theorem held_of {w : World} {p : Addr} {v : Value} (h : w.cell? p = some v) : w.cell? p = some (held w p) := by simp [held, h]

theorem cell_set_of {w : World} {p : Addr} {v u : Value} (h : (w.setCell p v).cell? p = some u) : (w.setCell p v).cell? p = some v := by
  cases hc : w.cell? p with
  | some x => exact cell_set hc
  | none =>
    exfalso
    rcases hb : w.heap[p.block]? with _ | o
    · simp [World.cell?, World.setCell, Array.getElem?_modify, hb] at h
    · simp [World.cell?, World.setCell, Array.getElem?_modify, hb] at h hc
      cases o <;> simp_all

/-- From W on only block r may have turned; its cell is there and may be written. -/
def Frm (W : World) (r : Nat) (w : World) : Prop := But (fun k => k = r) W w ∧ (∃ u, w.cell? ⟨r, 0, none⟩ = some u) ∧ w.frozen? ⟨r, 0, none⟩ = false

theorem Frm.start {W : World} {r : Nat} {u : Value} (h : W.cell? ⟨r, 0, none⟩ = some u) (hf : W.frozen? ⟨r, 0, none⟩ = false) : Frm W r W.drew :=
  ⟨(But.refl _ _).drew, ⟨u, by simpa using h⟩, by simpa using hf⟩

theorem Frm.call {W w w' : World} {r : Nat} (h : Frm W r w) (hb : But Nowhere w w') : Frm W r w' := by
  obtain ⟨h0, ⟨u, hu⟩, hf⟩ := h
  exact ⟨h0.step hb (fun _ _ f => f.elim), ⟨u, hb.keeps (not_nowhere _) hu⟩, hb.thaws (not_nowhere _) hu hf⟩

theorem Frm.store {W w : World} {r : Nat} (h : Frm W r w) (v : Value) : Frm W r (w.setCell ⟨r, 0, none⟩ v) := by
  obtain ⟨h0, ⟨u, hu⟩, hf⟩ := h
  exact ⟨h0.setCell (fun _ => rfl) _, ⟨v, cell_set hu⟩, by simpa using hf⟩

theorem Frm.cell {W w : World} {r : Nat} {p : Addr} {v : Value} (h : Frm W r w) (hn : p.block ≠ r) (hc : W.cell? p = some v) : w.cell? p = some v := h.1.keeps hn hc

theorem Frm.held {W w : World} {r : Nat} (h : Frm W r w) : w.cell? ⟨r, 0, none⟩ = some (held w ⟨r, 0, none⟩) := by
  obtain ⟨_, ⟨u, hu⟩, _⟩ := h
  exact held_of hu

theorem Frm.thaw {W w : World} {r : Nat} (h : Frm W r w) : w.frozen? ⟨r, 0, none⟩ = false := h.2.2

theorem Frm.got {W w : World} {r : Nat} {v : Value} (h : Frm W r (w.setCell ⟨r, 0, none⟩ v)) : (w.setCell ⟨r, 0, none⟩ v).cell? ⟨r, 0, none⟩ = some v := by
  obtain ⟨_, ⟨u, hu⟩, _⟩ := h
  exact cell_set_of hu

theorem Frm.out {w0 W w : World} {r : Nat} (h : Frm W r w) (h0 : But Nowhere w0 W) (hr : w0.heap.size ≤ r) : But Nowhere w0 w := h0.step h.1 (fun i hi e => by omega)

/-- What Select reckons. -/
def selF (m a b : Int) : Int := bits .xor .i64 b (bits .and .i64 m (bits .xor .i64 a b))

set_option maxHeartbeats 3200000 in
set_option maxRecDepth 100000 in
theorem select_any (m a b : Int) (w : World) : Calls Tryd.prog 52 #[S64 m, S64 a, S64 b] w fun e w' => e = .returned (S64 (selF m a b)) ∧ But Nowhere w w' := by
  unfold selF
  have kM : ((((w.alloc (.cells #[.int .i64 m] 36)).alloc (.cells #[.int .i64 a] 36)).alloc (.cells #[.int .i64 b] 36)).alloc (.cells #[.int .i64 0] 36)).cell? ⟨w.heap.size, 0, none⟩ = some (.int .i64 m) := by go_simp
  have kA : ((((w.alloc (.cells #[.int .i64 m] 36)).alloc (.cells #[.int .i64 a] 36)).alloc (.cells #[.int .i64 b] 36)).alloc (.cells #[.int .i64 0] 36)).cell? ⟨w.heap.size + 1, 0, none⟩ = some (.int .i64 a) := by go_simp
  have kB : ((((w.alloc (.cells #[.int .i64 m] 36)).alloc (.cells #[.int .i64 a] 36)).alloc (.cells #[.int .i64 b] 36)).alloc (.cells #[.int .i64 0] 36)).cell? ⟨w.heap.size + 1 + 1, 0, none⟩ = some (.int .i64 b) := by go_simp
  have kR : ((((w.alloc (.cells #[.int .i64 m] 36)).alloc (.cells #[.int .i64 a] 36)).alloc (.cells #[.int .i64 b] 36)).alloc (.cells #[.int .i64 0] 36)).cell? ⟨w.heap.size + 1 + 1 + 1, 0, none⟩ = some (.int .i64 0) := by go_simp
  have kF : ((((w.alloc (.cells #[.int .i64 m] 36)).alloc (.cells #[.int .i64 a] 36)).alloc (.cells #[.int .i64 b] 36)).alloc (.cells #[.int .i64 0] 36)).frozen? ⟨w.heap.size + 1 + 1 + 1, 0, none⟩ = false := by go_simp
  have g0 : But Nowhere w ((((w.alloc (.cells #[.int .i64 m] 36)).alloc (.cells #[.int .i64 a] 36)).alloc (.cells #[.int .i64 b] 36)).alloc (.cells #[.int .i64 0] 36)) := ((((But.refl _ _).alloc _).alloc _).alloc _).alloc _
  go_enter Tryd.func52, Tryd.ntmps52
  go_wp2_with fail
  revert kM kA kB kR kF g0
  generalize (((w.alloc (.cells #[.int .i64 m] 36)).alloc (.cells #[.int .i64 a] 36)).alloc (.cells #[.int .i64 b] 36)).alloc (.cells #[.int .i64 0] 36) = W
  intro kM kA kB kR kF g0
  go_region_held3 (fun w' => Frm W (w.heap.size + 1 + 1 + 1) w' ∧ w'.cell? ⟨w.heap.size, 0, none⟩ = some (.int .i64 m) ∧ w'.cell? ⟨w.heap.size + 1, 0, none⟩ = some (.int .i64 a) ∧ w'.cell? ⟨w.heap.size + 1 + 1, 0, none⟩ = some (.int .i64 b) ∧ w'.cell? ⟨w.heap.size + 1 + 1 + 1, 0, none⟩ = some (held w' ⟨w.heap.size + 1 + 1 + 1, 0, none⟩) ∧ w'.frozen? ⟨w.heap.size + 1 + 1 + 1, 0, none⟩ = false)
    ((go_split_ands; refine and_of (fun hq => ⟨hq.cell (by simp; try omega) kM, hq.cell (by simp; try omega) kA, hq.cell (by simp; try omega) kB, hq.held, hq.thaw⟩) ?_; first | exact Frm.start kR kF | (refine Frm.call ?_ hb; assumption) | (refine Frm.store ?_ _; assumption)))
    (first | (go_at_call 61; refine (xor_any _ _ _).mono ?_; rintro e w' ⟨rfl, hb⟩) | (go_at_call 62; refine (and_any _ _ _).mono ?_; rintro e w' ⟨rfl, hb⟩))
  all_goals
    rename_i hh
    obtain ⟨q0, -⟩ := hh
    go_wp2_with fail
    exact bodyPost_ret (results_sec rfl _ _ _ _ rfl q0.got) rfl ⟨rfl, q0.out g0 (by omega)⟩

/-- What Equal reckons. -/
def equalF (a b : Int) : Int := bits .xor .i64 (-1) (bits .or .i64 (bits .xor .i64 a b) (wrap64 (-bits .xor .i64 a b)) / 2 ^ (shN 63).toNat)

/-- What Abs reckons. -/
def absR (a : Int) : Int := selF (lessF a 0) (wrap64 (-a)) a

set_option maxHeartbeats 3200000 in
set_option maxRecDepth 100000 in
theorem abs_raw (a : Int) (w : World) : Calls Tryd.prog 54 #[S64 a] w fun e w' => e = .returned (S64 (absR a)) ∧ But Nowhere w w' := by
  unfold absR
  have kA : ((w.alloc (.cells #[.int .i64 a] 36)).alloc (.cells #[.int .i64 0] 36)).cell? ⟨w.heap.size, 0, none⟩ = some (.int .i64 a) := by go_simp
  have kR : ((w.alloc (.cells #[.int .i64 a] 36)).alloc (.cells #[.int .i64 0] 36)).cell? ⟨w.heap.size + 1, 0, none⟩ = some (.int .i64 0) := by go_simp
  have kF : ((w.alloc (.cells #[.int .i64 a] 36)).alloc (.cells #[.int .i64 0] 36)).frozen? ⟨w.heap.size + 1, 0, none⟩ = false := by go_simp
  have g0 : But Nowhere w ((w.alloc (.cells #[.int .i64 a] 36)).alloc (.cells #[.int .i64 0] 36)) := ((But.refl _ _).alloc _).alloc _
  go_enter Tryd.func54, Tryd.ntmps54
  go_wp2_with fail
  revert kA kR kF g0
  generalize (w.alloc (.cells #[.int .i64 a] 36)).alloc (.cells #[.int .i64 0] 36) = W
  intro kA kR kF g0
  go_region_held3 (fun w' => Frm W (w.heap.size + 1) w' ∧ w'.cell? ⟨w.heap.size, 0, none⟩ = some (.int .i64 a) ∧ w'.cell? ⟨w.heap.size + 1, 0, none⟩ = some (held w' ⟨w.heap.size + 1, 0, none⟩) ∧ w'.frozen? ⟨w.heap.size + 1, 0, none⟩ = false)
    ((go_split_ands; refine and_of (fun hq => ⟨hq.cell (by simp; try omega) kA, hq.held, hq.thaw⟩) ?_; first | exact Frm.start kR kF | (refine Frm.call ?_ hb; assumption) | (refine Frm.store ?_ _; assumption)))
    (first | (go_at_call 35; refine (of_any _ _).mono ?_; rintro e w' ⟨rfl, hb⟩) | (go_at_call 51; refine (less_raw _ _ _).mono ?_; rintro e w' ⟨rfl, hb⟩) | (go_at_call 56; refine (neg_any _ _).mono ?_; rintro e w' ⟨rfl, hb⟩) | (go_at_call 52; refine (select_any _ _ _ _).mono ?_; rintro e w' ⟨rfl, hb⟩))
  all_goals
    rename_i hh
    obtain ⟨q0, -⟩ := hh
    go_wp2_with fail
    exact bodyPost_ret (results_sec rfl _ _ _ _ rfl q0.got) rfl ⟨rfl, q0.out g0 (by omega)⟩

/-- What Clip reckons. -/
def clipR (a lo hi : Int) : Int := selF (lessF a lo) lo (selF (lessF hi a) hi a)

set_option maxHeartbeats 3200000 in
set_option maxRecDepth 100000 in
theorem clip_raw (a lo hi : Int) (w : World) : Calls Tryd.prog 46 #[S64 a, .int .i64 lo, .int .i64 hi] w fun e w' => e = .returned (S64 (clipR a lo hi)) ∧ But Nowhere w w' := by
  unfold clipR
  go_enter Tryd.func46, Tryd.ntmps46
  go_wp2_with (go_at_call 35; refine (of_at _ _).mono ?_; rintro e w' ⟨rfl, rfl⟩)
  have kA : ((((((w.alloc (.cells #[.int .i64 a] 36)).alloc (.cells #[.int .i64 0] 36)).alloc (cell1 lo)).alloc (cell1 hi)).alloc (.cells #[.int .i64 lo] 36)).alloc (.cells #[.int .i64 hi] 36)).cell? ⟨w.heap.size, 0, none⟩ = some (.int .i64 a) := by go_simp
  have kR : ((((((w.alloc (.cells #[.int .i64 a] 36)).alloc (.cells #[.int .i64 0] 36)).alloc (cell1 lo)).alloc (cell1 hi)).alloc (.cells #[.int .i64 lo] 36)).alloc (.cells #[.int .i64 hi] 36)).cell? ⟨w.heap.size + 1, 0, none⟩ = some (.int .i64 0) := by go_simp
  have kF : ((((((w.alloc (.cells #[.int .i64 a] 36)).alloc (.cells #[.int .i64 0] 36)).alloc (cell1 lo)).alloc (cell1 hi)).alloc (.cells #[.int .i64 lo] 36)).alloc (.cells #[.int .i64 hi] 36)).frozen? ⟨w.heap.size + 1, 0, none⟩ = false := by go_simp
  have kL : ((((((w.alloc (.cells #[.int .i64 a] 36)).alloc (.cells #[.int .i64 0] 36)).alloc (cell1 lo)).alloc (cell1 hi)).alloc (.cells #[.int .i64 lo] 36)).alloc (.cells #[.int .i64 hi] 36)).cell? ⟨w.heap.size + 1 + 1 + 1 + 1, 0, none⟩ = some (.int .i64 lo) := by go_simp
  have kH : ((((((w.alloc (.cells #[.int .i64 a] 36)).alloc (.cells #[.int .i64 0] 36)).alloc (cell1 lo)).alloc (cell1 hi)).alloc (.cells #[.int .i64 lo] 36)).alloc (.cells #[.int .i64 hi] 36)).cell? ⟨w.heap.size + 1 + 1 + 1 + 1 + 1, 0, none⟩ = some (.int .i64 hi) := by go_simp
  have g0 : But Nowhere w ((((((w.alloc (.cells #[.int .i64 a] 36)).alloc (.cells #[.int .i64 0] 36)).alloc (cell1 lo)).alloc (cell1 hi)).alloc (.cells #[.int .i64 lo] 36)).alloc (.cells #[.int .i64 hi] 36)) := ((((((But.refl _ _).alloc _).alloc _).alloc _).alloc _).alloc _).alloc _
  revert kA kR kF kL kH g0
  generalize (((((w.alloc (.cells #[.int .i64 a] 36)).alloc (.cells #[.int .i64 0] 36)).alloc (cell1 lo)).alloc (cell1 hi)).alloc (.cells #[.int .i64 lo] 36)).alloc (.cells #[.int .i64 hi] 36) = V
  intro kA kR kF kL kH g0
  go_region
  go_wp2_with fail
  have cA : V.drew.cell? ⟨w.heap.size, 0, none⟩ = some (.int .i64 a) := kA
  have cR : V.drew.cell? ⟨w.heap.size + 1, 0, none⟩ = some (.int .i64 0) := kR
  have cF : V.drew.frozen? ⟨w.heap.size + 1, 0, none⟩ = false := kF
  have cL : V.drew.cell? ⟨w.heap.size + 1 + 1 + 1 + 1, 0, none⟩ = some (.int .i64 lo) := kL
  have cH : V.drew.cell? ⟨w.heap.size + 1 + 1 + 1 + 1 + 1, 0, none⟩ = some (.int .i64 hi) := kH
  have c0 : But Nowhere w V.drew := g0.drew
  clear kA kR kF kL kH g0
  revert cA cR cF cL cH c0
  generalize V.drew = W
  intro kA kR kF kL kH g0
  go_region_held3 (fun w' => Frm W (w.heap.size + 1) w' ∧ w'.cell? ⟨w.heap.size, 0, none⟩ = some (.int .i64 a) ∧ w'.cell? ⟨w.heap.size + 1 + 1 + 1 + 1, 0, none⟩ = some (.int .i64 lo) ∧ w'.cell? ⟨w.heap.size + 1 + 1 + 1 + 1 + 1, 0, none⟩ = some (.int .i64 hi) ∧ w'.cell? ⟨w.heap.size + 1, 0, none⟩ = some (held w' ⟨w.heap.size + 1, 0, none⟩) ∧ w'.frozen? ⟨w.heap.size + 1, 0, none⟩ = false)
    ((go_split_ands; refine and_of (fun hq => ⟨hq.cell (by simp; try omega) kA, hq.cell (by simp; try omega) kL, hq.cell (by simp; try omega) kH, hq.held, hq.thaw⟩) ?_; first | exact Frm.start kR kF | (refine Frm.call ?_ hb; assumption) | (refine Frm.store ?_ _; assumption)))
    (first | (go_at_call 51; refine (less_raw _ _ _).mono ?_; rintro e w' ⟨rfl, hb⟩) | (go_at_call 52; refine (select_any _ _ _ _).mono ?_; rintro e w' ⟨rfl, hb⟩))
  all_goals
    rename_i hh
    obtain ⟨q0, -⟩ := hh
    go_wp2_with fail
    exact bodyPost_ret (results_sec rfl _ _ _ _ rfl q0.got) rfl ⟨rfl, q0.out g0 (by omega)⟩

end Go.Proofs.YthaekjdnaaikfaaDoor
