/- What Open, Of and From of package buf do. -/
import Derived.Test.YthfdabcknagjoaaBuf2
namespace Go.Proofs.Ythfdabcknagjoaa
open Go.ChangeShapes Go.WideShapes Go.ChangeAt Go.RowKit

/-- From W on only block r and the recorder's may have turned; the cell p of r is there and may be written. -/
def Wrt (W : World) (S : Nat → Prop) (p : Addr) (w : World) : Prop := But (fun k => S k ∨ k = p.block) W w ∧ (∃ u, w.cell? p = some u) ∧ w.frozen? p = false

theorem Wrt.start {W : World} {S : Nat → Prop} {p : Addr} {u : Value} (h : W.cell? p = some u) (hf : W.frozen? p = false) : Wrt W S p W.drew :=
  ⟨(But.refl _ _).drew, ⟨u, by simpa using h⟩, by simpa using hf⟩

theorem Wrt.call {W w w' : World} {S T : Nat → Prop} {p : Addr} (h : Wrt W S p w) (hb : But T w w') (hT : ∀ k, T k → S k) (hn : ¬ T p.block) : Wrt W S p w' := by
  obtain ⟨h0, ⟨u, hu⟩, hf⟩ := h
  exact ⟨h0.step hb (fun _ _ f => .inl (hT _ f)), ⟨u, hb.keeps hn hu⟩, hb.thaws hn hu hf⟩

theorem Wrt.store {W w : World} {S : Nat → Prop} {p : Addr} (h : Wrt W S p w) (v : Value) : Wrt W S p (w.setCell p v) := by
  obtain ⟨h0, ⟨u, hu⟩, hf⟩ := h
  exact ⟨h0.setCell (fun _ => .inr rfl) _, ⟨v, cell_set hu⟩, by simpa using hf⟩

theorem Wrt.cell {W w : World} {S : Nat → Prop} {p q : Addr} {v : Value} (h : Wrt W S p w) (hn : ¬ S q.block) (hp : q.block ≠ p.block) (hc : W.cell? q = some v) : w.cell? q = some v :=
  h.1.keeps (fun f => f.elim hn hp) hc

theorem Wrt.held {W w : World} {S : Nat → Prop} {p : Addr} (h : Wrt W S p w) : w.cell? p = some (held w p) := by
  obtain ⟨_, ⟨u, hu⟩, _⟩ := h
  exact held_of hu

theorem Wrt.thaw {W w : World} {S : Nat → Prop} {p : Addr} (h : Wrt W S p w) : w.frozen? p = false := h.2.2

/-- What a loop that fills the new row G and records on its way has reached. -/
structure Fill (w0 : World) (o : Option Nat) (v : Value) (G : Nat) (t : TypeId) (W : World) (v' : Value) (es : List Ev) (cur : List Int) : Prop where
  rc : RcO W o v' es
  mv : Moved w0 v v'
  off : ¬ FootO o v' G
  row : Row W G t .i64 cur
  new : w0.heap.size ≤ G
  but : But (FootO o v) w0 W

/-- One round: something was recorded, then the cell k of G written. -/
theorem Fill.step {w0 W w3 : World} {o : Option Nat} {v v' v3 : Value} {G : Nat} {t : TypeId} {es fs : List Ev} {cur : List Int} (h : Fill w0 o v G t W v' es cur) (r3 : RcO w3 o v3 fs) (m3 : Moved W v' v3) (b3 : But (FootO o v') W w3) (k : Nat) (n : Int) :
    Fill w0 o v G t (w3.setCell ⟨G, k, none⟩ (.int .i64 n)) v3 fs (cur.set k n) := by
  have n3 : ¬ FootO o v3 G := m3.foot h.row.lt h.off
  have b4 := But.setCell (S := fun x => x = G) (But.refl _ w3) (p := ⟨G, k, none⟩) (fun _ => rfl) (.int .i64 n)
  refine ⟨r3.but b4 (fun k hk e => n3 (by rw [← e]; exact hk)), h.mv.trans h.but.size m3, n3, (h.row.but b3 h.off).set k n, h.new, ?_⟩
  exact (h.but.step b3 (fun i hi f => h.mv.foot_back hi f)).step b4 (fun i hi e => by have := h.new; omega)

theorem Moved.ofDrew {w : World} {v v' : Value} (h : Moved w.drew v v') : Moved w v v' := h

theorem But.ofDrew {S : Nat → Prop} {w w' : World} (h : But S w.drew w') : But S w w' := ⟨h.os, h.tape, h.output, h.size, h.block⟩

theorem Fill.drew {w0 W : World} {o : Option Nat} {v v' : Value} {G : Nat} {t : TypeId} {es : List Ev} {cur : List Int} (h : Fill w0 o v G t W v' es cur) : Fill w0 o v G t W.drew v' es cur :=
  ⟨h.rc.drew, h.mv, h.off, h.row.but (But.refl Nowhere _).drew (not_nowhere _), h.new, h.but.drew⟩

theorem filled (l : List Int) (k : Nat) (h : k < l.length) : (l.take k ++ List.replicate (l.length - k) 0).set k l[k] = l.take (k + 1) ++ List.replicate (l.length - (k + 1)) 0 := by
  rw [List.set_append_right _ _ (by simp; omega), List.length_take, Nat.min_eq_left (by omega), Nat.sub_self, show l.length - k = (l.length - (k + 1)) + 1 by omega, List.replicate_succ, List.set_cons_zero, List.take_succ_eq_append_getElem h, List.append_assoc]
  rfl

theorem filled_all (l : List Int) (k : Nat) (h : l.length ≤ k) : l.take k ++ List.replicate (l.length - k) 0 = l := by
  rw [List.take_of_length_le h, Nat.sub_eq_zero_of_le h]; simp

theorem more_rep (o : Option Nat) (es : List Ev) (k : Nat) : more o (more o es (List.replicate k (3, 0))) [(3, 0)] = more o es (List.replicate (k + 1) (3, 0)) := by
  rw [more_more, List.replicate_succ']

theorem footO_none (v : Value) (k : Nat) : ¬ FootO none v k := fun ⟨_, e, _⟩ => by cases e

theorem get_nil {w : World} {b g : Nat} {l : List Int} (h : Bf w b g none l) (i : Int) : Calls Try.prog 77 #[.pointer (some ⟨b, 0, none⟩), .int .i64 i] w fun e w' => e = .returned (S64 (word l i)) ∧ But Nowhere w w' :=
  (get_o (o := none) (es := []) h (.nil w) (footO_none _ _) (footO_none _ _) (by simp) i).mono fun _ _ ⟨he, _, _, _, hb⟩ => ⟨he, hb.mono (fun _ _ f => (footO_none _ _ f).elim)⟩

theorem set_nil {w : World} {b g : Nat} {l : List Int} (h : Bf w b g none l) (i n : Int) : Calls Try.prog 52 #[.pointer (some ⟨b, 0, none⟩), .int .i64 i, S64 n] w fun e w' => e = .returned (.tuple #[]) ∧ Bf w' b g none (lay l i n) ∧ But (fun k => k = g) w w' :=
  (set_o (o := none) (es := []) h (.nil w) (footO_none _ _) (footO_none _ _) (by simp) i n).mono fun _ _ ⟨he, _, _, _, hf, hb⟩ => ⟨he, hf, hb.mono (fun _ _ f => f.elim (fun q => (footO_none _ _ q).elim) id)⟩

/-- What a loop that lays words into a new buffer has reached. -/
structure Lays4 (w0 : World) (b g : Nat) (r : Option Addr) (W : World) (cur : List Int) : Prop where
  bf : Bf W b g r cur
  newb : w0.heap.size ≤ b
  newg : w0.heap.size ≤ g
  but : But Nowhere w0 W

theorem Lays4.made {w0 W : World} {b g : Nat} {r : Option Addr} {cur : List Int} (h : Lays4 w0 b g r W cur) : Made w0 W b g r cur := ⟨h.bf, h.newb, h.newg, h.but⟩

theorem Lays4.step {w0 W w3 : World} {b g : Nat} {r : Option Addr} {cur : List Int} (h : Lays4 w0 b g r W cur) (b3 : But Nowhere W w3) (k : Nat) (n : Int) : Lays4 w0 b g r (w3.setCell ⟨g, k, none⟩ (.int .i64 n)) (cur.set k n) :=
  ⟨(h.bf.but b3 (not_nowhere _) (not_nowhere _)).set k n, h.newb, h.newg, (h.but.trans b3).setCell (fun q => by exfalso; have := h.newg; simp at q; omega) _⟩

theorem Lays4.drew {w0 W : World} {b g : Nat} {r : Option Addr} {cur : List Int} (h : Lays4 w0 b g r W cur) : Lays4 w0 b g r W.drew cur :=
  ⟨h.bf.but (But.refl Nowhere _).drew (not_nowhere _) (not_nowhere _), h.newb, h.newg, h.but.drew⟩

theorem View.at {w : World} {k : IntKind} {ao : Option Addr} {n cap : Nat} {l : List Int} (h : View w k (.slice ao n cap) l) (i : Nat) (hi : i < l.length) :
    n = l.length ∧ ∃ b off, ao = some ⟨b, off, none⟩ ∧ b < w.heap.size ∧ w.cell? ⟨b, off + i, none⟩ = some (.int k l[i]) := by
  obtain ⟨ao', cap', e, h⟩ := h
  cases e
  obtain ⟨b, off, e, hlt, hc⟩ := h (fun e => by subst e; simp at hi)
  exact ⟨rfl, b, off, e, hlt, hc i hi⟩

theorem View.slice {w : World} {k : IntKind} {v : Value} {l : List Int} (h : View w k v l) : ∃ ao cap, v = .slice ao l.length cap := by
  obtain ⟨ao, cap, e, -⟩ := h
  exact ⟨ao, cap, e⟩

set_option maxHeartbeats 3200000 in
set_option maxRecDepth 100000 in
theorem ofBuf_some {w : World} {r : Option Addr} {v : Value} {l : List Int} (h : View w .i64 v l) (hl : l.length ≤ 1048576) :
    Calls Try.prog 33 #[.pointer r, v] w fun e w' => e = .returned (.pointer (some ⟨w.heap.size + 1, 0, none⟩)) ∧ Made w w' (w.heap.size + 1) w.heap.size r l := by
  obtain ⟨ao, cap, rfl⟩ := h.slice
  go_enter Try.func33, Try.ntmps33
  go_wp2_with fail
  refine (newBuf_some r l.length hl _).mono ?_
  rintro e w1 ⟨rfl, m1⟩
  go_wp2_with fail
  refine (len_some m1.bf).mono ?_
  rintro e w2 ⟨rfl, rfl⟩
  rw [List.length_replicate]
  go_wp2_with fail
  go_loopw [13] (fun i W => ∃ (k : Nat), k ≤ l.length ∧ i = .int .i64 k ∧ Lays4 w (w.heap.size + 1) w.heap.size r W (l.take k ++ List.replicate (l.length - k) 0)) (fun i _ => l.length - (intOf i).toNat)
  case atStart => exact ⟨0, Nat.zero_le _, rfl, by simpa using m1.bf, m1.newb, m1.newg, m1.but⟩
  case round =>
    obtain ⟨k, hk, rfl, F⟩ := hrel
    by_cases hlt : k < l.length
    · obtain ⟨-, sb, off, rfl, hsb, hsc⟩ := (h.but F.but).at k hlt
      have hGl : (l.take k ++ List.replicate (l.length - k) 0).length = l.length := by simp; omega
      have c1 := F.bf.words
      rw [hGl] at c1
      have c4 := F.bf.row.cell k (by omega)
      have c5 := F.bf.row.frozen k
      have i0 : (0 : Int) ≤ (k : Int) := by omega
      have i1 : (k : Int) < (l.length : Int) := by omega
      have F3 := (F.step (But.refl _ _) k l[k])
      rw [filled l k hlt] at F3
      have HF : Hid (Lays4 w (w.heap.size + 1) w.heap.size r (wr.setCell ⟨w.heap.size, k, none⟩ (.int .i64 l[k])) (l.take (k + 1) ++ List.replicate (l.length - (k + 1)) 0)) := F3
      clear F3 F m1
      go_wp2_with fail
      go_region
      all_goals
        go_wp2_with fail
        go_roundw
        case rel => exact ⟨k + 1, by omega, by go_num, HF.out.drew⟩
        case measure => simp [intOf]; omega
    · obtain rfl : k = l.length := by omega
      rw [filled_all l _ (Nat.le_refl _)] at F
      go_wp2_with fail
      go_ret
      exact ⟨rfl, F.made⟩

theorem small_int (l : List Int) (h : ∀ x ∈ l, 0 ≤ x ∧ x ≤ 255) (k : Nat) (hk : k < l.length) : IntKind.i64.wrap l[k] = l[k] := by
  have := h l[k] (List.getElem_mem hk)
  rw [wrap_i64_eq]
  exact w64 _ (by omega)

end Go.Proofs.Ythfdabcknagjoaa
