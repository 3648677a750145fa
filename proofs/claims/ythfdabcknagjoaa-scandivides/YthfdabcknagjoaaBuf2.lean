/- What Set, Words, Open, Of and From of package buf do, and what a buffer that is none answers. -/
import Derived.Test.YthfdabcknagjoaaBuf
import Derived.Deep.RegionHeld3
namespace Go.Proofs.Ythfdabcknagjoaa
open Go.ChangeShapes Go.WideShapes Go.ChangeAt Go.RowKit

set_option maxHeartbeats 400000 in
theorem get_none (i : Int) (w : World) : Calls Try.prog 77 #[.pointer none, .int .i64 i] w fun e w' => e = .returned (S64 0) ∧ But Nowhere w w' := by
  have b1 := (But.refl Nowhere w).alloc (.cells #[.int .i64 0] 29)
  go_enter Try.func77, Try.ntmps77
  go_wp2_with fail
  refine (has_none _ _).mono ?_
  rintro e w' ⟨rfl, rfl⟩
  go_wp2_with fail
  refine (of_any _ _).mono ?_
  rintro e w2 ⟨rfl, b2⟩
  have kR := b2.keeps (p := ⟨w.heap.size, 0, none⟩) (v := .int .i64 0) (not_nowhere _) (by go_simp)
  have fR := b2.thaws (p := ⟨w.heap.size, 0, none⟩) (v := .int .i64 0) (not_nowhere _) (by go_simp) (by go_simp)
  go_wp2_with fail
  refine bodyPost_ret (results_sec rfl _ _ _ 0 rfl (cell_set kR)) rfl ⟨rfl, ?_⟩
  exact (b1.trans b2).setCell (fun q => by exfalso; simp at q) _

set_option maxHeartbeats 400000 in
theorem set_none (i n : Int) (w : World) : Calls Try.prog 52 #[.pointer none, .int .i64 i, S64 n] w fun e w' => e = .returned (.tuple #[]) ∧ But Nowhere w w' := by
  go_enter Try.func52, Try.ntmps52
  go_wp2_with fail
  refine (has_none _ _).mono ?_
  rintro e w' ⟨rfl, rfl⟩
  go_wp2_with fail
  exact bodyPost_ret (results_none rfl _ _ _) rfl ⟨rfl, (But.refl _ _).alloc _⟩

/-- What Set leaves. -/
def SetO (w w' : World) (b g : Nat) (o : Option Nat) (v : Value) (es : List Ev) (l : List Int) : Prop :=
  ∃ v', RcO w' o v' es ∧ Moved w v v' ∧ Bf w' b g (ptr o) l ∧ But (fun k => FootO o v k ∨ k = g) w w'

theorem RcO.drew {w : World} {o : Option Nat} {v : Value} {es : List Ev} (h : RcO w o v es) : RcO w.drew o v es := h.but (But.refl Nowhere w).drew (fun _ _ f => f)

theorem SetO.drew {w w' : World} {b g : Nat} {o : Option Nat} {v : Value} {es : List Ev} {l : List Int} (h : SetO w w' b g o v es l) : SetO w w'.drew b g o v es l := by
  obtain ⟨v', h1, h2, h3, h4⟩ := h
  exact ⟨v', h1.drew, h2, h3.but (But.refl Nowhere _).drew (not_nowhere _) (not_nowhere _), h4.drew⟩

set_option maxHeartbeats 800000 in
set_option maxRecDepth 100000 in
theorem set_o {w : World} {b g : Nat} {o : Option Nat} {v : Value} {es : List Ev} {l : List Int} (h : Bf w b g (ptr o) l) (hr : RcO w o v es) (hb : ¬ FootO o v b) (hg : ¬ FootO o v g) (hl : es.length ≤ 1000000) (i n : Int) :
    Calls Try.prog 52 #[.pointer (some ⟨b, 0, none⟩), .int .i64 i, S64 n] w fun e w' => e = .returned (.tuple #[]) ∧ SetO w w' b g o v (more o es (seenAt l i)) (lay l i n) := by
  by_cases hin : 0 ≤ i ∧ i < l.length
  · obtain ⟨h0, h1⟩ := hin
    obtain ⟨k, rfl⟩ : ∃ k : Nat, i = (k : Int) := ⟨i.toNat, by omega⟩
    have hk : k < l.length := by omega
    rw [seenAt_in l _ h0 h1, lay_at]
    have b1 := (But.refl Nowhere w).alloc (.cells #[.int .i64 n] 29)
    have H1 := h.but b1 (not_nowhere _) (not_nowhere _)
    have R1 := hr.but b1 (fun _ _ f => f)
    have hc := H1.words
    have hrc := H1.rcd
    go_enter Try.func52, Try.ntmps52
    go_wp2_with fail
    refine (has_yes H1 _ h0 h1).mono ?_
    rintro e w' ⟨rfl, rfl⟩
    go_wp2_with fail
    refine (idx_o o v es _ _ R1 hl).mono ?_
    rintro e w2 ⟨rfl, v', r2, m2, b2⟩
    have H2 := H1.but b2 hb hg
    have c1 := H2.words
    have c2 := H2.row.cell k hk
    have f2 := H2.row.frozen k
    have kS := b2.keeps (p := ⟨w.heap.size, 0, none⟩) (v := .int .i64 n) (fun f => by have := hr.foot_lt f; simp at this) (by go_simp)
    have ng : ¬ FootO o v' g := m2.foot H1.row.lt hg
    have hfin : SetO w (w2.setCell ⟨g, k, none⟩ (.int .i64 n)) b g o v (more o es [((1 : Int), (k : Int))]) (l.set k n) := by
      have b3 := But.setCell (S := fun x => x = g) (But.refl _ w2) (p := ⟨g, k, none⟩) (fun _ => rfl) (.int .i64 n)
      refine ⟨v', r2.but b3 (fun k hk e => ng (by rw [← e]; exact hk)), m2.imp id (fun e x hx => Nat.le_trans b1.size (e x hx)), H2.set k n, ?_⟩
      exact ((b1.mono (fun _ _ f => f.elim)).step b2 (fun _ _ f => .inl f)).step b3 (fun _ _ f => .inr f)
    have HF : Hid (SetO w (w2.setCell ⟨g, k, none⟩ (.int .i64 n)) b g o v (more o es [((1 : Int), (k : Int))]) (l.set k n)) := hfin
    clear hfin H2 H1 h hr b1 b2 r2 m2 R1 hc hrc hb hg hl ng
    go_wp2_with fail
    go_region
    all_goals
      go_wp2_with fail
      go_end0
      exact ⟨rfl, HF.out.drew⟩
  · have hout : i < 0 ∨ l.length ≤ i := by omega
    rw [seenAt_out l i hout, lay_out l i n hout, more_nil]
    have b1 := (But.refl Nowhere w).alloc (.cells #[.int .i64 n] 29)
    have H1 := h.but b1 (not_nowhere _) (not_nowhere _)
    clear hin
    go_enter Try.func52, Try.ntmps52
    go_wp2_with fail
    refine (has_no H1 _ hout).mono ?_
    rintro e w' ⟨rfl, rfl⟩
    go_wp2_with fail
    exact bodyPost_ret (results_none rfl _ _ _) rfl ⟨rfl, v, hr.but b1 (fun _ _ f => f), .refl _ _, H1, b1.mono (fun _ _ f => f.elim)⟩

theorem copy_row {w : World} {k g : Nat} {l m : List Int} (hk : Row w k 29 .i64 m) (hg : Row w g 29 .i64 l) (hm : m.length = l.length) :
    ∃ w', (Builtin.copy_ #[58, 58] 3 #[.slice (some ⟨k, 0, none⟩) l.length l.length, .slice (some ⟨g, 0, none⟩) l.length l.length]).run Try.prog w = .ok (.int .i64 l.length) w' ∧ Row w' k 29 .i64 l ∧ But (fun x => x = k) w w' := by
  have hr := run_copy_row (P := Try.prog) w 58 58 3 29 k 0 l.length l.length ⟨g, 0, none⟩ l.length l.length (ints .i64 m).toArray 29 (ints .i64 l) Try.underlying58 Try.infoSec hk (by simp [ints_length])
    (fun j u hj => by
      have hl := (List.getElem?_eq_some_iff.1 hj).1
      rw [ints_length] at hl
      rw [ints_at _ _ _ hl] at hj
      rw [← hj, Addr.add_lit]
      simpa using hg.cell j hl) (by simp [ints_length, hm]) (ints_one _ _)
  have e : (ints .i64 m).toArray.toList.take 0 ++ ints .i64 l ++ (ints .i64 m).toArray.toList.drop (0 + (ints .i64 l).length) = ints .i64 l := by
    rw [List.take_zero, List.nil_append, List.drop_of_length_le (by simp [ints_length, hm]), List.append_nil]
  rw [e, ints_length] at hr
  refine ⟨_, hr, ?_, ⟨rfl, rfl, rfl, by simp [World.setRow], fun x _ hx => setRow_other w k x _ hx⟩⟩
  exact setRow_heap w k _ _ _ _ hk

theorem copy_nothing (w : World) (k : Nat) : (Builtin.copy_ #[58, 58] 3 #[.slice (some ⟨k, 0, none⟩) 0 0, .slice none 0 0]).run Try.prog w = .ok (.int .i64 0) w :=
  run_copy_none w _ _ _ 29 _ _ _ _ _ _ Try.underlying58 Try.infoSec rfl

set_option maxHeartbeats 800000 in
set_option maxRecDepth 100000 in
theorem words_some {w : World} {b g : Nat} {r : Option Addr} {l : List Int} (h : Bf w b g r l) : Calls Try.prog 31 #[.pointer (some ⟨b, 0, none⟩)] w
    fun e w' => ∃ k, e = .returned (.slice (some ⟨k, 0, none⟩) l.length l.length) ∧ Row w' k 29 .i64 l ∧ w.heap.size ≤ k ∧ But Nowhere w w' := by
  have hm := make_secs l.length h.small
  have hsm := h.small
  have b1 := (But.refl Nowhere w).alloc (.cells (ints .i64 (List.replicate l.length 0)).toArray 29)
  have H1 := h.but b1 (not_nowhere _) (not_nowhere _)
  obtain ⟨w2, hcp, r2, b2⟩ := copy_row (k := w.heap.size) (heap_alloc_new w _) H1.row (by simp)
  have HR : Hid (Row w2 w.heap.size 29 .i64 l) := r2
  clear r2
  go_enter Try.func31, Try.ntmps31
  go_wp2_with fail
  refine (len_some h).mono ?_
  rintro e w0 ⟨rfl, rfl⟩
  go_wp2_with fail
  refine (allB_some H1).mono ?_
  rintro e w' ⟨rfl, rfl⟩
  go_wp2_with fail
  go_ret
  exact ⟨_, rfl, HR.out, Nat.le_refl _, b1.step b2 (fun i hi e => by omega)⟩

set_option maxHeartbeats 800000 in
theorem words_none (w : World) : Calls Try.prog 31 #[.pointer none] w
    fun e w' => ∃ k, e = .returned (.slice (some ⟨k, 0, none⟩) 0 0) ∧ But Nowhere w w' := by
  have hm : ∀ w, (Instr.makeSlice 58 (.int .i64 0) (.int .i64 0)).run Try.prog w = _ := make_secs 0 (by omega)
  have hcp := copy_nothing
  have b1 := (But.refl Nowhere w).alloc (.cells (ints .i64 (List.replicate 0 0)).toArray 29)
  go_enter Try.func31, Try.ntmps31
  go_wp2_with fail
  refine (len_none _).mono ?_
  rintro e w' ⟨rfl, rfl⟩
  go_wp2_with fail
  refine (allB_none _).mono ?_
  rintro e w' ⟨rfl, rfl⟩
  go_wp2_with fail
  go_ret
  exact ⟨_, rfl, b1⟩

end Go.Proofs.Ythfdabcknagjoaa
