/- The reckoners of package color, and its rows: values of several cells, laid in blocks of their own. -/
import Derived.Test.YtppbnmlgilgnnaaCol1
import Derived.Laws.EntriesVeiled
import Derived.Deep.WholeRow
namespace Go.Proofs.Ytppbnmlgilgnnaa
open Go.ChangeShapes Go.WideShapes Go.ChangeAt Go.RowKit

/-- How numbers are reckoned with. -/
abbrev byN : List Value := [.func (.func 95) #[] #[], .func (.func 96) #[] #[], .func (.func 97) #[] #[], .func (.func 98) #[] #[], .func (.func 99) #[] #[]]

/-- How secrets are reckoned with. -/
abbrev byS : List Value := [.func (.func 31) #[] #[], .func (.func 49) #[] #[], .func (.func 89) #[] #[], .func (.func 50) #[] #[], .func (.func 51) #[] #[]]

/-- A block that holds just these cells. -/
def Cells (w : World) (b : Nat) (t : TypeId) (l : List Value) : Prop := w.heap[b]? = some (.cells l.toArray t (0, 0))

theorem Cells.lt {w : World} {b : Nat} {t : TypeId} {l : List Value} (h : Cells w b t l) : b < w.heap.size := (Array.getElem?_eq_some_iff.1 h).1
theorem Cells.at {w : World} {b : Nat} {t : TypeId} {l : List Value} (h : Cells w b t l) (j : Nat) : w.cell? ⟨b, j, none⟩ = l[j]? := by
  rw [cell_of_row w b j _ _ _ h]; simp
theorem Cells.frozen {w : World} {b : Nat} {t : TypeId} {l : List Value} (h : Cells w b t l) (j : Nat) : w.frozen? ⟨b, j, none⟩ = false := by
  unfold Cells at h
  simp [World.frozen?, h]
theorem Cells.but {S : Nat → Prop} {w w' : World} {b : Nat} {t : TypeId} {l : List Value} (h : Cells w b t l) (hb : But S w w') (hs : ¬ S b) : Cells w' b t l := (hb.block b h.lt hs).trans h
theorem Cells.new (w : World) (t : TypeId) (l : List Value) : Cells (w.alloc (.cells l.toArray t)) w.heap.size t l := heap_alloc_new w _
theorem Cells.drew {w : World} {b : Nat} {t : TypeId} {l : List Value} (h : Cells w b t l) : Cells w.drew b t l := h
theorem Cells.alloc {w : World} {b : Nat} {t : TypeId} {l : List Value} (h : Cells w b t l) (o : Obj) : Cells (w.alloc o) b t l := h.but ((But.refl Nowhere w).alloc o) (not_nowhere _)
theorem Cells.set {w : World} {b : Nat} {t : TypeId} {l : List Value} (h : Cells w b t l) (j : Nat) (u : Value) : Cells (w.setCell ⟨b, j, none⟩ u) b t (l.set j u) := by
  unfold Cells at *
  simp [World.setCell, Array.getElem?_modify, h]

theorem results_cells {P : Program} {fn : Func} {p : Tmp} {t t' : TypeId} {d : TypeDesc} (h : fn.results = #[.cell p t]) {w : World} {g : Nat} {l : List Value} (hg : Cells w g t' l) (hu : P.underlying t = some d) (hd : d.isRow = true) (hi : (P.info? t).map (fun i => i.size) = some l.length) (tmps : Array Value) (hp : tmps.getD p undef = .pointer (some ⟨g, 0, none⟩)) :
    (results fn tmps).run P w = .ok (.agg l.toArray) w := by
  have hl := run_loadVar_mid (P := P) w g 0 t l d (fun j v hv => by rw [Nat.zero_add, hg.at]; exact hv) hu hd hi
  have hp' : tmps[p]?.getD undef = .pointer (some ⟨g, 0, none⟩) := by simpa using hp
  simp only [results, h]
  simp [hp', asAddr, hl]

set_option maxHeartbeats 400000 in
theorem plain_any (w : World) : Calls Try.prog 92 #[] w fun e w' => e = .returned (.agg byN.toArray) ∧ But Nowhere w w' := by
  have hu := Try.underlying145
  go_enter Try.func92, Try.ntmps92
  go_wp2
  exact bodyPost_ret (results_cells rfl (Cells.new w 145 byN) hu rfl (by kernel_rfl) _ rfl) rfl ⟨rfl, (But.refl _ _).alloc _⟩

set_option maxHeartbeats 400000 in
theorem secret_any (w : World) : Calls Try.prog 77 #[] w fun e w' => e = .returned (.agg byS.toArray) ∧ But Nowhere w w' := by
  have hu := Try.underlying121
  go_enter Try.func77, Try.ntmps77
  go_wp2
  exact bodyPost_ret (results_cells rfl (Cells.new w 121 byS) hu rfl (by kernel_rfl) _ rfl) rfl ⟨rfl, (But.refl _ _).alloc _⟩

/-- The cells of a row, and of three rows. -/
structure Rw where
  a : Int
  b : Int
  c : Int
  r : Int

abbrev Rw.cells (x : Rw) : List Value := [.int .i64 x.a, .int .i64 x.b, .int .i64 x.c, .int .i64 x.r]
abbrev rows (x y z : Rw) : List Value := [.int .i64 x.a, .int .i64 x.b, .int .i64 x.c, .int .i64 x.r, .int .i64 y.a, .int .i64 y.b, .int .i64 y.c, .int .i64 y.r, .int .i64 z.a, .int .i64 z.b, .int .i64 z.c, .int .i64 z.r]

abbrev luma1 : Rw := ⟨19595, 38470, 7471, 32768⟩
abbrev luma2 : Rw := ⟨-11059, -21709, 32768, 8421375⟩
abbrev luma3 : Rw := ⟨32768, -27439, -5329, 8421375⟩
abbrev back1 : Rw := ⟨65536, 0, 91881, -11728000⟩
abbrev back2 : Rw := ⟨65536, -22554, -46802, 8910336⟩
abbrev back3 : Rw := ⟨65536, 116130, 0, -14831872⟩

set_option maxHeartbeats 400000 in
theorem toLuma_any (w : World) : Calls Try.prog 78 #[] w fun e w' => e = .returned (.agg (rows luma1 luma2 luma3).toArray) ∧ But Nowhere w w' := by
  have hu := Try.underlying126
  go_enter Try.func78, Try.ntmps78
  go_wp2
  exact bodyPost_ret (results_cells rfl (Cells.new w 126 (rows luma1 luma2 luma3)) hu rfl (by kernel_rfl) _ rfl) rfl ⟨rfl, (But.refl _ _).alloc _⟩

set_option maxHeartbeats 400000 in
theorem colored_any (a b : Int) (ha : -1000000 ≤ a ∧ a ≤ 1000000) (hb : -1000000 ≤ b ∧ b ≤ 1000000) (w : World) : Calls Try.prog 90 #[.int .i64 a, .int .i64 b] w fun e w' => e = .returned (.agg #[.int .i64 65536, .int .i64 a, .int .i64 b, .int .i64 (32768 - 128 * (a + b))]) ∧ But Nowhere w w' := by
  have hu := Try.underlying125
  go_enter Try.func90, Try.ntmps90
  go_wp2
  exact bodyPost_ret (results_cells rfl (Cells.new w 125 (Rw.cells ⟨65536, a, b, 32768 - 128 * (a + b)⟩)) hu rfl (by kernel_rfl) _ rfl) rfl ⟨rfl, (But.refl _ _).alloc _⟩

/-- A block of twelve cells, all written anew. -/
theorem Cells.set12 {w : World} {b : Nat} {t : TypeId} {c0 c1 c2 c3 c4 c5 c6 c7 c8 c9 c10 c11 : Value} (h : Cells w b t [c0, c1, c2, c3, c4, c5, c6, c7, c8, c9, c10, c11]) (u0 u1 u2 u3 u4 u5 u6 u7 u8 u9 u10 u11 : Value) :
    Cells ((((((((((((w.setCell ⟨b, 0, none⟩ u0).setCell ⟨b, 1, none⟩ u1).setCell ⟨b, 2, none⟩ u2).setCell ⟨b, 3, none⟩ u3).setCell ⟨b, 4, none⟩ u4).setCell ⟨b, 5, none⟩ u5).setCell ⟨b, 6, none⟩ u6).setCell ⟨b, 7, none⟩ u7).setCell ⟨b, 8, none⟩ u8).setCell ⟨b, 9, none⟩ u9).setCell ⟨b, 10, none⟩ u10).setCell ⟨b, 11, none⟩ u11) b t [u0, u1, u2, u3, u4, u5, u6, u7, u8, u9, u10, u11] :=
  (((((((((((h.set 0 u0).set 1 u1).set 2 u2).set 3 u3).set 4 u4).set 5 u5).set 6 u6).set 7 u7).set 8 u8).set 9 u9).set 10 u10).set 11 u11

set_option maxHeartbeats 1600000 in
theorem toPixel_any (w : World) : Calls Try.prog 79 #[] w fun e w' => e = .returned (.agg (rows back1 back2 back3).toArray) ∧ But Nowhere w w' := by
  have hu := Try.underlying126
  have g0 : But Nowhere w (w.alloc (.cells #[.int .i64 0, .int .i64 0, .int .i64 0, .int .i64 0, .int .i64 0, .int .i64 0, .int .i64 0, .int .i64 0, .int .i64 0, .int .i64 0, .int .i64 0, .int .i64 0] 126)) := (But.refl _ _).alloc _
  have B := Cells.new w 126 [.int .i64 0, .int .i64 0, .int .i64 0, .int .i64 0, .int .i64 0, .int .i64 0, .int .i64 0, .int .i64 0, .int .i64 0, .int .i64 0, .int .i64 0, .int .i64 0]
  go_enter Try.func79, Try.ntmps79
  go_wp2_with fail
  refine (colored_any _ _ (by omega) (by omega) _).mono ?_
  rintro e w1 ⟨rfl, hb⟩
  replace B := B.but hb (not_nowhere _)
  replace g0 := g0.trans hb
  clear hb
  go_wp2_with fail
  refine (colored_any _ _ (by omega) (by omega) _).mono ?_
  rintro e w2 ⟨rfl, hb⟩
  replace B := B.but hb (not_nowhere _)
  replace g0 := g0.trans hb
  clear hb
  go_wp2_with fail
  refine (colored_any _ _ (by omega) (by omega) _).mono ?_
  rintro e w3 ⟨rfl, hb⟩
  replace B := B.but hb (not_nowhere _)
  replace g0 := g0.trans hb
  clear hb
  have q0 := B.at 0
  have q1 := B.at 1
  have q2 := B.at 2
  have q3 := B.at 3
  have q4 := B.at 4
  have q5 := B.at 5
  have q6 := B.at 6
  have q7 := B.at 7
  have q8 := B.at 8
  have q9 := B.at 9
  have q10 := B.at 10
  have q11 := B.at 11
  have f0 := B.frozen 0
  have f1 := B.frozen 1
  have f2 := B.frozen 2
  have f3 := B.frozen 3
  have f4 := B.frozen 4
  have f5 := B.frozen 5
  have f6 := B.frozen 6
  have f7 := B.frozen 7
  have f8 := B.frozen 8
  have f9 := B.frozen 9
  have f10 := B.frozen 10
  have f11 := B.frozen 11
  simp only [List.getElem?_cons_zero, List.getElem?_cons_succ] at q0 q1 q2 q3 q4 q5 q6 q7 q8 q9 q10 q11
  go_wp2_with fail
  refine bodyPost_ret (results_cells rfl (B.set12 _ _ _ _ _ _ _ _ _ _ _ _) hu rfl (by kernel_rfl) _ rfl) rfl ⟨rfl, ?_⟩
  repeat (refine But.setCell ?_ (fun q => by exfalso; simp at q) _)
  exact g0

end Go.Proofs.Ytppbnmlgilgnnaa
