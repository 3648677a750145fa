/- The reckoners of package color, and its rows: values of several cells, laid in blocks of their own. -/
import Derived.Test.YtlpeplihbdcklaaCol1
import Derived.Laws.EntriesVeiled
import Derived.Deep.WholeRow
namespace Go.Proofs.Ytlpeplihbdcklaa
open Go.ChangeShapes Go.WideShapes Go.ChangeAt Go.RowKit

/-- A block that holds just these cells. -/
def Cells (w : World) (b : Nat) (t : TypeId) (l : List Value) : Prop := w.heap[b]? = some (.cells l.toArray t (0, 0))

theorem Cells.lt {w : World} {b : Nat} {t : TypeId} {l : List Value} (h : Cells w b t l) : b < w.heap.size := (Array.getElem?_eq_some_iff.1 h).1
theorem Cells.at {w : World} {b : Nat} {t : TypeId} {l : List Value} (h : Cells w b t l) (j : Nat) : w.cell? ⟨b, j, none⟩ = l[j]? := by
  rw [cell_of_row w b j _ _ _ h]; simp
theorem Cells.frozen {w : World} {b : Nat} {t : TypeId} {l : List Value} (h : Cells w b t l) (j : Nat) : w.frozen? ⟨b, j, none⟩ = false := by
  unfold Cells at h
  simp [World.frozen?, h]
theorem Cells.but {S : Nat → Prop} {w w' : World} {b : Nat} {t : TypeId} {l : List Value} (h : Cells w b t l) (hb : But S w w') (hs : ¬ S b) : Cells w' b t l := (hb.block b h.lt hs).trans h
theorem Cells.new (w : World) (t : TypeId) (l : List Value) : Cells (w.alloc (.cells l.toArray t)) w.heap.size t l := heap_alloc_new w _
theorem Cells.drew {w : World} {b : Nat} {t : TypeId} {l : List Value} (h : Cells w b t l) : Cells w.drew b t l := h
theorem Cells.alloc {w : World} {b : Nat} {t : TypeId} {l : List Value} (h : Cells w b t l) (o : Obj) : Cells (w.alloc o) b t l := h.but ((But.refl Nowhere w).alloc o) (not_nowhere _)
theorem Cells.set {w : World} {b : Nat} {t : TypeId} {l : List Value} (h : Cells w b t l) (j : Nat) (u : Value) : Cells (w.setCell ⟨b, j, none⟩ u) b t (l.set j u) := by
  unfold Cells at *
  simp [World.setCell, Array.getElem?_modify, h]

theorem results_cells {P : Program} {fn : Func} {p : Tmp} {t t' : TypeId} {d : TypeDesc} (h : fn.results = #[.cell p t]) {w : World} {g : Nat} {l : List Value} (hg : Cells w g t' l) (hu : P.underlying t = some d) (hd : d.isRow = true) (hi : (P.info? t).map (fun i => i.size) = some l.length) (tmps : Array Value) (hp : tmps.getD p undef = .pointer (some ⟨g, 0, none⟩)) :
    (results fn tmps).run P w = .ok (.agg l.toArray) w := by
  have hl := run_loadVar_mid (P := P) w g 0 t l d (fun j v hv => by rw [Nat.zero_add, hg.at]; exact hv) hu hd hi
  have hp' : tmps[p]?.getD undef = .pointer (some ⟨g, 0, none⟩) := by simpa using hp
  simp only [results, h]
  simp [hp', asAddr, hl]

/-- The cells of a row, and of three rows. -/
structure Rw where
  a : Int
  b : Int
  c : Int
  r : Int

abbrev Rw.cells (x : Rw) : List Value := [.int .i64 x.a, .int .i64 x.b, .int .i64 x.c, .int .i64 x.r]
abbrev rows (x y z : Rw) : List Value := [.int .i64 x.a, .int .i64 x.b, .int .i64 x.c, .int .i64 x.r, .int .i64 y.a, .int .i64 y.b, .int .i64 y.c, .int .i64 y.r, .int .i64 z.a, .int .i64 z.b, .int .i64 z.c, .int .i64 z.r]

abbrev luma1 : Rw := ⟨19595, 38470, 7471, 32768⟩
abbrev luma2 : Rw := ⟨-11059, -21709, 32768, 8421375⟩
abbrev luma3 : Rw := ⟨32768, -27439, -5329, 8421375⟩
abbrev back1 : Rw := ⟨65536, 0, 91881, -11728000⟩
abbrev back2 : Rw := ⟨65536, -22554, -46802, 8910336⟩
abbrev back3 : Rw := ⟨65536, 116130, 0, -14831872⟩

/-- A block of twelve cells, all written anew. -/
theorem Cells.set12 {w : World} {b : Nat} {t : TypeId} {c0 c1 c2 c3 c4 c5 c6 c7 c8 c9 c10 c11 : Value} (h : Cells w b t [c0, c1, c2, c3, c4, c5, c6, c7, c8, c9, c10, c11]) (u0 u1 u2 u3 u4 u5 u6 u7 u8 u9 u10 u11 : Value) :
    Cells ((((((((((((w.setCell ⟨b, 0, none⟩ u0).setCell ⟨b, 1, none⟩ u1).setCell ⟨b, 2, none⟩ u2).setCell ⟨b, 3, none⟩ u3).setCell ⟨b, 4, none⟩ u4).setCell ⟨b, 5, none⟩ u5).setCell ⟨b, 6, none⟩ u6).setCell ⟨b, 7, none⟩ u7).setCell ⟨b, 8, none⟩ u8).setCell ⟨b, 9, none⟩ u9).setCell ⟨b, 10, none⟩ u10).setCell ⟨b, 11, none⟩ u11) b t [u0, u1, u2, u3, u4, u5, u6, u7, u8, u9, u10, u11] :=
  (((((((((((h.set 0 u0).set 1 u1).set 2 u2).set 3 u3).set 4 u4).set 5 u5).set 6 u6).set 7 u7).set 8 u8).set 9 u9).set 10 u10).set 11 u11

end Go.Proofs.Ytlpeplihbdcklaa
