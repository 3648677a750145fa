/- Blocks of numbers by a function of their places; lists of lists of blocks. No program but its types. -/
import Derived.Test.YtlpeplihbdcklaaLst
import Derived.Test.YtlpeplihbdcklaaPl1
import Derived.Deep.MidRow
namespace Go.Proofs.Ytlpeplihbdcklaa
open Go.ChangeShapes Go.WideShapes Go.ChangeAt Go.RowKit

/-- The cells of n numbers. -/
def tab (k : IntKind) (n : Nat) (f : Nat → Int) : List Value := (List.range n).map (fun j => .int k (f j))

theorem tab_length (k : IntKind) (n : Nat) (f : Nat → Int) : (tab k n f).length = n := by simp [tab]
theorem tab_at (k : IntKind) (n : Nat) (f : Nat → Int) (j : Nat) (h : j < n) : (tab k n f)[j]? = some (.int k (f j)) := by simp [tab, h]
theorem tab_congr (k : IntKind) (n : Nat) (f g : Nat → Int) (h : ∀ j, j < n → f j = g j) : tab k n f = tab k n g := by
  unfold tab
  apply List.map_congr_left
  intro j hj
  rw [h j (by simpa using hj)]

/-- f, with x at j. -/
def upd (f : Nat → Int) (j : Nat) (x : Int) : Nat → Int := fun i => if i = j then x else f i

theorem tab_set (k : IntKind) (n : Nat) (f : Nat → Int) (j : Nat) (x : Int) : (tab k n f).set j (.int k x) = tab k n (upd f j x) := by
  apply List.ext_getElem?
  intro i
  by_cases hi : i < n
  · rw [tab_at _ _ _ _ hi, List.getElem?_set]
    by_cases e : j = i
    · subst e; simp [tab_length, hi, upd]
    · rw [if_neg e, tab_at _ _ _ _ hi]; simp [upd, Ne.symm e]
  · rw [List.getElem?_eq_none (by simp [tab_length]; omega), List.getElem?_eq_none (by simp [tab_length]; omega)]

/-- One more place is told. -/
theorem upd_grow (f g : Nat → Int) (k j : Nat) : upd (fun j => if j < k then f j else g j) k (f k) j = if j < k + 1 then f j else g j := by
  unfold upd
  by_cases e : j = k
  · subst e; simp
  · by_cases e2 : j < k
    · simp [e, e2, show j < k + 1 by omega]
    · simp [e, e2, show ¬ j < k + 1 by omega]

theorem tab_grow (kd : IntKind) (n : Nat) (f g : Nat → Int) (k : Nat) : (tab kd n (fun j => if j < k then f j else g j)).set k (.int kd (f k)) = tab kd n (fun j => if j < k + 1 then f j else g j) := by
  rw [tab_set]; exact tab_congr _ _ _ _ (fun j _ => upd_grow f g k j)

theorem tab_full (kd : IntKind) (n : Nat) (f g : Nat → Int) : tab kd n (fun j => if j < n then f j else g j) = tab kd n f := tab_congr _ _ _ _ (fun _ hj => if_pos hj)

theorem tab_zero (n : Nat) : List.replicate n (Value.int .i64 0) = tab .i64 n (fun _ => 0) := by
  unfold tab
  rw [List.map_const', List.length_range]

theorem tab_one (k : IntKind) (n : Nat) (f : Nat → Int) : ∀ u ∈ tab k n f, u.oneCell' = true := by
  intro u hu
  simp only [tab, List.mem_map] at hu
  obtain ⟨a, _, rfl⟩ := hu
  rfl

/-- A list in a block of its own that holds n numbers. -/
def Tb (W : World) (v : Value) (t : TypeId) (k : IntKind) (n : Nat) (f : Nat → Int) : Prop := ∃ g, v = .slice (some ⟨g, 0, none⟩) n n ∧ Cells W g t (tab k n f)

theorem Cells.cell {W : World} {g : Nat} {t : TypeId} {k : IntKind} {n : Nat} {f : Nat → Int} (h : Cells W g t (tab k n f)) (j : Nat) (hj : j < n) : W.cell? ⟨g, j, none⟩ = some (.int k (f j)) := (h.at j).trans (tab_at _ _ _ _ hj)

theorem Tb.view {W : World} {v : Value} {t : TypeId} {k : IntKind} {n : Nat} {f : Nat → Int} (h : Tb W v t k n f) : View W k v ((List.range n).map f) := by
  obtain ⟨g, rfl, hc⟩ := h
  refine ⟨some ⟨g, 0, none⟩, n, by simp, fun _ => ⟨g, 0, rfl, hc.lt, fun i hi => ?_⟩⟩
  have hi' : i < n := by simpa using hi
  rw [Nat.zero_add, hc.cell i hi']
  simp

/-- v is a list of N lists of M blocks of 64 numbers: F i j is number j of list i. -/
structure Blks (W : World) (v : Value) (to ti : TypeId) (N M : Nat) (go : Nat) (G : Nat → Nat) (F : Nat → Nat → Int) : Prop where
  val : v = .slice (some ⟨go, 0, none⟩) N N
  out : Cells W go to ((List.range N).map fun i => .slice (some ⟨G i, 0, none⟩) M M)
  inn : ∀ i, i < N → Cells W (G i) ti (tab .i64 (M * 64) (F i))

theorem Blks.but {S : Nat → Prop} {W W' : World} {v : Value} {to ti : TypeId} {N M go : Nat} {G : Nat → Nat} {F : Nat → Nat → Int} (h : Blks W v to ti N M go G F) (hb : But S W W') (h1 : ¬ S go) (h2 : ∀ i, i < N → ¬ S (G i)) : Blks W' v to ti N M go G F :=
  ⟨h.val, h.out.but hb h1, fun i hi => (h.inn i hi).but hb (h2 i hi)⟩

theorem Blks.step {W W' : World} {v : Value} {to ti : TypeId} {N M go : Nat} {G : Nat → Nat} {F : Nat → Nat → Int} (h : Blks W v to ti N M go G F) (hb : But Nowhere W W') : Blks W' v to ti N M go G F := h.but hb (not_nowhere _) (fun _ _ => not_nowhere _)

theorem outs_at (N M : Nat) (G : Nat → Nat) (i : Nat) (hi : i < N) : ((List.range N).map fun i => Value.slice (some ⟨G i, 0, none⟩) M M)[i]? = some (.slice (some ⟨G i, 0, none⟩) M M) := by simp [hi]

theorem Blks.at {W : World} {v : Value} {to ti : TypeId} {N M go : Nat} {G : Nat → Nat} {F : Nat → Nat → Int} (h : Blks W v to ti N M go G F) (i : Nat) (hi : i < N) : W.cell? ⟨go, i, none⟩ = some (.slice (some ⟨G i, 0, none⟩) M M) := (h.out.at i).trans (outs_at N M G i hi)

end Go.Proofs.Ytlpeplihbdcklaa
