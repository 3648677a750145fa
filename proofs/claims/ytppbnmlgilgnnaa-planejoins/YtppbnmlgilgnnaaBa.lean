/- Lists of lists of blocks of 64 numbers, wherever they lie and however long they are. No program. -/
import Derived.Test.YtppbnmlgilgnnaaPlMid
import Derived.Test.YtppbnmlgilgnnaaLst
namespace Go.Proofs.Ytppbnmlgilgnnaa
open Go.ChangeShapes Go.WideShapes Go.ChangeAt Go.RowKit

/-- u is a list of n blocks that can be read. -/
def RowAt (W : World) (u : Value) (n : Nat) (f : Nat → Int) : Prop := ∃ ro c, u = .slice ro n c ∧ (0 < n → ∃ g o, ro = some ⟨g, o, none⟩ ∧ ∀ j, j < n * 64 → W.cell? ⟨g, o + j, none⟩ = some (.int .i64 (f j)))

/-- v is a list of N such lists. -/
def BA (W : World) (v : Value) (N : Nat) (L : Nat → Nat) (F : Nat → Nat → Int) : Prop := ∃ ao cap, v = .slice ao N cap ∧ (0 < N → ∃ go off, ao = some ⟨go, off, none⟩ ∧ ∀ i, i < N → ∃ u, W.cell? ⟨go, off + i, none⟩ = some u ∧ RowAt W u (L i) (F i))

theorem RowAt.but {W W' : World} {u : Value} {n : Nat} {f : Nat → Int} (h : RowAt W u n f) (hb : But Nowhere W W') : RowAt W' u n f := by
  obtain ⟨ro, c, e, h⟩ := h
  refine ⟨ro, c, e, fun hn => ?_⟩
  obtain ⟨g, o, e2, h2⟩ := h hn
  exact ⟨g, o, e2, fun j hj => hb.keeps (not_nowhere _) (h2 j hj)⟩

theorem BA.but {W W' : World} {v : Value} {N : Nat} {L : Nat → Nat} {F : Nat → Nat → Int} (h : BA W v N L F) (hb : But Nowhere W W') : BA W' v N L F := by
  obtain ⟨ao, cap, e, h⟩ := h
  refine ⟨ao, cap, e, fun hN => ?_⟩
  obtain ⟨go, off, e2, h2⟩ := h hN
  refine ⟨go, off, e2, fun i hi => ?_⟩
  obtain ⟨u, h3, h4⟩ := h2 i hi
  exact ⟨u, hb.keeps (not_nowhere _) h3, h4.but hb⟩

theorem BA.empty (W : World) (L : Nat → Nat) (F : Nat → Nat → Int) : BA W (.slice none 0 0) 0 L F := ⟨none, 0, rfl, fun h => absurd h (by omega)⟩

theorem BA.congr {W : World} {v : Value} {N : Nat} {L L' : Nat → Nat} {F F' : Nat → Nat → Int} (h : BA W v N L F) (hL : ∀ i, i < N → L i = L' i) (hF : ∀ i j, i < N → j < L i * 64 → F i j = F' i j) : BA W v N L' F' := by
  obtain ⟨ao, cap, e, h⟩ := h
  refine ⟨ao, cap, e, fun hN => ?_⟩
  obtain ⟨go, off, e2, h2⟩ := h hN
  refine ⟨go, off, e2, fun i hi => ?_⟩
  obtain ⟨u, h3, ro, c, h4, h5⟩ := h2 i hi
  rw [hL i hi] at h4
  refine ⟨u, h3, ro, c, h4, fun hn => ?_⟩
  rw [← hL i hi] at hn
  obtain ⟨g, o, e6, h6⟩ := h5 hn
  refine ⟨g, o, e6, fun j hj => ?_⟩
  rw [← hL i hi] at hj
  rw [h6 j hj, hF i j hi hj]

theorem Blks.ba {W : World} {v : Value} {t1 t2 : TypeId} {N M go : Nat} {G : Nat → Nat} {F : Nat → Nat → Int} (h : Blks W v t1 t2 N M go G F) : BA W v N (fun _ => M) F :=
  ⟨_, _, h.val, fun _ => ⟨go, 0, rfl, fun i hi => ⟨_, by rw [Nat.zero_add]; exact h.at i hi, _, _, rfl, fun _ => ⟨G i, 0, rfl, fun j hj => by rw [Nat.zero_add]; exact (h.inn i hi).cell j hj⟩⟩⟩⟩

theorem range_off {W : World} {g o M : Nat} {F : Nat → Int} (h : ∀ j, j < M * 64 → W.cell? ⟨g, o + j, none⟩ = some (.int .i64 (F j))) (k : Nat) (hk : k < M) : W.rangeAt g (o + k * 64) (tab .i64 64 (fun j => F (k * 64 + j))) := by
  intro j v hv
  have hj : j < 64 := by have := (List.getElem?_eq_some_iff.1 hv).1; rwa [tab_length] at this
  rw [tab_at _ _ _ _ hj] at hv
  have : (k + 1) * 64 ≤ M * 64 := Nat.mul_le_mul_right 64 hk
  rw [Nat.add_assoc, h (k * 64 + j) (by omega), ← hv]

end Go.Proofs.Ytppbnmlgilgnnaa
