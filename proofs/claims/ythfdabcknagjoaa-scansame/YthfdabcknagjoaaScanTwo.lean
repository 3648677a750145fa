/- Two buffers that are scanned one behind the other; a list's first numbers. -/
import Derived.Test.YthfdabcknagjoaaScanNum
import Derived.Deep.SlicePairs
namespace Go.Proofs.Ythfdabcknagjoaa
open Go.ChangeShapes Go.WideShapes Go.ChangeAt Go.RowKit Go.Deep

/-- A list's room is no less than its length. -/
def Roomy (v : Value) : Prop := ∀ ao n cap, v = .slice ao n cap → n ≤ cap

theorem ints_room {H : Type} {enc : TypeId × Value → H} {W : World} {base : Nat} {v : Value} {d : DataW H} {p : List MemPlace} (hval : Value.okWide Try.prog W .any base 22 v)
    (h : DataW.Trod enc Try.prog W 0 (fun _ => true) true 22 v d p) : Roomy v := by
  obtain ⟨a0, len0, cap0, rfl⟩ := okWide_slice Try.underlying22 hval
  obtain ⟨fuel, hf⟩ := h
  rcases open_slice1 Try.underlying22 Try.cells1Int hf with ⟨hc, hx⟩ | ⟨a, len, cap, m, n, V0, D0, P0, hc, _, hl, hm, hmm, hx, hall⟩
  · simp [Value.cells] at hc
    obtain ⟨rfl, rfl, rfl⟩ := hc
    rintro _ _ _ h
    cases h
    omega
  · simp [Value.cells] at hc
    obtain ⟨rfl, rfl, rfl⟩ := hc
    rintro _ _ _ h
    cases h
    omega

theorem View.take {w : World} {k : IntKind} {ao : Option Addr} {n cap : Nat} {l : List Int} (h : View w k (.slice ao n cap) l) (m : Nat) (hm : m ≤ l.length) (c : Nat) : View w k (.slice ao m c) (l.take m) := by
  obtain ⟨ao', cap', e, h⟩ := h
  cases e
  refine ⟨ao, c, by rw [List.length_take, Nat.min_eq_left hm], fun hne => ?_⟩
  obtain ⟨b, off, rfl, hb, hc⟩ := h (by rintro rfl; simp at hne)
  refine ⟨b, off, rfl, hb, fun i hi => ?_⟩
  rw [List.getElem_take]
  exact hc i (by simp at hi; omega)

section
variable {w0 w : World} {o b g p c d : Nat} {v u : Value} {es fs : List Ev} {l m : List Int} {L : Nat}

theorem Bt.load (h : Bt w0 w o v es b g l p u fs c d m) (hn : l.length = L) (hI : I64s l) (hl : es.length + 3 * l.length ≤ 900000) (a f t : Int) (ha : I64 a) :
    Calls Try.prog 23 #[.pointer (some ⟨b, 0, none⟩), S64 a, .int .i64 f, .int .i64 t] w fun e w' => ∃ x, e = .returned (S64 x) ∧ ∃ v', Bt w0 w' o v' (es ++ seenW 1 L f t) b g l p u fs c d m :=
  (h.one.load hn hI hl a f t ha).mono fun _ _ ⟨he, v', h1, h2, h3⟩ => ⟨_, he, v', h.turn h1 h2 h3⟩

theorem Bt.take (h : Bt w0 w o v es b g l p u fs c d m) (hn : l.length = L) (hl : es.length + 3 * l.length ≤ 900000) (a n f t : Int) :
    Calls Try.prog 26 #[.pointer (some ⟨b, 0, none⟩), S64 a, .int .i64 n, .int .i64 f, .int .i64 t] w fun e w' => ∃ x, e = .returned (S64 x) ∧ ∃ v', Bt w0 w' o v' (es ++ seenW 1 L f t) b g l p u fs c d m :=
  (h.one.take hn hl a n f t).mono fun _ _ ⟨he, v', h1, h2, h3⟩ => ⟨_, he, v', h.turn h1 h2 h3⟩

theorem Bt.store (h : Bt w0 w o v es b g l p u fs c d m) (hn : l.length = L) (hI : I64s l) (hl : es.length + 3 * l.length ≤ 900000) (a s f t : Int) (ha : I64 a) (hs : I64 s) :
    Calls Try.prog 24 #[.pointer (some ⟨b, 0, none⟩), S64 a, S64 s, .int .i64 f, .int .i64 t] w fun e w' => e = .returned (.tuple #[]) ∧ ∃ v' l', Bt w0 w' o v' (es ++ seenW 2 L f t) b g l' p u fs c d m ∧ l'.length = L ∧ I64s l' :=
  (h.one.store hn hI hl a s f t ha hs).mono fun _ _ ⟨he, v', h1, h2, h3⟩ => ⟨he, v', _, h.turn h1 h2 h3, by rw [upd_length]; exact hn, upd_in _ _ _ hI (fun i x hx => by unfold stF; split <;> assumption)⟩

theorem Bt.put (h : Bt w0 w o v es b g l p u fs c d m) (hn : l.length = L) (hI : I64s l) (hl : es.length + 3 * l.length ≤ 900000) (a s n f t : Int) :
    Calls Try.prog 25 #[.pointer (some ⟨b, 0, none⟩), S64 a, S64 s, .int .i64 n, .int .i64 f, .int .i64 t] w fun e w' => e = .returned (.tuple #[]) ∧ ∃ v' l', Bt w0 w' o v' (es ++ seenW 2 L f t) b g l' p u fs c d m ∧ l'.length = L ∧ I64s l' :=
  (h.one.put hn hI hl a s n f t).mono fun _ _ ⟨he, v', h1, h2, h3⟩ => ⟨he, v', _, h.turn h1 h2 h3, by rw [upd_length]; exact hn, upd_in _ _ _ hI (fun i x hx => putF_in _ _ _ _ _ hx)⟩
end

end Go.Proofs.Ythfdabcknagjoaa
