/- A buffer with its recorder, between two rounds of a scan: what has turned since the scan began. -/
import Derived.Test.YthfdabcknagjoaaBuf2
import Derived.Test.YthfdabcknagjoaaScan1
namespace Go.Proofs.Ythfdabcknagjoaa
open Go.ChangeShapes Go.WideShapes Go.ChangeAt Go.RowKit

set_option maxHeartbeats 400000 in
theorem br_o (o : Option Nat) (v : Value) (es : List Ev) (n : Int) (w : World) (h : RcO w o v es) (hl : es.length ≤ 1000000) : Calls Try.prog 76 #[.pointer (ptr o), .int .i64 n] w
    fun e w' => e = .returned (.tuple #[]) ∧ LaidO w w' o v (more o es [(2, n)]) := by
  rcases h with ⟨rfl, rfl, rfl⟩ | ⟨b, rfl, hr⟩
  · exact (br_none n w).mono fun _ _ ⟨he, hb⟩ => ⟨he, LaidO.still (.nil _) hb⟩
  · exact (br_some b v es n w hr hl).mono fun _ _ ⟨he, hb⟩ => ⟨he, .ofLaid hb⟩

/-- From w0 on only the recorder's blocks, the words' block g, and those of T have turned; the buffer b has the words l now, its recorder the events es. -/
structure Scn (T : Nat → Prop) (w0 W : World) (o : Option Nat) (b g : Nat) (v0 v : Value) (es : List Ev) (l : List Int) : Prop where
  bf : Bf W b g (ptr o) l
  rc : RcO W o v es
  ob : ¬ FootO o v b
  og : ¬ FootO o v g
  mv : Moved w0 v0 v
  but : But (fun k => FootO o v0 k ∨ k = g ∨ T k) w0 W
  tb : ¬ T b
  tg : ¬ T g
  tf : ∀ k, T k → k < w0.heap.size ∧ ¬ FootO o v0 k

section
variable {T : Nat → Prop} {w0 W W' : World} {o : Option Nat} {b g : Nat} {v0 v : Value} {es fs : List Ev} {l m : List Int}

theorem Scn.off (h : Scn T w0 W o b g v0 v es l) {k : Nat} (hk : T k) : ¬ FootO o v k := h.mv.foot (h.tf k hk).1 (h.tf k hk).2

theorem Scn.laid (h : Scn T w0 W o b g v0 v es l) (hl : LaidO W W' o v fs) : ∃ v', Scn T w0 W' o b g v0 v' fs l ∧ But (FootO o v) W W' := by
  obtain ⟨v', h1, h2, h3⟩ := hl
  exact ⟨v', ⟨h.bf.but h3 h.ob h.og, h1, h2.foot h.bf.lt h.ob, h2.foot h.bf.row.lt h.og, h.mv.trans h.but.size h2, h.but.step h3 (fun i hi f => .inl (h.mv.foot_back hi f)), h.tb, h.tg, h.tf⟩, h3⟩

theorem Scn.set (h : Scn T w0 W o b g v0 v es l) (hl : SetO W W' b g o v fs m) : ∃ v', Scn T w0 W' o b g v0 v' fs m ∧ But (fun k => FootO o v k ∨ k = g) W W' := by
  obtain ⟨v', h1, h2, h3, h4⟩ := hl
  exact ⟨v', ⟨h3, h1, h2.foot h.bf.lt h.ob, h2.foot h.bf.row.lt h.og, h.mv.trans h.but.size h2, h.but.step h4 (fun i hi f => f.elim (fun q => .inl (h.mv.foot_back hi q)) (fun q => .inr (.inl q))), h.tb, h.tg, h.tf⟩, h4⟩

theorem Scn.own (h : Scn T w0 W o b g v0 v es l) (hb : But T W W') : Scn T w0 W' o b g v0 v es l :=
  ⟨h.bf.but hb h.tb h.tg, h.rc.but hb (fun _ hk ht => h.off ht hk), h.ob, h.og, h.mv, h.but.step hb (fun _ _ f => .inr (.inr f)), h.tb, h.tg, h.tf⟩

theorem Scn.step (h : Scn T w0 W o b g v0 v es l) (hb : But Nowhere W W') : Scn T w0 W' o b g v0 v es l := h.own (hb.mono (fun _ _ f => f.elim))

theorem Scn.drew (h : Scn T w0 W o b g v0 v es l) : Scn T w0 W.drew o b g v0 v es l := h.step (But.refl Nowhere _).drew

/-- What lay in w0, and is none of these, lies on. -/
theorem Scn.box (h : Scn T w0 W o b g v0 v es l) {k : Nat} {t : TypeId} {u : Value} (hk : Box w0 k t u) (h1 : ¬ FootO o v0 k) (h2 : k ≠ g) (h3 : ¬ T k) : Box W k t u := hk.but h.but (fun f => f.elim h1 (fun f => f.elim h2 h3))

theorem Scn.start (hf : Bf w0 b g (ptr o) l) (hr : RcO w0 o v0 es) (hb : ¬ FootO o v0 b) (hg : ¬ FootO o v0 g) (tb : ¬ T b) (tg : ¬ T g) (tf : ∀ k, T k → k < w0.heap.size ∧ ¬ FootO o v0 k) : Scn T w0 w0 o b g v0 v0 es l :=
  ⟨hf, hr, hb, hg, .refl _ _, But.refl _ _, tb, tg, tf⟩
end

end Go.Proofs.Ythfdabcknagjoaa
