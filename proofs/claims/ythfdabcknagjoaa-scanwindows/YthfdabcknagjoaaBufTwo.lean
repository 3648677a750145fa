/- Two buffers with their recorders, side by side. -/
import Derived.Test.YthfdabcknagjoaaBufLaw
namespace Go.Proofs.Ythfdabcknagjoaa
open Go.ChangeShapes Go.WideShapes Go.ChangeAt Go.RowKit

/-- Two buffers, each with a recorder of its own, that share nothing. -/
structure Bt (w0 w : World) (o : Nat) (v : Value) (es : List Ev) (b g : Nat) (l : List Int) (p : Nat) (u : Value) (fs : List Ev) (c d : Nat) (m : List Int) : Prop where
  one : Bo w0 w o v es b g l
  two : Bo w0 w p u fs c d m
  apart : ∀ k, FootB o v b g k → ¬ FootB p u c d k

theorem Bt.swap {w0 w : World} {o b g p c d : Nat} {v u : Value} {es fs : List Ev} {l m : List Int} (h : Bt w0 w o v es b g l p u fs c d m) : Bt w0 w p u fs c d m o v es b g l := ⟨h.two, h.one, fun k x y => h.apart k y x⟩

theorem Bt.step {w0 w w' : World} {o b g p c d : Nat} {v u : Value} {es fs : List Ev} {l m : List Int} (h : Bt w0 w o v es b g l p u fs c d m) (hb : But Nowhere w w') : Bt w0 w' o v es b g l p u fs c d m := ⟨h.one.step hb, h.two.step hb, h.apart⟩

theorem Bt.turn {w0 w w' : World} {o b g p c d : Nat} {v u v' : Value} {es es' fs : List Ev} {l l' m : List Int} (h : Bt w0 w o v es b g l p u fs c d m) (hA : Bo w0 w' o v' es' b g l') (hm : Moved w v v') (bt : But (FootB o v b g) w w') : Bt w0 w' o v' es' b g l' p u fs c d m := by
  refine ⟨hA, h.two.butS bt (fun k hk f => h.apart k f hk) (fun k hk f => by have := h.one.new f; omega), fun k hk hc => ?_⟩
  have hlt := h.two.lt hc
  exact hm.footB hlt (fun f => h.apart k f hc) hk

theorem Bt.start {w0 w1 w2 : World} {o b g p c d : Nat} {v u : Value} {es fs : List Ev} {l m : List Int} (h : Bo w0 w1 o v es b g l) (k : Bo w1 w2 p u fs c d m) : Bt w0 w2 o v es b g l p u fs c d m :=
  ⟨h.step k.but, k.back h.but, fun x hx hy => by have := h.lt hx; have := k.new hy; omega⟩

/-- What lies in memory that was there before is none of the first's. -/
theorem Bt.old {w0 w : World} {o b g p c d : Nat} {v u : Value} {es fs : List Ev} {l m : List Int} (h : Bt w0 w o v es b g l p u fs c d m) {k : Nat} (hk : k < w0.heap.size) : ¬ FootB o v b g k := fun f => by have := h.one.new f; omega

theorem Bt.set {w0 w : World} {o b g p c d : Nat} {v u : Value} {es fs : List Ev} {l m : List Int} (h : Bt w0 w o v es b g l p u fs c d m) (hl : es.length ≤ 1000000) (i n : Int) :
    Calls Try.prog 52 #[.pointer (some ⟨b, 0, none⟩), .int .i64 i, S64 n] w fun e w' => e = .returned (.tuple #[]) ∧ ∃ v', Bt w0 w' o v' (es ++ seenAt l i) b g (lay l i n) p u fs c d m ∧ But (FootB o v b g) w w' :=
  (h.one.setAt hl i n).mono fun _ _ ⟨he, v', h1, h2, h3⟩ => ⟨he, v', h.turn h1 h2 h3, h3⟩

theorem Bt.get {w0 w : World} {o b g p c d : Nat} {v u : Value} {es fs : List Ev} {l m : List Int} (h : Bt w0 w o v es b g l p u fs c d m) (hl : es.length ≤ 1000000) (i : Int) :
    Calls Try.prog 77 #[.pointer (some ⟨b, 0, none⟩), .int .i64 i] w fun e w' => e = .returned (S64 (word l i)) ∧ ∃ v', Bt w0 w' o v' (es ++ seenAt l i) b g l p u fs c d m ∧ But (FootB o v b g) w w' :=
  (h.one.get hl i).mono fun _ _ ⟨he, v', h1, h2, h3⟩ => ⟨he, v', h.turn h1 h2 h3, h3⟩

theorem seenAt_len (l m : List Int) (i : Int) (h : m.length = l.length) : seenAt m i = seenAt l i := by unfold seenAt; rw [h]
theorem seenAt_le (l : List Int) (i : Int) : (seenAt l i).length ≤ 1 := by unfold seenAt; split <;> simp
theorem cnt_app (k : Int) (l m : List Ev) : cnt k (l ++ m) = cnt k l + cnt k m := by unfold cnt; rw [List.filter_append, List.length_append]; omega
theorem cnt_seenAt (l : List Int) (i : Int) : cnt 3 (seenAt l i) = 0 := by unfold seenAt; split <;> rfl

end Go.Proofs.Ythfdabcknagjoaa
