/- A region that draws its order, in a round or in an iterator: the call of yield may stand in it. No program. -/
import Derived.Test.YtadcfndjbhcfbaaTill
import Derived.Test.YtadcfndjbhcfbaaRound
namespace Go.Proofs.Ytadcfndjbhcfbaa
open Go.RowKit

section
variable {ρ : Option Nat} {P : Program} {ops : Array Oper} {Q : Exit → Act → World → Prop} {md : Region.Mode} {S R : World → Prop} {k m n : Nat}

theorem noDefer_spec (hd : noDefer ops = true) {i : Nat} {o : Oper} (hi : ops[i]? = some o) : ∀ c, o.op ≠ .defer c := fun c e => by
  have := Array.all_eq_true_iff_forall_mem.1 hd o (Array.mem_of_getElem? hi)
  simp [e] at this

theorem YieldsIf.wpOpR (hd : noDefer ops = true) {i : Nat} {o : Oper} {v : Value} {a : Act} (hi : ops[i]? = some o) (hy : YieldsIf P ops S o v a)
    {K : Act → World → Prop} {w : World} (hS : S w) (h : K (a.put o.dst v) w) : wpOpIn (Wide ρ) n P ops Q i K a w := by
  unfold Go.wpOpIn
  simp only [hi]
  rcases hy with ⟨hw, hv⟩ | ⟨hw, rfl⟩
  · simp only [hw, if_true, Oper.wpIn, semAt_any ρ _ o (noDefer_spec hd hi), hv w hS, Oper.uponIn]; exact ⟨fun _ _ => trivial, h⟩
  · simp only [hw, Bool.false_eq_true, if_false]; exact ⟨fun _ _ => trivial, h⟩

theorem wpOpR_putIf (hd : noDefer ops = true) {j : Nat} {oi oj : Oper} {v : Value} (hj : ops[j]? = some oj) (hap : oi.apart ops oj = true)
    (hsi : ∀ cs b, oi.op ≠ .select cs b) (hsj : ∀ cs b, oj.op ≠ .select cs b)
    (hQ : ∀ c a w, Q (.panic c) (a.put oi.dst v) w → Q (.panic c) a w) {K : Act → World → Prop} {a : Act} {w : World}
    (hy : YieldsIf P ops S oi v a) (h : wpOpIn (Wide ρ) n P ops Q j K (a.put oi.dst v) w) :
    wpOpIn (Wide ρ) n P ops Q j (fun a' w' => YieldsIf P ops S oi v a' ∧ K (a'.put oi.dst v) w') a w := by
  obtain ⟨h1, h2, h3⟩ := Oper.apart_spec hap
  have keep : ∀ (a : Act), YieldsIf P ops S oi v a → ∀ u, YieldsIf P ops S oi v (a.put oj.dst u) := fun a hy u =>
    hy.of_same (execOp_put oi hsi a oj.dst u h3) (wanted_put oi a oj.dst u h3)
  have keepD : ∀ d, YieldsIf P ops S oi v { a with defers := d :: a.defers } := fun d => hy.of_same rfl rfl
  have hno := noDefer_spec hd hj
  unfold wpOpIn at *
  simp only [hj] at *
  rw [wanted_put oj a oi.dst v h1] at h
  split
  · rename_i hw
    simp only [hw, if_true] at h
    unfold Oper.wpIn at *
    refine ⟨fun _ _ => trivial, ?_⟩
    have h := h.2
    rw [show (Wide ρ).round = ρ from rfl, semAt_any ρ _ oj hno, execOp_put oj hsj a oi.dst v h1] at h
    rw [show (Wide ρ).round = ρ from rfl, semAt_any ρ _ oj hno]
    generalize (execOp a.eval oj).run P w = r at *
    cases r with
    | ok x w' =>
      cases x <;> simp only [Oper.uponIn] at h ⊢
      case value u => exact ⟨keep a hy u, by rw [← Act.put_comm a v u h2]; exact h⟩
      case skip => exact ⟨keep a hy _, by rw [← Act.put_comm a v undef h2]; exact h⟩
      case defer d =>
        refine ⟨keep _ (keepD d) _, ?_⟩
        rw [← Act.put_comm _ v undef h2, ← Act.put_defers]
        exact h
      case enter f args =>
        refine ⟨h.1, CallsIn.mono h.2 fun e w'' he => ?_⟩
        cases e with
        | returned u => exact ⟨keep a hy u, by rw [← Act.put_comm a v u h2]; exact he⟩
        | panicked c => exact hQ _ _ _ he
        | outgrown => exact he
      case row row args => exact ⟨h.1, RowsIn.mono h.2 fun u w'' he => ⟨keep a hy u, by rw [← Act.put_comm a v u h2]; exact he⟩⟩
      case round l f tmps assign body =>
        refine ⟨h.1, RoundIn.mono h.2 fun e w'' he => ?_⟩
        cases e with
        | returned u => exact ⟨keep a hy u, by rw [← Act.put_comm a v u h2]; exact he⟩
        | panicked c => exact hQ _ _ _ he
        | outgrown => exact he
    | halt x w' =>
      cases x <;> simp only [Oper.uponIn] at h ⊢
      case panic u => exact hQ _ _ _ h
  · rename_i hw
    simp only [hw] at h
    exact ⟨fun _ _ => trivial, keep a hy _, by rw [← Act.put_comm a v undef h2]; exact h.2⟩

def wpTillR (ρ : Option Nat) (n : Nat) (P : Program) (md : Region.Mode) (ops : Array Oper) (Q : Exit → Act → World → Prop) (S R : World → Prop) (k m : Nat) : Nat → Array Bool → Act → World → Prop
  | 0, L, a, w => Region.ready md ops L = [] ∧ Q .normal a w
  | f + 1, L, a, w => (Region.ready md ops L = [] → Q .normal a w) ∧
    ∀ i ∈ Region.ready md ops L, wpOpIn (Wide ρ) n P ops Q i (fun a' w' => Till S R k m (L.setIfInBounds i true) w' ∧ wpTillR ρ n P md ops Q S R k m f (L.setIfInBounds i true) a' w') a w

theorem wpAnyR_of_till : ∀ (f : Nat) (L : Array Bool) (a : Act) (w : World), wpTillR ρ n P md ops Q S R k m f L a w → wpAnyIn (Wide ρ) n P md ops Q f L a w
  | 0, _, _, _, h => h
  | f + 1, _, _, _, h => ⟨h.1, fun i hi => wpOpIn_mono (fun a' w' h' => wpAnyR_of_till f _ a' w' h'.2) (h.2 i hi)⟩

theorem wpTillR_first (hd : noDefer ops = true) {i : Nat} {oi : Oper} {v : Value} (hi : ops[i]? = some oi) (hk : i ≠ k) (hm : i ≠ m) (hsel : ∀ (j : Nat) (o : Oper) cs b, ops[j]? = some o → o.op ≠ .select cs b)
    (hQ : ∀ c a w, Q (.panic c) (a.put oi.dst v) w → Q (.panic c) a w) : ∀ (f : Nat) (L : Array Bool) (a : Act) (w : World),
      (∀ j oj, ops[j]? = some oj → j ≠ i → L.getD j true = false → (∀ e ∈ oj.after, Region.binds md e = true → e.on ≠ i) → oi.apart ops oj = true) →
      i ∈ Region.ready md ops L → Shutd md ops L → YieldsIf P ops (Can1 md ops S R k m i) oi v a → Till S R k m L w →
      wpTillR ρ n P md ops Q S R k m f (L.setIfInBounds i true) (a.put oi.dst v) w → wpTillR ρ n P md ops Q S R k m (f + 1) L a w := by
  have now : ∀ (L : Array Bool) (w : World), L.getD i true = false → Shutd md ops L → Till S R k m L w → Can1 md ops S R k m i w :=
    fun L w h0 hc ht => ⟨fun hw => ht.1 (hc.notYet hw h0), fun hw => ht.2 (hc.notYet hw h0)⟩
  intro f
  induction f with
  | zero =>
    intro L a w _ hr hc hy ht H
    refine ⟨fun h => (by rw [h] at hr; cases hr), fun j hj => ?_⟩
    by_cases e : j = i
    · subst e; exact YieldsIf.wpOpR hd hi hy (now L w (mem_ready.1 hr).1 hc ht) ⟨(Till.drop hk hm).2 ht, H⟩
    · exact absurd (H.1 ▸ ready_mono hj e) (by simp)
  | succ f ih =>
    intro L a w hfree hr hc hy ht H
    refine ⟨fun h => (by rw [h] at hr; cases hr), fun j hj => ?_⟩
    by_cases e : j = i
    · subst e; exact YieldsIf.wpOpR hd hi hy (now L w (mem_ready.1 hr).1 hc ht) ⟨(Till.drop hk hm).2 ht, H⟩
    · obtain ⟨hun, oj, hoj, hall⟩ := mem_ready.1 hj
      have hnot : ∀ e ∈ oj.after, Region.binds md e = true → e.on ≠ i := fun x hx hb q => by
        have h1 := hall x hx hb
        rw [q, getD_both (mem_ready.1 hr).1] at h1
        cases h1
      have h2 := wpOpR_putIf hd hoj (hfree j oj hoj e hun hnot) (fun cs b => hsel i oi cs b hi) (fun cs b => hsel j oj cs b hoj) hQ hy (H.2 j (ready_mono hj e))
      refine wpOpIn_mono (fun a' w' h3 => ?_) h2
      obtain ⟨hy', ht', H'⟩ := h3
      rw [Array.setIfInBounds_comm _ _ (Ne.symm e)] at ht' H'
      replace ht' := (Till.drop hk hm).1 ht'
      refine ⟨ht', ih _ a' w' (fun q oq hq hqi hqu hqn => hfree q oq hq hqi ?_ hqn) (ready_mono hr (Ne.symm e)) (hc.set hj) hy' ht' H'⟩
      by_cases eq : j = q
      · subst eq; exact hun
      · rw [getD_set_ne true eq] at hqu; exact hqu

/-- The walk's own form. -/
def WalkR (ρ : Option Nat) (n : Nat) (P : Program) (md : Region.Mode) (ops : Array Oper) (Q : Exit → Act → World → Prop) (S R : World → Prop) (k m f : Nat) (L : Array Bool) (a : Act) (w : World) : Prop :=
  Shutd md ops L → Till S R k m L w → wpTillR ρ n P md ops Q S R k m f L a w

theorem WalkR.take (hd : noDefer ops = true) {f i : Nat} {oi : Oper} {v : Value} {L : Array Bool} {a : Act} {w : World} (hi : ops[i]? = some oi) (hne : (i != k && i != m) = true) (hs : Region.noSelect ops = true) (hf : Region.free md ops L i = true)
    (hr : (Region.ready md ops L).contains i = true) (hQ : ∀ c a w, Q (.panic c) (a.put oi.dst v) w → Q (.panic c) a w) (hy : YieldsIf P ops (Can1 md ops S R k m i) oi v a)
    (h : WalkR ρ n P md ops Q S R k m f (L.setIfInBounds i true) (a.put oi.dst v) w) : WalkR ρ n P md ops Q S R k m (f + 1) L a w := fun hc ht => by
  simp only [Bool.and_eq_true, bne_iff_ne] at hne
  have hr' : i ∈ Region.ready md ops L := by simpa using hr
  exact wpTillR_first hd hi hne.1 hne.2 (Region.noSelect_spec hs) hQ f L a w (Region.free_spec hi hf) hr' hc hy ht (h (hc.set hr') ((Till.drop hne.1 hne.2).2 ht))

theorem WalkR.go {l f i : Nat} {o : Oper} {L : Array Bool} {a : Act} {w : World} (hr : Region.ready md ops L = [i]) (ho : ops[i]? = some o)
    (h : ∀ K : Act → World → Prop, Shut (∀ a w, Till S R k m (L.setIfInBounds i true) w → WalkR (some l) n P md ops Q S R k m f (L.setIfInBounds i true) a w → K a w) → if Region.wanted o (yielded ops a.tmps) = true then Oper.wpIn (Fence.wide.inRound l) n P o a w K Q else K (a.put o.dst undef) w) :
    WalkR (some l) n P md ops Q S R k m (f + 1) L a w := fun hc ht => by
  refine ⟨fun h0 => (by rw [hr] at h0; cases h0), fun j hj => ?_⟩
  rw [hr] at hj
  simp only [List.mem_singleton] at hj
  subst hj
  have hc' : Shutd md ops (L.setIfInBounds j true) := hc.set (by rw [hr]; simp)
  refine wpOpIn_step ho (fun K hK => ?_)
  have := h K (fun a w ht' hw => hK a w ⟨ht', hw hc' ht'⟩)
  split at this
  · rename_i hw; rw [if_pos hw]; exact this
  · rename_i hw; rw [if_neg hw]; exact ⟨fun _ _ => trivial, this⟩

theorem WalkR.done {L : Array Bool} {a : Act} {w : World} (hr : Region.ready md ops L = []) (h : Q .normal a w) : ∀ f, WalkR ρ n P md ops Q S R k m f L a w
  | 0 => fun _ _ => ⟨hr, h⟩
  | _ + 1 => fun _ _ => ⟨fun _ => h, by rw [hr]; simp⟩

/-- The beginning, in a round. -/
theorem round_region_walk {l n id : Nat} {a : Act} {w : World} (hm : P.follows .mixedOrders = true) (hS : S w.drew) (hR : R w.drew) (h : WalkR (some l) n P .any ops Q S R k m ops.size (Array.replicate ops.size false) a w.drew) : (Code.region id ops true).wpIn (Fence.wide.inRound l) n P Q a w :=
  wpIn_region_any hm (wpAnyR_of_till _ _ _ _ (h (.start _ _) ⟨fun _ => hS, fun _ => hR⟩))
end

end Go.Proofs.Ytadcfndjbhcfbaa
