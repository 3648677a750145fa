/- A region that draws its order: what holds till one of its operations (a store, say) has come; also within a round of a range over a function. No program. -/
import Derived.OrdersHeld
import Derived.Deep.RegionHeld
import Derived.OrdersIn
import Derived.RangeFuncNested
import Derived.TacticsIn
namespace Go.Proofs.Ytlpeplihbdcklaa
open Go.RowKit

section
variable {P : Program} {ops : Array Oper} {Q : Exit → Act → World → Prop} {md : Region.Mode} {S R : World → Prop} {k m : Nat}

/-- Operation k comes behind i (or there is no k). -/
def waits (md : Region.Mode) (ops : Array Oper) (k i : Nat) : Bool :=
  match ops[k]? with
  | none => true
  | some o => o.after.any fun e => Region.binds md e && e.on == i

/-- Whatever has come, what it waits for has come. -/
structure Shutd (md : Region.Mode) (ops : Array Oper) (L : Array Bool) : Prop where
  size : L.size = ops.size
  down : ∀ j o, ops[j]? = some o → L.getD j false = true → ∀ e ∈ o.after, Region.binds md e = true → L.getD e.on false = true

theorem getD_both {L : Array Bool} {i : Nat} (h : L.getD i true = false) : L.getD i false = false := by
  rcases Nat.lt_or_ge i L.size with hl | hl
  · simpa [hl] using h
  · simp [hl] at h

theorem Shutd.notYet {L : Array Bool} (h : Shutd md ops L) {i : Nat} (hw : waits md ops k i = true) (hi : L.getD i true = false) : L.getD k false = false := by
  cases hk : L.getD k false with
  | false => rfl
  | true =>
    exfalso
    have hlt : k < L.size := by
      rcases Nat.lt_or_ge k L.size with hl | hl
      · exact hl
      · simp [hl] at hk
    unfold waits at hw
    have hlt2 : k < ops.size := by rw [← h.size]; exact hlt
    have ho : ops[k]? = some ops[k] := Array.getElem?_eq_getElem hlt2
    simp only [ho, Array.any_eq_true] at hw
    obtain ⟨n, hn, hb⟩ := hw
    simp only [Bool.and_eq_true, beq_iff_eq] at hb
    have := h.down k _ ho hk _ (Array.getElem_mem hn) hb.1
    rw [hb.2, getD_both hi] at this
    cases this

theorem Shutd.set {L : Array Bool} (h : Shutd md ops L) {j : Nat} (hj : j ∈ Region.ready md ops L) : Shutd md ops (L.setIfInBounds j true) := by
  obtain ⟨h0, o, ho, hall⟩ := mem_ready.1 hj
  refine ⟨by simpa using h.size, fun i oi hi hl e he hb => getD_set_true ?_⟩
  by_cases hij : j = i
  · subst hij
    rw [hi] at ho; cases ho
    exact hall e he hb
  · rw [getD_set_ne false hij] at hl
    exact h.down i oi hi hl e he hb

theorem Shutd.start (md : Region.Mode) (ops : Array Oper) : Shutd md ops (Array.replicate ops.size false) :=
  ⟨by simp, fun j o ho hl => by
    exfalso
    rcases Nat.lt_or_ge j ops.size with h | h
    · simp [h] at hl
    · simp [h] at hl⟩

/-- S holds till k has come, R till m has come. -/
def Till (S R : World → Prop) (k m : Nat) (L : Array Bool) (w : World) : Prop := (L.getD k false = false → S w) ∧ (L.getD m false = false → R w)

/-- Whatever order is picked from here on; behind each operation 'Till' holds. -/
def wpTill (P : Program) (md : Region.Mode) (ops : Array Oper) (Q : Exit → Act → World → Prop) (S R : World → Prop) (k m : Nat) : Nat → Array Bool → Act → World → Prop
  | 0, L, a, w => Region.ready md ops L = [] ∧ Q .normal a w
  | f + 1, L, a, w => (Region.ready md ops L = [] → Q .normal a w) ∧
    ∀ i ∈ Region.ready md ops L, wpOp P ops Q i (fun a' w' => Till S R k m (L.setIfInBounds i true) w' ∧ wpTill P md ops Q S R k m f (L.setIfInBounds i true) a' w') a w

theorem wpAny_of_till : ∀ (f : Nat) (L : Array Bool) (a : Act) (w : World), wpTill P md ops Q S R k m f L a w → wpAny P md ops Q f L a w
  | 0, _, _, _, h => h
  | f + 1, _, _, _, h => ⟨h.1, fun i hi => wpOp_mono (fun a' w' h' => wpAny_of_till f _ a' w' h'.2) (h.2 i hi)⟩

theorem Till.drop {L : Array Bool} {w : World} {i : Nat} (hk : i ≠ k) (hm : i ≠ m) : Till S R k m (L.setIfInBounds i true) w ↔ Till S R k m L w := by
  unfold Till
  rw [getD_set_ne false hk, getD_set_ne false hm]

/-- What operation i may lean on. -/
abbrev Can1 (md : Region.Mode) (ops : Array Oper) (S R : World → Prop) (k m i : Nat) : World → Prop := fun w => (waits md ops k i = true → S w) ∧ (waits md ops m i = true → R w)

theorem wpTill_first {i : Nat} {oi : Oper} {v : Value} (hi : ops[i]? = some oi) (hk : i ≠ k) (hm : i ≠ m) (hsel : ∀ (j : Nat) (o : Oper) cs b, ops[j]? = some o → o.op ≠ .select cs b)
    (hQ : ∀ c a w, Q (.panic c) (a.put oi.dst v) w → Q (.panic c) a w) : ∀ (f : Nat) (L : Array Bool) (a : Act) (w : World),
      (∀ j oj, ops[j]? = some oj → j ≠ i → L.getD j true = false → (∀ e ∈ oj.after, Region.binds md e = true → e.on ≠ i) → oi.apart ops oj = true) →
      i ∈ Region.ready md ops L → Shutd md ops L → YieldsIf P ops (Can1 md ops S R k m i) oi v a → Till S R k m L w →
      wpTill P md ops Q S R k m f (L.setIfInBounds i true) (a.put oi.dst v) w → wpTill P md ops Q S R k m (f + 1) L a w := by
  have now : ∀ (L : Array Bool) (w : World), L.getD i true = false → Shutd md ops L → Till S R k m L w → Can1 md ops S R k m i w :=
    fun L w h0 hc ht => ⟨fun hw => ht.1 (hc.notYet hw h0), fun hw => ht.2 (hc.notYet hw h0)⟩
  intro f
  induction f with
  | zero =>
    intro L a w _ hr hc hy ht H
    refine ⟨fun h => (by rw [h] at hr; cases hr), fun j hj => ?_⟩
    by_cases e : j = i
    · subst e; exact hy.wpOp hi (now L w (mem_ready.1 hr).1 hc ht) ⟨(Till.drop hk hm).2 ht, H⟩
    · exact absurd (H.1 ▸ ready_mono hj e) (by simp)
  | succ f ih =>
    intro L a w hfree hr hc hy ht H
    refine ⟨fun h => (by rw [h] at hr; cases hr), fun j hj => ?_⟩
    by_cases e : j = i
    · subst e; exact hy.wpOp hi (now L w (mem_ready.1 hr).1 hc ht) ⟨(Till.drop hk hm).2 ht, H⟩
    · obtain ⟨hun, oj, hoj, hall⟩ := mem_ready.1 hj
      have hnot : ∀ e ∈ oj.after, Region.binds md e = true → e.on ≠ i := fun x hx hb q => by
        have h1 := hall x hx hb
        rw [q, getD_both (mem_ready.1 hr).1] at h1
        cases h1
      have h2 := wpOp_putIf hoj (hfree j oj hoj e hun hnot) (fun cs b => hsel i oi cs b hi) (fun cs b => hsel j oj cs b hoj) hQ hy (H.2 j (ready_mono hj e))
      refine wpOp_mono (fun a' w' h3 => ?_) h2
      obtain ⟨hy', ht', H'⟩ := h3
      rw [Array.setIfInBounds_comm _ _ (Ne.symm e)] at ht' H'
      replace ht' := (Till.drop hk hm).1 ht'
      refine ⟨ht', ih _ a' w' (fun q oq hq hqi hqu hqn => hfree q oq hq hqi ?_ hqn) (ready_mono hr (Ne.symm e)) (hc.set hj) hy' ht' H'⟩
      by_cases eq : j = q
      · subst eq; exact hun
      · rw [getD_set_ne true eq] at hqu; exact hqu

/-- The walk's own form. -/
def Walk (P : Program) (md : Region.Mode) (ops : Array Oper) (Q : Exit → Act → World → Prop) (S R : World → Prop) (k m f : Nat) (L : Array Bool) (a : Act) (w : World) : Prop :=
  Shutd md ops L → Till S R k m L w → wpTill P md ops Q S R k m f L a w

theorem Walk.take {f i : Nat} {oi : Oper} {v : Value} {L : Array Bool} {a : Act} {w : World} (hi : ops[i]? = some oi) (hne : (i != k && i != m) = true) (hs : Region.noSelect ops = true) (hf : Region.free md ops L i = true)
    (hr : (Region.ready md ops L).contains i = true) (hQ : ∀ c a w, Q (.panic c) (a.put oi.dst v) w → Q (.panic c) a w) (hy : YieldsIf P ops (Can1 md ops S R k m i) oi v a)
    (h : Walk P md ops Q S R k m f (L.setIfInBounds i true) (a.put oi.dst v) w) : Walk P md ops Q S R k m (f + 1) L a w := fun hc ht => by
  simp only [Bool.and_eq_true, bne_iff_ne] at hne
  have hr' : i ∈ Region.ready md ops L := by simpa using hr
  exact wpTill_first hi hne.1 hne.2 (Region.noSelect_spec hs) hQ f L a w (Region.free_spec hi hf) hr' hc hy ht (h (hc.set hr') ((Till.drop hne.1 hne.2).2 ht))

theorem Walk.go {f i : Nat} {o : Oper} {L : Array Bool} {a : Act} {w : World} (hr : Region.ready md ops L = [i]) (ho : ops[i]? = some o)
    (h : ∀ K : Act → World → Prop, Shut (∀ a w, Till S R k m (L.setIfInBounds i true) w → Walk P md ops Q S R k m f (L.setIfInBounds i true) a w → K a w) → if Region.wanted o (yielded ops a.tmps) = true then Oper.wp P o a w K Q else K (a.put o.dst undef) w) :
    Walk P md ops Q S R k m (f + 1) L a w := fun hc ht => by
  refine ⟨fun h0 => (by rw [hr] at h0; cases h0), fun j hj => ?_⟩
  rw [hr] at hj
  simp only [List.mem_singleton] at hj
  subst hj
  have hc' : Shutd md ops (L.setIfInBounds j true) := hc.set (by rw [hr]; simp)
  exact wpOp_step ho (fun K hK => h K (fun a w ht' hw => hK a w ⟨ht', hw hc' ht'⟩))

theorem Walk.done {L : Array Bool} {a : Act} {w : World} (hr : Region.ready md ops L = []) (h : Q .normal a w) : ∀ f, Walk P md ops Q S R k m f L a w
  | 0 => fun _ _ => ⟨hr, h⟩
  | _ + 1 => fun _ _ => ⟨fun _ => h, by rw [hr]; simp⟩

/-- The beginning, in a function. -/
theorem wp_region_till {id : Nat} {a : Act} {w : World} (hm : P.follows .mixedOrders = true) (hS : S w.drew) (hR : R w.drew) (h : Walk P .any ops Q S R k m ops.size (Array.replicate ops.size false) a w.drew) : (Code.region id ops true).wp P Q a w :=
  wp_region_any hm (wpAny_of_till _ _ _ _ (h (.start _ _) ⟨fun _ => hS, fun _ => hR⟩))

/-- No operation defers. -/
def noDefer (ops : Array Oper) : Bool := ops.all fun o => match o.op with | .defer _ => false | _ => true

/-- Any function, any depth; in a round, or in none. -/
abbrev Wide (ρ : Option Nat) : Fence := { Fence.wide with round := ρ }

theorem upon_round {ρ : Option Nat} {n : Nat} {o : Oper} {a : Act} {K : Act → World → Prop} {r : Result Next} (h : o.upon P a K Q r) : o.uponIn (Wide ρ) n P a K Q r := by
  cases r with
  | ok x w =>
    cases x with
    | enter f args => exact ⟨fun q => (by cases q), callsIn_wide.2 h⟩
    | row row args => exact ⟨fun q => (by cases q), fun c cs _ => let ⟨v, w', r, s⟩ := h c cs; ⟨v, w', r, stepsIn_wide.2 s⟩⟩
    | round l' f tmps assign body => exact (h : False).elim
    | _ => exact h
  | halt x w => cases x <;> exact h

theorem semAt_any (ρ : Option Nat) (f : Operand → Value) (o : Oper) (h : ∀ c, o.op ≠ .defer c) : Oper.semAt ρ f o = execOp f o := by
  cases ρ with
  | none => exact Oper.semAt_none f o
  | some l => exact Oper.semAt_some l f o h

theorem wpOp_round {ρ : Option Nat} {n i : Nat} {a : Act} {w : World} {K : Act → World → Prop} (hd : noDefer ops = true) (hQ : ¬ LetsOut Q) (h : wpOp P ops Q i K a w) : wpOpIn (Wide ρ) n P ops Q i K a w := by
  unfold wpOp at h
  unfold wpOpIn
  cases ho : ops[i]? with
  | none => simpa [ho] using h
  | some o =>
    simp only [ho] at h ⊢
    have hno : ∀ c, o.op ≠ .defer c := fun c e => by
      have := Array.all_eq_true_iff_forall_mem.1 hd o (Array.mem_of_getElem? ho)
      simp [e] at this
    split
    · rename_i hw
      simp only [hw, if_true] at h
      rcases h with h | ⟨_, h⟩
      · refine ⟨fun _ _ => trivial, ?_⟩
        rw [show (Wide ρ).round = ρ from rfl, semAt_any ρ _ o hno]
        exact upon_round h
      · exact absurd h hQ
    · rename_i hw
      simp only [hw] at h
      exact ⟨fun _ _ => trivial, h⟩

theorem wpAny_round {ρ : Option Nat} {n : Nat} (hd : noDefer ops = true) (hQ : ¬ LetsOut Q) : ∀ (f : Nat) (L : Array Bool) (a : Act) (w : World), wpAny P md ops Q f L a w → wpAnyIn (Wide ρ) n P md ops Q f L a w
  | 0, _, _, _, h => h
  | f + 1, _, _, _, h => ⟨h.1, fun i hi => wpOp_round hd hQ (wpOp_mono (fun a' w' h' => wpAny_round hd hQ f _ a' w' h') (h.2 i hi))⟩

/-- The beginning, in a round. -/
theorem round_region_till {l n id : Nat} {a : Act} {w : World} (hm : P.follows .mixedOrders = true) (hd : noDefer ops = true) (hQ : ¬ LetsOut Q) (hS : S w.drew) (hR : R w.drew) (h : Walk P .any ops Q S R k m ops.size (Array.replicate ops.size false) a w.drew) : (Code.region id ops true).wpIn (Fence.wide.inRound l) n P Q a w :=
  wpIn_region_any hm (wpAny_round (ρ := some l) hd hQ _ _ _ _ (wpAny_of_till _ _ _ _ (h (.start _ _) ⟨fun _ => hS, fun _ => hR⟩)))

/-- The beginning, in a function that is walked inside the wide fence. -/
theorem wide_region_till {n id : Nat} {a : Act} {w : World} (hm : P.follows .mixedOrders = true) (hd : noDefer ops = true) (hQ : ¬ LetsOut Q) (hS : S w.drew) (hR : R w.drew) (h : Walk P .any ops Q S R k m ops.size (Array.replicate ops.size false) a w.drew) : (Code.region id ops true).wpIn Fence.wide n P Q a w :=
  wpIn_region_any hm (wpAny_round (ρ := none) hd hQ _ _ _ _ (wpAny_of_till _ _ _ _ (h (.start _ _) ⟨fun _ => hS, fun _ => hR⟩)))
end

end Go.Proofs.Ytlpeplihbdcklaa
