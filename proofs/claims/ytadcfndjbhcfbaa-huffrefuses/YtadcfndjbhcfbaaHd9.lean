/- Maps whose keys are two yes or no: a new entry, a look at one. Regions that draw their order, by what holds whatever has come. -/
import Derived.Great.BuildSlice
import Derived.Laws.StructEq
import Derived.RangeFuncRecord
import Derived.Test.YtadcfndjbhcfbaaHu4
import Derived.Test.YtadcfndjbhcfbaaHd1
namespace Go.Proofs.Ytadcfndjbhcfbaa
set_option linter.unusedVariables false
open Go.ChangeShapes Go.WideShapes Go.ChangeAt Go.RowKit

/-- A key. -/
abbrev kd (a b : Bool) : Value := .agg #[.bool a, .bool b]

theorem run_equalIn_bool (w : World) (d : Nat) (t : TypeId) (a b : Bool) (h : Try.prog.underlying t = some .bool) : (Op.equalIn (d + 1) t (.bool a) (.bool b)).run Try.prog w = .ok (a == b) w := by
  rw [Op.equalIn]
  simp [Sem.run_bind, run_underlying h]

theorem kd_fields : (Try.prog.fieldsOf 49).toList = [{ name := "first", type := 4, offset := 0, embedded := false, tag := "", pkgPath := "cyanotype/huff", byteOffset := 0 }, { name := "luma", type := 4, offset := 1, embedded := false, tag := "", pkgPath := "cyanotype/huff", byteOffset := 1 }] := by kernel_rfl

theorem part_bool (w : World) (cs : Array Value) (i : Nat) (b : Bool) (h : cs[i]? = some (.bool b)) : (part 4 cs i).run Try.prog w = .ok (.bool b) w := by
  have he := Try.underlying4
  simp [part, isAgg, run_underlying he, h]

theorem equal_kd (a b c e : Bool) (d : Nat) (w : World) : (Op.equalIn (d + 3) 49 (kd a b) (kd c e)).run Try.prog w = .ok (a == c && b == e) w := by
  rw [run_equalIn_struct w (d + 2) 49 _ _ (by kernel_rfl) (by kernel_rfl)]
  rw [kd_fields]
  have he := Try.underlying4
  have p0 := part_bool w #[.bool a, .bool b] 0 a rfl
  have p1 := part_bool w #[.bool a, .bool b] 1 b rfl
  have q0 := part_bool w #[.bool c, .bool e] 0 c rfl
  have q1 := part_bool w #[.bool c, .bool e] 1 e rfl
  have e0 := run_equalIn_bool w (d + 1) 4 a c he
  have e1 := run_equalIn_bool w (d + 1) 4 b e he
  cases a <;> cases b <;> cases c <;> cases e <;> simp [Op.eqFields, p0, p1, q0, q1, e0, e1]

theorem check_bool (x : Bool) (n : Nat) (a : Bool) (w : World) : (Instr.checkKey x (n + 1) 4 (.bool a)).run Try.prog w = .ok () w := by
  have he := Try.underlying4
  rw [Instr.checkKey]
  simp [Sem.run_bind, run_underlying he]

theorem check_kd (x : Bool) (a b : Bool) (w : World) : (Instr.checkKey x 10000 49 (kd a b)).run Try.prog w = .ok () w := by
  have hk := Try.underlying49
  have he := Try.underlying4
  have p0 := part_bool w #[.bool a, .bool b] 0 a rfl
  have p1 := part_bool w #[.bool a, .bool b] 1 b rfl
  have c0 := check_bool x 9998 a w
  have c1 := check_bool x 9998 b w
  rw [show (10000 : Nat) = 9999 + 1 from rfl, Instr.checkKey]
  simp [Sem.run_bind, run_underlying hk, p0, p1, c0, c1]

/-- All keys are such. -/
def Kds (es : List MapEntry) : Prop := ∀ e ∈ es, ∃ c d, e.key = kd c d

theorem asking_none (a b : Bool) (w : World) : ∀ (es : List MapEntry) (i : Nat) (_ : Kds es) (_ : ∀ e ∈ es, e.key ≠ kd a b), (Instr.findAsking 49 (kd a b) es i).run Try.prog w = .ok none w
  | [], i, _, _ => rfl
  | e :: es, i, hk, hn => by
    obtain ⟨c, d, hcd⟩ := hk e (by simp)
    have hne := hn e (by simp)
    have hE := equal_kd a b c d 9997 w
    have hf : (a == c && b == d) = false := by
      rw [hcd] at hne
      cases a <;> cases b <;> cases c <;> cases d <;> simp_all
    have ih := asking_none a b w es (i + 1) (fun x hx => hk x (by simp [hx])) (fun x hx => hn x (by simp [hx]))
    rw [Instr.findAsking, hcd]
    simp only [Op.equal, Op.maxDepth, Sem.run_bind, hE, Result.andThen_ok, hf, Bool.false_eq_true, if_false]
    exact ih

theorem asking_some (a b : Bool) (v : Value) (w : World) : ∀ (es : List MapEntry) (i : Nat) (_ : Kds es) (_ : ∀ e ∈ es, e.key = kd a b → e.val = v) (_ : ∃ e ∈ es, e.key = kd a b), ∃ j, (Instr.findAsking 49 (kd a b) es i).run Try.prog w = .ok (some (j, v)) w
  | [], i, _, _, h => by obtain ⟨e, he, _⟩ := h; simp at he
  | e :: es, i, hk, hv, hx => by
    obtain ⟨c, d, hcd⟩ := hk e (by simp)
    have hE := equal_kd a b c d 9997 w
    by_cases hq : e.key = kd a b
    · have hf : (a == c && b == d) = true := by
        rw [hcd] at hq
        cases a <;> cases b <;> cases c <;> cases d <;> simp_all
      refine ⟨i, ?_⟩
      have hval := hv e (by simp) hq
      rw [Instr.findAsking, hcd]
      simp only [Op.equal, Op.maxDepth, Sem.run_bind, hE, Result.andThen_ok, hf, if_true]
      rw [hval]
      rfl
    · have hf : (a == c && b == d) = false := by
        rw [hcd] at hq
        cases a <;> cases b <;> cases c <;> cases d <;> simp_all
      obtain ⟨j, ih⟩ := asking_some a b v w es (i + 1) (fun x hx => hk x (by simp [hx])) (fun x hx => hv x (by simp [hx])) (by
        obtain ⟨y, hy, hyk⟩ := hx
        rcases List.mem_cons.1 hy with rfl | hy
        · exact absurd hyk hq
        · exact ⟨y, hy, hyk⟩)
      refine ⟨j, ?_⟩
      rw [Instr.findAsking, hcd]
      simp only [Op.equal, Op.maxDepth, Sem.run_bind, hE, Result.andThen_ok, hf, Bool.false_eq_true, if_false]
      exact ih

theorem now_none {es : List MapEntry} (a b : Bool) (i : Nat) (fs : Array Field) (hne : es ≠ []) : Instr.findNow (.struct fs) (kd a b) es i = none := by
  cases es with
  | nil => exact absurd rfl hne
  | cons e es => rfl

theorem find_none (a b : Bool) (w : World) (es : List MapEntry) (hk : Kds es) (hn : ∀ e ∈ es, e.key ≠ kd a b) : (Instr.findKey 49 (kd a b) es).run Try.prog w = .ok none w := by
  have hu := Try.underlying49
  unfold Instr.findKey
  simp only [Sem.run_bind, run_underlying hu, Result.andThen_ok]
  by_cases h : es = []
  · subst h; rfl
  · rw [now_none a b 0 _ h]
    exact asking_none a b w es 0 hk hn

theorem find_some (a b : Bool) (v : Value) (w : World) (es : List MapEntry) (hk : Kds es) (hv : ∀ e ∈ es, e.key = kd a b → e.val = v) (hx : ∃ e ∈ es, e.key = kd a b) : ∃ j, (Instr.findKey 49 (kd a b) es).run Try.prog w = .ok (some (j, v)) w := by
  have hu := Try.underlying49
  unfold Instr.findKey
  simp only [Sem.run_bind, run_underlying hu, Result.andThen_ok]
  have h : es ≠ [] := by
    obtain ⟨e, he, _⟩ := hx
    intro q
    rw [q] at he
    simp at he
  rw [now_none a b 0 _ h]
  exact asking_some a b v w es 0 hk hv hx

theorem run_get (w : World) (M : Nat) (es : Array MapEntry) (clk : Nat) (h : w.heap[M]? = some (.map es clk)) : (getObj M).run Try.prog w = .ok (.map es clk) w := by simp [getObj, Sem.run, h]
theorem run_set (w : World) (M : Nat) (es : Array MapEntry) (clk : Nat) (o' : Obj) (h : w.heap[M]? = some (.map es clk)) : (setObj M o').run Try.prog w = .ok () (w.putObj M o') := by simp [setObj, Sem.run, h, World.putObj]

/-- A new entry. -/
theorem run_entry (a b : Bool) (v : Value) (w : World) (M : Nat) (es : Array MapEntry) (clk : Nat) (hM : w.heap[M]? = some (.map es clk)) (hk : Kds es.toList) (hn : ∀ e ∈ es.toList, e.key ≠ kd a b) :
    (Instr.mapUpdate 46 (.map (some M)) (kd a b) v).run Try.prog w = .ok () (w.putObj M (.map (es.push ⟨kd a b, v, clk⟩) (clk + 1))) := by
  have hu := Try.underlying46
  have h1 := run_get w M _ _ hM
  have h2 := check_kd false a b w
  have h3 := find_none a b w es.toList hk hn
  have h4 := run_set w M _ _ (.map (es.push ⟨kd a b, v, clk⟩) (clk + 1)) hM
  unfold Instr.mapUpdate
  simp only [Sem.run_bind, run_underlying hu, Result.andThen_ok, h1, h2, h3, h4]

/-- A look at an entry that is there. -/
theorem run_look (a b : Bool) (v : Value) (w : World) (M : Nat) (es : Array MapEntry) (clk : Nat) (hM : w.heap[M]? = some (.map es clk)) (hk : Kds es.toList) (hv : ∀ e ∈ es.toList, e.key = kd a b → e.val = v) (hx : ∃ e ∈ es.toList, e.key = kd a b) :
    (Instr.lookup 46 (.map (some M)) (kd a b) false).run Try.prog w = .ok v w := by
  have hu := Try.underlying46
  have h1 := run_get w M _ _ hM
  have h2 := check_kd es.isEmpty a b w
  obtain ⟨j, h3⟩ := find_some a b v w es.toList hk hv hx
  unfold Instr.lookup
  simp [Sem.run_bind, run_underlying hu, h1, h2, h3]

/-- How many have not come. -/
def left (L : Array Bool) : Nat := L.toList.count false

theorem left_set {L : Array Bool} {i : Nat} (h : L.getD i true = false) : left (L.setIfInBounds i true) + 1 = left L := by
  have hl : i < L.size := by
    rcases Nat.lt_or_ge i L.size with hl | hl
    · exact hl
    · simp [hl] at h
  have he : L.toList[i]'(by simpa using hl) = false := by simpa [hl] using h
  unfold left
  rw [Array.toList_setIfInBounds]
  have hpos : 0 < L.toList.count false := List.count_pos_iff.2 (he ▸ List.getElem_mem _)
  rw [List.count_set (by simpa using hl), he]
  simp only [beq_self_eq_true, if_true, show (true == false) = false from rfl, Bool.false_eq_true, if_false]
  omega

/-- A region that draws its order: whatever has come, Inv holds. -/
theorem Walk.byInv {P : Program} {md : Region.Mode} {ops : Array Oper} {Q : Exit → Act → World → Prop} (Inv : Array Bool → Act → World → Prop)
    (hstep : ∀ L a w i, Inv L a w → i ∈ Region.ready md ops L → wpOp P ops Q i (fun a' w' => Inv (L.setIfInBounds i true) a' w') a w)
    (hend : ∀ L a w, Inv L a w → Region.ready md ops L = [] → Q .normal a w) :
    ∀ (f : Nat) (L : Array Bool) (a : Act) (w : World), left L ≤ f → Inv L a w → Walk P md ops Q (fun _ => True) (fun _ => True) 100 100 f L a w := by
  intro f
  induction f with
  | zero =>
    intro L a w hf hi _ _
    have hr : Region.ready md ops L = [] := by
      apply List.eq_nil_iff_forall_not_mem.2
      intro i hm
      have := left_set (mem_ready.1 hm).1
      omega
    exact ⟨hr, hend L a w hi hr⟩
  | succ f ih =>
    intro L a w hf hi hs ht
    refine ⟨fun hr => hend L a w hi hr, fun i hm => ?_⟩
    refine wpOp_mono (fun a' w' h' => ?_) (hstep L a w i hi hm)
    have := left_set (mem_ready.1 hm).1
    exact ⟨⟨fun _ => trivial, fun _ => trivial⟩, ih _ a' w' (by omega) h' (hs.set hm) ⟨fun _ => trivial, fun _ => trivial⟩⟩

/-- Nothing is ready: all has come. -/
theorem all_come {md : Region.Mode} {ops : Array Oper} {L : Array Bool} (hd : ∀ (i : Nat) (o : Oper), ops[i]? = some o → ∀ e ∈ o.after, Region.binds md e = true → e.on < i) (hz : L.size = ops.size) (hr : Region.ready md ops L = []) : ∀ i, i < ops.size → L.getD i false = true := by
  intro i
  induction i using Nat.strongRecOn with
  | _ i ih =>
    intro hi
    cases h : L.getD i false with
    | true => rfl
    | false =>
      exfalso
      have hm : i ∈ Region.ready md ops L := mem_ready.2 ⟨by simpa [hz ▸ hi] using h, ops[i], Array.getElem?_eq_getElem hi, fun e he hb => ih e.on (hd i _ (Array.getElem?_eq_getElem hi) e he hb) (by have := hd i _ (Array.getElem?_eq_getElem hi) e he hb; omega)⟩
      rw [hr] at hm
      cases hm

end Go.Proofs.Ytadcfndjbhcfbaa
