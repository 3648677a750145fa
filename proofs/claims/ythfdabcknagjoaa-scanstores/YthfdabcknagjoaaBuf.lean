/- What each call of package buf does: with words that are there, with none; with a recorder, with none. -/
import Derived.Test.YthfdabcknagjoaaView
import Derived.Test.YthfdabcknagjoaaTrace
import Derived.Test.YthfdabcknagjoaaSec
import Derived.OwnWalk
import Derived.Laws.MakeOwn
import Derived.Laws.CopyOwn
import Derived.Laws.Pointers
namespace Go.Proofs.Ythfdabcknagjoaa
open Go.ChangeShapes Go.WideShapes Go.ChangeAt Go.RowKit

/-- A pointer to a recorder, or to none. -/
def ptr (o : Option Nat) : Option Addr := o.map fun b => ⟨b, 0, none⟩
theorem ptr_none : ptr none = none := rfl
theorem ptr_some (b : Nat) : ptr (some b) = some ⟨b, 0, none⟩ := rfl

/-- A recorder with these events; of none there are none. -/
def RcO (w : World) (o : Option Nat) (v : Value) (es : List Ev) : Prop := (o = none ∧ v = .slice none 0 0 ∧ es = []) ∨ ∃ b, o = some b ∧ Rec w b v es

/-- Its blocks. -/
def FootO (o : Option Nat) (v : Value) : Nat → Prop := fun k => ∃ b, o = some b ∧ Foot b v k

/-- The events behind these. -/
def more (o : Option Nat) (es fs : List Ev) : List Ev := if o.isSome then es ++ fs else es

theorem more_none (es fs : List Ev) : more none es fs = es := rfl
theorem more_some (b : Nat) (es fs : List Ev) : more (some b) es fs = es ++ fs := rfl
theorem more_nil (o : Option Nat) (es : List Ev) : more o es [] = es := by cases o <;> simp [more]
theorem more_more (o : Option Nat) (es fs gs : List Ev) : more o (more o es fs) gs = more o es (fs ++ gs) := by cases o <;> simp [more]
theorem more_le (o : Option Nat) (es fs : List Ev) : (more o es fs).length ≤ es.length + fs.length := by cases o <;> simp [more]

theorem RcO.foot_lt {w : World} {o : Option Nat} {v : Value} {es : List Ev} (h : RcO w o v es) {k : Nat} (hk : FootO o v k) : k < w.heap.size := by
  obtain ⟨b, rfl, hf⟩ := hk
  rcases h with ⟨e, -⟩ | ⟨b', e, hr⟩
  · cases e
  · cases e; exact hr.foot_lt hf

theorem RcO.but {S : Nat → Prop} {w w' : World} {o : Option Nat} {v : Value} {es : List Ev} (h : RcO w o v es) (hb : But S w w') (hs : ∀ k, FootO o v k → ¬ S k) : RcO w' o v es := by
  rcases h with h | ⟨b, rfl, hr⟩
  · exact .inl h
  · exact .inr ⟨b, rfl, hr.but hb (fun k hk => hs k ⟨b, rfl, hk⟩)⟩

theorem RcO.nil (w : World) : RcO w none (.slice none 0 0) [] := .inl ⟨rfl, rfl, rfl⟩

/-- The recorder may have moved its list, into new memory only. -/
def Moved (w : World) (v v' : Value) : Prop := v'.ownBlock = v.ownBlock ∨ ∀ x, v'.ownBlock = some x → w.heap.size ≤ x

theorem Moved.refl (w : World) (v : Value) : Moved w v v := .inl rfl

theorem Moved.trans {w w' : World} {u v x : Value} (h : Moved w u v) (hs : w.heap.size ≤ w'.heap.size) (k : Moved w' v x) : Moved w u x := by
  rcases k with e | e
  · rcases h with f | f
    · exact .inl (e.trans f)
    · exact .inr (fun y hy => f y (by rw [← e]; exact hy))
  · exact .inr (fun y hy => Nat.le_trans hs (e y hy))

theorem Moved.foot {w : World} {o : Option Nat} {v v' : Value} (h : Moved w v v') {k : Nat} (hk : k < w.heap.size) (hf : ¬ FootO o v k) : ¬ FootO o v' k := by
  rintro ⟨b, rfl, hf'⟩
  rcases hf' with rfl | hf'
  · exact hf ⟨_, rfl, .inl rfl⟩
  · rcases h with e | e
    · exact hf ⟨_, rfl, .inr (by rw [← e]; exact hf')⟩
    · have := e k hf'; omega

/-- The footprint behind a move: of old blocks only those of before. -/
theorem Moved.foot_back {w : World} {o : Option Nat} {v v' : Value} (h : Moved w v v') {k : Nat} (hk : k < w.heap.size) (hf : FootO o v' k) : FootO o v k := by
  apply Classical.byContradiction
  intro hn
  exact h.foot hk hn hf

/-- Events more: the recorder has es now; all else is as it was. -/
def LaidO (w w' : World) (o : Option Nat) (v : Value) (es : List Ev) : Prop := ∃ v', RcO w' o v' es ∧ Moved w v v' ∧ But (FootO o v) w w'

theorem LaidO.still {w w' : World} {o : Option Nat} {v : Value} {es : List Ev} (h : RcO w o v es) (hb : But Nowhere w w') : LaidO w w' o v es :=
  ⟨v, h.but hb (fun _ _ f => f), .refl _ _, hb.mono (fun _ _ f => f.elim)⟩

theorem LaidO.ofLaid {w w' : World} {b : Nat} {v : Value} {es : List Ev} (h : Laid w w' b v es) : LaidO w w' (some b) v es := by
  obtain ⟨v', h1, h2, h3⟩ := h
  exact ⟨v', .inr ⟨b, rfl, h1⟩, h2, h3.mono (fun k _ hk => ⟨b, rfl, hk⟩)⟩

theorem LaidO.step {w w1 w2 : World} {o : Option Nat} {v : Value} {es : List Ev} (hb : But Nowhere w w1) (h : LaidO w1 w2 o v es) : LaidO w w2 o v es := by
  obtain ⟨v', h1, h2, h3⟩ := h
  exact ⟨v', h1, h2.imp id (fun e x hx => Nat.le_trans hb.size (e x hx)), (hb.mono (fun _ _ f => f.elim)).step h3 (fun _ _ f => f)⟩

theorem LaidO.then {w w1 w2 : World} {o : Option Nat} {v : Value} {es : List Ev} (h : LaidO w w1 o v es) (hb : But Nowhere w1 w2) : LaidO w w2 o v es := by
  obtain ⟨v', h1, h2, h3⟩ := h
  exact ⟨v', h1.but hb (fun _ _ f => f), h2, h3.step hb (fun _ _ f => f.elim)⟩

set_option maxHeartbeats 400000 in
theorem idx_o (o : Option Nat) (v : Value) (es : List Ev) (n : Int) (w : World) (h : RcO w o v es) (hl : es.length ≤ 1000000) : Calls Try.prog 79 #[.pointer (ptr o), .int .i64 n] w
    fun e w' => e = .returned (.tuple #[]) ∧ LaidO w w' o v (more o es [(1, n)]) := by
  rcases h with ⟨rfl, rfl, rfl⟩ | ⟨b, rfl, hr⟩
  · exact (idx_none n w).mono fun _ _ ⟨he, hb⟩ => ⟨he, LaidO.still (.nil _) hb⟩
  · exact (idx_some b v es n w hr hl).mono fun _ _ ⟨he, hb⟩ => ⟨he, .ofLaid hb⟩

theorem tell_o (a : Int) (o : Option Nat) (v : Value) (es : List Ev) (w : World) (h : RcO w o v es) (hl : es.length ≤ 1000000) : Calls Try.prog 16 #[S64 a, .pointer (ptr o)] w
    fun e w' => e = .returned (.int .i64 a) ∧ LaidO w w' o v (more o es [(3, 0)]) := by
  rcases h with ⟨rfl, rfl, rfl⟩ | ⟨b, rfl, hr⟩
  · exact (tell_none a w).mono fun _ _ ⟨he, hb⟩ => ⟨he, LaidO.still (.nil _) hb⟩
  · exact (tell_some a b v es w hr hl).mono fun _ _ ⟨he, hb⟩ => ⟨he, .ofLaid hb⟩

/-- Block b is a buffer of these words, which lie in block g. -/
structure Bf (w : World) (b g : Nat) (r : Option Addr) (l : List Int) : Prop where
  at_ : w.heap[b]? = some (.cells #[.slice (some ⟨g, 0, none⟩) l.length l.length, .pointer r] 84 (0, 0))
  row : Row w g 29 .i64 l
  apart : b ≠ g
  small : l.length ≤ 1048576

theorem Bf.lt {w : World} {b g : Nat} {r : Option Addr} {l : List Int} (h : Bf w b g r l) : b < w.heap.size := (Array.getElem?_eq_some_iff.1 h.at_).1

theorem Bf.words {w : World} {b g : Nat} {r : Option Addr} {l : List Int} (h : Bf w b g r l) : w.cell? ⟨b, 0, none⟩ = some (.slice (some ⟨g, 0, none⟩) l.length l.length) := by
  rw [cell_of_row w b 0 _ _ _ h.at_]; rfl

theorem Bf.rcd {w : World} {b g : Nat} {r : Option Addr} {l : List Int} (h : Bf w b g r l) : w.cell? ⟨b, 1, none⟩ = some (.pointer r) := by
  rw [cell_of_row w b 1 _ _ _ h.at_]; rfl

theorem Bf.but {S : Nat → Prop} {w w' : World} {b g : Nat} {r : Option Addr} {l : List Int} (h : Bf w b g r l) (hb : But S w w') (h1 : ¬ S b) (h2 : ¬ S g) : Bf w' b g r l :=
  ⟨(hb.block b h.lt h1).trans h.at_, h.row.but hb h2, h.apart, h.small⟩

theorem Bf.set {w : World} {b g : Nat} {r : Option Addr} {l : List Int} (h : Bf w b g r l) (i : Nat) (n : Int) : Bf (w.setCell ⟨g, i, none⟩ (.int .i64 n)) b g r (l.set i n) :=
  ⟨by rw [Below.heap_setCell w _ _ b h.apart, h.at_, List.length_set], h.row.set i n, h.apart, by simpa using h.small⟩

/-- A buffer made behind w. -/
structure Made (w w' : World) (b g : Nat) (r : Option Addr) (l : List Int) : Prop where
  bf : Bf w' b g r l
  newb : w.heap.size ≤ b
  newg : w.heap.size ≤ g
  but : But Nowhere w w'

theorem Try.infoSecs : (Try.prog.info? 29).map (fun i => (i.zero, i.size, i.bytes)) = some (some (.agg #[.int .i64 0]), 1, 8) := by kernel_rfl
theorem Try.infoInts : (Try.prog.info? 3).map (fun i => (i.zero, i.size, i.bytes)) = some (some (.int .i64 0), 1, 8) := by kernel_rfl

theorem make_secs (n : Nat) (h : n ≤ 1048576) (w : World) : (Instr.makeSlice 58 (.int .i64 n) (.int .i64 n)).run Try.prog w = .ok (.slice (some ⟨w.heap.size, 0, none⟩) n n) (w.alloc (.cells (ints .i64 (List.replicate n 0)).toArray 29)) := by
  obtain ⟨i0, hi0, hz0, hz1, hz2⟩ := info_parts Try.infoSecs
  have := run_make w 58 29 i0 (.agg #[.int .i64 0]) Try.underlying58 hi0 hz0 .i64 .i64 n n (by omega) (by omega) (by rw [hz2]; omega) (by omega)
  rw [this, hz1, Int.toNat_natCast]
  rw [show (Value.agg #[.int .i64 0]).cells = #[.int .i64 0] from rfl, ints_made]

theorem make_ints (n : Nat) (h : n ≤ 1048576) (w : World) : (Instr.makeSlice 22 (.int .i64 n) (.int .i64 n)).run Try.prog w = .ok (.slice (some ⟨w.heap.size, 0, none⟩) n n) (w.alloc (.cells (ints .i64 (List.replicate n 0)).toArray 3)) := by
  obtain ⟨i0, hi0, hz0, hz1, hz2⟩ := info_parts Try.infoInts
  have := run_make w 22 3 i0 (.int .i64 0) Try.underlying22 hi0 hz0 .i64 .i64 n n (by omega) (by omega) (by rw [hz2]; omega) (by omega)
  rw [this, hz1, Int.toNat_natCast]
  rw [show (Value.int .i64 0).cells = #[.int .i64 0] from rfl, ints_made]

set_option maxHeartbeats 400000 in
theorem newBuf_some (r : Option Addr) (n : Nat) (hn : n ≤ 1048576) (w : World) : Calls Try.prog 30 #[.pointer r, .int .i64 n] w fun e w' => e = .returned (.pointer (some ⟨w.heap.size + 1, 0, none⟩)) ∧ Made w w' (w.heap.size + 1) w.heap.size r (List.replicate n 0) := by
  have hm := make_secs n hn
  have h0 : ¬ ((n : Int) < 0) := by omega
  have h1 : ¬ ((1048576 : Int) < n) := by omega
  go_enter Try.func30, Try.ntmps30
  go_wp2
  go_ret
  have hb := (But.refl Nowhere w).alloc (.cells (ints .i64 (List.replicate n 0)).toArray 29)
  refine ⟨rfl, ⟨?_, ?_, by simp, by simpa using hn⟩, by simp, by simp, hb.alloc _⟩
  · have := heap_alloc_new (w.alloc (.cells (ints .i64 (List.replicate n 0)).toArray 29)) (.cells #[.slice (some ⟨w.heap.size, 0, none⟩) n n, .pointer r] 84)
    simpa using this
  · exact ((But.refl Nowhere _).alloc _).block _ (by simp) (fun f => f) |>.trans (heap_alloc_new w _)

set_option maxHeartbeats 400000 in
theorem newBuf_none (r : Option Addr) (n : Int) (hn : n < 0 ∨ 1048576 < n) (w : World) : Calls Try.prog 30 #[.pointer r, .int .i64 n] w fun e w' => e = .returned (.pointer none) ∧ w' = w := by
  by_cases h0 : n < 0
  · clear hn
    go_enter Try.func30, Try.ntmps30
    go_wp2
    go_ret
    exact ⟨rfl, rfl⟩
  · have h1 : 1048576 < n := by omega
    clear hn
    go_enter Try.func30, Try.ntmps30
    go_wp2
    go_ret
    exact ⟨rfl, rfl⟩

set_option maxHeartbeats 400000 in
theorem allB_some {w : World} {b g : Nat} {r : Option Addr} {l : List Int} (h : Bf w b g r l) : Calls Try.prog 61 #[.pointer (some ⟨b, 0, none⟩)] w fun e w' => e = .returned (.slice (some ⟨g, 0, none⟩) l.length l.length) ∧ w' = w := by
  have hc := h.words
  go_enter Try.func61, Try.ntmps61
  go_wp2
  go_ret
  exact ⟨rfl, rfl⟩

set_option maxHeartbeats 400000 in
theorem allB_none (w : World) : Calls Try.prog 61 #[.pointer none] w fun e w' => e = .returned (.slice none 0 0) ∧ w' = w := by
  go_enter Try.func61, Try.ntmps61
  go_wp2
  go_ret
  exact ⟨rfl, rfl⟩

set_option maxHeartbeats 400000 in
theorem len_some {w : World} {b g : Nat} {r : Option Addr} {l : List Int} (h : Bf w b g r l) : Calls Try.prog 60 #[.pointer (some ⟨b, 0, none⟩)] w fun e w' => e = .returned (.int .i64 l.length) ∧ w' = w := by
  go_enter Try.func60, Try.ntmps60
  go_wp2_with fail
  refine (allB_some h).mono ?_
  rintro e w' ⟨rfl, rfl⟩
  go_wp2
  go_ret
  exact ⟨rfl, rfl⟩

set_option maxHeartbeats 400000 in
theorem len_none (w : World) : Calls Try.prog 60 #[.pointer none] w fun e w' => e = .returned (.int .i64 0) ∧ w' = w := by
  go_enter Try.func60, Try.ntmps60
  go_wp2_with fail
  refine (allB_none _).mono ?_
  rintro e w' ⟨rfl, rfl⟩
  go_wp2
  go_ret
  exact ⟨rfl, rfl⟩

set_option maxHeartbeats 400000 in
theorem has_yes {w : World} {b g : Nat} {r : Option Addr} {l : List Int} (h : Bf w b g r l) (i : Int) (h0 : 0 ≤ i) (h1 : i < l.length) : Calls Try.prog 78 #[.pointer (some ⟨b, 0, none⟩), .int .i64 i] w fun e w' => e = .returned (.bool true) ∧ w' = w := by
  go_enter Try.func78, Try.ntmps78
  go_wp2_with (go_at_call 60; refine (len_some h).mono ?_; rintro e w' ⟨rfl, rfl⟩)
  go_ret
  exact ⟨rfl, rfl⟩

set_option maxHeartbeats 400000 in
theorem has_no {w : World} {b g : Nat} {r : Option Addr} {l : List Int} (h : Bf w b g r l) (i : Int) (h0 : i < 0 ∨ l.length ≤ i) : Calls Try.prog 78 #[.pointer (some ⟨b, 0, none⟩), .int .i64 i] w fun e w' => e = .returned (.bool false) ∧ w' = w := by
  by_cases h1 : 0 ≤ i
  · have h2 : decide (i < (l.length : Int)) = false := by simp; omega
    clear h0
    go_enter Try.func78, Try.ntmps78
    go_wp2_with (go_at_call 60; refine (len_some h).mono ?_; rintro e w' ⟨rfl, rfl⟩)
    go_ret
    exact ⟨rfl, rfl⟩
  · clear h0
    go_enter Try.func78, Try.ntmps78
    go_wp2
    go_ret
    exact ⟨rfl, rfl⟩

set_option maxHeartbeats 400000 in
theorem has_none (i : Int) (w : World) : Calls Try.prog 78 #[.pointer none, .int .i64 i] w fun e w' => e = .returned (.bool false) ∧ w' = w := by
  by_cases h1 : 0 ≤ i
  · have h2 : decide (i < 0) = false := by simp; omega
    go_enter Try.func78, Try.ntmps78
    go_wp2_with (go_at_call 60; refine (len_none _).mono ?_; rintro e w' ⟨rfl, rfl⟩)
    go_ret
    exact ⟨rfl, rfl⟩
  · go_enter Try.func78, Try.ntmps78
    go_wp2
    go_ret
    exact ⟨rfl, rfl⟩

set_option maxHeartbeats 400000 in
theorem trace_some {w : World} {b g : Nat} {r : Option Addr} {l : List Int} (h : Bf w b g r l) : Calls Try.prog 28 #[.pointer (some ⟨b, 0, none⟩)] w fun e w' => e = .returned (.pointer r) ∧ w' = w := by
  have hc := h.rcd
  go_enter Try.func28, Try.ntmps28
  go_wp2
  go_ret
  exact ⟨rfl, rfl⟩

set_option maxHeartbeats 400000 in
theorem trace_none (w : World) : Calls Try.prog 28 #[.pointer none] w fun e w' => e = .returned (.pointer none) ∧ w' = w := by
  go_enter Try.func28, Try.ntmps28
  go_wp2
  go_ret
  exact ⟨rfl, rfl⟩

/-- The word at a place; 0 where there is none. -/
def word (l : List Int) (i : Int) : Int := if 0 ≤ i then l[i.toNat]?.getD 0 else 0
/-- The words, one of them laid. -/
def lay (l : List Int) (i n : Int) : List Int := if 0 ≤ i then l.set i.toNat n else l
/-- What is seen of it. -/
def seenAt (l : List Int) (i : Int) : List Ev := if 0 ≤ i ∧ i < l.length then [(1, i)] else []

theorem lay_length (l : List Int) (i n : Int) : (lay l i n).length = l.length := by unfold lay; split <;> simp
theorem word_at (l : List Int) (k : Nat) (h : k < l.length) : word l k = l[k] := by simp [word, h]
theorem word_out (l : List Int) (i : Int) (h : i < 0 ∨ l.length ≤ i) : word l i = 0 := by
  unfold word
  split
  · rw [List.getElem?_eq_none (by omega)]; rfl
  · rfl
theorem lay_at (l : List Int) (k : Nat) (n : Int) : lay l k n = l.set k n := by simp [lay]
theorem lay_out (l : List Int) (i n : Int) (h : i < 0 ∨ l.length ≤ i) : lay l i n = l := by
  unfold lay
  split
  · rw [List.set_eq_of_length_le (by omega)]
  · rfl
theorem seenAt_in (l : List Int) (i : Int) (h0 : 0 ≤ i) (h1 : i < l.length) : seenAt l i = [(1, i)] := by simp [seenAt, h0, h1]
theorem seenAt_out (l : List Int) (i : Int) (h : i < 0 ∨ l.length ≤ i) : seenAt l i = [] := by
  unfold seenAt
  rw [if_neg (by omega)]

set_option maxHeartbeats 800000 in
theorem get_o {w : World} {b g : Nat} {o : Option Nat} {v : Value} {es : List Ev} {l : List Int} (h : Bf w b g (ptr o) l) (hr : RcO w o v es) (hb : ¬ FootO o v b) (hg : ¬ FootO o v g) (hl : es.length ≤ 1000000) (i : Int) :
    Calls Try.prog 77 #[.pointer (some ⟨b, 0, none⟩), .int .i64 i] w fun e w' => e = .returned (S64 (word l i)) ∧ LaidO w w' o v (more o es (seenAt l i)) := by
  by_cases hin : 0 ≤ i ∧ i < l.length
  · obtain ⟨h0, h1⟩ := hin
    obtain ⟨k, rfl⟩ : ∃ k : Nat, i = (k : Int) := ⟨i.toNat, by omega⟩
    have hk : k < l.length := by omega
    rw [seenAt_in l _ h0 h1, word_at l k hk]
    have b1 := (But.refl Nowhere w).alloc (.cells #[.int .i64 0] 29)
    have H1 := h.but b1 (not_nowhere _) (not_nowhere _)
    have R1 := hr.but b1 (fun _ _ f => f)
    have hc := H1.words
    have hrc := H1.rcd
    go_enter Try.func77, Try.ntmps77
    go_wp2_with fail
    refine (has_yes H1 _ h0 h1).mono ?_
    rintro e w' ⟨rfl, rfl⟩
    go_wp2_with fail
    refine (idx_o o v es _ _ R1 hl).mono ?_
    rintro e w2 ⟨rfl, hL⟩
    have hL0 := hL
    obtain ⟨v', r2, m2, b2⟩ := hL
    have H2 := H1.but b2 hb hg
    have c1 := H2.words
    have c2 := H2.row.cell k hk
    have kR := b2.keeps (p := ⟨w.heap.size, 0, none⟩) (v := .int .i64 0) (fun f => by have := hr.foot_lt f; simp at this) (by go_simp)
    have fR := b2.thaws (p := ⟨w.heap.size, 0, none⟩) (v := .int .i64 0) (fun f => by have := hr.foot_lt f; simp at this) (by go_simp) (by go_simp)
    have nR : ¬ FootO o v' w.heap.size := m2.foot (by simp) (fun f => by have := hr.foot_lt f; simp at this)
    go_wp2_with fail
    refine bodyPost_ret (results_sec rfl _ _ _ l[k] rfl (cell_set kR)) rfl ⟨rfl, ?_⟩
    have b3 := But.setCell (S := fun x => x = w.heap.size) (But.refl _ w2) (p := ⟨w.heap.size, 0, none⟩) (fun _ => rfl) (.int .i64 l[k])
    exact ⟨v', r2.but b3 (fun k hk e => nR (by rw [← e]; exact hk)), m2.imp id (fun e x hx => Nat.le_trans b1.size (e x hx)), ((b1.mono (fun _ _ f => f.elim)).step b2 (fun _ _ f => f)).step b3 (fun k hk e => by omega)⟩
  · have hout : i < 0 ∨ l.length ≤ i := by omega
    rw [seenAt_out l i hout, word_out l i hout, more_nil]
    have b1 := (But.refl Nowhere w).alloc (.cells #[.int .i64 0] 29)
    have H1 := h.but b1 (not_nowhere _) (not_nowhere _)
    clear hin
    go_enter Try.func77, Try.ntmps77
    go_wp2_with fail
    refine (has_no H1 _ hout).mono ?_
    rintro e w' ⟨rfl, rfl⟩
    go_wp2_with fail
    refine (of_any _ _).mono ?_
    rintro e w2 ⟨rfl, b2⟩
    have kR := b2.keeps (p := ⟨w.heap.size, 0, none⟩) (v := .int .i64 0) (not_nowhere _) (by go_simp)
    have fR := b2.thaws (p := ⟨w.heap.size, 0, none⟩) (v := .int .i64 0) (not_nowhere _) (by go_simp) (by go_simp)
    go_wp2_with fail
    refine bodyPost_ret (results_sec rfl _ _ _ 0 rfl (cell_set kR)) rfl ⟨rfl, LaidO.still hr ?_⟩
    exact (b1.trans b2).setCell (fun q => by exfalso; simp at q) _

end Go.Proofs.Ythfdabcknagjoaa
