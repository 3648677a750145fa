/- What the helpers of layer 5's statements answer: known, of; how a buffer stands behind a scan. -/
import Derived.Test.YthfdabcknagjoaaScan5
import Derived.Test.YthfdabcknagjoaaBufBoth
import Derived.Test.YthfdabcknagjoaaBufTwo
namespace Go.Proofs.Ythfdabcknagjoaa
open Go.ChangeShapes Go.WideShapes Go.ChangeAt Go.RowKit

/-- The places of a window, as a stage's chapter clips them. -/
abbrev lo (n : Nat) (f : Int) : Int := clipF f 0 n
abbrev wide (n : Nat) (f u : Int) : Nat := (clipF u 0 n - clipF f 0 n).toNat
def seenW (c : Nat) (n : Nat) (f u : Int) : List Ev := scanE c (clipF f 0 n) (clipF u 0 n) (wide n f u)

theorem Bo.load {w0 w : World} {o : Nat} {v : Value} {es : List Ev} {b g : Nat} {l : List Int} {L : Nat} (h : Bo w0 w o v es b g l) (hn : l.length = L) (hI : I64s l) (hl : es.length + 3 * l.length ≤ 900000) (a f u : Int) (ha : I64 a) :
    Calls Try.prog 23 #[.pointer (some ⟨b, 0, none⟩), S64 a, .int .i64 f, .int .i64 u] w fun e w' => e = .returned (S64 (acc (ldF a) l (lo L f) (wide L f u))) ∧ ∃ v', Bo w0 w' o v' (es ++ seenW 1 L f u) b g l ∧ Moved w v v' ∧ But (FootB o v b g) w w' :=
  (load_o h.bf h.rcO h.ob h.og hI hl a f u ha).mono fun _ _ ⟨he, hL⟩ => by subst hn; exact ⟨he, h.laid hL⟩

theorem Bo.take {w0 w : World} {o : Nat} {v : Value} {es : List Ev} {b g : Nat} {l : List Int} {L : Nat} (h : Bo w0 w o v es b g l) (hn : l.length = L) (hl : es.length + 3 * l.length ≤ 900000) (a n f u : Int) :
    Calls Try.prog 26 #[.pointer (some ⟨b, 0, none⟩), S64 a, .int .i64 n, .int .i64 f, .int .i64 u] w fun e w' => e = .returned (S64 (acc (takeF a (clipF n 0 8)) l (lo L f) (wide L f u))) ∧ ∃ v', Bo w0 w' o v' (es ++ seenW 1 L f u) b g l ∧ Moved w v v' ∧ But (FootB o v b g) w w' :=
  (take_o h.bf h.rcO h.ob h.og hl a n f u).mono fun _ _ ⟨he, hL⟩ => by subst hn; exact ⟨he, h.laid hL⟩

theorem Bo.store {w0 w : World} {o : Nat} {v : Value} {es : List Ev} {b g : Nat} {l : List Int} {L : Nat} (h : Bo w0 w o v es b g l) (hn : l.length = L) (hI : I64s l) (hl : es.length + 3 * l.length ≤ 900000) (a s f u : Int) (ha : I64 a) (hs : I64 s) :
    Calls Try.prog 24 #[.pointer (some ⟨b, 0, none⟩), S64 a, S64 s, .int .i64 f, .int .i64 u] w fun e w' => e = .returned (.tuple #[]) ∧ ∃ v', Bo w0 w' o v' (es ++ seenW 2 L f u) b g (upd (stF a s) l (lo L f) (wide L f u)) ∧ Moved w v v' ∧ But (FootB o v b g) w w' :=
  (store_o h.bf h.rcO h.ob h.og hI hl a s f u ha hs).mono fun _ _ ⟨he, hL⟩ => by subst hn; exact ⟨he, h.set hL⟩

theorem Bo.put {w0 w : World} {o : Nat} {v : Value} {es : List Ev} {b g : Nat} {l : List Int} {L : Nat} (h : Bo w0 w o v es b g l) (hn : l.length = L) (hI : I64s l) (hl : es.length + 3 * l.length ≤ 900000) (a s n f u : Int) :
    Calls Try.prog 25 #[.pointer (some ⟨b, 0, none⟩), S64 a, S64 s, .int .i64 n, .int .i64 f, .int .i64 u] w fun e w' => e = .returned (.tuple #[]) ∧ ∃ v', Bo w0 w' o v' (es ++ seenW 2 L f u) b g (upd (putF a s (clipF n 0 8)) l (lo L f) (wide L f u)) ∧ Moved w v v' ∧ But (FootB o v b g) w w' :=
  (put_o h.bf h.rcO h.ob h.og hI hl a s n f u).mono fun _ _ ⟨he, hL⟩ => by subst hn; exact ⟨he, h.set hL⟩

theorem seenW_length (c n : Nat) (f u : Int) : (seenW c n f u).length ≤ c * n + 1 := by
  have h1 := clip_bounds f n
  have h2 := clip_bounds u n
  unfold seenW
  rw [scanE_length]
  have : wide n f u ≤ n := by unfold wide; omega
  have := Nat.mul_le_mul_left c this
  omega

theorem cnt_rep (k : Int) (c : Nat) (A : Int) (n : Nat) : cnt k (rep c A n) = if k = 1 then (c * n : Nat) else 0 := by
  induction n with
  | zero => simp [rep, cnt]
  | succ n ih =>
    rw [rep, cnt_app, ih]
    have : cnt k (List.replicate c ((1 : Int), A + n)) = if k = 1 then (c : Int) else 0 := by
      unfold cnt
      by_cases h : k = 1
      · subst h; simp
      · have : ((1 : Int) == k) = false := by simp; omega
        simp [h, this]
    rw [this]
    split
    · rw [Nat.mul_succ]; omega
    · rfl

theorem cnt_seenW (k : Int) (c n : Nat) (f u : Int) : cnt k (seenW c n f u) = (if k = 2 then 1 else 0) + if k = 1 then (c * wide n f u : Nat) else 0 := by
  unfold seenW scanE
  rw [show ∀ (x : Ev) (l : List Ev), x :: l = [x] ++ l from fun _ _ => rfl, cnt_app, cnt_rep]
  congr 1
  unfold cnt
  by_cases h : k = 2
  · subst h; simp
  · have : ((2 : Int) == k) = false := by simp; omega
    simp [h, this]

set_option maxHeartbeats 1600000 in
set_option maxRecDepth 100000 in
theorem known05_any (w : World) : Calls Try.prog 11 #[] w fun e w' => e = .returned (.bool true) ∧ But Nowhere w w' := by
  go_enter Try.func11, Try.ntmps11
  go_wp2_with fail
  refine (new_any _).mono ?_
  rintro e w1 ⟨rfl, h1⟩
  go_wp2_with fail
  refine (of_any _ _).mono ?_
  rintro e w2 ⟨rfl, b2⟩
  replace h1 := h1.step b2
  clear b2 w1
  go_wp2_with fail
  refine (of_any _ _).mono ?_
  rintro e w3 ⟨rfl, b3⟩
  replace h1 := h1.step b3
  clear b3 w2
  have rw3 : Row (w3.alloc (.cells #[.int .i64 5, .int .i64 7] 29)) w3.heap.size 29 .i64 [5, 7] := heap_alloc_new w3 _
  replace h1 := h1.step ((But.refl Nowhere _).alloc (.cells #[.int .i64 5, .int .i64 7] 29))
  go_wp2_with fail
  refine (ofBuf_some (r := ptr (some w.heap.size)) (rw3.view 2) (by simp)).mono ?_
  rintro e w4 ⟨rfl, m4⟩
  have h := Bo.start h1 m4
  clear h1 m4 rw3
  generalize (w3.alloc (.cells #[.int .i64 5, .int .i64 7] 29)).heap.size = g at *
  go_wp2_with fail
  refine (of_any _ _).mono ?_
  rintro e w5 ⟨rfl, b5⟩
  replace h := h.step b5
  clear b5 w4
  have hld := h.load (L := 2) rfl (by intro x hx; simp at hx; omega) (by simp) 1 0 2 (by omega)
  rw [show acc (ldF 1) [5, 7] (lo 2 0) (wide 2 0 2) = 7 from rfl, show ([] ++ seenW 1 2 0 2 : List Ev) = [(2, 2), (1, 0), (1, 1)] from rfl] at hld
  go_wp2_with fail
  refine hld.mono ?_
  rintro e w6 ⟨rfl, v6, h6, -, -⟩
  clear h hld w5
  have kX : (w6.alloc (.cells #[.int .i64 7] 29)).cell? ⟨w6.heap.size, 0, none⟩ = some (.int .i64 7) := by go_simp
  replace h6 := h6.step ((But.refl Nowhere _).alloc (.cells #[.int .i64 7] 29))
  go_wp2_with fail
  refine (events_some _ _ _ _ h6.rc (by simp)).mono ?_
  rintro e w7 ⟨u, rfl, hu, -, b7⟩
  replace h6 := h6.step b7
  replace kX := b7.keeps (not_nowhere _) kX
  rcases hu.form with ⟨_, e0⟩ | ⟨gg, cap2, rfl, hg, hle, hcap, hcell⟩
  · simp at e0
  · obtain ⟨c00, c01⟩ := hcell 0 (by simp)
    obtain ⟨c20, c21⟩ := hcell 2 (by simp)
    simp only [List.length_cons, List.length_nil, Nat.zero_mul, Nat.zero_add, List.getElem_cons_zero, List.getElem_cons_succ, Nat.reduceMul, Nat.reduceAdd] at c00 c01 c20 c21 ⊢
    clear hcell hu b7
    go_wp2_with (go_at_call 16; refine (tell_none _ _).mono ?_; rintro e w8 ⟨rfl, b8⟩; replace h6 := h6.step b8; replace c00 := b8.keeps (not_nowhere _) c00; replace c01 := b8.keeps (not_nowhere _) c01; replace c21 := b8.keeps (not_nowhere _) c21)
    go_ret
    exact ⟨rfl, h6.but⟩

set_option maxHeartbeats 3200000 in
set_option maxRecDepth 100000 in
theorem of05_num {w : World} {v : Value} {l : List Int} (h : View w .i64 v l) (hl : l.length ≤ 60) : Calls Try.prog 22 #[v] w
    fun e w' => ∃ o b g x, e = .returned (.tuple #[.pointer (some ⟨b, 0, none⟩), .agg #[x, .slice none 0 0]]) ∧ Bo w w' o (.slice none 0 0) [] b g l ∧ w'.ownsRow 0 3 1 x l.length (ints .i64 l) ∧ (∀ k, x.ownBlock = some k → w.heap.size ≤ k ∧ ¬ FootB o (.slice none 0 0) b g k) := by
  obtain ⟨ao, cap, rfl⟩ := h.slice
  have b0 := (But.refl Nowhere w).alloc (.cells #[.slice none 0 0, .slice none 0 0] 43)
  go_enter Try.func22, Try.ntmps22
  go_wp2_with fail
  go_loopw [4, 5] (fun s i W => ∃ (k : Nat), k ≤ l.length ∧ i = .int .i64 k ∧ Copied (w.alloc (.cells #[.slice none 0 0, .slice none 0 0] 43)) W 29 s (l.take k)) (fun _ i _ => l.length - (intOf i).toNat)
  case atStart => exact ⟨0, Nat.zero_le _, rfl, World.ownsRow_nil _ _ _ _, by simp [Value.ownBlock], But.refl _ _⟩
  case round =>
    obtain ⟨k, hk, rfl, C⟩ := hrel
    by_cases hlt : k < l.length
    · obtain ⟨-, sb, off, rfl, hsb, hsc⟩ := (h.but (b0.trans C.2.2)).at k hlt
      have i0 : (0 : Int) ≤ (k : Int) := by omega
      have i1 : (k : Int) < (l.length : Int) := by omega
      go_wp2_with fail
      refine (of_any _ _).mono ?_
      rintro e w3 ⟨rfl, b3⟩
      obtain ⟨s', w4, hrun, C4⟩ := push_sec l[k] (C.but b3) (by simp; omega)
      rw [← List.take_succ_eq_append_getElem hlt] at C4
      have HC : Hid (Copied (w.alloc (.cells #[.slice none 0 0, .slice none 0 0] 43)) w4 29 s' (l.take (k + 1))) := C4
      clear C4 C b3 hsc
      go_wp2_with (at_builtin; refine wpList_append_run rfl _ _ _ rfl _ _ (by rfl) (by rfl) _ _ hrun ?_)
      go_roundw
      case rel => exact ⟨k + 1, by omega, by go_num, HC.out⟩
      case measure => simp [intOf]; omega
    · obtain rfl : k = l.length := by omega
      rw [List.take_of_length_le (Nat.le_refl _)] at C
      have bw := b0.trans C.2.2
      obtain ⟨x, w5, hrun, x1, x2, x3⟩ := append_ints (h.but bw) (by omega)
      obtain ⟨xo, xc, rfl⟩ := (View.of_owns x1).slice
      go_wp2_with (at_builtin; refine wpList_append_run rfl _ _ _ rfl _ _ (by rfl) (by rfl) _ _ hrun ?_)
      refine (new_any _).mono ?_
      rintro e w6 ⟨rfl, h6⟩
      have V6 := ((C.but x3).but h6.but).view
      go_wp2_with fail
      refine (ofBuf_some (r := ptr (some w5.heap.size)) V6 (by omega)).mono ?_
      rintro e w7 ⟨rfl, m7⟩
      have h7 := Bo.start h6 m7
      have B7 := (C.2.2.trans x3).trans h7.but
      have kT0 := B7.keeps (p := ⟨w.heap.size, 0, none⟩) (v := .slice none 0 0) (not_nowhere _) (by go_simp)
      have kT1 := B7.keeps (p := ⟨w.heap.size, 1, none⟩) (v := .slice none 0 0) (not_nowhere _) (by go_simp)
      have fT0 := B7.thaws (p := ⟨w.heap.size, 0, none⟩) (v := .slice none 0 0) (not_nowhere _) (by go_simp) (by go_simp)
      have fT1 := B7.thaws (p := ⟨w.heap.size, 1, none⟩) (v := .slice none 0 0) (not_nowhere _) (by go_simp) (by go_simp)
      have x7 := h7.but.owns x1 (fun _ _ f => f)
      have xl : ∀ k, (Value.slice xo l.length xc).ownBlock = some k → w.heap.size < k ∧ k < w5.heap.size := fun k hk => ⟨by have := x2 k hk; have := C.2.2.size; simp at this; omega, (World.ownsRow.lt x1 k hk).2⟩
      have hsz : w.heap.size < w5.heap.size := by have := C.2.2.size; have := x3.size; simp at *; omega
      clear V6 m7 h6 B7 C x1 x2 hrun
      go_wp2_with fail
      refine bodyPost_ret (results_of rfl _ _ w.heap.size _ (.slice xo l.length xc) (.slice none 0 0) rfl rfl (by go_simp) (by go_simp)) rfl ?_
      have b8 : But (fun k => k = w.heap.size) w7 ((w7.setCell ⟨w.heap.size, 0, none⟩ (.slice xo l.length xc)).setCell ⟨w.heap.size, 1, none⟩ (.slice none 0 0)) :=
        But.setCell (S := fun k => k = w.heap.size) (But.setCell (S := fun k => k = w.heap.size) (But.refl _ _) (fun _ => rfl) _) (fun _ => rfl) _
      refine ⟨w5.heap.size, _, _, _, rfl, ?_, b8.owns x7 (fun k hk e => by have := xl k hk; omega), fun k hk => ⟨by have := xl k hk; omega, fun f => by have := h7.new f; have := xl k hk; omega⟩⟩
      exact (h7.back (bw.trans x3)).butS b8 (fun k hk e => by have := h7.new hk; omega) (fun k hk e => by omega)

end Go.Proofs.Ythfdabcknagjoaa
