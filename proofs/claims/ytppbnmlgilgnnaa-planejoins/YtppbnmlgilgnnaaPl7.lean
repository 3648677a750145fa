/- Lists turned into others, one for one: each. -/
import Derived.Test.YtppbnmlgilgnnaaPlMem
import Derived.Test.YtppbnmlgilgnnaaPl6
namespace Go.Proofs.Ytppbnmlgilgnnaa
open Go.ChangeShapes Go.WideShapes Go.ChangeAt Go.RowKit

/-- The number at a place. -/
def gn (l : List Int) (j : Nat) : Int := l.getD j 0

theorem gn_at (l : List Int) (j : Nat) (h : j < l.length) : l[j] = gn l j := by unfold gn; rw [List.getD_eq_getElem?_getD, List.getElem?_eq_getElem h]; rfl

theorem Try.elemInt : ElemInfo Try.prog 71 3 (.int .i64 0) 1 8 := ⟨Try.underlying71, by kernel_rfl, rfl, by omega⟩
theorem Try.elemByte : ElemInfo Try.prog 30 5 (.int .u8 0) 1 1 := ⟨Try.underlying30, by kernel_rfl, rfl, by omega⟩

theorem tab_zero8 (n : Nat) : List.replicate n (Value.int .u8 0) = tab .u8 n (fun _ => 0) := by
  unfold tab
  rw [List.map_const', List.length_range]

set_option maxHeartbeats 400000 in
theorem bytesOf1_any (x : Int) (hx : 0 ≤ x ∧ x ≤ 255) (w : World) : Calls Try.prog 69 #[.int .i64 x] w fun e w' => e = .returned (.int .u8 (x)) ∧ w' = w := by
  have e1 : IntKind.u8.wrap x = x := by rw [IntKind.wrap_u8]; omega
  go_enter Try.func69, Try.ntmps69
  go_wp2
  go_ret
  exact ⟨rfl, rfl⟩

set_option maxHeartbeats 3200000 in
set_option maxRecDepth 100000 in
theorem bytesOfE_any (v : Value) (l : List Int) (w : World) (hv : View w .i64 v l) (hx : ∀ x ∈ l, 0 ≤ x ∧ x ≤ 255) (hl : l.length ≤ 4000000) : Calls Try.prog 68 #[v, .func (.func 69) #[] #[]] w fun e w' =>
    e = .returned (.slice (some ⟨w.heap.size, 0, none⟩) l.length l.length) ∧ Cells w' w.heap.size 5 (tab .u8 l.length (fun j => gn l j)) ∧ But Nowhere w w' := by
  obtain ⟨vo, vc, rfl⟩ := hv.slice
  have hm := fun W => make_any Try.elemByte l.length (.int .u8 0) (by intro j hj; have : j = 0 := (by omega); subst this; rfl) (by omega) (by omega) W
  rw [Nat.mul_one, tab_zero8] at hm
  have H0 : Hid (Cells (w.alloc (.cells (tab .u8 l.length (fun _ => 0)).toArray 5)) w.heap.size 5 (tab .u8 l.length (fun _ => 0)) ∧ But Nowhere w (w.alloc (.cells (tab .u8 l.length (fun _ => 0)).toArray 5))) := ⟨Cells.new _ _ _, (But.refl _ _).alloc _⟩
  go_enter Try.func68, Try.ntmps68
  go_wp2_with fail
  clear hm
  go_loopw [13] (fun i W => ∃ k : Nat, k ≤ l.length ∧ i = .int .i64 k ∧ Cells W w.heap.size 5 (tab .u8 l.length (fun j => if j < k then gn l j else 0)) ∧ But Nowhere w W) (fun i _ => l.length - (intOf i).toNat)
  case atStart => exact ⟨0, Nat.zero_le _, rfl, by simpa using H0.out.1, H0.out.2⟩
  case round =>
    clear H0
    obtain ⟨k, hk, rfl, hc, hb⟩ := hrel
    by_cases hlt : k < l.length
    · obtain ⟨-, vb, off, rfl, hvb, hvc⟩ := (hv.but hb).at k hlt
      have hxk := hx _ (List.getElem_mem hlt)
      rw [gn_at l k hlt] at hvc hxk
      have i0 : (0 : Int) ≤ (k : Int) := by omega
      have i1 : (k : Int) < (l.length : Int) := by omega
      have c0 := hc.cell k hlt
      have f0 := hc.frozen k
      have H1 : Hid (Cells (wr.setCell ⟨w.heap.size, k, none⟩ (.int .u8 (gn l k))) w.heap.size 5 (tab .u8 l.length (fun j => if j < k + 1 then gn l j else 0)) ∧ But Nowhere w (wr.setCell ⟨w.heap.size, k, none⟩ (.int .u8 (gn l k)))) := by
        refine ⟨?_, hb.setCell (fun q => by exfalso; simp at q) _⟩
        have h2 := hc.set k (.int .u8 (gn l k))
        rw [tab_grow .u8 l.length (fun j => gn l j) (fun _ => 0) k] at h2
        exact h2
      clear hc
      go_wp2_with (go_at_call 69; refine (bytesOf1_any _ hxk _).mono ?_; rintro e w' ⟨rfl, rfl⟩)
      go_roundw
      case rel => exact ⟨k + 1, by omega, by go_num, H1.out.1, H1.out.2⟩
      case measure => simp [intOf]; omega
    · obtain rfl : k = l.length := by omega
      go_wp2_with fail
      go_ret
      rw [tab_full] at hc
      exact ⟨rfl, hc, hb⟩

set_option maxHeartbeats 400000 in
theorem bytesOf_any (v : Value) (l : List Int) (w : World) (hv : View w .i64 v l) (hx : ∀ x ∈ l, 0 ≤ x ∧ x ≤ 255) (hl : l.length ≤ 4000000) : Calls Try.prog 37 #[v] w fun e w' =>
    e = .returned (.slice (some ⟨w.heap.size, 0, none⟩) l.length l.length) ∧ Cells w' w.heap.size 5 (tab .u8 l.length (fun j => gn l j)) ∧ But Nowhere w w' := by
  obtain ⟨vo, vc, rfl⟩ := hv.slice
  go_enter Try.func37, Try.ntmps37
  go_wp2_with fail
  refine (bytesOfE_any _ l w hv hx hl).mono ?_
  rintro e w1 ⟨rfl, hc, hb⟩
  have H : Hid _ := And.intro hc hb
  clear hc hb
  go_wp2_with fail
  go_ret
  exact ⟨rfl, H.out⟩

end Go.Proofs.Ytppbnmlgilgnnaa
