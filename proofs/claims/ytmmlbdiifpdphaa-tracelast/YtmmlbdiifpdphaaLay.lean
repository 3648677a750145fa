/- What the laws' helper lay does: a new recorder with all that came in, and the document's list of it. -/
import Derived.Test.YtmmlbdiifpdphaaSeen
namespace Go.Proofs.Ytmmlbdiifpdphaa
open Go.ChangeShapes Go.WideShapes Go.ChangeAt Go.RowKit Go.Deep

set_option maxHeartbeats 1000000 in
theorem layAll_any (v : Value) (l : List Ev) (w : World) (h : Seens w v l) (hl : l.length ≤ 100) : Calls Try.prog 9 #[v] w
    fun e w' => ∃ b u x, e = .returned (.tuple #[.pointer (some ⟨b, 0, none⟩), x]) ∧ Lays w w' b u x (l.map evOf) := by
  obtain ⟨ao, cap, rfl, hcells⟩ := h
  have Hc : Hid _ := hcells
  clear hcells
  go_enter Try.func9, Try.ntmps9
  go_wp2_with fail
  refine (new_any _).mono ?_
  rintro e w1 ⟨rfl, h1⟩
  go_wp2_with fail
  have Hw : Hid (But Nowhere w w1) := h1.but
  go_loopw [5, 6] (fun x i W => ∃ (k : Nat) (u : Value), k ≤ l.length ∧ i = .int .i64 k ∧ Own w W w.heap.size u ((l.take k).map evOf) ∧ Evs W x ((l.take k).map evOf) ∧ ∀ k, x.ownBlock = some k → w.heap.size ≤ k ∧ ¬ Foot w.heap.size u k) (fun _ i _ => l.length - (intOf i).toNat)
  case atStart => exact ⟨0, _, Nat.zero_le _, rfl, h1, World.ownsRow_nil _ _ _ _, by simp [Value.ownBlock]⟩
  case round =>
    obtain ⟨k, u, hk, rfl, ho, hx, ha⟩ := hrel
    have hlen : ((l.take k).map evOf).length ≤ 1000000 := by simp; omega
    by_cases hlt : k < l.length
    · obtain ⟨b, off, hao, hb, hc⟩ := Hc.out (by intro e; subst e; simp at hlt)
      subst hao
      clear Hc
      obtain ⟨c0, c1, b0, b1⟩ := hc k hlt
      clear hc
      have c2 := (ho.but.cell (p := ⟨b, off + k * 2, none⟩) hb (fun f => f)).trans c0
      have c3 := (ho.but.cell (p := ⟨b, off + k * 2 + 1, none⟩) hb (fun f => f)).trans c1
      by_cases m0 : l[k].1 % 3 = 0
      · have q0 : (l[k].1 % 3 == 0) = true := by simp [m0]
        have HE : Hid ((l.take (k + 1)).map evOf = (l.take k).map evOf ++ [(1, l[k].2)]) := (evs_take l k hlt).trans (by rw [evOf_0 _ m0])
        go_wp2_with fail
        refine (idx_some _ _ _ _ _ ho.rcd hlen).mono ?_
        rintro e W2 ⟨rfl, hl2⟩
        obtain ⟨u2, ho2, hx2, ha2⟩ := Lays.laid ho hx ha hl2
        have d1 := (ho2.but.cell (p := ⟨b, off + k * 2 + 1, none⟩) hb (fun f => f)).trans c1
        clear hl2 ho hx ha
        go_wp2_with fail
        refine (refAdd_any _ _ _ _ _ hx2 hlen).mono ?_
        rintro e W3 ⟨x3, rfl, hf⟩
        obtain ⟨ho3, hx3, ha3⟩ := Lays.fresh ho2 hf
        rw [← HE.out] at ho3 hx3
        go_wp2_with fail
        go_roundw
        case rel => exact ⟨k + 1, u2, by omega, by go_num, ho3, hx3, ha3⟩
        case measure => simp [intOf]; omega
      · have q0 : (l[k].1 % 3 == 0) = false := by simp [m0]
        by_cases m1 : l[k].1 % 3 = 1
        · have q1 : (l[k].1 % 3 == 1) = true := by simp [m1]
          have HE : Hid ((l.take (k + 1)).map evOf = (l.take k).map evOf ++ [(2, l[k].2)]) := (evs_take l k hlt).trans (by rw [evOf_1 _ m1])
          go_wp2_with fail
          refine (br_some _ _ _ _ _ ho.rcd hlen).mono ?_
          rintro e W2 ⟨rfl, hl2⟩
          obtain ⟨u2, ho2, hx2, ha2⟩ := Lays.laid ho hx ha hl2
          have d1 := (ho2.but.cell (p := ⟨b, off + k * 2 + 1, none⟩) hb (fun f => f)).trans c1
          clear hl2 ho hx ha
          go_wp2_with fail
          refine (refAdd_any _ _ _ _ _ hx2 hlen).mono ?_
          rintro e W3 ⟨x3, rfl, hf⟩
          obtain ⟨ho3, hx3, ha3⟩ := Lays.fresh ho2 hf
          rw [← HE.out] at ho3 hx3
          go_wp2_with fail
          go_roundw
          case rel => exact ⟨k + 1, u2, by omega, by go_num, ho3, hx3, ha3⟩
          case measure => simp [intOf]; omega
        · have q1 : (l[k].1 % 3 == 1) = false := by simp [m1]
          have HE : Hid ((l.take (k + 1)).map evOf = (l.take k).map evOf ++ [(3, 0)]) := (evs_take l k hlt).trans (by rw [evOf_2 _ m0 m1])
          go_wp2_with fail
          refine (open_some _ _ _ _ ho.rcd hlen).mono ?_
          rintro e W2 ⟨rfl, hl2⟩
          obtain ⟨u2, ho2, hx2, ha2⟩ := Lays.laid ho hx ha hl2
          have d1 := (ho2.but.cell (p := ⟨b, off + k * 2 + 1, none⟩) hb (fun f => f)).trans c1
          clear hl2 ho hx ha
          go_wp2_with fail
          refine (refAdd_any _ _ _ _ _ hx2 hlen).mono ?_
          rintro e W3 ⟨x3, rfl, hf⟩
          obtain ⟨ho3, hx3, ha3⟩ := Lays.fresh ho2 hf
          rw [← HE.out] at ho3 hx3
          go_wp2_with fail
          go_roundw
          case rel => exact ⟨k + 1, u2, by omega, by go_num, ho3, hx3, ha3⟩
          case measure => simp [intOf]; omega
    · have e : l.take k = l := List.take_of_length_le (by omega)
      rw [e] at ho hx
      go_wp2_with fail
      go_ret2
      exact ⟨_, u, _, rfl, ho, hx, ha⟩
end Go.Proofs.Ytmmlbdiifpdphaa
