/- What the document's own answers of layer 2 (Add, Count, Same) tell. -/
import Derived.Test.YthfdabcknagjoaaRead
namespace Go.Proofs.Ythfdabcknagjoaa
open Go.ChangeShapes Go.WideShapes Go.ChangeAt Go.RowKit

set_option maxHeartbeats 800000 in
theorem refAdd_any (v : Value) (es : List Ev) (kd n : Int) (w : World) (h : Evs w v es) (hl : es.length ≤ 1000000) : Calls Try.prog 64 #[v, .int .i64 kd, .int .i64 n] w fun e w' => ∃ v', e = .returned v' ∧ Fresh w w' v' (es ++ [(kd, n)]) := by
  obtain ⟨i0, hi0, hz0, hz1, hz2⟩ := info_parts Try.infoEv
  rcases h.form with ⟨rfl, rfl⟩ | ⟨g, cap, rfl, hg, _⟩
  · go_enter Try.func64, Try.ntmps64
    go_wp2_with (at_builtin; refine wpList_append_lies _ rfl (.tmp 11) (.tmp 15) _ rfl 0 65 i0 _ 2 16 Try.underlying41 hi0 hz0 hz1 hz2 rfl (by omega) (.slice none 0 0) 0 [] (by rfl) (World.ownsRow_nil _ _ _ _) ⟨w.heap.size, 0, none⟩ 1 1 [.int .i64 kd, .int .i64 n] (by rfl) (by rfl) (World.news_of_block (cs := #[.int .i64 kd, .int .i64 n]) (t := 65) (fr := (0, 0)) (heap_alloc_new w _)) (by simp [Value.oneCell']) (by omega) (by unfold maxLen; omega) (by omega) (by omega) (w.heap.size + 1) (by simp) ?_)
    intro gg cap w2 hown2 hgrow2 hat2 hlt2
    go_wp2
    go_ret
    refine ⟨.slice (some ⟨gg, 0, none⟩) 1 cap, rfl, by simpa [Evs, evCells] using hown2, fun x hx => ?_, ((But.refl _ _).alloc _).grown hgrow2 (fun k hk => by simp [Value.ownBlock] at hk)⟩
    rcases hat2 with e | e
    · simp [Value.ownBlock] at e
    · simp [Value.ownBlock] at hx; omega
  · have hcs := World.ownsRow.cells h (g := g) rfl
    go_enter Try.func64, Try.ntmps64
    go_wp2_with (at_builtin; refine wpList_append_own_at _ rfl (.tmp 8) (.tmp 9) _ rfl 0 65 i0 _ 2 16 Try.underlying41 hi0 hz0 hz1 hz2 rfl (by omega) (.slice none 0 0) 0 [] (by rfl) (World.ownsRow_nil _ _ _ _) ⟨g, 0, none⟩ es.length cap (evCells es) (by rfl) (evCells_length es) hcs (evCells_one es) (by unfold maxLen; omega) (by omega) (by omega) ?_)
    intro v' w' hown hgrow _ hat
    have hown' : w'.ownsRow 0 65 2 v' es.length (evCells es) := by simpa using hown
    have hat' : ∀ x, v'.ownBlock = some x → w.heap.size ≤ x := fun x hx => by
      rcases hat with e | e
      · rw [e] at hx; simp [Value.ownBlock] at hx
      · rw [e] at hx; simp at hx; omega
    have hb1 : But Nowhere w w' := (But.refl _ _).grown hgrow (fun k hk => by simp [Value.ownBlock] at hk)
    clear hown hat hgrow
    have hsz := hb1.size
    rename_i hiff
    clear hiff
    go_wp2_with (at_builtin; refine wpList_append_lies _ rfl (.tmp 11) (.tmp 15) _ rfl 0 65 i0 _ 2 16 Try.underlying41 hi0 hz0 hz1 hz2 rfl (by omega) v' es.length (evCells es) (by rfl) (hown'.alloc _) ⟨w'.heap.size, 0, none⟩ 1 1 [.int .i64 kd, .int .i64 n] (by rfl) (by rfl) (World.news_of_block (cs := #[.int .i64 kd, .int .i64 n]) (t := 65) (fr := (0, 0)) (heap_alloc_new w' _)) (by simp [Value.oneCell']) (by omega) (by unfold maxLen; omega) (by omega) (by omega) (w'.heap.size + 1) (by simp) ?_)
    intro gg cap2 w2 hown2 hgrow2 hat2 hlt2
    go_wp2
    go_ret
    refine ⟨.slice (some ⟨gg, 0, none⟩) (es.length + 1) cap2, rfl, by simpa [Evs, evCells_append, evCells] using hown2, fun x hx => ?_, (hb1.alloc _).grown hgrow2 (fun k hk hlt => by have := hat' k hk; omega)⟩
    have hxg : gg = x := by simpa [Value.ownBlock] using hx
    subst hxg
    rcases hat2 with e | e
    · exact hat' _ e
    · omega

set_option maxHeartbeats 400000 in
theorem refSame_any (v u : Value) (es fs : List Ev) (w : World) (h : Evs w v es) (k : Evs w u fs) (hl : es.length ≤ 1000000) : Calls Try.prog 66 #[v, u] w fun e w' => e = .returned (.bool (sameB es fs)) ∧ But Nowhere w w' := by
  have hfl : fs.length ≤ maxLen := by rcases k.form with ⟨_, rfl⟩ | ⟨_, _, _, _, h1, h2, _⟩ <;> first | (simp; done) | omega
  unfold maxLen at hfl
  by_cases hne : es.length = fs.length
  · rcases h.form with ⟨rfl, rfl⟩ | ⟨g, cap, rfl, hg, hle, hcap, hcell⟩
    · have e0 : fs = [] := List.eq_nil_of_length_eq_zero (by simpa using hne.symm)
      subst e0
      rcases k.form with ⟨rfl, _⟩ | ⟨g, cap, rfl, _⟩
      all_goals
        go_enter Try.func66, Try.ntmps66
        go_wp2
        go_loopw [5] (fun i W => i = .int .i64 0 ∧ W = w) (fun _ _ => 0)
        case atStart => exact ⟨rfl, rfl⟩
        case round =>
          obtain ⟨rfl, rfl⟩ := hrel
          go_wp2
          go_ret
          exact ⟨rfl, But.refl _ _⟩
    · rcases k.form with ⟨rfl, rfl⟩ | ⟨g2, cap2, rfl, hg2, hle2, hcap2, hcell2⟩
      · have e0 : es = [] := List.eq_nil_of_length_eq_zero (by simpa using hne)
        subst e0
        go_enter Try.func66, Try.ntmps66
        go_wp2
        go_loopw [5] (fun i W => i = .int .i64 0 ∧ W = w) (fun _ _ => 0)
        case atStart => exact ⟨rfl, rfl⟩
        case round =>
          obtain ⟨rfl, rfl⟩ := hrel
          go_wp2
          go_ret
          exact ⟨rfl, But.refl _ _⟩
      · have hb : ((es.length : Int) != (fs.length : Int)) = false := by simp [hne]
        have HN : Hid _ := hne
        have hn1 : es.length ≤ fs.length := by omega
        have hn2 : fs.length ≤ es.length := by omega
        clear hne
        go_enter Try.func66, Try.ntmps66
        go_wp2
        go_loopw [5] (fun i W => ∃ n : Nat, n ≤ es.length ∧ i = .int .i64 n ∧ es.take n = fs.take n ∧ ∃ q, W = w.drewN q) (fun i _ => es.length - (intOf i).toNat)
        case atStart => exact ⟨0, Nat.zero_le _, rfl, rfl, 0, rfl⟩
        case round =>
          obtain ⟨n, hn, rfl, ht, q, rfl⟩ := hrel
          have HT : Hid _ := ht
          clear ht
          by_cases hlt : n < es.length
          · have hlt2 : n < fs.length := by omega
            obtain ⟨hc0, hc1⟩ := hcell n hlt
            obtain ⟨hd0, hd1⟩ := hcell2 n hlt2
            have i0 : (0 : Int) ≤ (n : Int) := by omega
            have i1 : (n : Int) < (es.length : Int) := by omega
            have i2 : (n : Int) < (fs.length : Int) := by omega
            have hgd := Try.guardEv
            by_cases he : es[n] = fs[n]
            · have heq := equalIn_yes es[n] fs[n] he
              have HE : Hid _ := he
              clear he
              go_wp2
              go_quiet (fail)
              go_wp2
              go_roundw
              case rel => exact ⟨n + 1, by omega, by go_num, take_eq_succ _ _ _ hlt hlt2 HT.out HE.out, _, rfl⟩
              case measure => simp [intOf]; omega
            · have heq := equalIn_no es[n] fs[n] he
              have HE : Hid _ := he
              clear he
              go_wp2
              go_quiet (fail)
              go_wp2
              go_ret
              exact ⟨ret_bool (sameB_at _ _ n hlt hlt2 HE.out).symm, ((But.refl _ _).drewN _).drewN _⟩
          · go_wp2
            go_ret
            exact ⟨ret_bool (sameB_take _ _ n (by omega) (by omega) HT.out).symm, (But.refl _ _).drewN _⟩
  · have HN : Hid _ := hne
    rcases h.form with ⟨rfl, rfl⟩ | ⟨g, cap, rfl, hg, hle, hcap, hcell⟩ <;> rcases k.form with ⟨rfl, rfl⟩ | ⟨g2, cap2, rfl, hg2, hle2, hcap2, hcell2⟩
    · exact absurd rfl hne
    · have hb : ((0 : Int) != (fs.length : Int)) = true := by simp at hne ⊢; omega
      clear hne
      go_enter Try.func66, Try.ntmps66
      go_wp2
      go_ret
      exact ⟨ret_bool (sameB_length _ _ HN.out).symm, But.refl _ _⟩
    · have hb : ((es.length : Int) != (0 : Int)) = true := by simp at hne ⊢; omega
      clear hne
      go_enter Try.func66, Try.ntmps66
      go_wp2
      go_ret
      exact ⟨ret_bool (sameB_length _ _ HN.out).symm, But.refl _ _⟩
    · have hb : ((es.length : Int) != (fs.length : Int)) = true := by simp; omega
      clear hne
      go_enter Try.func66, Try.ntmps66
      go_wp2
      go_ret
      exact ⟨ret_bool (sameB_length _ _ HN.out).symm, But.refl _ _⟩
end Go.Proofs.Ythfdabcknagjoaa
