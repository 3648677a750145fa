/- For every list a of things and every n the law TraceLast of layer 2 returns true: one event more, and two traces are no longer the same; what comes out, spoilt, changes nothing. No condition. -/
import Derived.Test.YtmmlbdiifpdphaaLay
import Derived.Test.YtmmlbdiifpdphaaKnown
import Derived.Test.YtmmlbdiifpdphaaFrame
import Derived.Test.YtmmlbdiifpdphaaRows
namespace Go.Proofs.Ytmmlbdiifpdphaa.traceLast
open Go.ChangeShapes Go.WideShapes Go.ChangeAt Go.RowKit
set_option linter.unusedVariables false

theorem own : ownKnob Try.prog.godebug = none := by kernel_rfl
theorem laidOut : laidOutB Try.prog = true := by kernel_rfl
theorem readable : ∀ t ∈ Try.f4.params.toList, Try.prog.readableRec t = true ∧ t < Try.prog.types.size := by
  rw [Try.params4]
  simp only [List.mem_cons, List.not_mem_nil, or_false, forall_eq_or_imp, forall_eq]
  refine ⟨⟨by kernel_rfl, of_decide_eq_true (by kernel_rfl)⟩, ⟨by kernel_rfl, of_decide_eq_true (by kernel_rfl)⟩⟩

set_option maxHeartbeats 2000000 in
set_option maxRecDepth 100000 in
theorem walk (w : World) (v0 : Value) (l0 : List Ev) (s0 : Seens w v0 l0) (n0 : l0.length ≤ 8796093022208) (a1 : Int) (w1 : (Lit.int .i64 a1).wf = true) :
    Calls Try.prog 4 #[v0, .int .i64 a1] w fun e w' => e = .returned (.bool true) ∧ But Nowhere w w' := by
  by_cases hl : l0.length ≤ 100
  · have S : Hid (Seens w v0 l0) := s0
    obtain ⟨ao, cap, rfl, hc⟩ := s0
    clear hc
    go_enter Try.func4, Try.ntmps4
    go_wp2_with fail
    refine (layAll_any _ l0 _ S.out hl).mono ?_
    rintro e w1 ⟨b1, u1, x1, rfl, h1, -, -⟩
    go_wp2_with fail
    refine (layAll_any _ l0 _ (Seens.but S.out h1.but) hl).mono ?_
    rintro e w2 ⟨b2, u2, x2, rfl, h2, -, -⟩
    have h := h1.two h2
    clear h1 h2
    have hm : (l0.map evOf).length ≤ 100 := by simpa using hl
    have hm1 : (l0.map evOf ++ [((1 : Int), a1)]).length ≤ 101 := by simp; omega
    generalize l0.map evOf = es at *
    have e1 : sameB es es = true := by simp [sameB]
    have e2 : sameB (es ++ [(1, a1)]) es = false := sameB_length _ _ (by simp)
    have e3 : sameB (es ++ [(1, a1)]) (es ++ [(1, a1)]) = true := by simp [sameB]
    go_wp2_with fail
    refine (same_some _ _ _ _ _ _ _ h.one.rcd h.two.rcd (by omega)).mono ?_
    rintro e w3 ⟨rfl, b3⟩
    have h3 := h.step b3
    clear h b3
    go_wp2_with fail
    refine (idx_some _ _ _ _ _ h3.one.rcd (by omega)).mono ?_
    rintro e w4 ⟨rfl, hq⟩
    obtain ⟨v4, h4⟩ := h3.laid hq
    clear hq h3
    go_wp2_with fail
    refine (same_some _ _ _ _ _ _ _ h4.one.rcd h4.two.rcd (by omega)).mono ?_
    rintro e w5 ⟨rfl, b5⟩
    have h5 := h4.step b5
    clear h4 b5
    go_wp2_with fail
    refine (events_some _ _ _ _ h5.one.rcd (by omega)).mono ?_
    rintro e w6 ⟨l, rfl, he, hn, b6⟩
    have h6 := h5.step b6
    rcases he.form with ⟨_, e0⟩ | ⟨g, cap2, rfl, hg, hle, hcap, -⟩
    · simp at e0
    · have hg5 : w5.heap.size ≤ g := hn g rfl
      have f1 : ¬ Foot b1 v4 g := fun f => by have := h5.one.rcd.foot_lt f; omega
      have f2 : ¬ Foot b2 u2 g := fun f => by have := h5.two.rcd.foot_lt f; omega
      have hw0 : w.heap.size ≤ g := Nat.le_trans h5.one.but.size hg5
      have hblk := he.blk
      clear h5 b6 hn he
      generalize hnn : (es ++ [((1 : Int), a1)]).length = nn at *
      clear hnn
      go_wp2_with fail
      go_loopw [12] (fun i W => ∃ k : Nat, k ≤ nn ∧ i = .int .i64 k ∧ But (fun x => x = g) w6 W ∧ Blk W g 36 (cap2 * 2)) (fun i _ => nn - (intOf i).toNat)
      case atStart => exact ⟨0, Nat.zero_le _, rfl, But.refl _ _, hblk⟩
      case round =>
        obtain ⟨k, hk, rfl, hb, hbk⟩ := hrel
        by_cases hlt : k < nn
        · obtain ⟨c, hc⟩ := hbk.cell (k * 2 + 1) (by omega)
          have hf := hbk.frozen (k * 2 + 1)
          go_wp2_with fail
          go_roundw
          case rel => exact ⟨k + 1, by omega, by go_num, hb.setCell (fun _ => rfl) _, hbk.set _ _⟩
          case measure => simp [intOf]; omega
        · have h7 := h6.far hb hw0 f1 f2
          go_wp2_with fail
          refine (idx_some _ _ _ _ _ h7.two.rcd (by omega)).mono ?_
          rintro e w8 ⟨rfl, hq⟩
          obtain ⟨v8, h8'⟩ := h7.swap.laid hq
          have h8 := h8'.swap
          clear hq h8' h7
          go_wp2_with fail
          refine (known_any _).mono ?_
          rintro e w9 ⟨rfl, b9⟩
          have h9 := h8.step b9
          clear h8 b9
          go_wp2_with fail
          refine (same_some _ _ _ _ _ _ _ h9.one.rcd h9.two.rcd (by simp; omega)).mono ?_
          rintro e w10 ⟨rfl, b10⟩
          have h10 := h9.step b10
          go_wp2_with fail
          go_ret
          exact ⟨rfl, h10.one.but⟩
  · obtain ⟨ao, cap, rfl, -⟩ := s0
    go_enter Try.func4, Try.ntmps4
    go_wp2_with fail
    refine (known_any _).mono ?_
    rintro e w1 ⟨rfl, b1⟩
    go_wp2_with fail
    go_ret
    exact ⟨rfl, b1⟩

set_option maxRecDepth 100000 in
theorem lifted (os : Os) (started : os.Started) (H : Type) (enc : TypeId × Value → H) :
    ReturnsInHanded {} Try.checked os 4 .any (Rows.traceLastSpec.pre6 enc Try.prog Try.f4 Rows.traceLastRow.domain false) (Rows.traceLastSpec.post enc Try.prog Try.f4 false true false false) := by
  refine returnsInHanded_of_change_sized (C := Try.checked) own started (by kernel_rfl) Try.func4
    (ChangeSpec.witness6 (enc := enc) (C := Try.checked) false ⟨#[], #[.slice none 0 0, .int .i64 0], []⟩ 8 (by kernel_rfl) (by kernel_rfl) (by kernel_rfl) (by kernel_rfl)) ?_
  intro W base args ds gs before hval0 hW hcnd hsz0 _
  have hval : ∀ (j : Nat) t v, Try.f4.params[j]? = some t → args[j]? = some v → Value.okWide Try.prog W .any base t v := hval0
  have hsz : (DataW.weightsEach Try.prog (Try.f4.params.toList ++ Rows.traceLastSpec.plain.varTypes Try.prog) (ds ++ gs)).all (· ≤ reachBytes) = true := hsz0
  have hW' := hW
  obtain ⟨p, q, hA0, hV, rfl, hfz, hnd⟩ := hW
  have hA : DataW.TrodAll enc Try.prog W 0 (fun _ => true) true Try.f4.params.toList args.toList ds p := hA0
  rw [Try.params4] at hA hval hsz
  obtain ⟨v0, vs0, d0, ds0, p0, q0, hargs, rfl, rfl, h0, r0⟩ := trodAll_cons hA
  obtain ⟨v1, vs1, d1, ds1, p1, q1, rfl, rfl, rfl, h1, r1⟩ := trodAll_cons r0
  obtain ⟨rfl, rfl, rfl⟩ := trodAll_nil r1
  obtain rfl : args = #[v0, v1] := by cases args; simp_all
  obtain ⟨rfl, rfl⟩ := trodVars_none hV
  obtain ⟨l0, s0, e0⟩ := open_seens (hval 0 22 v0 rfl rfl) h0
  have n0 := seens_small hsz (j := 0) rfl rfl e0
  obtain ⟨a1, rfl, rfl, rfl, w1⟩ := open_int Try.underlying3 (hval 1 3 v1 rfl rfl) h1
  clear hA0 hval0
  refine (walk W v0 l0 s0 n0 a1 w1).mono fun e W' ⟨he, hg⟩ => ?_
  subst he
  exact ⟨_, rfl, law_post laidOut readable rfl Try.underlying4 rfl rfl hW' hg.below⟩

theorem over : Rows.traceLastRow.holds Try.pinned (OpenSpec.ofChange Rows.traceLastSpec) :=
  OpenClaim.holds_of_wide 4 Try.f4 rfl rfl rfl rfl rfl rfl rfl ⟨rfl, rfl, rfl, rfl, rfl⟩ rfl rfl rfl rfl rfl (by kernel_rfl) Try.func4 (by kernel_rfl)
    (of_decide_eq_true (by kernel_rfl)) (by unfold Func.isWrapper; first | (rw [if_pos (by decide +kernel)]; kernel_rfl) | (rw [if_neg (by decide +kernel)]; exact ⟨rfl, rfl⟩))
    (fun os started H enc _ => lifted os started H enc)

theorem proved : Rows.TraceLastSaid :=
  over
end Go.Proofs.Ytmmlbdiifpdphaa.traceLast
namespace Go.Proofs.Ytmmlbdiifpdphaa
theorem traceLast_holds : Rows.TraceLastSaid := traceLast.proved
#print axioms traceLast_holds
end Go.Proofs.Ytmmlbdiifpdphaa
