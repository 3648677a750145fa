/- For all lists a and b of things the law TraceCounts of layer 2 returns true: events are of three kinds; behind more of them the first ones are as they were. No condition. -/
import Derived.Test.YtmmlbdiifpdphaaLay
import Derived.Test.YtmmlbdiifpdphaaKnown
import Derived.Test.YtmmlbdiifpdphaaFrame
import Derived.Test.YtmmlbdiifpdphaaRows
namespace Go.Proofs.Ytmmlbdiifpdphaa.traceCounts
open Go.ChangeShapes Go.WideShapes Go.ChangeAt Go.RowKit
set_option linter.unusedVariables false

theorem own : ownKnob Try.prog.godebug = none := by kernel_rfl
theorem laidOut : laidOutB Try.prog = true := by kernel_rfl
theorem readable : ∀ t ∈ Try.f6.params.toList, Try.prog.readableRec t = true ∧ t < Try.prog.types.size := by
  rw [Try.params6]
  simp only [List.mem_cons, List.not_mem_nil, or_false, forall_eq_or_imp, forall_eq]
  refine ⟨⟨by kernel_rfl, of_decide_eq_true (by kernel_rfl)⟩, ⟨by kernel_rfl, of_decide_eq_true (by kernel_rfl)⟩⟩

set_option maxHeartbeats 2000000 in
set_option maxRecDepth 100000 in
theorem walk (w : World) (v0 : Value) (l0 : List Ev) (s0 : Seens w v0 l0) (n0 : l0.length ≤ 8796093022208) (v1 : Value) (l1 : List Ev) (s1 : Seens w v1 l1) (n1 : l1.length ≤ 8796093022208) :
    Calls Try.prog 6 #[v0, v1] w fun e w' => e = .returned (.bool true) ∧ But Nowhere w w' := by
  have S0 : Hid (Seens w v0 l0) := s0
  have S1 : Hid (Seens w v1 l1) := s1
  obtain ⟨ao, cap, rfl, -⟩ := s0
  obtain ⟨ao', cap', rfl, hcells⟩ := s1
  have HC : Hid _ := hcells
  clear hcells
  by_cases hl : l0.length + l1.length ≤ 100
  · have hgt : decide (100 < (l0.length : Int) + (l1.length : Int)) = false := by simp; omega
    go_enter Try.func6, Try.ntmps6
    go_wp2_with fail
    refine (layAll_any _ l0 _ S0.out (by omega)).mono ?_
    rintro e w2 ⟨b2, u2, x2, rfl, h2, -, -⟩
    clear S0 S1
    have hm : (l0.map evOf).length ≤ 100 := by simp; omega
    go_wp2_with fail
    refine (events_some _ _ _ _ h2.rcd (by omega)).mono ?_
    rintro e w3 ⟨y, rfl, hf⟩
    obtain ⟨h3, k3, a3⟩ := Lays.fresh h2 hf
    clear h2 hf
    go_wp2_with fail
    go_loopw [8] (fun i W => ∃ (k : Nat) (u : Value), k ≤ l1.length ∧ i = .int .i64 k ∧ Own w W b2 u (l0.map evOf ++ (l1.take k).map brOf) ∧ Evs W y (l0.map evOf) ∧ ∀ k, y.ownBlock = some k → w.heap.size ≤ k ∧ ¬ Foot b2 u k) (fun i _ => l1.length - (intOf i).toNat)
    case atStart => exact ⟨0, u2, Nat.zero_le _, rfl, by simpa using h3, k3, a3⟩
    case round =>
      obtain ⟨k, u, hk, rfl, ho, hx, ha⟩ := hrel
      clear h3 k3 a3
      by_cases hlt : k < l1.length
      · obtain ⟨b, off, hao, hb, hc⟩ := HC.out (by intro e; subst e; simp at hlt)
        subst hao
        clear HC
        obtain ⟨c0, c1, q0, q1⟩ := hc k hlt
        clear hc
        have c3 := (ho.but.cell (p := ⟨b, off + k * 2 + 1, none⟩) hb (fun f => f)).trans c1
        have HE : Hid (l0.map evOf ++ (l1.take (k + 1)).map brOf = (l0.map evOf ++ (l1.take k).map brOf) ++ [(2, l1[k].2)]) := by
          show _ = _
          rw [brs_take l1 k hlt, List.append_assoc]
        go_wp2_with fail
        refine (br_some _ _ _ _ _ ho.rcd (by simp; omega)).mono ?_
        rintro e W2 ⟨rfl, hl2⟩
        obtain ⟨u3, ho3, hx3, ha3⟩ := Lays.laid ho hx ha hl2
        rw [← HE.out] at ho3
        clear hl2 ho hx ha
        go_wp2_with fail
        go_roundw
        case rel => exact ⟨k + 1, u3, by omega, by go_num, ho3, hx3, ha3⟩
        case measure => simp [intOf]; omega
      · rw [List.take_of_length_le (by omega)] at ho
        clear HC ha
        have hK := Kinds.sum _ ((kinds_ev l0).append (kinds_br l1))
        have hn0 : ((l0.map evOf).length : Int) = (l0.length : Int) := by simp
        have hn1 : ((l0.map evOf ++ l1.map brOf).length : Int) = (l0.length : Int) + (l1.length : Int) := by simp
        have hms : (l0.map evOf ++ l1.map brOf).length ≤ 100 := by simp; omega
        have hat : ∀ i (hi : i < (l0.map evOf).length), ∃ (hj : i < (l0.map evOf ++ l1.map brOf).length), (l0.map evOf)[i] = (l0.map evOf ++ l1.map brOf)[i] := fun i hi => ⟨by rw [List.length_append]; omega, (List.getElem_append_left hi).symm⟩
        generalize hes : l0.map evOf = es at *
        generalize hmm : es ++ l1.map brOf = ms at *
        clear hes hmm
        have t0 : ((ms.length : Int) != (l0.length : Int) + (l1.length : Int)) = false := by simp; omega
        have t1 : ((es.length : Int) != (l0.length : Int)) = false := by simp; omega
        obtain ⟨hK1, hK2, hK3⟩ := hK
        have t2 : (cnt 1 ms + cnt 2 ms + cnt 3 ms == (ms.length : Int)) = true := by rw [hK1]; simp
        have r1 := cnt_le 1 ms
        have r2 := cnt_le 2 ms
        have r3 := cnt_le 3 ms
        obtain ⟨r10, r11⟩ := r1
        obtain ⟨r20, r21⟩ := r2
        obtain ⟨r30, r31⟩ := r3
        have HN : Hid _ := And.intro hn0 hn1
        clear hK1 hn0 hn1
        have HA : Hid _ := hat
        clear hat
        go_wp2_with fail
        refine (events_some _ _ _ _ ho.rcd (by omega)).mono ?_
        rintro e w5 ⟨z, rfl, hz, -, b5⟩
        have h5 := ho.step b5
        have k5 := b5.owns hx (fun _ _ f => f)
        clear ho hx b5
        obtain ⟨ay, cy, rfl, hy1, hyc⟩ := Evs.one k5
        obtain ⟨az, cz, rfl, hz1, hzc⟩ := Evs.one hz
        unfold maxLen at hy1 hz1
        go_wp2_with fail
        go_loopw [10] (fun i W => ∃ n : Nat, n ≤ es.length ∧ i = .int .i64 n ∧ ∃ q, W = w5.drewN q) (fun i _ => es.length - (intOf i).toNat)
        case atStart => exact ⟨0, Nat.zero_le _, rfl, 0, rfl⟩
        case round =>
          obtain ⟨n, hn, rfl, q, rfl⟩ := hrel
          by_cases hlt2 : n < es.length
          · obtain ⟨hj, hee⟩ := HA.out n hlt2
            obtain ⟨g, hg, d0, d1⟩ := hyc n hlt2
            obtain ⟨g', hg', f0, f1⟩ := hzc n hj
            subst hg hg'
            have heq := equalIn_yes es[n] ms[n] hee
            have hgd := Try.guardEv
            have i0 : (0 : Int) ≤ (n : Int) := by omega
            have i1 : (n : Int) < (es.length : Int) := by omega
            have i2 : (n : Int) < (ms.length : Int) := by omega
            clear hee
            go_wp2_with fail
            go_quiet (fail)
            go_wp2_with fail
            go_roundw
            case rel => exact ⟨n + 1, by omega, by go_num, _, rfl⟩
            case measure => simp [intOf]; omega
          · have h6 := h5.step ((But.refl Nowhere w5).drewN q)
            clear h5
            go_wp2_with fail
            refine (known_any _).mono ?_
            rintro e w7 ⟨rfl, b7⟩
            have h7 := h6.step b7
            clear h6 b7
            go_wp2_with fail
            refine (count_some _ _ _ _ _ h7.rcd (by omega)).mono ?_
            rintro e w8 ⟨rfl, b8⟩
            have h8 := h7.step b8
            clear h7 b8
            go_wp2_with fail
            refine (count_some _ _ _ _ _ h8.rcd (by omega)).mono ?_
            rintro e w9 ⟨rfl, b9⟩
            have h9 := h8.step b9
            clear h8 b9
            go_wp2_with fail
            refine (count_some _ _ _ _ _ h9.rcd (by omega)).mono ?_
            rintro e w10 ⟨rfl, b10⟩
            have h10 := h9.step b10
            clear h9 b10
            go_wp2_with fail
            refine (count_some _ _ _ _ _ h10.rcd (by omega)).mono ?_
            rintro e w11 ⟨rfl, b11⟩
            have h11 := h10.step b11
            clear h10 b11
            go_wp2_with fail
            refine (count_some _ _ _ _ _ h11.rcd (by omega)).mono ?_
            rintro e w12 ⟨rfl, b12⟩
            have h12 := h11.step b12
            go_wp2_with fail
            go_ret
            exact ⟨rfl, h12.but⟩
  · have hgt : decide (100 < (l0.length : Int) + (l1.length : Int)) = true := by simp; omega
    clear S0 S1 HC
    go_enter Try.func6, Try.ntmps6
    go_wp2_with fail
    refine (known_any _).mono ?_
    rintro e w1 ⟨rfl, b1⟩
    go_wp2_with fail
    go_ret
    exact ⟨rfl, b1⟩

set_option maxRecDepth 100000 in
theorem lifted (os : Os) (started : os.Started) (H : Type) (enc : TypeId × Value → H) :
    ReturnsInHanded {} Try.checked os 6 .any (Rows.traceCountsSpec.pre6 enc Try.prog Try.f6 Rows.traceCountsRow.domain false) (Rows.traceCountsSpec.post enc Try.prog Try.f6 false true false false) := by
  refine returnsInHanded_of_change_sized (C := Try.checked) own started (by kernel_rfl) Try.func6
    (ChangeSpec.witness6 (enc := enc) (C := Try.checked) false ⟨#[], #[.slice none 0 0, .slice none 0 0], []⟩ 8 (by kernel_rfl) (by kernel_rfl) (by kernel_rfl) (by kernel_rfl)) ?_
  intro W base args ds gs before hval0 hW hcnd hsz0 _
  have hval : ∀ (j : Nat) t v, Try.f6.params[j]? = some t → args[j]? = some v → Value.okWide Try.prog W .any base t v := hval0
  have hsz : (DataW.weightsEach Try.prog (Try.f6.params.toList ++ Rows.traceCountsSpec.plain.varTypes Try.prog) (ds ++ gs)).all (· ≤ reachBytes) = true := hsz0
  have hW' := hW
  obtain ⟨p, q, hA0, hV, rfl, hfz, hnd⟩ := hW
  have hA : DataW.TrodAll enc Try.prog W 0 (fun _ => true) true Try.f6.params.toList args.toList ds p := hA0
  rw [Try.params6] at hA hval hsz
  obtain ⟨v0, vs0, d0, ds0, p0, q0, hargs, rfl, rfl, h0, r0⟩ := trodAll_cons hA
  obtain ⟨v1, vs1, d1, ds1, p1, q1, rfl, rfl, rfl, h1, r1⟩ := trodAll_cons r0
  obtain ⟨rfl, rfl, rfl⟩ := trodAll_nil r1
  obtain rfl : args = #[v0, v1] := by cases args; simp_all
  obtain ⟨rfl, rfl⟩ := trodVars_none hV
  obtain ⟨l0, s0, e0⟩ := open_seens (hval 0 22 v0 rfl rfl) h0
  have n0 := seens_small hsz (j := 0) rfl rfl e0
  obtain ⟨l1, s1, e1⟩ := open_seens (hval 1 22 v1 rfl rfl) h1
  have n1 := seens_small hsz (j := 1) rfl rfl e1
  clear hA0 hval0
  refine (walk W v0 l0 s0 n0 v1 l1 s1 n1).mono fun e W' ⟨he, hg⟩ => ?_
  subst he
  exact ⟨_, rfl, law_post laidOut readable rfl Try.underlying4 rfl rfl hW' hg.below⟩

theorem over : Rows.traceCountsRow.holds Try.pinned (OpenSpec.ofChange Rows.traceCountsSpec) :=
  OpenClaim.holds_of_wide 6 Try.f6 rfl rfl rfl rfl rfl rfl rfl ⟨rfl, rfl, rfl, rfl, rfl⟩ rfl rfl rfl rfl rfl (by kernel_rfl) Try.func6 (by kernel_rfl)
    (of_decide_eq_true (by kernel_rfl)) (by unfold Func.isWrapper; first | (rw [if_pos (by decide +kernel)]; kernel_rfl) | (rw [if_neg (by decide +kernel)]; exact ⟨rfl, rfl⟩))
    (fun os started H enc _ => lifted os started H enc)

theorem proved : Rows.TraceCountsSaid :=
  over
end Go.Proofs.Ytmmlbdiifpdphaa.traceCounts
namespace Go.Proofs.Ytmmlbdiifpdphaa
theorem traceCounts_holds : Rows.TraceCountsSaid := traceCounts.proved
#print axioms traceCounts_holds
end Go.Proofs.Ytmmlbdiifpdphaa
