/- For every list l of numbers, i and n the law BufApart of layer 4 returns true: words that come out, or were handed in, spoilt, change nothing; a buffer that is none has nothing. No condition. -/
import Derived.Test.YtgmpadbeoenfaaaBufLaw
import Derived.Test.YtgmpadbeoenfaaaFrame
import Derived.Test.YtgmpadbeoenfaaaRows
namespace Go.Proofs.Ytgmpadbeoenfaaa.bufApart
open Go.ChangeShapes Go.WideShapes Go.ChangeAt Go.RowKit
set_option linter.unusedVariables false

theorem own : ownKnob Try.prog.godebug = none := by kernel_rfl
theorem laidOut : laidOutB Try.prog = true := by kernel_rfl
theorem readable : ∀ t ∈ Try.f6.params.toList, Try.prog.readableRec t = true ∧ t < Try.prog.types.size := by
  rw [Try.params6]
  simp only [List.mem_cons, List.not_mem_nil, or_false, forall_eq_or_imp, forall_eq]
  refine ⟨⟨by kernel_rfl, of_decide_eq_true (by kernel_rfl)⟩, ⟨by kernel_rfl, of_decide_eq_true (by kernel_rfl)⟩, ⟨by kernel_rfl, of_decide_eq_true (by kernel_rfl)⟩⟩

set_option maxHeartbeats 20000000 in
set_option maxRecDepth 100000 in
theorem walk (w : World) (v0 : Value) (l0 : List Int) (s0 : View w .i64 v0 l0) (x0 : ∀ x ∈ l0, I64 x) (n0 : l0.length ≤ 17592186044416) (a1 : Int) (w1 : (Lit.int .u8 a1).wf = true) (a2 : Int) (w2 : (Lit.int .i64 a2).wf = true) :
    Calls Try.prog 6 #[v0, .int .u8 a1, .int .i64 a2] w fun e w' => e = .returned (.bool true) ∧ But Nowhere w w' := by
  obtain ⟨u0, u1⟩ := u8_in w1
  clear w1 w2
  have S0 : Hid (View w .i64 v0 l0) := s0
  obtain ⟨ao, cap, rfl⟩ := s0.slice
  clear s0
  by_cases hl : l0.length ≤ 40 ∧ 0 < l0.length
  · obtain ⟨hl, hpos⟩ := hl
    have hgt : decide (40 < (l0.length : Int)) = false := by simp; omega
    have hz : ((l0.length : Int) == 0) = false := by simp; intro e; subst e; simp at hpos
    have hne : l0 ≠ [] := by intro e; subst e; simp at hpos
    go_enter Try.func6, Try.ntmps6
    go_wp2_with fail
    go_loopw [7, 8] (fun s i W => ∃ (k : Nat), k ≤ l0.length ∧ i = .int .i64 k ∧ Copied w W 35 s (l0.take k)) (fun _ i _ => l0.length - (intOf i).toNat)
    case atStart => exact ⟨0, Nat.zero_le _, rfl, World.ownsRow_nil _ _ _ _, by simp [Value.ownBlock], But.refl _ _⟩
    case round =>
      obtain ⟨k, hk, rfl, C⟩ := hrel
      by_cases hlt : k < l0.length
      · obtain ⟨-, sb, off, rfl, hsb, hsc⟩ := (S0.out.but C.2.2).at k hlt
        have i0 : (0 : Int) ≤ (k : Int) := by omega
        have i1 : (k : Int) < (l0.length : Int) := by omega
        go_wp2_with fail
        refine (of_any _ _).mono ?_
        rintro e w3 ⟨rfl, b3⟩
        obtain ⟨s', w4, hrun, C4⟩ := push_sec l0[k] (C.but b3) (by simp; omega)
        rw [← List.take_succ_eq_append_getElem hlt] at C4
        have HC : Hid (Copied w w4 35 s' (l0.take (k + 1))) := C4
        clear C4 C b3 hsc
        go_wp2_with (at_builtin; refine wpList_append_run rfl _ _ _ rfl _ _ (by rfl) (by rfl) _ _ hrun ?_)
        go_roundw
        case rel => exact ⟨k + 1, by omega, by go_num, HC.out⟩
        case measure => simp [intOf]; omega
      · obtain rfl : k = l0.length := by omega
        rw [List.take_of_length_le (Nat.le_refl _)] at C
        obtain ⟨gs, sc, rfl, hgs, hgn, hcs⟩ := C.slot hne
        go_wp2_with fail
        refine (ofBuf_some (r := none) C.view (by omega)).mono ?_
        rintro e w5 ⟨rfl, m5⟩
        obtain ⟨J, hJ⟩ : ∃ J : Nat, a1 % (l0.length : Int) = (J : Int) := ⟨(a1 % (l0.length : Int)).toNat, by have := Int.emod_nonneg a1 (show (l0.length : Int) ≠ 0 by omega); omega⟩
        have hJ1 : (J : Int) < (l0.length : Int) := by rw [← hJ]; exact Int.emod_lt_of_pos _ (by omega)
        have hJ0 : 0 ≤ (J : Int) := by omega
        have hJ2 : J < l0.length := by omega
        have g0 := C.2.2.trans m5.but
        obtain ⟨c1, f1⟩ := hcs J hJ2
        replace f1 := m5.but.thaws (not_nowhere _) c1 f1
        replace c1 := m5.but.keeps (not_nowhere _) c1
        have bf := m5.bf
        have hb := m5.newb
        have hg := m5.newg
        have nb : wr.heap.size + 1 ≠ gs := by omega
        have ng : wr.heap.size ≠ gs := by omega
        clear hcs C m5
        go_wp2_with fail
        have hw1 : IntKind.i64.wrap a1 = a1 := by rw [wrap_i64_eq]; exact w64 _ (by omega)
        have hw2 : a1.tmod (l0.length : Int) = (J : Int) := by rw [Int.tmod_eq_emod_of_nonneg u0]; exact hJ
        have hw3 : IntKind.i64.wrap (J : Int) = J := by rw [wrap_i64_eq]; exact w64 _ (by omega)
        have hne0 : ¬ (l0.length : Int) = 0 := by omega
        go_region_held3 (fun u => Wrt w5 Nowhere ⟨gs, J, none⟩ u ∧ u.cell? ⟨gs, J, none⟩ = some (held u ⟨gs, J, none⟩) ∧ u.frozen? ⟨gs, J, none⟩ = false)
          ((go_split_ands; refine and_of (fun hq => ⟨hq.held, hq.thaw⟩) ?_; first | assumption | exact Wrt.start c1 f1 | (refine Wrt.call ?_ hb3 (fun _ f => f) (not_nowhere _); assumption) | (refine Wrt.store ?_ _; assumption)))
          ((go_at_call 11; refine (of_any _ _).mono ?_; rintro e w6 ⟨rfl, hb3⟩))
        rename_i hh
        have q0 := hh.1.1
        clear hh hb3
        replace bf := bf.but q0 (fun f => f.elim (not_nowhere _) nb) (fun f => f.elim (not_nowhere _) ng)
        replace g0 := g0.step q0 (fun i hi f => f.elim id (fun e => by have : i = gs := e; omega))
        clear q0 c1 f1
        generalize w6.setCell ⟨gs, J, none⟩ (.int .i64 a2) = W6 at *
        go_wp2_with fail
        refine (words_some bf).mono ?_
        rintro e w7 ⟨k7, rfl, r7, n7, b7⟩
        have hw6 := g0.size
        replace g0 := g0.trans b7
        have hnb : wr.heap.size + 1 ≠ k7 := by have := bf.lt; omega
        have hng : wr.heap.size ≠ k7 := by have := bf.row.lt; omega
        replace bf := bf.but b7 (not_nowhere _) (not_nowhere _)
        have c1 := r7.cell J hJ2
        have f1 := r7.frozen J
        have hk7 : w.heap.size ≤ k7 := by omega
        clear r7 b7 n7
        go_wp2_with fail
        go_region_held3 (fun u => Wrt w7 Nowhere ⟨k7, J, none⟩ u ∧ u.cell? ⟨k7, J, none⟩ = some (held u ⟨k7, J, none⟩) ∧ u.frozen? ⟨k7, J, none⟩ = false)
          ((go_split_ands; refine and_of (fun hq => ⟨hq.held, hq.thaw⟩) ?_; first | assumption | exact Wrt.start c1 f1 | (refine Wrt.call ?_ hb3 (fun _ f => f) (not_nowhere _); assumption) | (refine Wrt.store ?_ _; assumption)))
          ((go_at_call 11; refine (of_any _ _).mono ?_; rintro e w8 ⟨rfl, hb3⟩))
        rename_i hh
        have q0 := hh.1.1
        clear hh hb3
        replace bf := bf.but q0 (fun f => f.elim (not_nowhere _) hnb) (fun f => f.elim (not_nowhere _) hng)
        replace g0 := g0.step q0 (fun i hi f => f.elim id (fun e => by have : i = k7 := e; omega))
        clear q0 c1 f1
        generalize w8.setCell ⟨k7, J, none⟩ (.int .i64 a2) = W8 at *
        go_wp2_with fail
        refine (openB_nil bf (by omega)).mono ?_
        rintro e w9 ⟨k9, rfl, r9, n9, b9⟩
        replace g0 := g0.trans b9
        clear bf b9 n9
        go_wp2_with fail
        go_loopw [12] (fun i W => ∃ k : Nat, k ≤ l0.length ∧ i = .int .i64 k ∧ But Nowhere w9 W) (fun i _ => l0.length - (intOf i).toNat)
        case atStart => exact ⟨0, Nat.zero_le _, rfl, But.refl _ _⟩
        case round =>
          obtain ⟨k, hk, rfl, B⟩ := hrel
          by_cases hlt : k < l0.length
          · have c1 := (r9.but B (not_nowhere _)).cell k hlt
            obtain ⟨-, sb, off, rfl, -, c2⟩ := (S0.out.but (g0.trans B)).at k hlt
            have i0 : (0 : Int) ≤ (k : Int) := by omega
            have i1 : (k : Int) < (l0.length : Int) := by omega
            go_wp2_with fail
            go_quiet (fail)
            go_wp2_with fail
            go_roundw
            case rel => exact ⟨k + 1, by omega, by go_num, B.drewN _⟩
            case measure => simp [intOf]; omega
          · have i1 : ¬ (k : Int) < (l0.length : Int) := by omega
            replace g0 := g0.trans B
            clear B r9 hw1 hw2 hw3
            go_wp2_with fail
            refine (of_any _ _).mono ?_
            rintro e w10 ⟨rfl, hb⟩
            replace g0 := g0.trans hb
            clear hb
            go_wp2_with fail
            refine (set_none _ _ _).mono ?_
            rintro e w11 ⟨rfl, hb⟩
            replace g0 := g0.trans hb
            clear hb
            go_wp2_with fail
            refine (get_none _ _).mono ?_
            rintro e w12 ⟨rfl, hb⟩
            replace g0 := g0.trans hb
            clear hb
            have kX : (w12.alloc (.cells #[.int .i64 0] 35)).cell? ⟨w12.heap.size, 0, none⟩ = some (.int .i64 0) := by go_simp
            replace g0 := g0.alloc (.cells #[.int .i64 0] 35)
            go_wp2_with (first | (go_at_call 8; refine (known_any _).mono ?_; rintro e w' ⟨rfl, hb⟩; replace g0 := g0.trans hb; replace kX := hb.keeps (not_nowhere _) kX; clear hb) | (go_at_call 17; refine (len_none _).mono ?_; rintro e w' ⟨rfl, rfl⟩) | (go_at_call 15; refine (tell_none _ _).mono ?_; rintro e w' ⟨rfl, hb⟩; replace g0 := g0.trans hb; clear hb) | (go_at_call 16; refine (words_none _).mono ?_; rintro e w' ⟨kk, rfl, hb⟩; replace g0 := g0.trans hb; clear hb) | (go_at_call 23; refine (openB_none _).mono ?_; rintro e w' ⟨kk, rfl, hb⟩; replace g0 := g0.trans hb; clear hb))
            go_ret
            exact ⟨rfl, g0⟩
  · go_enter Try.func6, Try.ntmps6
    rcases (show decide (40 < (l0.length : Int)) = true ∨ (decide (40 < (l0.length : Int)) = false ∧ ((l0.length : Int) == 0) = true) by
      rcases Nat.lt_or_ge 40 l0.length with h | h
      · exact .inl (by simp; omega)
      · exact .inr ⟨by simp; omega, by rw [show l0.length = 0 by omega]; rfl⟩) with h1 | ⟨h1, h2⟩
    all_goals
      clear hl
      go_wp2_with (go_at_call 8; refine (known_any _).mono ?_; rintro e w' ⟨rfl, hb⟩)
      go_ret
      exact ⟨rfl, hb⟩

set_option maxRecDepth 100000 in
theorem lifted (os : Os) (started : os.Started) (H : Type) (enc : TypeId × Value → H) :
    ReturnsInHanded {} Try.checked os 6 .any (Rows.bufApartSpec.pre6 enc Try.prog Try.f6 Rows.bufApartRow.domain false) (Rows.bufApartSpec.post enc Try.prog Try.f6 false true false false) := by
  refine returnsInHanded_of_change_sized (C := Try.checked) own started (by kernel_rfl) Try.func6
    (ChangeSpec.witness6 (enc := enc) (C := Try.checked) false ⟨#[], #[.slice none 0 0, .int .u8 0, .int .i64 0], []⟩ 8 (by kernel_rfl) (by kernel_rfl) (by kernel_rfl) (by kernel_rfl)) ?_
  intro W base args ds gs before hval0 hW hcnd hsz0 _
  have hval : ∀ (j : Nat) t v, Try.f6.params[j]? = some t → args[j]? = some v → Value.okWide Try.prog W .any base t v := hval0
  have hsz : (DataW.weightsEach Try.prog (Try.f6.params.toList ++ Rows.bufApartSpec.plain.varTypes Try.prog) (ds ++ gs)).all (· ≤ reachBytes) = true := hsz0
  have hW' := hW
  obtain ⟨p, q, hA0, hV, rfl, hfz, hnd⟩ := hW
  have hA : DataW.TrodAll enc Try.prog W 0 (fun _ => true) true Try.f6.params.toList args.toList ds p := hA0
  rw [Try.params6] at hA hval hsz
  obtain ⟨v0, vs0, d0, ds0, p0, q0, hargs, rfl, rfl, h0, r0⟩ := trodAll_cons hA
  obtain ⟨v1, vs1, d1, ds1, p1, q1, rfl, rfl, rfl, h1, r1⟩ := trodAll_cons r0
  obtain ⟨v2, vs2, d2, ds2, p2, q2, rfl, rfl, rfl, h2, r2⟩ := trodAll_cons r1
  obtain ⟨rfl, rfl, rfl⟩ := trodAll_nil r2
  obtain rfl : args = #[v0, v1, v2] := by cases args; simp_all
  obtain ⟨rfl, rfl⟩ := trodVars_none hV
  obtain ⟨l0, ⟨s0, x0⟩, e0⟩ := open_ints (hval 0 22 v0 rfl rfl) h0
  have n0 := ints_small hsz (j := 0) rfl rfl e0
  obtain ⟨a1, rfl, rfl, rfl, w1⟩ := open_int Try.underlying5 (hval 1 5 v1 rfl rfl) h1
  obtain ⟨a2, rfl, rfl, rfl, w2⟩ := open_int Try.underlying3 (hval 2 3 v2 rfl rfl) h2
  clear hA0 hval0
  refine (walk W v0 l0 s0 x0 n0 a1 w1 a2 w2).mono fun e W' ⟨he, hg⟩ => ?_
  subst he
  exact ⟨_, rfl, law_post laidOut readable rfl Try.underlying4 rfl rfl hW' hg.below⟩

theorem over : Rows.bufApartRow.holds Try.pinned (OpenSpec.ofChange Rows.bufApartSpec) :=
  OpenClaim.holds_of_wide 6 Try.f6 rfl rfl rfl rfl rfl rfl rfl ⟨rfl, rfl, rfl, rfl, rfl⟩ rfl rfl rfl rfl rfl (by kernel_rfl) Try.func6 (by kernel_rfl)
    (of_decide_eq_true (by kernel_rfl)) (by unfold Func.isWrapper; first | (rw [if_pos (by decide +kernel)]; kernel_rfl) | (rw [if_neg (by decide +kernel)]; exact ⟨rfl, rfl⟩))
    (fun os started H enc _ => lifted os started H enc)

theorem proved : Rows.BufApartSaid :=
  over
end Go.Proofs.Ytgmpadbeoenfaaa.bufApart
namespace Go.Proofs.Ytgmpadbeoenfaaa
theorem bufApart_holds : Rows.BufApartSaid := bufApart.proved
#print axioms bufApart_holds
end Go.Proofs.Ytgmpadbeoenfaaa
